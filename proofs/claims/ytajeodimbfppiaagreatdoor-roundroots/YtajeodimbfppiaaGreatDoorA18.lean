/- Own work: contracts of the program's functions, part 18: SD2 SB4 SB5 SA9 SB6 SB7 SD3. -/
import Derived.Test.YtajeodimbfppiaaGreatDoorA17
import Derived.Test.YtajeodimbfppiaaGreatDoorA9
import Derived.Test.YtajeodimbfppiaaGreatDoorA10
import Derived.Test.YtajeodimbfppiaaGreatDoorA4
import Derived.Test.YtajeodimbfppiaaGreatDoorA12

/- Hypot of floats, on both sides. -/
namespace Go.Proofs.YtajeodimbfppiaaGreatDoor
set_option linter.unusedVariables false
set_option linter.unusedSimpArgs false
open Go.RowKit Go.Fl64

theorem pinf (a : Nat) (ha : a < 18446744073709551616) (w : World) : Calls Tryz.prog 62 #[.float .f64 a, .int .i64 0] w fun r w' => r = .returned (.bool (Ie.isInf a)) ∧ w' = w := by
  have := c123 a ha w
  rw [show lt 9218868437227405311 (mag a) = Ie.isInf a by
    rw [inf_dec]
    unfold lt
    have h0 := mag_lt a
    have e1 : stp 9218868437227405311 = 9218868437227405311 := by decide
    have e2 : stp (mag a) = mag a := by unfold stp sgn neg; rw [decide_eq_false (by omega)]; unfold mag; simp
    have e3 : isNaN 9218868437227405311 = false := by decide
    have e4 : isNaN (mag a) = decide (9218868437227405312 < mag a) := by unfold isNaN; congr 2; unfold mag; omega
    rw [e1, e2, e3, e4]
    by_cases h1 : 9218868437227405312 < mag a
    · rw [decide_eq_true h1, decide_eq_false (show ¬ mag a = 9218868437227405312 by omega)]; simp
    · rw [decide_eq_false h1]
      by_cases h2 : mag a = 9218868437227405312
      · rw [decide_eq_true h2, decide_eq_true (show (9218868437227405311 : Int) < (mag a : Int) by omega)]; rfl
      · rw [decide_eq_false h2, decide_eq_false (show ¬ (9218868437227405311 : Int) < (mag a : Int) by omega)]; rfl] at this
  exact this
theorem phyp_no (a b : Nat) (m : Int) (w : World) (hm : isM m = false) : Calls Tryz.prog 23 #[.float .f64 a, .float .f64 b, .int .i64 m] w fun r w' => r = .returned (.float .f64 9221120237041090561) ∧ Below w.heap.size w w' := by
  have kV := pvalid m w
  rw [hm] at kV
  go_enter Tryz.func23, Tryz.ntmps23
  go_wp2_with fail
  refine kV.mono ?_
  rintro r w' ⟨rfl, hw⟩
  rw [hw]
  clear hw kV w'
  have kN := Ie.c52 w
  go_wp2_with fail
  refine kN.mono ?_
  rintro r w' ⟨rfl, hw⟩
  rw [hw]
  clear hw kN w'
  go_wp2_with fail
  go_ret
  exact ⟨rfl, Below.refl _ _⟩
theorem phyp_inf (a b : Nat) (m : Int) (ia ib : Bool) (w : World) (hm : isM m = true) (hi : (ia || ib) = true)
    (ka : ∀ W, Calls Tryz.prog 62 #[.float .f64 a, .int .i64 0] W fun r w' => r = .returned (.bool ia) ∧ w' = W) (kb : ∀ W, Calls Tryz.prog 62 #[.float .f64 b, .int .i64 0] W fun r w' => r = .returned (.bool ib) ∧ w' = W) :
    Calls Tryz.prog 23 #[.float .f64 a, .float .f64 b, .int .i64 m] w fun r w' => r = .returned (.float .f64 9218868437227405312) ∧ Below w.heap.size w w' := by
  have kV := pvalid m w
  rw [hm] at kV
  have kA := ka w
  have kB := kb w
  have kI := c61 w
  clear ka kb
  cases ia
  · simp only [Bool.false_or] at hi
    subst hi
    go_enter Tryz.func23, Tryz.ntmps23
    go_wp2_with fail
    refine kV.mono ?_
    rintro r w' ⟨rfl, hw⟩
    rw [hw]
    clear hw kV w'
    go_wp2_with fail
    refine kA.mono ?_
    rintro r w' ⟨rfl, hw⟩
    rw [hw]
    clear hw kA w'
    go_wp2_with fail
    refine kB.mono ?_
    rintro r w' ⟨rfl, hw⟩
    rw [hw]
    clear hw kB w'
    go_wp2_with fail
    refine kI.mono ?_
    rintro r w' ⟨rfl, hw⟩
    rw [hw]
    clear hw kI w'
    go_wp2_with fail
    go_ret
    exact ⟨rfl, Below.refl _ _⟩
  · clear hi
    go_enter Tryz.func23, Tryz.ntmps23
    go_wp2_with fail
    refine kV.mono ?_
    rintro r w' ⟨rfl, hw⟩
    rw [hw]
    clear hw kV w'
    go_wp2_with fail
    refine kA.mono ?_
    rintro r w' ⟨rfl, hw⟩
    rw [hw]
    clear hw kA w'
    go_wp2_with fail
    refine kI.mono ?_
    rintro r w' ⟨rfl, hw⟩
    rw [hw]
    clear hw kI w'
    go_wp2_with fail
    go_ret
    exact ⟨rfl, Below.refl _ _⟩
theorem phyp_na (a b : Nat) (m : Int) (w : World) (hm : isM m = true)
    (ka : ∀ W, Calls Tryz.prog 62 #[.float .f64 a, .int .i64 0] W fun r w' => r = .returned (.bool false) ∧ w' = W) (kb : ∀ W, Calls Tryz.prog 62 #[.float .f64 b, .int .i64 0] W fun r w' => r = .returned (.bool false) ∧ w' = W)
    (hfa : ∀ W, Calls Tryz.prog 39 #[.float .f64 a] W fun r w' => r = .returned (.bool false) ∧ w' = W.drew) :
    Calls Tryz.prog 23 #[.float .f64 a, .float .f64 b, .int .i64 m] w fun r w' => r = .returned (.float .f64 9221120237041090561) ∧ Below w.heap.size w w' := by
  have kV := pvalid m w
  rw [hm] at kV
  have kA := ka w
  have kB := kb w
  have kF := hfa w
  have kN := Ie.c52 w.drew
  have HB : Hid (Below w.heap.size w w.drew) := (Below.refl _ _).drew
  clear ka kb hfa
  go_enter Tryz.func23, Tryz.ntmps23
  go_wp2_with fail
  refine kV.mono ?_
  rintro r w' ⟨rfl, hw⟩
  rw [hw]
  clear hw kV w'
  go_wp2_with fail
  refine kA.mono ?_
  rintro r w' ⟨rfl, hw⟩
  rw [hw]
  clear hw kA w'
  go_wp2_with fail
  refine kB.mono ?_
  rintro r w' ⟨rfl, hw⟩
  rw [hw]
  clear hw kB w'
  go_wp2_with fail
  refine kF.mono ?_
  rintro r w' ⟨rfl, hw⟩
  rw [hw]
  clear hw kF w'
  go_wp2_with fail
  refine kN.mono ?_
  rintro r w' ⟨rfl, hw⟩
  rw [hw]
  clear hw kN w'
  go_wp2_with fail
  go_ret
  exact ⟨rfl, HB.out⟩
theorem phyp_nb (a b : Nat) (m : Int) (w : World) (hm : isM m = true)
    (ka : ∀ W, Calls Tryz.prog 62 #[.float .f64 a, .int .i64 0] W fun r w' => r = .returned (.bool false) ∧ w' = W) (kb : ∀ W, Calls Tryz.prog 62 #[.float .f64 b, .int .i64 0] W fun r w' => r = .returned (.bool false) ∧ w' = W)
    (hfa : ∀ W, Calls Tryz.prog 39 #[.float .f64 a] W fun r w' => r = .returned (.bool true) ∧ w' = W) (hfb : ∀ W, Calls Tryz.prog 39 #[.float .f64 b] W fun r w' => r = .returned (.bool false) ∧ w' = W.drew) :
    Calls Tryz.prog 23 #[.float .f64 a, .float .f64 b, .int .i64 m] w fun r w' => r = .returned (.float .f64 9221120237041090561) ∧ Below w.heap.size w w' := by
  have kV := pvalid m w
  rw [hm] at kV
  have kA := ka w
  have kB := kb w
  have kF := hfa w
  have kG := hfb w
  have kN := Ie.c52 w.drew
  have HB : Hid (Below w.heap.size w w.drew) := (Below.refl _ _).drew
  clear ka kb hfa hfb
  go_enter Tryz.func23, Tryz.ntmps23
  go_wp2_with fail
  refine kV.mono ?_
  rintro r w' ⟨rfl, hw⟩
  rw [hw]
  clear hw kV w'
  go_wp2_with fail
  refine kA.mono ?_
  rintro r w' ⟨rfl, hw⟩
  rw [hw]
  clear hw kA w'
  go_wp2_with fail
  refine kB.mono ?_
  rintro r w' ⟨rfl, hw⟩
  rw [hw]
  clear hw kB w'
  go_wp2_with fail
  refine kF.mono ?_
  rintro r w' ⟨rfl, hw⟩
  rw [hw]
  clear hw kF w'
  go_wp2_with fail
  refine kG.mono ?_
  rintro r w' ⟨rfl, hw⟩
  rw [hw]
  clear hw kG w'
  go_wp2_with fail
  refine kN.mono ?_
  rintro r w' ⟨rfl, hw⟩
  rw [hw]
  clear hw kN w'
  go_wp2_with fail
  go_ret
  exact ⟨rfl, HB.out⟩

/-- what the document answers of Hypot where one is not finite -/
def hyX (a b : Nat) : Nat := if (Ie.isInf a || Ie.isInf b) = true then 9218868437227405312 else 9221120237041090560
theorem dhyp_no (a b : Nat) (m : Int) (hm : isM m = false) (w : World) : Calls Tryz.prog 24 #[.float .f64 a, .float .f64 b, .int .i64 m] w fun r w' => r = .returned (.float .f64 9221120237041090560) ∧ w' = w := by
  have kV : ∀ W, Calls Tryz.prog 15 #[.int .i64 m] W fun r w' => r = .returned (.int .i64 1) ∧ w' = W := fun W => by
    have := dvalid m W
    rw [hm] at this
    exact this
  go_enter Tryz.func24, Tryz.ntmps24
  go_wp2_with (first | (go_at_call 15; refine (kV _).mono ?_; rintro e w' ⟨rfl, hw⟩; rw [hw]; clear hw w') | (go_at_call 46; refine (Ie.dnot _).mono ?_; rintro e w' ⟨rfl, hw⟩; rw [hw]; clear hw w'))
  go_ret
  exact ⟨rfl, rfl⟩
set_option maxHeartbeats 4000000 in
set_option maxRecDepth 200000 in
theorem dhyp_non (a b : Nat) (m : Int) (ha : a < 18446744073709551616) (hb : b < 18446744073709551616) (hm : isM m = true) (h : (isNaN a || isNaN b || Ie.isInf a || Ie.isInf b) = true) (w : World) :
    Calls Tryz.prog 24 #[.float .f64 a, .float .f64 b, .int .i64 m] w fun r w' => r = .returned (.float .f64 (hyX a b)) ∧ w' = w := by
  unfold hyX
  have kV : ∀ W, Calls Tryz.prog 15 #[.int .i64 m] W fun r w' => r = .returned (.int .i64 0) ∧ w' = W := fun W => by
    have := dvalid m W
    rw [hm] at this
    exact this
  have kna := Ie.dnan a ha
  have knb := Ie.dnan b hb
  have kia := Ie.dinf a ha
  have kib := Ie.dinf b hb
  clear ha hb hm
  generalize isNaN a = na at *
  generalize isNaN b = nb at *
  generalize Ie.isInf a = ia at *
  generalize Ie.isInf b = ib at *
  cases ia <;> cases ib <;> cases na <;> cases nb
  all_goals first
    | (exfalso; revert h; decide)
    | (clear h
       go_enter Tryz.func24, Tryz.ntmps24
       go_wp2_with (first | (go_at_call 15; refine (kV _).mono ?_; rintro e w' ⟨rfl, hw⟩; rw [hw]; clear hw w') | (go_at_call 46; refine (Ie.dnot _).mono ?_; rintro e w' ⟨rfl, hw⟩; rw [hw]; clear hw w') | (go_at_call 56; refine (Ie.dendless _ _).mono ?_; rintro e w' ⟨rfl, hw⟩; rw [hw]; clear hw w') | (go_at_call 35; first | (with_reducible refine (kna _).mono ?_; rintro e w' ⟨rfl, hw⟩; rw [hw]; clear hw w') | (with_reducible refine (knb _).mono ?_; rintro e w' ⟨rfl, hw⟩; rw [hw]; clear hw w')) | (go_at_call 36; first | (with_reducible refine (kia _).mono ?_; rintro e w' ⟨rfl, hw⟩; rw [hw]; clear hw w') | (with_reducible refine (kib _).mono ?_; rintro e w' ⟨rfl, hw⟩; rw [hw]; clear hw w')))
       go_ret
       exact ⟨rfl, rfl⟩)

theorem dn_store {w : World} {A : Value} {t : Bool × Nat × Int} {g : Nat} (h : DN w A t) (hg : w.heap[g]? = some (.cells #[.bool false, .slice none 0 0, .int .i64 0] 38 (0, 0))) (a b c : Value) : DN (((w.setCell ⟨g, 0, none⟩ a).setCell ⟨g, 1, none⟩ b).setCell ⟨g, 2, none⟩ c) A t := by
  obtain ⟨ao, cap, h1, h2⟩ := h
  exact ⟨ao, cap, h1, h2.nil, at_box h2.at_ rfl hg (by simp) (by simp) (by simp) a b c, h2.le, h2.small⟩
/-- a number of the document in its box, made since a world -/
def BxD (w3 wc : World) (g : Nat) (s : Bool) (ao : Option Addr) (n cap : Nat) (ex : Int) (t : Bool × Nat × Int) : Prop := wc.heap[g]? = some (.cells #[.bool s, .slice ao n cap, .int .i64 ex] 38 (0, 0)) ∧ w3.heap.size ≤ g ∧ Below w3.heap.size w3 wc ∧ DN wc (.agg #[.bool s, .slice ao n cap, .int .i64 ex]) t
theorem BxD.new {w3 w7 : World} {s : Bool} {ao : Option Addr} {n cap : Nat} {ex : Int} {t : Bool × Nat × Int} (hn : DN w7 (.agg #[.bool s, .slice ao n cap, .int .i64 ex]) t) (hb : Below w3.heap.size w3 w7) : BxD w3 (w7.alloc (.cells #[.bool s, .slice ao n cap, .int .i64 ex] 38)) w7.heap.size s ao n cap ex t :=
  ⟨heap_alloc_new _ _, hb.size, hb.alloc hb.size _, hn.later ((Below.refl _ _).alloc (Nat.le_refl _) _)⟩
theorem BxD.put {w3 w7 : World} {g : Nat} {s : Bool} {ao : Option Addr} {n cap : Nat} {ex : Int} {t : Bool × Nat × Int} (hn : DN w7 (.agg #[.bool s, .slice ao n cap, .int .i64 ex]) t) (hb : Below w3.heap.size w3 w7) (hg : w3.heap.size ≤ g) (hbx : w7.heap[g]? = some (.cells #[.bool false, .slice none 0 0, .int .i64 0] 38 (0, 0))) :
    BxD w3 (((w7.setCell ⟨g, 0, none⟩ (.bool s)).setCell ⟨g, 1, none⟩ (.slice ao n cap)).setCell ⟨g, 2, none⟩ (.int .i64 ex)) g s ao n cap ex t :=
  ⟨store3_29 _ _ _ hbx, hg, below_store3 hb hg _ _ _, dn_store hn hbx _ _ _⟩

set_option maxHeartbeats 8000000 in
set_option maxRecDepth 200000 in
theorem dhyp_fin (a b F : Nat) (m sg : Int) (ta tb t1 t2 t3 : Bool × Nat × Int) (w : World) (hm : isM m = true) (ha : a < 18446744073709551616) (hb : b < 18446744073709551616) (hfa : mag a < 9218868437227405312) (hfb : mag b < 9218868437227405312)
    (kA : Calls Tryz.prog 28 #[.float .f64 a] w fun r w' => ∃ A, r = .returned A ∧ DN w' A ta ∧ Below w.heap.size w w')
    (kB : ∀ W, Below w.heap.size w W → Calls Tryz.prog 28 #[.float .f64 b] W fun r w' => ∃ A, r = .returned A ∧ DN w' A tb ∧ Below W.heap.size W w')
    (kM1 : ∀ W X, DN W X ta → Calls Tryz.prog 31 #[X, X] W fun r w' => ∃ A, r = .returned A ∧ DN w' A t1 ∧ Below W.heap.size W w')
    (kM2 : ∀ W X, DN W X tb → Calls Tryz.prog 31 #[X, X] W fun r w' => ∃ A, r = .returned A ∧ DN w' A t2 ∧ Below W.heap.size W w')
    (kC : ∀ W X Y, DN W X t1 → DN W Y t2 → Calls Tryz.prog 30 #[X, Y] W fun r w' => ∃ A, r = .returned A ∧ DN w' A t3 ∧ Below W.heap.size W w')
    (kS : ∀ W X, DN W X t3 → Calls Tryz.prog 64 #[X] W fun r w' => r = .returned (.int .i64 sg) ∧ Below W.heap.size W w')
    (kR : (sg == 0) = false → ∀ W X, DN W X t3 → Calls Tryz.prog 61 #[X, .int .i64 m] W fun r w' => r = .returned (.float .f64 F) ∧ Below W.heap.size W w')
    (hF : (sg == 0) = true → F = 0) :
    Calls Tryz.prog 24 #[.float .f64 a, .float .f64 b, .int .i64 m] w fun r w' => r = .returned (.float .f64 F) ∧ Below w.heap.size w w' := by
  have kV : ∀ W, Calls Tryz.prog 15 #[.int .i64 m] W fun r w' => r = .returned (.int .i64 0) ∧ w' = W := fun W => by
    have := dvalid m W
    rw [hm] at this
    exact this
  have kna := Ie.dnan a ha
  have knb := Ie.dnan b hb
  have kia := Ie.dinf a ha
  have kib := Ie.dinf b hb
  rw [nan_no (by omega)] at kna
  rw [nan_no (by omega)] at knb
  rw [Ie.isInf_not.2 (by omega)] at kia
  rw [Ie.isInf_not.2 (by omega)] at kib
  have HKB : Hid (∀ W, Below w.heap.size w W → Calls Tryz.prog 28 #[.float .f64 b] W fun r w' => ∃ A, r = .returned A ∧ DN w' A tb ∧ Below W.heap.size W w') := kB
  have HM1 : Hid (∀ W X, DN W X ta → Calls Tryz.prog 31 #[X, X] W fun r w' => ∃ A, r = .returned A ∧ DN w' A t1 ∧ Below W.heap.size W w') := kM1
  have HM2 : Hid (∀ W X, DN W X tb → Calls Tryz.prog 31 #[X, X] W fun r w' => ∃ A, r = .returned A ∧ DN w' A t2 ∧ Below W.heap.size W w') := kM2
  have HKC : Hid (∀ W X Y, DN W X t1 → DN W Y t2 → Calls Tryz.prog 30 #[X, Y] W fun r w' => ∃ A, r = .returned A ∧ DN w' A t3 ∧ Below W.heap.size W w') := kC
  have HKS : Hid (∀ W X, DN W X t3 → Calls Tryz.prog 64 #[X] W fun r w' => r = .returned (.int .i64 sg) ∧ Below W.heap.size W w') := kS
  have HKR : Hid (((sg == 0) = false → ∀ W X, DN W X t3 → Calls Tryz.prog 61 #[X, .int .i64 m] W fun r w' => r = .returned (.float .f64 F) ∧ Below W.heap.size W w') ∧ ((sg == 0) = true → F = 0)) := ⟨kR, hF⟩
  clear kB kM1 kM2 kC kS kR hF ha hb hfa hfb hm
  go_enter Tryz.func24, Tryz.ntmps24
  go_wp2_with (first | (go_at_call 15; refine (kV _).mono ?_; rintro e w' ⟨rfl, hw⟩; rw [hw]; clear hw w') | (go_at_call 46; refine (Ie.dnot _).mono ?_; rintro e w' ⟨rfl, hw⟩; rw [hw]; clear hw w') | (go_at_call 56; refine (Ie.dendless _ _).mono ?_; rintro e w' ⟨rfl, hw⟩; rw [hw]; clear hw w') | (go_at_call 35; first | (with_reducible refine (kna _).mono ?_; rintro e w' ⟨rfl, hw⟩; rw [hw]; clear hw w') | (with_reducible refine (knb _).mono ?_; rintro e w' ⟨rfl, hw⟩; rw [hw]; clear hw w')) | (go_at_call 36; first | (with_reducible refine (kia _).mono ?_; rintro e w' ⟨rfl, hw⟩; rw [hw]; clear hw w') | (with_reducible refine (kib _).mono ?_; rintro e w' ⟨rfl, hw⟩; rw [hw]; clear hw w')))
  clear kna knb kia kib kV
  refine kA.mono ?_
  rintro r w1 ⟨A1, rfl, hP1, hb1⟩
  have k2 := HKB.out w1 hb1
  clear kA
  go_wp2_with fail
  refine k2.mono ?_
  rintro r w2 ⟨A2, rfl, hP2, hb2⟩
  have HB2 : Hid (Below w.heap.size w w2 ∧ DN w2 A1 ta ∧ DN w2 A2 tb) := ⟨hb1.trans (hb2.mono hb1.size), hP1.later hb2, hP2⟩
  obtain ⟨s1, ao1, n1, cap1, ex1, rfl⟩ := hP1.shape
  obtain ⟨s2, ao2, n2, cap2, ex2, rfl⟩ := hP2.shape
  clear k2 hP1 hP2 hb1 hb2
  obtain ⟨W, hW⟩ : ∃ W, W = (w2.alloc (.cells #[.bool s1, .slice ao1 n1 cap1, .int .i64 ex1] 38)).alloc (.cells #[.bool s2, .slice ao2 n2 cap2, .int .i64 ex2] 38) := ⟨_, rfl⟩
  have hh := two29 _ _ hW
  have HX : Hid (Below w.heap.size w W ∧ W.heap[w2.heap.size]? = some (.cells #[.bool s1, .slice ao1 n1 cap1, .int .i64 ex1] 38 (0, 0)) ∧ W.heap[w2.heap.size + 1]? = some (.cells #[.bool s2, .slice ao2 n2 cap2, .int .i64 ex2] 38 (0, 0)) ∧ DN W (.agg #[.bool s1, .slice ao1 n1 cap1, .int .i64 ex1]) ta ∧ DN W (.agg #[.bool s2, .slice ao2 n2 cap2, .int .i64 ex2]) tb) := ⟨HB2.out.1.trans (hh.2.2.2.mono HB2.out.1.size), hh.1, hh.2.1, HB2.out.2.1.later hh.2.2.2, HB2.out.2.2.later hh.2.2.2⟩
  clear hh
  go_upto_region 8 with fail
  rw [← hW]
  clear hW HB2
  generalize w2.heap.size = g2 at *
  have HK : Hid (∀ w', Below W.heap.size W w' → ((w'.cell? ⟨g2, 0, none⟩ = some (.bool s1) ∧ w'.cell? ⟨g2, 1, none⟩ = some (.slice ao1 n1 cap1) ∧ w'.cell? ⟨g2, 2, none⟩ = some (.int .i64 ex1)) ∧ (w'.cell? ⟨g2 + 1, 0, none⟩ = some (.bool s2) ∧ w'.cell? ⟨g2 + 1, 1, none⟩ = some (.slice ao2 n2 cap2) ∧ w'.cell? ⟨g2 + 1, 2, none⟩ = some (.int .i64 ex2))) ∧ Below W.heap.size W w') := fun w' hb => ⟨⟨(box_cells29 (box_later HX.out.2.1 hb (lt_of_box HX.out.2.1))).1, (box_cells29 (box_later HX.out.2.2.1 hb (lt_of_box HX.out.2.2.1))).1⟩, hb⟩
  have hBR : Below W.heap.size W W.drew := (Below.refl _ _).drew
  have km1 : ∀ w4, Below W.heap.size W w4 → Calls Tryz.prog 31 #[.agg #[.bool s1, .slice ao1 n1 cap1, .int .i64 ex1], .agg #[.bool s1, .slice ao1 n1 cap1, .int .i64 ex1]] w4 fun r w' => ∃ A, r = .returned A ∧ DN w' A t1 ∧ Below W.heap.size W w' ∧ Hid (∀ g o, w4.heap[g]? = some o → w'.heap[g]? = some o) := fun w4 hb =>
    (HM1.out w4 _ (HX.out.2.2.2.1.later hb)).mono fun r w' ⟨A, e1, o1, o2⟩ => ⟨A, e1, o1, hb.trans (o2.mono hb.size), fun g o hg => box_later hg o2 (lt_of_box hg)⟩
  have km2 : ∀ w4, Below W.heap.size W w4 → Calls Tryz.prog 31 #[.agg #[.bool s2, .slice ao2 n2 cap2, .int .i64 ex2], .agg #[.bool s2, .slice ao2 n2 cap2, .int .i64 ex2]] w4 fun r w' => ∃ A, r = .returned A ∧ DN w' A t2 ∧ Below W.heap.size W w' ∧ Hid (Below w4.heap.size w4 w') ∧ Hid (∀ g o, w4.heap[g]? = some o → w'.heap[g]? = some o) := fun w4 hb =>
    (HM2.out w4 _ (HX.out.2.2.2.2.later hb)).mono fun r w' ⟨A, e1, o1, o2⟩ => ⟨A, e1, o1, hb.trans (o2.mono hb.size), o2, fun g o hg => box_later hg o2 (lt_of_box hg)⟩
  have kc : ∀ w4 X Y, Below W.heap.size W w4 → DN w4 X t1 → DN w4 Y t2 → Calls Tryz.prog 30 #[X, Y] w4 fun r w' => ∃ s ao n cap e, r = .returned (.agg #[.bool s, .slice ao n cap, .int .i64 e]) ∧ DN w' (.agg #[.bool s, .slice ao n cap, .int .i64 e]) t3 ∧ Below W.heap.size W w' ∧ Hid (∀ g o, w4.heap[g]? = some o → w'.heap[g]? = some o) := fun w4 X Y hb h1 h2 =>
    (HKC.out w4 _ _ h1 h2).mono fun r w' ⟨A, e1, o1, o2⟩ => by
      obtain ⟨s, ao, n, cap, e, rfl⟩ := o1.shape
      exact ⟨s, ao, n, cap, e, e1, o1, hb.trans (o2.mono hb.size), fun g o hg => box_later hg o2 (lt_of_box hg)⟩
  obtain ⟨⟨⟨a0, a1, a2⟩, ⟨b0, b1, b2⟩⟩, -⟩ := HK.out W (Below.refl _ _)
  go_cut [9] from 35 to 41 (fun p wx => ∃ g s ao n cap ex, p = .pointer (some ⟨g, 0, none⟩) ∧ Hid (BxD W wx g s ao n cap ex t3))
  case first =>
    go_region_held3 (fun w' => ((w'.cell? ⟨g2, 0, none⟩ = some (.bool s1) ∧ w'.cell? ⟨g2, 1, none⟩ = some (.slice ao1 n1 cap1) ∧ w'.cell? ⟨g2, 2, none⟩ = some (.int .i64 ex1)) ∧ (w'.cell? ⟨g2 + 1, 0, none⟩ = some (.bool s2) ∧ w'.cell? ⟨g2 + 1, 1, none⟩ = some (.slice ao2 n2 cap2) ∧ w'.cell? ⟨g2 + 1, 2, none⟩ = some (.int .i64 ex2))) ∧ Below W.heap.size W w') (first | (with_reducible assumption) | exact ⟨⟨⟨a0, a1, a2⟩, ⟨b0, b1, b2⟩⟩, hBR⟩ | (refine HK.out _ ?_; with_reducible assumption) | (refine HK.out _ ?_; refine Below.alloc (by with_reducible assumption) (Below.size (by with_reducible assumption)) _) | (refine HK.out _ (below_store3 (by first | (with_reducible assumption) | exact hb7.alloc hb7.size _) (by first | exact Nat.le_refl _ | exact hb5.size | exact hb6.size | exact hb7.size) _ _ _)) | go_keep)
      (first | (go_at_call 31; first | (have hq := hP5; clear hq; refine (km2 _ (by first | (with_reducible assumption) | exact hb5.alloc hb5.size _)).mono ?_; rintro r w6 ⟨A6, rfl, hP6, hb6, hk6, hj6⟩; first | (have HB6 := hidOf (hj6.out _ _ HB5.out)) | (have HB6 : Hid (w6.heap[w5.heap.size]? = some (.cells #[.bool false, .slice none 0 0, .int .i64 0] 38 (0, 0))) := hj6.out _ _ (heap_alloc_new w5 _)) | (have HB6 : Hid True := trivial)) | (refine (km1 _ (by first | (with_reducible assumption) | exact hBR | exact hBR.alloc hBR.size _)).mono ?_; rintro r w5 ⟨A5, rfl, hP5, hb5, hj5⟩; first | (have HB5 : Hid (w5.heap[W.heap.size]? = some (.cells #[.bool false, .slice none 0 0, .int .i64 0] 38 (0, 0))) := hj5.out _ _ (heap_alloc_new W.drew _)) | (have HB5 : Hid True := trivial)))
             | (go_at_call 30; refine (kc _ _ _ (by first | (with_reducible assumption) | exact hb6.alloc hb6.size _) (by first | exact hP5.later hk6.out | exact (hP5.later ((Below.refl _ _).alloc (Nat.le_refl _) _)).later hk6.out | exact (hP5.later hk6.out).later ((Below.refl _ _).alloc (Nat.le_refl _) _)) (by first | (with_reducible assumption) | exact hP6.later ((Below.refl _ _).alloc (Nat.le_refl _) _))).mono ?_; rintro r w7 ⟨s7, ao7, n7, cap7, ex7, rfl, hn7, hb7, hk7⟩; first | (have HBZ := hidOf (hk7.out _ _ HB6.out); obtain ⟨⟨x1, x2, x3⟩, x4, x5, x6⟩ := box_cells29 HBZ.out) | (have HBZ : Hid (w7.heap[w6.heap.size]? = some (.cells #[.bool false, .slice none 0 0, .int .i64 0] 38 (0, 0))) := hk7.out _ _ (heap_alloc_new w6 _); obtain ⟨⟨x1, x2, x3⟩, x4, x5, x6⟩ := box_cells29 HBZ.out) | (have HBZ : Hid True := trivial)))
    all_goals go_wp2_with fail
    all_goals go_meet
    all_goals first
      | exact ⟨_, _, _, _, _, _, rfl, BxD.new hn7 hb7⟩
      | exact ⟨_, _, _, _, _, _, rfl, BxD.put hn7 hb7 hb6.size HBZ.out⟩
      | exact ⟨_, _, _, _, _, _, rfl, BxD.put hn7 hb7 hb5.size HBZ.out⟩
      | exact ⟨_, _, _, _, _, _, rfl, BxD.put hn7 hb7 (Nat.le_refl _) HBZ.out⟩
  case rest =>
    obtain ⟨W2, rfl⟩ : ∃ W2 : World, W2 = wc := ⟨_, rfl⟩
    obtain ⟨g4, s4, ao4, n4, cap4, ex4, rfl, HR⟩ := hcut
    clear km1 km2 kc HK hBR a0 a1 a2 b0 b1 b2
    have HS : Hid (Below w.heap.size w W2 ∧ W2.heap[g4]? = some (.cells #[.bool s4, .slice ao4 n4 cap4, .int .i64 ex4] 38 (0, 0)) ∧ DN W2 (.agg #[.bool s4, .slice ao4 n4 cap4, .int .i64 ex4]) t3) := ⟨HX.out.1.trans (HR.out.2.2.1.mono HX.out.1.size), HR.out.1, HR.out.2.2.2⟩
    clear HX HR
    obtain ⟨⟨d0, d1, d2⟩, -⟩ := box_cells29 HS.out.2.1
    have k3 := HKS.out W2 _ HS.out.2.2
    cases hs : (sg == 0)
    · have HR2 : Hid (∀ W X, DN W X t3 → Calls Tryz.prog 61 #[X, .int .i64 m] W fun r w' => r = .returned (.float .f64 F) ∧ Below W.heap.size W w') := HKR.out.1 hs
      go_wp2_with fail
      refine k3.mono ?_
      rintro r w5 ⟨rfl, hb5⟩
      have HB5 : Hid (Below w.heap.size w w5) := HS.out.1.trans (hb5.mono HS.out.1.size)
      obtain ⟨⟨d0, d1, d2⟩, -⟩ := box_cells29 (box_later HS.out.2.1 hb5 (lt_of_box HS.out.2.1))
      have k4 := HR2.out w5 _ (HS.out.2.2.later hb5)
      clear k3 hb5
      go_wp2_with fail
      refine k4.mono ?_
      rintro r w6 ⟨rfl, hb6⟩
      have HB6 : Hid (Below w.heap.size w w6) := HB5.out.trans (hb6.mono HB5.out.size)
      clear k4 hb6 d0 d1 d2
      go_wp2_with fail
      go_ret
      exact ⟨rfl, HB6.out⟩
    · have HF : Hid (F = 0) := HKR.out.2 hs
      go_wp2_with fail
      refine k3.mono ?_
      rintro r w5 ⟨rfl, hb5⟩
      have HB5 : Hid (Below w.heap.size w w5) := HS.out.1.trans (hb5.mono HS.out.1.size)
      clear k3 hb5
      go_wp2_with fail
      go_ret
      rw [HF.out]
      exact ⟨rfl, HB5.out⟩
end Go.Proofs.YtajeodimbfppiaaGreatDoor

/- A float made whole, with a sign: what the law's own test asks. -/
namespace Go.Proofs.YtajeodimbfppiaaGreatDoor
set_option linter.unusedVariables false
set_option linter.unusedSimpArgs false
open Go.RowKit Go.Fl64

theorem pcopysign (a b : Nat) (ha : a < 18446744073709551616) (hb : b < 18446744073709551616) (w : World) :
    Calls Tryz.prog 119 #[.float .f64 a, .float .f64 b] w fun e w' => e = .returned (.float .f64 (sig (neg b) (mag a))) ∧ w' = w := by
  have kb := Ie.run_bits
  have kf := Ie.run_frombits
  go_enter Tryz.func119, Tryz.ntmps119
  go_wp2
  go_ret
  refine ⟨?_, rfl⟩
  show Ending.returned (.float .f64 (bits .or .u64 (bits .andNot .u64 (a : Int) 9223372036854775808) (bits .and .u64 (b : Int) 9223372036854775808)).toNat) = _
  rw [andNot_sign a ha, and_sign b hb]
  cases neg b with
  | true => rw [if_pos rfl, or_sign _ (mag_lt a)]; rfl
  | false => rw [if_neg (by decide), or_zero _ (mag_lt a)]; rfl
theorem pwith (a b : Nat) (ha : a < 18446744073709551616) (hb : b < 18446744073709551616) (w : World) :
    Calls Tryz.prog 88 #[.float .f64 a, .float .f64 b] w fun e w' => e = .returned (.float .f64 (withF a b)) ∧ w' = w := by
  have na := self_ne a ha
  have nb := self_ne b hb
  have k38 := c159 a ha
  have k39 := pcopysign a b ha hb
  unfold withF
  clear ha hb
  generalize isNaN a = x at na ⊢
  generalize isNaN b = y at nb ⊢
  generalize mag a = m at k38 k39 ⊢
  generalize sig (neg b) m = r at k39 ⊢
  cases x with
  | true =>
    simp only [if_true]
    go_enter Tryz.func88, Tryz.ntmps88
    go_wp2_with (first | (go_at_call 101; refine (k38 _).mono ?_; rintro e w' ⟨rfl, rfl⟩) | (go_at_call 119; refine (k39 _).mono ?_; rintro e w' ⟨rfl, rfl⟩))
    go_ret
    exact ⟨rfl, rfl⟩
  | false =>
    cases y with
    | true =>
      simp only [if_true, if_false, Bool.false_eq_true]
      go_enter Tryz.func88, Tryz.ntmps88
      go_wp2_with (first | (go_at_call 101; refine (k38 _).mono ?_; rintro e w' ⟨rfl, rfl⟩) | (go_at_call 119; refine (k39 _).mono ?_; rintro e w' ⟨rfl, rfl⟩))
      go_ret
      exact ⟨rfl, rfl⟩
    | false =>
      simp only [if_false, Bool.false_eq_true]
      go_enter Tryz.func88, Tryz.ntmps88
      go_wp2_with (first | (go_at_call 101; refine (k38 _).mono ?_; rintro e w' ⟨rfl, rfl⟩) | (go_at_call 119; refine (k39 _).mono ?_; rintro e w' ⟨rfl, rfl⟩))
      go_ret
      exact ⟨rfl, rfl⟩
theorem run_even25 (w : World) : (callFunc 86 #[.float .f64 4612811918334230528]).run Tryz.prog w = .ok (.value (.float .f64 4611686018427387904)) w :=
  run_callFunc_extern Tryz.func86 (e := Extern.MathFloor.toIntegral "math.RoundToEven" .even) (by kernel_rfl) (by kernel_rfl) (by kernel_rfl) (by kernel_rfl) #[.float .f64 4612811918334230528] w
theorem sure_whole (w : World) : Calls Tryz.prog 51 #[.float .f64 4612811918334230528, .int .i64 2] w fun r w' => r = .returned (.float .f64 4611686018427387904) ∧ w' = w := by
  have k := pwith 4611686018427387904 4612811918334230528 (by decide) (by decide)
  rw [show withF 4611686018427387904 4612811918334230528 = 4611686018427387904 by decide +kernel] at k
  have kn := Ie.c52
  have ke := run_even25
  go_enter Tryz.func51, Tryz.ntmps51
  go_wp2_with (first | (go_at_call 38; refine (kn _).mono ?_; rintro e w' ⟨rfl, rfl⟩) | (go_at_call 88; refine (k _).mono ?_; rintro e w' ⟨rfl, rfl⟩))
  go_ret
  exact ⟨rfl, rfl⟩
end Go.Proofs.YtajeodimbfppiaaGreatDoor

/- The program's leastRest: the least that is left. -/
namespace Go.Proofs.YtajeodimbfppiaaGreatDoor
set_option linter.unusedVariables false
set_option linter.unusedSimpArgs false
open Go.RowKit Go.Fl64

/-- a number in its box, made since a world -/
def BxP (w3 wc : World) (g : Nat) (s : Bool) (ao : Option Addr) (n cap : Nat) (ex : Int) (t : Bool × Nat × Int) : Prop := wc.heap[g]? = some (.cells #[.bool s, .slice ao n cap, .int .i64 ex] 45 (0, 0)) ∧ w3.heap.size ≤ g ∧ Below w3.heap.size w3 wc ∧ PN wc (.agg #[.bool s, .slice ao n cap, .int .i64 ex]) t
theorem BxP.new {w3 w7 : World} {s : Bool} {ao : Option Addr} {n cap : Nat} {ex : Int} {t : Bool × Nat × Int} (hn : PN w7 (.agg #[.bool s, .slice ao n cap, .int .i64 ex]) t) (hb : Below w3.heap.size w3 w7) : BxP w3 (w7.alloc (.cells #[.bool s, .slice ao n cap, .int .i64 ex] 45)) w7.heap.size s ao n cap ex t :=
  ⟨heap_alloc_new _ _, hb.size, hb.alloc hb.size _, hn.later ((Below.refl _ _).alloc (Nat.le_refl _) _)⟩
theorem BxP.put {w3 w7 : World} {g : Nat} {s : Bool} {ao : Option Addr} {n cap : Nat} {ex : Int} {t : Bool × Nat × Int} (hn : PN w7 (.agg #[.bool s, .slice ao n cap, .int .i64 ex]) t) (hb : Below w3.heap.size w3 w7) (hg : w3.heap.size ≤ g) (hbx : w7.heap[g]? = some (.cells #[.bool false, .slice none 0 0, .int .i64 0] 45 (0, 0))) :
    BxP w3 (((w7.setCell ⟨g, 0, none⟩ (.bool s)).setCell ⟨g, 1, none⟩ (.slice ao n cap)).setCell ⟨g, 2, none⟩ (.int .i64 ex)) g s ao n cap ex t :=
  ⟨store3 _ _ _ hbx, hg, below_store3 hb hg _ _ _, pn_store hn hbx _ _ _⟩

set_option maxHeartbeats 8000000 in
set_option maxRecDepth 200000 in
theorem lrest_g (s1 s2 : Bool) (ao1 ao2 : Option Addr) (n1 cap1 n2 cap2 : Nat) (ex1 ex2 c : Int) (ta tb tq tm tr tn tra tna : Bool × Nat × Int) (w : World) (hc : 0 < c)
    (hA : PN w (.agg #[.bool s1, .slice ao1 n1 cap1, .int .i64 ex1]) ta) (hB : PN w (.agg #[.bool s2, .slice ao2 n2 cap2, .int .i64 ex2]) tb)
    (kQ : ∀ W, Below w.heap.size w W → Calls Tryz.prog 120 #[.agg #[.bool s1, .slice ao1 n1 cap1, .int .i64 ex1], .agg #[.bool s2, .slice ao2 n2 cap2, .int .i64 ex2], .int .i64 0] W fun r w' => ∃ s ao n cap e x, r = .returned (.tuple #[.agg #[.bool s, .slice ao n cap, .int .i64 e], .bool x, .int .i64 0]) ∧ PN w' (.agg #[.bool s, .slice ao n cap, .int .i64 e]) tq ∧ Below W.heap.size W w')
    (kM : ∀ W X Y, Below w.heap.size w W → PN W X tq → PN W Y tb → Calls Tryz.prog 54 #[X, Y] W fun r w' => OutA W tm r w')
    (kT1 : ∀ W X Y, Below w.heap.size w W → PN W X ta → PN W Y tm → Calls Tryz.prog 121 #[X, Y] W fun r w' => OutA W tr r w')
    (kT2 : ∀ W X Y, Below w.heap.size w W → PN W X tr → PN W Y tb → Calls Tryz.prog 121 #[X, Y] W fun r w' => OutA W tn r w')
    (kA1 : ∀ W X, Below w.heap.size w W → PN W X tr → Calls Tryz.prog 123 #[X] W fun r w' => OutA W tra r w')
    (kA2 : ∀ W X, Below w.heap.size w W → PN W X tn → Calls Tryz.prog 123 #[X] W fun r w' => OutA W tna r w')
    (kC : ∀ W X Y, Below w.heap.size w W → PN W X tra → PN W Y tna → Calls Tryz.prog 122 #[X, Y] W fun r w' => r = .returned (.int .i64 c) ∧ Below W.heap.size W w') :
    Calls Tryz.prog 89 #[.agg #[.bool s1, .slice ao1 n1 cap1, .int .i64 ex1], .agg #[.bool s2, .slice ao2 n2 cap2, .int .i64 ex2]] w fun r w' => OutA w tn r w' := by
  have HQ : Hid (∀ W, Below w.heap.size w W → Calls Tryz.prog 120 #[.agg #[.bool s1, .slice ao1 n1 cap1, .int .i64 ex1], .agg #[.bool s2, .slice ao2 n2 cap2, .int .i64 ex2], .int .i64 0] W fun r w' => ∃ s ao n cap e x, r = .returned (.tuple #[.agg #[.bool s, .slice ao n cap, .int .i64 e], .bool x, .int .i64 0]) ∧ PN w' (.agg #[.bool s, .slice ao n cap, .int .i64 e]) tq ∧ Below W.heap.size W w') := kQ
  have HM : Hid (∀ W X Y, Below w.heap.size w W → PN W X tq → PN W Y tb → Calls Tryz.prog 54 #[X, Y] W fun r w' => OutA W tm r w') := kM
  have HT1 : Hid (∀ W X Y, Below w.heap.size w W → PN W X ta → PN W Y tm → Calls Tryz.prog 121 #[X, Y] W fun r w' => OutA W tr r w') := kT1
  have HT2 : Hid (∀ W X Y, Below w.heap.size w W → PN W X tr → PN W Y tb → Calls Tryz.prog 121 #[X, Y] W fun r w' => OutA W tn r w') := kT2
  have HA1 : Hid (∀ W X, Below w.heap.size w W → PN W X tr → Calls Tryz.prog 123 #[X] W fun r w' => OutA W tra r w') := kA1
  have HA2 : Hid (∀ W X, Below w.heap.size w W → PN W X tn → Calls Tryz.prog 123 #[X] W fun r w' => OutA W tna r w') := kA2
  have HC : Hid (∀ W X Y, Below w.heap.size w W → PN W X tra → PN W Y tna → Calls Tryz.prog 122 #[X, Y] W fun r w' => r = .returned (.int .i64 c) ∧ Below W.heap.size W w') := kC
  obtain ⟨W, hW⟩ : ∃ W, W = ((w.alloc (.cells #[.bool s1, .slice ao1 n1 cap1, .int .i64 ex1] 45)).alloc (.cells #[.bool s2, .slice ao2 n2 cap2, .int .i64 ex2] 45)).alloc (.cells #[.bool false, .slice none 0 0, .int .i64 0] 45) := ⟨_, rfl⟩
  obtain ⟨gA, gB, gZ, hsz, hBW⟩ := boxes3 _ _ _ hW
  have HX : Hid (Below w.heap.size w W ∧ W.heap[w.heap.size]? = some (.cells #[.bool s1, .slice ao1 n1 cap1, .int .i64 ex1] 45 (0, 0)) ∧ W.heap[w.heap.size + 1]? = some (.cells #[.bool s2, .slice ao2 n2 cap2, .int .i64 ex2] 45 (0, 0)) ∧ W.heap[w.heap.size + 1 + 1]? = some (.cells #[.bool false, .slice none 0 0, .int .i64 0] 45 (0, 0)) ∧ PN w (.agg #[.bool s1, .slice ao1 n1 cap1, .int .i64 ex1]) ta ∧ PN w (.agg #[.bool s2, .slice ao2 n2 cap2, .int .i64 ex2]) tb) := ⟨hBW, gA, gB, gZ, hA, hB⟩
  obtain ⟨⟨a0, a1, a2⟩, -⟩ := box_cells gA
  obtain ⟨⟨b0, b1, b2⟩, -⟩ := box_cells gB
  have k1 := kQ W hBW
  clear kQ kM kT1 kT2 kA1 kA2 kC gA gB gZ hsz hBW hA hB
  rw [hW] at a0 a1 a2 b0 b1 b2
  go_enter Tryz.func89, Tryz.ntmps89
  go_wp2_with fail
  rw [← hW]
  clear hW a0 a1 a2 b0 b1 b2
  refine k1.mono ?_
  rintro r w1 ⟨s3, ao3, n3, cap3, ex3, xq, rfl, hP3, hb1⟩
  clear k1
  obtain ⟨W1, hW1⟩ : ∃ W1, W1 = w1.alloc (.cells #[.bool s3, .slice ao3 n3 cap3, .int .i64 ex3] 45) := ⟨_, rfl⟩
  have hbW : Below W.heap.size W W1 := by rw [hW1]; exact hb1.alloc hb1.size _
  have HY : Hid (Below w.heap.size w W1 ∧ W1.heap[w.heap.size]? = some (.cells #[.bool s1, .slice ao1 n1 cap1, .int .i64 ex1] 45 (0, 0)) ∧ W1.heap[w.heap.size + 1]? = some (.cells #[.bool s2, .slice ao2 n2 cap2, .int .i64 ex2] 45 (0, 0)) ∧ W1.heap[w.heap.size + 1 + 1]? = some (.cells #[.bool false, .slice none 0 0, .int .i64 0] 45 (0, 0)) ∧ PN W1 (.agg #[.bool s1, .slice ao1 n1 cap1, .int .i64 ex1]) ta ∧ PN W1 (.agg #[.bool s2, .slice ao2 n2 cap2, .int .i64 ex2]) tb ∧ W1.heap[w1.heap.size]? = some (.cells #[.bool s3, .slice ao3 n3 cap3, .int .i64 ex3] 45 (0, 0)) ∧ PN W1 (.agg #[.bool s3, .slice ao3 n3 cap3, .int .i64 ex3]) tq) :=
    ⟨HX.out.1.trans (hbW.mono HX.out.1.size), box_later HX.out.2.1 hbW (lt_of_box HX.out.2.1), box_later HX.out.2.2.1 hbW (lt_of_box HX.out.2.2.1), box_later HX.out.2.2.2.1 hbW (lt_of_box HX.out.2.2.2.1), HX.out.2.2.2.2.1.later (HX.out.1.trans (hbW.mono HX.out.1.size)), HX.out.2.2.2.2.2.later (HX.out.1.trans (hbW.mono HX.out.1.size)), by rw [hW1]; exact heap_alloc_new _ _, by rw [hW1]; exact hP3.later ((Below.refl _ _).alloc (Nat.le_refl _) _)⟩
  clear hbW hP3 hb1
  go_upto_region 2 with fail
  rw [← hW1]
  clear hW1 HX
  generalize w1.heap.size = g3 at *
  have HK : Hid (∀ w', Below W1.heap.size W1 w' → ((w'.cell? ⟨w.heap.size, 0, none⟩ = some (.bool s1) ∧ w'.cell? ⟨w.heap.size, 1, none⟩ = some (.slice ao1 n1 cap1) ∧ w'.cell? ⟨w.heap.size, 2, none⟩ = some (.int .i64 ex1)) ∧ (w'.cell? ⟨w.heap.size + 1, 0, none⟩ = some (.bool s2) ∧ w'.cell? ⟨w.heap.size + 1, 1, none⟩ = some (.slice ao2 n2 cap2) ∧ w'.cell? ⟨w.heap.size + 1, 2, none⟩ = some (.int .i64 ex2)) ∧ (w'.cell? ⟨g3, 0, none⟩ = some (.bool s3) ∧ w'.cell? ⟨g3, 1, none⟩ = some (.slice ao3 n3 cap3) ∧ w'.cell? ⟨g3, 2, none⟩ = some (.int .i64 ex3))) ∧ Below W1.heap.size W1 w') := fun w' hb => ⟨⟨(box_cells (box_later HY.out.2.1 hb (lt_of_box HY.out.2.1))).1, (box_cells (box_later HY.out.2.2.1 hb (lt_of_box HY.out.2.2.1))).1, (box_cells (box_later HY.out.2.2.2.2.2.2.1 hb (lt_of_box HY.out.2.2.2.2.2.2.1))).1⟩, hb⟩
  have hBR : Below W1.heap.size W1 W1.drew := (Below.refl _ _).drew
  have km : ∀ w4, Below W1.heap.size W1 w4 → Calls Tryz.prog 54 #[.agg #[.bool s3, .slice ao3 n3 cap3, .int .i64 ex3], .agg #[.bool s2, .slice ao2 n2 cap2, .int .i64 ex2]] w4 fun r w' => ∃ s ao n cap e, r = .returned (.agg #[.bool s, .slice ao n cap, .int .i64 e]) ∧ PN w' (.agg #[.bool s, .slice ao n cap, .int .i64 e]) tm ∧ Below W1.heap.size W1 w' ∧ Hid (∀ g o, w4.heap[g]? = some o → w'.heap[g]? = some o) := fun w4 hb =>
    (HM.out w4 _ _ (HY.out.1.trans (hb.mono HY.out.1.size)) (HY.out.2.2.2.2.2.2.2.later hb) (HY.out.2.2.2.2.2.1.later hb)).mono fun r w' ⟨s, ao, n, cap, e, e1, o1, o2⟩ => ⟨s, ao, n, cap, e, e1, o1, hb.trans (o2.mono hb.size), fun g o hg => box_later hg o2 (lt_of_box hg)⟩
  have kt : ∀ w4 Y, Below W1.heap.size W1 w4 → PN w4 Y tm → Calls Tryz.prog 121 #[.agg #[.bool s1, .slice ao1 n1 cap1, .int .i64 ex1], Y] w4 fun r w' => ∃ s ao n cap e, r = .returned (.agg #[.bool s, .slice ao n cap, .int .i64 e]) ∧ PN w' (.agg #[.bool s, .slice ao n cap, .int .i64 e]) tr ∧ Below W1.heap.size W1 w' ∧ Hid (∀ g o, w4.heap[g]? = some o → w'.heap[g]? = some o) := fun w4 Y hb h2 =>
    (HT1.out w4 _ _ (HY.out.1.trans (hb.mono HY.out.1.size)) (HY.out.2.2.2.2.1.later hb) h2).mono fun r w' ⟨s, ao, n, cap, e, e1, o1, o2⟩ => ⟨s, ao, n, cap, e, e1, o1, hb.trans (o2.mono hb.size), fun g o hg => box_later hg o2 (lt_of_box hg)⟩
  obtain ⟨⟨⟨a0, a1, a2⟩, ⟨b0, b1, b2⟩, ⟨c0, c1, c2⟩⟩, -⟩ := HK.out W1 (Below.refl _ _)
  go_cut [8] from 18 to 22 (fun p wx => ∃ g s ao n cap ex, p = .pointer (some ⟨g, 0, none⟩) ∧ Hid (BxP W1 wx g s ao n cap ex tr))
  case first =>
    go_region_held3 (fun w' => ((w'.cell? ⟨w.heap.size, 0, none⟩ = some (.bool s1) ∧ w'.cell? ⟨w.heap.size, 1, none⟩ = some (.slice ao1 n1 cap1) ∧ w'.cell? ⟨w.heap.size, 2, none⟩ = some (.int .i64 ex1)) ∧ (w'.cell? ⟨w.heap.size + 1, 0, none⟩ = some (.bool s2) ∧ w'.cell? ⟨w.heap.size + 1, 1, none⟩ = some (.slice ao2 n2 cap2) ∧ w'.cell? ⟨w.heap.size + 1, 2, none⟩ = some (.int .i64 ex2)) ∧ (w'.cell? ⟨g3, 0, none⟩ = some (.bool s3) ∧ w'.cell? ⟨g3, 1, none⟩ = some (.slice ao3 n3 cap3) ∧ w'.cell? ⟨g3, 2, none⟩ = some (.int .i64 ex3))) ∧ Below W1.heap.size W1 w') (first | (with_reducible assumption) | exact ⟨⟨⟨a0, a1, a2⟩, ⟨b0, b1, b2⟩, ⟨c0, c1, c2⟩⟩, hBR⟩ | (refine HK.out _ ?_; with_reducible assumption) | (refine HK.out _ ?_; refine Below.alloc (by with_reducible assumption) (Below.size (by with_reducible assumption)) _) | (refine HK.out _ (below_store3 (by first | (with_reducible assumption) | exact hb7.alloc hb7.size _) (by first | exact Nat.le_refl _ | exact hb5.size | exact hb7.size) _ _ _)) | go_keep)
      (first | (go_at_call 54; refine (km _ (by first | (with_reducible assumption) | exact hBR.alloc hBR.size _)).mono ?_; rintro r w5 ⟨s5, ao5, n5, cap5, ex5, rfl, ho5, hb5, hk5⟩; first | (have HBY : Hid (w5.heap[W1.heap.size]? = some (.cells #[.bool false, .slice none 0 0, .int .i64 0] 45 (0, 0))) := hk5.out _ _ (heap_alloc_new W1.drew _)) | (have HBY : Hid True := trivial))
             | (go_at_call 121; refine (kt _ _ (by first | (with_reducible assumption) | exact hb5.alloc hb5.size _) (by first | (with_reducible assumption) | exact ho5.later ((Below.refl _ _).alloc (Nat.le_refl _) _))).mono ?_; rintro r w7 ⟨s7, ao7, n7, cap7, ex7, rfl, hn7, hb7, hk7⟩; first | (have HBZ := hidOf (hk7.out _ _ HBY.out); obtain ⟨⟨x1, x2, x3⟩, x4, x5, x6⟩ := box_cells HBZ.out) | (have HBZ : Hid (w7.heap[w5.heap.size]? = some (.cells #[.bool false, .slice none 0 0, .int .i64 0] 45 (0, 0))) := hk7.out _ _ (heap_alloc_new w5 _); obtain ⟨⟨x1, x2, x3⟩, x4, x5, x6⟩ := box_cells HBZ.out) | (have HBZ : Hid True := trivial)))
    all_goals go_wp2_with fail
    all_goals go_meet
    all_goals first
      | exact ⟨_, _, _, _, _, _, rfl, BxP.new hn7 hb7⟩
      | exact ⟨_, _, _, _, _, _, rfl, BxP.put hn7 hb7 hb5.size HBZ.out⟩
      | exact ⟨_, _, _, _, _, _, rfl, BxP.put hn7 hb7 (Nat.le_refl _) HBZ.out⟩
  case rest =>
    obtain ⟨W2, rfl⟩ : ∃ W2 : World, W2 = wc := ⟨_, rfl⟩
    obtain ⟨g4, s4, ao4, n4, cap4, ex4, rfl, HR⟩ := hcut
    clear km kt HK hBR a0 a1 a2 b0 b1 b2 c0 c1 c2
    have HS : Hid (Below w.heap.size w W2 ∧ W2.heap[w.heap.size + 1]? = some (.cells #[.bool s2, .slice ao2 n2 cap2, .int .i64 ex2] 45 (0, 0)) ∧ W2.heap[w.heap.size + 1 + 1]? = some (.cells #[.bool false, .slice none 0 0, .int .i64 0] 45 (0, 0)) ∧ PN W2 (.agg #[.bool s2, .slice ao2 n2 cap2, .int .i64 ex2]) tb ∧ W2.heap[g4]? = some (.cells #[.bool s4, .slice ao4 n4 cap4, .int .i64 ex4] 45 (0, 0)) ∧ PN W2 (.agg #[.bool s4, .slice ao4 n4 cap4, .int .i64 ex4]) tr) :=
      ⟨HY.out.1.trans (HR.out.2.2.1.mono HY.out.1.size), box_later HY.out.2.2.1 HR.out.2.2.1 (lt_of_box HY.out.2.2.1), box_later HY.out.2.2.2.1 HR.out.2.2.1 (lt_of_box HY.out.2.2.2.1), HY.out.2.2.2.2.2.1.later HR.out.2.2.1, HR.out.1, HR.out.2.2.2⟩
    clear HY HR
    obtain ⟨⟨b0, b1, b2⟩, -⟩ := box_cells HS.out.2.1
    obtain ⟨⟨d0, d1, d2⟩, -⟩ := box_cells HS.out.2.2.2.2.1
    have k3 := HT2.out W2 _ _ HS.out.1 HS.out.2.2.2.2.2 HS.out.2.2.2.1
    go_wp2_with fail
    refine k3.mono ?_
    rintro r w3 ⟨s5, ao5, n5, cap5, ex5, rfl, hP5, hb3⟩
    clear k3 b0 b1 b2 d0 d1 d2
    obtain ⟨W3, hW3⟩ : ∃ W3, W3 = w3.alloc (.cells #[.bool s5, .slice ao5 n5 cap5, .int .i64 ex5] 45) := ⟨_, rfl⟩
    have hbW : Below W2.heap.size W2 W3 := by rw [hW3]; exact hb3.alloc hb3.size _
    have HV : Hid (Below w.heap.size w W3 ∧ W3.heap[w.heap.size + 1 + 1]? = some (.cells #[.bool false, .slice none 0 0, .int .i64 0] 45 (0, 0)) ∧ W3.heap[g4]? = some (.cells #[.bool s4, .slice ao4 n4 cap4, .int .i64 ex4] 45 (0, 0)) ∧ PN W3 (.agg #[.bool s4, .slice ao4 n4 cap4, .int .i64 ex4]) tr ∧ W3.heap[w3.heap.size]? = some (.cells #[.bool s5, .slice ao5 n5 cap5, .int .i64 ex5] 45 (0, 0)) ∧ PN W3 (.agg #[.bool s5, .slice ao5 n5 cap5, .int .i64 ex5]) tn) :=
      ⟨HS.out.1.trans (hbW.mono HS.out.1.size), box_later HS.out.2.2.1 hbW (lt_of_box HS.out.2.2.1), box_later HS.out.2.2.2.2.1 hbW (lt_of_box HS.out.2.2.2.2.1), HS.out.2.2.2.2.2.later hbW, by rw [hW3]; exact heap_alloc_new _ _, by rw [hW3]; exact hP5.later ((Below.refl _ _).alloc (Nat.le_refl _) _)⟩
    clear hbW hP5 hb3
    go_upto_region 4 with fail
    rw [← hW3]
    clear hW3 HS
    generalize w3.heap.size = g5 at *
    have HK : Hid (∀ w', Below W3.heap.size W3 w' → ((w'.cell? ⟨g4, 0, none⟩ = some (.bool s4) ∧ w'.cell? ⟨g4, 1, none⟩ = some (.slice ao4 n4 cap4) ∧ w'.cell? ⟨g4, 2, none⟩ = some (.int .i64 ex4)) ∧ (w'.cell? ⟨g5, 0, none⟩ = some (.bool s5) ∧ w'.cell? ⟨g5, 1, none⟩ = some (.slice ao5 n5 cap5) ∧ w'.cell? ⟨g5, 2, none⟩ = some (.int .i64 ex5))) ∧ Below W3.heap.size W3 w') := fun w' hb => ⟨⟨(box_cells (box_later HV.out.2.2.1 hb (lt_of_box HV.out.2.2.1))).1, (box_cells (box_later HV.out.2.2.2.2.1 hb (lt_of_box HV.out.2.2.2.2.1))).1⟩, hb⟩
    have hBR : Below W3.heap.size W3 W3.drew := (Below.refl _ _).drew
    have ka1 : ∀ w4, Below W3.heap.size W3 w4 → Calls Tryz.prog 123 #[.agg #[.bool s4, .slice ao4 n4 cap4, .int .i64 ex4]] w4 fun r w' => ∃ s ao n cap e, r = .returned (.agg #[.bool s, .slice ao n cap, .int .i64 e]) ∧ PN w' (.agg #[.bool s, .slice ao n cap, .int .i64 e]) tra ∧ Below W3.heap.size W3 w' := fun w4 hb =>
      (HA1.out w4 _ (HV.out.1.trans (hb.mono HV.out.1.size)) (HV.out.2.2.2.1.later hb)).mono fun r w' ⟨s, ao, n, cap, e, e1, o1, o2⟩ => ⟨s, ao, n, cap, e, e1, o1, hb.trans (o2.mono hb.size)⟩
    have ka2 : ∀ w4, Below W3.heap.size W3 w4 → Calls Tryz.prog 123 #[.agg #[.bool s5, .slice ao5 n5 cap5, .int .i64 ex5]] w4 fun r w' => ∃ s ao n cap e, r = .returned (.agg #[.bool s, .slice ao n cap, .int .i64 e]) ∧ PN w' (.agg #[.bool s, .slice ao n cap, .int .i64 e]) tna ∧ Below W3.heap.size W3 w' ∧ Hid (Below w4.heap.size w4 w') := fun w4 hb =>
      (HA2.out w4 _ (HV.out.1.trans (hb.mono HV.out.1.size)) (HV.out.2.2.2.2.2.later hb)).mono fun r w' ⟨s, ao, n, cap, e, e1, o1, o2⟩ => ⟨s, ao, n, cap, e, e1, o1, hb.trans (o2.mono hb.size), o2⟩
    have kc : ∀ w4 X Y, Below W3.heap.size W3 w4 → PN w4 X tra → PN w4 Y tna → Calls Tryz.prog 122 #[X, Y] w4 fun r w' => r = .returned (.int .i64 c) ∧ Below W3.heap.size W3 w' := fun w4 X Y hb h1 h2 =>
      (HC.out w4 _ _ (HV.out.1.trans (hb.mono HV.out.1.size)) h1 h2).mono fun r w' ⟨e1, o2⟩ => ⟨e1, hb.trans (o2.mono hb.size)⟩
    obtain ⟨⟨⟨d0, d1, d2⟩, ⟨e0, e1, e2⟩⟩, -⟩ := HK.out W3 (Below.refl _ _)
    go_region_held3 (fun w' => ((w'.cell? ⟨g4, 0, none⟩ = some (.bool s4) ∧ w'.cell? ⟨g4, 1, none⟩ = some (.slice ao4 n4 cap4) ∧ w'.cell? ⟨g4, 2, none⟩ = some (.int .i64 ex4)) ∧ (w'.cell? ⟨g5, 0, none⟩ = some (.bool s5) ∧ w'.cell? ⟨g5, 1, none⟩ = some (.slice ao5 n5 cap5) ∧ w'.cell? ⟨g5, 2, none⟩ = some (.int .i64 ex5))) ∧ Below W3.heap.size W3 w') (first | (with_reducible assumption) | exact ⟨⟨⟨d0, d1, d2⟩, ⟨e0, e1, e2⟩⟩, hBR⟩ | (refine HK.out _ ?_; with_reducible assumption) | go_keep)
      (first | (go_at_call 123; first | (have hq := hP6; clear hq; refine (ka2 _ hb6).mono ?_; rintro r w7 ⟨s7, ao7, n7, cap7, ex7, rfl, hP7, hb7, hk7⟩) | (refine (ka1 _ hBR).mono ?_; rintro r w6 ⟨s6, ao6, n6, cap6, ex6, rfl, hP6, hb6⟩))
             | (go_at_call 122; refine (kc _ _ _ hb7 (hP6.later hk7.out) hP7).mono ?_; rintro r w8 ⟨rfl, hb8⟩))
    all_goals
      have HF : Hid (Below w.heap.size w w8 ∧ w8.heap[w.heap.size + 1 + 1]? = some (.cells #[.bool false, .slice none 0 0, .int .i64 0] 45 (0, 0)) ∧ PN w8 (.agg #[.bool s5, .slice ao5 n5 cap5, .int .i64 ex5]) tn ∧ w8.heap[g5]? = some (.cells #[.bool s5, .slice ao5 n5 cap5, .int .i64 ex5] 45 (0, 0))) := ⟨HV.out.1.trans (hb8.mono HV.out.1.size), box_later HV.out.2.1 hb8 (lt_of_box HV.out.2.1), HV.out.2.2.2.2.2.later hb8, box_later HV.out.2.2.2.2.1 hb8 (lt_of_box HV.out.2.2.2.2.1)⟩
      clear hP6 hb6 hP7 hb7 hk7 hb8 ka1 ka2 kc HK hBR d0 d1 d2 e0 e1 e2
      obtain ⟨⟨e0, e1, e2⟩, -⟩ := box_cells HF.out.2.2.2
      obtain ⟨⟨z0, z1, z2⟩, z3, z4, z5⟩ := box_cells HF.out.2.1
      go_wp2_with fail
      refine bodyPost_ret (results_cell_row rfl _ _ (w.heap.size + 1 + 1) 45 #[.bool s5, .slice ao5 n5 cap5, .int .i64 ex5] (0, 0) _ rfl (store3 _ _ _ HF.out.2.1) Tryz.underlying45 rfl Tryz.info45) rfl ?_
      exact ⟨_, _, _, _, _, rfl, pn_store HF.out.2.2.1 HF.out.2.1 _ _ _, below_store3 HF.out.1 (by omega) _ _ _⟩
end Go.Proofs.YtajeodimbfppiaaGreatDoor

/- Sub of floats, and the walk of RoundSums. -/
namespace Go.Proofs.YtajeodimbfppiaaGreatDoor
set_option linter.unusedVariables false
set_option linter.unusedSimpArgs false
open Go.RowKit Go.Fl64

/-- the law's 'same', of answers that are alike -/
theorem lsame_ok {n X : Nat} (h : lk n X) (hX : X < 18446744073709551616) (w : World) : Calls Tryz.prog 9 #[.float .f64 n, .float .f64 X] w fun r w' => r = .returned (.bool true) ∧ w' = w := by
  have := Ie.lsame n X h.1 hX w
  rw [h.2] at this
  exact this

end Go.Proofs.YtajeodimbfppiaaGreatDoor

/- The law's own test of layer 3: it answers true. -/
namespace Go.Proofs.YtajeodimbfppiaaGreatDoor
set_option linter.unusedVariables false
set_option linter.unusedSimpArgs false
open Go.RowKit Go.Fl64

theorem pabs {t : Bool × Nat × Int} {A : Value} {w : World} (ok : Ok t) (h : PN w A t) : Calls Tryz.prog 123 #[A] w fun r w' => OutA w (false, t.2.1, t.2.2) r w' := by
  obtain ⟨ao, cap, rfl, h1⟩ := h
  obtain ⟨f1, -, -, -, -⟩ := ok.facts
  refine (abs_ok (ea := t.2.2) h1 (by omega) ok).mono ?_
  rintro r w' ⟨v, rfl, ho, hb⟩
  obtain ⟨ao', cap', rfl, h2, h3, h4⟩ := ho.is
  exact ⟨_, _, _, _, _, rfl, ⟨ao', cap', rfl, ao', cap', rfl, h2, h3, h4⟩, hb⟩
theorem pcmp {t1 t2 : Bool × Nat × Int} {X Y : Value} {w : World} (o1 : Ok t1) (o2 : Ok t2) (h1 : PN w X t1) (h2 : PN w Y t2) : Calls Tryz.prog 122 #[X, Y] w fun r w' => r = .returned (.int .i64 (ordN t1.1 t1.2.1 t1.2.2 t2.1 t2.2.1 t2.2.2)) ∧ Below w.heap.size w w' := by
  obtain ⟨ao, cap, rfl, i1⟩ := h1
  obtain ⟨ao', cap', rfl, i2⟩ := h2
  obtain ⟨f1, f2, f3, -, -⟩ := o1.facts
  obtain ⟨g1, g2, g3, -, -⟩ := o2.facts
  exact cmp_ok i1 i2 (by omega) (by omega) (by omega) (by omega) o1 o2

theorem tF5 : tF 4617315517961601024 = (false, 5, 0) := by decide +kernel
theorem tF3 : tF 4613937818241073152 = (false, 3, 0) := by decide +kernel
theorem okT5 : Ok (false, 5, 0) := by rw [← tF5]; exact tF_ok _
theorem okT3 : Ok (false, 3, 0) := by rw [← tF3]; exact tF_ok _
theorem okT1 : Ok (false, 1, 0) := (by decide +kernel : okN false (dlen 1) 1 0 = true)
theorem okT1n : Ok (true, 1, 0) := (by decide +kernel : okN true (dlen 1) 1 0 = true)
theorem okT2 : Ok (false, 1, 1) := (by decide +kernel : okN false (dlen 1) 1 1 = true)

theorem sure_least (s1 s2 : Bool) (ao1 ao2 : Option Addr) (n1 cap1 n2 cap2 : Nat) (ex1 ex2 : Int) (w : World) (hT : Tab32 w) (h1 : PN w (.agg #[.bool s1, .slice ao1 n1 cap1, .int .i64 ex1]) (false, 5, 0)) (h2 : PN w (.agg #[.bool s2, .slice ao2 n2 cap2, .int .i64 ex2]) (false, 3, 0)) :
    Calls Tryz.prog 89 #[.agg #[.bool s1, .slice ao1 n1 cap1, .int .i64 ex1], .agg #[.bool s2, .slice ao2 n2 cap2, .int .i64 ex2]] w fun r w' => OutA w (true, 1, 0) r w' := by
  have m1 := mul_op okT1 okT3 (by decide +kernel)
  have u1 := sub_op okT5 okT3 (by decide +kernel)
  have u2 := sub_op okT2 okT3 (by decide +kernel)
  rw [show cn (!((false, (1 : Nat), (0 : Int)).1 == (false, (3 : Nat), (0 : Int)).1)) ((false, (1 : Nat), (0 : Int)).2.1 * (false, (3 : Nat), (0 : Int)).2.1) ((false, (1 : Nat), (0 : Int)).2.2 + (false, (3 : Nat), (0 : Int)).2.2) = (false, 3, 0) by decide +kernel] at m1
  refine lrest_g s1 s2 ao1 ao2 n1 cap1 n2 cap2 ex1 ex2 1 (false, 5, 0) (false, 3, 0) (false, 1, 0) (false, 3, 0) (false, 1, 1) (true, 1, 0) (false, 1, 1) (false, 1, 0) w (by decide) h1 h2 (fun W h => ?_) (fun W X Y h p q => multiplied_op m1 (hT.later h) p q) (fun W X Y h p q => ?_) (fun W X Y h p q => ?_) (fun W X h p => pabs okT2 p) (fun W X h p => pabs okT1n p) (fun W X Y h p q => ?_)
  · obtain ⟨ao, cap, e1, i1⟩ := h1.later h
    obtain ⟨ao', cap', e2, i2⟩ := h2.later h
    rw [e1, e2]
    have k := c44 (na := false) (nb := false) (ea := 0) (eb := 0) (place := 0) i1 i2 (hT.later h) (by decide) (by have := okT5.facts; omega) (by have := okT3.facts; omega) okT5 okT3 (by omega) (by omega) (by omega) 5 3 (by decide) (by decide)
    rw [show (if (false != false) && !(decide (5 % 3 = 0)) then 5 / 3 + 1 else 5 / 3) = 1 by decide] at k
    refine Calls.mono k ?_
    intro r w' hh
    obtain ⟨s, a, n, c, e, q1, q2, q3⟩ := held3_pn hh (by decide +kernel)
    rw [show cn (false != false) 1 (-0) = (false, 1, 0) by decide +kernel] at q2
    exact ⟨s, a, n, c, e, _, q1, q2, q3⟩
  · have := taken_op u1 (hT.later h) p q
    rw [show cn _ _ _ = (false, 1, 1) by decide +kernel] at this
    exact this
  · have := taken_op u2 (hT.later h) p q
    rw [show cn _ _ _ = (true, 1, 0) by decide +kernel] at this
    exact this
  · have := pcmp okT2 okT1 p q
    rw [show ordN _ _ _ _ _ _ = 1 by decide +kernel] at this
    exact this

set_option maxHeartbeats 4000000 in
set_option maxRecDepth 200000 in
theorem sure_rest (w : World) (hT : Tab32 w) (hI : Ie.Tab w) : Calls Tryz.prog 52 #[.float .f64 4617315517961601024, .float .f64 4613937818241073152] w fun r w' => r = .returned (.float .f64 13830554455654793216) ∧ Below w.heap.size w w' := by
  have e1 : (FloatKind.f64.format.order 4617315517961601024 4617315517961601024 != some Ordering.eq) = false := by decide +kernel
  have e2 : (FloatKind.f64.format.order 4613937818241073152 4613937818241073152 != some Ordering.eq) = false := by decide +kernel
  have e3 : (FloatKind.f64.format.order 4613937818241073152 0 == some Ordering.eq) = false := by decide +kernel
  have e4 : (FloatKind.f64.format.order 13830554455654793216 0 == some Ordering.eq) = false := by decide +kernel
  have i1 := pinf_n 4617315517961601024 (by decide) (by decide) w
  have i2 := pinf_n 4613937818241073152 (by decide) (by decide) w
  have kA := exact_ok 4617315517961601024 (by decide) (by decide) w hT hI
  rw [tF5] at kA
  have HKB : Hid (∀ W, Below w.heap.size w W → Calls Tryz.prog 41 #[.float .f64 4613937818241073152] W fun r w' => OutA W (false, 3, 0) r w') := fun W h => by
    have := exact_ok 4613937818241073152 (by decide) (by decide) W (hT.later h) (Tab.later hI h)
    rw [tF3] at this
    exact this
  have HT : Hid (Tab32 w) := hT
  clear hT hI
  go_enter Tryz.func52, Tryz.ntmps52
  go_wp2_with fail
  refine i1.mono ?_
  rintro r w' ⟨rfl, hw⟩
  rw [hw]
  clear hw i1 w'
  go_wp2_with fail
  refine i2.mono ?_
  rintro r w' ⟨rfl, hw⟩
  rw [hw]
  clear hw i2 w'
  go_wp2_with fail
  refine kA.mono ?_
  rintro r w1 ⟨s1, ao1, n1, cap1, ex1, rfl, hP1, hb1⟩
  have k2 := HKB.out w1 hb1
  clear kA
  go_wp2_with fail
  refine k2.mono ?_
  rintro r w2 ⟨s2, ao2, n2, cap2, ex2, rfl, hP2, hb2⟩
  have HB2 : Hid (Below w.heap.size w w2) := hb1.trans (hb2.mono hb1.size)
  have k3 := sure_least _ _ _ _ _ _ _ _ _ _ w2 (HT.out.later HB2.out) (hP1.later hb2) hP2
  clear k2 hP1 hP2 hb1 hb2
  go_wp2_with fail
  refine k3.mono ?_
  rintro r w3 ⟨s3, ao3, n3, cap3, ex3, rfl, hP3, hb3⟩
  have HB3 : Hid (Below w.heap.size w w3) := HB2.out.trans (hb3.mono HB2.out.size)
  have k4 := prounded (m := 2) (HT.out.later HB3.out) okT1n hP3 (by omega)
  rw [show tfF (true, (1 : Nat), (0 : Int)).1 true (true, (1 : Nat), (0 : Int)).2.1 (true, (1 : Nat), (0 : Int)).2.2 2 = 13830554455654793216 by decide +kernel] at k4
  clear k3 hP3 hb3
  go_wp2_with fail
  refine k4.mono ?_
  rintro r w4 ⟨rfl, hb4⟩
  have HB4 : Hid (Below w.heap.size w w4) := HB3.out.trans (hb4.mono HB3.out.size)
  clear k4 hb4
  go_wp2_with fail
  go_ret
  exact ⟨rfl, HB4.out⟩
end Go.Proofs.YtajeodimbfppiaaGreatDoor

/- The law's own test answers true; RoundSums. -/
namespace Go.Proofs.YtajeodimbfppiaaGreatDoor
set_option linter.unusedVariables false
set_option linter.unusedSimpArgs false
open Go.RowKit Go.Fl64

theorem sure_add_ok (w : World) (hT : Tab32 w) (hI : Ie.Tab w) : Calls Tryz.prog 10 #[.float .f64 4607182418800017408, .float .f64 4611686018427387904, .int .i64 2] w fun r w' => r = .returned (.float .f64 4613937818241073152) ∧ Below w.heap.size w w' := by
  obtain ⟨X, h1, -, h3, -, h5⟩ := join_FAdd 4607182418800017408 4611686018427387904 2 (by decide) (by decide)
  have e := h5 (by decide) (by decide) (by decide)
  rw [sure_add] at e
  subst e
  refine (h3 w hT hI).mono ?_
  rintro r w' ⟨n, rfl, hl, hb⟩
  exact ⟨by rw [hl.eq (by decide)], hb⟩

set_option maxHeartbeats 4000000 in
set_option maxRecDepth 200000 in
theorem sure_ok (w : World) (hT : Tab32 w) (hI : Ie.Tab w) : Calls Tryz.prog 16 #[] w fun r w' => r = .returned (.bool true) ∧ Below w.heap.size w w' := by
  have e1 : (FloatKind.f64.format.order 4613937818241073152 4613937818241073152 == some Ordering.eq) = true := by decide +kernel
  have e2 : (FloatKind.f64.format.order 4599676419421066582 4599676419421066581 == some Ordering.gt) = true := by decide +kernel
  have e3 : (FloatKind.f64.format.order 4617315517961601024 4617315517961601024 == some Ordering.eq) = true := by decide +kernel
  have e4 : (FloatKind.f64.format.order 4611686018427387904 4611686018427387904 == some Ordering.eq) = true := by decide +kernel
  have e5 : (FloatKind.f64.format.order 13830554455654793216 13830554455654793216 == some Ordering.eq) = true := by decide +kernel
  have HT : Hid (∀ W, Below w.heap.size w W → Tab32 W ∧ Ie.Tab W) := fun W h => ⟨hT.later h, Tab.later hI h⟩
  have kk := sure_add_ok w hT hI
  clear hT hI
  go_enter Tryz.func16, Tryz.ntmps16
  go_wp2_with fail
  refine kk.mono ?_
  rintro r w1 ⟨rfl, hb1⟩
  have HB1 : Hid (Below w.heap.size w w1) := hb1
  clear kk hb1
  have kk := pdiv_ok 4607182418800017408 4613937818241073152 3 w1 (by decide) (HT.out w1 HB1.out).1 (HT.out w1 HB1.out).2 (by decide) (by decide) (by decide) (by decide) (by decide) (by decide) (tF_ne (by decide)) (tF_ne (by decide))
  rw [sure_div3] at kk
  go_wp2_with fail
  refine kk.mono ?_
  rintro r w2 ⟨rfl, hb2⟩
  have HB2 : Hid (Below w.heap.size w w2) := HB1.out.trans (hb2.mono HB1.out.size)
  clear kk hb2
  have kk := pdiv_ok 4607182418800017408 4613937818241073152 1 w2 (by decide) (HT.out w2 HB2.out).1 (HT.out w2 HB2.out).2 (by decide) (by decide) (by decide) (by decide) (by decide) (by decide) (tF_ne (by decide)) (tF_ne (by decide))
  rw [sure_div1] at kk
  go_wp2_with fail
  refine kk.mono ?_
  rintro r w3 ⟨rfl, hb3⟩
  have HB3 : Hid (Below w.heap.size w w3) := HB2.out.trans (hb3.mono HB2.out.size)
  clear kk hb3
  have kk := sure_hyp w3 (HT.out w3 HB3.out).1 (HT.out w3 HB3.out).2
  go_wp2_with fail
  refine kk.mono ?_
  rintro r w4 ⟨rfl, hb4⟩
  have HB4 : Hid (Below w.heap.size w w4) := HB3.out.trans (hb4.mono HB3.out.size)
  clear kk hb4
  have kk := pvalid 3 w4
  rw [show isM 3 = true by decide] at kk
  go_wp2_with fail
  refine kk.mono ?_
  rintro r w' ⟨rfl, hw⟩
  rw [hw]
  clear hw kk w'
  have kk := pvalid 0 w4
  rw [show isM 0 = false by decide] at kk
  go_wp2_with fail
  refine kk.mono ?_
  rintro r w' ⟨rfl, hw⟩
  rw [hw]
  clear hw kk w'
  have kk := sure_whole w4
  go_wp2_with fail
  refine kk.mono ?_
  rintro r w' ⟨rfl, hw⟩
  rw [hw]
  clear hw kk w'
  have kk := sure_rest w4 (HT.out w4 HB4.out).1 (HT.out w4 HB4.out).2
  go_wp2_with fail
  refine kk.mono ?_
  rintro r w5 ⟨rfl, hb5⟩
  have HB5 : Hid (Below w.heap.size w w5) := HB4.out.trans (hb5.mono HB4.out.size)
  clear kk hb5
  go_wp2_with fail
  go_ret
  exact ⟨rfl, HB5.out⟩

end Go.Proofs.YtajeodimbfppiaaGreatDoor

/- RoundRoots. -/
namespace Go.Proofs.YtajeodimbfppiaaGreatDoor
set_option linter.unusedVariables false
set_option linter.unusedSimpArgs false
open Go.RowKit Go.Fl64

theorem tM_pos (t : Bool × Nat × Int) : (tM t t).1 = false := by
  unfold tM cn
  split
  · rfl
  · simp
theorem tS_pos {t1 t2 : Bool × Nat × Int} (h1 : t1.1 = false) (h2 : t2.1 = false) : (tS t1 t2).1 = false := by
  have : (sumN t1.1 t1.2.1 t1.2.2 t2.1 t2.2.1 t2.2.2).1 = false := by
    unfold sumN
    rw [h1, h2]
    repeat' split
    all_goals rfl
  unfold tS cn
  split
  · rfl
  · exact this
theorem dsgn {t : Bool × Nat × Int} {X : Value} {w : World} (hl : dlen t.2.1 ≤ 35184372088832) (h : DN w X t) : Calls Tryz.prog 64 #[X] w fun r w' => r = .returned (.int .i64 (sgI t.1 (dlen t.2.1))) ∧ Below w.heap.size w w' := by
  obtain ⟨ao, cap, rfl, hA⟩ := h
  exact rsgn hl
theorem nan_inf {a : Nat} (h : (isNaN a || Ie.isInf a) = false) : mag a < 9218868437227405312 := by
  rcases Nat.lt_or_ge (mag a) 9218868437227405312 with h' | h'
  · exact h'
  · have := nonfin (a := a) (by omega)
    rw [h] at this
    cases this

theorem join_FHypot (a b : Nat) (m : Int) (ha : a < 18446744073709551616) (hb : b < 18446744073709551616) :
    ∃ X, X < 18446744073709551616 ∧
      (∀ W, Tab32 W → Ie.Tab W → Calls Tryz.prog 23 #[.float .f64 a, .float .f64 b, .int .i64 m] W fun r w' => OutF2 W X r w') ∧
      (∀ W, Calls Tryz.prog 24 #[.float .f64 a, .float .f64 b, .int .i64 m] W fun r w' => OutD W X r w') := by
  cases hm : isM m
  · refine ⟨9221120237041090560, by decide, fun W _ _ => ?_, fun W => ?_⟩
    · refine (phyp_no a b m W hm).mono ?_
      rintro r w' ⟨rfl, hb⟩
      exact ⟨_, rfl, lk.nan (by decide) (by decide) (by decide), hb⟩
    · refine (dhyp_no a b m hm W).mono ?_
      rintro r w' ⟨rfl, hw⟩
      exact ⟨rfl, hw ▸ Below.refl _ _⟩
  · have hm' := isM_iff.1 hm
    by_cases hp : (isNaN a || isNaN b || Ie.isInf a || Ie.isInf b) = true
    · refine ⟨hyX a b, by unfold hyX; split <;> decide, fun W hT hI => ?_, fun W => ?_⟩
      · unfold hyX
        by_cases hi : (Ie.isInf a || Ie.isInf b) = true
        · rw [if_pos hi]
          refine (phyp_inf a b m _ _ W hm hi (pinf a ha) (pinf b hb)).mono ?_
          rintro r w' ⟨rfl, hb⟩
          exact ⟨_, rfl, lk.refl (by decide), hb⟩
        · rw [if_neg hi]
          have hi' : (Ie.isInf a || Ie.isInf b) = false := by simpa using hi
          simp only [Bool.or_eq_false_iff] at hi'
          obtain ⟨i1, i2⟩ := hi'
          rw [i1, i2] at hp
          have hp' : (isNaN a || isNaN b) = true := by simpa using hp
          have ka := pinf a ha
          have kb := pinf b hb
          rw [i1] at ka
          rw [i2] at kb
          by_cases hn : isNaN a = true
          · have hf : ¬ mag a < 9218868437227405312 := by unfold isNaN at hn; simp at hn; omega
            refine (phyp_na a b m W hm ka kb (pfin_n a ha hf)).mono ?_
            rintro r w' ⟨rfl, hb⟩
            exact ⟨_, rfl, lk.nan (by decide) (by decide) (by decide), hb⟩
          · have hn' : isNaN a = false := by simpa using hn
            rw [hn', Bool.false_or] at hp'
            have hfa : mag a < 9218868437227405312 := nan_inf (by rw [hn', i1]; rfl)
            have hf : ¬ mag b < 9218868437227405312 := by unfold isNaN at hp'; simp at hp'; omega
            refine (phyp_nb a b m W hm ka kb (pfin_y a ha hfa) (pfin_n b hb hf)).mono ?_
            rintro r w' ⟨rfl, hb⟩
            exact ⟨_, rfl, lk.nan (by decide) (by decide) (by decide), hb⟩
      · refine (dhyp_non a b m ha hb hm hp W).mono ?_
        rintro r w' ⟨rfl, hw⟩
        exact ⟨rfl, hw ▸ Below.refl _ _⟩
    · have hp' : (isNaN a || isNaN b || Ie.isInf a || Ie.isInf b) = false := by simpa using hp
      simp only [Bool.or_eq_false_iff] at hp'
      obtain ⟨⟨⟨p1, p2⟩, p3⟩, p4⟩ := hp'
      have hfa : mag a < 9218868437227405312 := nan_inf (by rw [p1, p3]; rfl)
      have hfb : mag b < 9218868437227405312 := nan_inf (by rw [p2, p4]; rfl)
      have ka := pinf a ha
      have kb := pinf b hb
      rw [p3] at ka
      rw [p4] at kb
      have o1 := tM_ok (tM_okR a a)
      have o2 := tM_ok (tM_okR b b)
      have g1 := tM_fits (tF_fits a) (tF_fits a)
      have g2 := tM_fits (tF_fits b) (tF_fits b)
      have hokR := tS_okR g1 g2 (by omega) (by omega) (by omega)
      have hok : Ok (tS (tM (tF a) (tF a)) (tM (tF b) (tF b))) := ok_cn hokR
      have hs := tS_pos (tM_pos (tF a)) (tM_pos (tF b))
      obtain ⟨F, f1, f2, f3, f4⟩ := join_root _ m hok hs hm'
      have hl := hok.facts.1
      refine ⟨F, f1, fun W hT hI => ?_, fun W => ?_⟩
      · refine (phyp_r a b F m (tF a) (tF b) (tM (tF a) (tF a)) (tM (tF b) (tF b)) (tS (tM (tF a) (tF a)) (tM (tF b) (tF b))) W hm ka kb (pfin_y a ha hfa) (pfin_y b hb hfb) (exact_ok a ha hfa W hT hI) (fun W' h => exact_ok b hb hfb W' (hT.later h) (Tab.later hI h)) (fun W' X h h1 => multiplied_op (mul_op (tF_ok a) (tF_ok a) (tM_okR a a)) (hT.later h) h1 h1) (fun W' X h h1 => multiplied_op (mul_op (tF_ok b) (tF_ok b) (tM_okR b b)) (hT.later h) h1 h1) (fun W' X Y h h1 h2 => added_op (add_op o1 o2 hokR) (hT.later h) h1 h2) (fun W' X h h1 => f3 W' X (hT.later h) h1)).mono ?_
        rintro r w' ⟨rfl, hb⟩
        exact ⟨_, rfl, lk.refl f1, hb⟩
      · exact dhyp_fin a b F m _ (tF a) (tF b) (tM (tF a) (tF a)) (tM (tF b) (tF b)) (tS (tM (tF a) (tF a)) (tM (tF b) (tF b))) W hm ha hb hfa hfb (float_dn a ha W) (fun W' h => float_dn b hb W') (fun W' X h => times_dn (tF_ok a) (tF_ok a) h h) (fun W' X h => times_dn (tF_ok b) (tF_ok b) h h) (fun W' X Y h1 h2 => plus_dn o1 o2 h1 h2) (fun W' X h => dsgn (by omega) h) (fun h0 W' X h => f4 (by rw [sgI_nought] at h0; simpa using h0) W' X h) (fun h0 => f2 (by rw [sgI_nought] at h0; simpa using h0))

set_option maxHeartbeats 4000000 in
set_option maxRecDepth 200000 in
theorem lawR_3 (a b X Y : Nat) (m : Int) (w : World) (hX : X < 18446744073709551616) (hY : Y < 18446744073709551616)
    (k1 : ∀ W, Below w.heap.size w W → Calls Tryz.prog 21 #[.float .f64 a, .int .i64 m] W fun r w' => OutF2 W X r w')
    (k2 : ∀ W, Calls Tryz.prog 22 #[.float .f64 a, .int .i64 m] W fun r w' => OutD W X r w')
    (k3 : ∀ W, Below w.heap.size w W → Calls Tryz.prog 23 #[.float .f64 a, .float .f64 b, .int .i64 m] W fun r w' => OutF2 W Y r w')
    (k4 : ∀ W, Calls Tryz.prog 24 #[.float .f64 a, .float .f64 b, .int .i64 m] W fun r w' => OutD W Y r w')
    (k7 : ∀ W, Below w.heap.size w W → Calls Tryz.prog 16 #[] W fun r w' => r = .returned (.bool true) ∧ Below W.heap.size W w') :
    Calls Tryz.prog 5 #[.float .f64 a, .float .f64 b, .int .i64 m] w fun r w' => r = .returned (.bool true) ∧ Below w.heap.size w w' := by
  have HXY : Hid (X < 18446744073709551616 ∧ Y < 18446744073709551616) := ⟨hX, hY⟩
  have H2 : Hid (∀ W, Calls Tryz.prog 22 #[.float .f64 a, .int .i64 m] W fun r w' => OutD W X r w') := k2
  have H3 : Hid (∀ W, Below w.heap.size w W → Calls Tryz.prog 23 #[.float .f64 a, .float .f64 b, .int .i64 m] W fun r w' => OutF2 W Y r w') := k3
  have H4 : Hid (∀ W, Calls Tryz.prog 24 #[.float .f64 a, .float .f64 b, .int .i64 m] W fun r w' => OutD W Y r w') := k4
  have H7 : Hid (∀ W, Below w.heap.size w W → Calls Tryz.prog 16 #[] W fun r w' => r = .returned (.bool true) ∧ Below W.heap.size W w') := k7
  have kk := k1 w (Below.refl _ _)
  clear hX hY k1 k2 k3 k4 k7
  go_enter Tryz.func5, Tryz.ntmps5
  go_wp2_with fail
  refine kk.mono ?_
  rintro r w1 ⟨n1, rfl, l1, hb1⟩
  have HB1 : Hid (lk n1 X ∧ Below w.heap.size w w1) := ⟨l1, hb1⟩
  clear kk l1 hb1
  have kk := H2.out w1
  go_wp2_with fail
  refine kk.mono ?_
  rintro r w2 ⟨rfl, hb2⟩
  have HB2 : Hid (Below w.heap.size w w2) := HB1.out.2.trans (hb2.mono HB1.out.2.size)
  clear kk hb2
  have kk := lsame_ok HB1.out.1 HXY.out.1 w2
  go_wp2_with fail
  refine kk.mono ?_
  rintro r w' ⟨rfl, hw⟩
  rw [hw]
  clear hw kk w' HB1
  have kk := H3.out w2 HB2.out
  go_wp2_with fail
  refine kk.mono ?_
  rintro r w3 ⟨n3, rfl, l3, hb3⟩
  have HB3 : Hid (lk n3 Y ∧ Below w.heap.size w w3) := ⟨l3, HB2.out.trans (hb3.mono HB2.out.size)⟩
  clear kk l3 hb3
  have kk := H4.out w3
  go_wp2_with fail
  refine kk.mono ?_
  rintro r w4 ⟨rfl, hb4⟩
  have HB4 : Hid (Below w.heap.size w w4) := HB3.out.2.trans (hb4.mono HB3.out.2.size)
  clear kk hb4
  have kk := lsame_ok HB3.out.1 HXY.out.2 w4
  go_wp2_with fail
  refine kk.mono ?_
  rintro r w' ⟨rfl, hw⟩
  rw [hw]
  clear hw kk w' HB3
  have kk := H7.out w4 HB4.out
  go_wp2_with fail
  refine kk.mono ?_
  rintro r w5 ⟨rfl, hb5⟩
  have HB5 : Hid (Below w.heap.size w w5) := HB4.out.trans (hb5.mono HB4.out.size)
  clear kk hb5
  go_wp2_with fail
  go_ret
  exact ⟨rfl, HB5.out⟩

/-- RoundRoots answers true -/
theorem roundRoots_ok (a b : Nat) (m : Int) (w : World) (ha : a < 18446744073709551616) (hb : b < 18446744073709551616) (hT : Tab32 w) (hI : Ie.Tab w) :
    Calls Tryz.prog 5 #[.float .f64 a, .float .f64 b, .int .i64 m] w fun r w' => r = .returned (.bool true) ∧ Below w.heap.size w w' := by
  obtain ⟨X, x1, x3, x4⟩ := join_FSqrt a m ha
  obtain ⟨Y, y1, y3, y4⟩ := join_FHypot a b m ha hb
  exact lawR_3 a b X Y m w x1 y1 (fun W h => x3 W (hT.later h) (Tab.later hI h)) x4 (fun W h => y3 W (hT.later h) (Tab.later hI h)) y4 (fun W h => sure_ok W (hT.later h) (Tab.later hI h))
end Go.Proofs.YtajeodimbfppiaaGreatDoor
