/- Own work: contracts of the program's functions, part 15: SB2 SB3 FL2 SC1 SE1 RY6 SC2 RY7 SD1 SE2 SB4 SB5 SA9 SB6 SB7 SE3 HX W46 W47 W48 RE2 RE5 RE1. -/
import Derived.Test.YtajeodimbfppiaaGreatDoorA14
import Derived.Test.YtajeodimbfppiaaGreatDoorA10
import Derived.Test.YtajeodimbfppiaaGreatDoorA6
import Derived.Test.YtajeodimbfppiaaGreatDoorA8
import Derived.Test.YtajeodimbfppiaaGreatDoorA9
import Derived.Test.YtajeodimbfppiaaGreatDoorA4
import Derived.Lib.ItoaNum

/- The program's Hypot of finite floats. -/
namespace Go.Proofs.YtajeodimbfppiaaGreatDoor
set_option linter.unusedVariables false
set_option linter.unusedSimpArgs false
open Go.RowKit Go.Fl64

set_option maxHeartbeats 4000000 in
set_option maxRecDepth 200000 in
theorem phyp_r (a b F : Nat) (m : Int) (ta tb t1 t2 t3 : Bool × Nat × Int) (w : World) (hm : isM m = true)
    (hia : ∀ W, Calls Tryz.prog 62 #[.float .f64 a, .int .i64 0] W fun r w' => r = .returned (.bool false) ∧ w' = W)
    (hib : ∀ W, Calls Tryz.prog 62 #[.float .f64 b, .int .i64 0] W fun r w' => r = .returned (.bool false) ∧ w' = W)
    (hfa : ∀ W, Calls Tryz.prog 39 #[.float .f64 a] W fun r w' => r = .returned (.bool true) ∧ w' = W)
    (hfb : ∀ W, Calls Tryz.prog 39 #[.float .f64 b] W fun r w' => r = .returned (.bool true) ∧ w' = W)
    (kA : Calls Tryz.prog 41 #[.float .f64 a] w fun r w' => OutA w ta r w')
    (kB : ∀ W, Below w.heap.size w W → Calls Tryz.prog 41 #[.float .f64 b] W fun r w' => OutA W tb r w')
    (kM1 : ∀ W X, Below w.heap.size w W → PN W X ta → Calls Tryz.prog 54 #[X, X] W fun r w' => OutA W t1 r w')
    (kM2 : ∀ W X, Below w.heap.size w W → PN W X tb → Calls Tryz.prog 54 #[X, X] W fun r w' => OutA W t2 r w')
    (kC : ∀ W X Y, Below w.heap.size w W → PN W X t1 → PN W Y t2 → Calls Tryz.prog 40 #[X, Y] W fun r w' => OutA W t3 r w')
    (kR : ∀ W X, Below w.heap.size w W → PN W X t3 → Calls Tryz.prog 60 #[X, .int .i64 m] W fun r w' => r = .returned (.tuple #[.float .f64 F, .int .i64 0]) ∧ Below W.heap.size W w') :
    Calls Tryz.prog 23 #[.float .f64 a, .float .f64 b, .int .i64 m] w fun r w' => r = .returned (.float .f64 F) ∧ Below w.heap.size w w' := by
  have kV := pvalid m w
  rw [hm] at kV
  have HKB : Hid (∀ W, Below w.heap.size w W → Calls Tryz.prog 41 #[.float .f64 b] W fun r w' => OutA W tb r w') := kB
  have HM1 : Hid (∀ W X, Below w.heap.size w W → PN W X ta → Calls Tryz.prog 54 #[X, X] W fun r w' => OutA W t1 r w') := kM1
  have HM2 : Hid (∀ W X, Below w.heap.size w W → PN W X tb → Calls Tryz.prog 54 #[X, X] W fun r w' => OutA W t2 r w') := kM2
  have HKC : Hid (∀ W X Y, Below w.heap.size w W → PN W X t1 → PN W Y t2 → Calls Tryz.prog 40 #[X, Y] W fun r w' => OutA W t3 r w') := kC
  have HKR : Hid (∀ W X, Below w.heap.size w W → PN W X t3 → Calls Tryz.prog 60 #[X, .int .i64 m] W fun r w' => r = .returned (.tuple #[.float .f64 F, .int .i64 0]) ∧ Below W.heap.size W w') := kR
  clear kB kM1 kM2 kC kR
  go_enter Tryz.func23, Tryz.ntmps23
  go_wp2_with fail
  refine kV.mono ?_
  rintro r w' ⟨rfl, hw⟩
  rw [hw]
  clear hw kV
  have kN := hia w
  go_wp2_with fail
  refine kN.mono ?_
  rintro r w' ⟨rfl, hw⟩
  rw [hw]
  clear hw kN hia
  have kN := hib w
  go_wp2_with fail
  refine kN.mono ?_
  rintro r w' ⟨rfl, hw⟩
  rw [hw]
  clear hw kN hib
  have kN := hfa w
  go_wp2_with fail
  refine kN.mono ?_
  rintro r w' ⟨rfl, hw⟩
  rw [hw]
  clear hw kN hfa
  have kN := hfb w
  go_wp2_with fail
  refine kN.mono ?_
  rintro r w' ⟨rfl, hw⟩
  rw [hw]
  clear hw kN hfb
  go_wp2_with fail
  refine kA.mono ?_
  rintro r w1 ⟨s1, ao1, n1, cap1, ex1, rfl, hP1, hb1⟩
  have k2 := HKB.out w1 hb1
  clear kA
  go_wp2_with fail
  refine k2.mono ?_
  rintro r w2 ⟨s2, ao2, n2, cap2, ex2, rfl, hP2, hb2⟩
  have HB2 : Hid (Below w.heap.size w w2 ∧ PN w2 (.agg #[.bool s1, .slice ao1 n1 cap1, .int .i64 ex1]) ta ∧ PN w2 (.agg #[.bool s2, .slice ao2 n2 cap2, .int .i64 ex2]) tb) := ⟨hb1.trans (hb2.mono hb1.size), hP1.later hb2, hP2⟩
  clear k2 hP1 hP2 hb1 hb2
  obtain ⟨W, hW⟩ : ∃ W, W = (w2.alloc (.cells #[.bool s1, .slice ao1 n1 cap1, .int .i64 ex1] 45)).alloc (.cells #[.bool s2, .slice ao2 n2 cap2, .int .i64 ex2] 45) := ⟨_, rfl⟩
  have hh := two29 _ _ hW
  have HX : Hid (Below w.heap.size w W ∧ W.heap[w2.heap.size]? = some (.cells #[.bool s1, .slice ao1 n1 cap1, .int .i64 ex1] 45 (0, 0)) ∧ W.heap[w2.heap.size + 1]? = some (.cells #[.bool s2, .slice ao2 n2 cap2, .int .i64 ex2] 45 (0, 0)) ∧ PN W (.agg #[.bool s1, .slice ao1 n1 cap1, .int .i64 ex1]) ta ∧ PN W (.agg #[.bool s2, .slice ao2 n2 cap2, .int .i64 ex2]) tb) := ⟨HB2.out.1.trans (hh.2.2.2.mono HB2.out.1.size), hh.1, hh.2.1, HB2.out.2.1.later hh.2.2.2, HB2.out.2.2.later hh.2.2.2⟩
  clear hh
  go_upto_region 8 with fail
  rw [← hW]
  clear hW HB2
  generalize w2.heap.size = g2 at *
  have HK : Hid (∀ w', Below W.heap.size W w' → ((w'.cell? ⟨g2, 0, none⟩ = some (.bool s1) ∧ w'.cell? ⟨g2, 1, none⟩ = some (.slice ao1 n1 cap1) ∧ w'.cell? ⟨g2, 2, none⟩ = some (.int .i64 ex1)) ∧ (w'.cell? ⟨g2 + 1, 0, none⟩ = some (.bool s2) ∧ w'.cell? ⟨g2 + 1, 1, none⟩ = some (.slice ao2 n2 cap2) ∧ w'.cell? ⟨g2 + 1, 2, none⟩ = some (.int .i64 ex2))) ∧ Below W.heap.size W w') := fun w' hb => ⟨⟨(box_cells (box_later HX.out.2.1 hb (lt_of_box HX.out.2.1))).1, (box_cells (box_later HX.out.2.2.1 hb (lt_of_box HX.out.2.2.1))).1⟩, hb⟩
  have hBR : Below W.heap.size W W.drew := (Below.refl _ _).drew
  have km1 : ∀ w4, Below W.heap.size W w4 → Calls Tryz.prog 54 #[.agg #[.bool s1, .slice ao1 n1 cap1, .int .i64 ex1], .agg #[.bool s1, .slice ao1 n1 cap1, .int .i64 ex1]] w4 fun r w' => ∃ s ao n cap e, r = .returned (.agg #[.bool s, .slice ao n cap, .int .i64 e]) ∧ PN w' (.agg #[.bool s, .slice ao n cap, .int .i64 e]) t1 ∧ Below W.heap.size W w' := fun w4 hb =>
    (HM1.out w4 _ (HX.out.1.trans (hb.mono HX.out.1.size)) (HX.out.2.2.2.1.later hb)).mono fun r w' ⟨s, ao, n, cap, e, e1, o1, o2⟩ => ⟨s, ao, n, cap, e, e1, o1, hb.trans (o2.mono hb.size)⟩
  have km2 : ∀ w4, Below W.heap.size W w4 → Calls Tryz.prog 54 #[.agg #[.bool s2, .slice ao2 n2 cap2, .int .i64 ex2], .agg #[.bool s2, .slice ao2 n2 cap2, .int .i64 ex2]] w4 fun r w' => ∃ s ao n cap e, r = .returned (.agg #[.bool s, .slice ao n cap, .int .i64 e]) ∧ PN w' (.agg #[.bool s, .slice ao n cap, .int .i64 e]) t2 ∧ Below W.heap.size W w' ∧ Hid (Below w4.heap.size w4 w') := fun w4 hb =>
    (HM2.out w4 _ (HX.out.1.trans (hb.mono HX.out.1.size)) (HX.out.2.2.2.2.later hb)).mono fun r w' ⟨s, ao, n, cap, e, e1, o1, o2⟩ => ⟨s, ao, n, cap, e, e1, o1, hb.trans (o2.mono hb.size), o2⟩
  have kc : ∀ w4 X Y, Below W.heap.size W w4 → PN w4 X t1 → PN w4 Y t2 → Calls Tryz.prog 40 #[X, Y] w4 fun r w' => ∃ s ao n cap e, r = .returned (.agg #[.bool s, .slice ao n cap, .int .i64 e]) ∧ PN w' (.agg #[.bool s, .slice ao n cap, .int .i64 e]) t3 ∧ Below W.heap.size W w' := fun w4 X Y hb h1 h2 =>
    (HKC.out w4 _ _ (HX.out.1.trans (hb.mono HX.out.1.size)) h1 h2).mono fun r w' ⟨s, ao, n, cap, e, e1, o1, o2⟩ => ⟨s, ao, n, cap, e, e1, o1, hb.trans (o2.mono hb.size)⟩
  have kr : ∀ w4 X, Below W.heap.size W w4 → PN w4 X t3 → Calls Tryz.prog 60 #[X, .int .i64 m] w4 fun r w' => r = .returned (.tuple #[.float .f64 F, .int .i64 0]) ∧ Below W.heap.size W w' := fun w4 X hb h1 =>
    (HKR.out w4 _ (HX.out.1.trans (hb.mono HX.out.1.size)) h1).mono fun r w' ⟨e1, o2⟩ => ⟨e1, hb.trans (o2.mono hb.size)⟩
  obtain ⟨⟨⟨a0, a1, a2⟩, ⟨b0, b1, b2⟩⟩, -⟩ := HK.out W (Below.refl _ _)
  go_region_held3 (fun w' => ((w'.cell? ⟨g2, 0, none⟩ = some (.bool s1) ∧ w'.cell? ⟨g2, 1, none⟩ = some (.slice ao1 n1 cap1) ∧ w'.cell? ⟨g2, 2, none⟩ = some (.int .i64 ex1)) ∧ (w'.cell? ⟨g2 + 1, 0, none⟩ = some (.bool s2) ∧ w'.cell? ⟨g2 + 1, 1, none⟩ = some (.slice ao2 n2 cap2) ∧ w'.cell? ⟨g2 + 1, 2, none⟩ = some (.int .i64 ex2))) ∧ Below W.heap.size W w') (first | (with_reducible assumption) | exact ⟨⟨⟨a0, a1, a2⟩, ⟨b0, b1, b2⟩⟩, hBR⟩ | (refine HK.out _ ?_; with_reducible assumption) | go_keep)
    (first | (go_at_call 54; first | (have hq := hP5; clear hq; refine (km2 _ hb5).mono ?_; rintro r w6 ⟨s6, ao6, n6, cap6, e6, rfl, hP6, hb6, hk6⟩) | (refine (km1 _ hBR).mono ?_; rintro r w5 ⟨s5, ao5, n5, cap5, e5, rfl, hP5, hb5⟩))
           | (go_at_call 40; refine (kc _ _ _ hb6 (hP5.later hk6.out) hP6).mono ?_; rintro r w7 ⟨s7, ao7, n7, cap7, e7, rfl, hP7, hb7⟩)
           | (go_at_call 60; refine (kr _ _ hb7 hP7).mono ?_; rintro r w8 ⟨rfl, hb8⟩))
  all_goals
    have HF : Hid (Below w.heap.size w w8) := HX.out.1.trans (hb8.mono HX.out.1.size)
    clear hP5 hb5 hP6 hb6 hk6 hP7 hb7 hb8 km1 km2 kc kr HK hBR a0 a1 a2 b0 b1 b2
    go_wp2_with fail
    go_ret
    exact ⟨rfl, HF.out⟩
end Go.Proofs.YtajeodimbfppiaaGreatDoor

/- Hypot of 3 and 4, and a float made whole: what the law's own test asks. -/
namespace Go.Proofs.YtajeodimbfppiaaGreatDoor
set_option linter.unusedVariables false
set_option linter.unusedSimpArgs false
open Go.RowKit Go.Fl64

/-- the product of two numbers, in its one form -/
def tM (t1 t2 : Bool × Nat × Int) : Bool × Nat × Int := cn (!(t1.1 == t2.1)) (t1.2.1 * t2.2.1) (t1.2.2 + t2.2.2)
/-- how many digits are laid behind a number whose root is taken -/
def sqK (t : Bool × Nat × Int) : Nat := if ((t.2.2 - ((max 0 (128 - (bl t.2.1 : Int))).toNat : Int)).tmod 2 != 0) = true then (max 0 (128 - (bl t.2.1 : Int))).toNat + 1 else (max 0 (128 - (bl t.2.1 : Int))).toNat
theorem td2 (z : Int) (h1 : -80000 ≤ z) (h2 : z ≤ 80000) : -40000 ≤ z.tdiv 2 ∧ z.tdiv 2 ≤ 40000 := by
  by_cases h : 0 ≤ z
  · rw [Int.tdiv_eq_ediv_of_nonneg h]; omega
  · obtain ⟨y, rfl⟩ : ∃ y, z = -y := ⟨-z, by omega⟩
    rw [Int.neg_tdiv, Int.tdiv_eq_ediv_of_nonneg (by omega)]; omega
theorem psqrt {t : Bool × Nat × Int} {X : Value} {m : Int} {w : World} (hT : Tab32 w) (ok : Ok t) (h : PN w X t) (hs : t.1 = false) (hm : 1 ≤ m ∧ m ≤ 3) :
    Calls Tryz.prog 60 #[X, .int .i64 m] w fun r w' => ∃ q, (q * q ≤ t.2.1 * 2 ^ sqK t ∧ t.2.1 * 2 ^ sqK t < (q + 1) * (q + 1)) ∧ r = .returned (.tuple #[.float .f64 (tfF false (decide (q * q = t.2.1 * 2 ^ sqK t)) q ((t.2.2 - (sqK t : Int)).tdiv 2) m), .int .i64 0]) ∧ Below w.heap.size w w' := by
  obtain ⟨pa, pc, rfl, i1⟩ := h
  have f1 := ok.facts
  have bx := bl_le_dlen t.2.1
  rw [hs]
  obtain ⟨k0', hk0⟩ : ∃ k0' : Nat, max 0 (128 - (bl t.2.1 : Int)) = (k0' : Int) := ⟨(max 0 (128 - (bl t.2.1 : Int))).toNat, by omega⟩
  have hq : (max 0 (128 - (bl t.2.1 : Int))).toNat = k0' := by omega
  have hmb : ∀ W' g, Below w.heap.size w W' → W'.heap[g]? = some (.cells #[.bool false, .slice pa (dlen t.2.1) pc, .int .i64 t.2.2] 45 (0, 0)) → Calls Tryz.prog 80 #[.slice (some ⟨g, 0, none⟩) 1 1] W' fun r w' => r = .returned (.bool true) ∧ Below W'.heap.size W' w' := fun W' g hW' hg => by
    have := maybe1 hg (i1.later hW') (by omega)
    have ok' : okN t.1 (dlen t.2.1) t.2.1 t.2.2 = true := ok
    rw [hs] at ok'
    rw [ok'] at this
    exact this
  unfold sqK
  rw [hq]
  by_cases hod : ((t.2.2 - (k0' : Int)).tmod 2 != 0) = true
  · simp only [if_pos hod]
    have := psqrt_o pa _ pc t.2.1 k0' (bl t.2.1) t.2.2 m _ w hT i1 (by omega) (by omega) (by omega) (by omega) rfl (by omega) hk0 (by omega) hod rfl (td2 _ (by omega) (by omega)).1 (td2 _ (by omega) (by omega)).2 hmb
    rw [show ((k0' + 1 : Nat) : Int) = (k0' : Int) + 1 by omega]
    exact this
  · simp only [if_neg hod]
    exact psqrt_e pa _ pc t.2.1 k0' (bl t.2.1) t.2.2 m _ w hT i1 (by omega) (by omega) (by omega) (by omega) rfl (by omega) hk0 (by omega) (by simpa using hod) rfl (td2 _ (by omega) (by omega)).1 (td2 _ (by omega) (by omega)).2 hmb

theorem root_only {q q' N : Nat} (h1 : q * q ≤ N) (h2 : N < (q + 1) * (q + 1)) (h3 : q' * q' ≤ N) (h4 : N < (q' + 1) * (q' + 1)) : q = q' := by
  rcases Nat.lt_trichotomy q q' with h | h | h
  · have : (q + 1) * (q + 1) ≤ q' * q' := Nat.mul_le_mul h h
    omega
  · exact h
  · have : (q' + 1) * (q' + 1) ≤ q * q := Nat.mul_le_mul h h
    omega

theorem pinf_n (a : Nat) (ha : a < 18446744073709551616) (hf : mag a < 9218868437227405312) (w : World) : Calls Tryz.prog 62 #[.float .f64 a, .int .i64 0] w fun r w' => r = .returned (.bool false) ∧ w' = w := by
  have := c123 a ha w
  rw [show lt 9218868437227405311 (mag a) = false by
    unfold lt
    have h1 : stp 9218868437227405311 = 9218868437227405311 := by decide
    have h2 : stp (mag a) = mag a := by unfold stp sgn neg; rw [decide_eq_false (by omega)]; unfold mag; simp
    rw [h1, h2]
    simp; omega] at this
  exact this

theorem hyp_t : tS (tM (tF 4613937818241073152) (tF 4613937818241073152)) (tM (tF 4616189618054758400) (tF 4616189618054758400)) = (false, 25, 0) := by decide +kernel
theorem hyp_k : sqK (false, 25, 0) = 124 := by decide +kernel
theorem hyp_f : tfF false true (5 * 2 ^ 62) (-62) 3 = 4617315517961601024 := by decide +kernel
theorem hyp_1 : okR (!((tF 4613937818241073152).1 == (tF 4613937818241073152).1)) ((tF 4613937818241073152).2.1 * (tF 4613937818241073152).2.1) ((tF 4613937818241073152).2.2 + (tF 4613937818241073152).2.2) = true := by decide +kernel
theorem hyp_2 : okR (!((tF 4616189618054758400).1 == (tF 4616189618054758400).1)) ((tF 4616189618054758400).2.1 * (tF 4616189618054758400).2.1) ((tF 4616189618054758400).2.2 + (tF 4616189618054758400).2.2) = true := by decide +kernel

theorem tM_ok {t1 t2 : Bool × Nat × Int} (h : okR (!(t1.1 == t2.1)) (t1.2.1 * t2.2.1) (t1.2.2 + t2.2.2) = true) : Ok (tM t1 t2) := ok_cn h
theorem sure_hyp (w : World) (hT : Tab32 w) (hI : Ie.Tab w) : Calls Tryz.prog 23 #[.float .f64 4613937818241073152, .float .f64 4616189618054758400, .int .i64 3] w fun r w' => r = .returned (.float .f64 4617315517961601024) ∧ Below w.heap.size w w' := by
  have m1 := mul_op (tF_ok 4613937818241073152) (tF_ok 4613937818241073152) hyp_1
  have m2 := mul_op (tF_ok 4616189618054758400) (tF_ok 4616189618054758400) hyp_2
  have hadd := add_op (tM_ok hyp_1) (tM_ok hyp_2) (by decide +kernel)
  refine phyp_r _ _ _ 3 (tF 4613937818241073152) (tF 4616189618054758400) (tM (tF 4613937818241073152) (tF 4613937818241073152)) (tM (tF 4616189618054758400) (tF 4616189618054758400)) (false, 25, 0) w (by decide) (pinf_n _ (by decide) (by decide)) (pinf_n _ (by decide) (by decide)) (pfin_y _ (by decide) (by decide)) (pfin_y _ (by decide) (by decide)) (exact_ok _ (by decide) (by decide) w hT hI) (fun W h => exact_ok _ (by decide) (by decide) W (hT.later h) (Tab.later hI h)) (fun W X h h1 => multiplied_op m1 (hT.later h) h1 h1) (fun W X h h1 => multiplied_op m2 (hT.later h) h1 h1) (fun W X Y h h1 h2 => ?_) (fun W X h h1 => ?_)
  · have := added_op hadd (hT.later h) h1 h2
    rw [show cn _ _ _ = (false, 25, 0) from hyp_t] at this
    exact this
  · refine (psqrt (t := (false, 25, 0)) (hT.later h) (show okN false (dlen 25) 25 0 = true by decide +kernel) h1 rfl (by omega)).mono ?_
    rintro r w' ⟨q, ⟨q1, q2⟩, rfl, hb⟩
    refine ⟨?_, hb⟩
    simp only [hyp_k] at q1 q2 ⊢
    have e : q = 5 * 2 ^ 62 := root_only q1 q2 (by decide) (by decide)
    subst e
    rw [decide_eq_true (by decide : (5 * 2 ^ 62) * (5 * 2 ^ 62) = 25 * 2 ^ 124), show ((0 : Int) - ((124 : Nat) : Int)).tdiv 2 = -62 by decide, hyp_f]
end Go.Proofs.YtajeodimbfppiaaGreatDoor

/- Products and quotients of floats of which one is nought or not finite. -/
namespace Go.Fl64
set_option linter.unusedVariables false
set_option linter.unusedSimpArgs false

/-- finite and not nought -/
def pln (a : Nat) : Bool := decide (mag a < 9218868437227405312) && decide (mag a ≠ 0)
theorem pln_true {a : Nat} : pln a = true ↔ (mag a < 9218868437227405312 ∧ mag a ≠ 0) := by
  unfold pln
  by_cases h1 : mag a < 9218868437227405312 <;> by_cases h2 : mag a = 0 <;> simp [h1, h2]

theorem nan_no {a : Nat} (h : mag a ≤ 9218868437227405312) : isNaN a = false := by unfold isNaN; simp; omega
end Go.Fl64

/- The program's Mul and Div of floats, in every case. -/
namespace Go.Proofs.YtajeodimbfppiaaGreatDoor
set_option linter.unusedVariables false
set_option linter.unusedSimpArgs false
open Go.RowKit Go.Fl64

theorem pplain_t (a : Nat) (ha : a < 18446744073709551616) (h : pln a = true) (w : World) : Calls Tryz.prog 53 #[.float .f64 a] w fun r w' => r = .returned (.bool true) ∧ w' = w := pplain_y a ha (pln_true.1 h).1 (pln_true.1 h).2 w

theorem tM_okR (a b : Nat) : okR (!((tF a).1 == (tF b).1)) ((tF a).2.1 * (tF b).2.1) ((tF a).2.2 + (tF b).2.2) = true := (Fits.mul (tF_fits a) (tF_fits b)).ok (by omega) (by omega) (by omega)
theorem tfM_lt (ex : Bool) (x : Nat) : tfM ex x < 18446744073709551616 := by
  have h1 : x < 2 ^ (tfD x + 64) := Nat.lt_of_lt_of_le (lt_bl x) (Nat.pow_le_pow_right (by decide) (by unfold tfD; omega))
  rw [Nat.pow_add] at h1
  have h2 : x / 2 ^ tfD x < 2 ^ 64 := Nat.div_lt_of_lt_mul h1
  have h3 : x / 2 ^ tfD x ||| 1 < 2 ^ 64 := Nat.or_lt_two_pow h2 (by decide)
  unfold tfM
  split
  · exact h2
  · exact h3
theorem tfF_lt' {s ex : Bool} {x : Nat} {e m : Int} (hm : 1 ≤ m ∧ m ≤ 3) : tfF s ex x e m < 18446744073709551616 := by
  unfold tfF Ie.mk
  rw [if_pos (by omega)]
  refine sig_lt ?_
  split
  · omega
  · rename_i h0
    have := Ie.bod_bounds (tfM ex x) (e + (tfD x : Int)) (Ie.wy s m) (tfM_lt ex x) h0
    omega
theorem rtF_lt {t1 t2 : Bool × Nat × Int} {m : Int} (hm : 1 ≤ m ∧ m ≤ 3) : rtF t1 t2 m < 18446744073709551616 := tfF_lt' hm
end Go.Proofs.YtajeodimbfppiaaGreatDoor

/- The program's Fma of floats. -/
namespace Go.Proofs.YtajeodimbfppiaaGreatDoor
set_option linter.unusedVariables false
set_option linter.unusedSimpArgs false
open Go.RowKit Go.Fl64

end Go.Proofs.YtajeodimbfppiaaGreatDoor

/- The document's quotient, rounded: the program's float. -/
namespace Go.Proofs.YtajeodimbfppiaaGreatDoor
set_option linter.unusedVariables false
set_option linter.unusedSimpArgs false
open Go.RowKit Go.Fl64
open Ie

theorem bl_shl' {x k : Nat} (h : x ≠ 0) : bl (x * 2 ^ k) = bl x + k := by
  have h1 := lt_bl x
  have h2 := le_bl h
  have hb := bl_ne h
  have a : bl (x * 2 ^ k) ≤ bl x + k := (bl_le _ _).2 (by rw [Nat.pow_add]; exact Nat.mul_lt_mul_of_pos_right h1 (Nat.two_pow_pos k))
  have b : bl x + k - 1 + 1 ≤ bl (x * 2 ^ k) := bl_ge.2 (by rw [show bl x + k - 1 = bl x - 1 + k by omega, Nat.pow_add]; exact Nat.mul_le_mul_right _ h2)
  omega
theorem bl_quo_lo {N y : Nat} (hy : y ≠ 0) : bl N ≤ bl (N / y) + bl y := by
  refine (bl_le _ _).2 ?_
  have h1 : N < y * (N / y + 1) := Nat.lt_mul_div_succ N (Nat.pos_of_ne_zero hy)
  have h2 := lt_bl (N / y)
  have h3 := lt_bl y
  rw [Nat.pow_add, Nat.mul_comm (2 ^ bl (N / y))]
  exact Nat.lt_of_lt_of_le h1 (Nat.mul_le_mul (Nat.le_of_lt h3) h2)
end Go.Proofs.YtajeodimbfppiaaGreatDoor

/- The document's product of numbers, that can be handed on; its Mul and Div of floats. -/
namespace Go.Proofs.YtajeodimbfppiaaGreatDoor
set_option linter.unusedVariables false
set_option linter.unusedSimpArgs false
open Go.RowKit Go.Fl64

set_option maxHeartbeats 4000000 in
set_option maxRecDepth 200000 in
theorem xtimes_1 (na nb sg : Bool) (ua va : Option Addr) (un uc vn vc x y : Nat) (ea eb : Int) (w : World) (h1 : Ir w (.slice ua un uc) x) (h2 : Ir w (.slice va vn vc) y) (hx : dlen x ≤ 400000) (hy : dlen y ≤ 400000) (he1 : -4000000 ≤ ea) (he2 : ea ≤ 4000000) (he3 : -4000000 ≤ eb) (he4 : eb ≤ 4000000) (hsg : (!(na == nb)) = sg) :
    Calls Tryz.prog 31 #[.agg #[.bool na, .slice ua un uc, .int .i64 ea], .agg #[.bool nb, .slice va vn vc, .int .i64 eb]] w fun r w' => ∃ a, r = .returned a ∧ NC w' w.heap.size a sg (x * y) (ea + eb) ∧ Below w.heap.size w w' := by
  obtain ⟨W, hW⟩ : ∃ W, W = ((w.alloc (.cells #[.bool na, .slice ua un uc, .int .i64 ea] 38)).alloc (.cells #[.bool nb, .slice va vn vc, .int .i64 eb] 38)).alloc (.cells #[.bool false, .slice none 0 0, .int .i64 0] 38) := ⟨_, rfl⟩
  obtain ⟨hA, hBb, hC, hsz, hBW⟩ := boxes3 _ _ _ hW
  have hxy : dlen (x * y) ≤ 1000000 := by
    have l1 := (dlen_le (dlen x) x).1 (Nat.le_refl _)
    have l2 := (dlen_le (dlen y) y).1 (Nat.le_refl _)
    have : dlen (x * y) ≤ dlen x + dlen y := (dlen_le _ _).2 (by
      rw [Nat.pow_add]
      rcases Nat.eq_zero_or_pos x with h | h
      · rw [h, Nat.zero_mul]; exact Nat.mul_pos (Bpow_pos _) (Bpow_pos _)
      · exact Nat.mul_lt_mul_of_lt_of_le l1 (Nat.le_of_lt l2) (Bpow_pos _))
    omega
  have HH : Hid (W.heap[w.heap.size + 1 + 1]? = some (.cells #[.bool false, .slice none 0 0, .int .i64 0] 38 (0, 0)) ∧ W.heap.size = w.heap.size + 1 + 1 + 1 ∧ Below w.heap.size w W) := ⟨hC, hsz, hBW⟩
  have k78 : ∀ w4, Below W.heap.size W w4 → Calls Tryz.prog 73 #[.slice ua un uc, .slice va vn vc] w4 fun r w' => ∃ v, r = .returned v ∧ Own w' W.heap.size v (x * y) ∧ Below W.heap.size W w' := fun w4 hb =>
    (rprod ((h1.later hBW).later hb) ((h2.later hBW).later hb) (by omega) (by omega)).mono fun r w' ⟨v, e1, o1, o2⟩ => ⟨v, e1, o1.mono hb.size, hb.trans (o2.mono hb.size)⟩
  have k31 : ∀ v5 w5, Own w5 W.heap.size v5 (x * y) → Below W.heap.size W w5 → Calls Tryz.prog 67 #[.bool sg, v5, .int .i64 (ea + eb)] w5 fun r w' => ∃ s ao n cap ex, r = .returned (.agg #[.bool s, .slice ao n cap, .int .i64 ex]) ∧
      Hid (NC w' w5.heap.size (.agg #[.bool s, .slice ao n cap, .int .i64 ex]) sg (x * y) (ea + eb) ∧ W.heap.size ≤ w5.heap.size) ∧ Below W.heap.size W w' ∧ Hid (w'.heap[w.heap.size + 1 + 1]? = some (.cells #[.bool false, .slice none 0 0, .int .i64 0] 38 (0, 0))) ∧
      (w'.cell? ⟨w.heap.size + 1 + 1, 0, none⟩ = some (.bool false) ∧ w'.cell? ⟨w.heap.size + 1 + 1, 1, none⟩ = some (.slice none 0 0) ∧ w'.cell? ⟨w.heap.size + 1 + 1, 2, none⟩ = some (.int .i64 0)) ∧ (w'.frozen? ⟨w.heap.size + 1 + 1, 0, none⟩ = false ∧ w'.frozen? ⟨w.heap.size + 1 + 1, 1, none⟩ = false ∧ w'.frozen? ⟨w.heap.size + 1 + 1, 2, none⟩ = false) := by
    intro v5 w5 ho hb
    obtain ⟨ao0, cap0, rfl, hl0, -, hat0⟩ := ho.is
    refine (rnormN hat0 (Nat.le_refl _) hl0 (by omega) (by omega)).mono ?_
    rintro r w6 ⟨a, rfl, hN, hb6⟩
    obtain ⟨s, ao, n, cap, ex, rfl⟩ := hN.shape
    have hb46 : Below W.heap.size W w6 := hb.trans (hb6.mono hb.size)
    have hblk := box_later HH.out.1 hb46 (by have := HH.out.2.1; omega)
    obtain ⟨f1, f2⟩ := box_cells29 hblk
    exact ⟨s, ao, n, cap, ex, rfl, ⟨hN, hb.size⟩, hb46, hblk, f1, f2⟩
  obtain ⟨⟨a0, a1, a2⟩, -⟩ := box_cells29 hA
  obtain ⟨⟨b0, b1, b2⟩, -⟩ := box_cells29 hBb
  have HK : Hid (∀ w', Below W.heap.size W w' → ((w'.cell? ⟨w.heap.size, 0, none⟩ = some (.bool na) ∧ w'.cell? ⟨w.heap.size, 1, none⟩ = some (.slice ua un uc) ∧ w'.cell? ⟨w.heap.size, 2, none⟩ = some (.int .i64 ea)) ∧ (w'.cell? ⟨w.heap.size + 1, 0, none⟩ = some (.bool nb) ∧ w'.cell? ⟨w.heap.size + 1, 1, none⟩ = some (.slice va vn vc) ∧ w'.cell? ⟨w.heap.size + 1, 2, none⟩ = some (.int .i64 eb)))) := fun w' hb => ⟨(box_cells29 (box_later hA hb (by omega))).1, (box_cells29 (box_later hBb hb (by omega))).1⟩
  have HK2 : Hid (∀ w', Below (w.heap.size + 1 + 1) W w' → ((w'.cell? ⟨w.heap.size, 0, none⟩ = some (.bool na) ∧ w'.cell? ⟨w.heap.size, 1, none⟩ = some (.slice ua un uc) ∧ w'.cell? ⟨w.heap.size, 2, none⟩ = some (.int .i64 ea)) ∧ (w'.cell? ⟨w.heap.size + 1, 0, none⟩ = some (.bool nb) ∧ w'.cell? ⟨w.heap.size + 1, 1, none⟩ = some (.slice va vn vc) ∧ w'.cell? ⟨w.heap.size + 1, 2, none⟩ = some (.int .i64 eb)))) := fun w' hb => ⟨(box_cells29 (box_later hA hb (by omega))).1, (box_cells29 (box_later hBb hb (by omega))).1⟩
  have HS2 : Hid (w.heap.size + 1 + 1 ≤ W.heap.size) := (by omega : w.heap.size + 1 + 1 ≤ W.heap.size)
  have hBR : Below W.heap.size W W.drew := (Below.refl _ _).drew
  have wz : IntKind.i64.wrap (ea + eb) = ea + eb := by rw [IntKind.wrap_i64]; omega
  clear hA hBb hC hsz hBW h1 h2 hx hy hxy
  go_enter Tryz.func31, Tryz.ntmps31
  go_upto_region 1 with fail
  rw [← hW]
  clear hW
  go_region_held3 (fun w' => ((w'.cell? ⟨w.heap.size, 0, none⟩ = some (.bool na) ∧ w'.cell? ⟨w.heap.size, 1, none⟩ = some (.slice ua un uc) ∧ w'.cell? ⟨w.heap.size, 2, none⟩ = some (.int .i64 ea)) ∧ (w'.cell? ⟨w.heap.size + 1, 0, none⟩ = some (.bool nb) ∧ w'.cell? ⟨w.heap.size + 1, 1, none⟩ = some (.slice va vn vc) ∧ w'.cell? ⟨w.heap.size + 1, 2, none⟩ = some (.int .i64 eb)))) (first | (with_reducible assumption) | exact ⟨⟨a0, a1, a2⟩, b0, b1, b2⟩ | (refine HK.out _ ?_; with_reducible assumption) | (refine HK2.out _ (below_store3 (Below.mono hb6 HS2.out) (Nat.le_refl _) _ _ _)) | go_keep)
    (first | (go_at_call 73; refine (k78 _ (by first | (with_reducible assumption) | exact hBR)).mono ?_; rintro r w5 ⟨v5, rfl, ho5, hb5⟩) | (go_at_call 67; (try simp only [hsg, wz]); refine (k31 _ _ ho5 hb5).mono ?_; rintro r w6 ⟨s6, ao6, n6, cap6, ex6, rfl, hN6, hb6, hblk6, ⟨x1, x2, x3⟩, x4, x5, x6⟩))
  have HF : Hid (Below W.heap.size W w6) := hb6
  clear ho5 hb5 hb6 k31 k78 x1 x2 x3 x4 x5 x6 a0 a1 a2 b0 b1 b2 HK HK2
  go_wp2
  refine bodyPost_ret (results_cell_row rfl _ _ (w.heap.size + 1 + 1) 38 #[.bool s6, .slice ao6 n6 cap6, .int .i64 ex6] (0, 0) _ rfl (store3_29 _ _ _ hblk6.out) Tryz.underlying38 rfl Tryz.info38) rfl ?_
  obtain ⟨-, hs, hBW⟩ := HH.out
  have hs5 := hN6.out.2
  exact ⟨_, rfl, (hN6.out.1.store (by omega) _ _ _).mono (by omega), below_store3 (hBW.trans (HF.out.mono hBW.size)) (by omega) _ _ _⟩


theorem times_dn {t1 t2 : Bool × Nat × Int} {X Y : Value} {w : World} (o1 : Ok t1) (o2 : Ok t2) (h1 : DN w X t1) (h2 : DN w Y t2) : Calls Tryz.prog 31 #[X, Y] w fun r w' => ∃ A, r = .returned A ∧ DN w' A (tM t1 t2) ∧ Below w.heap.size w w' := by
  obtain ⟨ao, cap, rfl, a1⟩ := h1
  obtain ⟨ao', cap', rfl, a2⟩ := h2
  obtain ⟨f1, f2, f3, -, -⟩ := o1.facts
  obtain ⟨g1, g2, g3, -, -⟩ := o2.facts
  exact (xtimes_1 t1.1 t2.1 _ ao ao' _ cap _ cap' t1.2.1 t2.2.1 t1.2.2 t2.2.2 w ⟨ao, cap, rfl, a1.le, a1.at_⟩ ⟨ao', cap', rfl, a2.le, a2.at_⟩ (by omega) (by omega) (by omega) (by omega) (by omega) (by omega) rfl).mono fun r w' ⟨A, e, h, hb⟩ => ⟨A, e, h.dn, hb⟩

end Go.Proofs.YtajeodimbfppiaaGreatDoor

/- The document's root, rounded: the program's float. -/
namespace Go.Proofs.YtajeodimbfppiaaGreatDoor
set_option linter.unusedVariables false
set_option linter.unusedSimpArgs false
open Go.RowKit Go.Fl64

theorem bl_root_lo {N q : Nat} (h : N < (q + 1) * (q + 1)) : bl N ≤ 2 * bl q := by
  refine (bl_le _ _).2 (Nat.lt_of_lt_of_le h ?_)
  rw [four_two]
  exact Nat.mul_le_mul (lt_bl q) (lt_bl q)
end Go.Proofs.YtajeodimbfppiaaGreatDoor

/- Square roots of numbers: the program's and the document's are one float; Sqrt of floats. -/
namespace Go.Proofs.YtajeodimbfppiaaGreatDoor
set_option linter.unusedVariables false
set_option linter.unusedSimpArgs false
open Go.RowKit Go.Fl64

theorem rootEx (a : Nat) : ∃ s, s * s ≤ a ∧ a < (s + 1) * (s + 1) := by
  induction a with
  | zero => exact ⟨0, by omega, by omega⟩
  | succ n ih =>
    obtain ⟨s, h1, h2⟩ := ih
    by_cases h : n + 1 < (s + 1) * (s + 1)
    · exact ⟨s, by omega, h⟩
    · refine ⟨s + 1, by omega, ?_⟩
      have : (s + 1 + 1) * (s + 1 + 1) = (s + 1) * (s + 1) + 2 * (s + 1) + 1 := by grind
      omega
theorem sqK_even (t : Bool × Nat × Int) : t.2.2 - (sqK t : Int) = 2 * (t.2.2 - (sqK t : Int)).tdiv 2 := by
  unfold sqK
  generalize (max 0 (128 - (bl t.2.1 : Int))).toNat = k
  by_cases hod : ((t.2.2 - (k : Int)).tmod 2 != 0) = true
  · rw [if_pos hod]
    have hod' : (t.2.2 - (k : Int)).tmod 2 ≠ 0 := by simpa using hod
    have h3 := Int.mul_tdiv_add_tmod (t.2.2 - ((k + 1 : Nat) : Int)) 2
    have h5 : ¬ (2 ∣ t.2.2 - (k : Int)) := fun d => hod' (Int.tmod_eq_zero_of_dvd d)
    have h4 : (t.2.2 - ((k + 1 : Nat) : Int)).tmod 2 = 0 := Int.tmod_eq_zero_of_dvd (by omega)
    omega
  · rw [if_neg hod]
    have hod' : (t.2.2 - (k : Int)).tmod 2 = 0 := by simpa using hod
    have h3 := Int.mul_tdiv_add_tmod (t.2.2 - (k : Int)) 2
    omega
theorem sqK_big (t : Bool × Nat × Int) : 128 ≤ bl t.2.1 + sqK t := by
  unfold sqK
  split <;> omega
theorem lt_nought {a : Nat} (ha : a < 18446744073709551616) : (FloatKind.f64.format.order a 0 == some Ordering.lt) = (!isNaN a && neg a && decide (mag a ≠ 0)) := by
  rw [ord_lt a 0 ha (by decide)]
  unfold lt
  have nb : isNaN 0 = false := by decide
  have e0 : stp 0 = 0 := by decide
  rw [nb, e0]
  cases isNaN a
  · have : decide (stp a < 0) = (neg a && decide (mag a ≠ 0)) := by
      unfold stp sgn
      cases neg a
      · show decide ((mag a : Int) < 0) = (false && _)
        rw [decide_eq_false (by omega)]; rfl
      · show decide (-(mag a : Int) < 0) = (true && decide (mag a ≠ 0))
        by_cases h : mag a = 0
        · simp [h]
        · rw [decide_eq_true (by omega), decide_eq_true h]; rfl
    rw [this]; simp
  · rfl

theorem psq_r (a F : Nat) (m : Int) (ta : Bool × Nat × Int) (w : World) (hm : isM m = true) (hl : (FloatKind.f64.format.order a 0 == some Ordering.lt) = false) (hf : ∀ W, Calls Tryz.prog 53 #[.float .f64 a] W fun r w' => r = .returned (.bool true) ∧ w' = W)
    (kA : Calls Tryz.prog 41 #[.float .f64 a] w fun r w' => OutA w ta r w')
    (kR : ∀ W X, Below w.heap.size w W → PN W X ta → Calls Tryz.prog 60 #[X, .int .i64 m] W fun r w' => r = .returned (.tuple #[.float .f64 F, .int .i64 0]) ∧ Below W.heap.size W w') : Calls Tryz.prog 21 #[.float .f64 a, .int .i64 m] w fun r w' => r = .returned (.float .f64 F) ∧ Below w.heap.size w w' := by
  have kV := pvalid m w
  rw [hm] at kV
  have HKR : Hid (∀ W X, Below w.heap.size w W → PN W X ta → Calls Tryz.prog 60 #[X, .int .i64 m] W fun r w' => r = .returned (.tuple #[.float .f64 F, .int .i64 0]) ∧ Below W.heap.size W w') := kR
  clear kR
  go_enter Tryz.func21, Tryz.ntmps21
  go_wp2_with fail
  refine kV.mono ?_
  rintro r w' ⟨rfl, hw⟩
  rw [hw]
  clear hw kV w'
  have kN := hf w
  go_wp2_with fail
  refine kN.mono ?_
  rintro r w' ⟨rfl, hw⟩
  rw [hw]
  clear hw kN hf w'
  go_wp2_with fail
  refine kA.mono ?_
  rintro r w1 ⟨s1, ao1, n1, cap1, ex1, rfl, hP1, hb1⟩
  have HB1 : Hid (Below w.heap.size w w1) := hb1
  have k2 := HKR.out w1 _ hb1 hP1
  clear kA hb1 hP1
  go_wp2_with fail
  refine k2.mono ?_
  rintro r w2 ⟨rfl, hb2⟩
  have HB2 : Hid (Below w.heap.size w w2) := HB1.out.trans (hb2.mono HB1.out.size)
  clear k2 hb2
  go_wp2_with fail
  go_ret
  exact ⟨rfl, HB2.out⟩

theorem tF_pos {a : Nat} (h : neg a = false) : (tF a).1 = false := by
  unfold tF cn
  split
  · rfl
  · exact h
end Go.Proofs.YtajeodimbfppiaaGreatDoor

/- The document's Fma of floats. -/
namespace Go.Proofs.YtajeodimbfppiaaGreatDoor
set_option linter.unusedVariables false
set_option linter.unusedSimpArgs false
open Go.RowKit Go.Fl64

end Go.Proofs.YtajeodimbfppiaaGreatDoor

/- A float made whole, with a sign: what the law's own test asks. -/
namespace Go.Proofs.YtajeodimbfppiaaGreatDoor
set_option linter.unusedVariables false
set_option linter.unusedSimpArgs false
open Go.RowKit Go.Fl64

theorem pcopysign (a b : Nat) (ha : a < 18446744073709551616) (hb : b < 18446744073709551616) (w : World) :
    Calls Tryz.prog 119 #[.float .f64 a, .float .f64 b] w fun e w' => e = .returned (.float .f64 (sig (neg b) (mag a))) ∧ w' = w := by
  have kb := Ie.run_bits
  have kf := Ie.run_frombits
  go_enter Tryz.func119, Tryz.ntmps119
  go_wp2
  go_ret
  refine ⟨?_, rfl⟩
  show Ending.returned (.float .f64 (bits .or .u64 (bits .andNot .u64 (a : Int) 9223372036854775808) (bits .and .u64 (b : Int) 9223372036854775808)).toNat) = _
  rw [andNot_sign a ha, and_sign b hb]
  cases neg b with
  | true => rw [if_pos rfl, or_sign _ (mag_lt a)]; rfl
  | false => rw [if_neg (by decide), or_zero _ (mag_lt a)]; rfl
theorem pwith (a b : Nat) (ha : a < 18446744073709551616) (hb : b < 18446744073709551616) (w : World) :
    Calls Tryz.prog 88 #[.float .f64 a, .float .f64 b] w fun e w' => e = .returned (.float .f64 (withF a b)) ∧ w' = w := by
  have na := self_ne a ha
  have nb := self_ne b hb
  have k38 := c159 a ha
  have k39 := pcopysign a b ha hb
  unfold withF
  clear ha hb
  generalize isNaN a = x at na ⊢
  generalize isNaN b = y at nb ⊢
  generalize mag a = m at k38 k39 ⊢
  generalize sig (neg b) m = r at k39 ⊢
  cases x with
  | true =>
    simp only [if_true]
    go_enter Tryz.func88, Tryz.ntmps88
    go_wp2_with (first | (go_at_call 101; refine (k38 _).mono ?_; rintro e w' ⟨rfl, rfl⟩) | (go_at_call 119; refine (k39 _).mono ?_; rintro e w' ⟨rfl, rfl⟩))
    go_ret
    exact ⟨rfl, rfl⟩
  | false =>
    cases y with
    | true =>
      simp only [if_true, if_false, Bool.false_eq_true]
      go_enter Tryz.func88, Tryz.ntmps88
      go_wp2_with (first | (go_at_call 101; refine (k38 _).mono ?_; rintro e w' ⟨rfl, rfl⟩) | (go_at_call 119; refine (k39 _).mono ?_; rintro e w' ⟨rfl, rfl⟩))
      go_ret
      exact ⟨rfl, rfl⟩
    | false =>
      simp only [if_false, Bool.false_eq_true]
      go_enter Tryz.func88, Tryz.ntmps88
      go_wp2_with (first | (go_at_call 101; refine (k38 _).mono ?_; rintro e w' ⟨rfl, rfl⟩) | (go_at_call 119; refine (k39 _).mono ?_; rintro e w' ⟨rfl, rfl⟩))
      go_ret
      exact ⟨rfl, rfl⟩
theorem run_even25 (w : World) : (callFunc 86 #[.float .f64 4612811918334230528]).run Tryz.prog w = .ok (.value (.float .f64 4611686018427387904)) w :=
  run_callFunc_extern Tryz.func86 (e := Extern.MathFloor.toIntegral "math.RoundToEven" .even) (by kernel_rfl) (by kernel_rfl) (by kernel_rfl) (by kernel_rfl) #[.float .f64 4612811918334230528] w
theorem sure_whole (w : World) : Calls Tryz.prog 51 #[.float .f64 4612811918334230528, .int .i64 2] w fun r w' => r = .returned (.float .f64 4611686018427387904) ∧ w' = w := by
  have k := pwith 4611686018427387904 4612811918334230528 (by decide) (by decide)
  rw [show withF 4611686018427387904 4612811918334230528 = 4611686018427387904 by decide +kernel] at k
  have kn := Ie.c52
  have ke := run_even25
  go_enter Tryz.func51, Tryz.ntmps51
  go_wp2_with (first | (go_at_call 38; refine (kn _).mono ?_; rintro e w' ⟨rfl, rfl⟩) | (go_at_call 88; refine (k _).mono ?_; rintro e w' ⟨rfl, rfl⟩))
  go_ret
  exact ⟨rfl, rfl⟩
end Go.Proofs.YtajeodimbfppiaaGreatDoor

/- The program's leastRest: the least that is left. -/
namespace Go.Proofs.YtajeodimbfppiaaGreatDoor
set_option linter.unusedVariables false
set_option linter.unusedSimpArgs false
open Go.RowKit Go.Fl64

/-- a number in its box, made since a world -/
def BxP (w3 wc : World) (g : Nat) (s : Bool) (ao : Option Addr) (n cap : Nat) (ex : Int) (t : Bool × Nat × Int) : Prop := wc.heap[g]? = some (.cells #[.bool s, .slice ao n cap, .int .i64 ex] 45 (0, 0)) ∧ w3.heap.size ≤ g ∧ Below w3.heap.size w3 wc ∧ PN wc (.agg #[.bool s, .slice ao n cap, .int .i64 ex]) t
theorem BxP.new {w3 w7 : World} {s : Bool} {ao : Option Addr} {n cap : Nat} {ex : Int} {t : Bool × Nat × Int} (hn : PN w7 (.agg #[.bool s, .slice ao n cap, .int .i64 ex]) t) (hb : Below w3.heap.size w3 w7) : BxP w3 (w7.alloc (.cells #[.bool s, .slice ao n cap, .int .i64 ex] 45)) w7.heap.size s ao n cap ex t :=
  ⟨heap_alloc_new _ _, hb.size, hb.alloc hb.size _, hn.later ((Below.refl _ _).alloc (Nat.le_refl _) _)⟩
theorem BxP.put {w3 w7 : World} {g : Nat} {s : Bool} {ao : Option Addr} {n cap : Nat} {ex : Int} {t : Bool × Nat × Int} (hn : PN w7 (.agg #[.bool s, .slice ao n cap, .int .i64 ex]) t) (hb : Below w3.heap.size w3 w7) (hg : w3.heap.size ≤ g) (hbx : w7.heap[g]? = some (.cells #[.bool false, .slice none 0 0, .int .i64 0] 45 (0, 0))) :
    BxP w3 (((w7.setCell ⟨g, 0, none⟩ (.bool s)).setCell ⟨g, 1, none⟩ (.slice ao n cap)).setCell ⟨g, 2, none⟩ (.int .i64 ex)) g s ao n cap ex t :=
  ⟨store3 _ _ _ hbx, hg, below_store3 hb hg _ _ _, pn_store hn hbx _ _ _⟩

set_option maxHeartbeats 8000000 in
set_option maxRecDepth 200000 in
theorem lrest_g (s1 s2 : Bool) (ao1 ao2 : Option Addr) (n1 cap1 n2 cap2 : Nat) (ex1 ex2 c : Int) (ta tb tq tm tr tn tra tna : Bool × Nat × Int) (w : World) (hc : 0 < c)
    (hA : PN w (.agg #[.bool s1, .slice ao1 n1 cap1, .int .i64 ex1]) ta) (hB : PN w (.agg #[.bool s2, .slice ao2 n2 cap2, .int .i64 ex2]) tb)
    (kQ : ∀ W, Below w.heap.size w W → Calls Tryz.prog 120 #[.agg #[.bool s1, .slice ao1 n1 cap1, .int .i64 ex1], .agg #[.bool s2, .slice ao2 n2 cap2, .int .i64 ex2], .int .i64 0] W fun r w' => ∃ s ao n cap e x, r = .returned (.tuple #[.agg #[.bool s, .slice ao n cap, .int .i64 e], .bool x, .int .i64 0]) ∧ PN w' (.agg #[.bool s, .slice ao n cap, .int .i64 e]) tq ∧ Below W.heap.size W w')
    (kM : ∀ W X Y, Below w.heap.size w W → PN W X tq → PN W Y tb → Calls Tryz.prog 54 #[X, Y] W fun r w' => OutA W tm r w')
    (kT1 : ∀ W X Y, Below w.heap.size w W → PN W X ta → PN W Y tm → Calls Tryz.prog 121 #[X, Y] W fun r w' => OutA W tr r w')
    (kT2 : ∀ W X Y, Below w.heap.size w W → PN W X tr → PN W Y tb → Calls Tryz.prog 121 #[X, Y] W fun r w' => OutA W tn r w')
    (kA1 : ∀ W X, Below w.heap.size w W → PN W X tr → Calls Tryz.prog 123 #[X] W fun r w' => OutA W tra r w')
    (kA2 : ∀ W X, Below w.heap.size w W → PN W X tn → Calls Tryz.prog 123 #[X] W fun r w' => OutA W tna r w')
    (kC : ∀ W X Y, Below w.heap.size w W → PN W X tra → PN W Y tna → Calls Tryz.prog 122 #[X, Y] W fun r w' => r = .returned (.int .i64 c) ∧ Below W.heap.size W w') :
    Calls Tryz.prog 89 #[.agg #[.bool s1, .slice ao1 n1 cap1, .int .i64 ex1], .agg #[.bool s2, .slice ao2 n2 cap2, .int .i64 ex2]] w fun r w' => OutA w tn r w' := by
  have HQ : Hid (∀ W, Below w.heap.size w W → Calls Tryz.prog 120 #[.agg #[.bool s1, .slice ao1 n1 cap1, .int .i64 ex1], .agg #[.bool s2, .slice ao2 n2 cap2, .int .i64 ex2], .int .i64 0] W fun r w' => ∃ s ao n cap e x, r = .returned (.tuple #[.agg #[.bool s, .slice ao n cap, .int .i64 e], .bool x, .int .i64 0]) ∧ PN w' (.agg #[.bool s, .slice ao n cap, .int .i64 e]) tq ∧ Below W.heap.size W w') := kQ
  have HM : Hid (∀ W X Y, Below w.heap.size w W → PN W X tq → PN W Y tb → Calls Tryz.prog 54 #[X, Y] W fun r w' => OutA W tm r w') := kM
  have HT1 : Hid (∀ W X Y, Below w.heap.size w W → PN W X ta → PN W Y tm → Calls Tryz.prog 121 #[X, Y] W fun r w' => OutA W tr r w') := kT1
  have HT2 : Hid (∀ W X Y, Below w.heap.size w W → PN W X tr → PN W Y tb → Calls Tryz.prog 121 #[X, Y] W fun r w' => OutA W tn r w') := kT2
  have HA1 : Hid (∀ W X, Below w.heap.size w W → PN W X tr → Calls Tryz.prog 123 #[X] W fun r w' => OutA W tra r w') := kA1
  have HA2 : Hid (∀ W X, Below w.heap.size w W → PN W X tn → Calls Tryz.prog 123 #[X] W fun r w' => OutA W tna r w') := kA2
  have HC : Hid (∀ W X Y, Below w.heap.size w W → PN W X tra → PN W Y tna → Calls Tryz.prog 122 #[X, Y] W fun r w' => r = .returned (.int .i64 c) ∧ Below W.heap.size W w') := kC
  obtain ⟨W, hW⟩ : ∃ W, W = ((w.alloc (.cells #[.bool s1, .slice ao1 n1 cap1, .int .i64 ex1] 45)).alloc (.cells #[.bool s2, .slice ao2 n2 cap2, .int .i64 ex2] 45)).alloc (.cells #[.bool false, .slice none 0 0, .int .i64 0] 45) := ⟨_, rfl⟩
  obtain ⟨gA, gB, gZ, hsz, hBW⟩ := boxes3 _ _ _ hW
  have HX : Hid (Below w.heap.size w W ∧ W.heap[w.heap.size]? = some (.cells #[.bool s1, .slice ao1 n1 cap1, .int .i64 ex1] 45 (0, 0)) ∧ W.heap[w.heap.size + 1]? = some (.cells #[.bool s2, .slice ao2 n2 cap2, .int .i64 ex2] 45 (0, 0)) ∧ W.heap[w.heap.size + 1 + 1]? = some (.cells #[.bool false, .slice none 0 0, .int .i64 0] 45 (0, 0)) ∧ PN w (.agg #[.bool s1, .slice ao1 n1 cap1, .int .i64 ex1]) ta ∧ PN w (.agg #[.bool s2, .slice ao2 n2 cap2, .int .i64 ex2]) tb) := ⟨hBW, gA, gB, gZ, hA, hB⟩
  obtain ⟨⟨a0, a1, a2⟩, -⟩ := box_cells gA
  obtain ⟨⟨b0, b1, b2⟩, -⟩ := box_cells gB
  have k1 := kQ W hBW
  clear kQ kM kT1 kT2 kA1 kA2 kC gA gB gZ hsz hBW hA hB
  rw [hW] at a0 a1 a2 b0 b1 b2
  go_enter Tryz.func89, Tryz.ntmps89
  go_wp2_with fail
  rw [← hW]
  clear hW a0 a1 a2 b0 b1 b2
  refine k1.mono ?_
  rintro r w1 ⟨s3, ao3, n3, cap3, ex3, xq, rfl, hP3, hb1⟩
  clear k1
  obtain ⟨W1, hW1⟩ : ∃ W1, W1 = w1.alloc (.cells #[.bool s3, .slice ao3 n3 cap3, .int .i64 ex3] 45) := ⟨_, rfl⟩
  have hbW : Below W.heap.size W W1 := by rw [hW1]; exact hb1.alloc hb1.size _
  have HY : Hid (Below w.heap.size w W1 ∧ W1.heap[w.heap.size]? = some (.cells #[.bool s1, .slice ao1 n1 cap1, .int .i64 ex1] 45 (0, 0)) ∧ W1.heap[w.heap.size + 1]? = some (.cells #[.bool s2, .slice ao2 n2 cap2, .int .i64 ex2] 45 (0, 0)) ∧ W1.heap[w.heap.size + 1 + 1]? = some (.cells #[.bool false, .slice none 0 0, .int .i64 0] 45 (0, 0)) ∧ PN W1 (.agg #[.bool s1, .slice ao1 n1 cap1, .int .i64 ex1]) ta ∧ PN W1 (.agg #[.bool s2, .slice ao2 n2 cap2, .int .i64 ex2]) tb ∧ W1.heap[w1.heap.size]? = some (.cells #[.bool s3, .slice ao3 n3 cap3, .int .i64 ex3] 45 (0, 0)) ∧ PN W1 (.agg #[.bool s3, .slice ao3 n3 cap3, .int .i64 ex3]) tq) :=
    ⟨HX.out.1.trans (hbW.mono HX.out.1.size), box_later HX.out.2.1 hbW (lt_of_box HX.out.2.1), box_later HX.out.2.2.1 hbW (lt_of_box HX.out.2.2.1), box_later HX.out.2.2.2.1 hbW (lt_of_box HX.out.2.2.2.1), HX.out.2.2.2.2.1.later (HX.out.1.trans (hbW.mono HX.out.1.size)), HX.out.2.2.2.2.2.later (HX.out.1.trans (hbW.mono HX.out.1.size)), by rw [hW1]; exact heap_alloc_new _ _, by rw [hW1]; exact hP3.later ((Below.refl _ _).alloc (Nat.le_refl _) _)⟩
  clear hbW hP3 hb1
  go_upto_region 2 with fail
  rw [← hW1]
  clear hW1 HX
  generalize w1.heap.size = g3 at *
  have HK : Hid (∀ w', Below W1.heap.size W1 w' → ((w'.cell? ⟨w.heap.size, 0, none⟩ = some (.bool s1) ∧ w'.cell? ⟨w.heap.size, 1, none⟩ = some (.slice ao1 n1 cap1) ∧ w'.cell? ⟨w.heap.size, 2, none⟩ = some (.int .i64 ex1)) ∧ (w'.cell? ⟨w.heap.size + 1, 0, none⟩ = some (.bool s2) ∧ w'.cell? ⟨w.heap.size + 1, 1, none⟩ = some (.slice ao2 n2 cap2) ∧ w'.cell? ⟨w.heap.size + 1, 2, none⟩ = some (.int .i64 ex2)) ∧ (w'.cell? ⟨g3, 0, none⟩ = some (.bool s3) ∧ w'.cell? ⟨g3, 1, none⟩ = some (.slice ao3 n3 cap3) ∧ w'.cell? ⟨g3, 2, none⟩ = some (.int .i64 ex3))) ∧ Below W1.heap.size W1 w') := fun w' hb => ⟨⟨(box_cells (box_later HY.out.2.1 hb (lt_of_box HY.out.2.1))).1, (box_cells (box_later HY.out.2.2.1 hb (lt_of_box HY.out.2.2.1))).1, (box_cells (box_later HY.out.2.2.2.2.2.2.1 hb (lt_of_box HY.out.2.2.2.2.2.2.1))).1⟩, hb⟩
  have hBR : Below W1.heap.size W1 W1.drew := (Below.refl _ _).drew
  have km : ∀ w4, Below W1.heap.size W1 w4 → Calls Tryz.prog 54 #[.agg #[.bool s3, .slice ao3 n3 cap3, .int .i64 ex3], .agg #[.bool s2, .slice ao2 n2 cap2, .int .i64 ex2]] w4 fun r w' => ∃ s ao n cap e, r = .returned (.agg #[.bool s, .slice ao n cap, .int .i64 e]) ∧ PN w' (.agg #[.bool s, .slice ao n cap, .int .i64 e]) tm ∧ Below W1.heap.size W1 w' ∧ Hid (∀ g o, w4.heap[g]? = some o → w'.heap[g]? = some o) := fun w4 hb =>
    (HM.out w4 _ _ (HY.out.1.trans (hb.mono HY.out.1.size)) (HY.out.2.2.2.2.2.2.2.later hb) (HY.out.2.2.2.2.2.1.later hb)).mono fun r w' ⟨s, ao, n, cap, e, e1, o1, o2⟩ => ⟨s, ao, n, cap, e, e1, o1, hb.trans (o2.mono hb.size), fun g o hg => box_later hg o2 (lt_of_box hg)⟩
  have kt : ∀ w4 Y, Below W1.heap.size W1 w4 → PN w4 Y tm → Calls Tryz.prog 121 #[.agg #[.bool s1, .slice ao1 n1 cap1, .int .i64 ex1], Y] w4 fun r w' => ∃ s ao n cap e, r = .returned (.agg #[.bool s, .slice ao n cap, .int .i64 e]) ∧ PN w' (.agg #[.bool s, .slice ao n cap, .int .i64 e]) tr ∧ Below W1.heap.size W1 w' ∧ Hid (∀ g o, w4.heap[g]? = some o → w'.heap[g]? = some o) := fun w4 Y hb h2 =>
    (HT1.out w4 _ _ (HY.out.1.trans (hb.mono HY.out.1.size)) (HY.out.2.2.2.2.1.later hb) h2).mono fun r w' ⟨s, ao, n, cap, e, e1, o1, o2⟩ => ⟨s, ao, n, cap, e, e1, o1, hb.trans (o2.mono hb.size), fun g o hg => box_later hg o2 (lt_of_box hg)⟩
  obtain ⟨⟨⟨a0, a1, a2⟩, ⟨b0, b1, b2⟩, ⟨c0, c1, c2⟩⟩, -⟩ := HK.out W1 (Below.refl _ _)
  go_cut [8] from 18 to 22 (fun p wx => ∃ g s ao n cap ex, p = .pointer (some ⟨g, 0, none⟩) ∧ Hid (BxP W1 wx g s ao n cap ex tr))
  case first =>
    go_region_held3 (fun w' => ((w'.cell? ⟨w.heap.size, 0, none⟩ = some (.bool s1) ∧ w'.cell? ⟨w.heap.size, 1, none⟩ = some (.slice ao1 n1 cap1) ∧ w'.cell? ⟨w.heap.size, 2, none⟩ = some (.int .i64 ex1)) ∧ (w'.cell? ⟨w.heap.size + 1, 0, none⟩ = some (.bool s2) ∧ w'.cell? ⟨w.heap.size + 1, 1, none⟩ = some (.slice ao2 n2 cap2) ∧ w'.cell? ⟨w.heap.size + 1, 2, none⟩ = some (.int .i64 ex2)) ∧ (w'.cell? ⟨g3, 0, none⟩ = some (.bool s3) ∧ w'.cell? ⟨g3, 1, none⟩ = some (.slice ao3 n3 cap3) ∧ w'.cell? ⟨g3, 2, none⟩ = some (.int .i64 ex3))) ∧ Below W1.heap.size W1 w') (first | (with_reducible assumption) | exact ⟨⟨⟨a0, a1, a2⟩, ⟨b0, b1, b2⟩, ⟨c0, c1, c2⟩⟩, hBR⟩ | (refine HK.out _ ?_; with_reducible assumption) | (refine HK.out _ ?_; refine Below.alloc (by with_reducible assumption) (Below.size (by with_reducible assumption)) _) | (refine HK.out _ (below_store3 (by first | (with_reducible assumption) | exact hb7.alloc hb7.size _) (by first | exact Nat.le_refl _ | exact hb5.size | exact hb7.size) _ _ _)) | go_keep)
      (first | (go_at_call 54; refine (km _ (by first | (with_reducible assumption) | exact hBR.alloc hBR.size _)).mono ?_; rintro r w5 ⟨s5, ao5, n5, cap5, ex5, rfl, ho5, hb5, hk5⟩; first | (have HBY : Hid (w5.heap[W1.heap.size]? = some (.cells #[.bool false, .slice none 0 0, .int .i64 0] 45 (0, 0))) := hk5.out _ _ (heap_alloc_new W1.drew _)) | (have HBY : Hid True := trivial))
             | (go_at_call 121; refine (kt _ _ (by first | (with_reducible assumption) | exact hb5.alloc hb5.size _) (by first | (with_reducible assumption) | exact ho5.later ((Below.refl _ _).alloc (Nat.le_refl _) _))).mono ?_; rintro r w7 ⟨s7, ao7, n7, cap7, ex7, rfl, hn7, hb7, hk7⟩; first | (have HBZ := hidOf (hk7.out _ _ HBY.out); obtain ⟨⟨x1, x2, x3⟩, x4, x5, x6⟩ := box_cells HBZ.out) | (have HBZ : Hid (w7.heap[w5.heap.size]? = some (.cells #[.bool false, .slice none 0 0, .int .i64 0] 45 (0, 0))) := hk7.out _ _ (heap_alloc_new w5 _); obtain ⟨⟨x1, x2, x3⟩, x4, x5, x6⟩ := box_cells HBZ.out) | (have HBZ : Hid True := trivial)))
    all_goals go_wp2_with fail
    all_goals go_meet
    all_goals first
      | exact ⟨_, _, _, _, _, _, rfl, BxP.new hn7 hb7⟩
      | exact ⟨_, _, _, _, _, _, rfl, BxP.put hn7 hb7 hb5.size HBZ.out⟩
      | exact ⟨_, _, _, _, _, _, rfl, BxP.put hn7 hb7 (Nat.le_refl _) HBZ.out⟩
  case rest =>
    obtain ⟨W2, rfl⟩ : ∃ W2 : World, W2 = wc := ⟨_, rfl⟩
    obtain ⟨g4, s4, ao4, n4, cap4, ex4, rfl, HR⟩ := hcut
    clear km kt HK hBR a0 a1 a2 b0 b1 b2 c0 c1 c2
    have HS : Hid (Below w.heap.size w W2 ∧ W2.heap[w.heap.size + 1]? = some (.cells #[.bool s2, .slice ao2 n2 cap2, .int .i64 ex2] 45 (0, 0)) ∧ W2.heap[w.heap.size + 1 + 1]? = some (.cells #[.bool false, .slice none 0 0, .int .i64 0] 45 (0, 0)) ∧ PN W2 (.agg #[.bool s2, .slice ao2 n2 cap2, .int .i64 ex2]) tb ∧ W2.heap[g4]? = some (.cells #[.bool s4, .slice ao4 n4 cap4, .int .i64 ex4] 45 (0, 0)) ∧ PN W2 (.agg #[.bool s4, .slice ao4 n4 cap4, .int .i64 ex4]) tr) :=
      ⟨HY.out.1.trans (HR.out.2.2.1.mono HY.out.1.size), box_later HY.out.2.2.1 HR.out.2.2.1 (lt_of_box HY.out.2.2.1), box_later HY.out.2.2.2.1 HR.out.2.2.1 (lt_of_box HY.out.2.2.2.1), HY.out.2.2.2.2.2.1.later HR.out.2.2.1, HR.out.1, HR.out.2.2.2⟩
    clear HY HR
    obtain ⟨⟨b0, b1, b2⟩, -⟩ := box_cells HS.out.2.1
    obtain ⟨⟨d0, d1, d2⟩, -⟩ := box_cells HS.out.2.2.2.2.1
    have k3 := HT2.out W2 _ _ HS.out.1 HS.out.2.2.2.2.2 HS.out.2.2.2.1
    go_wp2_with fail
    refine k3.mono ?_
    rintro r w3 ⟨s5, ao5, n5, cap5, ex5, rfl, hP5, hb3⟩
    clear k3 b0 b1 b2 d0 d1 d2
    obtain ⟨W3, hW3⟩ : ∃ W3, W3 = w3.alloc (.cells #[.bool s5, .slice ao5 n5 cap5, .int .i64 ex5] 45) := ⟨_, rfl⟩
    have hbW : Below W2.heap.size W2 W3 := by rw [hW3]; exact hb3.alloc hb3.size _
    have HV : Hid (Below w.heap.size w W3 ∧ W3.heap[w.heap.size + 1 + 1]? = some (.cells #[.bool false, .slice none 0 0, .int .i64 0] 45 (0, 0)) ∧ W3.heap[g4]? = some (.cells #[.bool s4, .slice ao4 n4 cap4, .int .i64 ex4] 45 (0, 0)) ∧ PN W3 (.agg #[.bool s4, .slice ao4 n4 cap4, .int .i64 ex4]) tr ∧ W3.heap[w3.heap.size]? = some (.cells #[.bool s5, .slice ao5 n5 cap5, .int .i64 ex5] 45 (0, 0)) ∧ PN W3 (.agg #[.bool s5, .slice ao5 n5 cap5, .int .i64 ex5]) tn) :=
      ⟨HS.out.1.trans (hbW.mono HS.out.1.size), box_later HS.out.2.2.1 hbW (lt_of_box HS.out.2.2.1), box_later HS.out.2.2.2.2.1 hbW (lt_of_box HS.out.2.2.2.2.1), HS.out.2.2.2.2.2.later hbW, by rw [hW3]; exact heap_alloc_new _ _, by rw [hW3]; exact hP5.later ((Below.refl _ _).alloc (Nat.le_refl _) _)⟩
    clear hbW hP5 hb3
    go_upto_region 4 with fail
    rw [← hW3]
    clear hW3 HS
    generalize w3.heap.size = g5 at *
    have HK : Hid (∀ w', Below W3.heap.size W3 w' → ((w'.cell? ⟨g4, 0, none⟩ = some (.bool s4) ∧ w'.cell? ⟨g4, 1, none⟩ = some (.slice ao4 n4 cap4) ∧ w'.cell? ⟨g4, 2, none⟩ = some (.int .i64 ex4)) ∧ (w'.cell? ⟨g5, 0, none⟩ = some (.bool s5) ∧ w'.cell? ⟨g5, 1, none⟩ = some (.slice ao5 n5 cap5) ∧ w'.cell? ⟨g5, 2, none⟩ = some (.int .i64 ex5))) ∧ Below W3.heap.size W3 w') := fun w' hb => ⟨⟨(box_cells (box_later HV.out.2.2.1 hb (lt_of_box HV.out.2.2.1))).1, (box_cells (box_later HV.out.2.2.2.2.1 hb (lt_of_box HV.out.2.2.2.2.1))).1⟩, hb⟩
    have hBR : Below W3.heap.size W3 W3.drew := (Below.refl _ _).drew
    have ka1 : ∀ w4, Below W3.heap.size W3 w4 → Calls Tryz.prog 123 #[.agg #[.bool s4, .slice ao4 n4 cap4, .int .i64 ex4]] w4 fun r w' => ∃ s ao n cap e, r = .returned (.agg #[.bool s, .slice ao n cap, .int .i64 e]) ∧ PN w' (.agg #[.bool s, .slice ao n cap, .int .i64 e]) tra ∧ Below W3.heap.size W3 w' := fun w4 hb =>
      (HA1.out w4 _ (HV.out.1.trans (hb.mono HV.out.1.size)) (HV.out.2.2.2.1.later hb)).mono fun r w' ⟨s, ao, n, cap, e, e1, o1, o2⟩ => ⟨s, ao, n, cap, e, e1, o1, hb.trans (o2.mono hb.size)⟩
    have ka2 : ∀ w4, Below W3.heap.size W3 w4 → Calls Tryz.prog 123 #[.agg #[.bool s5, .slice ao5 n5 cap5, .int .i64 ex5]] w4 fun r w' => ∃ s ao n cap e, r = .returned (.agg #[.bool s, .slice ao n cap, .int .i64 e]) ∧ PN w' (.agg #[.bool s, .slice ao n cap, .int .i64 e]) tna ∧ Below W3.heap.size W3 w' ∧ Hid (Below w4.heap.size w4 w') := fun w4 hb =>
      (HA2.out w4 _ (HV.out.1.trans (hb.mono HV.out.1.size)) (HV.out.2.2.2.2.2.later hb)).mono fun r w' ⟨s, ao, n, cap, e, e1, o1, o2⟩ => ⟨s, ao, n, cap, e, e1, o1, hb.trans (o2.mono hb.size), o2⟩
    have kc : ∀ w4 X Y, Below W3.heap.size W3 w4 → PN w4 X tra → PN w4 Y tna → Calls Tryz.prog 122 #[X, Y] w4 fun r w' => r = .returned (.int .i64 c) ∧ Below W3.heap.size W3 w' := fun w4 X Y hb h1 h2 =>
      (HC.out w4 _ _ (HV.out.1.trans (hb.mono HV.out.1.size)) h1 h2).mono fun r w' ⟨e1, o2⟩ => ⟨e1, hb.trans (o2.mono hb.size)⟩
    obtain ⟨⟨⟨d0, d1, d2⟩, ⟨e0, e1, e2⟩⟩, -⟩ := HK.out W3 (Below.refl _ _)
    go_region_held3 (fun w' => ((w'.cell? ⟨g4, 0, none⟩ = some (.bool s4) ∧ w'.cell? ⟨g4, 1, none⟩ = some (.slice ao4 n4 cap4) ∧ w'.cell? ⟨g4, 2, none⟩ = some (.int .i64 ex4)) ∧ (w'.cell? ⟨g5, 0, none⟩ = some (.bool s5) ∧ w'.cell? ⟨g5, 1, none⟩ = some (.slice ao5 n5 cap5) ∧ w'.cell? ⟨g5, 2, none⟩ = some (.int .i64 ex5))) ∧ Below W3.heap.size W3 w') (first | (with_reducible assumption) | exact ⟨⟨⟨d0, d1, d2⟩, ⟨e0, e1, e2⟩⟩, hBR⟩ | (refine HK.out _ ?_; with_reducible assumption) | go_keep)
      (first | (go_at_call 123; first | (have hq := hP6; clear hq; refine (ka2 _ hb6).mono ?_; rintro r w7 ⟨s7, ao7, n7, cap7, ex7, rfl, hP7, hb7, hk7⟩) | (refine (ka1 _ hBR).mono ?_; rintro r w6 ⟨s6, ao6, n6, cap6, ex6, rfl, hP6, hb6⟩))
             | (go_at_call 122; refine (kc _ _ _ hb7 (hP6.later hk7.out) hP7).mono ?_; rintro r w8 ⟨rfl, hb8⟩))
    all_goals
      have HF : Hid (Below w.heap.size w w8 ∧ w8.heap[w.heap.size + 1 + 1]? = some (.cells #[.bool false, .slice none 0 0, .int .i64 0] 45 (0, 0)) ∧ PN w8 (.agg #[.bool s5, .slice ao5 n5 cap5, .int .i64 ex5]) tn ∧ w8.heap[g5]? = some (.cells #[.bool s5, .slice ao5 n5 cap5, .int .i64 ex5] 45 (0, 0))) := ⟨HV.out.1.trans (hb8.mono HV.out.1.size), box_later HV.out.2.1 hb8 (lt_of_box HV.out.2.1), HV.out.2.2.2.2.2.later hb8, box_later HV.out.2.2.2.2.1 hb8 (lt_of_box HV.out.2.2.2.2.1)⟩
      clear hP6 hb6 hP7 hb7 hk7 hb8 ka1 ka2 kc HK hBR d0 d1 d2 e0 e1 e2
      obtain ⟨⟨e0, e1, e2⟩, -⟩ := box_cells HF.out.2.2.2
      obtain ⟨⟨z0, z1, z2⟩, z3, z4, z5⟩ := box_cells HF.out.2.1
      go_wp2_with fail
      refine bodyPost_ret (results_cell_row rfl _ _ (w.heap.size + 1 + 1) 45 #[.bool s5, .slice ao5 n5 cap5, .int .i64 ex5] (0, 0) _ rfl (store3 _ _ _ HF.out.2.1) Tryz.underlying45 rfl Tryz.info45) rfl ?_
      exact ⟨_, _, _, _, _, rfl, pn_store HF.out.2.2.1 HF.out.2.1 _ _ _, below_store3 HF.out.1 (by omega) _ _ _⟩
end Go.Proofs.YtajeodimbfppiaaGreatDoor

/- Sub of floats, and the walk of RoundSums. -/
namespace Go.Proofs.YtajeodimbfppiaaGreatDoor
set_option linter.unusedVariables false
set_option linter.unusedSimpArgs false
open Go.RowKit Go.Fl64

end Go.Proofs.YtajeodimbfppiaaGreatDoor

/- The law's own test of layer 3: it answers true. -/
namespace Go.Proofs.YtajeodimbfppiaaGreatDoor
set_option linter.unusedVariables false
set_option linter.unusedSimpArgs false
open Go.RowKit Go.Fl64

theorem pabs {t : Bool × Nat × Int} {A : Value} {w : World} (ok : Ok t) (h : PN w A t) : Calls Tryz.prog 123 #[A] w fun r w' => OutA w (false, t.2.1, t.2.2) r w' := by
  obtain ⟨ao, cap, rfl, h1⟩ := h
  obtain ⟨f1, -, -, -, -⟩ := ok.facts
  refine (abs_ok (ea := t.2.2) h1 (by omega) ok).mono ?_
  rintro r w' ⟨v, rfl, ho, hb⟩
  obtain ⟨ao', cap', rfl, h2, h3, h4⟩ := ho.is
  exact ⟨_, _, _, _, _, rfl, ⟨ao', cap', rfl, ao', cap', rfl, h2, h3, h4⟩, hb⟩
theorem pcmp {t1 t2 : Bool × Nat × Int} {X Y : Value} {w : World} (o1 : Ok t1) (o2 : Ok t2) (h1 : PN w X t1) (h2 : PN w Y t2) : Calls Tryz.prog 122 #[X, Y] w fun r w' => r = .returned (.int .i64 (ordN t1.1 t1.2.1 t1.2.2 t2.1 t2.2.1 t2.2.2)) ∧ Below w.heap.size w w' := by
  obtain ⟨ao, cap, rfl, i1⟩ := h1
  obtain ⟨ao', cap', rfl, i2⟩ := h2
  obtain ⟨f1, f2, f3, -, -⟩ := o1.facts
  obtain ⟨g1, g2, g3, -, -⟩ := o2.facts
  exact cmp_ok i1 i2 (by omega) (by omega) (by omega) (by omega) o1 o2

theorem tF5 : tF 4617315517961601024 = (false, 5, 0) := by decide +kernel
theorem tF3 : tF 4613937818241073152 = (false, 3, 0) := by decide +kernel
theorem okT5 : Ok (false, 5, 0) := by rw [← tF5]; exact tF_ok _
theorem okT3 : Ok (false, 3, 0) := by rw [← tF3]; exact tF_ok _
theorem okT1 : Ok (false, 1, 0) := (by decide +kernel : okN false (dlen 1) 1 0 = true)
theorem okT1n : Ok (true, 1, 0) := (by decide +kernel : okN true (dlen 1) 1 0 = true)
theorem okT2 : Ok (false, 1, 1) := (by decide +kernel : okN false (dlen 1) 1 1 = true)

theorem sure_least (s1 s2 : Bool) (ao1 ao2 : Option Addr) (n1 cap1 n2 cap2 : Nat) (ex1 ex2 : Int) (w : World) (hT : Tab32 w) (h1 : PN w (.agg #[.bool s1, .slice ao1 n1 cap1, .int .i64 ex1]) (false, 5, 0)) (h2 : PN w (.agg #[.bool s2, .slice ao2 n2 cap2, .int .i64 ex2]) (false, 3, 0)) :
    Calls Tryz.prog 89 #[.agg #[.bool s1, .slice ao1 n1 cap1, .int .i64 ex1], .agg #[.bool s2, .slice ao2 n2 cap2, .int .i64 ex2]] w fun r w' => OutA w (true, 1, 0) r w' := by
  have m1 := mul_op okT1 okT3 (by decide +kernel)
  have u1 := sub_op okT5 okT3 (by decide +kernel)
  have u2 := sub_op okT2 okT3 (by decide +kernel)
  rw [show cn (!((false, (1 : Nat), (0 : Int)).1 == (false, (3 : Nat), (0 : Int)).1)) ((false, (1 : Nat), (0 : Int)).2.1 * (false, (3 : Nat), (0 : Int)).2.1) ((false, (1 : Nat), (0 : Int)).2.2 + (false, (3 : Nat), (0 : Int)).2.2) = (false, 3, 0) by decide +kernel] at m1
  refine lrest_g s1 s2 ao1 ao2 n1 cap1 n2 cap2 ex1 ex2 1 (false, 5, 0) (false, 3, 0) (false, 1, 0) (false, 3, 0) (false, 1, 1) (true, 1, 0) (false, 1, 1) (false, 1, 0) w (by decide) h1 h2 (fun W h => ?_) (fun W X Y h p q => multiplied_op m1 (hT.later h) p q) (fun W X Y h p q => ?_) (fun W X Y h p q => ?_) (fun W X h p => pabs okT2 p) (fun W X h p => pabs okT1n p) (fun W X Y h p q => ?_)
  · obtain ⟨ao, cap, e1, i1⟩ := h1.later h
    obtain ⟨ao', cap', e2, i2⟩ := h2.later h
    rw [e1, e2]
    have k := c44 (na := false) (nb := false) (ea := 0) (eb := 0) (place := 0) i1 i2 (hT.later h) (by decide) (by have := okT5.facts; omega) (by have := okT3.facts; omega) okT5 okT3 (by omega) (by omega) (by omega) 5 3 (by decide) (by decide)
    rw [show (if (false != false) && !(decide (5 % 3 = 0)) then 5 / 3 + 1 else 5 / 3) = 1 by decide] at k
    refine Calls.mono k ?_
    intro r w' hh
    obtain ⟨s, a, n, c, e, q1, q2, q3⟩ := held3_pn hh (by decide +kernel)
    rw [show cn (false != false) 1 (-0) = (false, 1, 0) by decide +kernel] at q2
    exact ⟨s, a, n, c, e, _, q1, q2, q3⟩
  · have := taken_op u1 (hT.later h) p q
    rw [show cn _ _ _ = (false, 1, 1) by decide +kernel] at this
    exact this
  · have := taken_op u2 (hT.later h) p q
    rw [show cn _ _ _ = (true, 1, 0) by decide +kernel] at this
    exact this
  · have := pcmp okT2 okT1 p q
    rw [show ordN _ _ _ _ _ _ = 1 by decide +kernel] at this
    exact this

set_option maxHeartbeats 4000000 in
set_option maxRecDepth 200000 in
theorem sure_rest (w : World) (hT : Tab32 w) (hI : Ie.Tab w) : Calls Tryz.prog 52 #[.float .f64 4617315517961601024, .float .f64 4613937818241073152] w fun r w' => r = .returned (.float .f64 13830554455654793216) ∧ Below w.heap.size w w' := by
  have e1 : (FloatKind.f64.format.order 4617315517961601024 4617315517961601024 != some Ordering.eq) = false := by decide +kernel
  have e2 : (FloatKind.f64.format.order 4613937818241073152 4613937818241073152 != some Ordering.eq) = false := by decide +kernel
  have e3 : (FloatKind.f64.format.order 4613937818241073152 0 == some Ordering.eq) = false := by decide +kernel
  have e4 : (FloatKind.f64.format.order 13830554455654793216 0 == some Ordering.eq) = false := by decide +kernel
  have i1 := pinf_n 4617315517961601024 (by decide) (by decide) w
  have i2 := pinf_n 4613937818241073152 (by decide) (by decide) w
  have kA := exact_ok 4617315517961601024 (by decide) (by decide) w hT hI
  rw [tF5] at kA
  have HKB : Hid (∀ W, Below w.heap.size w W → Calls Tryz.prog 41 #[.float .f64 4613937818241073152] W fun r w' => OutA W (false, 3, 0) r w') := fun W h => by
    have := exact_ok 4613937818241073152 (by decide) (by decide) W (hT.later h) (Tab.later hI h)
    rw [tF3] at this
    exact this
  have HT : Hid (Tab32 w) := hT
  clear hT hI
  go_enter Tryz.func52, Tryz.ntmps52
  go_wp2_with fail
  refine i1.mono ?_
  rintro r w' ⟨rfl, hw⟩
  rw [hw]
  clear hw i1 w'
  go_wp2_with fail
  refine i2.mono ?_
  rintro r w' ⟨rfl, hw⟩
  rw [hw]
  clear hw i2 w'
  go_wp2_with fail
  refine kA.mono ?_
  rintro r w1 ⟨s1, ao1, n1, cap1, ex1, rfl, hP1, hb1⟩
  have k2 := HKB.out w1 hb1
  clear kA
  go_wp2_with fail
  refine k2.mono ?_
  rintro r w2 ⟨s2, ao2, n2, cap2, ex2, rfl, hP2, hb2⟩
  have HB2 : Hid (Below w.heap.size w w2) := hb1.trans (hb2.mono hb1.size)
  have k3 := sure_least _ _ _ _ _ _ _ _ _ _ w2 (HT.out.later HB2.out) (hP1.later hb2) hP2
  clear k2 hP1 hP2 hb1 hb2
  go_wp2_with fail
  refine k3.mono ?_
  rintro r w3 ⟨s3, ao3, n3, cap3, ex3, rfl, hP3, hb3⟩
  have HB3 : Hid (Below w.heap.size w w3) := HB2.out.trans (hb3.mono HB2.out.size)
  have k4 := prounded (m := 2) (HT.out.later HB3.out) okT1n hP3 (by omega)
  rw [show tfF (true, (1 : Nat), (0 : Int)).1 true (true, (1 : Nat), (0 : Int)).2.1 (true, (1 : Nat), (0 : Int)).2.2 2 = 13830554455654793216 by decide +kernel] at k4
  clear k3 hP3 hb3
  go_wp2_with fail
  refine k4.mono ?_
  rintro r w4 ⟨rfl, hb4⟩
  have HB4 : Hid (Below w.heap.size w w4) := HB3.out.trans (hb4.mono HB3.out.size)
  clear k4 hb4
  go_wp2_with fail
  go_ret
  exact ⟨rfl, HB4.out⟩
end Go.Proofs.YtajeodimbfppiaaGreatDoor

/- The law's own test answers true; RoundSums. -/
namespace Go.Proofs.YtajeodimbfppiaaGreatDoor
set_option linter.unusedVariables false
set_option linter.unusedSimpArgs false
open Go.RowKit Go.Fl64

theorem sure_add_ok (w : World) (hT : Tab32 w) (hI : Ie.Tab w) : Calls Tryz.prog 10 #[.float .f64 4607182418800017408, .float .f64 4611686018427387904, .int .i64 2] w fun r w' => r = .returned (.float .f64 4613937818241073152) ∧ Below w.heap.size w w' := by
  obtain ⟨X, h1, -, h3, -, h5⟩ := join_FAdd 4607182418800017408 4611686018427387904 2 (by decide) (by decide)
  have e := h5 (by decide) (by decide) (by decide)
  rw [sure_add] at e
  subst e
  refine (h3 w hT hI).mono ?_
  rintro r w' ⟨n, rfl, hl, hb⟩
  exact ⟨by rw [hl.eq (by decide)], hb⟩

set_option maxHeartbeats 4000000 in
set_option maxRecDepth 200000 in
theorem sure_ok (w : World) (hT : Tab32 w) (hI : Ie.Tab w) : Calls Tryz.prog 16 #[] w fun r w' => r = .returned (.bool true) ∧ Below w.heap.size w w' := by
  have e1 : (FloatKind.f64.format.order 4613937818241073152 4613937818241073152 == some Ordering.eq) = true := by decide +kernel
  have e2 : (FloatKind.f64.format.order 4599676419421066582 4599676419421066581 == some Ordering.gt) = true := by decide +kernel
  have e3 : (FloatKind.f64.format.order 4617315517961601024 4617315517961601024 == some Ordering.eq) = true := by decide +kernel
  have e4 : (FloatKind.f64.format.order 4611686018427387904 4611686018427387904 == some Ordering.eq) = true := by decide +kernel
  have e5 : (FloatKind.f64.format.order 13830554455654793216 13830554455654793216 == some Ordering.eq) = true := by decide +kernel
  have HT : Hid (∀ W, Below w.heap.size w W → Tab32 W ∧ Ie.Tab W) := fun W h => ⟨hT.later h, Tab.later hI h⟩
  have kk := sure_add_ok w hT hI
  clear hT hI
  go_enter Tryz.func16, Tryz.ntmps16
  go_wp2_with fail
  refine kk.mono ?_
  rintro r w1 ⟨rfl, hb1⟩
  have HB1 : Hid (Below w.heap.size w w1) := hb1
  clear kk hb1
  have kk := pdiv_ok 4607182418800017408 4613937818241073152 3 w1 (by decide) (HT.out w1 HB1.out).1 (HT.out w1 HB1.out).2 (by decide) (by decide) (by decide) (by decide) (by decide) (by decide) (tF_ne (by decide)) (tF_ne (by decide))
  rw [sure_div3] at kk
  go_wp2_with fail
  refine kk.mono ?_
  rintro r w2 ⟨rfl, hb2⟩
  have HB2 : Hid (Below w.heap.size w w2) := HB1.out.trans (hb2.mono HB1.out.size)
  clear kk hb2
  have kk := pdiv_ok 4607182418800017408 4613937818241073152 1 w2 (by decide) (HT.out w2 HB2.out).1 (HT.out w2 HB2.out).2 (by decide) (by decide) (by decide) (by decide) (by decide) (by decide) (tF_ne (by decide)) (tF_ne (by decide))
  rw [sure_div1] at kk
  go_wp2_with fail
  refine kk.mono ?_
  rintro r w3 ⟨rfl, hb3⟩
  have HB3 : Hid (Below w.heap.size w w3) := HB2.out.trans (hb3.mono HB2.out.size)
  clear kk hb3
  have kk := sure_hyp w3 (HT.out w3 HB3.out).1 (HT.out w3 HB3.out).2
  go_wp2_with fail
  refine kk.mono ?_
  rintro r w4 ⟨rfl, hb4⟩
  have HB4 : Hid (Below w.heap.size w w4) := HB3.out.trans (hb4.mono HB3.out.size)
  clear kk hb4
  have kk := pvalid 3 w4
  rw [show isM 3 = true by decide] at kk
  go_wp2_with fail
  refine kk.mono ?_
  rintro r w' ⟨rfl, hw⟩
  rw [hw]
  clear hw kk w'
  have kk := pvalid 0 w4
  rw [show isM 0 = false by decide] at kk
  go_wp2_with fail
  refine kk.mono ?_
  rintro r w' ⟨rfl, hw⟩
  rw [hw]
  clear hw kk w'
  have kk := sure_whole w4
  go_wp2_with fail
  refine kk.mono ?_
  rintro r w' ⟨rfl, hw⟩
  rw [hw]
  clear hw kk w'
  have kk := sure_rest w4 (HT.out w4 HB4.out).1 (HT.out w4 HB4.out).2
  go_wp2_with fail
  refine kk.mono ?_
  rintro r w5 ⟨rfl, hb5⟩
  have HB5 : Hid (Below w.heap.size w w5) := HB4.out.trans (hb5.mono HB4.out.size)
  clear kk hb5
  go_wp2_with fail
  go_ret
  exact ⟨rfl, HB5.out⟩

end Go.Proofs.YtajeodimbfppiaaGreatDoor

/- Fma of floats: the program and the document answer alike. -/
namespace Go.Proofs.YtajeodimbfppiaaGreatDoor
set_option linter.unusedVariables false
set_option linter.unusedSimpArgs false
open Go.RowKit Go.Fl64

theorem nan_sig {s : Bool} {n : Nat} (h : n ≤ 9218868437227405312) : isNaN (sig s n) = false := by
  unfold isNaN sig mag
  cases s <;> simp <;> omega
end Go.Proofs.YtajeodimbfppiaaGreatDoor

/- Numbers written in base 16. -/
namespace Go.Proofs.YtajeodimbfppiaaGreatDoor
set_option linter.unusedVariables false
set_option linter.unusedSimpArgs false
open Go.RowKit

end Go.Proofs.YtajeodimbfppiaaGreatDoor

/- strings.Repeat of the sign for nought. -/
namespace Go.Proofs.YtajeodimbfppiaaGreatDoor
set_option linter.unusedVariables false
set_option linter.unusedSimpArgs false
open Go.RowKit

end Go.Proofs.YtajeodimbfppiaaGreatDoor

/- Show, of any number. -/
namespace Go.Proofs.YtajeodimbfppiaaGreatDoor
set_option linter.unusedVariables false
set_option linter.unusedSimpArgs false
open Go.RowKit

end Go.Proofs.YtajeodimbfppiaaGreatDoor

/- Sign, Bits, Top, Cmp, Show: refused; Bits, Top; Show of nought. -/
namespace Go.Proofs.YtajeodimbfppiaaGreatDoor
set_option linter.unusedVariables false
set_option linter.unusedSimpArgs false
open Go.RowKit

end Go.Proofs.YtajeodimbfppiaaGreatDoor

/- The document's decimal. -/
namespace Go.Proofs.YtajeodimbfppiaaGreatDoor
set_option linter.unusedVariables false
set_option linter.unusedSimpArgs false
open Go.RowKit

end Go.Proofs.YtajeodimbfppiaaGreatDoor

/- The document's hex. -/
namespace Go.Proofs.YtajeodimbfppiaaGreatDoor
set_option linter.unusedVariables false
set_option linter.unusedSimpArgs false
open Go.RowKit

/-- a row of bytes that was made here -/
def OB (w wr : World) (v : Value) (L : List UInt8) : Prop := wr.ownsRow w.heap.size 5 1 v L.length (Lib.byteCells L) ∧ Below w.heap.size w wr
theorem OB.shape {w wr : World} {v : Value} {L : List UInt8} (h : OB w wr v L) : ∃ ao cap, v = .slice ao L.length cap := by
  obtain ⟨⟨-, h | ⟨g, cap, cur, h, -⟩⟩, -⟩ := h
  · exact ⟨none, 0, by rw [h.1, h.2]⟩
  · exact ⟨_, _, h⟩
end Go.Proofs.YtajeodimbfppiaaGreatDoor

/- The document's magnitude, Order, Cmp. -/
namespace Go.Proofs.YtajeodimbfppiaaGreatDoor
set_option linter.unusedVariables false
set_option linter.unusedSimpArgs false
open Go.RowKit

set_option maxHeartbeats 4000000 in
set_option maxRecDepth 200000 in
theorem rmag_1 (na nb : Bool) (ua va : Option Addr) (un uc vn vc : Nat) (ea eb ha hb : Int) (w : World) (hn1 : ((un : Int) == 0) = false) (hn2 : ((vn : Int) == 0) = false)
    (hh1 : -64000000000 ≤ ha) (hh2 : ha ≤ 64000000000) (hh3 : -64000000000 ≤ hb) (hh4 : hb ≤ 64000000000) (hne : ha ≠ hb)
    (kA : ∀ W, Below w.heap.size w W → Calls Tryz.prog 96 #[.agg #[.bool na, .slice ua un uc, .int .i64 ea]] W fun r w' => r = .returned (.int .i64 ha) ∧ Below W.heap.size W w')
    (kB : ∀ W, Below w.heap.size w W → Calls Tryz.prog 96 #[.agg #[.bool nb, .slice va vn vc, .int .i64 eb]] W fun r w' => r = .returned (.int .i64 hb) ∧ Below W.heap.size W w') :
    Calls Tryz.prog 76 #[.agg #[.bool na, .slice ua un uc, .int .i64 ea], .agg #[.bool nb, .slice va vn vc, .int .i64 eb]] w fun r w' => r = .returned (.int .i64 (ha - hb)) ∧ Below w.heap.size w w' := by
  obtain ⟨W, hW⟩ : ∃ W, W = (w.alloc (.cells #[.bool na, .slice ua un uc, .int .i64 ea] 38)).alloc (.cells #[.bool nb, .slice va vn vc, .int .i64 eb] 38) := ⟨_, rfl⟩
  obtain ⟨hA, hBb, hsz, hBW⟩ := two29 _ _ hW
  have HX : Hid (Below w.heap.size w W) := hBW
  have kA' : ∀ w4, Below W.heap.size W w4 → Calls Tryz.prog 96 #[.agg #[.bool na, .slice ua un uc, .int .i64 ea]] w4 fun r w' => r = .returned (.int .i64 ha) ∧ Below W.heap.size W w' := fun w4 h4 => (kA w4 (hBW.trans (h4.mono hBW.size))).mono fun r w' ⟨e1, o2⟩ => ⟨e1, h4.trans (o2.mono h4.size)⟩
  have kB' : ∀ w4, Below W.heap.size W w4 → Calls Tryz.prog 96 #[.agg #[.bool nb, .slice va vn vc, .int .i64 eb]] w4 fun r w' => r = .returned (.int .i64 hb) ∧ Below W.heap.size W w' := fun w4 h4 => (kB w4 (hBW.trans (h4.mono hBW.size))).mono fun r w' ⟨e1, o2⟩ => ⟨e1, h4.trans (o2.mono h4.size)⟩
  have HKA : Hid (∀ w4, Below W.heap.size W w4 → Calls Tryz.prog 96 #[.agg #[.bool na, .slice ua un uc, .int .i64 ea]] w4 fun r w' => r = .returned (.int .i64 ha) ∧ Below W.heap.size W w') := kA'
  have HKB : Hid (∀ w4, Below W.heap.size W w4 → Calls Tryz.prog 96 #[.agg #[.bool nb, .slice va vn vc, .int .i64 eb]] w4 fun r w' => r = .returned (.int .i64 hb) ∧ Below W.heap.size W w') := kB'
  obtain ⟨⟨a0, a1, a2⟩, -⟩ := box_cells29 hA
  obtain ⟨⟨b0, b1, b2⟩, -⟩ := box_cells29 hBb
  have HK : Hid (∀ w', Below W.heap.size W w' → ((w'.cell? ⟨w.heap.size, 0, none⟩ = some (.bool na) ∧ w'.cell? ⟨w.heap.size, 1, none⟩ = some (.slice ua un uc) ∧ w'.cell? ⟨w.heap.size, 2, none⟩ = some (.int .i64 ea)) ∧ (w'.cell? ⟨w.heap.size + 1, 0, none⟩ = some (.bool nb) ∧ w'.cell? ⟨w.heap.size + 1, 1, none⟩ = some (.slice va vn vc) ∧ w'.cell? ⟨w.heap.size + 1, 2, none⟩ = some (.int .i64 eb)))) := fun w' hb => ⟨(box_cells29 (box_later hA hb (by omega))).1, (box_cells29 (box_later hBb hb (by omega))).1⟩
  have HRD : Hid (∀ w', Below W.heap.size W w' → Below W.heap.size W w'.drew) := fun w' h => h.trans ⟨rfl, rfl, rfl, Nat.le_refl _, fun _ _ => rfl⟩
  have hBR : Below W.heap.size W W.drew := (Below.refl _ _).drew
  have HZ : Hid (IntKind.i64.wrap (ha - hb) = ha - hb) := (by rw [IntKind.wrap_i64]; omega : IntKind.i64.wrap (ha - hb) = ha - hb)
  have hne' : (ha == hb) = false := by simpa using hne
  clear kA kB hA hBb hsz hBW hne hh1 hh2 hh3 hh4
  go_enter Tryz.func76, Tryz.ntmps76
  go_upto_region 3 with fail
  rw [← hW]
  clear hW
  go_cut [24] from 25 to 29 (fun v w' => v = .bool true ∧ Hid (Below W.heap.size W w'))
  case first =>
    go_region_held3 (fun w' => ((w'.cell? ⟨w.heap.size, 0, none⟩ = some (.bool na) ∧ w'.cell? ⟨w.heap.size, 1, none⟩ = some (.slice ua un uc) ∧ w'.cell? ⟨w.heap.size, 2, none⟩ = some (.int .i64 ea)) ∧ (w'.cell? ⟨w.heap.size + 1, 0, none⟩ = some (.bool nb) ∧ w'.cell? ⟨w.heap.size + 1, 1, none⟩ = some (.slice va vn vc) ∧ w'.cell? ⟨w.heap.size + 1, 2, none⟩ = some (.int .i64 eb)))) (first | (with_reducible assumption) | exact ⟨⟨a0, a1, a2⟩, b0, b1, b2⟩ | (refine HK.out _ ?_; with_reducible assumption) | go_keep)
      (first | (go_at_call 96; first | (with_reducible refine (kA' _ (by first | (with_reducible assumption) | exact hBR)).mono ?_; rintro r w5 ⟨rfl, hb5⟩) | (with_reducible refine (kB' _ (by first | (with_reducible assumption) | exact hBR)).mono ?_; rintro r w6 ⟨rfl, hb6⟩)))
    all_goals go_wp2_with fail
    all_goals go_meet
    all_goals exact ⟨by rw [bne, hne']; rfl, by first | exact hb6 | exact hb5⟩
  case rest =>
    obtain ⟨rfl, hc⟩ := hcut
    obtain ⟨W2, rfl⟩ : ∃ W2 : World, W2 = wc := ⟨_, rfl⟩
    clear a0 a1 a2 b0 b1 b2 kA' kB' hBR
    obtain ⟨⟨a0, a1, a2⟩, b0, b1, b2⟩ := HK.out W2 hc.out
    have hBR : Below W.heap.size W W2.drew := HRD.out _ hc.out
    have kA' := HKA.out
    have kB' := HKB.out
    go_upto_region 4 with fail
    go_region_held3 (fun w' => ((w'.cell? ⟨w.heap.size, 0, none⟩ = some (.bool na) ∧ w'.cell? ⟨w.heap.size, 1, none⟩ = some (.slice ua un uc) ∧ w'.cell? ⟨w.heap.size, 2, none⟩ = some (.int .i64 ea)) ∧ (w'.cell? ⟨w.heap.size + 1, 0, none⟩ = some (.bool nb) ∧ w'.cell? ⟨w.heap.size + 1, 1, none⟩ = some (.slice va vn vc) ∧ w'.cell? ⟨w.heap.size + 1, 2, none⟩ = some (.int .i64 eb)))) (first | (with_reducible assumption) | exact ⟨⟨a0, a1, a2⟩, b0, b1, b2⟩ | (refine HK.out _ ?_; with_reducible assumption) | go_keep)
      (first | (go_at_call 96; first | (with_reducible refine (kA' _ (by first | (with_reducible assumption) | exact hBR)).mono ?_; rintro r w5 ⟨rfl, hb5⟩) | (with_reducible refine (kB' _ (by first | (with_reducible assumption) | exact hBR)).mono ?_; rintro r w6 ⟨rfl, hb6⟩)))
    all_goals (have HL5 : Hid (Below W.heap.size W w5) := hb5; have HL6 : Hid (Below W.heap.size W w6) := hb6; clear kA' kB' HK HKA HKB a0 a1 a2 b0 b1 b2 hBR hb5 hb6; go_wp2; go_ret; first | exact ⟨by rw [HZ.out]; rfl, HX.out.trans (HL6.out.mono HX.out.size)⟩ | exact ⟨by rw [HZ.out]; rfl, HX.out.trans (HL5.out.mono HX.out.size)⟩)
set_option maxHeartbeats 4000000 in
set_option maxRecDepth 200000 in
theorem rmag_2 (na nb : Bool) (ua va : Option Addr) (un uc vn vc X Y : Nat) (ea eb ha : Int) (w : World) (hn1 : ((un : Int) == 0) = false) (hn2 : ((vn : Int) == 0) = false) (hX : dlen X ≤ 1000000) (hY : dlen Y ≤ 1000000)
    (he1 : -4000000 ≤ ea) (he2 : ea ≤ 4000000) (he3 : -4000000 ≤ eb) (he4 : eb ≤ 4000000)
    (kA : ∀ W, Below w.heap.size w W → Calls Tryz.prog 96 #[.agg #[.bool na, .slice ua un uc, .int .i64 ea]] W fun r w' => r = .returned (.int .i64 ha) ∧ Below W.heap.size W w')
    (kB : ∀ W, Below w.heap.size w W → Calls Tryz.prog 96 #[.agg #[.bool nb, .slice va vn vc, .int .i64 eb]] W fun r w' => r = .returned (.int .i64 ha) ∧ Below W.heap.size W w')
    (ku : ∀ W i, Below w.heap.size w W → i = ea - min ea eb → Calls Tryz.prog 69 #[.slice ua un uc, .int .i64 i] W fun r w' => ∃ v, r = .returned v ∧ Ir w' v X ∧ Below W.heap.size W w')
    (kv : ∀ W i, Below w.heap.size w W → i = eb - min ea eb → Calls Tryz.prog 69 #[.slice va vn vc, .int .i64 i] W fun r w' => ∃ v, r = .returned v ∧ Ir w' v Y ∧ Below W.heap.size W w') :
    Calls Tryz.prog 76 #[.agg #[.bool na, .slice ua un uc, .int .i64 ea], .agg #[.bool nb, .slice va vn vc, .int .i64 eb]] w fun r w' => r = .returned (.int .i64 (cmpI X Y)) ∧ Below w.heap.size w w' := by
  obtain ⟨W, hW⟩ : ∃ W, W = (w.alloc (.cells #[.bool na, .slice ua un uc, .int .i64 ea] 38)).alloc (.cells #[.bool nb, .slice va vn vc, .int .i64 eb] 38) := ⟨_, rfl⟩
  obtain ⟨hA, hBb, hsz, hBW⟩ := two29 _ _ hW
  have HX : Hid (Below w.heap.size w W) := hBW
  have kA' : ∀ w4, Below W.heap.size W w4 → Calls Tryz.prog 96 #[.agg #[.bool na, .slice ua un uc, .int .i64 ea]] w4 fun r w' => r = .returned (.int .i64 ha) ∧ Below W.heap.size W w' := fun w4 h4 => (kA w4 (hBW.trans (h4.mono hBW.size))).mono fun r w' ⟨e1, o2⟩ => ⟨e1, h4.trans (o2.mono h4.size)⟩
  have kB' : ∀ w4, Below W.heap.size W w4 → Calls Tryz.prog 96 #[.agg #[.bool nb, .slice va vn vc, .int .i64 eb]] w4 fun r w' => r = .returned (.int .i64 ha) ∧ Below W.heap.size W w' := fun w4 h4 => (kB w4 (hBW.trans (h4.mono hBW.size))).mono fun r w' ⟨e1, o2⟩ => ⟨e1, h4.trans (o2.mono h4.size)⟩
  obtain ⟨i1, hi1⟩ : ∃ i1, i1 = ea - min ea eb := ⟨_, rfl⟩
  obtain ⟨i2, hi2⟩ : ∃ i2, i2 = eb - min ea eb := ⟨_, rfl⟩
  have HKU : Hid (∀ w4, Below W.heap.size W w4 → Calls Tryz.prog 69 #[.slice ua un uc, .int .i64 i1] w4 fun r w' => ∃ v, r = .returned v ∧ Ir w' v X ∧ Below W.heap.size W w' ∧ Below w4.heap.size w4 w') := (fun w4 h4 => (ku w4 i1 (hBW.trans (h4.mono hBW.size)) hi1).mono fun r w' ⟨v, e1, o1, o2⟩ => ⟨v, e1, o1, h4.trans (o2.mono h4.size), o2⟩ : ∀ w4, Below W.heap.size W w4 → Calls Tryz.prog 69 #[.slice ua un uc, .int .i64 i1] w4 fun r w' => ∃ v, r = .returned v ∧ Ir w' v X ∧ Below W.heap.size W w' ∧ Below w4.heap.size w4 w')
  have HKV : Hid (∀ w4, Below W.heap.size W w4 → Calls Tryz.prog 69 #[.slice va vn vc, .int .i64 i2] w4 fun r w' => ∃ v, r = .returned v ∧ Ir w' v Y ∧ Below W.heap.size W w' ∧ Below w4.heap.size w4 w') := (fun w4 h4 => (kv w4 i2 (hBW.trans (h4.mono hBW.size)) hi2).mono fun r w' ⟨v, e1, o1, o2⟩ => ⟨v, e1, o1, h4.trans (o2.mono h4.size), o2⟩ : ∀ w4, Below W.heap.size W w4 → Calls Tryz.prog 69 #[.slice va vn vc, .int .i64 i2] w4 fun r w' => ∃ v, r = .returned v ∧ Ir w' v Y ∧ Below W.heap.size W w' ∧ Below w4.heap.size w4 w')
  have kO : ∀ w4 p q, Ir w4 p X → Ir w4 q Y → Below W.heap.size W w4 → Calls Tryz.prog 71 #[p, q] w4 fun r w' => r = .returned (.int .i64 (cmpI X Y)) ∧ Below W.heap.size W w' := fun w4 p q hp hq h4 => (rord hp hq (by omega) (by omega)).mono fun r w' ⟨e1, d, e2⟩ => ⟨e1, by rw [e2]; exact h4.trans ⟨rfl, rfl, rfl, Nat.le_refl _, fun _ _ => rfl⟩⟩
  have HKO : Hid (∀ w4 p q, Ir w4 p X → Ir w4 q Y → Below W.heap.size W w4 → Calls Tryz.prog 71 #[p, q] w4 fun r w' => r = .returned (.int .i64 (cmpI X Y)) ∧ Below W.heap.size W w') := kO
  obtain ⟨⟨a0, a1, a2⟩, -⟩ := box_cells29 hA
  obtain ⟨⟨b0, b1, b2⟩, -⟩ := box_cells29 hBb
  have HK : Hid (∀ w', Below W.heap.size W w' → ((w'.cell? ⟨w.heap.size, 0, none⟩ = some (.bool na) ∧ w'.cell? ⟨w.heap.size, 1, none⟩ = some (.slice ua un uc) ∧ w'.cell? ⟨w.heap.size, 2, none⟩ = some (.int .i64 ea)) ∧ (w'.cell? ⟨w.heap.size + 1, 0, none⟩ = some (.bool nb) ∧ w'.cell? ⟨w.heap.size + 1, 1, none⟩ = some (.slice va vn vc) ∧ w'.cell? ⟨w.heap.size + 1, 2, none⟩ = some (.int .i64 eb)))) := fun w' hb => ⟨(box_cells29 (box_later hA hb (by omega))).1, (box_cells29 (box_later hBb hb (by omega))).1⟩
  have HRD : Hid (∀ w', Below W.heap.size W w' → Below W.heap.size W w'.drew) := fun w' h => h.trans ⟨rfl, rfl, rfl, Nat.le_refl _, fun _ _ => rfl⟩
  have hBR : Below W.heap.size W W.drew := (Below.refl _ _).drew
  have HI : Hid (∀ i, (i = ea - min ea eb ∨ i = IntKind.i64.wrap (ea - min ea eb)) → i = i1) := (fun i h => by rw [IntKind.wrap_i64] at h; omega : ∀ i, (i = ea - min ea eb ∨ i = IntKind.i64.wrap (ea - min ea eb)) → i = i1)
  have HJ : Hid (∀ i, (i = eb - min ea eb ∨ i = IntKind.i64.wrap (eb - min ea eb)) → i = i2) := (fun i h => by rw [IntKind.wrap_i64] at h; omega : ∀ i, (i = eb - min ea eb ∨ i = IntKind.i64.wrap (eb - min ea eb)) → i = i2)
  obtain ⟨c, hc⟩ : ∃ c, c = cmpI X Y := ⟨_, rfl⟩
  rw [← hc] at HKO ⊢
  clear kA kB ku kv kO hA hBb hsz hBW hX hY hi1 hi2 hc
  go_enter Tryz.func76, Tryz.ntmps76
  go_upto_region 3 with fail
  rw [← hW]
  clear hW
  go_cut [24] from 25 to 29 (fun v w' => v = .bool false ∧ Hid (Below W.heap.size W w'))
  case first =>
    go_region_held3 (fun w' => ((w'.cell? ⟨w.heap.size, 0, none⟩ = some (.bool na) ∧ w'.cell? ⟨w.heap.size, 1, none⟩ = some (.slice ua un uc) ∧ w'.cell? ⟨w.heap.size, 2, none⟩ = some (.int .i64 ea)) ∧ (w'.cell? ⟨w.heap.size + 1, 0, none⟩ = some (.bool nb) ∧ w'.cell? ⟨w.heap.size + 1, 1, none⟩ = some (.slice va vn vc) ∧ w'.cell? ⟨w.heap.size + 1, 2, none⟩ = some (.int .i64 eb)))) (first | (with_reducible assumption) | exact ⟨⟨a0, a1, a2⟩, b0, b1, b2⟩ | (refine HK.out _ ?_; with_reducible assumption) | go_keep)
      (first | (go_at_call 96; first | (with_reducible refine (kA' _ (by first | (with_reducible assumption) | exact hBR)).mono ?_; rintro r w5 ⟨rfl, hb5⟩) | (with_reducible refine (kB' _ (by first | (with_reducible assumption) | exact hBR)).mono ?_; rintro r w6 ⟨rfl, hb6⟩)))
    all_goals go_wp2_with fail
    all_goals go_meet
    all_goals exact ⟨by first | rfl | simp, by first | exact hb6 | exact hb5⟩
  case rest =>
    obtain ⟨rfl, hc⟩ := hcut
    obtain ⟨W2, rfl⟩ : ∃ W2 : World, W2 = wc := ⟨_, rfl⟩
    clear a0 a1 a2 b0 b1 b2 kA' kB' hBR
    obtain ⟨⟨a0, a1, a2⟩, b0, b1, b2⟩ := HK.out W2 hc.out
    have hBR : Below W.heap.size W W2.drew := HRD.out _ hc.out
    have kU : ∀ i w4, (i = ea - min ea eb ∨ i = IntKind.i64.wrap (ea - min ea eb)) → Below W.heap.size W w4 → Calls Tryz.prog 69 #[.slice ua un uc, .int .i64 i] w4 fun r w' => ∃ v, r = .returned v ∧ Ir w' v X ∧ Below W.heap.size W w' ∧ Below w4.heap.size w4 w' := fun i w4 hi => by rw [HI.out i hi]; exact HKU.out w4
    have kV : ∀ i w4, (i = eb - min ea eb ∨ i = IntKind.i64.wrap (eb - min ea eb)) → Below W.heap.size W w4 → Calls Tryz.prog 69 #[.slice va vn vc, .int .i64 i] w4 fun r w' => ∃ v, r = .returned v ∧ Ir w' v Y ∧ Below W.heap.size W w' ∧ Below w4.heap.size w4 w' := fun i w4 hi => by rw [HJ.out i hi]; exact HKV.out w4
    have kO := HKO.out
    go_upto_region 6 with fail
    go_region_held3 (fun w' => ((w'.cell? ⟨w.heap.size, 0, none⟩ = some (.bool na) ∧ w'.cell? ⟨w.heap.size, 1, none⟩ = some (.slice ua un uc) ∧ w'.cell? ⟨w.heap.size, 2, none⟩ = some (.int .i64 ea)) ∧ (w'.cell? ⟨w.heap.size + 1, 0, none⟩ = some (.bool nb) ∧ w'.cell? ⟨w.heap.size + 1, 1, none⟩ = some (.slice va vn vc) ∧ w'.cell? ⟨w.heap.size + 1, 2, none⟩ = some (.int .i64 eb)))) (first | (with_reducible assumption) | exact ⟨⟨a0, a1, a2⟩, b0, b1, b2⟩ | (refine HK.out _ ?_; with_reducible assumption) | go_keep)
      (first | (go_at_call 69; first | (with_reducible refine (kU _ _ (by first | exact .inl rfl | exact .inr rfl) (by first | (with_reducible assumption) | exact hBR)).mono ?_; rintro r w5 ⟨p5, rfl, hp5, hb5, hc5⟩) | (with_reducible refine (kV _ _ (by first | exact .inl rfl | exact .inr rfl) (by first | (with_reducible assumption) | exact hBR)).mono ?_; rintro r w6 ⟨p6, rfl, hp6, hb6, hc6⟩)) | (go_at_call 71; first | (with_reducible refine (kO _ _ _ (hp5.later hc6) hp6 hb6).mono ?_; rintro r w7 ⟨rfl, hb7⟩) | (with_reducible refine (kO _ _ _ hp5 (hp6.later hc5) hb5).mono ?_; rintro r w7 ⟨rfl, hb7⟩)))
    all_goals (have HL7 : Hid (Below W.heap.size W w7) := hb7; clear kU kV kO HK HKU HKV HKO a0 a1 a2 b0 b1 b2 hBR hb5 hb6 hb7 hp5 hp6 hc5 hc6; go_wp2; go_ret; exact ⟨rfl, HX.out.trans (HL7.out.mono HX.out.size)⟩)
set_option maxHeartbeats 4000000 in
set_option maxRecDepth 200000 in
theorem rmag_0 (na nb : Bool) (ua va : Option Addr) (un uc vn vc : Nat) (ea eb : Int) (w : World) (h0 : un = 0 ∨ vn = 0) (hn1 : un ≤ 35184372088832) (hn2 : vn ≤ 35184372088832) :
    Calls Tryz.prog 76 #[.agg #[.bool na, .slice ua un uc, .int .i64 ea], .agg #[.bool nb, .slice va vn vc, .int .i64 eb]] w fun r w' => r = .returned (.int .i64 ((un : Int) - vn)) ∧ Below w.heap.size w w' := by
  obtain ⟨W, hW⟩ : ∃ W, W = (w.alloc (.cells #[.bool na, .slice ua un uc, .int .i64 ea] 38)).alloc (.cells #[.bool nb, .slice va vn vc, .int .i64 eb] 38) := ⟨_, rfl⟩
  obtain ⟨hA, hBb, hsz, hBW⟩ := two29 _ _ hW
  have HX : Hid (Below w.heap.size w W) := hBW
  obtain ⟨⟨a0, a1, a2⟩, -⟩ := box_cells29 hA
  obtain ⟨⟨b0, b1, b2⟩, -⟩ := box_cells29 hBb
  rw [hW] at a0 a1 a2 b0 b1 b2
  have hw : IntKind.i64.wrap ((un : Int) - vn) = (un : Int) - vn := by rw [IntKind.wrap_i64]; omega
  have HD : Hid ((un : Int) - vn = (un : Int) - vn) := rfl
  clear hA hBb hsz hBW
  by_cases hu : un = 0
  · subst hu
    clear h0
    go_enter Tryz.func76, Tryz.ntmps76
    go_wp2
    go_ret
    exact ⟨by simp, hW ▸ HX.out⟩
  · obtain rfl : vn = 0 := by omega
    have hu1 : ((un : Int) == 0) = false := by simp; omega
    clear h0 hu
    go_enter Tryz.func76, Tryz.ntmps76
    go_wp2
    go_ret
    exact ⟨by simp, hW ▸ HX.out⟩
end Go.Proofs.YtajeodimbfppiaaGreatDoor
