/- Own work: contracts of the program's functions, part A17. -/
import Derived.Test.YtceoeiojoffnnaaGreatDoorA16
import Derived.Test.YtceoeiojoffnnaaGreatDoorA14
import Derived.Test.YtceoeiojoffnnaaGreatDoorA15

/- The law's same: the program's number and the document's, digit by digit. -/
namespace Go.Proofs.YtceoeiojoffnnaaGreatDoor
set_option linter.unusedVariables false
set_option linter.unusedSimpArgs false
open Go.RowKit Go.Fl64

set_option maxHeartbeats 4000000 in
set_option maxRecDepth 200000 in
theorem same_1 (s : Bool) (e : Int) (ua va : Option Addr) (n uc vc x : Nat) (w : World) (h1 : At w ua n x) (h2 : At w va n x) (hn : n ≤ 35184372088832) :
    Calls Tryz.prog 11 #[.agg #[.bool s, .slice ua n uc, .int .i64 e], .agg #[.bool s, .slice va n vc, .int .i64 e]] w fun r w' => r = .returned (.bool true) ∧ Below w.heap.size w w' := by
  obtain ⟨W, hW⟩ : ∃ W, W = (w.alloc (.cells #[.bool s, .slice ua n uc, .int .i64 e] 25)).alloc (.cells #[.bool s, .slice va n vc, .int .i64 e] 29) := ⟨_, rfl⟩
  have hBW : Below w.heap.size w W := by rw [hW]; exact ((Below.refl _ _).alloc (Nat.le_refl _) _).alloc (by simp) _
  have hbA : W.heap[w.heap.size]? = some (.cells #[.bool s, .slice ua n uc, .int .i64 e] 25 (0, 0)) := by
    rw [hW, Below.heap_alloc _ _ _ (by simp)]; exact heap_alloc_new _ _
  have hbB : W.heap[w.heap.size + 1]? = some (.cells #[.bool s, .slice va n vc, .int .i64 e] 29 (0, 0)) := by
    rw [hW]
    have := heap_alloc_new (w.alloc (.cells #[.bool s, .slice ua n uc, .int .i64 e] 25)) (.cells #[.bool s, .slice va n vc, .int .i64 e] 29)
    simpa using this
  obtain ⟨⟨a0, a1, a2⟩, -⟩ := box_cells hbA
  obtain ⟨⟨b0, b1, b2⟩, -⟩ := box_cells29 hbB
  have i1 := h1.later hBW
  have i2 := h2.later hBW
  have HH : Hid (Below w.heap.size w W) := hBW
  have HA : Hid (∀ d, ((W.drewN d).cell? ⟨w.heap.size, 1, none⟩ = some (.slice ua n uc) ∧ (W.drewN d).cell? ⟨w.heap.size + 1, 1, none⟩ = some (.slice va n vc)) ∧ At (W.drewN d) ua n x ∧ At (W.drewN d) va n x) := fun d => ⟨⟨a1, b1⟩, i1, i2⟩
  have t1 : (s != s) = false := by simp
  have t2 : (e != e) = false := by simp
  have t3 : ((n : Int) != (n : Int)) = false := by simp
  have hsz : (w.alloc (.cells #[.bool s, .slice ua n uc, .int .i64 e] 25)).heap.size = w.heap.size + 1 := by simp
  clear hbA hbB h1 h2 hBW i1 i2
  rw [hW] at a0 a1 a2 b0 b1 b2
  go_enter Tryz.func11, Tryz.ntmps11
  go_wp2_with fail
  rw [← hW]
  clear hW a0 a1 a2 b0 b1 b2 hsz
  go_loopw [5] (fun v wr => ∃ (i d : Nat), i ≤ n ∧ v = .int .i64 (i : Int) ∧ wr = W.drewN d) (fun v _ => n - (intOf v).toNat)
  case atStart => exact ⟨0, 0, Nat.zero_le _, rfl, rfl⟩
  case round =>
    obtain ⟨i, d, hi, rfl, rfl⟩ := hrel
    obtain ⟨⟨c1, c2⟩, ⟨ba, oa, ha, hca⟩, ⟨bb, ob, hb, hcb⟩⟩ := HA.out d
    by_cases hin : i < n
    · obtain rfl := ha (by omega)
      obtain rfl := hb (by omega)
      have g1 := hca i hin
      have g2 := hcb i hin
      have hii : (i : Int) < (n : Int) := by omega
      generalize dg x i = q at *
      have t4 : ((q : Int) != (q : Int)) = false := by simp
      clear hca hcb ha hb
      have HW : Hid (∃ d', W.drewN d = W.drewN d') := ⟨d, rfl⟩
      generalize W.drewN d = wd at *
      go_wp2
      go_quiet (fail)
      go_wp2
      obtain ⟨d', rfl⟩ := HW.out
      exact ⟨⟨i + 1, _, by omega, by simp, World.drewN_drewN ..⟩, by simp [intOf]; omega⟩
    · obtain rfl : i = n := by omega
      clear hca hcb ha hb hin
      have HF : Hid (Below w.heap.size w (W.drewN d)) := ⟨HH.out.os, HH.out.tape, HH.out.output, HH.out.size, HH.out.block⟩
      generalize W.drewN d = wd at *
      go_wp2
      go_ret
      exact ⟨rfl, HF.out⟩
end Go.Proofs.YtceoeiojoffnnaaGreatDoor

/- DyadOf: the law's walk, and what it answers. -/
namespace Go.Proofs.YtceoeiojoffnnaaGreatDoor
set_option linter.unusedVariables false
set_option linter.unusedSimpArgs false
open Go.RowKit Go.Fl64

theorem same_ok {w : World} {A C : Value} {b c : Nat} {s s' : Bool} {m M : Nat} {e E : Int} (hA : Nrm w b A s m e) (hC : Nr w c C s' M E)
    (h : (m = 0 ∧ M = 0) ∨ (m ≠ 0 ∧ M ≠ 0 ∧ s = s' ∧ m / 2 ^ tz m = M / 2 ^ tz M ∧ e + (tz m : Int) = E + (tz M : Int))) (hl : dlen (m / 2 ^ tz m) ≤ 35184372088832) :
    Calls Tryz.prog 11 #[A, C] w fun r w' => r = .returned (.bool true) ∧ Below w.heap.size w w' := by
  rcases h with ⟨rfl, rfl⟩ | ⟨h1, h2, rfl, h3, h4⟩
  · obtain rfl := hA.nil
    rcases hC with ⟨-, rfl⟩ | ⟨h, -⟩
    · have i := is_nil w
      obtain ⟨ao, cap, e0, h1, h2, h3⟩ := i
      simp only [Value.slice.injEq] at e0
      obtain ⟨rfl, -, rfl⟩ := e0
      rw [dlen_zero] at h3
      exact same_1 false 0 none none 0 0 0 0 w h3 h3 (by omega)
    · exact absurd rfl h
  · rcases hA with ⟨h, -⟩ | ⟨-, v, rfl, ho⟩
    · exact absurd h h1
    · rcases hC with ⟨h, -⟩ | ⟨-, g, cap, rfl, -, ha⟩
      · exact absurd h h2
      · obtain ⟨ao, cap', rfl, -, -, hi⟩ := ho.is
        unfold NumV
        rw [h4]
        rw [← h3] at ha ⊢
        exact same_1 _ _ _ _ _ _ _ _ w hi ha hl

set_option maxHeartbeats 4000000 in
set_option maxRecDepth 200000 in
theorem law3 (a : Nat) (n er : Int) (w : World) (PA PC QA QC : World → Value → Prop)
    (hPA : ∀ w w' v, Below w.heap.size w w' → PA w v → PA w' v) (hPC : ∀ w w' v, Below w.heap.size w w' → PC w v → PC w' v) (hQA : ∀ w w' v, Below w.heap.size w w' → QA w v → QA w' v)
    (k9 : Calls Tryz.prog 9 #[.float .f64 a] w fun r w' => ∃ s ao l cap ex, r = .returned (.tuple #[.agg #[.bool s, .slice ao l cap, .int .i64 ex], .int .i64 er]) ∧ PA w' (.agg #[.bool s, .slice ao l cap, .int .i64 ex]) ∧ Below w.heap.size w w')
    (k10 : ∀ W, Calls Tryz.prog 10 #[.float .f64 a] W fun r w' => ∃ s ao l cap ex, r = .returned (.tuple #[.agg #[.bool s, .slice ao l cap, .int .i64 ex], .int .i64 er]) ∧ PC w' (.agg #[.bool s, .slice ao l cap, .int .i64 ex]) ∧ Below W.heap.size W w')
    (k11 : ∀ W A C, PA W A → PC W C → Calls Tryz.prog 11 #[A, C] W fun r w' => r = .returned (.bool true) ∧ Below W.heap.size W w')
    (k12 : ∀ W, Below w.heap.size w W → Calls Tryz.prog 12 #[.int .i64 n] W fun r w' => ∃ A, r = .returned A ∧ QA w' A ∧ Below W.heap.size W w')
    (k13 : ∀ W, Calls Tryz.prog 13 #[.int .i64 n] W fun r w' => ∃ A, r = .returned A ∧ QC w' A ∧ Below W.heap.size W w')
    (k11' : ∀ W A C, QA W A → QC W C → Calls Tryz.prog 11 #[A, C] W fun r w' => r = .returned (.bool true) ∧ Below W.heap.size W w')
    (k14 : ∀ W, Below w.heap.size w W → Calls Tryz.prog 14 #[] W fun r w' => r = .returned (.bool true) ∧ Below W.heap.size W w') :
    Calls Tryz.prog 3 #[.float .f64 a, .int .i64 n] w fun r w' => r = .returned (.bool true) ∧ Below w.heap.size w w' := by
  have te : (er == er) = true := by simp
  have H : Hid ((∀ w w' v, Below w.heap.size w w' → PA w v → PA w' v) ∧ (∀ w w' v, Below w.heap.size w w' → PC w v → PC w' v) ∧ (∀ w w' v, Below w.heap.size w w' → QA w v → QA w' v)) := ⟨hPA, hPC, hQA⟩
  have H10 : Hid (∀ W, Calls Tryz.prog 10 #[.float .f64 a] W fun r w' => ∃ s ao l cap ex, r = .returned (.tuple #[.agg #[.bool s, .slice ao l cap, .int .i64 ex], .int .i64 er]) ∧ PC w' (.agg #[.bool s, .slice ao l cap, .int .i64 ex]) ∧ Below W.heap.size W w') := k10
  have H11 : Hid (∀ W A C, PA W A → PC W C → Calls Tryz.prog 11 #[A, C] W fun r w' => r = .returned (.bool true) ∧ Below W.heap.size W w') := k11
  have H12 : Hid (∀ W, Below w.heap.size w W → Calls Tryz.prog 12 #[.int .i64 n] W fun r w' => ∃ A, r = .returned A ∧ QA w' A ∧ Below W.heap.size W w') := k12
  have H13 : Hid (∀ W, Calls Tryz.prog 13 #[.int .i64 n] W fun r w' => ∃ A, r = .returned A ∧ QC w' A ∧ Below W.heap.size W w') := k13
  have H11' : Hid (∀ W A C, QA W A → QC W C → Calls Tryz.prog 11 #[A, C] W fun r w' => r = .returned (.bool true) ∧ Below W.heap.size W w') := k11'
  have H14 : Hid (∀ W, Below w.heap.size w W → Calls Tryz.prog 14 #[] W fun r w' => r = .returned (.bool true) ∧ Below W.heap.size W w') := k14
  clear hPA hPC hQA k10 k11 k12 k13 k11' k14
  go_enter Tryz.func3, Tryz.ntmps3
  go_wp2_with fail
  refine k9.mono ?_
  rintro r w1 ⟨s1, ao1, n1, cap1, ex1, rfl, hA, hb1⟩
  clear k9
  obtain ⟨W1, hW1⟩ : ∃ W1, W1 = w1.alloc (.cells #[.bool s1, .slice ao1 n1 cap1, .int .i64 ex1] 25) := ⟨_, rfl⟩
  have HX : Hid (PA W1 (.agg #[.bool s1, .slice ao1 n1 cap1, .int .i64 ex1]) ∧ Below w.heap.size w W1 ∧ W1.heap[w1.heap.size]? = some (.cells #[.bool s1, .slice ao1 n1 cap1, .int .i64 ex1] 25 (0, 0))) := ⟨by rw [hW1]; exact H.out.1 _ _ _ ((Below.refl _ _).alloc (Nat.le_refl _) _) hA, by rw [hW1]; exact hb1.alloc hb1.size _, by rw [hW1]; exact heap_alloc_new _ _⟩
  have k2 := H10.out W1
  clear hA hb1
  go_wp2_with fail
  rw [← hW1]
  clear hW1
  generalize w1.heap.size = g1 at *
  refine k2.mono ?_
  rintro r w2 ⟨s2, ao2, n2, cap2, ex2, rfl, hC, hb2⟩
  clear k2
  obtain ⟨W2, hW2⟩ : ∃ W2, W2 = w2.alloc (.cells #[.bool s2, .slice ao2 n2 cap2, .int .i64 ex2] 29) := ⟨_, rfl⟩
  have hbW : Below W1.heap.size W1 W2 := by rw [hW2]; exact hb2.alloc hb2.size _
  have HY : Hid (PC W2 (.agg #[.bool s2, .slice ao2 n2 cap2, .int .i64 ex2]) ∧ PA W2 (.agg #[.bool s1, .slice ao1 n1 cap1, .int .i64 ex1]) ∧ Below w.heap.size w W2) := ⟨by rw [hW2]; exact H.out.2.1 _ _ _ ((Below.refl _ _).alloc (Nat.le_refl _) _) hC, H.out.1 _ _ _ hbW HX.out.1, HX.out.2.1.trans (hbW.mono HX.out.2.1.size)⟩
  obtain ⟨⟨a0, a1, a2⟩, -⟩ := box_cells (box_later HX.out.2.2 hbW (lt_of_box HX.out.2.2))
  obtain ⟨⟨b0, b1, b2⟩, -⟩ := box_cells29 (by rw [hW2]; exact heap_alloc_new _ _ : W2.heap[w2.heap.size]? = some (.cells #[.bool s2, .slice ao2 n2 cap2, .int .i64 ex2] 29 (0, 0)))
  rw [hW2] at a0 a1 a2 b0 b1 b2
  have k3 := H11.out W2 _ _ HY.out.2.1 HY.out.1
  clear hC hb2 hbW
  go_wp2_with fail
  rw [← hW2]
  clear hW2 a0 a1 a2 b0 b1 b2
  refine k3.mono ?_
  rintro r w3 ⟨rfl, hb3⟩
  have HB3 : Hid (Below w.heap.size w w3) := HY.out.2.2.trans (hb3.mono HY.out.2.2.size)
  clear k3 hb3
  have k4 := H12.out w3 HB3.out
  go_wp2_with fail
  refine k4.mono ?_
  rintro r w4 ⟨A4, rfl, hA4, hb4⟩
  have HB4 : Hid (Below w.heap.size w w4 ∧ QA w4 A4) := ⟨HB3.out.trans (hb4.mono HB3.out.size), hA4⟩
  clear k4 hb4 hA4
  have k5 := H13.out w4
  go_wp2_with fail
  refine k5.mono ?_
  rintro r w5 ⟨C5, rfl, hC5, hb5⟩
  have HB5 : Hid (Below w.heap.size w w5) := HB4.out.1.trans (hb5.mono HB4.out.1.size)
  have k6 := H11'.out w5 _ _ (H.out.2.2 _ _ _ hb5 HB4.out.2) hC5
  clear k5 hb5 hC5
  go_wp2_with fail
  refine k6.mono ?_
  rintro r w6 ⟨rfl, hb6⟩
  have HB6 : Hid (Below w.heap.size w w6) := HB5.out.trans (hb6.mono HB5.out.size)
  clear k6 hb6
  have k7 := H14.out w6 HB6.out
  go_wp2_with fail
  refine k7.mono ?_
  rintro r w7 ⟨rfl, hb7⟩
  have HB7 : Hid (Below w.heap.size w w7) := HB6.out.trans (hb7.mono HB6.out.size)
  clear k7 hb7
  go_wp2_with fail
  go_ret
  exact ⟨rfl, HB7.out⟩
end Go.Proofs.YtceoeiojoffnnaaGreatDoor

/- DyadOf answers true, whatever the float and the whole number are. -/
namespace Go.Proofs.YtceoeiojoffnnaaGreatDoor
set_option linter.unusedVariables false
set_option linter.unusedSimpArgs false
open Go.RowKit Go.Fl64

theorem short {m : Nat} (h : m < 18446744073709551616) : dlen (m / 2 ^ tz m) ≤ 35184372088832 := by
  have h1 : dlen m ≤ 2 := (dlen_le 2 m).2 (by unfold B; omega)
  have h2 : dlen (m / 2 ^ tz m) ≤ dlen m := dlen_mono (Nat.div_le_self ..)
  omega

/-- the float's odd digits and exponent are those of the document's number -/
theorem of_parts (a m : Nat) (ha : a < 18446744073709551616) (hf : mag a < 9218868437227405312) (hm : Ie.sM a = (m : Int)) :
    (m = 0 ∧ Ie.mant a = 0) ∨ (m ≠ 0 ∧ Ie.mant a ≠ 0 ∧ neg a = neg a ∧ m / 2 ^ tz m = Ie.mant a / 2 ^ tz (Ie.mant a) ∧ Ie.sE a + (tz m : Int) = Ie.lp a + (tz (Ie.mant a) : Int)) := by
  unfold Ie.sM at hm
  unfold Ie.sE
  rw [if_neg (by omega)] at hm ⊢
  by_cases h0 : mag a = 0
  · rw [if_pos h0] at hm
    exact .inl ⟨by omega, by unfold Ie.mant; rw [if_pos (by omega)]; exact h0⟩
  · rw [if_neg h0] at hm ⊢
    have hb := Ie.mant_bound a
    have hne := Ie.mant_ne h0
    have hct : Lib.ctz 64 (Ie.mant a) = tz (Ie.mant a) := tz_ctz hne (by omega)
    rw [hct] at hm ⊢
    have e1 : m = Ie.mant a / 2 ^ tz (Ie.mant a) := by
      have : ((Ie.mant a / 2 ^ tz (Ie.mant a) : Nat) : Int) = (m : Int) := by rw [← hm]; simp
      omega
    obtain ⟨h1, h2⟩ := tz_spec _ (Ie.mant a) (Nat.le_refl _) hne
    rw [← e1] at h2
    have e2 : tz m = 0 := tz_odd h2
    refine .inr ⟨by intro e; rw [e] at h2; simp at h2, hne, rfl, ?_, ?_⟩
    · rw [e2, ← e1]; simp
    · rw [e2]; simp

theorem nil_same {w : World} : Calls Tryz.prog 11 #[.agg #[.bool false, .slice none 0 0, .int .i64 0], .agg #[.bool false, .slice none 0 0, .int .i64 0]] w fun r w' => r = .returned (.bool true) ∧ Below w.heap.size w w' := by
  obtain ⟨ao, cap, e0, h1, h2, h3⟩ := is_nil w
  simp only [Value.slice.injEq] at e0
  obtain ⟨rfl, -, rfl⟩ := e0
  rw [dlen_zero] at h3
  exact same_1 false 0 none none 0 0 0 0 w h3 h3 (by omega)

theorem dyadOf_ok (a : Nat) (n : Int) (w : World) (ha : a < 18446744073709551616) (hn : -9223372036854775808 ≤ n ∧ n ≤ 9223372036854775807) (hT : Tab32 w) (hI : Ie.Tab w) (h10 : Tab10 w) :
    Calls Tryz.prog 3 #[.float .f64 a, .int .i64 n] w fun r w' => r = .returned (.bool true) ∧ Below w.heap.size w w' := by
  have k12 : ∀ W, Below w.heap.size w W → Calls Tryz.prog 12 #[.int .i64 n] W fun r w' => ∃ A, r = .returned A ∧ (∃ b, Nrm w' b A (decide (n < 0)) n.natAbs 0) ∧ Below W.heap.size W w' := fun W hW =>
    (c12 (hT.later hW) hn).mono fun r w' ⟨A, e1, e2, e3⟩ => ⟨A, e1, ⟨_, e2⟩, e3⟩
  have k13 : ∀ W, Calls Tryz.prog 13 #[.int .i64 n] W fun r w' => ∃ A, r = .returned A ∧ (∃ b, Nr w' b A (decide (n < 0)) n.natAbs 0) ∧ Below W.heap.size W w' := fun W =>
    (r13 hn).mono fun r w' ⟨A, e1, e2, e3⟩ => ⟨A, e1, ⟨_, e2⟩, e3⟩
  have k11' : ∀ W A C, (∃ b, Nrm W b A (decide (n < 0)) n.natAbs 0) → (∃ b, Nr W b C (decide (n < 0)) n.natAbs 0) → Calls Tryz.prog 11 #[A, C] W fun r w' => r = .returned (.bool true) ∧ Below W.heap.size W w' := fun W A C ⟨b, h1⟩ ⟨c, h2⟩ =>
    same_ok h1 h2 (by
      rcases Nat.eq_zero_or_pos n.natAbs with h | h
      · exact .inl ⟨h, h⟩
      · exact .inr ⟨by omega, by omega, rfl, rfl, rfl⟩) (short (by omega))
  have k14 : ∀ W, Below w.heap.size w W → Calls Tryz.prog 14 #[] W fun r w' => r = .returned (.bool true) ∧ Below W.heap.size W w' := fun W hW => works_ok W (hT.later hW) (Tab.later hI hW) (h10.later hW)
  have hQA : ∀ w w' v, Below w.heap.size w w' → (∃ b, Nrm w b v (decide (n < 0)) n.natAbs 0) → (∃ b, Nrm w' b v (decide (n < 0)) n.natAbs 0) := fun w w' v hb ⟨b, h⟩ => ⟨b, h.later hb⟩
  rcases Nat.lt_trichotomy (mag a) 9218868437227405312 with h | h | h
  · obtain ⟨m, hm, hml⟩ := sM_lt a ha
    refine law3 a n 0 w (fun W v => ∃ b, Nrm W b v (neg a) m (Ie.sE a)) (fun W v => ∃ b, Nr W b v (neg a) (Ie.mant a) (Ie.lp a)) _ _ (fun w w' v hb ⟨b, h⟩ => ⟨b, h.later hb⟩) (fun w w' v hb ⟨b, h⟩ => ⟨b, h.later hb⟩) hQA ?_ ?_ ?_ k12 k13 k11' k14
    · refine (of_fin a m ha w hT hI h hm).mono ?_
      rintro r w' ⟨A, rfl, hN, hb⟩
      obtain ⟨s, ao, l, cap, ex, rfl⟩ := hN.shape
      exact ⟨_, _, _, _, _, rfl, ⟨_, hN⟩, hb⟩
    · intro W
      refine (of_ref a ha W).mono ?_
      rintro r w' ⟨h1 | h1 | ⟨-, A, rfl, hN⟩, hb⟩
      · exact absurd h1.1 (by omega)
      · exact absurd h1.1 (by omega)
      · obtain ⟨s, ao, l, cap, ex, rfl⟩ := hN.shape
        exact ⟨_, _, _, _, _, rfl, ⟨_, hN⟩, hb⟩
    · rintro W A C ⟨b, h1⟩ ⟨c, h2⟩
      exact same_ok h1 h2 (of_parts a m ha h hm) (short hml)
  · refine law3 a n 5 w (fun W v => v = .agg #[.bool false, .slice none 0 0, .int .i64 0]) (fun W v => v = .agg #[.bool false, .slice none 0 0, .int .i64 0]) _ _ (fun w w' v hb h => h) (fun w w' v hb h => h) hQA ?_ ?_ ?_ k12 k13 k11' k14
    · refine (of_inf a ha w hI h).mono ?_
      rintro r w' ⟨rfl, hb⟩
      exact ⟨_, _, _, _, _, rfl, rfl, hb⟩
    · intro W
      refine (of_ref a ha W).mono ?_
      rintro r w' ⟨h1 | ⟨-, rfl⟩ | h1, hb⟩
      · exact absurd h1.1 (by omega)
      · exact ⟨_, _, _, _, _, rfl, rfl, hb⟩
      · exact absurd h1.1 (by omega)
    · rintro W A C rfl rfl
      exact nil_same
  · refine law3 a n 4 w (fun W v => v = .agg #[.bool false, .slice none 0 0, .int .i64 0]) (fun W v => v = .agg #[.bool false, .slice none 0 0, .int .i64 0]) _ _ (fun w w' v hb h => h) (fun w w' v hb h => h) hQA ?_ ?_ ?_ k12 k13 k11' k14
    · refine (of_nan a ha w hI h).mono ?_
      rintro r w' ⟨rfl, hb⟩
      exact ⟨_, _, _, _, _, rfl, rfl, hb⟩
    · intro W
      refine (of_ref a ha W).mono ?_
      rintro r w' ⟨⟨-, rfl⟩ | h1 | h1, hb⟩
      · exact ⟨_, _, _, _, _, rfl, rfl, hb⟩
      · exact absurd h1.1 (by omega)
      · exact absurd h1.1 (by omega)
    · rintro W A C rfl rfl
      exact nil_same
end Go.Proofs.YtceoeiojoffnnaaGreatDoor
