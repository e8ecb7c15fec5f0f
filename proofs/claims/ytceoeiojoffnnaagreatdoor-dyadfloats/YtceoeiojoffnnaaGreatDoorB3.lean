/- Own work: contracts of the program's functions, part B3. -/
import Derived.Test.YtceoeiojoffnnaaGreatDoorB2
import Derived.Test.YtceoeiojoffnnaaGreatDoorB1
import Derived.Test.YtceoeiojoffnnaaGreatDoorA15

/- DyadFloats: the law's walk. -/
namespace Go.Proofs.YtceoeiojoffnnaaGreatDoor
set_option linter.unusedVariables false
set_option linter.unusedSimpArgs false
open Go.RowKit Go.Fl64

set_option maxHeartbeats 4000000 in
set_option maxRecDepth 200000 in
theorem law6_err (a b : Nat) (er1 er2 : Int) (w : World) (he : er1 ≠ 0 ∨ (er1 = 0 ∧ er2 ≠ 0))
    (k9a : Calls Tryz.prog 9 #[.float .f64 a] w fun r w' => ∃ s ao l cap ex, r = .returned (.tuple #[.agg #[.bool s, .slice ao l cap, .int .i64 ex], .int .i64 er1]) ∧ Below w.heap.size w w')
    (k9b : ∀ W, Below w.heap.size w W → Calls Tryz.prog 9 #[.float .f64 b] W fun r w' => ∃ s ao l cap ex, r = .returned (.tuple #[.agg #[.bool s, .slice ao l cap, .int .i64 ex], .int .i64 er2]) ∧ Below W.heap.size W w')
    (k14 : ∀ W, Below w.heap.size w W → Calls Tryz.prog 14 #[] W fun r w' => r = .returned (.bool true) ∧ Below W.heap.size W w') :
    Calls Tryz.prog 6 #[.float .f64 a, .float .f64 b] w fun r w' => r = .returned (.bool true) ∧ Below w.heap.size w w' := by
  have H9 : Hid (∀ W, Below w.heap.size w W → Calls Tryz.prog 9 #[.float .f64 b] W fun r w' => ∃ s ao l cap ex, r = .returned (.tuple #[.agg #[.bool s, .slice ao l cap, .int .i64 ex], .int .i64 er2]) ∧ Below W.heap.size W w') := k9b
  have H14 : Hid (∀ W, Below w.heap.size w W → Calls Tryz.prog 14 #[] W fun r w' => r = .returned (.bool true) ∧ Below W.heap.size W w') := k14
  have HE : Hid (er1 ≠ 0 ∨ (er1 = 0 ∧ er2 ≠ 0)) := he
  clear k9b k14 he
  go_enter Tryz.func6, Tryz.ntmps6
  go_wp2_with fail
  refine k9a.mono ?_
  rintro r w1 ⟨s1, ao1, n1, cap1, ex1, rfl, hb1⟩
  obtain ⟨W1, hW1⟩ : ∃ W1, W1 = w1.alloc (.cells #[.bool s1, .slice ao1 n1 cap1, .int .i64 ex1] 25) := ⟨_, rfl⟩
  have HB1 : Hid (Below w.heap.size w W1) := (by rw [hW1]; exact hb1.alloc hb1.size _ : Below w.heap.size w W1)
  have k2 := H9.out W1 HB1.out
  clear k9a hb1
  go_wp2_with fail
  rw [← hW1]
  clear hW1
  refine k2.mono ?_
  rintro r w2 ⟨s2, ao2, n2, cap2, ex2, rfl, hb2⟩
  obtain ⟨W2, hW2⟩ : ∃ W2, W2 = w2.alloc (.cells #[.bool s2, .slice ao2 n2 cap2, .int .i64 ex2] 25) := ⟨_, rfl⟩
  have HB2 : Hid (Below w.heap.size w W2) := (by rw [hW2]; exact (HB1.out.trans (hb2.mono HB1.out.size)).alloc (Nat.le_trans HB1.out.size hb2.size) _ : Below w.heap.size w W2)
  have k3 := H14.out W2 HB2.out
  clear k2 hb2
  rcases HE.out with h1 | ⟨rfl, h2⟩
  · have t1 : (er1 != 0) = true := by simp [h1]
    clear HE h1
    go_wp2_with fail
    rw [← hW2]
    refine k3.mono ?_
    rintro r w3 ⟨rfl, hb3⟩
    have HB3 : Hid (Below w.heap.size w w3) := HB2.out.trans (hb3.mono HB2.out.size)
    clear k3 hb3 hW2
    go_wp2_with fail
    go_ret
    exact ⟨rfl, HB3.out⟩
  · have t1 : (er2 != 0) = true := by simp [h2]
    clear HE h2
    go_wp2_with fail
    rw [← hW2]
    refine k3.mono ?_
    rintro r w3 ⟨rfl, hb3⟩
    have HB3 : Hid (Below w.heap.size w w3) := HB2.out.trans (hb3.mono HB2.out.size)
    clear k3 hb3 hW2
    go_wp2_with fail
    go_ret
    exact ⟨rfl, HB3.out⟩

set_option maxHeartbeats 8000000 in
set_option maxRecDepth 200000 in
theorem law6_main (a b A0 : Nat) (cv : Int) (L G : Bool) (w : World) (PA PB : World → Value → Prop)
    (hPA : ∀ w w' v, Below w.heap.size w w' → PA w v → PA w' v) (hPB : ∀ w w' v, Below w.heap.size w w' → PB w v → PB w' v)
    (hL : (FloatKind.f64.format.order a b == some Ordering.lt) = L) (hG : (FloatKind.f64.format.order a b == some Ordering.gt) = G) (hcv : cv = if L then -1 else if G then 1 else 0)
    (hadd : ∀ w, (binOp .add 22 (.float .f64 a) (.float .f64 0)).run Tryz.prog w = .ok (.float .f64 A0) w)
    (k9a : Calls Tryz.prog 9 #[.float .f64 a] w fun r w' => ∃ s ao l cap ex, r = .returned (.tuple #[.agg #[.bool s, .slice ao l cap, .int .i64 ex], .int .i64 0]) ∧ PA w' (.agg #[.bool s, .slice ao l cap, .int .i64 ex]) ∧ Below w.heap.size w w')
    (k9b : ∀ W, Below w.heap.size w W → Calls Tryz.prog 9 #[.float .f64 b] W fun r w' => ∃ s ao l cap ex, r = .returned (.tuple #[.agg #[.bool s, .slice ao l cap, .int .i64 ex], .int .i64 0]) ∧ PB w' (.agg #[.bool s, .slice ao l cap, .int .i64 ex]) ∧ Below W.heap.size W w')
    (k24 : ∀ W A (m : Int), Below w.heap.size w W → PA W A → 1 ≤ m → m ≤ 3 → Calls Tryz.prog 24 #[A, .int .i64 m] W fun r w' => r = .returned (.tuple #[.float .f64 A0, .int .i64 0]) ∧ Below W.heap.size W w')
    (k26 : ∀ W A C, PA W A → PB W C → Calls Tryz.prog 26 #[A, C] W fun r w' => r = .returned (.int .i64 cv) ∧ Below W.heap.size W w')
    (k14 : ∀ W, Below w.heap.size w W → Calls Tryz.prog 14 #[] W fun r w' => r = .returned (.bool true) ∧ Below W.heap.size W w') :
    Calls Tryz.prog 6 #[.float .f64 a, .float .f64 b] w fun r w' => r = .returned (.bool true) ∧ Below w.heap.size w w' := by
  have H : Hid ((∀ w w' v, Below w.heap.size w w' → PA w v → PA w' v) ∧ (∀ w w' v, Below w.heap.size w w' → PB w v → PB w' v)) := ⟨hPA, hPB⟩
  have H9 : Hid (∀ W, Below w.heap.size w W → Calls Tryz.prog 9 #[.float .f64 b] W fun r w' => ∃ s ao l cap ex, r = .returned (.tuple #[.agg #[.bool s, .slice ao l cap, .int .i64 ex], .int .i64 0]) ∧ PB w' (.agg #[.bool s, .slice ao l cap, .int .i64 ex]) ∧ Below W.heap.size W w') := k9b
  have H24 : Hid (∀ W A (m : Int), Below w.heap.size w W → PA W A → 1 ≤ m → m ≤ 3 → Calls Tryz.prog 24 #[A, .int .i64 m] W fun r w' => r = .returned (.tuple #[.float .f64 A0, .int .i64 0]) ∧ Below W.heap.size W w') := k24
  have H26 : Hid (∀ W A C, PA W A → PB W C → Calls Tryz.prog 26 #[A, C] W fun r w' => r = .returned (.int .i64 cv) ∧ Below W.heap.size W w') := k26
  have H14 : Hid (∀ W, Below w.heap.size w W → Calls Tryz.prog 14 #[] W fun r w' => r = .returned (.bool true) ∧ Below W.heap.size W w') := k14
  have HCV : Hid (cv = if L then -1 else if G then 1 else 0) := hcv
  have tA : ((A0 : Int) == (A0 : Int)) = true := by simp
  clear hPA hPB k9b k24 k26 k14 hcv
  go_enter Tryz.func6, Tryz.ntmps6
  go_wp2_with fail
  refine k9a.mono ?_
  rintro r w1 ⟨s1, ao1, n1, cap1, ex1, rfl, hA, hb1⟩
  obtain ⟨W1, hW1⟩ : ∃ W1, W1 = w1.alloc (.cells #[.bool s1, .slice ao1 n1 cap1, .int .i64 ex1] 25) := ⟨_, rfl⟩
  have HX : Hid (PA W1 (.agg #[.bool s1, .slice ao1 n1 cap1, .int .i64 ex1]) ∧ Below w.heap.size w W1 ∧ W1.heap[w1.heap.size]? = some (.cells #[.bool s1, .slice ao1 n1 cap1, .int .i64 ex1] 25 (0, 0))) := ⟨by rw [hW1]; exact H.out.1 _ _ _ ((Below.refl _ _).alloc (Nat.le_refl _) _) hA, by rw [hW1]; exact hb1.alloc hb1.size _, by rw [hW1]; exact heap_alloc_new _ _⟩
  have k2 := H9.out W1 HX.out.2.1
  clear k9a hb1 hA
  go_wp2_with fail
  rw [← hW1]
  clear hW1
  generalize w1.heap.size = g1 at *
  refine k2.mono ?_
  rintro r w2 ⟨s2, ao2, n2, cap2, ex2, rfl, hC, hb2⟩
  obtain ⟨W2, hW2⟩ : ∃ W2, W2 = w2.alloc (.cells #[.bool s2, .slice ao2 n2 cap2, .int .i64 ex2] 25) := ⟨_, rfl⟩
  have hbW : Below W1.heap.size W1 W2 := by rw [hW2]; exact hb2.alloc hb2.size _
  have HY : Hid (PA W2 (.agg #[.bool s1, .slice ao1 n1 cap1, .int .i64 ex1]) ∧ PB W2 (.agg #[.bool s2, .slice ao2 n2 cap2, .int .i64 ex2]) ∧ Below w.heap.size w W2 ∧ W2.heap[g1]? = some (.cells #[.bool s1, .slice ao1 n1 cap1, .int .i64 ex1] 25 (0, 0)) ∧ W2.heap[w2.heap.size]? = some (.cells #[.bool s2, .slice ao2 n2 cap2, .int .i64 ex2] 25 (0, 0))) :=
    ⟨H.out.1 _ _ _ hbW HX.out.1, by rw [hW2]; exact H.out.2 _ _ _ ((Below.refl _ _).alloc (Nat.le_refl _) _) hC, HX.out.2.1.trans (hbW.mono HX.out.2.1.size), box_later HX.out.2.2 hbW (lt_of_box HX.out.2.2), by rw [hW2]; exact heap_alloc_new _ _⟩
  clear k2 hb2 hC hbW
  go_wp2_with fail
  rw [← hW2]
  clear hW2
  generalize w2.heap.size = g2 at *
  have HZ : Hid (∀ W', Below W2.heap.size W2 W' → ((W'.cell? ⟨g1, 0, none⟩ = some (.bool s1) ∧ W'.cell? ⟨g1, 1, none⟩ = some (.slice ao1 n1 cap1) ∧ W'.cell? ⟨g1, 2, none⟩ = some (.int .i64 ex1)) ∧ (W'.cell? ⟨g2, 0, none⟩ = some (.bool s2) ∧ W'.cell? ⟨g2, 1, none⟩ = some (.slice ao2 n2 cap2) ∧ W'.cell? ⟨g2, 2, none⟩ = some (.int .i64 ex2))) ∧ PA W' (.agg #[.bool s1, .slice ao1 n1 cap1, .int .i64 ex1]) ∧ PB W' (.agg #[.bool s2, .slice ao2 n2 cap2, .int .i64 ex2]) ∧ Below w.heap.size w W') := fun W' h =>
    ⟨⟨(box_cells (box_later HY.out.2.2.2.1 h (lt_of_box HY.out.2.2.2.1))).1, (box_cells (box_later HY.out.2.2.2.2 h (lt_of_box HY.out.2.2.2.2))).1⟩, H.out.1 _ _ _ h HY.out.1, H.out.2 _ _ _ h HY.out.2.1, HY.out.2.2.1.trans (h.mono HY.out.2.2.1.size)⟩
  go_loopw [9] (fun v wr => ∃ i : Nat, 1 ≤ i ∧ i ≤ 4 ∧ v = .int .i64 (i : Int) ∧ Hid (Below W2.heap.size W2 wr)) (fun v _ => 4 - (intOf v).toNat)
  case atStart => exact ⟨1, by omega, by omega, rfl, Below.refl _ _⟩
  case round =>
    obtain ⟨i, hi1, hi4, rfl, HR⟩ := hrel
    obtain ⟨⟨⟨a0, a1, a2⟩, b0, b1, b2⟩, pa, pb, hbw⟩ := HZ.out wr HR.out
    by_cases hi : i ≤ 3
    · have hii : (i : Int) ≤ 3 := by omega
      have k3 := H24.out wr _ (i : Int) hbw pa (by omega) (by omega)
      clear pa pb hbw
      go_wp2_with fail
      refine k3.mono ?_
      rintro r w3 ⟨rfl, hb3⟩
      have HR3 : Hid (Below W2.heap.size W2 w3) := HR.out.trans (hb3.mono HR.out.size)
      have k4 := c54 A0 A0 w3
      rw [tA] at k4
      clear k3 hb3 a0 a1 a2 b0 b1 b2
      go_wp2_with fail
      refine k4.mono ?_
      rintro r w4 ⟨rfl, hw4⟩
      replace hw4 := hw4.symm
      subst hw4
      clear k4
      go_wp2_with fail
      exact ⟨⟨i + 1, by omega, by omega, by simp, HR3⟩, by simp [intOf]; omega⟩
    · obtain rfl : i = 4 := by omega
      clear hi hi1 hi4
      cases L
      · cases G
        · obtain rfl : cv = 0 := HCV.out
          have k5 := H26.out wr _ _ pa pb
          clear pa pb HCV
          go_wp2_with fail
          refine k5.mono ?_
          rintro r w5 ⟨rfl, hb5⟩
          have HB5 : Hid (Below w.heap.size w w5) := (HZ.out w5 (HR.out.trans (hb5.mono HR.out.size))).2.2.2
          have k6 := H14.out w5 HB5.out
          clear k5 hb5 a0 a1 a2 b0 b1 b2 hbw
          go_wp2_with fail
          refine k6.mono ?_
          rintro r w6 ⟨rfl, hb6⟩
          have HB6 : Hid (Below w.heap.size w w6) := HB5.out.trans (hb6.mono HB5.out.size)
          clear k6 hb6
          go_wp2_with fail
          go_ret
          exact ⟨rfl, HB6.out⟩
        · obtain rfl : cv = 1 := HCV.out
          have k5 := H26.out wr _ _ pa pb
          clear pa pb HCV
          go_wp2_with fail
          refine k5.mono ?_
          rintro r w5 ⟨rfl, hb5⟩
          have HB5 : Hid (Below w.heap.size w w5) := (HZ.out w5 (HR.out.trans (hb5.mono HR.out.size))).2.2.2
          have k6 := H14.out w5 HB5.out
          clear k5 hb5 a0 a1 a2 b0 b1 b2 hbw
          go_wp2_with fail
          refine k6.mono ?_
          rintro r w6 ⟨rfl, hb6⟩
          have HB6 : Hid (Below w.heap.size w w6) := HB5.out.trans (hb6.mono HB5.out.size)
          clear k6 hb6
          go_wp2_with fail
          go_ret
          exact ⟨rfl, HB6.out⟩
      · obtain rfl : cv = -1 := HCV.out
        have k5 := H26.out wr _ _ pa pb
        clear pa pb HCV
        go_wp2_with fail
        refine k5.mono ?_
        rintro r w5 ⟨rfl, hb5⟩
        have HB5 : Hid (Below w.heap.size w w5) := (HZ.out w5 (HR.out.trans (hb5.mono HR.out.size))).2.2.2
        have k6 := H14.out w5 HB5.out
        clear k5 hb5 a0 a1 a2 b0 b1 b2 hbw
        go_wp2_with fail
        refine k6.mono ?_
        rintro r w6 ⟨rfl, hb6⟩
        have HB6 : Hid (Below w.heap.size w w6) := HB5.out.trans (hb6.mono HB5.out.size)
        clear k6 hb6
        go_wp2_with fail
        go_ret
        exact ⟨rfl, HB6.out⟩
end Go.Proofs.YtceoeiojoffnnaaGreatDoor
