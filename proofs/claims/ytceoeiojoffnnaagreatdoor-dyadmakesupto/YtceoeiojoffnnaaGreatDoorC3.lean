/- Own work: contracts of the program's functions, part C3. -/
import Derived.Test.YtceoeiojoffnnaaGreatDoorC1
import Derived.Test.YtceoeiojoffnnaaGreatDoorC2
import Derived.Test.YtceoeiojoffnnaaGreatDoorA17

/- DyadMakes: the law's walk, where there are digits. -/
namespace Go.Proofs.YtceoeiojoffnnaaGreatDoor
set_option linter.unusedVariables false
set_option linter.unusedSimpArgs false
open Go.RowKit Go.Fl64

set_option maxHeartbeats 8000000 in
set_option maxRecDepth 200000 in
theorem law4_1 (neg : Bool) (b o n cap x : Nat) (e er : Int) (w : World) (hn0 : 0 < n) (hn : n ≤ 1000000000) (hcell : ∀ i, i < n → w.cell? ⟨b, o + i, none⟩ = some (.int .u32 (dg x i : Nat))) (PA PC : World → Value → Prop)
    (hPA : ∀ w w' v, Below w.heap.size w w' → PA w v → PA w' v) (hPC : ∀ w w' v, Below w.heap.size w w' → PC w v → PC w' v)
    (k15 : ∀ W ao cap', Below w.heap.size w W → At W ao n x → n ≤ cap' → cap' ≤ 9223372036854775807 → Calls Tryz.prog 15 #[.bool neg, .slice ao n cap', .int .i64 e] W fun r w' => ∃ s ao l cap ex, r = .returned (.tuple #[.agg #[.bool s, .slice ao l cap, .int .i64 ex], .int .i64 er]) ∧ PA w' (.agg #[.bool s, .slice ao l cap, .int .i64 ex]) ∧ Below W.heap.size W w')
    (k16 : ∀ W, Below w.heap.size w W → Calls Tryz.prog 16 #[.bool neg, .slice (some ⟨b, o, none⟩) n cap, .int .i64 e] W fun r w' => ∃ s ao l cap ex, r = .returned (.tuple #[.agg #[.bool s, .slice ao l cap, .int .i64 ex], .int .i64 er]) ∧ PC w' (.agg #[.bool s, .slice ao l cap, .int .i64 ex]) ∧ Below W.heap.size W w')
    (k11 : ∀ W A C, PA W A → PC W C → Calls Tryz.prog 11 #[A, C] W fun r w' => r = .returned (.bool true) ∧ Below W.heap.size W w')
    (k14 : ∀ W, Below w.heap.size w W → Calls Tryz.prog 14 #[] W fun r w' => r = .returned (.bool true) ∧ Below W.heap.size W w') :
    Calls Tryz.prog 4 #[.bool neg, .slice (some ⟨b, o, none⟩) n cap, .int .i64 e] w fun r w' => r = .returned (.bool true) ∧ Below w.heap.size w w' := by
  have te : (er == er) = true := by simp
  have H : Hid ((∀ w w' v, Below w.heap.size w w' → PA w v → PA w' v) ∧ (∀ w w' v, Below w.heap.size w w' → PC w v → PC w' v)) := ⟨hPA, hPC⟩
  have H15 : Hid (∀ W ao cap', Below w.heap.size w W → At W ao n x → n ≤ cap' → cap' ≤ 9223372036854775807 → Calls Tryz.prog 15 #[.bool neg, .slice ao n cap', .int .i64 e] W fun r w' => ∃ s ao l cap ex, r = .returned (.tuple #[.agg #[.bool s, .slice ao l cap, .int .i64 ex], .int .i64 er]) ∧ PA w' (.agg #[.bool s, .slice ao l cap, .int .i64 ex]) ∧ Below W.heap.size W w') := k15
  have H16 : Hid (∀ W, Below w.heap.size w W → Calls Tryz.prog 16 #[.bool neg, .slice (some ⟨b, o, none⟩) n cap, .int .i64 e] W fun r w' => ∃ s ao l cap ex, r = .returned (.tuple #[.agg #[.bool s, .slice ao l cap, .int .i64 ex], .int .i64 er]) ∧ PC w' (.agg #[.bool s, .slice ao l cap, .int .i64 ex]) ∧ Below W.heap.size W w') := k16
  have H11 : Hid (∀ W A C, PA W A → PC W C → Calls Tryz.prog 11 #[A, C] W fun r w' => r = .returned (.bool true) ∧ Below W.heap.size W w') := k11
  have H14 : Hid (∀ W, Below w.heap.size w W → Calls Tryz.prog 14 #[] W fun r w' => r = .returned (.bool true) ∧ Below W.heap.size W w') := k14
  have HC : Hid (∀ i, i < n → w.cell? ⟨b, o + i, none⟩ = some (.int .u32 (dg x i : Nat))) := hcell
  have HN : Hid (∀ j u, (cells x n)[j]? = some u → w.cell? ((⟨b, o, none⟩ : Addr).add j) = some u) := fun j u hj => by
    have hjl : j < n := by
      have := (List.getElem?_eq_some_iff.1 hj).1
      rwa [cells_length] at this
    rw [cells_get hjl] at hj
    rw [show (⟨b, o, none⟩ : Addr).add j = ⟨b, o + j, none⟩ by simp [Addr.add], ← hj]
    exact hcell j hjl
  clear hPA hPC k15 k16 k11 k14 hcell
  obtain ⟨i0, hi0, hz0, hz1, hz2⟩ := info_parts Tryz.info39
  go_enter Tryz.func4, Tryz.ntmps4
  go_wp2_with (at_builtin; refine wpList_append_own _ rfl _ _ 23 rfl w.heap.size 39 i0 (.int .u32 0) 1 4 Tryz.underlying23 hi0 hz0 hz1 hz2 rfl (by decide) _ 0 [] rfl (World.ownsRow_nil ..) ⟨b, o, none⟩ n cap (cells x n) rfl (by rw [cells_length, Nat.mul_one]) HN.out (by intro u hu; simp [cells] at hu; obtain ⟨j, -, rfl⟩ := hu; rfl) (by unfold maxLen; omega) (by omega) (Nat.le_refl _) ?_)
  intro v' w1 hown hgrow _
  (try rw [Nat.zero_add, List.nil_append] at hown)
  obtain ⟨ao1, cap1, rfl, hc1, hA1⟩ := at_of_row hown
  have hc2 : cap1 ≤ 9223372036854775807 := by
    rcases hown.2 with ⟨hv, -⟩ | ⟨g, cp, cur, hv, -, -, -, hm, -⟩
    · simp only [Value.slice.injEq] at hv; omega
    · simp only [Value.slice.injEq] at hv; unfold maxLen at hm; omega
  have HB1 : Hid (Below w.heap.size w w1) := Below.grown (Below.refl _ _) hgrow (Nat.le_refl _) (fun k hk => by simp [Value.ownBlock] at hk)
  have k2 := H15.out w1 ao1 cap1 HB1.out hA1 hc1 hc2
  have HA1 : Hid (At w1 ao1 n x) := hA1
  clear hown hgrow hA1 HN hc1 hc2 hi0 hz0 hz1 hz2
  go_wp2_with fail
  refine k2.mono ?_
  rintro r w2 ⟨s2, ao2, n2, cap2, ex2, rfl, hA, hb2⟩
  obtain ⟨W2, hW2⟩ : ∃ W2, W2 = w2.alloc (.cells #[.bool s2, .slice ao2 n2 cap2, .int .i64 ex2] 25) := ⟨_, rfl⟩
  have hbW2 : Below w1.heap.size w1 W2 := by rw [hW2]; exact hb2.alloc hb2.size _
  have HX : Hid (PA W2 (.agg #[.bool s2, .slice ao2 n2 cap2, .int .i64 ex2]) ∧ Below w1.heap.size w1 W2 ∧ Below w.heap.size w W2 ∧ W2.heap[w2.heap.size]? = some (.cells #[.bool s2, .slice ao2 n2 cap2, .int .i64 ex2] 25 (0, 0))) := ⟨by rw [hW2]; exact H.out.1 _ _ _ ((Below.refl _ _).alloc (Nat.le_refl _) _) hA, hbW2, HB1.out.trans (hbW2.mono HB1.out.size), by rw [hW2]; exact heap_alloc_new _ _⟩
  have k3 := H16.out W2 HX.out.2.2.1
  clear k2 hb2 hA hbW2
  go_wp2_with fail
  rw [← hW2]
  clear hW2
  generalize w2.heap.size = g2 at *
  refine k3.mono ?_
  rintro r w3 ⟨s3, ao3, n3, cap3, ex3, rfl, hC, hb3⟩
  obtain ⟨W3, hW3⟩ : ∃ W3, W3 = w3.alloc (.cells #[.bool s3, .slice ao3 n3 cap3, .int .i64 ex3] 29) := ⟨_, rfl⟩
  have hbW3 : Below W2.heap.size W2 W3 := by rw [hW3]; exact hb3.alloc hb3.size _
  have HY : Hid (PC W3 (.agg #[.bool s3, .slice ao3 n3 cap3, .int .i64 ex3]) ∧ PA W3 (.agg #[.bool s2, .slice ao2 n2 cap2, .int .i64 ex2]) ∧ Below w.heap.size w W3 ∧ At W3 ao1 n x ∧ W3.heap[g2]? = some (.cells #[.bool s2, .slice ao2 n2 cap2, .int .i64 ex2] 25 (0, 0)) ∧ W3.heap[w3.heap.size]? = some (.cells #[.bool s3, .slice ao3 n3 cap3, .int .i64 ex3] 29 (0, 0))) :=
    ⟨by rw [hW3]; exact H.out.2 _ _ _ ((Below.refl _ _).alloc (Nat.le_refl _) _) hC, H.out.1 _ _ _ hbW3 HX.out.1, HX.out.2.2.1.trans (hbW3.mono HX.out.2.2.1.size), HA1.out.later (HX.out.2.1.trans (hbW3.mono HX.out.2.1.size)), box_later HX.out.2.2.2 hbW3 (lt_of_box HX.out.2.2.2), by rw [hW3]; exact heap_alloc_new _ _⟩
  clear k3 hb3 hC hbW3
  go_wp2_with fail
  rw [← hW3]
  clear hW3
  generalize w3.heap.size = g3 at *
  have HZ : Hid (∀ d, ((W3.drewN d).cell? ⟨g2, 0, none⟩ = some (.bool s2) ∧ (W3.drewN d).cell? ⟨g2, 1, none⟩ = some (.slice ao2 n2 cap2) ∧ (W3.drewN d).cell? ⟨g2, 2, none⟩ = some (.int .i64 ex2)) ∧ ((W3.drewN d).cell? ⟨g3, 0, none⟩ = some (.bool s3) ∧ (W3.drewN d).cell? ⟨g3, 1, none⟩ = some (.slice ao3 n3 cap3) ∧ (W3.drewN d).cell? ⟨g3, 2, none⟩ = some (.int .i64 ex3)) ∧ At (W3.drewN d) ao1 n x ∧ (∀ i, i < n → (W3.drewN d).cell? ⟨b, o + i, none⟩ = some (.int .u32 (dg x i : Nat))) ∧ PA (W3.drewN d) (.agg #[.bool s2, .slice ao2 n2 cap2, .int .i64 ex2]) ∧ PC (W3.drewN d) (.agg #[.bool s3, .slice ao3 n3 cap3, .int .i64 ex3]) ∧ Below w.heap.size w (W3.drewN d)) := fun d => by
    have hd : Below W3.heap.size W3 (W3.drewN d) := ⟨rfl, rfl, rfl, Nat.le_refl _, fun _ _ => rfl⟩
    have hw : Below w.heap.size w (W3.drewN d) := HY.out.2.2.1.trans (hd.mono HY.out.2.2.1.size)
    exact ⟨(box_cells HY.out.2.2.2.2.1).1, (box_cells29 HY.out.2.2.2.2.2).1, HY.out.2.2.2.1, fun i hi => (hw.cell (World.block_lt_of_cell? _ _ (HC.out i hi))).trans (HC.out i hi), H.out.1 _ _ _ hd HY.out.2.1, H.out.2 _ _ _ hd HY.out.1, hw⟩
  go_loopw [12] (fun v wr => ∃ (i d : Nat), i ≤ n ∧ v = .int .i64 (i : Int) ∧ wr = W3.drewN d) (fun v _ => n - (intOf v).toNat)
  case atStart => exact ⟨0, 0, Nat.zero_le _, rfl, rfl⟩
  case round =>
    obtain ⟨i, d, hi, rfl, rfl⟩ := hrel
    obtain ⟨⟨a0, a1, a2⟩, ⟨b0, b1, b2⟩, ⟨ba, oa, ha, hca⟩, hcb, pa, pc, hw⟩ := HZ.out d
    by_cases hin : i < n
    · obtain rfl := ha (by omega)
      have g1 := hca i hin
      have g4 := hcb i hin
      have hii : (i : Int) < (n : Int) := by omega
      generalize dg x i = q at *
      have t4 : ((q : Int) != (q : Int)) = false := by simp
      clear hca hcb ha pa pc hw a0 a1 a2 b0 b1 b2
      have HW : Hid (∃ d', W3.drewN d = W3.drewN d') := ⟨d, rfl⟩
      generalize W3.drewN d = wd at *
      go_wp2
      go_quiet (fail)
      go_wp2
      obtain ⟨d', rfl⟩ := HW.out
      exact ⟨⟨i + 1, _, by omega, by simp, World.drewN_drewN ..⟩, by simp [intOf]; omega⟩
    · obtain rfl : i = n := by omega
      have k5 := H11.out _ _ _ pa pc
      have HW : Hid (Below w.heap.size w (W3.drewN d)) := hw
      clear hca hcb ha hin pa pc hw
      generalize W3.drewN d = wd at *
      go_wp2_with fail
      refine k5.mono ?_
      rintro r w5 ⟨rfl, hb5⟩
      have HB5 : Hid (Below w.heap.size w w5) := HW.out.trans (hb5.mono HW.out.size)
      have k6 := H14.out w5 HB5.out
      clear k5 hb5 a0 a1 a2 b0 b1 b2
      go_wp2_with fail
      refine k6.mono ?_
      rintro r w6 ⟨rfl, hb6⟩
      have HB6 : Hid (Below w.heap.size w w6) := HB5.out.trans (hb6.mono HB5.out.size)
      clear k6 hb6
      go_wp2_with fail
      go_ret
      exact ⟨rfl, HB6.out⟩
end Go.Proofs.YtceoeiojoffnnaaGreatDoor
