/- Own work: contracts of the program's functions, part C4. -/
import Derived.Test.YtceoeiojoffnnaaGreatDoorC3
import Derived.Test.YtceoeiojoffnnaaGreatDoorA17
import Derived.Laws.AppendOwnNone

/- DyadMakes answers true: digits, and none. -/
namespace Go.Proofs.YtceoeiojoffnnaaGreatDoor
set_option linter.unusedVariables false
set_option linter.unusedSimpArgs false
open Go.RowKit Go.Fl64

set_option maxHeartbeats 8000000 in
set_option maxRecDepth 200000 in
theorem law4_00 (neg : Bool) (e : Int) (w : World)
    (k15 : ∀ W, Below w.heap.size w W → Calls Tryz.prog 15 #[.bool neg, .slice none 0 0, .int .i64 e] W fun r w' => r = .returned (.tuple #[.agg #[.bool false, .slice none 0 0, .int .i64 0], .int .i64 0]) ∧ Below W.heap.size W w')
    (k16 : ∀ W, Below w.heap.size w W → Calls Tryz.prog 16 #[.bool neg, .slice none 0 0, .int .i64 e] W fun r w' => r = .returned (.tuple #[.agg #[.bool false, .slice none 0 0, .int .i64 0], .int .i64 0]) ∧ Below W.heap.size W w')
    (k14 : ∀ W, Below w.heap.size w W → Calls Tryz.prog 14 #[] W fun r w' => r = .returned (.bool true) ∧ Below W.heap.size W w') :
    Calls Tryz.prog 4 #[.bool neg, .slice none 0 0, .int .i64 e] w fun r w' => r = .returned (.bool true) ∧ Below w.heap.size w w' := by
  have H16 : Hid (∀ W, Below w.heap.size w W → Calls Tryz.prog 16 #[.bool neg, .slice none 0 0, .int .i64 e] W fun r w' => r = .returned (.tuple #[.agg #[.bool false, .slice none 0 0, .int .i64 0], .int .i64 0]) ∧ Below W.heap.size W w') := k16
  have H14 : Hid (∀ W, Below w.heap.size w W → Calls Tryz.prog 14 #[] W fun r w' => r = .returned (.bool true) ∧ Below W.heap.size W w') := k14
  clear k16 k14
  obtain ⟨i0, hi0, hz0, hz1, hz2⟩ := info_parts Tryz.info39
  go_enter Tryz.func4, Tryz.ntmps4
  go_wp2_with (at_builtin; refine wpList_append_own_none rfl _ _ 23 rfl w.heap.size 39 i0 1 Tryz.underlying23 hi0 _ 0 [] rfl (World.ownsRow_nil ..) rfl ?_)
  obtain ⟨w1, hw1⟩ : ∃ w1 : World, w1 = w := ⟨_, rfl⟩
  have HB1 : Hid (Below w.heap.size w w1) := (by rw [hw1]; exact Below.refl _ _ : Below w.heap.size w w1)
  rw [← hw1]
  have k2 := k15 w1 HB1.out
  clear k15 hi0 hz0 hz1 hz2
  go_wp2_with fail
  refine k2.mono ?_
  rintro r w2 ⟨rfl, hb2⟩
  obtain ⟨W2, hW2⟩ : ∃ W2, W2 = w2.alloc (.cells #[.bool false, .slice none 0 0, .int .i64 0] 25) := ⟨_, rfl⟩
  have hbW2 : Below w1.heap.size w1 W2 := by rw [hW2]; exact hb2.alloc hb2.size _
  have HX : Hid (Below w.heap.size w W2 ∧ W2.heap[w2.heap.size]? = some (.cells #[.bool false, .slice none 0 0, .int .i64 0] 25 (0, 0))) := ⟨HB1.out.trans (hbW2.mono HB1.out.size), by rw [hW2]; exact heap_alloc_new _ _⟩
  have k3 := H16.out W2 HX.out.1
  clear k2 hb2 hbW2
  go_wp2_with fail
  rw [← hW2]
  clear hW2
  generalize w2.heap.size = g2 at *
  refine k3.mono ?_
  rintro r w3 ⟨rfl, hb3⟩
  obtain ⟨W3, hW3⟩ : ∃ W3, W3 = w3.alloc (.cells #[.bool false, .slice none 0 0, .int .i64 0] 29) := ⟨_, rfl⟩
  have hbW3 : Below W2.heap.size W2 W3 := by rw [hW3]; exact hb3.alloc hb3.size _
  have HY : Hid (Below w.heap.size w W3 ∧ W3.heap[g2]? = some (.cells #[.bool false, .slice none 0 0, .int .i64 0] 25 (0, 0)) ∧ W3.heap[w3.heap.size]? = some (.cells #[.bool false, .slice none 0 0, .int .i64 0] 29 (0, 0))) := ⟨HX.out.1.trans (hbW3.mono HX.out.1.size), box_later HX.out.2 hbW3 (lt_of_box HX.out.2), by rw [hW3]; exact heap_alloc_new _ _⟩
  clear k3 hb3 hbW3
  go_wp2_with fail
  rw [← hW3]
  clear hW3
  generalize w3.heap.size = g3 at *
  go_loop [12] (fun v => v = .int .i64 0) (fun _ => 0)
  case atStart => rfl
  case round =>
    subst hrel
    obtain ⟨⟨a0, a1, a2⟩, -⟩ := box_cells HY.out.2.1
    obtain ⟨⟨b0, b1, b2⟩, -⟩ := box_cells29 HY.out.2.2
    have k5 := nil_same (w := W3)
    go_wp2_with fail
    refine k5.mono ?_
    rintro r w5 ⟨rfl, hb5⟩
    have HB5 : Hid (Below w.heap.size w w5) := HY.out.1.trans (hb5.mono HY.out.1.size)
    have k6 := H14.out w5 HB5.out
    clear k5 hb5 a0 a1 a2 b0 b1 b2
    go_wp2_with fail
    refine k6.mono ?_
    rintro r w6 ⟨rfl, hb6⟩
    have HB6 : Hid (Below w.heap.size w w6) := HB5.out.trans (hb6.mono HB5.out.size)
    clear k6 hb6
    go_wp2_with fail
    go_ret
    exact ⟨rfl, HB6.out⟩

set_option maxHeartbeats 8000000 in
set_option maxRecDepth 200000 in
theorem law4_01 (neg : Bool) (ad : Addr) (cap : Nat) (e : Int) (w : World)
    (k15 : ∀ W, Below w.heap.size w W → Calls Tryz.prog 15 #[.bool neg, .slice none 0 0, .int .i64 e] W fun r w' => r = .returned (.tuple #[.agg #[.bool false, .slice none 0 0, .int .i64 0], .int .i64 0]) ∧ Below W.heap.size W w')
    (k16 : ∀ W, Below w.heap.size w W → Calls Tryz.prog 16 #[.bool neg, .slice (some ad) 0 cap, .int .i64 e] W fun r w' => r = .returned (.tuple #[.agg #[.bool false, .slice none 0 0, .int .i64 0], .int .i64 0]) ∧ Below W.heap.size W w')
    (k14 : ∀ W, Below w.heap.size w W → Calls Tryz.prog 14 #[] W fun r w' => r = .returned (.bool true) ∧ Below W.heap.size W w') :
    Calls Tryz.prog 4 #[.bool neg, .slice (some ad) 0 cap, .int .i64 e] w fun r w' => r = .returned (.bool true) ∧ Below w.heap.size w w' := by
  have H16 : Hid (∀ W, Below w.heap.size w W → Calls Tryz.prog 16 #[.bool neg, .slice (some ad) 0 cap, .int .i64 e] W fun r w' => r = .returned (.tuple #[.agg #[.bool false, .slice none 0 0, .int .i64 0], .int .i64 0]) ∧ Below W.heap.size W w') := k16
  have H14 : Hid (∀ W, Below w.heap.size w W → Calls Tryz.prog 14 #[] W fun r w' => r = .returned (.bool true) ∧ Below W.heap.size W w') := k14
  clear k16 k14
  obtain ⟨i0, hi0, hz0, hz1, hz2⟩ := info_parts Tryz.info39
  go_enter Tryz.func4, Tryz.ntmps4
  go_wp2_with (at_builtin; refine wpList_append_own _ rfl _ _ 23 rfl w.heap.size 39 i0 (.int .u32 0) 1 4 Tryz.underlying23 hi0 hz0 hz1 hz2 rfl (by decide) _ 0 [] rfl (World.ownsRow_nil ..) ad 0 cap [] rfl rfl (by intro j u hj; simp at hj) (by intro u hu; simp at hu) (by unfold maxLen; omega) (by omega) (Nat.le_refl _) ?_)
  intro v' w1 hown hgrow hnil
  have hv : v' = .slice none 0 0 := hnil
  subst hv
  have HB1 : Hid (Below w.heap.size w w1) := Below.grown (Below.refl _ _) hgrow (Nat.le_refl _) (fun k hk => by simp [Value.ownBlock] at hk)
  clear hown hgrow hnil
  have k2 := k15 w1 HB1.out
  clear k15 hi0 hz0 hz1 hz2
  go_wp2_with fail
  refine k2.mono ?_
  rintro r w2 ⟨rfl, hb2⟩
  obtain ⟨W2, hW2⟩ : ∃ W2, W2 = w2.alloc (.cells #[.bool false, .slice none 0 0, .int .i64 0] 25) := ⟨_, rfl⟩
  have hbW2 : Below w1.heap.size w1 W2 := by rw [hW2]; exact hb2.alloc hb2.size _
  have HX : Hid (Below w.heap.size w W2 ∧ W2.heap[w2.heap.size]? = some (.cells #[.bool false, .slice none 0 0, .int .i64 0] 25 (0, 0))) := ⟨HB1.out.trans (hbW2.mono HB1.out.size), by rw [hW2]; exact heap_alloc_new _ _⟩
  have k3 := H16.out W2 HX.out.1
  clear k2 hb2 hbW2
  go_wp2_with fail
  rw [← hW2]
  clear hW2
  generalize w2.heap.size = g2 at *
  refine k3.mono ?_
  rintro r w3 ⟨rfl, hb3⟩
  obtain ⟨W3, hW3⟩ : ∃ W3, W3 = w3.alloc (.cells #[.bool false, .slice none 0 0, .int .i64 0] 29) := ⟨_, rfl⟩
  have hbW3 : Below W2.heap.size W2 W3 := by rw [hW3]; exact hb3.alloc hb3.size _
  have HY : Hid (Below w.heap.size w W3 ∧ W3.heap[g2]? = some (.cells #[.bool false, .slice none 0 0, .int .i64 0] 25 (0, 0)) ∧ W3.heap[w3.heap.size]? = some (.cells #[.bool false, .slice none 0 0, .int .i64 0] 29 (0, 0))) := ⟨HX.out.1.trans (hbW3.mono HX.out.1.size), box_later HX.out.2 hbW3 (lt_of_box HX.out.2), by rw [hW3]; exact heap_alloc_new _ _⟩
  clear k3 hb3 hbW3
  go_wp2_with fail
  rw [← hW3]
  clear hW3
  generalize w3.heap.size = g3 at *
  go_loop [12] (fun v => v = .int .i64 0) (fun _ => 0)
  case atStart => rfl
  case round =>
    subst hrel
    obtain ⟨⟨a0, a1, a2⟩, -⟩ := box_cells HY.out.2.1
    obtain ⟨⟨b0, b1, b2⟩, -⟩ := box_cells29 HY.out.2.2
    have k5 := nil_same (w := W3)
    go_wp2_with fail
    refine k5.mono ?_
    rintro r w5 ⟨rfl, hb5⟩
    have HB5 : Hid (Below w.heap.size w w5) := HY.out.1.trans (hb5.mono HY.out.1.size)
    have k6 := H14.out w5 HB5.out
    clear k5 hb5 a0 a1 a2 b0 b1 b2
    go_wp2_with fail
    refine k6.mono ?_
    rintro r w6 ⟨rfl, hb6⟩
    have HB6 : Hid (Below w.heap.size w w6) := HB5.out.trans (hb6.mono HB5.out.size)
    clear k6 hb6
    go_wp2_with fail
    go_ret
    exact ⟨rfl, HB6.out⟩

theorem okR_val {neg : Bool} {x : Nat} {e : Int} (hx : x ≠ 0) : okR neg x e = (decide (dlen (x / 2 ^ tz x) ≤ 2048) && decide (-65536 ≤ e + (tz x : Int)) && decide (e + (tz x : Int) ≤ 65536)) := by
  have ho := (tz_spec _ x (Nat.le_refl _) hx).2
  have hy : x / 2 ^ tz x ≠ 0 := by intro e0; rw [e0] at ho; simp at ho
  have hd : dlen (x / 2 ^ tz x) ≠ 0 := fun e0 => hy (dlen_eq_zero.1 e0)
  unfold okR okN
  rw [if_neg hx, if_neg hd]
  have h1 : (dg (x / 2 ^ tz x) (dlen (x / 2 ^ tz x) - 1) != 0) = true := by simp; exact dg_top hy
  have h2 : (dg (x / 2 ^ tz x) 0 % 2 == 1) = true := by
    have : dg (x / 2 ^ tz x) 0 % 2 = 1 := by
      unfold dg
      simp only [Nat.pow_zero, Nat.div_one]
      unfold B
      omega
    simp [this]
  rw [h1, h2, Bool.and_true, Bool.and_true]

theorem dyadMakes_ok (neg : Bool) (b o n cap x : Nat) (e : Int) (w : World) (hn0 : 0 < n) (hnc : n ≤ cap) (hn : n ≤ 1000000000) (hxn : dlen x ≤ n) (hcell : ∀ i, i < n → w.cell? ⟨b, o + i, none⟩ = some (.int .u32 (dg x i : Nat))) (he : -9223372036854775808 ≤ e ∧ e ≤ 9223372036854775807) (hT : Tab32 w) (hI : Ie.Tab w) (h10 : Tab10 w) :
    Calls Tryz.prog 4 #[.bool neg, .slice (some ⟨b, o, none⟩) n cap, .int .i64 e] w fun r w' => r = .returned (.bool true) ∧ Below w.heap.size w w' := by
  have k14 : ∀ W, Below w.heap.size w W → Calls Tryz.prog 14 #[] W fun r w' => r = .returned (.bool true) ∧ Below W.heap.size W w' := fun W hW => works_ok W (hT.later hW) (Tab.later hI hW) (h10.later hW)
  have hAt : At w (some ⟨b, o, none⟩) n x := ⟨b, o, fun _ => rfl, hcell⟩
  by_cases hx : x = 0
  · subst hx
    refine law4_1 neg b o n cap 0 e 0 w hn0 hn hcell (fun W v => v = .agg #[.bool false, .slice none 0 0, .int .i64 0]) (fun W v => v = .agg #[.bool false, .slice none 0 0, .int .i64 0]) (fun w w' v hb h => h) (fun w w' v hb h => h) ?_ ?_ ?_ k14
    · intro W ao cap' hW hA h1 h2
      refine (c15_0 neg ao n cap' e W hA h1 (by omega)).mono ?_
      rintro r w' ⟨h | h, hb⟩
      · obtain ⟨-, A, rfl, hN⟩ := h
        obtain rfl := hN.nil
        exact ⟨_, _, _, _, _, rfl, rfl, hb⟩
      · have := h.1
        unfold okR at this
        simp at this
    · intro W hW
      refine (r16_0 neg _ n cap e W (hAt.later hW) hnc (by omega)).mono ?_
      rintro r w' ⟨rfl, hb⟩
      exact ⟨_, _, _, _, _, rfl, rfl, hb⟩
    · rintro W A C rfl rfl
      exact nil_same
  · have hok := okR_val (neg := neg) (e := e) hx
    cases hV : okR neg x e
    · refine law4_1 neg b o n cap x e 2 w hn0 hn hcell (fun W v => v = .agg #[.bool false, .slice none 0 0, .int .i64 0]) (fun W v => v = .agg #[.bool false, .slice none 0 0, .int .i64 0]) (fun w w' v hb h => h) (fun w w' v hb h => h) ?_ ?_ ?_ k14
      · intro W ao cap' hW hA h1 h2
        obtain ⟨b', o', hb', hc'⟩ := hA
        obtain rfl := hb' hn0
        refine (c15_1 neg b' o' n cap' x e W hc' hxn h1 h2 hn hx he (hT.later hW)).mono ?_
        rintro r w' ⟨h | h, hb⟩
        · rw [hV] at h; exact absurd h.1 (by decide)
        · obtain ⟨-, rfl⟩ := h
          exact ⟨_, _, _, _, _, rfl, rfl, hb⟩
      · intro W hW
        by_cases hr : e < -65536 - (tz x : Int) ∨ 65536 - (tz x : Int) < e
        · refine (r16_1 neg _ n cap x e W (hAt.later hW) hxn hnc hn hx he hr).mono ?_
          rintro r w' ⟨rfl, hb⟩
          exact ⟨_, _, _, _, _, rfl, rfl, hb⟩
        · have hv : decide (dlen (x / 2 ^ tz x) ≤ 2048) = false := by
            rw [hV, decide_eq_true (by omega : -65536 ≤ e + (tz x : Int)), decide_eq_true (by omega : e + (tz x : Int) ≤ 65536)] at hok
            simpa using hok.symm
          refine (r16_2 neg _ n cap x e W (hAt.later hW) hxn hnc hn hx he (by omega) (by omega) false hv).mono ?_
          rintro r w' ⟨h, hb⟩
          obtain ⟨g, cp, rfl, -, -⟩ := h
          exact ⟨_, _, _, _, _, rfl, rfl, hb⟩
      · rintro W A C rfl rfl
        exact nil_same
    · rw [hV] at hok
      have hok' := hok.symm
      simp only [Bool.and_eq_true, decide_eq_true_eq] at hok'
      refine law4_1 neg b o n cap x e 0 w hn0 hn hcell (fun W v => ∃ base, Nrm W base v neg x e) (fun W v => ∃ g cp, v = .agg #[.bool neg, .slice (some ⟨g, 0, none⟩) (dlen (x / 2 ^ tz x)) cp, .int .i64 (e + tz x)] ∧ At W (some ⟨g, 0, none⟩) (dlen (x / 2 ^ tz x)) (x / 2 ^ tz x)) (fun w w' v hb ⟨c, h⟩ => ⟨c, h.later hb⟩) (fun w w' v hb ⟨g, c, h, h'⟩ => ⟨g, c, h, h'.later hb⟩) ?_ ?_ ?_ k14
      · intro W ao cap' hW hA h1 h2
        obtain ⟨b', o', hb', hc'⟩ := hA
        obtain rfl := hb' hn0
        refine (c15_1 neg b' o' n cap' x e W hc' hxn h1 h2 hn hx he (hT.later hW)).mono ?_
        rintro r w' ⟨h | h, hb⟩
        · obtain ⟨-, A, rfl, hN⟩ := h
          obtain ⟨s, ao, l, cp, ex, rfl⟩ := hN.shape
          exact ⟨_, _, _, _, _, rfl, ⟨_, hN⟩, hb⟩
        · rw [hV] at h; exact absurd h.1 (by decide)
      · intro W hW
        refine (r16_2 neg _ n cap x e W (hAt.later hW) hxn hnc hn hx he (by omega) (by omega) true (decide_eq_true hok'.1.1)).mono ?_
        rintro r w' ⟨h, hb⟩
        obtain ⟨g, cp, rfl, -, hA⟩ := h
        exact ⟨_, _, _, _, _, rfl, ⟨g, cp, rfl, hA⟩, hb⟩
      · rintro W A C ⟨c, h1⟩ ⟨g, cp, rfl, h2⟩
        refine same_ok h1 (.inr ⟨hx, g, cp, rfl, Nat.zero_le _, h2⟩ : Nr W 0 _ neg x e) (.inr ⟨hx, hx, rfl, rfl, rfl⟩) (by omega)

theorem dyadMakes_nil (neg : Bool) (mo : Option Addr) (cap : Nat) (e : Int) (w : World) (hmo : (∃ ad, mo = some ad) ∨ (mo = none ∧ cap = 0)) (hT : Tab32 w) (hI : Ie.Tab w) (h10 : Tab10 w) :
    Calls Tryz.prog 4 #[.bool neg, .slice mo 0 cap, .int .i64 e] w fun r w' => r = .returned (.bool true) ∧ Below w.heap.size w w' := by
  have k14 : ∀ W, Below w.heap.size w W → Calls Tryz.prog 14 #[] W fun r w' => r = .returned (.bool true) ∧ Below W.heap.size W w' := fun W hW => works_ok W (hT.later hW) (Tab.later hI hW) (h10.later hW)
  have hz : ∀ (W : World) (m : Option Addr), At W m 0 0 := fun W m => ⟨0, 0, fun h => by omega, fun i hi => by omega⟩
  have k15 : ∀ W, Below w.heap.size w W → Calls Tryz.prog 15 #[.bool neg, .slice none 0 0, .int .i64 e] W fun r w' => r = .returned (.tuple #[.agg #[.bool false, .slice none 0 0, .int .i64 0], .int .i64 0]) ∧ Below W.heap.size W w' := fun W hW => by
    refine (c15_0 neg none 0 0 e W (hz W none) (by omega) (by omega)).mono ?_
    rintro r w' ⟨h | h, hb⟩
    · obtain ⟨-, A, rfl, hN⟩ := h
      obtain rfl := hN.nil
      exact ⟨rfl, hb⟩
    · have := h.1
      unfold okR at this
      simp at this
  rcases hmo with ⟨ad, rfl⟩ | ⟨rfl, rfl⟩
  · exact law4_01 neg ad cap e w k15 (fun W hW => r16_0 neg _ 0 cap e W (hz W _) (by omega) (by omega)) k14
  · exact law4_00 neg e w k15 (fun W hW => r16_0 neg none 0 0 e W (hz W none) (by omega) (by omega)) k14
end Go.Proofs.YtceoeiojoffnnaaGreatDoor
