/- Own work: contracts of the program's functions, part 3: W13 W14 W15 W16 W17 W18 W19 W20. -/
import Derived.Test.YtbmaoiemgepppaaGreatDoorA2
import Derived.Laws.ResultCell
import Derived.Deep.RegionHeld3

/- bits.Len; rootDigits. -/
namespace Go.Proofs.YtbmaoiemgepppaaGreatDoor
set_option linter.unusedVariables false
set_option linter.unusedSimpArgs false
open Go.RowKit

set_option maxRecDepth 1000000 in
set_option maxHeartbeats 1000000 in
theorem c181 (x : Nat) (hx : x < 18446744073709551616) (w : World) :
    Calls Tryz.prog 135 #[.int .u64 x] w fun e w' => e = .returned (.int .i64 (bl x : Nat)) ∧ w' = w := by
  rw [bl_bitLen]
  obtain ⟨X, hX⟩ : ∃ X : Int, X = (x : Int) := ⟨_, rfl⟩
  rw [← hX]
  have hX0 : 0 ≤ X := by omega
  have hX1 : Hid (X < 18446744073709551616) := (by omega : X < 18446744073709551616)
  have hX' : Hid (X = (x : Int)) := hX
  clear hX hx
  go_enter Tryz.func135, Tryz.ntmps135
  go_wp2
  all_goals go_ret
  all_goals (refine ⟨congrArg Ending.returned (congrArg (Value.int IntKind.i64) ?_), rfl⟩)
  all_goals have h1 := hX1.out
  all_goals have h2 := hX'.out
  all_goals clear hX1 hX'
  all_goals subst h2
  all_goals rw [len8tab_get]
  · exact len_fin x 56 72057594037927936 _ (by decide) (by decide) (by omega) (by omega) (by omega)
  · exact len_fin x 48 281474976710656 _ (by decide) (by decide) (by omega) (by omega) (by omega)
  · exact len_fin x 40 1099511627776 _ (by decide) (by decide) (by omega) (by omega) (by omega)
  · exact len_fin x 32 4294967296 _ (by decide) (by decide) (by omega) (by omega) (by omega)
  · exact len_fin x 24 16777216 _ (by decide) (by decide) (by omega) (by omega) (by omega)
  · exact len_fin x 16 65536 _ (by decide) (by decide) (by omega) (by omega) (by omega)
  · exact len_fin x 8 256 _ (by decide) (by decide) (by omega) (by omega) (by omega)
  · exact len_fin0 x (by omega)

theorem c156 (x : Nat) (hx : x < 18446744073709551616) (w : World) :
    Calls Tryz.prog 125 #[.int .u64 x] w fun e w' => e = .returned (.int .i64 (bl x : Nat)) ∧ w' = w := by
  have k := c181 x hx
  clear hx
  generalize bl x = b at *
  go_enter Tryz.func125, Tryz.ntmps125
  go_wp2_with (first | (go_at_call 135; refine (k _).mono ?_; rintro e w' ⟨rfl, rfl⟩))
  go_ret
  exact ⟨rfl, rfl⟩

theorem dlen_mul_le (a b : Nat) : dlen (a * b) ≤ dlen a + dlen b := by
  rw [dlen_le, Nat.pow_add]
  exact Nat.mul_lt_mul_of_lt_of_le (lt_dlen a) (Nat.le_of_lt (lt_dlen b)) (Bpow_pos _)

theorem c112_0 (ao : Option Addr) (cap : Nat) (w : World) : Calls Tryz.prog 90 #[.slice ao 0 cap] w fun e w' => e = .returned (.tuple #[.slice none 0 0, .bool true]) ∧ w' = w := by
  go_enter Tryz.func90, Tryz.ntmps90
  go_wp2
  go_ret2
  exact ⟨rfl, rfl⟩

set_option maxRecDepth 200000 in
theorem c112_1 {ao : Option Addr} {cap x n : Nat} {w : World} (h : Is w (.slice ao n cap) x) (hn : dlen x = n) (hx : dlen x ≤ 1000000000) (hx0 : x ≠ 0) :
    Calls Tryz.prog 90 #[.slice ao n cap] w fun e w' => ∃ q r, e = .returned (.tuple #[q, .bool (decide (r * r = x))]) ∧ Own w' w.heap.size q r ∧ r * r ≤ x ∧ x < (r + 1) * (r + 1) ∧ Below w.heap.size w w' := by
  have k74 := c74 h (by omega)
  have hb1 : 1 ≤ bl x := by have := lt_bl x; exact Nat.pos_of_ne_zero fun e => by rw [e] at this; simp at this; omega
  have hb2 : bl x ≤ 32000000000 := by have := bl_top hx0; have := bl_le32 (dg_lt x (dlen x - 1)); omega
  obtain ⟨c, hc⟩ : ∃ c, (bl x - 1) / 2 = c := ⟨_, rfl⟩
  have hn0 : ((n : Int) == 0) = false := by
    have : dlen x ≠ 0 := fun e => hx0 (dlen_eq_zero.1 e)
    simp; omega
  have hq : ((bl x : Int) - 1).tdiv 2 = (c : Int) := by rw [Int.tdiv_eq_ediv_of_nonneg (by omega)]; omega
  obtain ⟨hR0, hX4⟩ := rt_start hx0 hc
  have hcb : c ≤ 32000000000 := by omega
  have k156 := fun w => c156 c (by omega) w
  have hlc : bl c ≤ 64 := (bl_le c 64).2 (by omega)
  have HR : Hid (Rt x c 0 1 ∧ 4 ^ c ≤ x ∧ x ≠ 0 ∧ dlen x ≤ 1000000000 ∧ c < 2 ^ bl c ∧ (c ≠ 0 → 2 ^ (bl c - 1) ≤ c)) := ⟨hR0, hX4, hx0, hx, lt_bl c, le_bl⟩
  have H : Hid (Is w (.slice ao n cap) x) := h
  generalize bl x = bx at *
  generalize hbc : bl c = bc at *
  have HBC : Hid (bl c = bc) := hbc
  clear hR0 hX4 hx0 hx h hn hc hbc
  go_enter Tryz.func90, Tryz.ntmps90
  go_wp2_with fail
  refine k74.mono ?_
  rintro e w1 ⟨rfl, rfl⟩
  clear k74
  go_wp2_with fail
  refine (c57 1 _ (by omega)).mono ?_
  rintro e w2 ⟨v1, rfl, hO1, hB1⟩
  go_wp2_with fail
  refine (k156 _).mono ?_
  rintro e w3 ⟨rfl, rfl⟩
  clear k156
  have HO1 : Hid (Own w3 w1.heap.size v1 1 ∧ Below w1.heap.size w1 w3) := ⟨hO1, hB1⟩
  clear hO1 hB1
  go_wp2
  go_loopw [5, 6, 7] (fun v k i wr => ∃ (s a : Nat), v = v ∧ k = .int .i64 (c / 2 ^ s : Nat) ∧ i = .int .i64 ((s : Int) - 1) ∧ s ≤ bc ∧ Own wr w1.heap.size v a ∧ Hid (Rt x c (c / 2 ^ s) a) ∧ Below w1.heap.size w1 wr) (fun _ _ i _ => (intOf i + 1).toNat)
  case atStart =>
    have e0 : c / 2 ^ bc = 0 := Nat.div_eq_of_lt HR.out.2.2.2.2.1
    exact ⟨bc, 1, rfl, by rw [e0]; rfl, rfl, Nat.le_refl _, HO1.out.1, (by rw [e0]; exact HR.out.1 : Rt x c (c / 2 ^ bc) 1), HO1.out.2⟩
  case round =>
    obtain ⟨s, a, -, rfl, rfl, hs, hO, hR, hB⟩ := hrel
    clear HO1
    by_cases hs0 : s = 0
    · subst hs0
      have hR2 : (a - 1) * (a - 1) < x ∧ x < (a + 1) * (a + 1) := by
        have h1 := hR.out
        simp only [Nat.pow_zero, Nat.div_one, Rt, Nat.sub_self] at h1
        exact h1.2
      have ha0 : a ≠ 0 := rt_pos hR.out HR.out.2.1
      have hla : dlen a ≤ 1000000001 := by have := dlen_mono (rt_le hR.out); have := dlen_succ_le x; have := HR.out.2.2.2.1; omega
      have hlx := HR.out.2.2.2.1
      have HR2 : Hid ((a - 1) * (a - 1) < x ∧ x < (a + 1) * (a + 1)) := hR2
      have HIx : Hid (Is wr (.slice ao n cap) x) := Is.later H.out hB
      have HB : Hid (Below w1.heap.size w1 wr) := hB
      have hla2 : dlen (a * a) ≤ 2000000002 := by have := dlen_mul_le a a; omega
      clear hR hR2 hB
      generalize c / 2 ^ 0 = c0 at *
      go_wp2_with fail
      refine (c143 hO.is hO.is (by omega) (by omega)).mono ?_
      rintro e w4 ⟨v2, rfl, hO4, hB4⟩
      have hA4 := hO.later hB4
      have k129 := c129 hO4.is (HIx.out.later hB4) (by omega) (by omega)
      have HB4 : Hid (Below w1.heap.size w1 w4) := HB.out.trans (hB4.mono HB.out.size)
      have HA4 : Hid (Own w4 w1.heap.size u5 a) := hA4
      clear hO4 hB4 hA4 hO
      by_cases hgt : x < a * a
      · have ec : cmpI ((a * a : Nat) : Int) (x : Int) = 1 := by unfold cmpI; rw [if_neg (by omega), if_pos (by omega)]
        rw [ec] at k129
        go_wp2_with fail
        refine k129.mono ?_
        rintro e w5 ⟨rfl, dd, rfl⟩
        clear k129
        have h1 : Is (w4.drewN dd) u5 a := HA4.out.is
        go_wp2_with fail
        refine (c57 1 (w4.drewN dd) (by omega)).mono ?_
        rintro e w6 ⟨v6, rfl, hO6, hB6⟩
        have h6 := h1.later hB6
        go_wp2_with fail
        refine (c138 h6 hO6.is (by omega) (by omega)).mono ?_
        rintro e w7 ⟨v7, rfl, hO7, hB7⟩
        have hBB : Below w1.heap.size w1 w7 := HB4.out.trans (Below.trans (b := w4.drewN dd) ⟨rfl, rfl, rfl, Nat.le_refl _, fun _ _ => rfl⟩ ((below_step hB6 hB7).mono HB4.out.size))
        have HF : Hid (Own w7 w1.heap.size v7 (a - 1) ∧ Below w1.heap.size w1 w7) := ⟨hO7.mono (by have := HB4.out.size; have := hB6.size; simp at this; omega), hBB⟩
        have HG : Hid (x < a * a) := hgt
        clear hO6 hB6 h6 hO7 hB7 hBB h1 hgt ec
        go_wp2
        go_ret2
        have hr := HR2.out
        refine ⟨v7, a - 1, ?_, HF.out.1, by omega, ?_, HF.out.2⟩
        · rw [decide_eq_false (by omega)]; rfl
        · rw [show a - 1 + 1 = a by omega]; exact HG.out
      · have ec : ¬ 0 < cmpI ((a * a : Nat) : Int) (x : Int) := by
          unfold cmpI
          by_cases h : a * a = x
          · rw [if_neg (by omega), if_neg (by omega)]; omega
          · rw [if_pos (by omega)]; omega
        have ed : (cmpI ((a * a : Nat) : Int) (x : Int) == 0) = decide (a * a = x) := by
          unfold cmpI
          by_cases h : a * a = x
          · rw [if_neg (by omega), if_neg (by omega), decide_eq_true h]; rfl
          · rw [if_pos (by omega), decide_eq_false h]; rfl
        generalize cmpI ((a * a : Nat) : Int) (x : Int) = far at *
        have HE : Hid ((far == 0) = decide (a * a = x)) := ed
        have HG : Hid (a * a ≤ x) := (by omega : a * a ≤ x)
        clear ed hgt
        go_wp2_with fail
        refine k129.mono ?_
        rintro e w5 ⟨rfl, dd, rfl⟩
        clear k129
        go_wp2
        go_ret2
        refine ⟨u5, a, ?_, HA4.out, HG.out, HR2.out.2, HB4.out.trans ⟨rfl, rfl, rfl, Nat.le_refl _, fun _ _ => rfl⟩⟩
        rw [← HE.out]; rfl
    · obtain ⟨t, rfl⟩ : ∃ t, s = t + 1 := ⟨s - 1, by omega⟩
      have e1 : ((t + 1 : Nat) : Int) - 1 = (t : Int) := by omega
      rw [e1]
      clear e1
      have ht64 : t < 64 := by omega
      have hsh : (c : Int) / 2 ^ t = ((c / 2 ^ t : Nat) : Int) := by rw [cast_pow, Int.natCast_ediv]
      generalize hd : c / 2 ^ t = d at *
      generalize he : c / 2 ^ (t + 1) = e at *
      have hc1 : c ≠ 0 := fun e0 => by
        have h1 := HBC.out
        rw [e0] at h1
        have : bl 0 = 0 := rfl
        omega
      have ht2 : 2 ^ t ≤ c := Nat.le_trans (Nat.pow_le_pow_right (by omega) (by omega)) (HR.out.2.2.2.2.2 hc1)
      have hde : e = d / 2 := by rw [← he, ← hd, Nat.pow_succ, Nat.div_div_eq_div_mul]
      have hd1 : 1 ≤ d := by rw [← hd]; exact Nat.div_pos ht2 (Nat.two_pow_pos t)
      have hdc : d ≤ c := by rw [← hd]; exact Nat.div_le_self ..
      have hstep : Rt x c d (a * 2 ^ (d - e - 1) + x / 2 ^ (2 * c - e - d + 1) / a) := by
        have := rt_step (s := t) (by rw [he]; exact hR.out) HR.out.2.1 ht2
        rw [he, hd] at this
        exact this
      have HS : Hid (Rt x c d (a * 2 ^ (d - e - 1) + x / 2 ^ (2 * c - e - d + 1) / a) ∧ c / 2 ^ t = d) := ⟨hstep, hd⟩
      have q1 : wrap64 (wrap64 (wrap64 (2 * (c : Int) - (e : Int)) - (d : Int)) + 1) = ((2 * c - e - d + 1 : Nat) : Int) := by unfold wrap64; omega
      have q2 : wrap64 (wrap64 ((d : Int) - (e : Int)) - 1) = ((d - e - 1 : Nat) : Int) := by unfold wrap64; omega
      have ha0 : a ≠ 0 := rt_pos hR.out HR.out.2.1
      have hla : dlen a ≤ 1000000001 := by have := dlen_mono (rt_le hR.out); have := dlen_succ_le x; have := HR.out.2.2.2.1; omega
      have hlx := HR.out.2.2.2.1
      have b1 : 2 * c - e - d + 1 ≤ 64000000001 := by omega
      have b2 : d - e - 1 ≤ 32000000000 := by omega
      have hl2 : dlen (a * 2 ^ (d - e - 1)) ≤ 2000000003 := by have := shl_len (x := a) (k := d - e - 1) rfl; omega
      generalize 2 * c - e - d + 1 = k1 at *
      generalize d - e - 1 = k2 at *
      have HIx : Hid (Is wr (.slice ao n cap) x) := Is.later H.out hB
      have HIa : Hid (Own wr w1.heap.size u5 a) := hO
      have HB : Hid (Below w1.heap.size w1 wr) := hB
      clear hstep hd he hde hd1 hdc ht2 hc1 hR hO hB
      go_wp2_with fail
      rw [q1]
      refine (c120 HIx.out k1 (by omega) (by omega)).mono ?_
      rintro e w4 ⟨v2, rfl, hO4, hB4⟩
      have hA4 := HIa.out.later hB4
      have hdv : dlen (x / 2 ^ k1) ≤ 1000000000 := Nat.le_trans (dlen_mono (Nat.div_le_self ..)) hlx
      go_wp2_with fail
      refine (c100 hO4.is hA4.is (by omega) (by omega) ha0).mono ?_
      rintro e w5 ⟨v3, rfl, hO5, hB5⟩
      have hA5 := hA4.later hB5
      have hB45 := below_step hB4 hB5
      clear hO4 hA4 hB4 hB5
      go_wp2_with fail
      rw [q2]
      refine (c109 hA5.is k2 (by omega) (by omega)).mono ?_
      rintro e w6 ⟨v4, rfl, hO6, hB6⟩
      have hQ6 := hO5.later hB6
      have hB46 := below_step hB45 hB6
      have hdq : dlen (x / 2 ^ k1 / a) ≤ 1000000000 := Nat.le_trans (dlen_mono (Nat.div_le_self ..)) hdv
      clear hO5 hA5 hB45 hB6
      go_wp2_with fail
      refine (c122 hO6.is hQ6.is (by omega) (by omega)).mono ?_
      rintro e w7 ⟨v5, rfl, hO7, hB7⟩
      have hsz := hB46.size
      have HO7 : Hid (Own w7 w1.heap.size v5 (a * 2 ^ k2 + x / 2 ^ k1 / a)) := hO7.mono (by have := HB.out.size; omega)
      have HB7 : Hid (Below w1.heap.size w1 w7) := HB.out.trans ((below_step hB46 hB7).mono HB.out.size)
      clear hO6 hQ6 hB46 hB7 hO7
      go_wp2
      exact ⟨⟨t, _, trivial, by rw [HS.out.2], rfl, by omega, HO7.out, (by rw [HS.out.2]; exact HS.out.1 : Rt x c (c / 2 ^ t) _), HB7.out⟩, by simp [intOf]⟩

theorem c112 {v : Value} {x : Nat} {w : World} (h : Is w v x) (hx : dlen x ≤ 1000000000) :
    Calls Tryz.prog 90 #[v] w fun e w' => ∃ q r, e = .returned (.tuple #[q, .bool (decide (r * r = x))]) ∧ Own w' w.heap.size q r ∧ r * r ≤ x ∧ x < (r + 1) * (r + 1) ∧ Below w.heap.size w w' := by
  have h' := h
  obtain ⟨ao, cap, rfl, -, -, -⟩ := h'
  by_cases h0 : x = 0
  · subst h0
    rw [dlen_zero]
    refine (c112_0 ao cap w).mono ?_
    rintro e w' ⟨rfl, rfl⟩
    exact ⟨_, 0, rfl, .inl ⟨rfl, rfl⟩, by omega, by omega, Below.refl _ _⟩
  · exact c112_1 h rfl hx h0
end Go.Proofs.YtbmaoiemgepppaaGreatDoor
/- normal. -/
namespace Go.Proofs.YtbmaoiemgepppaaGreatDoor
set_option linter.unusedVariables false
set_option linter.unusedSimpArgs false
open Go.RowKit

theorem Is.trim {w : World} {v : Value} {x : Nat} (h : Is w v x) (hx : dlen x ≤ 35184372088832) : Calls Tryz.prog 11 #[v] w fun e w' => e = .returned v ∧ w' = w := by
  obtain ⟨ao, cap, rfl, h1, h2, h3⟩ := h
  exact c62 ao _ cap x w (Nat.le_refl _) h1 (by omega) h3
theorem Is.alloc {w : World} {v : Value} {x : Nat} (h : Is w v x) (o : Obj) : Is (w.alloc o) v x := h.later ((Below.refl _ _).alloc (Nat.le_refl _) _)

theorem store3 {w : World} {g : Nat} {a b c : Value} (a' b' c' : Value) (h : w.heap[g]? = some (.cells #[a, b, c] 24 (0, 0))) :
    (((w.setCell ⟨g, 0, none⟩ a').setCell ⟨g, 1, none⟩ b').setCell ⟨g, 2, none⟩ c').heap[g]? = some (.cells #[a', b', c'] 24 (0, 0)) := by
  simp [World.setCell, Array.getElem?_modify, h]
theorem box_cells {w : World} {g : Nat} {a b c : Value} (h : w.heap[g]? = some (.cells #[a, b, c] 24 (0, 0))) :
    (w.cell? ⟨g, 0, none⟩ = some a ∧ w.cell? ⟨g, 1, none⟩ = some b ∧ w.cell? ⟨g, 2, none⟩ = some c) ∧ (w.frozen? ⟨g, 0, none⟩ = false ∧ w.frozen? ⟨g, 1, none⟩ = false ∧ w.frozen? ⟨g, 2, none⟩ = false) := by
  simp [World.cell?, World.frozen?, h]
theorem box_later {w w' : World} {g : Nat} {o : Obj} {B : Nat} (h : w.heap[g]? = some o) (hb : Below B w w') (hg : g < B) : w'.heap[g]? = some o := (hb.block g hg).trans h
theorem below_store3 {B : Nat} {w w' : World} {g : Nat} (h : Below B w w') (hg : B ≤ g) (a b c : Value) : Below B w (((w'.setCell ⟨g, 0, none⟩ a).setCell ⟨g, 1, none⟩ b).setCell ⟨g, 2, none⟩ c) :=
  ((h.setCell hg _).setCell hg _).setCell hg _
theorem own_store3 {w : World} {base g x : Nat} {v : Value} (h : Own w base v x) (hg : g < base) (a b c : Value) : Own (((w.setCell ⟨g, 0, none⟩ a).setCell ⟨g, 1, none⟩ b).setCell ⟨g, 2, none⟩ c) base v x := by
  rcases h with h | ⟨g', cap, f, h0, h1, h2, h3, h4, h5⟩
  · exact .inl h
  · exact .inr ⟨g', cap, f, h0, h1, h2, h3, ((h4.setOther (by show g' ≠ g; omega) _).setOther (by show g' ≠ g; omega) _).setOther (by show g' ≠ g; omega) _, h5⟩
theorem Tryz.info24 : (Tryz.prog.info? 24).map (·.size) = some 3 := by kernel_rfl

set_option maxRecDepth 200000 in
theorem c56_0 (neg : Bool) (ao : Option Addr) (cap : Nat) (e : Int) (w : World) (h : Is w (.slice ao 0 cap) 0) :
    Calls Tryz.prog 46 #[.bool neg, .slice ao 0 cap, .int .i64 e] w fun e w' => e = .returned (.agg #[.bool false, .slice none 0 0, .int .i64 0]) ∧ Below w.heap.size w w' := by
  have k := (h.alloc (.cells #[.bool false, .slice none 0 0, .int .i64 0] 24)).trim (by rw [dlen_zero]; omega)
  have HB : Hid (Below w.heap.size w (w.alloc (.cells #[.bool false, .slice none 0 0, .int .i64 0] 24))) := (Below.refl _ _).alloc (Nat.le_refl _) _
  clear h
  go_enter Tryz.func46, Tryz.ntmps46
  go_wp2_with fail
  refine k.mono ?_
  rintro e w1 ⟨rfl, rfl⟩
  go_wp2
  refine bodyPost_ret (results_cell_row rfl _ _ w.heap.size 24 #[.bool false, .slice none 0 0, .int .i64 0] (0, 0) _ rfl (heap_alloc_new _ _) Tryz.underlying24 rfl Tryz.info24) rfl ?_
  exact ⟨rfl, HB.out⟩
set_option maxRecDepth 200000 in
theorem c56_1 (neg : Bool) (ao : Option Addr) (n cap x : Nat) (e : Int) (w : World) (h : Is w (.slice ao n cap) x) (hn : dlen x = n) (hx : dlen x ≤ 1000000000) (hx0 : x ≠ 0) (hT : Tab32 w) (he : -4611686018427387904 ≤ e ∧ e ≤ 4611686018427387904) :
    Calls Tryz.prog 46 #[.bool neg, .slice ao n cap, .int .i64 e] w fun r w' => ∃ v, r = .returned (.agg #[.bool neg, v, .int .i64 (e + tz x)]) ∧ Own w' w.heap.size v (x / 2 ^ tz x) ∧ Below w.heap.size w w' := by
  obtain ⟨w0, hw0⟩ : ∃ w0, w0 = w.alloc (.cells #[.bool false, .slice none 0 0, .int .i64 0] 24) := ⟨_, rfl⟩
  have hB0 : Below w.heap.size w w0 := by rw [hw0]; exact (Below.refl _ _).alloc (Nat.le_refl _) _
  have h0 := h.later hB0
  have hT0 := hT.later hB0
  have k62 := h0.trim (by omega)
  have k119 := c119 h0 (by omega) hx0 hT0
  have htz : tz x ≤ 32000000000 := by
    have h1 := (tz_spec _ x (Nat.le_refl _) hx0)
    have h2 : 2 ^ tz x ≤ x := by
      have h3 : 1 ≤ x / 2 ^ tz x := Nat.pos_of_ne_zero fun e0 => by have := h1.2; rw [e0] at this; simp at this
      have := Nat.mul_le_mul_left (2 ^ tz x) h3
      omega
    have h4 := lt_bl x
    have h5 : tz x < bl x := Nat.lt_of_not_le fun h6 => by
      have := Nat.pow_le_pow_right (n := 2) (by omega) h6
      omega
    have := bl_top hx0
    have := bl_le32 (dg_lt x (dlen x - 1))
    omega
  have k120 := c120 h0 (tz x) (by omega) (by omega)
  have hn0 : ((n : Int) == 0) = false := by
    have : dlen x ≠ 0 := fun e => hx0 (dlen_eq_zero.1 e)
    simp; omega
  have HH : Hid (w0.heap[w.heap.size]? = some (.cells #[.bool false, .slice none 0 0, .int .i64 0] 24 (0, 0))) := (by rw [hw0]; exact heap_alloc_new _ _ : w0.heap[w.heap.size]? = some (.cells #[.bool false, .slice none 0 0, .int .i64 0] 24 (0, 0)))
  have HB0 : Hid (Below w.heap.size w w0) := hB0
  have HX : Hid (w0.heap.size = w.heap.size + 1) := (by rw [hw0]; simp : w0.heap.size = w.heap.size + 1)
  generalize htzx : tz x = t at *
  have HTZ : Hid (tz x = t) := htzx
  obtain ⟨he1, he2⟩ := he
  clear h h0 hT hT0 hn hx0 hx hB0 htzx
  go_enter Tryz.func46, Tryz.ntmps46
  go_wp2_with fail
  rw [← hw0]
  clear hw0
  refine k62.mono ?_
  rintro e w1 ⟨rfl, rfl⟩
  clear k62
  go_wp2_with fail
  refine k119.mono ?_
  rintro e w2 ⟨rfl, rfl⟩
  clear k119
  go_wp2_with fail
  refine k120.mono ?_
  rintro e w3 ⟨v, rfl, hO, hB⟩
  obtain ⟨va, vc, rfl, -, -, -⟩ := hO.is
  generalize dlen (x / 2 ^ t) = vl at *
  have HH3 : Hid (w3.heap[w.heap.size]? = some (.cells #[.bool false, .slice none 0 0, .int .i64 0] 24 (0, 0))) := box_later HH.out hB (by have := HX.out; omega)
  obtain ⟨⟨a1, a2, a3⟩, a4, a5, a6⟩ := box_cells HH3.out
  have HO : Hid (Own w3 w2.heap.size (.slice va vl vc) (x / 2 ^ t)) := hO
  have HB : Hid (Below w2.heap.size w2 w3) := hB
  clear k120 hO hB
  go_wp2
  refine bodyPost_ret (results_cell_row rfl _ _ w.heap.size 24 #[.bool neg, .slice va vl vc, .int .i64 (e + t)] (0, 0) _ rfl (store3 _ _ _ HH3.out) Tryz.underlying24 rfl Tryz.info24) rfl ?_
  have hx := HX.out
  exact ⟨_, rfl, (own_store3 HO.out (by omega) _ _ _).mono (by omega), below_store3 (HB0.out.trans (HB.out.mono (by omega))) (Nat.le_refl _) _ _ _⟩

/-- the value of a number: its sign, its digits, its exponent -/
def NumV (neg : Bool) (v : Value) (e : Int) : Value := .agg #[.bool neg, v, .int .i64 e]
/-- what normal makes: odd digits, in new memory; of nought the nought -/
def Nrm (w' : World) (base : Nat) (a : Value) (neg : Bool) (x : Nat) (e : Int) : Prop :=
  (x = 0 ∧ a = NumV false (.slice none 0 0) 0) ∨ (x ≠ 0 ∧ ∃ v, a = NumV neg v (e + tz x) ∧ Own w' base v (x / 2 ^ tz x))

theorem c56 {neg : Bool} {m : Value} {x : Nat} {e : Int} {w : World} (h : Is w m x) (hx : dlen x ≤ 1000000000) (hT : Tab32 w) (he : -4611686018427387904 ≤ e ∧ e ≤ 4611686018427387904) :
    Calls Tryz.prog 46 #[.bool neg, m, .int .i64 e] w fun r w' => ∃ a, r = .returned a ∧ Nrm w' w.heap.size a neg x e ∧ Below w.heap.size w w' := by
  have h' := h
  obtain ⟨ao, cap, rfl, -, -, -⟩ := h'
  by_cases h0 : x = 0
  · subst h0
    rw [dlen_zero] at h ⊢
    refine (c56_0 neg ao cap e w h).mono ?_
    rintro r w' ⟨rfl, hb⟩
    exact ⟨_, rfl, .inl ⟨rfl, rfl⟩, hb⟩
  · refine (c56_1 neg ao _ cap x e w h rfl hx h0 hT he).mono ?_
    rintro r w' ⟨v, rfl, ho, hb⟩
    exact ⟨_, rfl, .inr ⟨h0, v, rfl, ho⟩, hb⟩
end Go.Proofs.YtbmaoiemgepppaaGreatDoor
/- Valid, mayBe, bounded. -/
namespace Go.Proofs.YtbmaoiemgepppaaGreatDoor
set_option linter.unusedVariables false
set_option linter.unusedSimpArgs false
open Go.RowKit

set_option maxRecDepth 200000 in
theorem c18_0 (neg : Bool) (ao : Option Addr) (cap : Nat) (e : Int) (w : World) :
    Calls Tryz.prog 28 #[.agg #[.bool neg, .slice ao 0 cap, .int .i64 e]] w fun r w' => r = .returned (.bool (e == 0 && !neg)) ∧ w' = w.alloc (.cells #[.bool neg, .slice ao 0 cap, .int .i64 e] 24) := by
  by_cases he : e = 0
  · subst he
    go_enter Tryz.func28, Tryz.ntmps28
    go_wp2
    go_ret
    exact ⟨by simp, rfl⟩
  · have he' : (e == 0) = false := by simp; exact he
    go_enter Tryz.func28, Tryz.ntmps28
    go_wp2
    go_ret
    exact ⟨by simp [he'], rfl⟩
set_option maxRecDepth 200000 in
theorem c18_1 (neg : Bool) (b o m cap p q : Nat) (e : Int) (w : World) (g1 : w.cell? ⟨b, o + m, none⟩ = some (.int .u32 q)) (g0 : w.cell? ⟨b, o, none⟩ = some (.int .u32 p)) (hm : m ≤ 35184372088832) :
    Calls Tryz.prog 28 #[.agg #[.bool neg, .slice (some ⟨b, o, none⟩) (m + 1) cap, .int .i64 e]] w fun r w' => r = .returned (.bool (decide (m + 1 ≤ 2048) && (q != 0) && (p % 2 == 1) && decide (-65536 ≤ e) && decide (e ≤ 65536))) ∧ w' = w.alloc (.cells #[.bool neg, .slice (some ⟨b, o, none⟩) (m + 1) cap, .int .i64 e] 24) := by
  have f1 : ∀ ob, (w.alloc ob).cell? ⟨b, o + m, none⟩ = some (.int .u32 q) := fun ob => World.cell?_alloc_old w ob _ (Nat.ne_of_lt (World.block_lt_of_cell? _ _ g1)) ▸ g1
  have f0 : ∀ ob, (w.alloc ob).cell? ⟨b, o, none⟩ = some (.int .u32 p) := fun ob => World.cell?_alloc_old w ob _ (Nat.ne_of_lt (World.block_lt_of_cell? _ _ g0)) ▸ g0
  have hbm := World.block_lt_of_cell? _ _ g1
  generalize hans : (decide (m + 1 ≤ 2048) && (q != 0) && (p % 2 == 1) && decide (-65536 ≤ e) && decide (e ≤ 65536)) = ans
  have HA : Hid (ans = (decide (m + 1 ≤ 2048) && (q != 0) && (p % 2 == 1) && decide (-65536 ≤ e) && decide (e ≤ 65536))) := hans.symm
  clear hans
  go_enter Tryz.func28, Tryz.ntmps28
  go_wp2
  all_goals go_ret
  all_goals refine ⟨congrArg Ending.returned (congrArg Value.bool ?_), rfl⟩
  all_goals rw [HA.out]
  all_goals clear HA g1 g0 f1 f0
  all_goals go_light
  all_goals (rw [Bool.eq_iff_iff]; simp; omega)

/-- may a number be: n digits of z, the exponent, the sign -/
def okN (neg : Bool) (n z : Nat) (e : Int) : Bool :=
  if n = 0 then (e == 0 && !neg) else decide (n ≤ 2048) && (dg z (n - 1) != 0) && (dg z 0 % 2 == 1) && decide (-65536 ≤ e) && decide (e ≤ 65536)

theorem c18 {neg : Bool} {ao : Option Addr} {n cap z : Nat} {e : Int} {w : World} (h : At w ao n z) (hn : n ≤ 35184372088832) :
    Calls Tryz.prog 28 #[.agg #[.bool neg, .slice ao n cap, .int .i64 e]] w fun r w' => r = .returned (.bool (okN neg n z e)) ∧ w' = w.alloc (.cells #[.bool neg, .slice ao n cap, .int .i64 e] 24) := by
  unfold okN
  by_cases h0 : n = 0
  · subst h0
    exact c18_0 neg ao cap e w
  · obtain ⟨b, o, h1, h2⟩ := h
    obtain rfl := h1 (by omega)
    obtain ⟨m, rfl⟩ : ∃ m, n = m + 1 := ⟨n - 1, by omega⟩
    rw [if_neg h0, Nat.add_sub_cancel]
    exact c18_1 neg b o m cap _ _ e w (h2 m (by omega)) (by have := h2 0 (by omega); rwa [Nat.add_zero] at this) (by omega)
end Go.Proofs.YtbmaoiemgepppaaGreatDoor
/- mayBe, bounded. -/
namespace Go.Proofs.YtbmaoiemgepppaaGreatDoor
set_option linter.unusedVariables false
set_option linter.unusedSimpArgs false
open Go.RowKit

set_option maxRecDepth 200000 in
theorem c67 (g k : Nat) (ng : Nat → Bool) (ao : Nat → Option Addr) (n cap z : Nat → Nat) (e : Nat → Int) (w : World) (hk : k ≤ 3)
    (h0 : ∀ i, i < k → w.cell? ⟨g, i * 3, none⟩ = some (.bool (ng i))) (h1 : ∀ i, i < k → w.cell? ⟨g, i * 3 + 1, none⟩ = some (.slice (ao i) (n i) (cap i))) (h2 : ∀ i, i < k → w.cell? ⟨g, i * 3 + 2, none⟩ = some (.int .i64 (e i)))
    (hA : ∀ i, i < k → At w (ao i) (n i) (z i)) (hn : ∀ i, i < k → n i ≤ 35184372088832) :
    Calls Tryz.prog 35 #[.slice (some ⟨g, 0, none⟩) k k] w fun r w' => r = .returned (.bool (decide (∀ i, i < k → okN (ng i) (n i) (z i) (e i) = true))) ∧ Below w.heap.size w w' := by
  generalize hans : decide (∀ i, i < k → okN (ng i) (n i) (z i) (e i) = true) = ans
  have HA : Hid (ans = decide (∀ i, i < k → okN (ng i) (n i) (z i) (e i) = true)) := hans.symm
  clear hans
  go_enter Tryz.func35, Tryz.ntmps35
  go_wp2
  go_loopw [7] (fun i wr => ∃ j : Nat, j ≤ k ∧ i = .int .i64 j ∧ Hid (Below w.heap.size w wr) ∧ Hid (∀ i, i < j → okN (ng i) (n i) (z i) (e i) = true)) (fun i _ => k - (intOf i).toNat)
  case atStart => exact ⟨0, Nat.zero_le _, rfl, Below.refl _ _, (fun i hi => absurd hi (Nat.not_lt_zero _) : ∀ i, i < 0 → okN (ng i) (n i) (z i) (e i) = true)⟩
  case round =>
    obtain ⟨j, hj, rfl, hB, hok⟩ := hrel
    by_cases hjk : j < k
    · have a0 : wr.cell? ⟨g, j * 3, none⟩ = some (.bool (ng j)) := (hB.out.cell (World.block_lt_of_cell? _ _ (h0 j hjk))).trans (h0 j hjk)
      have a1 : wr.cell? ⟨g, j * 3 + 1, none⟩ = some (.slice (ao j) (n j) (cap j)) := (hB.out.cell (World.block_lt_of_cell? _ _ (h1 j hjk))).trans (h1 j hjk)
      have a2 : wr.cell? ⟨g, j * 3 + 2, none⟩ = some (.int .i64 (e j)) := (hB.out.cell (World.block_lt_of_cell? _ _ (h2 j hjk))).trans (h2 j hjk)
      have hg : g < wr.heap.size := World.block_lt_of_cell? _ _ a0
      have hji : (j : Int) < (k : Int) := by omega
      have HAj : Hid (At wr (ao j) (n j) (z j) ∧ n j ≤ 35184372088832) := ⟨(hA j hjk).later hB.out, hn j hjk⟩
      clear h0 h1 h2 hA hn
      have k18 := c18 (neg := ng j) (cap := cap j) (e := e j) (HAj.out.1.later ((Below.refl wr.heap.size wr).alloc (Nat.le_refl _) (.cells #[.bool (ng j), .slice (ao j) (n j) (cap j), .int .i64 (e j)] 24))) HAj.out.2
      generalize hokj : okN (ng j) (n j) (z j) (e j) = okj at *
      have HOK : Hid (okN (ng j) (n j) (z j) (e j) = okj) := hokj
      clear hokj
      go_wp2_with fail
      refine k18.mono ?_
      rintro r w1 ⟨rfl, hw1⟩
      have HB1 : Hid (Below w.heap.size w w1) := by
        rw [hw1]
        have h1 := hB.out.size
        exact (hB.out.alloc h1 _).alloc (by simp; omega) _
      clear hw1 k18
      cases okj
      · go_wp2
        go_ret
        refine ⟨congrArg Ending.returned (congrArg Value.bool ?_), HB1.out⟩
        rw [HA.out, decide_eq_false]
        intro h
        have := h j hjk
        rw [HOK.out] at this
        exact absurd this (by decide)
      · go_wp2
        exact ⟨⟨j + 1, by omega, by simp, HB1, (fun i hi => by
          by_cases e1 : i = j
          · subst e1; exact HOK.out
          · exact hok.out i (by omega) : ∀ i, i < j + 1 → okN (ng i) (n i) (z i) (e i) = true)⟩, by simp [intOf]; omega⟩
    · obtain rfl : j = k := by omega
      clear h0 h1 h2 hA hn
      go_wp2
      go_ret
      refine ⟨congrArg Ending.returned (congrArg Value.bool ?_), hB.out⟩
      rw [HA.out, decide_eq_true hok.out]

theorem results_cell_tmp_row {P : Program} {fn : Func} {p u : Tmp} {ty : TypeId} (h : fn.results = #[.cell p ty, .tmp u]) (tmps : Array Value) (w : World) (g : Nat) (t : TypeId) (cs : Array Value) (fr : Nat × Nat) (d : TypeDesc)
    (hp : tmps.getD p undef = .pointer (some ⟨g, 0, none⟩)) (hg : w.heap[g]? = some (.cells cs t fr))
    (hu : P.underlying ty = some d) (hd : (match d with | .struct _ | .array _ _ => true | _ => false) = true) (hi : (P.info? ty).map (·.size) = some cs.size) :
    (results fn tmps).run P w = .ok (.tuple #[.agg cs, tmps.getD u undef]) w := by
  rw [results_cell_tmp h, hp]
  simp [asAddr, run_loadVar_row w g t ty cs fr d hg hu hd hi, Result.andThen]
theorem blk_mid (w : World) (a b c : Obj) : (((w.alloc a).alloc b).alloc c).heap[w.heap.size + 1]? = some b := by
  rw [Below.heap_alloc _ _ _ (by simp)]
  have := heap_alloc_new (w.alloc a) b
  simpa using this

/-- the nought -/
def Nil : Value := NumV false (.slice none 0 0) 0

set_option maxRecDepth 200000 in
theorem c63 {neg : Bool} {ao : Option Addr} {n cap z : Nat} {e : Int} {w : World} (h : At w ao n z) (hn : n ≤ 35184372088832) :
    Calls Tryz.prog 48 #[.agg #[.bool neg, .slice ao n cap, .int .i64 e]] w fun r w' =>
      r = .returned (.tuple #[if okN neg n z e then .agg #[.bool neg, .slice ao n cap, .int .i64 e] else Nil, .int .i64 (if okN neg n z e then 0 else 2)]) ∧ Below w.heap.size w w' := by
  have hB : Below w.heap.size w ((w.alloc (.cells #[.bool neg, .slice ao n cap, .int .i64 e] 24)).alloc (.cells #[.bool false, .slice none 0 0, .int .i64 0] 24)) := ((Below.refl _ _).alloc (Nat.le_refl _) _).alloc (by simp) _
  have k18 := c18 (neg := neg) (cap := cap) (e := e) (h.later hB) hn
  cases hok : okN neg n z e
  · rw [hok] at k18
    have HB : Hid (Below w.heap.size w ((w.alloc (.cells #[.bool neg, .slice ao n cap, .int .i64 e] 24)).alloc (.cells #[.bool false, .slice none 0 0, .int .i64 0] 24))) := hB
    clear hok hB h
    go_enter Tryz.func48, Tryz.ntmps48
    go_wp2_with fail
    refine k18.mono ?_
    rintro r w1 ⟨rfl, rfl⟩
    clear k18
    go_wp2
    refine bodyPost_ret (results_cell_tmp_row rfl _ _ (w.heap.size + 1) 24 #[.bool false, .slice none 0 0, .int .i64 0] (0, 0) _ rfl (blk_mid _ _ _ _) Tryz.underlying24 rfl Tryz.info24) rfl ?_
    exact ⟨rfl, (((Below.refl _ _).alloc (Nat.le_refl _) _).alloc (by simp) _).alloc (by simp; omega) _⟩
  · rw [hok] at k18
    have HB : Hid (Below w.heap.size w ((w.alloc (.cells #[.bool neg, .slice ao n cap, .int .i64 e] 24)).alloc (.cells #[.bool false, .slice none 0 0, .int .i64 0] 24))) := hB
    clear hok hB h
    go_enter Tryz.func48, Tryz.ntmps48
    go_wp2_with fail
    refine k18.mono ?_
    rintro r w1 ⟨rfl, rfl⟩
    clear k18
    go_wp2
    refine bodyPost_ret (results_cell_tmp_row rfl _ _ (w.heap.size + 1) 24 #[.bool neg, .slice ao n cap, .int .i64 e] (0, 0) _ rfl (blk_mid _ _ _ _) Tryz.underlying24 rfl Tryz.info24) rfl ?_
    exact ⟨rfl, (((Below.refl _ _).alloc (Nat.le_refl _) _).alloc (by simp) _).alloc (by simp; omega) _⟩
end Go.Proofs.YtbmaoiemgepppaaGreatDoor
/- aligned, sum. -/
namespace Go.Proofs.YtbmaoiemgepppaaGreatDoor
set_option linter.unusedVariables false
set_option linter.unusedSimpArgs false
open Go.RowKit

/-- a contract in every world behind W -/
def Ct (W : World) (f : Nat) (args : Array Value) (x : Nat) : Prop :=
  ∀ w', Below W.heap.size W w' → Calls Tryz.prog f args w' fun r w'' => ∃ v, r = .returned v ∧ Own w'' W.heap.size v x ∧ Below W.heap.size W w'' ∧ Below w'.heap.size w' w''

theorem ct109 {W : World} {v : Value} {x k : Nat} (h : Is W v x) (hx : dlen x ≤ 35184372088832) (hk : k ≤ 1099511627776) : Ct W 86 #[v, .int .i64 k] (x * 2 ^ k) := fun w' hb =>
  (c109 (h.later hb) k hx hk).mono fun r w'' ⟨v, e, ho, hb2⟩ => ⟨v, e, ho.mono hb.size, hb.trans (hb2.mono hb.size), hb2⟩

set_option maxRecDepth 200000 in
theorem c99_1 (na nb : Bool) (ua va : Option Addr) (un vn uc vc x y : Nat) (ea : Int) (kb : Nat) (w : World)
    (h1 : ∀ W, Below w.heap.size w W → Ct W 86 #[.slice ua un uc, .int .i64 0] x) (h2 : ∀ W, Below w.heap.size w W → Ct W 86 #[.slice va vn vc, .int .i64 kb] (y * 2 ^ kb)) (hb1 : -4000000 ≤ ea) (hb2 : ea ≤ 4000000) (hb3 : kb ≤ 8000000) :
    Calls Tryz.prog 51 #[NumV na (.slice ua un uc) ea, NumV nb (.slice va vn vc) (ea + kb)] w fun r w' => ∃ p q, r = .returned (.tuple #[p, q, .int .i64 ea]) ∧ Own w' w.heap.size p x ∧ Own w' w.heap.size q (y * 2 ^ kb) ∧ Below w.heap.size w w' := by
  obtain ⟨W, hW⟩ : ∃ W, W = (w.alloc (.cells #[.bool na, .slice ua un uc, .int .i64 ea] 24)).alloc (.cells #[.bool nb, .slice va vn vc, .int .i64 (ea + kb)] 24) := ⟨_, rfl⟩
  have hBW : Below w.heap.size w W := by rw [hW]; exact ((Below.refl _ _).alloc (Nat.le_refl _) _).alloc (by simp) _
  have hbA : W.heap[w.heap.size]? = some (.cells #[.bool na, .slice ua un uc, .int .i64 ea] 24 (0, 0)) := by
    rw [hW, Below.heap_alloc _ _ _ (by simp)]; exact heap_alloc_new _ _
  have hbB : W.heap[w.heap.size + 1]? = some (.cells #[.bool nb, .slice va vn vc, .int .i64 (ea + kb)] 24 (0, 0)) := by
    have := heap_alloc_new (w.alloc (.cells #[.bool na, .slice ua un uc, .int .i64 ea] 24)) (.cells #[.bool nb, .slice va vn vc, .int .i64 (ea + kb)] 24)
    rw [hW]; simpa using this
  have hsz : W.heap.size = w.heap.size + 1 + 1 := by rw [hW]; simp
  have k1 := h1 W hBW
  have k2 := h2 W hBW
  have HBW : Hid (Below w.heap.size w W) := hBW
  have HCC : Hid (∀ w', Below W.heap.size W w' → (w'.cell? ⟨w.heap.size, 1, none⟩ = some (.slice ua un uc) ∧ w'.cell? ⟨w.heap.size, 2, none⟩ = some (.int .i64 ea)) ∧ w'.cell? ⟨w.heap.size + 1, 1, none⟩ = some (.slice va vn vc) ∧ w'.cell? ⟨w.heap.size + 1, 2, none⟩ = some (.int .i64 (ea + kb))) := by
    intro w' hB
    have a := (box_cells (box_later hbA hB (by omega))).1
    have b := (box_cells (box_later hbB hB (by omega))).1
    exact ⟨⟨a.2.1, a.2.2⟩, b.2.1, b.2.2⟩
  unfold NumV
  have wz0 : IntKind.i64.wrap 0 = 0 := by decide
  have wz1 : IntKind.i64.wrap (ea + (kb : Int) - ea) = (kb : Int) := by rw [IntKind.wrap_i64]; omega
  clear h1 h2 hbA hbB hsz hBW
  go_enter Tryz.func51, Tryz.ntmps51
  go_wp2
  rw [← hW]
  clear hW
  obtain ⟨⟨c1, c2⟩, c3, c4⟩ := HCC.out W (Below.refl _ _)
  have hB0 : Below W.heap.size W W := Below.refl _ _
  go_region_held3 (fun w' => ((w'.cell? ⟨w.heap.size, 1, none⟩ = some (.slice ua un uc) ∧ w'.cell? ⟨w.heap.size, 2, none⟩ = some (.int .i64 ea)) ∧ w'.cell? ⟨w.heap.size + 1, 1, none⟩ = some (.slice va vn vc) ∧ w'.cell? ⟨w.heap.size + 1, 2, none⟩ = some (.int .i64 (ea + kb))) ∧ Below W.heap.size W w') (first | assumption | exact ⟨⟨⟨c1, c2⟩, c3, c4⟩, hB0⟩ | (refine ⟨HCC.out _ ?_, ?_⟩ <;> first | assumption | exact Below.drew (by assumption)))
    (first | (go_at_call_of 86 (Value.slice ua un uc); (try simp only [wz0]); refine (k1 _ ?_).mono ?_; (first | assumption | exact Below.drew (by assumption)); rintro r w2 ⟨p, rfl, hp, hb2, hb3⟩) | (go_at_call_of 86 (Value.slice va vn vc); (try simp only [wz1]); refine (k2 _ ?_).mono ?_; (first | assumption | exact Below.drew (by assumption)); rintro r w3 ⟨q, rfl, hq, hb4, hb5⟩))
  have HP : Hid (Own w3 w.heap.size p x ∧ Own w3 w.heap.size q (y * 2 ^ kb) ∧ Below w.heap.size w w3) := ⟨(hp.later hb5).mono HBW.out.size, hq.mono HBW.out.size, HBW.out.trans (hb4.mono HBW.out.size)⟩
  clear hp hq hb2 hb4 hb5 k1 k2 HCC HBW c1 c2 c3 c4 hB0 wz0 wz1
  go_wp2
  go_ret3
  exact ⟨p, q, rfl, HP.out⟩
set_option maxRecDepth 200000 in
theorem c99_2 (na nb : Bool) (ua va : Option Addr) (un vn uc vc x y : Nat) (eb : Int) (ka : Nat) (w : World)
    (h1 : ∀ W, Below w.heap.size w W → Ct W 86 #[.slice ua un uc, .int .i64 ka] (x * 2 ^ ka)) (h2 : ∀ W, Below w.heap.size w W → Ct W 86 #[.slice va vn vc, .int .i64 0] y) (hb1 : -4000000 ≤ eb) (hb2 : eb ≤ 4000000) (hb3 : ka ≤ 8000000) (hb0 : 0 < ka) :
    Calls Tryz.prog 51 #[NumV na (.slice ua un uc) (eb + ka), NumV nb (.slice va vn vc) eb] w fun r w' => ∃ p q, r = .returned (.tuple #[p, q, .int .i64 eb]) ∧ Own w' w.heap.size p (x * 2 ^ ka) ∧ Own w' w.heap.size q y ∧ Below w.heap.size w w' := by
  obtain ⟨W, hW⟩ : ∃ W, W = (w.alloc (.cells #[.bool na, .slice ua un uc, .int .i64 (eb + ka)] 24)).alloc (.cells #[.bool nb, .slice va vn vc, .int .i64 eb] 24) := ⟨_, rfl⟩
  have hBW : Below w.heap.size w W := by rw [hW]; exact ((Below.refl _ _).alloc (Nat.le_refl _) _).alloc (by simp) _
  have hbA : W.heap[w.heap.size]? = some (.cells #[.bool na, .slice ua un uc, .int .i64 (eb + ka)] 24 (0, 0)) := by
    rw [hW, Below.heap_alloc _ _ _ (by simp)]; exact heap_alloc_new _ _
  have hbB : W.heap[w.heap.size + 1]? = some (.cells #[.bool nb, .slice va vn vc, .int .i64 eb] 24 (0, 0)) := by
    have := heap_alloc_new (w.alloc (.cells #[.bool na, .slice ua un uc, .int .i64 (eb + ka)] 24)) (.cells #[.bool nb, .slice va vn vc, .int .i64 eb] 24)
    rw [hW]; simpa using this
  have hsz : W.heap.size = w.heap.size + 1 + 1 := by rw [hW]; simp
  have k1 := h1 W hBW
  have k2 := h2 W hBW
  have HBW : Hid (Below w.heap.size w W) := hBW
  have HCC : Hid (∀ w', Below W.heap.size W w' → (w'.cell? ⟨w.heap.size, 1, none⟩ = some (.slice ua un uc) ∧ w'.cell? ⟨w.heap.size, 2, none⟩ = some (.int .i64 (eb + ka))) ∧ w'.cell? ⟨w.heap.size + 1, 1, none⟩ = some (.slice va vn vc) ∧ w'.cell? ⟨w.heap.size + 1, 2, none⟩ = some (.int .i64 eb)) := by
    intro w' hB
    have a := (box_cells (box_later hbA hB (by omega))).1
    have b := (box_cells (box_later hbB hB (by omega))).1
    exact ⟨⟨a.2.1, a.2.2⟩, b.2.1, b.2.2⟩
  unfold NumV
  have wz0 : IntKind.i64.wrap 0 = 0 := by decide
  have wz1 : IntKind.i64.wrap (eb + (ka : Int) - eb) = (ka : Int) := by rw [IntKind.wrap_i64]; omega
  clear h1 h2 hbA hbB hsz hBW
  go_enter Tryz.func51, Tryz.ntmps51
  go_wp2
  rw [← hW]
  clear hW
  obtain ⟨⟨c1, c2⟩, c3, c4⟩ := HCC.out W (Below.refl _ _)
  have hB0 : Below W.heap.size W W := Below.refl _ _
  go_region_held3 (fun w' => ((w'.cell? ⟨w.heap.size, 1, none⟩ = some (.slice ua un uc) ∧ w'.cell? ⟨w.heap.size, 2, none⟩ = some (.int .i64 (eb + ka))) ∧ w'.cell? ⟨w.heap.size + 1, 1, none⟩ = some (.slice va vn vc) ∧ w'.cell? ⟨w.heap.size + 1, 2, none⟩ = some (.int .i64 eb)) ∧ Below W.heap.size W w') (first | assumption | exact ⟨⟨⟨c1, c2⟩, c3, c4⟩, hB0⟩ | (refine ⟨HCC.out _ ?_, ?_⟩ <;> first | assumption | exact Below.drew (by assumption)))
    (first | (go_at_call_of 86 (Value.slice ua un uc); (try simp only [wz0]); refine (k1 _ ?_).mono ?_; (first | assumption | exact Below.drew (by assumption)); rintro r w2 ⟨p, rfl, hp, hb2, hb3⟩) | (go_at_call_of 86 (Value.slice va vn vc); (try simp only [wz1]); refine (k2 _ ?_).mono ?_; (first | assumption | exact Below.drew (by assumption)); rintro r w3 ⟨q, rfl, hq, hb4, hb5⟩))
  have HP : Hid (Own w3 w.heap.size p (x * 2 ^ ka) ∧ Own w3 w.heap.size q y ∧ Below w.heap.size w w3) := ⟨(hp.later hb5).mono HBW.out.size, hq.mono HBW.out.size, HBW.out.trans (hb4.mono HBW.out.size)⟩
  clear hp hq hb2 hb4 hb5 k1 k2 HCC HBW c1 c2 c3 c4 hB0 wz0 wz1
  go_wp2
  go_ret3
  exact ⟨p, q, rfl, HP.out⟩

theorem c99 {na nb : Bool} {u v : Value} {x y : Nat} {ea eb : Int} {w : World} (h1 : Is w u x) (h2 : Is w v y) (hx : dlen x ≤ 1000000) (hy : dlen y ≤ 1000000) (ha : -4000000 ≤ ea ∧ ea ≤ 4000000) (hb : -4000000 ≤ eb ∧ eb ≤ 4000000) :
    Calls Tryz.prog 51 #[NumV na u ea, NumV nb v eb] w fun r w' => ∃ p q, r = .returned (.tuple #[p, q, .int .i64 (min ea eb)]) ∧ Own w' w.heap.size p (x * 2 ^ (ea - min ea eb).toNat) ∧ Own w' w.heap.size q (y * 2 ^ (eb - min ea eb).toNat) ∧ Below w.heap.size w w' := by
  have h1' := h1
  have h2' := h2
  obtain ⟨ua, uc, rfl, -, -, -⟩ := h1'
  obtain ⟨va, vc, rfl, -, -, -⟩ := h2'
  by_cases h : ea ≤ eb
  · obtain ⟨k, rfl⟩ : ∃ k : Nat, eb = ea + k := ⟨(eb - ea).toNat, by omega⟩
    rw [show min ea (ea + (k : Int)) = ea by omega, show (ea - ea).toNat = 0 by omega, show (ea + (k : Int) - ea).toNat = k by omega, Nat.pow_zero, Nat.mul_one]
    refine c99_1 na nb ua va _ _ uc vc x y ea k w (fun W hW => ?_) (fun W hW => ct109 (h2.later hW) (by omega) (by omega)) ha.1 ha.2 (by omega)
    have := ct109 (k := 0) (h1.later hW) (by omega) (by omega)
    rwa [Nat.pow_zero, Nat.mul_one] at this
  · obtain ⟨k, rfl⟩ : ∃ k : Nat, ea = eb + k := ⟨(ea - eb).toNat, by omega⟩
    rw [show min (eb + (k : Int)) eb = eb by omega, show (eb - eb).toNat = 0 by omega, show (eb + (k : Int) - eb).toNat = k by omega, Nat.pow_zero, Nat.mul_one]
    refine c99_2 na nb ua va _ _ uc vc x y eb k w (fun W hW => ct109 (h1.later hW) (by omega) (by omega)) (fun W hW => ?_) hb.1 hb.2 (by omega) (by omega)
    have := ct109 (k := 0) (h2.later hW) (by omega) (by omega)
    rwa [Nat.pow_zero, Nat.mul_one] at this
end Go.Proofs.YtbmaoiemgepppaaGreatDoor
/- sum. -/
namespace Go.Proofs.YtbmaoiemgepppaaGreatDoor
set_option linter.unusedVariables false
set_option linter.unusedSimpArgs false
open Go.RowKit

/-- three boxes in a row -/
theorem boxes3 {w W : World} (a b c : Obj) (hW : W = ((w.alloc a).alloc b).alloc c) :
    W.heap[w.heap.size]? = some a ∧ W.heap[w.heap.size + 1]? = some b ∧ W.heap[w.heap.size + 1 + 1]? = some c ∧ W.heap.size = w.heap.size + 1 + 1 + 1 ∧ Below w.heap.size w W := by
  subst hW
  refine ⟨?_, blk_mid _ _ _ _, ?_, by simp, (((Below.refl _ _).alloc (Nat.le_refl _) _).alloc (by simp) _).alloc (by simp; omega) _⟩
  · rw [Below.heap_alloc _ _ _ (by simp; omega), Below.heap_alloc _ _ _ (by simp)]; exact heap_alloc_new _ _
  · have := heap_alloc_new ((w.alloc a).alloc b) c
    simpa using this

/-- the shape of what normal answers -/
theorem Nrm.shape {w : World} {base : Nat} {a : Value} {neg : Bool} {x : Nat} {e : Int} (h : Nrm w base a neg x e) : ∃ s ao n cap ex, a = .agg #[.bool s, .slice ao n cap, .int .i64 ex] := by
  rcases h with ⟨_, rfl⟩ | ⟨_, v, rfl, ho⟩
  · exact ⟨_, _, _, _, _, rfl⟩
  · obtain ⟨ao, cap, rfl, -, -, -⟩ := ho.is
    exact ⟨_, _, _, _, _, rfl⟩
theorem Nrm.mono {w : World} {base base' : Nat} {a : Value} {neg : Bool} {x : Nat} {e : Int} (h : Nrm w base a neg x e) (hb : base' ≤ base) : Nrm w base' a neg x e := by
  rcases h with h | ⟨h0, v, h1, ho⟩
  · exact .inl h
  · exact .inr ⟨h0, v, h1, ho.mono hb⟩
theorem Nrm.store {w : World} {base : Nat} {a : Value} {neg : Bool} {x : Nat} {e : Int} (h : Nrm w base a neg x e) {g : Nat} (hg : g < base) (p q r : Value) : Nrm (((w.setCell ⟨g, 0, none⟩ p).setCell ⟨g, 1, none⟩ q).setCell ⟨g, 2, none⟩ r) base a neg x e := by
  rcases h with h | ⟨h0, v, h1, ho⟩
  · exact .inl h
  · exact .inr ⟨h0, v, h1, own_store3 ho hg _ _ _⟩

set_option maxRecDepth 200000 in
theorem c87_a (na nb : Bool) (ua va : Option Addr) (uc vn vc y : Nat) (ea eb : Int) (w : World) (hT : Tab32 w) (h2 : Is w (.slice va vn vc) y) (hy : dlen y ≤ 1000000) (hb : -4000000 ≤ eb ∧ eb ≤ 4000000) :
    Calls Tryz.prog 49 #[NumV na (.slice ua 0 uc) ea, NumV nb (.slice va vn vc) eb] w fun r w' => ∃ a, r = .returned a ∧ Nrm w' w.heap.size a nb y eb ∧ Below w.heap.size w w' := by
  obtain ⟨W, hW⟩ : ∃ W, W = ((w.alloc (.cells #[.bool na, .slice ua 0 uc, .int .i64 ea] 24)).alloc (.cells #[.bool nb, .slice va vn vc, .int .i64 eb] 24)).alloc (.cells #[.bool false, .slice none 0 0, .int .i64 0] 24) := ⟨_, rfl⟩
  obtain ⟨hA, hBb, hC, hsz, hBW⟩ := boxes3 _ _ _ hW
  have k56 := c56 (neg := nb) (e := eb) (h2.later hBW) (by omega) (hT.later hBW) (by omega)
  have HH : Hid (W.heap[w.heap.size + 1 + 1]? = some (.cells #[.bool false, .slice none 0 0, .int .i64 0] 24 (0, 0)) ∧ W.heap.size = w.heap.size + 1 + 1 + 1 ∧ Below w.heap.size w W) := ⟨hC, hsz, hBW⟩
  clear h2 hT hA hBb hC hsz hBW
  unfold NumV
  go_enter Tryz.func49, Tryz.ntmps49
  go_wp2_with fail
  rw [← hW]
  clear hW
  refine k56.mono ?_
  rintro r w3 ⟨a, rfl, hN, hB⟩
  obtain ⟨s, ao, n, cap, ex, rfl⟩ := hN.shape
  have HC3 : Hid (w3.heap[w.heap.size + 1 + 1]? = some (.cells #[.bool false, .slice none 0 0, .int .i64 0] 24 (0, 0))) := box_later HH.out.1 hB (by have := HH.out.2.1; omega)
  obtain ⟨⟨a1, a2, a3⟩, a4, a5, a6⟩ := box_cells HC3.out
  have HN : Hid (Nrm w3 W.heap.size (.agg #[.bool s, .slice ao n cap, .int .i64 ex]) nb y eb ∧ Below W.heap.size W w3) := ⟨hN, hB⟩
  clear k56 hN hB
  go_wp2
  refine bodyPost_ret (results_cell_row rfl _ _ (w.heap.size + 1 + 1) 24 #[.bool s, .slice ao n cap, .int .i64 ex] (0, 0) _ rfl (store3 _ _ _ HC3.out) Tryz.underlying24 rfl Tryz.info24) rfl ?_
  obtain ⟨b1, b2, b3⟩ := HH.out
  exact ⟨_, rfl, (HN.out.1.store (by omega) _ _ _).mono (by omega), below_store3 (b3.trans (HN.out.2.mono b3.size)) (by omega) _ _ _⟩
set_option maxRecDepth 200000 in
theorem c87_b (na nb : Bool) (ua va : Option Addr) (un uc vc x : Nat) (ea eb : Int) (w : World) (hT : Tab32 w) (h2 : Is w (.slice ua un uc) x) (hy : dlen x ≤ 1000000) (hb : -4000000 ≤ ea ∧ ea ≤ 4000000) (hn0 : ((un : Int) == 0) = false) :
    Calls Tryz.prog 49 #[NumV na (.slice ua un uc) ea, NumV nb (.slice va 0 vc) eb] w fun r w' => ∃ a, r = .returned a ∧ Nrm w' w.heap.size a na x ea ∧ Below w.heap.size w w' := by
  obtain ⟨W, hW⟩ : ∃ W, W = ((w.alloc (.cells #[.bool na, .slice ua un uc, .int .i64 ea] 24)).alloc (.cells #[.bool nb, .slice va 0 vc, .int .i64 eb] 24)).alloc (.cells #[.bool false, .slice none 0 0, .int .i64 0] 24) := ⟨_, rfl⟩
  obtain ⟨hA, hBb, hC, hsz, hBW⟩ := boxes3 _ _ _ hW
  have k56 := c56 (neg := na) (e := ea) (h2.later hBW) (by omega) (hT.later hBW) (by omega)
  have HH : Hid (W.heap[w.heap.size + 1 + 1]? = some (.cells #[.bool false, .slice none 0 0, .int .i64 0] 24 (0, 0)) ∧ W.heap.size = w.heap.size + 1 + 1 + 1 ∧ Below w.heap.size w W) := ⟨hC, hsz, hBW⟩
  clear h2 hT hA hBb hC hsz hBW
  unfold NumV
  go_enter Tryz.func49, Tryz.ntmps49
  go_wp2_with fail
  rw [← hW]
  clear hW
  refine k56.mono ?_
  rintro r w3 ⟨a, rfl, hN, hB⟩
  obtain ⟨s, ao, n, cap, ex, rfl⟩ := hN.shape
  have HC3 : Hid (w3.heap[w.heap.size + 1 + 1]? = some (.cells #[.bool false, .slice none 0 0, .int .i64 0] 24 (0, 0))) := box_later HH.out.1 hB (by have := HH.out.2.1; omega)
  obtain ⟨⟨a1, a2, a3⟩, a4, a5, a6⟩ := box_cells HC3.out
  have HN : Hid (Nrm w3 W.heap.size (.agg #[.bool s, .slice ao n cap, .int .i64 ex]) na x ea ∧ Below W.heap.size W w3) := ⟨hN, hB⟩
  clear k56 hN hB
  go_wp2
  refine bodyPost_ret (results_cell_row rfl _ _ (w.heap.size + 1 + 1) 24 #[.bool s, .slice ao n cap, .int .i64 ex] (0, 0) _ rfl (store3 _ _ _ HC3.out) Tryz.underlying24 rfl Tryz.info24) rfl ?_
  obtain ⟨b1, b2, b3⟩ := HH.out
  exact ⟨_, rfl, (HN.out.1.store (by omega) _ _ _).mono (by omega), below_store3 (b3.trans (HN.out.2.mono b3.size)) (by omega) _ _ _⟩

set_option maxRecDepth 200000 in
theorem c87_c (na : Bool) (ua va : Option Addr) (un uc vn vc X Y : Nat) (ea eb e : Int) (w : World) (hT : Tab32 w) (hX : dlen (X + Y) ≤ 1000000) (hX1 : dlen X ≤ 1000000) (hX2 : dlen Y ≤ 1000000) (he : -4000000 ≤ e ∧ e ≤ 4000000) (hn0 : ((un : Int) == 0) = false) (hn1 : ((vn : Int) == 0) = false)
    (h99 : ∀ W, Below w.heap.size w W → Calls Tryz.prog 51 #[NumV na (.slice ua un uc) ea, NumV na (.slice va vn vc) eb] W fun r w' => ∃ p q, r = .returned (.tuple #[p, q, .int .i64 e]) ∧ Own w' W.heap.size p X ∧ Own w' W.heap.size q Y ∧ Below W.heap.size W w') :
    Calls Tryz.prog 49 #[NumV na (.slice ua un uc) ea, NumV na (.slice va vn vc) eb] w fun r w' => ∃ a, r = .returned a ∧ Nrm w' w.heap.size a na (X + Y) e ∧ Below w.heap.size w w' := by
  obtain ⟨W, hW⟩ : ∃ W, W = ((w.alloc (.cells #[.bool na, .slice ua un uc, .int .i64 ea] 24)).alloc (.cells #[.bool na, .slice va vn vc, .int .i64 eb] 24)).alloc (.cells #[.bool false, .slice none 0 0, .int .i64 0] 24) := ⟨_, rfl⟩
  obtain ⟨hA, hBb, hC, hsz, hBW⟩ := boxes3 _ _ _ hW
  have k99 := h99 W hBW
  have HH : Hid ((W.heap[w.heap.size]? = some (.cells #[.bool na, .slice ua un uc, .int .i64 ea] 24 (0, 0)) ∧ W.heap[w.heap.size + 1]? = some (.cells #[.bool na, .slice va vn vc, .int .i64 eb] 24 (0, 0)) ∧ W.heap[w.heap.size + 1 + 1]? = some (.cells #[.bool false, .slice none 0 0, .int .i64 0] 24 (0, 0))) ∧ W.heap.size = w.heap.size + 1 + 1 + 1 ∧ Below w.heap.size w W ∧ Tab32 W) := ⟨⟨hA, hBb, hC⟩, hsz, hBW, hT.later hBW⟩
  unfold NumV at *
  clear hT hA hBb hC hsz hBW h99
  go_enter Tryz.func49, Tryz.ntmps49
  go_wp2_with fail
  rw [← hW]
  clear hW
  refine k99.mono ?_
  rintro r w4 ⟨p, q, rfl, hp, hq, hB4⟩
  obtain ⟨⟨h1, h2, h3⟩, hs, hBW, hTW⟩ := HH.out
  obtain ⟨⟨a0, a1, a2⟩, -⟩ := box_cells (box_later h1 hB4 (by omega))
  obtain ⟨⟨b0, b1, b2⟩, -⟩ := box_cells (box_later h2 hB4 (by omega))
  have HC4 : Hid (w4.heap[w.heap.size + 1 + 1]? = some (.cells #[.bool false, .slice none 0 0, .int .i64 0] 24 (0, 0)) ∧ Below W.heap.size W w4) := ⟨box_later h3 hB4 (by omega), hB4⟩
  have k122 : Calls Tryz.prog 55 #[p, q] w4.drew fun r w' => ∃ v, r = .returned v ∧ Own w' w4.heap.size v (X + Y) ∧ Below w4.heap.size w4 w' :=
    (c122 (w := w4.drew) hp.is hq.is (by omega) (by omega)).mono fun r w' ⟨v, e1, o1, o2⟩ => ⟨v, e1, o1, Below.trans (b := w4.drew) (Below.refl _ _).drew o2⟩
  have hKeep : ∀ w', Below w4.heap.size w4 w' → w'.cell? ⟨w.heap.size, 0, none⟩ = some (.bool na) := fun w' hb => (hb.cell (World.block_lt_of_cell? _ _ a0)).trans a0
  have HK : Hid (∀ w', Below w4.heap.size w4 w' → w'.cell? ⟨w.heap.size, 0, none⟩ = some (.bool na)) := hKeep
  have k56 : ∀ v5 w5, Own w5 w4.heap.size v5 (X + Y) → Below w4.heap.size w4 w5 → Calls Tryz.prog 46 #[.bool na, v5, .int .i64 e] w5 fun r w' => ∃ s ao n cap ex, r = .returned (.agg #[.bool s, .slice ao n cap, .int .i64 ex]) ∧
      Hid (Nrm w' w5.heap.size (.agg #[.bool s, .slice ao n cap, .int .i64 ex]) na (X + Y) e ∧ w4.heap.size ≤ w5.heap.size) ∧ Below w4.heap.size w4 w' ∧ Hid (w'.heap[w.heap.size + 1 + 1]? = some (.cells #[.bool false, .slice none 0 0, .int .i64 0] 24 (0, 0))) ∧
      (w'.cell? ⟨w.heap.size + 1 + 1, 0, none⟩ = some (.bool false) ∧ w'.cell? ⟨w.heap.size + 1 + 1, 1, none⟩ = some (.slice none 0 0) ∧ w'.cell? ⟨w.heap.size + 1 + 1, 2, none⟩ = some (.int .i64 0)) ∧ (w'.frozen? ⟨w.heap.size + 1 + 1, 0, none⟩ = false ∧ w'.frozen? ⟨w.heap.size + 1 + 1, 1, none⟩ = false ∧ w'.frozen? ⟨w.heap.size + 1 + 1, 2, none⟩ = false) := by
    intro v5 w5 ho hb
    refine (c56 ho.is (by omega) ((hTW.later hB4).later hb) (by omega)).mono ?_
    rintro r w6 ⟨a, rfl, hN, hb6⟩
    obtain ⟨s, ao, n, cap, ex, rfl⟩ := hN.shape
    have hb46 : Below w4.heap.size w4 w6 := hb.trans (hb6.mono hb.size)
    have hblk := box_later HC4.out.1 hb46 (by have := HC4.out.2.size; omega)
    obtain ⟨f1, f2⟩ := box_cells hblk
    exact ⟨s, ao, n, cap, ex, rfl, ⟨hN, hb.size⟩, hb46, hblk, f1, f2⟩
  have hbl : (na == na) = true := by simp
  clear h1 h2 h3 hp hq hB4 k99 hs hBW hTW hKeep hX hX1 hX2
  go_wp2
  go_region_held3 (fun w' => w'.cell? ⟨w.heap.size, 0, none⟩ = some (.bool na)) (first | (with_reducible assumption) | (refine HK.out _ ?_; with_reducible assumption) | (rw [World.cell?_setCell_other _ _ _ _ (by simp), World.cell?_setCell_other _ _ _ _ (by simp), World.cell?_setCell_other _ _ _ _ (by simp)]; refine HK.out _ ?_; with_reducible assumption) | go_keep)
    (first | (go_at_call 55; refine k122.mono ?_; rintro r w5 ⟨v5, rfl, ho5, hb5⟩) | (go_at_call 46; refine (k56 _ _ ho5 hb5).mono ?_; rintro r w6 ⟨s6, ao6, n6, cap6, ex6, rfl, hN6, hb6, hblk6, ⟨x1, x2, x3⟩, x4, x5, x6⟩))
  have HF : Hid (Below w4.heap.size w4 w6) := hb6
  clear ho5 hb5 hb6 k56 k122 x1 x2 x3 x4 x5 x6 a0 a1 a2 b0 b1 b2 HK
  go_wp2
  refine bodyPost_ret (results_cell_row rfl _ _ (w.heap.size + 1 + 1) 24 #[.bool s6, .slice ao6 n6 cap6, .int .i64 ex6] (0, 0) _ rfl (store3 _ _ _ hblk6.out) Tryz.underlying24 rfl Tryz.info24) rfl ?_
  obtain ⟨-, hs, hBW, -⟩ := HH.out
  have hs4 := HC4.out.2.size
  have hs5 := hN6.out.2
  exact ⟨_, rfl, (hN6.out.1.store (by omega) _ _ _).mono (by omega), below_store3 (hBW.trans ((HC4.out.2.trans (HF.out.mono hs4)).mono hBW.size)) (by omega) _ _ _⟩
set_option maxRecDepth 200000 in
theorem c87_d (na nb : Bool) (ua va : Option Addr) (un uc vn vc X Y : Nat) (ea eb e : Int) (w : World) (hT : Tab32 w) (hlt : X < Y) (hne : (na == nb) = false) (hX1 : dlen X ≤ 1000000) (hX2 : dlen Y ≤ 1000000) (he : -4000000 ≤ e ∧ e ≤ 4000000) (hn0 : ((un : Int) == 0) = false) (hn1 : ((vn : Int) == 0) = false)
    (h99 : ∀ W, Below w.heap.size w W → Calls Tryz.prog 51 #[NumV na (.slice ua un uc) ea, NumV nb (.slice va vn vc) eb] W fun r w' => ∃ p q, r = .returned (.tuple #[p, q, .int .i64 e]) ∧ Own w' W.heap.size p X ∧ Own w' W.heap.size q Y ∧ Below W.heap.size W w') :
    Calls Tryz.prog 49 #[NumV na (.slice ua un uc) ea, NumV nb (.slice va vn vc) eb] w fun r w' => ∃ a, r = .returned a ∧ Nrm w' w.heap.size a nb (Y - X) e ∧ Below w.heap.size w w' := by
  obtain ⟨W, hW⟩ : ∃ W, W = ((w.alloc (.cells #[.bool na, .slice ua un uc, .int .i64 ea] 24)).alloc (.cells #[.bool nb, .slice va vn vc, .int .i64 eb] 24)).alloc (.cells #[.bool false, .slice none 0 0, .int .i64 0] 24) := ⟨_, rfl⟩
  obtain ⟨hA, hBb, hC, hsz, hBW⟩ := boxes3 _ _ _ hW
  have k99 := h99 W hBW
  have HH : Hid ((W.heap[w.heap.size]? = some (.cells #[.bool na, .slice ua un uc, .int .i64 ea] 24 (0, 0)) ∧ W.heap[w.heap.size + 1]? = some (.cells #[.bool nb, .slice va vn vc, .int .i64 eb] 24 (0, 0)) ∧ W.heap[w.heap.size + 1 + 1]? = some (.cells #[.bool false, .slice none 0 0, .int .i64 0] 24 (0, 0))) ∧ W.heap.size = w.heap.size + 1 + 1 + 1 ∧ Below w.heap.size w W ∧ Tab32 W) := ⟨⟨hA, hBb, hC⟩, hsz, hBW, hT.later hBW⟩
  unfold NumV at *
  clear hT hA hBb hC hsz hBW h99
  go_enter Tryz.func49, Tryz.ntmps49
  go_wp2_with fail
  rw [← hW]
  clear hW
  refine k99.mono ?_
  rintro r w4 ⟨p, q, rfl, hp, hq, hB4⟩
  obtain ⟨⟨h1, h2, h3⟩, hs, hBW, hTW⟩ := HH.out
  obtain ⟨⟨a0, a1, a2⟩, -⟩ := box_cells (box_later h1 hB4 (by omega))
  obtain ⟨⟨b0, b1, b2⟩, -⟩ := box_cells (box_later h2 hB4 (by omega))
  have HC4 : Hid (w4.heap[w.heap.size + 1 + 1]? = some (.cells #[.bool false, .slice none 0 0, .int .i64 0] 24 (0, 0)) ∧ Below W.heap.size W w4) := ⟨box_later h3 hB4 (by omega), hB4⟩
  have k129 := c129 hp.is hq.is (by omega) (by omega)
  have hcm : cmpI (X : Int) (Y : Int) < 0 := by unfold cmpI; rw [if_pos (by omega)]; omega
  generalize cmpI (X : Int) (Y : Int) = cv at *
  have k138 : ∀ dd, Calls Tryz.prog 85 #[q, p] (w4.drewN dd).drew fun r w' => ∃ v, r = .returned v ∧ Own w' w4.heap.size v (Y - X) ∧ Below w4.heap.size w4 w' := fun dd =>
    (c138 (w := (w4.drewN dd).drew) hq.is hp.is (by omega) (by omega)).mono fun r w' ⟨v, e1, o1, o2⟩ => ⟨v, e1, o1, Below.trans (b := (w4.drewN dd).drew) ⟨rfl, rfl, rfl, Nat.le_refl _, fun _ _ => rfl⟩ o2⟩
  have hKeep : ∀ w', Below w4.heap.size w4 w' → w'.cell? ⟨w.heap.size + 1, 0, none⟩ = some (.bool nb) := fun w' hb => (hb.cell (World.block_lt_of_cell? _ _ b0)).trans b0
  have HK : Hid (∀ w', Below w4.heap.size w4 w' → w'.cell? ⟨w.heap.size + 1, 0, none⟩ = some (.bool nb)) := hKeep
  have k56 : ∀ v5 w5, Own w5 w4.heap.size v5 (Y - X) → Below w4.heap.size w4 w5 → Calls Tryz.prog 46 #[.bool nb, v5, .int .i64 e] w5 fun r w' => ∃ s ao n cap ex, r = .returned (.agg #[.bool s, .slice ao n cap, .int .i64 ex]) ∧
      Hid (Nrm w' w5.heap.size (.agg #[.bool s, .slice ao n cap, .int .i64 ex]) nb (Y - X) e ∧ w4.heap.size ≤ w5.heap.size) ∧ Below w4.heap.size w4 w' ∧ Hid (w'.heap[w.heap.size + 1 + 1]? = some (.cells #[.bool false, .slice none 0 0, .int .i64 0] 24 (0, 0))) ∧
      (w'.cell? ⟨w.heap.size + 1 + 1, 0, none⟩ = some (.bool false) ∧ w'.cell? ⟨w.heap.size + 1 + 1, 1, none⟩ = some (.slice none 0 0) ∧ w'.cell? ⟨w.heap.size + 1 + 1, 2, none⟩ = some (.int .i64 0)) ∧ (w'.frozen? ⟨w.heap.size + 1 + 1, 0, none⟩ = false ∧ w'.frozen? ⟨w.heap.size + 1 + 1, 1, none⟩ = false ∧ w'.frozen? ⟨w.heap.size + 1 + 1, 2, none⟩ = false) := by
    intro v5 w5 ho hb
    refine (c56 ho.is (Nat.le_trans (dlen_mono (Nat.sub_le ..)) (by omega)) ((hTW.later hB4).later hb) (by omega)).mono ?_
    rintro r w6 ⟨a, rfl, hN, hb6⟩
    obtain ⟨s, ao, n, cap, ex, rfl⟩ := hN.shape
    have hb46 : Below w4.heap.size w4 w6 := hb.trans (hb6.mono hb.size)
    have hblk := box_later HC4.out.1 hb46 (by have := HC4.out.2.size; omega)
    obtain ⟨f1, f2⟩ := box_cells hblk
    exact ⟨s, ao, n, cap, ex, rfl, ⟨hN, hb.size⟩, hb46, hblk, f1, f2⟩
  clear h1 h2 h3 hp hq hB4 k99 hs hBW hTW hKeep hX1 hX2 hlt
  go_wp2_with fail
  refine k129.mono ?_
  rintro r w7 ⟨rfl, dd, rfl⟩
  have k138 := k138 dd
  clear k129
  have HK2 : Hid (∀ w', Below w4.heap.size w4 w' → w'.cell? ⟨w.heap.size + 1, 0, none⟩ = some (.bool nb)) := HK.out
  have z0 : (w4.drewN dd).cell? ⟨w.heap.size + 1, 0, none⟩ = some (.bool nb) := b0
  go_wp2
  go_region_held3 (fun w' => w'.cell? ⟨w.heap.size + 1, 0, none⟩ = some (.bool nb)) (first | (with_reducible assumption) | (refine HK.out _ ?_; with_reducible assumption) | (rw [World.cell?_setCell_other _ _ _ _ (by simp), World.cell?_setCell_other _ _ _ _ (by simp), World.cell?_setCell_other _ _ _ _ (by simp)]; refine HK.out _ ?_; with_reducible assumption) | go_keep)
    (first | (go_at_call 85; refine k138.mono ?_; rintro r w5 ⟨v5, rfl, ho5, hb5⟩) | (go_at_call 46; refine (k56 _ _ ho5 hb5).mono ?_; rintro r w6 ⟨s6, ao6, n6, cap6, ex6, rfl, hN6, hb6, hblk6, ⟨x1, x2, x3⟩, x4, x5, x6⟩))
  have HF : Hid (Below w4.heap.size w4 w6) := hb6
  clear ho5 hb5 hb6 k56 k138 x1 x2 x3 x4 x5 x6 a0 a1 a2 b0 b1 b2 HK
  go_wp2
  refine bodyPost_ret (results_cell_row rfl _ _ (w.heap.size + 1 + 1) 24 #[.bool s6, .slice ao6 n6 cap6, .int .i64 ex6] (0, 0) _ rfl (store3 _ _ _ hblk6.out) Tryz.underlying24 rfl Tryz.info24) rfl ?_
  obtain ⟨-, hs, hBW, -⟩ := HH.out
  have hs4 := HC4.out.2.size
  have hs5 := hN6.out.2
  exact ⟨_, rfl, (hN6.out.1.store (by omega) _ _ _).mono (by omega), below_store3 (hBW.trans ((HC4.out.2.trans (HF.out.mono hs4)).mono hBW.size)) (by omega) _ _ _⟩

set_option maxRecDepth 200000 in
theorem c87_e (na nb : Bool) (ua va : Option Addr) (un uc vn vc X Y : Nat) (ea eb e : Int) (w : World) (hT : Tab32 w) (hlt : Y ≤ X) (hne : (na == nb) = false) (hX1 : dlen X ≤ 1000000) (hX2 : dlen Y ≤ 1000000) (he : -4000000 ≤ e ∧ e ≤ 4000000) (hn0 : ((un : Int) == 0) = false) (hn1 : ((vn : Int) == 0) = false)
    (h99 : ∀ W, Below w.heap.size w W → Calls Tryz.prog 51 #[NumV na (.slice ua un uc) ea, NumV nb (.slice va vn vc) eb] W fun r w' => ∃ p q, r = .returned (.tuple #[p, q, .int .i64 e]) ∧ Own w' W.heap.size p X ∧ Own w' W.heap.size q Y ∧ Below W.heap.size W w') :
    Calls Tryz.prog 49 #[NumV na (.slice ua un uc) ea, NumV nb (.slice va vn vc) eb] w fun r w' => ∃ a, r = .returned a ∧ Nrm w' w.heap.size a na (X - Y) e ∧ Below w.heap.size w w' := by
  obtain ⟨W, hW⟩ : ∃ W, W = ((w.alloc (.cells #[.bool na, .slice ua un uc, .int .i64 ea] 24)).alloc (.cells #[.bool nb, .slice va vn vc, .int .i64 eb] 24)).alloc (.cells #[.bool false, .slice none 0 0, .int .i64 0] 24) := ⟨_, rfl⟩
  obtain ⟨hA, hBb, hC, hsz, hBW⟩ := boxes3 _ _ _ hW
  have k99 := h99 W hBW
  have HH : Hid ((W.heap[w.heap.size]? = some (.cells #[.bool na, .slice ua un uc, .int .i64 ea] 24 (0, 0)) ∧ W.heap[w.heap.size + 1]? = some (.cells #[.bool nb, .slice va vn vc, .int .i64 eb] 24 (0, 0)) ∧ W.heap[w.heap.size + 1 + 1]? = some (.cells #[.bool false, .slice none 0 0, .int .i64 0] 24 (0, 0))) ∧ W.heap.size = w.heap.size + 1 + 1 + 1 ∧ Below w.heap.size w W ∧ Tab32 W) := ⟨⟨hA, hBb, hC⟩, hsz, hBW, hT.later hBW⟩
  unfold NumV at *
  clear hT hA hBb hC hsz hBW h99
  go_enter Tryz.func49, Tryz.ntmps49
  go_wp2_with fail
  rw [← hW]
  clear hW
  refine k99.mono ?_
  rintro r w4 ⟨p, q, rfl, hp, hq, hB4⟩
  obtain ⟨⟨h1, h2, h3⟩, hs, hBW, hTW⟩ := HH.out
  obtain ⟨⟨a0, a1, a2⟩, -⟩ := box_cells (box_later h1 hB4 (by omega))
  obtain ⟨⟨b0, b1, b2⟩, -⟩ := box_cells (box_later h2 hB4 (by omega))
  have HC4 : Hid (w4.heap[w.heap.size + 1 + 1]? = some (.cells #[.bool false, .slice none 0 0, .int .i64 0] 24 (0, 0)) ∧ Below W.heap.size W w4) := ⟨box_later h3 hB4 (by omega), hB4⟩
  have k129 := c129 hp.is hq.is (by omega) (by omega)
  have hcm : ¬ cmpI (X : Int) (Y : Int) < 0 := by unfold cmpI; rw [if_neg (by omega)]; split <;> omega
  generalize cmpI (X : Int) (Y : Int) = cv at *
  have k138 : ∀ dd, Calls Tryz.prog 85 #[p, q] (w4.drewN dd).drew fun r w' => ∃ v, r = .returned v ∧ Own w' w4.heap.size v (X - Y) ∧ Below w4.heap.size w4 w' := fun dd =>
    (c138 (w := (w4.drewN dd).drew) hp.is hq.is (by omega) (by omega)).mono fun r w' ⟨v, e1, o1, o2⟩ => ⟨v, e1, o1, Below.trans (b := (w4.drewN dd).drew) ⟨rfl, rfl, rfl, Nat.le_refl _, fun _ _ => rfl⟩ o2⟩
  have hKeep : ∀ w', Below w4.heap.size w4 w' → w'.cell? ⟨w.heap.size, 0, none⟩ = some (.bool na) := fun w' hb => (hb.cell (World.block_lt_of_cell? _ _ a0)).trans a0
  have HK : Hid (∀ w', Below w4.heap.size w4 w' → w'.cell? ⟨w.heap.size, 0, none⟩ = some (.bool na)) := hKeep
  have k56 : ∀ v5 w5, Own w5 w4.heap.size v5 (X - Y) → Below w4.heap.size w4 w5 → Calls Tryz.prog 46 #[.bool na, v5, .int .i64 e] w5 fun r w' => ∃ s ao n cap ex, r = .returned (.agg #[.bool s, .slice ao n cap, .int .i64 ex]) ∧
      Hid (Nrm w' w5.heap.size (.agg #[.bool s, .slice ao n cap, .int .i64 ex]) na (X - Y) e ∧ w4.heap.size ≤ w5.heap.size) ∧ Below w4.heap.size w4 w' ∧ Hid (w'.heap[w.heap.size + 1 + 1]? = some (.cells #[.bool false, .slice none 0 0, .int .i64 0] 24 (0, 0))) ∧
      (w'.cell? ⟨w.heap.size + 1 + 1, 0, none⟩ = some (.bool false) ∧ w'.cell? ⟨w.heap.size + 1 + 1, 1, none⟩ = some (.slice none 0 0) ∧ w'.cell? ⟨w.heap.size + 1 + 1, 2, none⟩ = some (.int .i64 0)) ∧ (w'.frozen? ⟨w.heap.size + 1 + 1, 0, none⟩ = false ∧ w'.frozen? ⟨w.heap.size + 1 + 1, 1, none⟩ = false ∧ w'.frozen? ⟨w.heap.size + 1 + 1, 2, none⟩ = false) := by
    intro v5 w5 ho hb
    refine (c56 ho.is (Nat.le_trans (dlen_mono (Nat.sub_le ..)) (by omega)) ((hTW.later hB4).later hb) (by omega)).mono ?_
    rintro r w6 ⟨a, rfl, hN, hb6⟩
    obtain ⟨s, ao, n, cap, ex, rfl⟩ := hN.shape
    have hb46 : Below w4.heap.size w4 w6 := hb.trans (hb6.mono hb.size)
    have hblk := box_later HC4.out.1 hb46 (by have := HC4.out.2.size; omega)
    obtain ⟨f1, f2⟩ := box_cells hblk
    exact ⟨s, ao, n, cap, ex, rfl, ⟨hN, hb.size⟩, hb46, hblk, f1, f2⟩
  clear h1 h2 h3 hp hq hB4 k99 hs hBW hTW hKeep hX1 hX2 hlt
  go_wp2_with fail
  refine k129.mono ?_
  rintro r w7 ⟨rfl, dd, rfl⟩
  have k138 := k138 dd
  clear k129
  have HK2 : Hid (∀ w', Below w4.heap.size w4 w' → w'.cell? ⟨w.heap.size, 0, none⟩ = some (.bool na)) := HK.out
  have z0 : (w4.drewN dd).cell? ⟨w.heap.size, 0, none⟩ = some (.bool na) := a0
  go_wp2
  go_region_held3 (fun w' => w'.cell? ⟨w.heap.size, 0, none⟩ = some (.bool na)) (first | (with_reducible assumption) | (refine HK.out _ ?_; with_reducible assumption) | (rw [World.cell?_setCell_other _ _ _ _ (by simp), World.cell?_setCell_other _ _ _ _ (by simp), World.cell?_setCell_other _ _ _ _ (by simp)]; refine HK.out _ ?_; with_reducible assumption) | go_keep)
    (first | (go_at_call 85; refine k138.mono ?_; rintro r w5 ⟨v5, rfl, ho5, hb5⟩) | (go_at_call 46; refine (k56 _ _ ho5 hb5).mono ?_; rintro r w6 ⟨s6, ao6, n6, cap6, ex6, rfl, hN6, hb6, hblk6, ⟨x1, x2, x3⟩, x4, x5, x6⟩))
  have HF : Hid (Below w4.heap.size w4 w6) := hb6
  clear ho5 hb5 hb6 k56 k138 x1 x2 x3 x4 x5 x6 a0 a1 a2 b0 b1 b2 HK
  go_wp2
  refine bodyPost_ret (results_cell_row rfl _ _ (w.heap.size + 1 + 1) 24 #[.bool s6, .slice ao6 n6 cap6, .int .i64 ex6] (0, 0) _ rfl (store3 _ _ _ hblk6.out) Tryz.underlying24 rfl Tryz.info24) rfl ?_
  obtain ⟨-, hs, hBW, -⟩ := HH.out
  have hs4 := HC4.out.2.size
  have hs5 := hN6.out.2
  exact ⟨_, rfl, (hN6.out.1.store (by omega) _ _ _).mono (by omega), below_store3 (hBW.trans ((HC4.out.2.trans (HF.out.mono hs4)).mono hBW.size)) (by omega) _ _ _⟩
end Go.Proofs.YtbmaoiemgepppaaGreatDoor
/- sum, for all numbers; Add. -/
namespace Go.Proofs.YtbmaoiemgepppaaGreatDoor
set_option linter.unusedVariables false
set_option linter.unusedSimpArgs false
open Go.RowKit

/-- a sum: its sign, its whole number, its exponent, ahead of the noughts' cutting -/
def sumN (na : Bool) (x : Nat) (ea : Int) (nb : Bool) (y : Nat) (eb : Int) : Bool × Nat × Int :=
  if x = 0 then (nb, y, eb) else if y = 0 then (na, x, ea) else
    if na = nb then (na, x * 2 ^ (ea - min ea eb).toNat + y * 2 ^ (eb - min ea eb).toNat, min ea eb)
    else if x * 2 ^ (ea - min ea eb).toNat < y * 2 ^ (eb - min ea eb).toNat then (nb, y * 2 ^ (eb - min ea eb).toNat - x * 2 ^ (ea - min ea eb).toNat, min ea eb)
    else (na, x * 2 ^ (ea - min ea eb).toNat - y * 2 ^ (eb - min ea eb).toNat, min ea eb)

theorem len_ne {x n : Nat} (hx : x ≠ 0) : ((dlen x : Int) == 0) = false := by
  have : dlen x ≠ 0 := fun e => hx (dlen_eq_zero.1 e)
  simp; omega
theorem dlen_add_le (x y : Nat) : dlen (x + y) ≤ max (dlen x) (dlen y) + 1 := by
  rw [dlen_le, Bpow_succ]
  have h1 := (dlen_le (max (dlen x) (dlen y)) x).1 (by omega)
  have h2 := (dlen_le (max (dlen x) (dlen y)) y).1 (by omega)
  have : B ^ max (dlen x) (dlen y) * 2 ≤ B ^ max (dlen x) (dlen y) * B := Nat.mul_le_mul_left _ (by unfold B; omega)
  omega

theorem c87 {na nb : Bool} {u v : Value} {x y : Nat} {ea eb : Int} {w : World} (h1 : Is w u x) (h2 : Is w v y) (hx : dlen x ≤ 500000) (hy : dlen y ≤ 500000) (ha : -4000000 ≤ ea ∧ ea ≤ 4000000) (hb : -4000000 ≤ eb ∧ eb ≤ 4000000) (hT : Tab32 w) :
    Calls Tryz.prog 49 #[NumV na u ea, NumV nb v eb] w fun r w' => ∃ a, r = .returned a ∧ Nrm w' w.heap.size a (sumN na x ea nb y eb).1 (sumN na x ea nb y eb).2.1 (sumN na x ea nb y eb).2.2 ∧ Below w.heap.size w w' := by
  have h1' := h1
  have h2' := h2
  obtain ⟨ua, uc, rfl, -, -, -⟩ := h1'
  obtain ⟨va, vc, rfl, -, -, -⟩ := h2'
  unfold sumN
  by_cases x0 : x = 0
  · subst x0
    rw [if_pos rfl, dlen_zero]
    exact c87_a na nb ua va uc _ vc y ea eb w hT h2 (by omega) hb
  · rw [if_neg x0]
    by_cases y0 : y = 0
    · subst y0
      rw [if_pos rfl, dlen_zero]
      exact c87_b na nb ua va _ uc vc x ea eb w hT h1 (by omega) ha (len_ne (n := 0) x0)
    · rw [if_neg y0]
      have hm : -4000000 ≤ min ea eb ∧ min ea eb ≤ 4000000 := by omega
      have l1 : dlen (x * 2 ^ (ea - min ea eb).toNat) ≤ 760000 := by have := shl_len (x := x) (k := (ea - min ea eb).toNat) rfl; omega
      have l2 : dlen (y * 2 ^ (eb - min ea eb).toNat) ≤ 760000 := by have := shl_len (x := y) (k := (eb - min ea eb).toNat) rfl; omega
      have h99 : ∀ W, Below w.heap.size w W → Calls Tryz.prog 51 #[NumV na (.slice ua (dlen x) uc) ea, NumV nb (.slice va (dlen y) vc) eb] W fun r w' => ∃ p q, r = .returned (.tuple #[p, q, .int .i64 (min ea eb)]) ∧ Own w' W.heap.size p (x * 2 ^ (ea - min ea eb).toNat) ∧ Own w' W.heap.size q (y * 2 ^ (eb - min ea eb).toNat) ∧ Below W.heap.size W w' :=
        fun W hW => c99 (h1.later hW) (h2.later hW) (by omega) (by omega) ha hb
      by_cases hs : na = nb
      · subst hs
        rw [if_pos rfl]
        exact c87_c na ua va _ uc _ vc _ _ ea eb _ w hT (by have := dlen_add_le (x * 2 ^ (ea - min ea eb).toNat) (y * 2 ^ (eb - min ea eb).toNat); omega) (by omega) (by omega) hm (len_ne (n := 0) x0) (len_ne (n := 0) y0) h99
      · rw [if_neg hs]
        have hne : (na == nb) = false := by simp [hs]
        by_cases hlt : x * 2 ^ (ea - min ea eb).toNat < y * 2 ^ (eb - min ea eb).toNat
        · rw [if_pos hlt]
          exact c87_d na nb ua va _ uc _ vc _ _ ea eb _ w hT hlt hne (by omega) (by omega) hm (len_ne (n := 0) x0) (len_ne (n := 0) y0) h99
        · rw [if_neg hlt]
          exact c87_e na nb ua va _ uc _ vc _ _ ea eb _ w hT (by omega) hne (by omega) (by omega) hm (len_ne (n := 0) x0) (len_ne (n := 0) y0) h99

/-- mayBe of two -/
theorem maybe2 {na nb : Bool} {ua va : Option Addr} {uc vc x y g : Nat} {ea eb : Int} {W : World} (hg : W.heap[g]? = some (.cells #[.bool na, .slice ua (dlen x) uc, .int .i64 ea, .bool nb, .slice va (dlen y) vc, .int .i64 eb] 24 (0, 0)))
    (h1 : Is W (.slice ua (dlen x) uc) x) (h2 : Is W (.slice va (dlen y) vc) y) (hx : dlen x ≤ 35184372088832) (hy : dlen y ≤ 35184372088832) :
    Calls Tryz.prog 35 #[.slice (some ⟨g, 0, none⟩) 2 2] W fun r w' => r = .returned (.bool (okN na (dlen x) x ea && okN nb (dlen y) y eb)) ∧ Below W.heap.size W w' := by
  obtain ⟨ao1, c1, e1, -, -, a1⟩ := h1
  obtain ⟨ao2, c2, e2, -, -, a2⟩ := h2
  simp only [Value.slice.injEq] at e1 e2
  obtain ⟨rfl, -, rfl⟩ := e1
  obtain ⟨rfl, -, rfl⟩ := e2
  have k := c67 g 2 (fun i => if i = 0 then na else nb) (fun i => if i = 0 then ua else va) (fun i => if i = 0 then dlen x else dlen y) (fun i => if i = 0 then uc else vc) (fun i => if i = 0 then x else y) (fun i => if i = 0 then ea else eb) W (by omega)
    (fun i hi => by rcases (show i = 0 ∨ i = 1 by omega) with rfl | rfl <;> simp [World.cell?, hg])
    (fun i hi => by rcases (show i = 0 ∨ i = 1 by omega) with rfl | rfl <;> simp [World.cell?, hg])
    (fun i hi => by rcases (show i = 0 ∨ i = 1 by omega) with rfl | rfl <;> simp [World.cell?, hg])
    (fun i hi => by rcases (show i = 0 ∨ i = 1 by omega) with rfl | rfl <;> simp <;> assumption)
    (fun i hi => by rcases (show i = 0 ∨ i = 1 by omega) with rfl | rfl <;> simp <;> omega)
  refine k.mono ?_
  rintro r w' ⟨rfl, hb⟩
  refine ⟨congrArg Ending.returned (congrArg Value.bool ?_), hb⟩
  rw [Bool.eq_iff_iff]
  simp only [decide_eq_true_eq, Bool.and_eq_true]
  constructor
  · intro h
    have h0 := h 0 (by omega)
    have h1 := h 1 (by omega)
    simp at h0 h1
    exact ⟨h0, h1⟩
  · rintro ⟨h0, h1⟩ i hi
    rcases (show i = 0 ∨ i = 1 by omega) with rfl | rfl
    · simpa using h0
    · simpa using h1

/-- may a made number be -/
def okR (s : Bool) (z : Nat) (e : Int) : Bool := if z = 0 then true else okN s (dlen (z / 2 ^ tz z)) (z / 2 ^ tz z) (e + tz z)

theorem c63n {s : Bool} {z : Nat} {e : Int} {A : Value} {w : World} {base : Nat} (h : Nrm w base A s z e) (hz : dlen z ≤ 35184372088832) :
    Calls Tryz.prog 48 #[A] w fun r w' => r = .returned (.tuple #[if okR s z e then A else Nil, .int .i64 (if okR s z e then 0 else 2)]) ∧ Below w.heap.size w w' := by
  unfold okR
  rcases h with ⟨rfl, rfl⟩ | ⟨h0, v, rfl, ho⟩
  · have := c63 (neg := false) (cap := 0) (e := 0) (w := w) (ao := none) (n := 0) (z := 0) ⟨0, 0, fun h => by omega, fun i hi => by omega⟩ (by omega)
    have e0 : okN false 0 0 0 = true := rfl
    rw [e0] at this
    simpa [NumV] using this
  · obtain ⟨ao, cap, rfl, -, -, ha⟩ := ho.is
    rw [if_neg h0]
    exact c63 ha (Nat.le_trans (dlen_mono (Nat.div_le_self ..)) hz)

/-- an answer, held against the limits -/
def Held (w : World) (s : Bool) (z : Nat) (e : Int) (r : Ending) (w' : World) : Prop :=
  ∃ A, r = .returned (.tuple #[if okR s z e then A else Nil, .int .i64 (if okR s z e then 0 else 2)]) ∧ Nrm w' w.heap.size A s z e ∧ Below w.heap.size w w'

set_option maxRecDepth 200000 in
theorem c34_1 (na nb : Bool) (ua va : Option Addr) (un uc vn vc x y z : Nat) (ea eb e : Int) (s : Bool) (w : World) (hz : dlen z ≤ 35184372088832)
    (k67 : ∀ W g, Below w.heap.size w W → W.heap[g]? = some (.cells #[.bool na, .slice ua un uc, .int .i64 ea, .bool nb, .slice va vn vc, .int .i64 eb] 24 (0, 0)) → Calls Tryz.prog 35 #[.slice (some ⟨g, 0, none⟩) 2 2] W fun r w' => r = .returned (.bool true) ∧ Below W.heap.size W w')
    (k87 : ∀ W, Below w.heap.size w W → Calls Tryz.prog 49 #[.agg #[.bool na, .slice ua un uc, .int .i64 ea], .agg #[.bool nb, .slice va vn vc, .int .i64 eb]] W fun r w' => ∃ a, r = .returned a ∧ Nrm w' W.heap.size a s z e ∧ Below W.heap.size W w') :
    Calls Tryz.prog 22 #[NumV na (.slice ua un uc) ea, NumV nb (.slice va vn vc) eb] w fun r w' => Held w s z e r w' := by
  obtain ⟨W, hW⟩ : ∃ W, W = ((w.alloc (.cells #[.bool na, .slice ua un uc, .int .i64 ea] 24)).alloc (.cells #[.bool nb, .slice va vn vc, .int .i64 eb] 24)).alloc (.cells #[.bool false, .slice none 0 0, .int .i64 0] 24) := ⟨_, rfl⟩
  obtain ⟨hA, hBb, hC, hsz, hBW⟩ := boxes3 _ _ _ hW
  have hB4 : Below w.heap.size w (W.alloc (.cells #[.bool na, .slice ua un uc, .int .i64 ea, .bool nb, .slice va vn vc, .int .i64 eb] 24)) := hBW.alloc hBW.size _
  have k1 := k67 (W.alloc (.cells #[.bool na, .slice ua un uc, .int .i64 ea, .bool nb, .slice va vn vc, .int .i64 eb] 24)) (w.heap.size + 1 + 1 + 1) hB4 (by rw [← hsz]; exact heap_alloc_new _ _)
  have HH : Hid ((W.heap[w.heap.size]? = some (.cells #[.bool na, .slice ua un uc, .int .i64 ea] 24 (0, 0)) ∧ W.heap[w.heap.size + 1]? = some (.cells #[.bool nb, .slice va vn vc, .int .i64 eb] 24 (0, 0)) ∧ W.heap[w.heap.size + 1 + 1]? = some (.cells #[.bool false, .slice none 0 0, .int .i64 0] 24 (0, 0))) ∧ W.heap.size = w.heap.size + 1 + 1 + 1 ∧ Below w.heap.size w W ∧ Below W.heap.size W (W.alloc (.cells #[.bool na, .slice ua un uc, .int .i64 ea, .bool nb, .slice va vn vc, .int .i64 eb] 24))) := ⟨⟨hA, hBb, hC⟩, hsz, hBW, (Below.refl _ _).alloc (Nat.le_refl _) _⟩
  have HZ : Hid (dlen z ≤ 35184372088832) := hz
  have HK87 : Hid (∀ W, Below w.heap.size w W → Calls Tryz.prog 49 #[.agg #[.bool na, .slice ua un uc, .int .i64 ea], .agg #[.bool nb, .slice va vn vc, .int .i64 eb]] W fun r w' => ∃ a, r = .returned a ∧ Nrm w' W.heap.size a s z e ∧ Below W.heap.size W w') := k87
  unfold NumV
  clear hA hBb hC hsz hBW hB4 k67 k87 hz
  go_enter Tryz.func22, Tryz.ntmps22
  go_wp2_with fail
  rw [← hW]
  clear hW
  refine k1.mono ?_
  rintro r w1 ⟨rfl, hB1⟩
  clear k1
  have hBW1 : Below W.heap.size W w1 := HH.out.2.2.2.trans (hB1.mono HH.out.2.2.2.size)
  obtain ⟨⟨a0, a1, a2⟩, -⟩ := box_cells (box_later HH.out.1.1 hBW1 (by have := HH.out.2.1; omega))
  obtain ⟨⟨b0, b1, b2⟩, -⟩ := box_cells (box_later HH.out.1.2.1 hBW1 (by have := HH.out.2.1; omega))
  have HB1 : Hid (Below W.heap.size W w1) := hBW1
  clear hB1 hBW1
  go_wp2_with fail
  refine (HK87.out w1 (HH.out.2.2.1.trans (HB1.out.mono HH.out.2.2.1.size))).mono ?_
  rintro r w2 ⟨A, rfl, hN, hB2⟩
  have HB2 : Hid (Below W.heap.size W w2) := HB1.out.trans (hB2.mono HB1.out.size)
  have HN : Hid (Nrm w2 W.heap.size A s z e) := hN.mono HB1.out.size
  clear hN hB2 a0 a1 a2 b0 b1 b2
  go_wp2_with fail
  refine (c63n HN.out HZ.out).mono ?_
  rintro r w3 ⟨rfl, hB3⟩
  have HB3 : Hid (Below W.heap.size W w3) := HB2.out.trans (hB3.mono HB2.out.size)
  have HN3 : Hid (Nrm w3 W.heap.size A s z e) := by
    rcases HN.out with h | ⟨h0, v, h1, ho⟩
    · exact .inl h
    · exact .inr ⟨h0, v, h1, ho.later hB3⟩
  have HC3 : Hid (w3.heap[w.heap.size + 1 + 1]? = some (.cells #[.bool false, .slice none 0 0, .int .i64 0] 24 (0, 0))) := box_later HH.out.1.2.2 HB3.out (by have := HH.out.2.1; omega)
  obtain ⟨⟨x1, x2, x3⟩, x4, x5, x6⟩ := box_cells HC3.out
  obtain ⟨s', ao, n, cap, ex, hsh⟩ := HN3.out.shape
  have HSH : Hid (A = .agg #[.bool s', .slice ao n cap, .int .i64 ex]) := hsh
  clear hB3
  cases hok : okR s z e
  · clear hsh
    have hNil : Nil = .agg #[.bool false, .slice none 0 0, .int .i64 0] := rfl
    go_wp2
    refine bodyPost_ret (results_cell_tmp_row rfl _ _ (w.heap.size + 1 + 1) 24 #[.bool false, .slice none 0 0, .int .i64 0] (0, 0) _ rfl (store3 _ _ _ HC3.out) Tryz.underlying24 rfl Tryz.info24) rfl ?_
    obtain ⟨-, hs, hBW, -⟩ := HH.out
    exact ⟨A, by rw [hok]; rfl, (HN3.out.store (by omega) _ _ _).mono (by omega), below_store3 (hBW.trans (HB3.out.mono hBW.size)) (by omega) _ _ _⟩
  · subst hsh
    go_wp2
    refine bodyPost_ret (results_cell_tmp_row rfl _ _ (w.heap.size + 1 + 1) 24 #[.bool s', .slice ao n cap, .int .i64 ex] (0, 0) _ rfl (store3 _ _ _ HC3.out) Tryz.underlying24 rfl Tryz.info24) rfl ?_
    obtain ⟨-, hs, hBW, -⟩ := HH.out
    exact ⟨_, by rw [hok]; rfl, (HN3.out.store (by omega) _ _ _).mono (by omega), below_store3 (hBW.trans (HB3.out.mono hBW.size)) (by omega) _ _ _⟩
end Go.Proofs.YtbmaoiemgepppaaGreatDoor
/- Whole. -/
namespace Go.Proofs.YtbmaoiemgepppaaGreatDoor
set_option linter.unusedVariables false
set_option linter.unusedSimpArgs false
open Go.RowKit

set_option maxRecDepth 200000 in
theorem c12_1 (n : Int) (m : Nat) (w : World) (hT : Tab32 w) (hm : m < 18446744073709551616) (hn : 0 ≤ n) (hw : IntKind.u64.wrap n = (m : Int)) :
    Calls Tryz.prog 23 #[.int .i64 n] w fun r w' => ∃ a, r = .returned a ∧ Nrm w' w.heap.size a false m 0 ∧ Below w.heap.size w w' := by
  have hB0 : Below w.heap.size w (w.alloc (.cells #[.bool false, .slice none 0 0, .int .i64 0] 24)) := (Below.refl _ _).alloc (Nat.le_refl _) _
  have k57 := c57 m (w.alloc (.cells #[.bool false, .slice none 0 0, .int .i64 0] 24)) hm
  have hT0 := hT.later hB0
  have HB0 : Hid (Below w.heap.size w (w.alloc (.cells #[.bool false, .slice none 0 0, .int .i64 0] 24)) ∧ (w.alloc (.cells #[.bool false, .slice none 0 0, .int .i64 0] 24)).heap[w.heap.size]? = some (.cells #[.bool false, .slice none 0 0, .int .i64 0] 24 (0, 0)) ∧ Tab32 (w.alloc (.cells #[.bool false, .slice none 0 0, .int .i64 0] 24)) ∧ m < 18446744073709551616) := ⟨hB0, heap_alloc_new _ _, hT0, hm⟩
  have HS : Hid ((w.alloc (.cells #[.bool false, .slice none 0 0, .int .i64 0] 24)).heap.size = w.heap.size + 1) := (by simp : (w.alloc (.cells #[.bool false, .slice none 0 0, .int .i64 0] 24)).heap.size = w.heap.size + 1)
  clear hB0 hT hT0 hm
  have hd : decide (n < 0) = false := decide_eq_false (by omega)
  go_enter Tryz.func23, Tryz.ntmps23
  go_wp2_with fail
  (try rw [hw])
  generalize w.alloc (.cells #[.bool false, .slice none 0 0, .int .i64 0] 24) = W at *
  refine k57.mono ?_
  rintro r w1 ⟨v, rfl, hO, hB1⟩
  clear k57
  have hl : dlen m ≤ 2 := (dlen_le 2 m).2 (by have := HB0.out.2.2.2; unfold B; omega)
  have k56 := c56 (neg := false) (e := 0) hO.is (by omega) (HB0.out.2.2.1.later hB1) (by omega)
  have HB1 : Hid (Below W.heap.size W w1) := hB1
  clear hO hB1 hl
  go_wp2_with fail
  refine k56.mono ?_
  rintro r w3 ⟨a, rfl, hN, hB3⟩
  clear k56
  obtain ⟨s, ao, n', cap, ex, rfl⟩ := hN.shape
  have HB3 : Hid (Below W.heap.size W w3) := HB1.out.trans (hB3.mono HB1.out.size)
  have HC3 : Hid (w3.heap[w.heap.size]? = some (.cells #[.bool false, .slice none 0 0, .int .i64 0] 24 (0, 0))) := box_later HB0.out.2.1 HB3.out (by have := HS.out; omega)
  obtain ⟨⟨a1, a2, a3⟩, a4, a5, a6⟩ := box_cells HC3.out
  have HN : Hid (Nrm w3 W.heap.size (.agg #[.bool s, .slice ao n' cap, .int .i64 ex]) false m 0) := hN.mono HB1.out.size
  clear hN hB3
  go_wp2
  refine bodyPost_ret (results_cell_row rfl _ _ w.heap.size 24 #[.bool s, .slice ao n' cap, .int .i64 ex] (0, 0) _ rfl (store3 _ _ _ HC3.out) Tryz.underlying24 rfl Tryz.info24) rfl ?_
  have hs := HS.out
  exact ⟨_, rfl, (HN.out.store (by omega) _ _ _).mono (by omega), below_store3 (HB0.out.1.trans (HB3.out.mono (by omega))) (Nat.le_refl _) _ _ _⟩

set_option maxRecDepth 200000 in
theorem c12_2 (n : Int) (m : Nat) (w : World) (hT : Tab32 w) (hm : m < 18446744073709551616) (hn : n < 0) (hw : IntKind.u64.wrap (-IntKind.u64.wrap n) = (m : Int)) :
    Calls Tryz.prog 23 #[.int .i64 n] w fun r w' => ∃ a, r = .returned a ∧ Nrm w' w.heap.size a true m 0 ∧ Below w.heap.size w w' := by
  have hB0 : Below w.heap.size w (w.alloc (.cells #[.bool false, .slice none 0 0, .int .i64 0] 24)) := (Below.refl _ _).alloc (Nat.le_refl _) _
  have k57 := c57 m (w.alloc (.cells #[.bool false, .slice none 0 0, .int .i64 0] 24)) hm
  have hT0 := hT.later hB0
  have HB0 : Hid (Below w.heap.size w (w.alloc (.cells #[.bool false, .slice none 0 0, .int .i64 0] 24)) ∧ (w.alloc (.cells #[.bool false, .slice none 0 0, .int .i64 0] 24)).heap[w.heap.size]? = some (.cells #[.bool false, .slice none 0 0, .int .i64 0] 24 (0, 0)) ∧ Tab32 (w.alloc (.cells #[.bool false, .slice none 0 0, .int .i64 0] 24)) ∧ m < 18446744073709551616) := ⟨hB0, heap_alloc_new _ _, hT0, hm⟩
  have HS : Hid ((w.alloc (.cells #[.bool false, .slice none 0 0, .int .i64 0] 24)).heap.size = w.heap.size + 1) := (by simp : (w.alloc (.cells #[.bool false, .slice none 0 0, .int .i64 0] 24)).heap.size = w.heap.size + 1)
  clear hB0 hT hT0 hm
  go_enter Tryz.func23, Tryz.ntmps23
  go_wp2_with fail
  (try rw [hw])
  generalize w.alloc (.cells #[.bool false, .slice none 0 0, .int .i64 0] 24) = W at *
  refine k57.mono ?_
  rintro r w1 ⟨v, rfl, hO, hB1⟩
  clear k57
  have hl : dlen m ≤ 2 := (dlen_le 2 m).2 (by have := HB0.out.2.2.2; unfold B; omega)
  have k56 := c56 (neg := true) (e := 0) hO.is (by omega) (HB0.out.2.2.1.later hB1) (by omega)
  have HB1 : Hid (Below W.heap.size W w1) := hB1
  clear hO hB1 hl
  go_wp2_with fail
  refine k56.mono ?_
  rintro r w3 ⟨a, rfl, hN, hB3⟩
  clear k56
  obtain ⟨s, ao, n', cap, ex, rfl⟩ := hN.shape
  have HB3 : Hid (Below W.heap.size W w3) := HB1.out.trans (hB3.mono HB1.out.size)
  have HC3 : Hid (w3.heap[w.heap.size]? = some (.cells #[.bool false, .slice none 0 0, .int .i64 0] 24 (0, 0))) := box_later HB0.out.2.1 HB3.out (by have := HS.out; omega)
  obtain ⟨⟨a1, a2, a3⟩, a4, a5, a6⟩ := box_cells HC3.out
  have HN : Hid (Nrm w3 W.heap.size (.agg #[.bool s, .slice ao n' cap, .int .i64 ex]) true m 0) := hN.mono HB1.out.size
  clear hN hB3
  go_wp2
  refine bodyPost_ret (results_cell_row rfl _ _ w.heap.size 24 #[.bool s, .slice ao n' cap, .int .i64 ex] (0, 0) _ rfl (store3 _ _ _ HC3.out) Tryz.underlying24 rfl Tryz.info24) rfl ?_
  have hs := HS.out
  exact ⟨_, rfl, (HN.out.store (by omega) _ _ _).mono (by omega), below_store3 (HB0.out.1.trans (HB3.out.mono (by omega))) (Nat.le_refl _) _ _ _⟩

theorem c12 {n : Int} {w : World} (hT : Tab32 w) (hn : -9223372036854775808 ≤ n ∧ n ≤ 9223372036854775807) :
    Calls Tryz.prog 23 #[.int .i64 n] w fun r w' => ∃ a, r = .returned a ∧ Nrm w' w.heap.size a (decide (n < 0)) n.natAbs 0 ∧ Below w.heap.size w w' := by
  by_cases h : n < 0
  · rw [decide_eq_true h]
    exact c12_2 n n.natAbs w hT (by omega) h (by rw [IntKind.wrap_u64, IntKind.wrap_u64]; omega)
  · rw [decide_eq_false h]
    exact c12_1 n n.natAbs w hT (by omega) (by omega) (by rw [IntKind.wrap_u64]; omega)
end Go.Proofs.YtbmaoiemgepppaaGreatDoor
