/- Own work: contracts of the program's functions, part A4. -/
import Derived.Test.YtceoeiojoffnnaaGreatDoorA3
import Derived.Test.YtceoeiojoffnnaaGreatDoorA1

/- takeOut. -/
namespace Go.Proofs.YtceoeiojoffnnaaGreatDoor
set_option linter.unusedVariables false
set_option linter.unusedSimpArgs false
open Go.RowKit

theorem top_eq {x n : Nat} (h : x < B ^ (n + 1)) : x / B ^ n = dg x n := by
  rw [top_split, Nat.div_eq_of_lt h, Nat.zero_mul, Nat.zero_add]
theorem quo_lt {x n : Nat} (x' : Nat) (h : x / B ^ n = x') : x' * B ^ n ≤ x ∧ x < (x' + 1) * B ^ n := by
  subst h
  refine ⟨Nat.div_mul_le_self .., ?_⟩
  rw [Nat.add_mul, Nat.one_mul]
  exact Nat.lt_div_mul_add (Bpow_pos n)

theorem c175 {g off cap bb ob cb n r d : Nat} {w : World} (hn : n ≤ 35184372088832) (hn0 : 0 < n) (hr : r < B ^ (n + 1)) (hd : d < B ^ n) (hd1 : B ^ (n - 1) ≤ d) (hrd : r < d * B)
    (hcr : ∀ j, j ≤ n → w.cell? ⟨g, off + j, none⟩ = some (.int .u32 (dg r j : Nat))) (hcb : ∀ i, i < n → w.cell? ⟨bb, ob + i, none⟩ = some (.int .u32 (dg d i : Nat))) :
    Calls Tryz.prog 105 #[.slice (some ⟨g, off, none⟩) (n + 1 : Nat) cap, .slice (some ⟨bb, ob, none⟩) n cb] w fun e w' => (∃ t : Nat, e = .returned (.int .u32 t) ∧ r / d ≤ t ∧ t < B ∧ (t - 1) * d ≤ r) ∧ ∃ k, w' = w.drewN k := by
  have hdp : 0 < d := Nat.lt_of_lt_of_le (Bpow_pos _) hd1
  have hq : r / d < B := (Nat.div_lt_iff_lt_mul hdp).2 (by rw [Nat.mul_comm]; exact hrd)
  have hqd : r / d * d ≤ r := Nat.div_mul_le_self ..
  by_cases hn1 : n = 1
  · subst hn1
    have e0 : d = dg d 0 := by rw [dg_zero, Nat.mod_eq_of_lt (by simpa using hd)]
    have er : r = dg r 0 + dg r 1 * B := by
      have h1 := top_split r 0
      have h2 := top_eq (n := 1) hr
      simp at h1 h2
      rw [h2] at h1
      omega
    have h := c175_1 g off cap bb ob cb (dg r 1) (dg r 0) (dg d 0) w (dg_lt _ _) (dg_lt _ _) (dg_lt _ _) (by omega) (hcr 1 (by omega)) (by have := hcr 0 (by omega); rwa [Nat.add_zero] at this) (by have := hcb 0 (by omega); rwa [Nat.add_zero] at this)
    rw [← e0, ← er, show min (r / d) 4294967295 = r / d from Nat.min_eq_left (by unfold B at hq; exact Nat.le_of_lt_succ hq)] at h
    refine h.mono ?_
    rintro e w' ⟨rfl, hw⟩
    exact ⟨⟨r / d, rfl, Nat.le_refl _, hq, Nat.le_trans (Nat.mul_le_mul_right _ (Nat.sub_le ..)) hqd⟩, hw⟩
  · obtain ⟨k, rfl⟩ : ∃ k, n = k + 2 := ⟨n - 2, by omega⟩
    have t2 := top_eq (n := k + 2) hr
    have t1 : r / B ^ (k + 1) = dg r (k + 1) + dg r (k + 2) * B := by rw [top_split, t2]; omega
    have t0 : r / B ^ k = (dg r (k + 1) + dg r (k + 2) * B) * B + dg r k := by rw [top_split, t1]
    have s1 : d / B ^ (k + 1) = dg d (k + 1) := top_eq hd
    have s0 : d / B ^ k = dg d (k + 1) * B + dg d k := by rw [top_split, s1]
    obtain ⟨u1, u2⟩ := quo_lt _ t1
    obtain ⟨v1, v2⟩ := quo_lt _ t0
    obtain ⟨x1, x2⟩ := quo_lt _ s1
    obtain ⟨y1, y2⟩ := quo_lt _ s0
    have hd1z : dg d (k + 1) ≠ 0 := by
      intro e
      rw [e] at x2
      simp at x2 hd1
      omega
    have q1 : r / d * dg d (k + 1) ≤ dg r (k + 1) + dg r (k + 2) * B := guess_ge hqd u2 x1 (Bpow_pos _)
    have q0 : r / d * (dg d (k + 1) * B + dg d k) ≤ (dg r (k + 1) + dg r (k + 2) * B) * B + dg r k := guess_ge hqd v2 y1 (Bpow_pos _)
    have q2 : r / d ≤ (dg r (k + 1) + dg r (k + 2) * B) / dg d (k + 1) := (Nat.le_div_iff_mul_le (by omega)).2 q1
    have hBm : B * B ^ k ≤ d := by rw [Nat.mul_comm, ← Bpow_succ]; simpa using hd1
    have fin : ∀ e w', ((∃ t : Nat, e = Ending.returned (.int .u32 t) ∧ r / d ≤ t ∧ t < B ∧ t * (dg d (k + 1) * B + dg d k) ≤ (dg r (k + 1) + dg r (k + 2) * B) * B + dg r k) ∧ ∃ n, w' = w.drewN n) →
        (∃ t : Nat, e = .returned (.int .u32 t) ∧ r / d ≤ t ∧ t < B ∧ (t - 1) * d ≤ r) ∧ ∃ k, w' = w.drewN k := by
      rintro e w' ⟨⟨t, rfl, a1, a2, a3⟩, hw⟩
      exact ⟨⟨t, rfl, a1, a2, guess_le a3 a2 v1 y2 hBm (Bpow_pos _)⟩, hw⟩
    have c2 := hcr (k + 2) (by omega)
    have c1 := hcr (k + 1) (by omega)
    have c0 := hcr k (by omega)
    have f1 := hcb (k + 1) (by omega)
    have f0 := hcb k (by omega)
    have hm : (dg r (k + 1) + dg r (k + 2) * B) / dg d (k + 1) * dg d (k + 1) ≤ dg r (k + 1) + dg r (k + 2) * B := Nat.div_mul_le_self ..
    by_cases hT : (dg r (k + 1) + dg r (k + 2) * B) / dg d (k + 1) ≤ 4294967295
    · refine (c175_2 g off cap bb ob cb k _ _ _ _ _ (r / d) _ w (by omega) (dg_lt _ _) (dg_lt _ _) (dg_lt _ _) (dg_lt _ _) hd1z (dg_lt _ _) rfl hT ⟨by omega, q2, by unfold B at *; omega, q0⟩ c2 c1 c0 f1 f0).mono fin
    · have hm2 : 4294967295 * dg d (k + 1) ≤ dg r (k + 1) + dg r (k + 2) * B := Nat.le_trans (Nat.mul_le_mul_right _ (by omega)) hm
      refine (c175_3 g off cap bb ob cb k _ _ _ _ _ (r / d) _ w (by omega) (dg_lt _ _) (dg_lt _ _) (dg_lt _ _) (dg_lt _ _) hd1z (dg_lt _ _) rfl (by omega) ⟨by omega, by unfold B at *; omega, by unfold B; omega, q0⟩ c2 c1 c0 f1 f0).mono fin

theorem put_put (off j z z' : Nat) (f : Nat → Nat) (s : Nat) : put off j z (put off j z' f) s = put off j z f s := by
  unfold put
  by_cases h : off ≤ s ∧ s < off + j
  · rw [if_pos h, if_pos h]
  · rw [if_neg h, if_neg h, if_neg h]
theorem put_mod (off j z z' : Nat) (f : Nat → Nat) (h : z % B ^ j = z' % B ^ j) (s : Nat) : put off j z f s = put off j z' f s := by
  unfold put
  by_cases h2 : off ≤ s ∧ s < off + j
  · rw [if_pos h2, if_pos h2, ← dg_mod (x := z) (n := j) (by omega), h, dg_mod (by omega)]
  · rw [if_neg h2, if_neg h2]

theorem c148 {g off cap bb ob cb n r d N : Nat} {f : Nat → Nat} {w : World} (hn : n ≤ 35184372088832) (hn0 : 0 < n) (hr : r < B ^ (n + 1)) (hd : d < B ^ n) (hd1 : B ^ (n - 1) ≤ d) (hrd : r < d * B) (hbg : bb ≠ g)
    (hcb : ∀ i, i < n → w.cell? ⟨bb, ob + i, none⟩ = some (.int .u32 (dg d i : Nat))) (hN : off + n + 1 ≤ N) (hrow : RowGe w g N (fun i => .int .u32 (f i : Nat))) (hf : ∀ j, j ≤ n → f (off + j) = dg r j) :
    Calls Tryz.prog 84 #[.slice (some ⟨g, off, none⟩) (n + 1 : Nat) cap, .slice (some ⟨bb, ob, none⟩) n cb] w fun e w' => e = .returned (.int .u32 (r / d : Nat)) ∧ In g w w' N (put off (n + 1) (r % d) f) := by
  have hdp : 0 < d := Nat.lt_of_lt_of_le (Bpow_pos _) hd1
  have k175 : Calls Tryz.prog 105 #[.slice (some ⟨g, off, none⟩) (n + 1 : Nat) cap, .slice (some ⟨bb, ob, none⟩) n cb] w fun e w' => (∃ t : Nat, e = .returned (.int .u32 t) ∧ r / d ≤ t ∧ t < B ∧ (t - 1) * d ≤ r) ∧ ∃ k, w' = w.drewN k :=
    c175 hn hn0 hr hd hd1 hrd (fun j hj => by rw [hrow.cell (by omega), hf j hj]) hcb
  have k176 : ∀ t k, t < B → Calls Tryz.prog 106 #[.slice (some ⟨g, off, none⟩) (n + 1 : Nat) cap, .slice (some ⟨bb, ob, none⟩) n cb, .int .u32 t] (w.drewN k) fun e w' => e = .returned (.bool (decide (r < d * t))) ∧ In g (w.drewN k) w' N (put off (n + 1) (wsub r (d * t) (n + 1)) f) :=
    fun t k ht => c176_1 g off cap N n r d t bb ob cb (some ⟨bb, ob, none⟩) f (w.drewN k) hn (fun _ => rfl) hbg hd ht hr hcb hN ⟨Only.refl _ _, hrow⟩ hf
  have k177 : ∀ (z : Nat) (w1 w2 : World), In g w1 w2 N (put off (n + 1) z f) → (∀ i, i < n → w2.cell? ⟨bb, ob + i, none⟩ = some (.int .u32 (dg d i : Nat))) →
      Calls Tryz.prog 107 #[.slice (some ⟨g, off, none⟩) (n + 1 : Nat) cap, .slice (some ⟨bb, ob, none⟩) n cb] w2 fun e w' => e = .returned (.tuple #[]) ∧ In g w2 w' N (put off (n + 1) (z + d) (put off (n + 1) z f)) :=
    fun z w1 w2 h hc => c177_1 g off cap N n z d bb ob cb (some ⟨bb, ob, none⟩) _ w2 hn (fun _ => rfl) hbg hd hc hN ⟨Only.refl _ _, h.row⟩ (fun j hj => by unfold put; rw [if_pos (by omega), Nat.add_sub_cancel_left])
  have HF1 : ∀ t, r / d ≤ t → d * t ≤ r → r / d = t ∧ wsub r (d * t) (n + 1) = r % d := fun t h1 h2 => by
    have h3 : t ≤ r / d := (Nat.le_div_iff_mul_le hdp).2 (by rw [Nat.mul_comm]; exact h2)
    have h4 : t = r / d := by omega
    subst h4
    refine ⟨rfl, ?_⟩
    rw [wsub_of_le hr h2]
    have := Nat.div_add_mod r d
    omega
  have HF2 : ∀ t, t < B → (t - 1) * d ≤ r → r < d * t → r / d = t - 1 ∧ (wsub r (d * t) (n + 1) + d) % B ^ (n + 1) = r % d % B ^ (n + 1) := fun t ht h1 h2 => by
    have ht0 : 0 < t := Nat.pos_of_ne_zero fun e => by subst e; simp at h2
    have e1 : d * t = (t - 1) * d + d := by
      have := Nat.add_mul (t - 1) 1 d
      rw [show t - 1 + 1 = t by omega, Nat.one_mul] at this
      rw [Nat.mul_comm]; exact this
    have h3 : r / d = t - 1 := by
      rw [Nat.div_eq_iff hdp]
      omega
    refine ⟨h3, ?_⟩
    have hm : d * t < B ^ (n + 1) := by rw [Bpow_succ]; exact Nat.mul_lt_mul_of_lt_of_le hd (Nat.le_of_lt ht) B_pos
    have h5 := Nat.div_add_mod r d
    rw [h3, Nat.mul_comm] at h5
    have h6 : wsub r (d * t) (n + 1) = r + B ^ (n + 1) - d * t := by
      unfold wsub
      rw [Nat.mod_eq_of_lt hm, Nat.mod_eq_of_lt (by omega)]
    rw [h6, show r + B ^ (n + 1) - d * t + d = r % d + B ^ (n + 1) by omega, Nat.add_mod_right]
  have hcbk : ∀ k w2 z, In g (w.drewN k) w2 N (put off (n + 1) z f) → ∀ i, i < n → w2.cell? ⟨bb, ob + i, none⟩ = some (.int .u32 (dg d i : Nat)) := fun k w2 z h i hi => h.only.cell (p := ⟨bb, ob + i, none⟩) hbg (hcb i hi)
  have H1 : Hid (∀ t, r / d ≤ t → d * t ≤ r → r / d = t ∧ wsub r (d * t) (n + 1) = r % d) := HF1
  have H2 : Hid (∀ t, t < B → (t - 1) * d ≤ r → r < d * t → r / d = t - 1 ∧ (wsub r (d * t) (n + 1) + d) % B ^ (n + 1) = r % d % B ^ (n + 1)) := HF2
  clear HF1 HF2 hrow hf hcb
  go_enter Tryz.func84, Tryz.ntmps84
  go_wp2_with fail
  refine k175.mono ?_
  rintro e w1 ⟨⟨t, rfl, ht1, ht2, ht3⟩, k, rfl⟩
  have k6 := k176 t k ht2
  have HT : Hid (r / d ≤ t ∧ t < B ∧ (t - 1) * d ≤ r) := ⟨ht1, ht2, ht3⟩
  clear k175 k176 ht1 ht2 ht3
  by_cases hlt : r < d * t
  · have hdec : decide (r < d * t) = true := decide_eq_true hlt
    rw [hdec] at k6
    have HL : Hid (r < d * t) := hlt
    generalize hz : wsub r (d * t) (n + 1) = z at *
    have HZ : Hid (wsub r (d * t) (n + 1) = z) := hz
    clear hlt hdec hz
    go_wp2_with fail
    refine k6.mono ?_
    rintro e w2 ⟨rfl, hI⟩
    have k7 := k177 z _ w2 hI (hcbk k w2 z hI)
    have HI : Hid (In g (w.drewN k) w2 N (put off (n + 1) z f)) := hI
    clear k6 k177 hcbk hI
    go_wp2_with fail
    refine k7.mono ?_
    rintro e w3 ⟨rfl, hI3⟩
    have HI3 : Hid (In g w2 w3 N (put off (n + 1) (z + d) (put off (n + 1) z f))) := hI3
    clear k7 hI3
    go_wp2
    go_ret
    obtain ⟨a1, a2, a3⟩ := HT.out
    obtain ⟨b1, b2⟩ := H2.out t a2 a3 HL.out
    have ht0 : 0 < t := Nat.pos_of_ne_zero fun e => by have := HL.out; rw [e] at this; simp at this
    refine ⟨congrArg Ending.returned (congrArg (Value.int IntKind.u32) ?_), ?_, HI3.out.row.congr fun i hi => ?_⟩
    · rw [b1]
      unfold B at a2
      omega
    · exact ((Only.drewN g w k).trans HI.out.only).trans HI3.out.only
    · rw [put_put, put_mod _ _ _ (r % d) _ (by rw [← HZ.out]; exact b2)]
  · have hdec : decide (r < d * t) = false := decide_eq_false hlt
    rw [hdec] at k6
    have HL : Hid (¬ r < d * t) := hlt
    generalize hz : wsub r (d * t) (n + 1) = z at *
    have HZ : Hid (wsub r (d * t) (n + 1) = z) := hz
    clear hlt hdec hz
    go_wp2_with fail
    refine k6.mono ?_
    rintro e w2 ⟨rfl, hI⟩
    have HI : Hid (In g (w.drewN k) w2 N (put off (n + 1) z f)) := hI
    clear k6 k177 hcbk hI
    go_wp2
    go_ret
    obtain ⟨a1, a2, a3⟩ := HT.out
    obtain ⟨b1, b2⟩ := H1.out t a1 (by have := HL.out; omega)
    rw [b1]
    refine ⟨rfl, (Only.drewN g w k).trans HI.out.only, HI.out.row.congr fun i hi => ?_⟩
    rw [← b2, HZ.out]
end Go.Proofs.YtceoeiojoffnnaaGreatDoor

/- divide. -/
namespace Go.Proofs.YtceoeiojoffnnaaGreatDoor
set_option linter.unusedVariables false
set_option linter.unusedSimpArgs false
open Go.RowKit

def cells (x n : Nat) : List Value := (List.range n).map fun i => Value.int .u32 (dg x i : Nat)
theorem cells_length (x n : Nat) : (cells x n).length = n := by simp [cells]
theorem cells_get {x n i : Nat} (h : i < n) : (cells x n)[i]? = some (.int .u32 (dg x i : Nat)) := by simp [cells, h]

theorem Own.row {w : World} {base : Nat} {v : Value} {x : Nat} (h : Own w base v x) : w.ownsRow base 39 1 v (dlen x) (cells x (dlen x)) := by
  rcases h with ⟨rfl, rfl⟩ | ⟨g, cap, f, rfl, hb, h1, h2, ⟨c, hc, hs, hf⟩, h4⟩
  · rw [dlen_zero]; exact World.ownsRow_nil ..
  · refine ⟨by rw [cells_length]; omega, .inr ⟨g, cap, c, rfl, hb, hc, h1, by unfold maxLen; omega, by omega, ?_⟩⟩
    apply List.ext_getElem?
    intro i
    rw [Nat.mul_one, List.getElem?_take]
    by_cases hi : i < dlen x
    · rw [if_pos hi, cells_get hi, Array.getElem?_toList, hf i (by omega), h4 i hi]
    · rw [if_neg hi, List.getElem?_eq_none (by rw [cells_length]; omega)]

/-- what an append of a nought leaves -/
theorem row_of {w : World} {base : Nat} {v : Value} {x : Nat} (h : w.ownsRow base 39 1 v (dlen x + 1) (cells x (dlen x) ++ [.int .u32 0])) :
    ∃ g cap f, v = .slice (some ⟨g, 0, none⟩) (dlen x + 1) cap ∧ base ≤ g ∧ dlen x + 1 ≤ cap ∧ cap ≤ maxLen ∧ w.rowIs g 39 cap f ∧ ∀ i, i < dlen x + 1 → f i = .int .u32 (dg x i : Nat) := by
  rcases h.2 with ⟨_, h0⟩ | ⟨g, cap, c, hv, hb, hc, h1, h2, h3, h4⟩
  · omega
  · refine ⟨g, cap, fun i => (c[i]?).getD undef, hv, hb, h1, h2, ⟨c, hc, by omega, fun i hi => ?_⟩, fun i hi => ?_⟩
    · simp only []
      rw [Array.getElem?_eq_getElem (by omega)]; rfl
    · have h5 : (cells x (dlen x) ++ [Value.int .u32 0])[i]? = c[i]? := by
        rw [← h4, Nat.mul_one, List.getElem?_take, if_pos hi, Array.getElem?_toList]
      show (c[i]?).getD undef = _
      rw [← h5]
      by_cases e : i < dlen x
      · rw [List.getElem?_append_left (by rw [cells_length]; exact e), cells_get e]; rfl
      · have : i = dlen x := by omega
        subst this
        rw [List.getElem?_append_right (by rw [cells_length]; exact Nat.le_refl _), cells_length, dg_past (Nat.le_refl _)]
        simp

theorem norm_len {y n : Nat} (hn : dlen y = n + 1) : dlen (y * 2 ^ (32 - bl (dg y n))) = n + 1 ∧ B ^ n ≤ y * 2 ^ (32 - bl (dg y n)) := by
  have hy0 : y ≠ 0 := fun e => by subst e; rw [dlen_zero] at hn; omega
  have h1 := lt_dlen y
  rw [hn] at h1
  have h2 := le_dlen hy0
  rw [hn, Nat.add_sub_cancel] at h2
  have h3 := top_eq h1
  obtain ⟨h4, h5⟩ := quo_lt _ h3
  have h6 := lt_bl (dg y n)
  have h7 := bl_le32 (dg_lt y n)
  have hb : 2 ^ bl (dg y n) * 2 ^ (32 - bl (dg y n)) = B := two_le h7
  have h8 : y * 2 ^ (32 - bl (dg y n)) < B ^ (n + 1) := by
    have h9 : y < 2 ^ bl (dg y n) * B ^ n := Nat.lt_of_lt_of_le h5 (Nat.mul_le_mul_right _ h6)
    have h10 := Nat.mul_lt_mul_of_pos_right h9 (Nat.two_pow_pos (32 - bl (dg y n)))
    rw [Bpow_succ, ← hb]
    calc _ < _ := h10
      _ = _ := by grind
  have h11 : B ^ n ≤ y * 2 ^ (32 - bl (dg y n)) := Nat.le_trans h2 (Nat.le_mul_of_pos_right _ (Nat.two_pow_pos _))
  exact ⟨dlen_eq h8 (.inr (by rw [Nat.add_sub_cancel]; exact h11)), h11⟩

theorem c100_0 {u v : Value} {x y : Nat} {w : World} (h1 : Is w u x) (h2 : Is w v y) (hx : dlen x ≤ 35184372088832) (hy : dlen y ≤ 35184372088832) (hlt : x < y) :
    Calls Tryz.prog 55 #[u, v] w fun e w' => e = .returned (.tuple #[.slice none 0 0, .bool (decide (x % y = 0))]) ∧ ∃ d, w' = w.drewN d := by
  have k := c129 h1 h2 hx hy
  obtain ⟨ao, cap, rfl, -, -, -⟩ := h1
  have e1 : cmpI x y = -1 := by unfold cmpI; rw [if_pos (by omega)]
  rw [e1] at k
  have e2 : ((dlen x : Int) == 0) = decide (x % y = 0) := by
    rw [Nat.mod_eq_of_lt hlt]
    by_cases h : x = 0
    · subst h; simp [dlen_zero]
    · have := fun e => h (dlen_eq_zero.1 e)
      simp [h]; omega
  generalize decide (x % y = 0) = r at *
  generalize dlen x = n at *
  clear e1
  go_enter Tryz.func55, Tryz.ntmps55
  go_wp2_with fail
  refine k.mono ?_
  rintro e w1 ⟨rfl, d, rfl⟩
  clear k
  go_wp2
  go_ret2
  exact ⟨rfl, d, rfl⟩

/-- the world in the midst of a division: the digits from i on are known -/
structure Dv (w wr : World) (gr go gd n K x y i : Nat) : Prop where
  below : Below w.heap.size w wr
  rest : RowGe wr gr (n + K + 1) (fun t => .int .u32 (dg (x % (y * B ^ i)) t : Nat))
  out : wr.rowIs go 39 K (fun t => .int .u32 (if i ≤ t then dg (x / y) t else 0 : Nat))
  dig : ∀ j, j < n + 1 → wr.cell? ⟨gd, j, none⟩ = some (.int .u32 (dg y j : Nat))

theorem div_low (x y j : Nat) : x % (y * B ^ (j + 1)) % B ^ j + B ^ j * (x % (y * B ^ (j + 1)) / B ^ j % y) = x % (y * B ^ j) := by
  rw [← Nat.mod_mul, Nat.mul_comm (B ^ j) y]
  have : y * B ^ (j + 1) = y * B ^ j * B := by rw [Bpow_succ, Nat.mul_assoc]
  rw [this, Nat.mod_mul_right_mod]
theorem div_dig (x y j : Nat) : x % (y * B ^ (j + 1)) / B ^ j / y = dg (x / y) j := by
  have : y * B ^ (j + 1) = y * B ^ j * B := by rw [Bpow_succ, Nat.mul_assoc]
  rw [Nat.div_div_eq_div_mul, Nat.mul_comm (B ^ j) y, this, Nat.mod_mul_right_div_self, dg, Nat.div_div_eq_div_mul]
theorem div_r {x y j n : Nat} (hy0 : 0 < y) (hy : y < B ^ (n + 1)) : x % (y * B ^ (j + 1)) / B ^ j < y * B ∧ x % (y * B ^ (j + 1)) / B ^ j < B ^ (n + 1 + 1) ∧ x % (y * B ^ (j + 1)) < B ^ (j + (n + 1 + 1)) := by
  have h0 : x % (y * B ^ (j + 1)) < y * B ^ (j + 1) := Nat.mod_lt _ (Nat.mul_pos hy0 (Bpow_pos _))
  have h1 : x % (y * B ^ (j + 1)) / B ^ j < y * B := (Nat.div_lt_iff_lt_mul (Bpow_pos j)).2 (by rw [Nat.mul_assoc, Nat.mul_comm B, ← Bpow_succ]; exact h0)
  have h2 : y * B ≤ B ^ (n + 1 + 1) := by rw [Bpow_succ (n + 1)]; exact Nat.mul_le_mul_right _ (Nat.le_of_lt hy)
  refine ⟨h1, by omega, ?_⟩
  have h3 : y * B ^ (j + 1) ≤ B ^ (j + (n + 1 + 1)) := by
    rw [show j + (n + 1 + 1) = (n + 1) + (j + 1) by omega, Nat.pow_add B (n + 1)]
    exact Nat.mul_le_mul_right _ (Nat.le_of_lt hy)
  omega

theorem div_step {w wr w' : World} {gr go gd n K x y j : Nat} {q : Int} (hV : Dv w wr gr go gd n K x y (j + 1)) (hy0 : 0 < y) (hy : y < B ^ (n + 1)) (hbr : w.heap.size ≤ gr) (hbo : w.heap.size ≤ go) (h1 : gr ≠ go) (h2 : gd ≠ gr) (h3 : gd ≠ go) (hj : j < K)
    (hI : In gr wr w' (n + K + 1) (put j (n + 1 + 1) (x % (y * B ^ (j + 1)) / B ^ j % y) (fun t => dg (x % (y * B ^ (j + 1))) t))) (hq : q = (x % (y * B ^ (j + 1)) / B ^ j / y : Nat)) :
    (∃ i : Nat, i ≤ K ∧ Value.int .i64 ((j : Int) - 1) = Value.int .i64 ((i : Int) - 1) ∧ Dv w (w'.setCell ⟨go, j, none⟩ (.int .u32 q)) gr go gd n K x y i) ∧
    (intOf (Value.int .i64 ((j : Int) - 1)) + 1).toNat < (intOf (Value.int .i64 (j : Int)) + 1).toNat := by
  obtain ⟨r1, r2, r3⟩ := div_r (x := x) (j := j) hy0 hy
  refine ⟨⟨j, by omega, rfl, ?_, ?_, ?_, fun t ht => ?_⟩, by simp [intOf]⟩
  · exact (hV.below.trans (hI.only.below hbr)).setCell hbo _
  · refine (hI.row.of_block (Below.heap_setCell _ _ _ _ h1)).congr fun t ht => ?_
    congr 2
    rw [← div_low x y j]
    generalize x % (y * B ^ (j + 1)) = R at *
    unfold put
    by_cases e : j ≤ t ∧ t < j + (n + 1 + 1)
    · rw [if_pos e]
      obtain ⟨s, rfl⟩ : ∃ s, t = j + s := ⟨t - j, by omega⟩
      rw [Nat.add_sub_cancel_left, ← dg_div, Nat.add_mul_div_left _ _ (Bpow_pos j), Nat.div_eq_of_lt (Nat.mod_lt _ (Bpow_pos j)), Nat.zero_add]
    · rw [if_neg e]
      show dg R t = _
      by_cases e2 : t < j
      · rw [← dg_mod (x := R) e2, ← dg_mod (x := R % B ^ j + _) e2, Nat.add_mul_mod_self_left, Nat.mod_mod]
      · have h5 : R % B ^ j + B ^ j * (R / B ^ j % y) ≤ R := by
          have := Nat.mod_add_div R (B ^ j)
          have := Nat.mul_le_mul_left (B ^ j) (Nat.mod_le (R / B ^ j) y)
          omega
        have h6 : B ^ (j + (n + 1 + 1)) ≤ B ^ t := Nat.pow_le_pow_right B_pos (by omega)
        rw [dg_of_lt (by omega), dg_of_lt (by omega)]
  · refine ((hV.out.of_block (hI.only.block go (Ne.symm h1))).set j _).congr fun t ht => ?_
    by_cases e : t = j
    · subst e
      rw [if_pos rfl, if_pos (Nat.le_refl _), hq, div_dig]
    · rw [if_neg e]
      by_cases e2 : j + 1 ≤ t
      · rw [if_pos e2, if_pos (by omega)]
      · rw [if_neg e2, if_neg (by omega)]
  · rw [World.cell?_setCell_other _ _ _ _ (fun e => by have := congrArg Addr.block e; simp at this; omega)]
    exact hI.only.cell (p := ⟨gd, t, none⟩) h2 (hV.dig t ht)

set_option maxRecDepth 200000 in
theorem c100_1 {u v : Value} {x y : Nat} {w : World} (h1 : Is w u x) (h2 : Is w v y) (hx : dlen x ≤ 17592186044416) (hy : dlen y ≤ 17592186044416) (hy0 : y ≠ 0) (hle : y ≤ x) :
    Calls Tryz.prog 55 #[u, v] w fun e w' => ∃ q, e = .returned (.tuple #[q, .bool (decide (x % y = 0))]) ∧ Own w' w.heap.size q (x / y) ∧ Below w.heap.size w w' := by
  have k129 := c129 h1 h2 (by omega) (by omega)
  have e1 : ¬ cmpI x y < 0 := by unfold cmpI; rw [if_neg (by omega)]; split <;> omega
  generalize cmpI x y = cv at *
  have hnp := dlen_pos hy0
  obtain ⟨n, hn⟩ : ∃ n, dlen y = n + 1 := ⟨_, hnp⟩
  have H1 : Hid (Is w u x) := h1
  have H2 : Hid (Is w v y) := h2
  obtain ⟨bo, cb, rfl, b1, b2, bb, ob, b3, b4⟩ := h2
  rw [hn] at b3 b4 k129 H2 ⊢
  obtain rfl := b3 (by omega)
  have g1 := b4 n (by omega)
  have k147 := fun w => c147 (dg y n) (dg_lt _ _) w
  have htz : 32 - bl (dg y n) ≤ 32 := by omega
  generalize hsp : 32 - bl (dg y n) = sp at *
  have HNL : Hid (dlen (y * 2 ^ sp) = n + 1 ∧ B ^ n ≤ y * 2 ^ sp) := by rw [← hsp]; exact norm_len hn
  have hnb : n ≤ 17592186044416 := by omega
  have HXY : Hid (y ≤ x ∧ y ≠ 0 ∧ dlen x ≤ 17592186044416 ∧ dlen y ≤ 17592186044416) := ⟨hle, hy0, hx, hy⟩
  generalize dg y n = top at *
  clear b3 b4 h1 hnp
  go_enter Tryz.func55, Tryz.ntmps55
  go_wp2_with fail
  refine k129.mono ?_
  rintro e w1 ⟨rfl, d, rfl⟩
  clear k129
  go_wp2_with fail
  refine (k147 _).mono ?_
  rintro e w1 ⟨rfl, rfl⟩
  clear k147 e1 hsp g1 b1 b2 hn hle hy0 hx hy
  go_wp2_with fail
  refine (c109 (w := w.drewN d) H2.out sp (by have := HXY.out.2.2.2; omega) (by omega)).mono ?_
  rintro e w2 ⟨vd, rfl, hOd, hB2⟩
  have hIu : Is w2 u x := Is.later (w := w.drewN d) H1.out hB2
  go_wp2_with fail
  refine (c109 hIu sp (by have := HXY.out.2.2.1; omega) (by omega)).mono ?_
  rintro e w3 ⟨vm, rfl, hOm, hB3⟩
  have hDD : ∃ gd capd, vd = .slice (some ⟨gd, 0, none⟩) (n + 1) capd ∧ gd < w2.heap.size ∧ w.heap.size ≤ gd ∧ ∀ i, i < n + 1 → w3.cell? ⟨gd, i, none⟩ = some (.int .u32 (dg (y * 2 ^ sp) i : Nat)) := by
    rcases hOd with ⟨_, h0⟩ | ⟨g, cap, f, rfl, hb, h1, h2, h3, h4⟩
    · have := HNL.out.1
      rw [h0, dlen_zero] at this
      omega
    · rw [HNL.out.1] at h1 h4 ⊢
      exact ⟨g, cap, rfl, h3.lt, hb, fun i hi => (hB3.cell (p := ⟨g, i, none⟩) h3.lt).trans (by rw [h3.cell (by omega), h4 i hi])⟩
  obtain ⟨gd, capd, rfl, hgd2, hgdw, hD3⟩ := hDD
  have hB13 : Below w.heap.size w w3 := Below.trans (b := w2) (Below.trans (b := w.drewN d) ⟨rfl, rfl, rfl, Nat.le_refl _, fun _ _ => rfl⟩ hB2) (hB3.mono hB2.size)
  have hOw := hOm.row
  have hLx : dlen (x * 2 ^ sp) ≤ 17592186044420 := by have := shl_len (x := x) (k := sp) rfl; have := HXY.out.2.2.1; omega
  generalize hx' : x * 2 ^ sp = x' at *
  generalize hy' : y * 2 ^ sp = y' at *
  have HX' : Hid (x * 2 ^ sp = x' ∧ y * 2 ^ sp = y') := ⟨hx', hy'⟩
  have hbase : w2.heap.size ≤ w3.heap.size := hB3.size
  clear hOd hB2 hIu hB3 hx' hy' hOm
  obtain ⟨i0, hi, hz0, hz1, hz2⟩ := info_parts Tryz.info39
  go_wp2_with (at_builtin; refine wpList_append_own _ rfl _ _ 23 rfl w2.heap.size 39 i0 (.int .u32 0) 1 4 Tryz.underlying23 hi hz0 hz1 hz2 rfl (by decide) _ _ _ rfl (hOw.alloc _) ⟨w3.heap.size, 0, none⟩ 1 1 [.int .u32 0] rfl rfl ?c1 ?c2 ?c3 ?c4 ?c5 ?_)
  case c1 => exact (cell_one_new _ _ _)
  case c2 => intro u hu; simp at hu; subst hu; rfl
  case c3 => unfold maxLen; omega
  case c4 => omega
  case c5 => simp; omega
  intro v' w4 hown4 hgrow _
  obtain ⟨gr, capr, F, rfl, hgr, hLr, hcapr, hrow, hF⟩ := row_of hown4
  have hvm : ∀ k, vm.ownBlock = some k → w2.heap.size ≤ k := fun k hk => (hOw.lt k hk).1
  have hB4 : Below w.heap.size w w4 := Below.grown (hB13.alloc (by have := hB13.size; omega) _) hgrow (by have := hB13.size; simp; omega) (fun k hk => by have := hvm k hk; omega)
  have hD4 : ∀ i, i < n + 1 → w4.cell? ⟨gd, i, none⟩ = some (.int .u32 (dg y' i : Nat)) := fun i hi =>
    hgrow.cell (a := ⟨gd, i, none⟩) (by rw [World.cell?_alloc_old _ _ _ (by show gd ≠ w3.heap.size; omega)]; exact hD3 i hi) (fun e => by have := hvm gd e.symm; omega)
  have hsz4 : w3.heap.size + 1 ≤ w4.heap.size := by have := hgrow.size; simpa using this
  obtain ⟨K, hK⟩ : ∃ K, dlen x' = n + K := ⟨dlen x' - n, by
    have h1 : y' ≤ x' := by rw [← HX'.out.1, ← HX'.out.2]; exact Nat.mul_le_mul_right _ HXY.out.1
    have := dlen_mono h1
    rw [HNL.out.1] at this
    omega⟩
  have hK1 : 1 ≤ K := by
    have h1 : y' ≤ x' := by rw [← HX'.out.1, ← HX'.out.2]; exact Nat.mul_le_mul_right _ HXY.out.1
    have := dlen_mono h1
    rw [HNL.out.1] at this
    omega
  have HK : Hid (dlen x' = n + K) := hK
  rw [hK] at hLr hF hLx ⊢
  have hmk := run_make_row' (P := Tryz.prog) 23 39 (.int .u32 0) 4 Tryz.underlying23 Tryz.info39 rfl .i64 .i64 K (by omega) (by omega)
  have eK : (K : Int) = (n : Int) + K + 1 - (n + 1) := by omega
  rw [eK] at hmk
  have hDv : Dv w (w4.alloc (.cells (madeCells #[.int .u32 0] K) 39)) gr w4.heap.size gd n K x' y' K := by
    refine ⟨hB4.alloc (by have := hB4.size; omega) _, ?_, ?_, fun j hj => ?_⟩
    · refine ((RowGe.of hrow hLr).congr fun i hi => ?_).of_block (Below.heap_alloc _ _ _ hrow.lt)
      rw [hF i hi, Nat.mod_eq_of_lt]
      have h1 := lt_dlen x'
      rw [HK.out, Nat.pow_add] at h1
      exact Nat.lt_of_lt_of_le h1 (Nat.mul_le_mul_right _ HNL.out.2)
    · refine (World.rowIs_made w4 _ K 39).congr fun i hi => ?_
      rw [if_neg (by omega)]; rfl
    · rw [World.cell?_alloc_old _ _ _ (by show gd ≠ w4.heap.size; omega)]; exact hD4 j hj
  have HDv : Hid (Dv w (w4.alloc (.cells (madeCells #[.int .u32 0] K) 39)) gr w4.heap.size gd n K x' y' K) := hDv
  have hne : gr < w4.heap.size := hrow.lt
  have HF : Hid (w.heap.size ≤ gr) := (by have := hB4.size; omega : w.heap.size ≤ gr)
  have HG : Hid (w.heap.size ≤ w4.heap.size) := hB4.size
  clear hown4 hgrow hOw hD3 hB13 hvm hK hF hi hz0 hz1 hz2 hrow hDv eK hB4 hD4
  go_wp2
  clear hmk
  generalize w4.heap.size = go at *
  generalize w4.alloc (.cells (madeCells #[.int .u32 0] K) 39) = w5 at *
  go_loopw [9] (fun c wr => ∃ i : Nat, i ≤ K ∧ c = .int .i64 ((i : Int) - 1) ∧ Dv w wr gr go gd n K x' y' i) (fun c _ => (intOf c + 1).toNat)
  case atStart => exact ⟨K, Nat.le_refl _, rfl, HDv.out⟩
  case round =>
    obtain ⟨i, hi, rfl, hV⟩ := hrel
    by_cases hi0 : i = 0
    · subst hi0
      have hB := hV.below
      have hq0 : x' < y' * B ^ K := by
        have h1 := lt_dlen x'
        rw [HK.out, Nat.pow_add] at h1
        exact Nat.lt_of_lt_of_le h1 (Nat.mul_le_mul_right _ HNL.out.2)
      have hqL : dlen (x' / y') ≤ K := (dlen_le _ _).2 ((Nat.div_lt_iff_lt_mul (Nat.lt_of_lt_of_le (Bpow_pos n) HNL.out.2)).2 (by rw [Nat.mul_comm]; exact hq0))
      have hrL : dlen (x' % y') ≤ n + K + 1 := by
        have h1 := dlen_mono (Nat.le_of_lt (Nat.mod_lt x' (Nat.lt_of_lt_of_le (Bpow_pos n) HNL.out.2)))
        rw [HNL.out.1] at h1
        omega
      have hAo : At wr (some ⟨go, 0, none⟩) K (x' / y') := ⟨go, 0, fun _ => rfl, fun i hi => by rw [Nat.zero_add, hV.out.cell hi, if_pos (Nat.zero_le _)]⟩
      have hAr : At wr (some ⟨gr, 0, none⟩) (n + K + 1) (x' % y') := ⟨gr, 0, fun _ => rfl, fun i hi => by rw [Nat.zero_add, hV.rest.cell hi, Nat.pow_zero, Nat.mul_one]⟩
      have HO : Hid (Own wr w.heap.size (.slice (some ⟨go, 0, none⟩) (dlen (x / y)) K) (x / y) ∧ Below w.heap.size w wr) := by
        have e : x' / y' = x / y := by rw [← HX'.out.1, ← HX'.out.2]; exact Nat.mul_div_mul_right _ _ (Nat.two_pow_pos _)
        rw [e] at hqL
        exact ⟨.inr ⟨go, K, _, rfl, HG.out, hqL, by omega, hV.out, fun i hi => by rw [if_pos (Nat.zero_le _), e]⟩, hB⟩
      have HE : Hid (dlen (x' / y') = dlen (x / y) ∧ ((dlen (x' % y') : Int) == 0) = decide (x % y = 0)) := by
        have e : x' / y' = x / y := by rw [← HX'.out.1, ← HX'.out.2]; exact Nat.mul_div_mul_right _ _ (Nat.two_pow_pos _)
        have e2 : x' % y' = x % y * 2 ^ sp := by rw [← HX'.out.1, ← HX'.out.2]; exact Nat.mul_mod_mul_right ..
        refine ⟨by rw [e], ?_⟩
        rw [e2]
        by_cases h : x % y = 0
        · rw [h]; simp [dlen_zero]
        · have h1 : x % y * 2 ^ sp ≠ 0 := Nat.ne_of_gt (Nat.mul_pos (by omega) (Nat.two_pow_pos _))
          have := fun e => h1 (dlen_eq_zero.1 e)
          simp [h]; omega
      clear hV hB hq0
      generalize hdq : dlen (x' / y') = dq at *
      generalize hdr : dlen (x' % y') = dr at *
      have k62a : Calls Tryz.prog 38 #[.slice (some ⟨go, 0, none⟩) K K] wr fun e w' => e = .returned (.slice (some ⟨go, 0, none⟩) dq K) ∧ w' = wr := by
        rw [← hdq]; exact c62 _ _ _ (x' / y') _ (by omega) (Nat.le_refl _) (by omega) hAo
      have k62b : Calls Tryz.prog 38 #[.slice (some ⟨gr, 0, none⟩) (n + K + 1) capr] wr fun e w' => e = .returned (.slice (some ⟨gr, 0, none⟩) dr capr) ∧ w' = wr := by
        rw [← hdr]; exact c62 _ _ _ (x' % y') _ (by omega) hLr (by omega) hAr
      clear hAo hAr hdq hdr
      go_wp2_with fail
      refine k62a.mono ?_
      rintro e w6 ⟨rfl, rfl⟩
      clear k62a
      go_wp2_with fail
      refine k62b.mono ?_
      rintro e w6 ⟨rfl, rfl⟩
      clear k62b
      go_wp2
      go_ret2
      refine ⟨.slice (some ⟨go, 0, none⟩) dq K, ?_, ?_⟩
      · rw [← HE.out.2]; rfl
      · rw [HE.out.1]; exact HO.out
    · obtain ⟨j, rfl⟩ : ∃ j, i = j + 1 := ⟨i - 1, by omega⟩
      rw [show ((j + 1 : Nat) : Int) - 1 = (j : Int) by omega]
      have hyl : y' < B ^ (n + 1) := by rw [← HNL.out.1]; exact lt_dlen y'
      have hyp : 0 < y' := Nat.lt_of_lt_of_le (Bpow_pos n) HNL.out.2
      obtain ⟨r1, r2, r3⟩ := div_r (x := x') (j := j) hyp hyl
      have eL : j + (n + 1) + 1 - j = n + 1 + 1 := by omega
      have k148 : Calls Tryz.prog 84 #[.slice (some ⟨gr, j, none⟩) (j + (n + 1) + 1 - j) (capr - j), .slice (some ⟨gd, 0, none⟩) (n + 1) capd] wr fun e w' =>
          e = .returned (.int .u32 (x' % (y' * B ^ (j + 1)) / B ^ j / y' : Nat)) ∧ In gr wr w' (n + K + 1) (put j (n + 1 + 1) (x' % (y' * B ^ (j + 1)) / B ^ j % y') (fun t => dg (x' % (y' * B ^ (j + 1))) t)) := by
        rw [eL]
        exact c148 (by omega) (by omega) r2 hyl (by rw [Nat.add_sub_cancel]; exact HNL.out.2) r1 (by omega) (fun i hi => by rw [Nat.zero_add]; exact hV.dig i hi) (by omega) hV.rest (fun t ht => (dg_div _ _ _).symm)
      have HV : Hid (Dv w wr gr go gd n K x' y' (j + 1)) := hV
      have g3 := hV.out.frozen j
      have g2 := hV.out.cell (i := j) (by omega)
      clear hV r1 r2 r3 eL hyl hyp
      have HQ : Hid (x' % (y' * B ^ (j + 1)) / B ^ j / y' = x' % (y' * B ^ (j + 1)) / B ^ j / y') := (rfl : _ = _)
      go_wp2_with fail
      refine k148.mono ?_
      rintro e w6 ⟨rfl, hI⟩
      have g3' : w6.frozen? ⟨go, j, none⟩ = false := (World.frozen?_of_block (w := wr) (hI.only.block go (by omega))).trans g3
      have g2' := hI.only.cell (p := ⟨go, j, none⟩) (by show go ≠ gr; omega) g2
      have HI : Hid (In gr wr w6 (n + K + 1) (put j (n + 1 + 1) (x' % (y' * B ^ (j + 1)) / B ^ j % y') (fun t => dg (x' % (y' * B ^ (j + 1))) t))) := hI
      clear k148 hI g2 g3
      generalize hqv : x' % (y' * B ^ (j + 1)) / B ^ j / y' = qv at *
      have HQV : Hid (x' % (y' * B ^ (j + 1)) / B ^ j / y' = qv) := hqv
      clear hqv HQ
      go_wp2
      exact div_step HV.out (Nat.lt_of_lt_of_le (Bpow_pos n) HNL.out.2) (by rw [← HNL.out.1]; exact lt_dlen y') HF.out HG.out (by omega) (by omega) (by omega) (by omega) HI.out (by rw [HQV.out])

theorem c100 {u v : Value} {x y : Nat} {w : World} (h1 : Is w u x) (h2 : Is w v y) (hx : dlen x ≤ 17592186044416) (hy : dlen y ≤ 17592186044416) (hy0 : y ≠ 0) :
    Calls Tryz.prog 55 #[u, v] w fun e w' => ∃ q, e = .returned (.tuple #[q, .bool (decide (x % y = 0))]) ∧ Own w' w.heap.size q (x / y) ∧ Below w.heap.size w w' := by
  by_cases h : x < y
  · refine (c100_0 h1 h2 (by omega) (by omega) h).mono ?_
    rintro e w' ⟨rfl, d, rfl⟩
    exact ⟨_, rfl, .inl ⟨rfl, Nat.div_eq_of_lt h⟩, ⟨rfl, rfl, rfl, Nat.le_refl _, fun _ _ => rfl⟩⟩
  · exact c100_1 h1 h2 hx hy hy0 (by omega)
end Go.Proofs.YtceoeiojoffnnaaGreatDoor

/- bits.Len; rootDigits. -/
namespace Go.Proofs.YtceoeiojoffnnaaGreatDoor
set_option linter.unusedVariables false
set_option linter.unusedSimpArgs false
open Go.RowKit

set_option maxRecDepth 1000000 in
set_option maxHeartbeats 1000000 in
theorem c181 (x : Nat) (hx : x < 18446744073709551616) (w : World) :
    Calls Tryz.prog 123 #[.int .u64 x] w fun e w' => e = .returned (.int .i64 (bl x : Nat)) ∧ w' = w := by
  rw [bl_bitLen]
  obtain ⟨X, hX⟩ : ∃ X : Int, X = (x : Int) := ⟨_, rfl⟩
  rw [← hX]
  have hX0 : 0 ≤ X := by omega
  have hX1 : Hid (X < 18446744073709551616) := (by omega : X < 18446744073709551616)
  have hX' : Hid (X = (x : Int)) := hX
  clear hX hx
  go_enter Tryz.func123, Tryz.ntmps123
  go_wp2
  all_goals go_ret
  all_goals (refine ⟨congrArg Ending.returned (congrArg (Value.int IntKind.i64) ?_), rfl⟩)
  all_goals have h1 := hX1.out
  all_goals have h2 := hX'.out
  all_goals clear hX1 hX'
  all_goals subst h2
  all_goals rw [len8tab_get]
  · exact len_fin x 56 72057594037927936 _ (by decide) (by decide) (by omega) (by omega) (by omega)
  · exact len_fin x 48 281474976710656 _ (by decide) (by decide) (by omega) (by omega) (by omega)
  · exact len_fin x 40 1099511627776 _ (by decide) (by decide) (by omega) (by omega) (by omega)
  · exact len_fin x 32 4294967296 _ (by decide) (by decide) (by omega) (by omega) (by omega)
  · exact len_fin x 24 16777216 _ (by decide) (by decide) (by omega) (by omega) (by omega)
  · exact len_fin x 16 65536 _ (by decide) (by decide) (by omega) (by omega) (by omega)
  · exact len_fin x 8 256 _ (by decide) (by decide) (by omega) (by omega) (by omega)
  · exact len_fin0 x (by omega)

theorem c156 (x : Nat) (hx : x < 18446744073709551616) (w : World) :
    Calls Tryz.prog 108 #[.int .u64 x] w fun e w' => e = .returned (.int .i64 (bl x : Nat)) ∧ w' = w := by
  have k := c181 x hx
  clear hx
  generalize bl x = b at *
  go_enter Tryz.func108, Tryz.ntmps108
  go_wp2_with (first | (go_at_call 123; refine (k _).mono ?_; rintro e w' ⟨rfl, rfl⟩))
  go_ret
  exact ⟨rfl, rfl⟩

theorem dlen_mul_le (a b : Nat) : dlen (a * b) ≤ dlen a + dlen b := by
  rw [dlen_le, Nat.pow_add]
  exact Nat.mul_lt_mul_of_lt_of_le (lt_dlen a) (Nat.le_of_lt (lt_dlen b)) (Bpow_pos _)

theorem c112_0 (ao : Option Addr) (cap : Nat) (w : World) : Calls Tryz.prog 86 #[.slice ao 0 cap] w fun e w' => e = .returned (.tuple #[.slice none 0 0, .bool true]) ∧ w' = w := by
  go_enter Tryz.func86, Tryz.ntmps86
  go_wp2
  go_ret2
  exact ⟨rfl, rfl⟩

set_option maxRecDepth 200000 in
theorem c112_1 {ao : Option Addr} {cap x n : Nat} {w : World} (h : Is w (.slice ao n cap) x) (hn : dlen x = n) (hx : dlen x ≤ 1000000000) (hx0 : x ≠ 0) :
    Calls Tryz.prog 86 #[.slice ao n cap] w fun e w' => ∃ q r, e = .returned (.tuple #[q, .bool (decide (r * r = x))]) ∧ Own w' w.heap.size q r ∧ r * r ≤ x ∧ x < (r + 1) * (r + 1) ∧ Below w.heap.size w w' := by
  have k74 := c74 h (by omega)
  have hb1 : 1 ≤ bl x := by have := lt_bl x; exact Nat.pos_of_ne_zero fun e => by rw [e] at this; simp at this; omega
  have hb2 : bl x ≤ 32000000000 := by have := bl_top hx0; have := bl_le32 (dg_lt x (dlen x - 1)); omega
  obtain ⟨c, hc⟩ : ∃ c, (bl x - 1) / 2 = c := ⟨_, rfl⟩
  have hn0 : ((n : Int) == 0) = false := by
    have : dlen x ≠ 0 := fun e => hx0 (dlen_eq_zero.1 e)
    simp; omega
  have hq : ((bl x : Int) - 1).tdiv 2 = (c : Int) := by rw [Int.tdiv_eq_ediv_of_nonneg (by omega)]; omega
  obtain ⟨hR0, hX4⟩ := rt_start hx0 hc
  have hcb : c ≤ 32000000000 := by omega
  have k156 := fun w => c156 c (by omega) w
  have hlc : bl c ≤ 64 := (bl_le c 64).2 (by omega)
  have HR : Hid (Rt x c 0 1 ∧ 4 ^ c ≤ x ∧ x ≠ 0 ∧ dlen x ≤ 1000000000 ∧ c < 2 ^ bl c ∧ (c ≠ 0 → 2 ^ (bl c - 1) ≤ c)) := ⟨hR0, hX4, hx0, hx, lt_bl c, le_bl⟩
  have H : Hid (Is w (.slice ao n cap) x) := h
  generalize bl x = bx at *
  generalize hbc : bl c = bc at *
  have HBC : Hid (bl c = bc) := hbc
  clear hR0 hX4 hx0 hx h hn hc hbc
  go_enter Tryz.func86, Tryz.ntmps86
  go_wp2_with fail
  refine k74.mono ?_
  rintro e w1 ⟨rfl, rfl⟩
  clear k74
  go_wp2_with fail
  refine (c57 1 _ (by omega)).mono ?_
  rintro e w2 ⟨v1, rfl, hO1, hB1⟩
  go_wp2_with fail
  refine (k156 _).mono ?_
  rintro e w3 ⟨rfl, rfl⟩
  clear k156
  have HO1 : Hid (Own w3 w1.heap.size v1 1 ∧ Below w1.heap.size w1 w3) := ⟨hO1, hB1⟩
  clear hO1 hB1
  go_wp2
  go_loopw [5, 6, 7] (fun v k i wr => ∃ (s a : Nat), v = v ∧ k = .int .i64 (c / 2 ^ s : Nat) ∧ i = .int .i64 ((s : Int) - 1) ∧ s ≤ bc ∧ Own wr w1.heap.size v a ∧ Hid (Rt x c (c / 2 ^ s) a) ∧ Below w1.heap.size w1 wr) (fun _ _ i _ => (intOf i + 1).toNat)
  case atStart =>
    have e0 : c / 2 ^ bc = 0 := Nat.div_eq_of_lt HR.out.2.2.2.2.1
    exact ⟨bc, 1, rfl, by rw [e0]; rfl, rfl, Nat.le_refl _, HO1.out.1, (by rw [e0]; exact HR.out.1 : Rt x c (c / 2 ^ bc) 1), HO1.out.2⟩
  case round =>
    obtain ⟨s, a, -, rfl, rfl, hs, hO, hR, hB⟩ := hrel
    clear HO1
    by_cases hs0 : s = 0
    · subst hs0
      have hR2 : (a - 1) * (a - 1) < x ∧ x < (a + 1) * (a + 1) := by
        have h1 := hR.out
        simp only [Nat.pow_zero, Nat.div_one, Rt, Nat.sub_self] at h1
        exact h1.2
      have ha0 : a ≠ 0 := rt_pos hR.out HR.out.2.1
      have hla : dlen a ≤ 1000000001 := by have := dlen_mono (rt_le hR.out); have := dlen_succ_le x; have := HR.out.2.2.2.1; omega
      have hlx := HR.out.2.2.2.1
      have HR2 : Hid ((a - 1) * (a - 1) < x ∧ x < (a + 1) * (a + 1)) := hR2
      have HIx : Hid (Is wr (.slice ao n cap) x) := Is.later H.out hB
      have HB : Hid (Below w1.heap.size w1 wr) := hB
      have hla2 : dlen (a * a) ≤ 2000000002 := by have := dlen_mul_le a a; omega
      clear hR hR2 hB
      generalize c / 2 ^ 0 = c0 at *
      go_wp2_with fail
      refine (c143 hO.is hO.is (by omega) (by omega)).mono ?_
      rintro e w4 ⟨v2, rfl, hO4, hB4⟩
      have hA4 := hO.later hB4
      have k129 := c129 hO4.is (HIx.out.later hB4) (by omega) (by omega)
      have HB4 : Hid (Below w1.heap.size w1 w4) := HB.out.trans (hB4.mono HB.out.size)
      have HA4 : Hid (Own w4 w1.heap.size u5 a) := hA4
      clear hO4 hB4 hA4 hO
      by_cases hgt : x < a * a
      · have ec : cmpI ((a * a : Nat) : Int) (x : Int) = 1 := by unfold cmpI; rw [if_neg (by omega), if_pos (by omega)]
        rw [ec] at k129
        go_wp2_with fail
        refine k129.mono ?_
        rintro e w5 ⟨rfl, dd, rfl⟩
        clear k129
        have h1 : Is (w4.drewN dd) u5 a := HA4.out.is
        go_wp2_with fail
        refine (c57 1 (w4.drewN dd) (by omega)).mono ?_
        rintro e w6 ⟨v6, rfl, hO6, hB6⟩
        have h6 := h1.later hB6
        go_wp2_with fail
        refine (c138 h6 hO6.is (by omega) (by omega)).mono ?_
        rintro e w7 ⟨v7, rfl, hO7, hB7⟩
        have hBB : Below w1.heap.size w1 w7 := HB4.out.trans (Below.trans (b := w4.drewN dd) ⟨rfl, rfl, rfl, Nat.le_refl _, fun _ _ => rfl⟩ ((below_step hB6 hB7).mono HB4.out.size))
        have HF : Hid (Own w7 w1.heap.size v7 (a - 1) ∧ Below w1.heap.size w1 w7) := ⟨hO7.mono (by have := HB4.out.size; have := hB6.size; simp at this; omega), hBB⟩
        have HG : Hid (x < a * a) := hgt
        clear hO6 hB6 h6 hO7 hB7 hBB h1 hgt ec
        go_wp2
        go_ret2
        have hr := HR2.out
        refine ⟨v7, a - 1, ?_, HF.out.1, by omega, ?_, HF.out.2⟩
        · rw [decide_eq_false (by omega)]; rfl
        · rw [show a - 1 + 1 = a by omega]; exact HG.out
      · have ec : ¬ 0 < cmpI ((a * a : Nat) : Int) (x : Int) := by
          unfold cmpI
          by_cases h : a * a = x
          · rw [if_neg (by omega), if_neg (by omega)]; omega
          · rw [if_pos (by omega)]; omega
        have ed : (cmpI ((a * a : Nat) : Int) (x : Int) == 0) = decide (a * a = x) := by
          unfold cmpI
          by_cases h : a * a = x
          · rw [if_neg (by omega), if_neg (by omega), decide_eq_true h]; rfl
          · rw [if_pos (by omega), decide_eq_false h]; rfl
        generalize cmpI ((a * a : Nat) : Int) (x : Int) = far at *
        have HE : Hid ((far == 0) = decide (a * a = x)) := ed
        have HG : Hid (a * a ≤ x) := (by omega : a * a ≤ x)
        clear ed hgt
        go_wp2_with fail
        refine k129.mono ?_
        rintro e w5 ⟨rfl, dd, rfl⟩
        clear k129
        go_wp2
        go_ret2
        refine ⟨u5, a, ?_, HA4.out, HG.out, HR2.out.2, HB4.out.trans ⟨rfl, rfl, rfl, Nat.le_refl _, fun _ _ => rfl⟩⟩
        rw [← HE.out]; rfl
    · obtain ⟨t, rfl⟩ : ∃ t, s = t + 1 := ⟨s - 1, by omega⟩
      have e1 : ((t + 1 : Nat) : Int) - 1 = (t : Int) := by omega
      rw [e1]
      clear e1
      have ht64 : t < 64 := by omega
      have hsh : (c : Int) / 2 ^ t = ((c / 2 ^ t : Nat) : Int) := by rw [cast_pow, Int.natCast_ediv]
      generalize hd : c / 2 ^ t = d at *
      generalize he : c / 2 ^ (t + 1) = e at *
      have hc1 : c ≠ 0 := fun e0 => by
        have h1 := HBC.out
        rw [e0] at h1
        have : bl 0 = 0 := rfl
        omega
      have ht2 : 2 ^ t ≤ c := Nat.le_trans (Nat.pow_le_pow_right (by omega) (by omega)) (HR.out.2.2.2.2.2 hc1)
      have hde : e = d / 2 := by rw [← he, ← hd, Nat.pow_succ, Nat.div_div_eq_div_mul]
      have hd1 : 1 ≤ d := by rw [← hd]; exact Nat.div_pos ht2 (Nat.two_pow_pos t)
      have hdc : d ≤ c := by rw [← hd]; exact Nat.div_le_self ..
      have hstep : Rt x c d (a * 2 ^ (d - e - 1) + x / 2 ^ (2 * c - e - d + 1) / a) := by
        have := rt_step (s := t) (by rw [he]; exact hR.out) HR.out.2.1 ht2
        rw [he, hd] at this
        exact this
      have HS : Hid (Rt x c d (a * 2 ^ (d - e - 1) + x / 2 ^ (2 * c - e - d + 1) / a) ∧ c / 2 ^ t = d) := ⟨hstep, hd⟩
      have q1 : wrap64 (wrap64 (wrap64 (2 * (c : Int) - (e : Int)) - (d : Int)) + 1) = ((2 * c - e - d + 1 : Nat) : Int) := by unfold wrap64; omega
      have q2 : wrap64 (wrap64 ((d : Int) - (e : Int)) - 1) = ((d - e - 1 : Nat) : Int) := by unfold wrap64; omega
      have ha0 : a ≠ 0 := rt_pos hR.out HR.out.2.1
      have hla : dlen a ≤ 1000000001 := by have := dlen_mono (rt_le hR.out); have := dlen_succ_le x; have := HR.out.2.2.2.1; omega
      have hlx := HR.out.2.2.2.1
      have b1 : 2 * c - e - d + 1 ≤ 64000000001 := by omega
      have b2 : d - e - 1 ≤ 32000000000 := by omega
      have hl2 : dlen (a * 2 ^ (d - e - 1)) ≤ 2000000003 := by have := shl_len (x := a) (k := d - e - 1) rfl; omega
      generalize 2 * c - e - d + 1 = k1 at *
      generalize d - e - 1 = k2 at *
      have HIx : Hid (Is wr (.slice ao n cap) x) := Is.later H.out hB
      have HIa : Hid (Own wr w1.heap.size u5 a) := hO
      have HB : Hid (Below w1.heap.size w1 wr) := hB
      clear hstep hd he hde hd1 hdc ht2 hc1 hR hO hB
      go_wp2_with fail
      rw [q1]
      refine (c120 HIx.out k1 (by omega) (by omega)).mono ?_
      rintro e w4 ⟨v2, rfl, hO4, hB4⟩
      have hA4 := HIa.out.later hB4
      have hdv : dlen (x / 2 ^ k1) ≤ 1000000000 := Nat.le_trans (dlen_mono (Nat.div_le_self ..)) hlx
      go_wp2_with fail
      refine (c100 hO4.is hA4.is (by omega) (by omega) ha0).mono ?_
      rintro e w5 ⟨v3, rfl, hO5, hB5⟩
      have hA5 := hA4.later hB5
      have hB45 := below_step hB4 hB5
      clear hO4 hA4 hB4 hB5
      go_wp2_with fail
      rw [q2]
      refine (c109 hA5.is k2 (by omega) (by omega)).mono ?_
      rintro e w6 ⟨v4, rfl, hO6, hB6⟩
      have hQ6 := hO5.later hB6
      have hB46 := below_step hB45 hB6
      have hdq : dlen (x / 2 ^ k1 / a) ≤ 1000000000 := Nat.le_trans (dlen_mono (Nat.div_le_self ..)) hdv
      clear hO5 hA5 hB45 hB6
      go_wp2_with fail
      refine (c122 hO6.is hQ6.is (by omega) (by omega)).mono ?_
      rintro e w7 ⟨v5, rfl, hO7, hB7⟩
      have hsz := hB46.size
      have HO7 : Hid (Own w7 w1.heap.size v5 (a * 2 ^ k2 + x / 2 ^ k1 / a)) := hO7.mono (by have := HB.out.size; omega)
      have HB7 : Hid (Below w1.heap.size w1 w7) := HB.out.trans ((below_step hB46 hB7).mono HB.out.size)
      clear hO6 hQ6 hB46 hB7 hO7
      go_wp2
      exact ⟨⟨t, _, trivial, by rw [HS.out.2], rfl, by omega, HO7.out, (by rw [HS.out.2]; exact HS.out.1 : Rt x c (c / 2 ^ t) _), HB7.out⟩, by simp [intOf]⟩

theorem c112 {v : Value} {x : Nat} {w : World} (h : Is w v x) (hx : dlen x ≤ 1000000000) :
    Calls Tryz.prog 86 #[v] w fun e w' => ∃ q r, e = .returned (.tuple #[q, .bool (decide (r * r = x))]) ∧ Own w' w.heap.size q r ∧ r * r ≤ x ∧ x < (r + 1) * (r + 1) ∧ Below w.heap.size w w' := by
  have h' := h
  obtain ⟨ao, cap, rfl, -, -, -⟩ := h'
  by_cases h0 : x = 0
  · subst h0
    rw [dlen_zero]
    refine (c112_0 ao cap w).mono ?_
    rintro e w' ⟨rfl, rfl⟩
    exact ⟨_, 0, rfl, .inl ⟨rfl, rfl⟩, by omega, by omega, Below.refl _ _⟩
  · exact c112_1 h rfl hx h0
end Go.Proofs.YtceoeiojoffnnaaGreatDoor
