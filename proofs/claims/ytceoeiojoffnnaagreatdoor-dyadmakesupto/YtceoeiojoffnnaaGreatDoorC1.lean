/- Own work: contracts of the program's functions, part C1. -/
import Derived.Test.YtceoeiojoffnnaaGreatDoorA5
import Derived.Test.YtceoeiojoffnnaaGreatDoorA12

/- normal over a slice of any capacity. -/
namespace Go.Proofs.YtceoeiojoffnnaaGreatDoor
set_option linter.unusedVariables false
set_option linter.unusedSimpArgs false
open Go.RowKit

theorem c120_v (b o cap m whole part x k : Nat) (w : World) (hm0 : 0 < m) (hm : m ≤ 35184372088832) (hk : k ≤ 1099511627776) (hcap : whole + m ≤ cap) (hcap2 : cap ≤ 9223372036854775807) (hwh : k / 32 = whole) (hpa : k % 32 = part)
    (hn : dlen x = whole + m) (hcell : ∀ i, i < whole + m → w.cell? ⟨b, o + i, none⟩ = some (.int .u32 (dg x i : Nat))) :
    Calls Tryz.prog 63 #[.slice (some ⟨b, o, none⟩) (whole + m : Nat) cap, .int .i64 k] w fun e w' => ∃ v, e = .returned v ∧ Own w' w.heap.size v (x / 2 ^ k) ∧ Below w.heap.size w w' := by
  have hq : (k : Int).tdiv 32 = ((k / 32 : Nat) : Int) := by rw [Int.tdiv_eq_ediv_of_nonneg (by omega)]; rfl
  have hr : (k : Int).tmod 32 = ((k % 32 : Nat) : Int) := by rw [Int.tmod_eq_emod_of_nonneg (by omega)]; rfl
  have hwb : whole ≤ 1099511627776 := by omega
  have hpb : part < 32 := by omega
  rw [hwh] at hq
  rw [hpa] at hr
  have hmk := run_make_row' (P := Tryz.prog) 23 39 (.int .u32 0) 4 Tryz.underlying23 Tryz.info39 rfl .i64 .i64 m (by omega) (by omega)
  have HN : Hid (dlen x = whole + m) := hn
  have HW : Hid (k / 32 = whole) := hwh
  have HP : Hid (k % 32 = part) := hpa
  clear hn hwh hpa
  have hmi : (whole : Int) < ((whole + m : Nat) : Int) := by omega
  have hmi2 : ¬ whole = cap := by omega
  go_enter Tryz.func63, Tryz.ntmps63
  go_wp2
  clear hmk
  go_loopw [27] (fun i wr => ∃ j : Nat, j ≤ m ∧ i = .int .i64 j ∧ Mk w wr m (fun t => if t < j then dg (x / 2 ^ k) t else 0)) (fun i _ => m - (intOf i).toNat)
  case atStart => exact ⟨0, Nat.zero_le _, rfl, (Mk.start w _).congr fun i hi => by rw [if_neg (by omega)]⟩
  case round =>
    obtain ⟨j, hj, rfl, hM⟩ := hrel
    by_cases hjn : j + 1 < m
    · have g1 := hM.old (hcell (whole + j) (by omega))
      have g4 := hM.old (hcell (whole + (j + 1)) (by omega))
      rw [← Nat.add_assoc] at g1 g4
      have g2 := hM.cell (i := j) (by omega)
      have g3 := hM.frozen j
      rw [if_neg (by omega)] at g2
      have hji : (j : Int) + 1 < (m : Int) := by omega
      have HM : Hid (Mk w wr m (fun t => if t < j then dg (x / 2 ^ k) t else 0)) := hM
      generalize hd : dg x (whole + j) = d at *
      generalize hd1 : dg x (whole + (j + 1)) = d1 at *
      have HD : Hid (dg x (whole + j) = d) := hd
      have HD1 : Hid (dg x (whole + (j + 1)) = d1) := hd1
      have HL : Hid (d < B ∧ d1 < B) := ⟨hd ▸ dg_lt _ _, hd1 ▸ dg_lt _ _⟩
      clear hd hd1 hM hcell
      go_wp2
      exact shr_round HM.out (by rw [shr_word2 HL.out.1 HL.out.2, shr_digit HW.out HP.out, HD.out, HD1.out]) (by omega)
    · by_cases hjm : j < m
      · have g1 := hM.old (hcell (whole + j) (by omega))
        rw [← Nat.add_assoc] at g1
        have g2 := hM.cell (i := j) (by omega)
        have g3 := hM.frozen j
        rw [if_neg (by omega)] at g2
        have hji : ¬ (j : Int) + 1 < (m : Int) := by omega
        have hji2 : (j : Int) < (m : Int) := by omega
        have HM : Hid (Mk w wr m (fun t => if t < j then dg (x / 2 ^ k) t else 0)) := hM
        generalize hd : dg x (whole + j) = d at *
        have HD : Hid (dg x (whole + j) = d) := hd
        have HL : Hid (d < B) := hd ▸ dg_lt _ _
        have HZ : Hid (dg x (whole + (j + 1)) = 0) := dg_past (by rw [HN.out]; omega)
        clear hd hM hcell
        go_wp2
        exact shr_round HM.out (by rw [shr_word1 HL.out, shr_digit HW.out HP.out, HD.out, HZ.out, Nat.zero_mul, Nat.add_zero]) (by omega)
      · obtain rfl : j = m := by omega
        have hE : Mk w wr j (dg (x / 2 ^ k)) := hM.congr fun i hi => if_pos hi
        have hA := hE.at
        have hL := shr_len (k := k) (m := j) (by rw [HW.out]; exact HN.out)
        have HC : Hid (Mk w wr j (dg (x / 2 ^ k))) := hE
        clear hM hcell hE
        go_wp2_with (first | (go_at_call 38; refine (c62 _ _ _ (x / 2 ^ k) _ hL (Nat.le_refl _) (by omega) hA).mono ?_; rintro e w' ⟨rfl, rfl⟩))
        go_ret
        exact ⟨_, rfl, HC.out.own hL (by omega), HC.out.below⟩

theorem tz_in' {x : Nat} (hx0 : x ≠ 0) : tz x / 32 < dlen x := by
  have h1 := (tz_spec _ x (Nat.le_refl _) hx0)
  have h2 : 2 ^ tz x ≤ x := by
    have h3 : 1 ≤ x / 2 ^ tz x := Nat.pos_of_ne_zero fun e0 => by have := h1.2; rw [e0] at this; simp at this
    have := Nat.mul_le_mul_left (2 ^ tz x) h3
    omega
  have h4 := lt_bl x
  have h5 : tz x < bl x := Nat.lt_of_not_le fun h6 => by
    have := Nat.pow_le_pow_right (n := 2) (by omega) h6
    omega
  have hd0 : dlen x ≠ 0 := fun e => hx0 (dlen_eq_zero.1 e)
  have := bl_top hx0
  have := bl_le32 (dg_lt x (dlen x - 1))
  omega

set_option maxRecDepth 200000 in
theorem c56_v (neg : Bool) (b o n cap x : Nat) (e : Int) (w : World) (hcell : ∀ i, i < n → w.cell? ⟨b, o + i, none⟩ = some (.int .u32 (dg x i : Nat))) (hc1 : n ≤ cap) (hc2 : cap ≤ 9223372036854775807) (hn : dlen x = n) (hx : dlen x ≤ 1000000000) (hx0 : x ≠ 0) (hT : Tab32 w) (he : -4611686018427387904 ≤ e ∧ e ≤ 4611686018427387904) :
    Calls Tryz.prog 31 #[.bool neg, .slice (some ⟨b, o, none⟩) n cap, .int .i64 e] w fun r w' => ∃ v, r = .returned (.agg #[.bool neg, v, .int .i64 (e + tz x)]) ∧ Own w' w.heap.size v (x / 2 ^ tz x) ∧ Below w.heap.size w w' := by
  obtain ⟨w0, hw0⟩ : ∃ w0, w0 = w.alloc (.cells #[.bool false, .slice none 0 0, .int .i64 0] 25) := ⟨_, rfl⟩
  have hB0 : Below w.heap.size w w0 := by rw [hw0]; exact (Below.refl _ _).alloc (Nat.le_refl _) _
  have hcell0 : ∀ i, i < n → w0.cell? ⟨b, o + i, none⟩ = some (.int .u32 (dg x i : Nat)) := fun i hi => (hB0.cell (World.block_lt_of_cell? _ _ (hcell i hi))).trans (hcell i hi)
  have hT0 := hT.later hB0
  have k62 := c62 (some ⟨b, o, none⟩) n cap x w0 (by omega) hc1 (by omega) ⟨b, o, fun _ => rfl, hcell0⟩
  rw [hn] at k62
  have k119 := c119_1 b o n cap x w0 (by omega) hn hx0 hT0 hcell0
  have htz := tz_in' hx0
  have htb : tz x ≤ 40000000000 := by omega
  have k120 : Calls Tryz.prog 63 #[.slice (some ⟨b, o, none⟩) n cap, .int .i64 (tz x : Nat)] w0 fun e w' => ∃ v, e = .returned v ∧ Own w' w0.heap.size v (x / 2 ^ tz x) ∧ Below w0.heap.size w0 w' := by
    obtain ⟨m, hm⟩ : ∃ m, dlen x = tz x / 32 + m := ⟨dlen x - tz x / 32, by omega⟩
    rw [← hn, hm]
    exact c120_v b o cap m _ _ x (tz x) w0 (by omega) (by omega) (by omega) (by omega) hc2 rfl rfl hm (fun i hi => hcell0 i (by omega))
  have hn0 : ((n : Int) == 0) = false := by
    have : dlen x ≠ 0 := fun e => hx0 (dlen_eq_zero.1 e)
    simp; omega
  have HH : Hid (w0.heap[w.heap.size]? = some (.cells #[.bool false, .slice none 0 0, .int .i64 0] 25 (0, 0))) := (by rw [hw0]; exact heap_alloc_new _ _ : w0.heap[w.heap.size]? = some (.cells #[.bool false, .slice none 0 0, .int .i64 0] 25 (0, 0)))
  have HB0 : Hid (Below w.heap.size w w0) := hB0
  have HX : Hid (w0.heap.size = w.heap.size + 1) := (by rw [hw0]; simp : w0.heap.size = w.heap.size + 1)
  generalize htzx : tz x = t at *
  have HTZ : Hid (tz x = t) := htzx
  obtain ⟨he1, he2⟩ := he
  clear hcell hcell0 hT hT0 hn hx0 hx hB0 htzx htz
  go_enter Tryz.func31, Tryz.ntmps31
  go_wp2_with fail
  rw [← hw0]
  clear hw0
  refine k62.mono ?_
  rintro e w1 ⟨rfl, rfl⟩
  clear k62
  go_wp2_with fail
  refine k119.mono ?_
  rintro e w2 ⟨rfl, rfl⟩
  clear k119
  go_wp2_with fail
  refine k120.mono ?_
  rintro e w3 ⟨v, rfl, hO, hB⟩
  obtain ⟨va, vc, rfl, -, -, -⟩ := hO.is
  generalize dlen (x / 2 ^ t) = vl at *
  have HH3 : Hid (w3.heap[w.heap.size]? = some (.cells #[.bool false, .slice none 0 0, .int .i64 0] 25 (0, 0))) := box_later HH.out hB (by have := HX.out; omega)
  obtain ⟨⟨a1, a2, a3⟩, a4, a5, a6⟩ := box_cells HH3.out
  have HO : Hid (Own w3 w2.heap.size (.slice va vl vc) (x / 2 ^ t)) := hO
  have HB : Hid (Below w2.heap.size w2 w3) := hB
  clear k120 hO hB
  go_wp2
  refine bodyPost_ret (results_cell_row rfl _ _ w.heap.size 25 #[.bool neg, .slice va vl vc, .int .i64 (e + t)] (0, 0) _ rfl (store3 _ _ _ HH3.out) Tryz.underlying25 rfl Tryz.info25) rfl ?_
  have hx := HX.out
  exact ⟨_, rfl, (own_store3 HO.out (by omega) _ _ _).mono (by omega), below_store3 (HB0.out.trans (HB.out.mono (by omega))) (Nat.le_refl _) _ _ _⟩

end Go.Proofs.YtceoeiojoffnnaaGreatDoor

/- Make. -/
namespace Go.Proofs.YtceoeiojoffnnaaGreatDoor
set_option linter.unusedVariables false
set_option linter.unusedSimpArgs false
open Go.RowKit

/-- what Make answers -/
def Mk25 (w w' : World) (neg : Bool) (x : Nat) (e : Int) (r : Ending) : Prop :=
  (okR neg x e = true ∧ ∃ A, r = .returned (.tuple #[A, .int .i64 0]) ∧ Nrm w' w.heap.size A neg x e) ∨ (okR neg x e = false ∧ r = .returned (.tuple #[.agg #[.bool false, .slice none 0 0, .int .i64 0], .int .i64 2]))

set_option maxRecDepth 200000 in
theorem c15_0 (neg : Bool) (ao : Option Addr) (n cap : Nat) (e : Int) (w : World) (h : At w ao n 0) (hn : n ≤ cap) (hc : n ≤ 70368744177664) :
    Calls Tryz.prog 15 #[.bool neg, .slice ao n cap, .int .i64 e] w fun r w' => Mk25 w w' neg 0 e r ∧ Below w.heap.size w w' := by
  have HB : Hid (Below w.heap.size w (w.alloc (.cells #[.bool false, .slice none 0 0, .int .i64 0] 25))) := (Below.refl _ _).alloc (Nat.le_refl _) _
  have k := c62 ao n cap 0 (w.alloc (.cells #[.bool false, .slice none 0 0, .int .i64 0] 25)) (by rw [dlen_zero]; omega) hn hc (h.later HB.out)
  rw [dlen_zero] at k
  clear h
  go_enter Tryz.func15, Tryz.ntmps15
  go_wp2_with fail
  refine k.mono ?_
  rintro r w1 ⟨rfl, rfl⟩
  go_wp2
  refine bodyPost_ret (results_cell_tmp_row rfl _ _ w.heap.size 25 #[.bool false, .slice none 0 0, .int .i64 0] (0, 0) _ rfl (heap_alloc_new _ _) Tryz.underlying25 rfl Tryz.info25) rfl ?_
  refine ⟨?_, HB.out⟩
  unfold Mk25
  exact .inl ⟨by unfold okR; rw [if_pos rfl], _, rfl, .inl ⟨rfl, rfl⟩⟩

theorem okR_bad {neg : Bool} {x : Nat} {e : Int} (hx : x ≠ 0) (h : e > 65536 ∨ e < -65536 - 32 * (dlen x : Int)) : okR neg x e = false := by
  have ht := tz_in' hx
  unfold okR okN
  rw [if_neg hx]
  have hy : dlen (x / 2 ^ tz x) ≠ 0 := by
    intro e0
    have := (tz_spec _ x (Nat.le_refl _) hx).2
    rw [dlen_eq_zero.1 e0] at this
    simp at this
  rw [if_neg hy]
  simp only [Bool.and_eq_false_iff, decide_eq_false_iff_not]
  rcases h with h | h
  · exact .inr (by omega)
  · exact .inl (.inr (by omega))

set_option maxHeartbeats 2000000 in
set_option maxRecDepth 200000 in
theorem c15_1 (neg : Bool) (b o n cap x : Nat) (e : Int) (w : World) (hcell : ∀ i, i < n → w.cell? ⟨b, o + i, none⟩ = some (.int .u32 (dg x i : Nat))) (hxn : dlen x ≤ n) (hn : n ≤ cap) (hc2 : cap ≤ 9223372036854775807) (hc : n ≤ 1000000000) (hx0 : x ≠ 0) (he : -9223372036854775808 ≤ e ∧ e ≤ 9223372036854775807) (hT : Tab32 w) :
    Calls Tryz.prog 15 #[.bool neg, .slice (some ⟨b, o, none⟩) n cap, .int .i64 e] w fun r w' => Mk25 w w' neg x e r ∧ Below w.heap.size w w' := by
  obtain ⟨W, hW⟩ : ∃ W, W = w.alloc (.cells #[.bool false, .slice none 0 0, .int .i64 0] 25) := ⟨_, rfl⟩
  have hBW : Below w.heap.size w W := by rw [hW]; exact (Below.refl _ _).alloc (Nat.le_refl _) _
  have hcW : ∀ i, i < n → W.cell? ⟨b, o + i, none⟩ = some (.int .u32 (dg x i : Nat)) := fun i hi => (hBW.cell (World.block_lt_of_cell? _ _ (hcell i hi))).trans (hcell i hi)
  have k38 := c62 (some ⟨b, o, none⟩) n cap x W hxn hn (by omega) ⟨b, o, fun _ => rfl, hcW⟩
  have HX : Hid (Below w.heap.size w W ∧ W.heap.size = w.heap.size + 1 ∧ W.heap[w.heap.size]? = some (.cells #[.bool false, .slice none 0 0, .int .i64 0] 25 (0, 0))) := ⟨hBW, by rw [hW]; simp, by rw [hW]; exact heap_alloc_new _ _⟩
  obtain ⟨he1, he2⟩ := he
  have hl0 : dlen x ≠ 0 := fun e => hx0 (dlen_eq_zero.1 e)
  have hlb : dlen x ≤ 1000000000 := by omega
  have hn0 : ((dlen x : Int) == 0) = false := by simp; omega
  by_cases hbad : e > 65536 ∨ e < -65536 - 32 * (dlen x : Int)
  · have HO : Hid (okR neg x e = false) := okR_bad hx0 hbad
    clear hcell hcW hBW hT hx0
    generalize dlen x = L at *
    obtain ⟨⟨a0, a1, a2⟩, a3, a4, a5⟩ := box_cells HX.out.2.2
    rcases hbad with hbad | hbad
    · go_enter Tryz.func15, Tryz.ntmps15
      go_wp2_with fail
      rw [← hW]
      clear hW
      refine k38.mono ?_
      rintro r w1 ⟨rfl, hw1⟩
      replace hw1 := hw1.symm
      subst hw1
      clear k38
      go_wp2_with fail
      refine bodyPost_ret (results_cell_tmp_row rfl _ _ w.heap.size 25 #[.bool false, .slice none 0 0, .int .i64 0] (0, 0) _ rfl (store3 _ _ _ HX.out.2.2) Tryz.underlying25 rfl Tryz.info25) rfl ?_
      refine ⟨?_, below_store3 HX.out.1 (Nat.le_refl _) _ _ _⟩
      unfold Mk25
      exact .inr ⟨HO.out, rfl⟩
    · have hnb : ¬ e > 65536 := by omega
      go_enter Tryz.func15, Tryz.ntmps15
      go_wp2_with fail
      rw [← hW]
      clear hW
      refine k38.mono ?_
      rintro r w1 ⟨rfl, hw1⟩
      replace hw1 := hw1.symm
      subst hw1
      clear k38
      go_wp2_with fail
      refine bodyPost_ret (results_cell_tmp_row rfl _ _ w.heap.size 25 #[.bool false, .slice none 0 0, .int .i64 0] (0, 0) _ rfl (store3 _ _ _ HX.out.2.2) Tryz.underlying25 rfl Tryz.info25) rfl ?_
      refine ⟨?_, below_store3 HX.out.1 (Nat.le_refl _) _ _ _⟩
      unfold Mk25
      exact .inr ⟨HO.out, rfl⟩
  · have h1 : ¬ e > 65536 := fun h => hbad (.inl h)
    have h2 : ¬ e < -65536 - 32 * (dlen x : Int) := fun h => hbad (.inr h)
    have k31 := c56_v neg b o (dlen x) cap x e W (fun i hi => hcW i (by omega)) (by omega) hc2 rfl (by omega) hx0 (hT.later hBW) (by omega)
    have HN0 : Hid (x ≠ 0 ∧ dlen x ≤ 35184372088832) := ⟨hx0, by omega⟩
    clear hcell hcW hBW hT hx0 hbad
    generalize hLx : dlen x = L at *
    have HLx : Hid (dlen x = L) := hLx
    clear hLx
    go_enter Tryz.func15, Tryz.ntmps15
    go_wp2_with fail
    rw [← hW]
    clear hW
    refine k38.mono ?_
    rintro r w1 ⟨rfl, hw1⟩
    replace hw1 := hw1.symm
    subst hw1
    clear k38
    go_wp2_with fail
    refine k31.mono ?_
    rintro r w2 ⟨v, rfl, ho, hb2⟩
    obtain ⟨va, vk, rfl, -, -, -⟩ := ho.is
    have HN : Hid (Nrm w2 W.heap.size (.agg #[.bool neg, .slice va (dlen (x / 2 ^ tz x)) vk, .int .i64 (e + tz x)]) neg x e) := (.inr ⟨HN0.out.1, _, rfl, ho⟩ : Nrm w2 W.heap.size (.agg #[.bool neg, .slice va (dlen (x / 2 ^ tz x)) vk, .int .i64 (e + tz x)]) neg x e)
    have HB2 : Hid (Below W.heap.size W w2) := hb2
    have k39 := c63n HN.out (by rw [HLx.out]; exact HN0.out.2)
    clear k31 ho hb2
    go_wp2_with fail
    refine k39.mono ?_
    rintro r w3 ⟨rfl, hb3⟩
    have HB3 : Hid (Below W.heap.size W w3) := HB2.out.trans (hb3.mono HB2.out.size)
    have HN3 : Hid (Nrm w3 W.heap.size (.agg #[.bool neg, .slice va (dlen (x / 2 ^ tz x)) vk, .int .i64 (e + tz x)]) neg x e) := HN.out.later hb3
    have HC3 : Hid (w3.heap[w.heap.size]? = some (.cells #[.bool false, .slice none 0 0, .int .i64 0] 25 (0, 0))) := box_later HX.out.2.2 HB3.out (by have := HX.out.2.1; omega)
    obtain ⟨⟨x1, x2, x3⟩, x4, x5, x6⟩ := box_cells HC3.out
    clear k39 hb3
    cases hok : okR neg x e
    · have HOK : Hid (okR neg x e = false) := hok
      have hNil : Nil = .agg #[.bool false, .slice none 0 0, .int .i64 0] := rfl
      go_wp2
      refine bodyPost_ret (results_cell_tmp_row rfl _ _ w.heap.size 25 #[.bool false, .slice none 0 0, .int .i64 0] (0, 0) _ rfl (store3 _ _ _ HC3.out) Tryz.underlying25 rfl Tryz.info25) rfl ?_
      refine ⟨?_, below_store3 (HX.out.1.trans (HB3.out.mono HX.out.1.size)) (Nat.le_refl _) _ _ _⟩
      unfold Mk25
      exact .inr ⟨HOK.out, rfl⟩
    · have HOK : Hid (okR neg x e = true) := hok
      go_wp2
      refine bodyPost_ret (results_cell_tmp_row rfl _ _ w.heap.size 25 #[.bool neg, .slice va (dlen (x / 2 ^ tz x)) vk, .int .i64 (e + tz x)] (0, 0) _ rfl (store3 _ _ _ HC3.out) Tryz.underlying25 rfl Tryz.info25) rfl ?_
      refine ⟨?_, below_store3 (HX.out.1.trans (HB3.out.mono HX.out.1.size)) (Nat.le_refl _) _ _ _⟩
      unfold Mk25
      have hn3 := HN3.out
      exact .inl ⟨HOK.out, _, rfl, (hn3.store (by have := HX.out.2.1; omega) _ _ _).mono (by have := HX.out.2.1; omega)⟩
end Go.Proofs.YtceoeiojoffnnaaGreatDoor
