/- Own work: contracts of the program's functions, part 9: V1 V2 E2 V3 E3 V4 RC4 W42 W44 RC5 RD1 SA6 L5 G3 W43 L7 L9 RT2 DV1 RV1 DV2 DV3. -/
import Derived.Test.YtcoclopllbfjcaaGreatDoorA3
import Derived.Test.YtcoclopllbfjcaaGreatDoorA5
import Derived.Test.YtcoclopllbfjcaaGreatDoorA6
import Derived.Test.YtcoclopllbfjcaaGreatDoorA8
import Derived.Laws.AppendOwnNone
import Derived.Test.YtcoclopllbfjcaaGreatDoorA4
import Derived.Test.YtcoclopllbfjcaaGreatDoorA7
import Derived.Deep.CutRange
import Derived.Test.YtcoclopllbfjcaaGreatDoorA2

set_option maxHeartbeats 16000000
namespace Go.Proofs.YtcoclopllbfjcaaGreatDoor
set_option linter.unusedVariables false
set_option linter.unusedSimpArgs false
open Go.RowKit
theorem c120_v (b o cap m whole part x k : Nat) (w : World) (hm0 : 0 < m) (hm : m ≤ 35184372088832) (hk : k ≤ 1099511627776) (hcap : whole + m ≤ cap) (hcap2 : cap ≤ 9223372036854775807) (hwh : k / 32 = whole) (hpa : k % 32 = part)
    (hn : dlen x = whole + m) (hcell : ∀ i, i < whole + m → w.cell? ⟨b, o + i, none⟩ = some (.int .u32 (dg x i : Nat))) :
    Calls Tryz.prog 155 #[.slice (some ⟨b, o, none⟩) (whole + m : Nat) cap, .int .i64 k] w fun e w' => ∃ v, e = .returned v ∧ Own w' w.heap.size v (x / 2 ^ k) ∧ Below w.heap.size w w' := by
  have hq : (k : Int).tdiv 32 = ((k / 32 : Nat) : Int) := by rw [Int.tdiv_eq_ediv_of_nonneg (by omega)]; rfl
  have hr : (k : Int).tmod 32 = ((k % 32 : Nat) : Int) := by rw [Int.tmod_eq_emod_of_nonneg (by omega)]; rfl
  have hwb : whole ≤ 1099511627776 := by omega
  have hpb : part < 32 := by omega
  rw [hwh] at hq
  rw [hpa] at hr
  have hmk := run_make_row' (P := Tryz.prog) 43 85 (.int .u32 0) 4 Tryz.underlying43 Tryz.info85 rfl .i64 .i64 m (by omega) (by omega)
  have HN : Hid (dlen x = whole + m) := hn
  have HW : Hid (k / 32 = whole) := hwh
  have HP : Hid (k % 32 = part) := hpa
  clear hn hwh hpa
  have hmi : (whole : Int) < ((whole + m : Nat) : Int) := by omega
  have hmi2 : ¬ whole = cap := by omega
  go_enter Tryz.func155, Tryz.ntmps155
  go_wp2
  clear hmk
  go_loopw [27] (fun i wr => ∃ j : Nat, j ≤ m ∧ i = .int .i64 j ∧ Mk w wr m (fun t => if t < j then dg (x / 2 ^ k) t else 0)) (fun i _ => m - (intOf i).toNat)
  case atStart => exact ⟨0, Nat.zero_le _, rfl, (Mk.start w _).congr fun i hi => by rw [if_neg (by omega)]⟩
  case round =>
    obtain ⟨j, hj, rfl, hM⟩ := hrel
    by_cases hjn : j + 1 < m
    · have g1 := hM.old (hcell (whole + j) (by omega))
      have g4 := hM.old (hcell (whole + (j + 1)) (by omega))
      rw [← Nat.add_assoc] at g1 g4
      have g2 := hM.cell (i := j) (by omega)
      have g3 := hM.frozen j
      rw [if_neg (by omega)] at g2
      have hji : (j : Int) + 1 < (m : Int) := by omega
      have HM : Hid (Mk w wr m (fun t => if t < j then dg (x / 2 ^ k) t else 0)) := hM
      generalize hd : dg x (whole + j) = d at *
      generalize hd1 : dg x (whole + (j + 1)) = d1 at *
      have HD : Hid (dg x (whole + j) = d) := hd
      have HD1 : Hid (dg x (whole + (j + 1)) = d1) := hd1
      have HL : Hid (d < B ∧ d1 < B) := ⟨hd ▸ dg_lt _ _, hd1 ▸ dg_lt _ _⟩
      clear hd hd1 hM hcell
      go_wp2
      exact shr_round HM.out (by rw [shr_word2 HL.out.1 HL.out.2, shr_digit HW.out HP.out, HD.out, HD1.out]) (by omega)
    · by_cases hjm : j < m
      · have g1 := hM.old (hcell (whole + j) (by omega))
        rw [← Nat.add_assoc] at g1
        have g2 := hM.cell (i := j) (by omega)
        have g3 := hM.frozen j
        rw [if_neg (by omega)] at g2
        have hji : ¬ (j : Int) + 1 < (m : Int) := by omega
        have hji2 : (j : Int) < (m : Int) := by omega
        have HM : Hid (Mk w wr m (fun t => if t < j then dg (x / 2 ^ k) t else 0)) := hM
        generalize hd : dg x (whole + j) = d at *
        have HD : Hid (dg x (whole + j) = d) := hd
        have HL : Hid (d < B) := hd ▸ dg_lt _ _
        have HZ : Hid (dg x (whole + (j + 1)) = 0) := dg_past (by rw [HN.out]; omega)
        clear hd hM hcell
        go_wp2
        exact shr_round HM.out (by rw [shr_word1 HL.out, shr_digit HW.out HP.out, HD.out, HZ.out, Nat.zero_mul, Nat.add_zero]) (by omega)
      · obtain rfl : j = m := by omega
        have hE : Mk w wr j (dg (x / 2 ^ k)) := hM.congr fun i hi => if_pos hi
        have hA := hE.at
        have hL := shr_len (k := k) (m := j) (by rw [HW.out]; exact HN.out)
        have HC : Hid (Mk w wr j (dg (x / 2 ^ k))) := hE
        clear hM hcell hE
        go_wp2_with (first | (go_at_call 132; refine (c62 _ _ _ (x / 2 ^ k) _ hL (Nat.le_refl _) (by omega) hA).mono ?_; rintro e w' ⟨rfl, rfl⟩))
        go_ret
        exact ⟨_, rfl, HC.out.own hL (by omega), HC.out.below⟩
theorem tz_in' {x : Nat} (hx0 : x ≠ 0) : tz x / 32 < dlen x := by
  have h1 := (tz_spec _ x (Nat.le_refl _) hx0)
  have h2 : 2 ^ tz x ≤ x := by
    have h3 : 1 ≤ x / 2 ^ tz x := Nat.pos_of_ne_zero fun e0 => by have := h1.2; rw [e0] at this; simp at this
    have := Nat.mul_le_mul_left (2 ^ tz x) h3
    omega
  have h4 := lt_bl x
  have h5 : tz x < bl x := Nat.lt_of_not_le fun h6 => by
    have := Nat.pow_le_pow_right (n := 2) (by omega) h6
    omega
  have hd0 : dlen x ≠ 0 := fun e => hx0 (dlen_eq_zero.1 e)
  have := bl_top hx0
  have := bl_le32 (dg_lt x (dlen x - 1))
  omega
set_option maxRecDepth 200000 in
theorem c56_v (neg : Bool) (b o n cap x : Nat) (e : Int) (w : World) (hcell : ∀ i, i < n → w.cell? ⟨b, o + i, none⟩ = some (.int .u32 (dg x i : Nat))) (hc1 : n ≤ cap) (hc2 : cap ≤ 9223372036854775807) (hn : dlen x = n) (hx : dlen x ≤ 1000000000) (hx0 : x ≠ 0) (hT : Tab32 w) (he : -4611686018427387904 ≤ e ∧ e ≤ 4611686018427387904) :
    Calls Tryz.prog 134 #[.bool neg, .slice (some ⟨b, o, none⟩) n cap, .int .i64 e] w fun r w' => ∃ v, r = .returned (.agg #[.bool neg, v, .int .i64 (e + tz x)]) ∧ Own w' w.heap.size v (x / 2 ^ tz x) ∧ Below w.heap.size w w' := by
  obtain ⟨w0, hw0⟩ : ∃ w0, w0 = w.alloc (.cells #[.bool false, .slice none 0 0, .int .i64 0] 96) := ⟨_, rfl⟩
  have hB0 : Below w.heap.size w w0 := by rw [hw0]; exact (Below.refl _ _).alloc (Nat.le_refl _) _
  have hcell0 : ∀ i, i < n → w0.cell? ⟨b, o + i, none⟩ = some (.int .u32 (dg x i : Nat)) := fun i hi => (hB0.cell (World.block_lt_of_cell? _ _ (hcell i hi))).trans (hcell i hi)
  have hT0 := hT.later hB0
  have k62 := c62 (some ⟨b, o, none⟩) n cap x w0 (by omega) hc1 (by omega) ⟨b, o, fun _ => rfl, hcell0⟩
  rw [hn] at k62
  have k119 := c119_1 b o n cap x w0 (by omega) hn hx0 hT0 hcell0
  have htz := tz_in' hx0
  have htb : tz x ≤ 40000000000 := by omega
  have k120 : Calls Tryz.prog 155 #[.slice (some ⟨b, o, none⟩) n cap, .int .i64 (tz x : Nat)] w0 fun e w' => ∃ v, e = .returned v ∧ Own w' w0.heap.size v (x / 2 ^ tz x) ∧ Below w0.heap.size w0 w' := by
    obtain ⟨m, hm⟩ : ∃ m, dlen x = tz x / 32 + m := ⟨dlen x - tz x / 32, by omega⟩
    rw [← hn, hm]
    exact c120_v b o cap m _ _ x (tz x) w0 (by omega) (by omega) (by omega) (by omega) hc2 rfl rfl hm (fun i hi => hcell0 i (by omega))
  have hn0 : ((n : Int) == 0) = false := by
    have : dlen x ≠ 0 := fun e => hx0 (dlen_eq_zero.1 e)
    simp; omega
  have HH : Hid (w0.heap[w.heap.size]? = some (.cells #[.bool false, .slice none 0 0, .int .i64 0] 96 (0, 0))) := (by rw [hw0]; exact heap_alloc_new _ _ : w0.heap[w.heap.size]? = some (.cells #[.bool false, .slice none 0 0, .int .i64 0] 96 (0, 0)))
  have HB0 : Hid (Below w.heap.size w w0) := hB0
  have HX : Hid (w0.heap.size = w.heap.size + 1) := (by rw [hw0]; simp : w0.heap.size = w.heap.size + 1)
  generalize htzx : tz x = t at *
  have HTZ : Hid (tz x = t) := htzx
  obtain ⟨he1, he2⟩ := he
  clear hcell hcell0 hT hT0 hn hx0 hx hB0 htzx htz
  go_enter Tryz.func134, Tryz.ntmps134
  go_wp2_with fail
  rw [← hw0]
  clear hw0
  refine k62.mono ?_
  rintro e w1 ⟨rfl, rfl⟩
  clear k62
  go_wp2_with fail
  refine k119.mono ?_
  rintro e w2 ⟨rfl, rfl⟩
  clear k119
  go_wp2_with fail
  refine k120.mono ?_
  rintro e w3 ⟨v, rfl, hO, hB⟩
  obtain ⟨va, vc, rfl, -, -, -⟩ := hO.is
  generalize dlen (x / 2 ^ t) = vl at *
  have HH3 : Hid (w3.heap[w.heap.size]? = some (.cells #[.bool false, .slice none 0 0, .int .i64 0] 96 (0, 0))) := box_later HH.out hB (by have := HX.out; omega)
  obtain ⟨⟨a1, a2, a3⟩, a4, a5, a6⟩ := box_cells HH3.out
  have HO : Hid (Own w3 w2.heap.size (.slice va vl vc) (x / 2 ^ t)) := hO
  have HB : Hid (Below w2.heap.size w2 w3) := hB
  clear k120 hO hB
  go_wp2
  refine bodyPost_ret (results_cell_row rfl _ _ w.heap.size 96 #[.bool neg, .slice va vl vc, .int .i64 (e + t)] (0, 0) _ rfl (store3 _ _ _ HH3.out) Tryz.underlying96 rfl Tryz.info96) rfl ?_
  have hx := HX.out
  exact ⟨_, rfl, (own_store3 HO.out (by omega) _ _ _).mono (by omega), below_store3 (HB0.out.trans (HB.out.mono (by omega))) (Nat.le_refl _) _ _ _⟩
def Mk25 (w w' : World) (neg : Bool) (x : Nat) (e : Int) (r : Ending) : Prop :=
  (okR neg x e = true ∧ ∃ A, r = .returned (.tuple #[A, .int .i64 0]) ∧ Nrm w' w.heap.size A neg x e) ∨ (okR neg x e = false ∧ r = .returned (.tuple #[.agg #[.bool false, .slice none 0 0, .int .i64 0], .int .i64 2]))
set_option maxRecDepth 200000 in
theorem c15_0 (neg : Bool) (ao : Option Addr) (n cap : Nat) (e : Int) (w : World) (h : At w ao n 0) (hn : n ≤ cap) (hc : n ≤ 70368744177664) :
    Calls Tryz.prog 99 #[.bool neg, .slice ao n cap, .int .i64 e] w fun r w' => Mk25 w w' neg 0 e r ∧ Below w.heap.size w w' := by
  have HB : Hid (Below w.heap.size w (w.alloc (.cells #[.bool false, .slice none 0 0, .int .i64 0] 96))) := (Below.refl _ _).alloc (Nat.le_refl _) _
  have k := c62 ao n cap 0 (w.alloc (.cells #[.bool false, .slice none 0 0, .int .i64 0] 96)) (by rw [dlen_zero]; omega) hn hc (h.later HB.out)
  rw [dlen_zero] at k
  clear h
  go_enter Tryz.func99, Tryz.ntmps99
  go_wp2_with fail
  refine k.mono ?_
  rintro r w1 ⟨rfl, rfl⟩
  go_wp2
  refine bodyPost_ret (results_cell_tmp_row rfl _ _ w.heap.size 96 #[.bool false, .slice none 0 0, .int .i64 0] (0, 0) _ rfl (heap_alloc_new _ _) Tryz.underlying96 rfl Tryz.info96) rfl ?_
  refine ⟨?_, HB.out⟩
  unfold Mk25
  exact .inl ⟨by unfold okR; rw [if_pos rfl], _, rfl, .inl ⟨rfl, rfl⟩⟩
theorem okR_bad {neg : Bool} {x : Nat} {e : Int} (hx : x ≠ 0) (h : e > 65536 ∨ e < -65536 - 32 * (dlen x : Int)) : okR neg x e = false := by
  have ht := tz_in' hx
  unfold okR okN
  rw [if_neg hx]
  have hy : dlen (x / 2 ^ tz x) ≠ 0 := by
    intro e0
    have := (tz_spec _ x (Nat.le_refl _) hx).2
    rw [dlen_eq_zero.1 e0] at this
    simp at this
  rw [if_neg hy]
  simp only [Bool.and_eq_false_iff, decide_eq_false_iff_not]
  rcases h with h | h
  · exact .inr (by omega)
  · exact .inl (.inr (by omega))
set_option maxRecDepth 200000 in
theorem c15_1 (neg : Bool) (b o n cap x : Nat) (e : Int) (w : World) (hcell : ∀ i, i < n → w.cell? ⟨b, o + i, none⟩ = some (.int .u32 (dg x i : Nat))) (hxn : dlen x ≤ n) (hn : n ≤ cap) (hc2 : cap ≤ 9223372036854775807) (hc : n ≤ 1000000000) (hx0 : x ≠ 0) (he : -9223372036854775808 ≤ e ∧ e ≤ 9223372036854775807) (hT : Tab32 w) :
    Calls Tryz.prog 99 #[.bool neg, .slice (some ⟨b, o, none⟩) n cap, .int .i64 e] w fun r w' => Mk25 w w' neg x e r ∧ Below w.heap.size w w' := by
  obtain ⟨W, hW⟩ : ∃ W, W = w.alloc (.cells #[.bool false, .slice none 0 0, .int .i64 0] 96) := ⟨_, rfl⟩
  have hBW : Below w.heap.size w W := by rw [hW]; exact (Below.refl _ _).alloc (Nat.le_refl _) _
  have hcW : ∀ i, i < n → W.cell? ⟨b, o + i, none⟩ = some (.int .u32 (dg x i : Nat)) := fun i hi => (hBW.cell (World.block_lt_of_cell? _ _ (hcell i hi))).trans (hcell i hi)
  have k38 := c62 (some ⟨b, o, none⟩) n cap x W hxn hn (by omega) ⟨b, o, fun _ => rfl, hcW⟩
  have HX : Hid (Below w.heap.size w W ∧ W.heap.size = w.heap.size + 1 ∧ W.heap[w.heap.size]? = some (.cells #[.bool false, .slice none 0 0, .int .i64 0] 96 (0, 0))) := ⟨hBW, by rw [hW]; simp, by rw [hW]; exact heap_alloc_new _ _⟩
  obtain ⟨he1, he2⟩ := he
  have hl0 : dlen x ≠ 0 := fun e => hx0 (dlen_eq_zero.1 e)
  have hlb : dlen x ≤ 1000000000 := by omega
  have hn0 : ((dlen x : Int) == 0) = false := by simp; omega
  by_cases hbad : e > 65536 ∨ e < -65536 - 32 * (dlen x : Int)
  · have HO : Hid (okR neg x e = false) := okR_bad hx0 hbad
    clear hcell hcW hBW hT hx0
    generalize dlen x = L at *
    obtain ⟨⟨a0, a1, a2⟩, a3, a4, a5⟩ := box_cells HX.out.2.2
    rcases hbad with hbad | hbad
    · go_enter Tryz.func99, Tryz.ntmps99
      go_wp2_with fail
      rw [← hW]
      clear hW
      refine k38.mono ?_
      rintro r w1 ⟨rfl, hw1⟩
      replace hw1 := hw1.symm
      subst hw1
      clear k38
      go_wp2_with fail
      refine bodyPost_ret (results_cell_tmp_row rfl _ _ w.heap.size 96 #[.bool false, .slice none 0 0, .int .i64 0] (0, 0) _ rfl (store3 _ _ _ HX.out.2.2) Tryz.underlying96 rfl Tryz.info96) rfl ?_
      refine ⟨?_, below_store3 HX.out.1 (Nat.le_refl _) _ _ _⟩
      unfold Mk25
      exact .inr ⟨HO.out, rfl⟩
    · have hnb : ¬ e > 65536 := by omega
      go_enter Tryz.func99, Tryz.ntmps99
      go_wp2_with fail
      rw [← hW]
      clear hW
      refine k38.mono ?_
      rintro r w1 ⟨rfl, hw1⟩
      replace hw1 := hw1.symm
      subst hw1
      clear k38
      go_wp2_with fail
      refine bodyPost_ret (results_cell_tmp_row rfl _ _ w.heap.size 96 #[.bool false, .slice none 0 0, .int .i64 0] (0, 0) _ rfl (store3 _ _ _ HX.out.2.2) Tryz.underlying96 rfl Tryz.info96) rfl ?_
      refine ⟨?_, below_store3 HX.out.1 (Nat.le_refl _) _ _ _⟩
      unfold Mk25
      exact .inr ⟨HO.out, rfl⟩
  · have h1 : ¬ e > 65536 := fun h => hbad (.inl h)
    have h2 : ¬ e < -65536 - 32 * (dlen x : Int) := fun h => hbad (.inr h)
    have k31 := c56_v neg b o (dlen x) cap x e W (fun i hi => hcW i (by omega)) (by omega) hc2 rfl (by omega) hx0 (hT.later hBW) (by omega)
    have HN0 : Hid (x ≠ 0 ∧ dlen x ≤ 35184372088832) := ⟨hx0, by omega⟩
    clear hcell hcW hBW hT hx0 hbad
    generalize hLx : dlen x = L at *
    have HLx : Hid (dlen x = L) := hLx
    clear hLx
    go_enter Tryz.func99, Tryz.ntmps99
    go_wp2_with fail
    rw [← hW]
    clear hW
    refine k38.mono ?_
    rintro r w1 ⟨rfl, hw1⟩
    replace hw1 := hw1.symm
    subst hw1
    clear k38
    go_wp2_with fail
    refine k31.mono ?_
    rintro r w2 ⟨v, rfl, ho, hb2⟩
    obtain ⟨va, vk, rfl, -, -, -⟩ := ho.is
    have HN : Hid (Nrm w2 W.heap.size (.agg #[.bool neg, .slice va (dlen (x / 2 ^ tz x)) vk, .int .i64 (e + tz x)]) neg x e) := (.inr ⟨HN0.out.1, _, rfl, ho⟩ : Nrm w2 W.heap.size (.agg #[.bool neg, .slice va (dlen (x / 2 ^ tz x)) vk, .int .i64 (e + tz x)]) neg x e)
    have HB2 : Hid (Below W.heap.size W w2) := hb2
    have k39 := c63n HN.out (by rw [HLx.out]; exact HN0.out.2)
    clear k31 ho hb2
    go_wp2_with fail
    refine k39.mono ?_
    rintro r w3 ⟨rfl, hb3⟩
    have HB3 : Hid (Below W.heap.size W w3) := HB2.out.trans (hb3.mono HB2.out.size)
    have HN3 : Hid (Nrm w3 W.heap.size (.agg #[.bool neg, .slice va (dlen (x / 2 ^ tz x)) vk, .int .i64 (e + tz x)]) neg x e) := HN.out.later hb3
    have HC3 : Hid (w3.heap[w.heap.size]? = some (.cells #[.bool false, .slice none 0 0, .int .i64 0] 96 (0, 0))) := box_later HX.out.2.2 HB3.out (by have := HX.out.2.1; omega)
    obtain ⟨⟨x1, x2, x3⟩, x4, x5, x6⟩ := box_cells HC3.out
    clear k39 hb3
    cases hok : okR neg x e
    · have HOK : Hid (okR neg x e = false) := hok
      have hNil : Nil = .agg #[.bool false, .slice none 0 0, .int .i64 0] := rfl
      go_wp2
      refine bodyPost_ret (results_cell_tmp_row rfl _ _ w.heap.size 96 #[.bool false, .slice none 0 0, .int .i64 0] (0, 0) _ rfl (store3 _ _ _ HC3.out) Tryz.underlying96 rfl Tryz.info96) rfl ?_
      refine ⟨?_, below_store3 (HX.out.1.trans (HB3.out.mono HX.out.1.size)) (Nat.le_refl _) _ _ _⟩
      unfold Mk25
      exact .inr ⟨HOK.out, rfl⟩
    · have HOK : Hid (okR neg x e = true) := hok
      go_wp2
      refine bodyPost_ret (results_cell_tmp_row rfl _ _ w.heap.size 96 #[.bool neg, .slice va (dlen (x / 2 ^ tz x)) vk, .int .i64 (e + tz x)] (0, 0) _ rfl (store3 _ _ _ HC3.out) Tryz.underlying96 rfl Tryz.info96) rfl ?_
      refine ⟨?_, below_store3 (HX.out.1.trans (HB3.out.mono HX.out.1.size)) (Nat.le_refl _) _ _ _⟩
      unfold Mk25
      have hn3 := HN3.out
      exact .inl ⟨HOK.out, _, rfl, (hn3.store (by have := HX.out.2.1; omega) _ _ _).mono (by have := HX.out.2.1; omega)⟩
end Go.Proofs.YtcoclopllbfjcaaGreatDoor
namespace Go.Proofs.YtcoclopllbfjcaaGreatDoor
set_option linter.unusedVariables false
set_option linter.unusedSimpArgs false
open Go.RowKit Go.Fl64
theorem short {m : Nat} (h : m < 18446744073709551616) : dlen (m / 2 ^ tz m) ≤ 35184372088832 := by
  have h1 : dlen m ≤ 2 := (dlen_le 2 m).2 (by unfold B; omega)
  have h2 : dlen (m / 2 ^ tz m) ≤ dlen m := dlen_mono (Nat.div_le_self ..)
  omega
theorem of_parts (a m : Nat) (ha : a < 18446744073709551616) (hf : mag a < 9218868437227405312) (hm : Ie.sM a = (m : Int)) :
    (m = 0 ∧ Ie.mant a = 0) ∨ (m ≠ 0 ∧ Ie.mant a ≠ 0 ∧ neg a = neg a ∧ m / 2 ^ tz m = Ie.mant a / 2 ^ tz (Ie.mant a) ∧ Ie.sE a + (tz m : Int) = Ie.lp a + (tz (Ie.mant a) : Int)) := by
  unfold Ie.sM at hm
  unfold Ie.sE
  rw [if_neg (by omega)] at hm ⊢
  by_cases h0 : mag a = 0
  · rw [if_pos h0] at hm
    exact .inl ⟨by omega, by unfold Ie.mant; rw [if_pos (by omega)]; exact h0⟩
  · rw [if_neg h0] at hm ⊢
    have hb := Ie.mant_bound a
    have hne := Ie.mant_ne h0
    have hct : Lib.ctz 64 (Ie.mant a) = tz (Ie.mant a) := tz_ctz hne (by omega)
    rw [hct] at hm ⊢
    have e1 : m = Ie.mant a / 2 ^ tz (Ie.mant a) := by
      have : ((Ie.mant a / 2 ^ tz (Ie.mant a) : Nat) : Int) = (m : Int) := by rw [← hm]; simp
      omega
    obtain ⟨h1, h2⟩ := tz_spec _ (Ie.mant a) (Nat.le_refl _) hne
    rw [← e1] at h2
    have e2 : tz m = 0 := tz_odd h2
    refine .inr ⟨by intro e; rw [e] at h2; simp at h2, hne, rfl, ?_, ?_⟩
    · rw [e2, ← e1]; simp
    · rw [e2]; simp
end Go.Proofs.YtcoclopllbfjcaaGreatDoor
namespace Go.Proofs.YtcoclopllbfjcaaGreatDoor
set_option linter.unusedVariables false
set_option linter.unusedSimpArgs false
open Go.RowKit
end Go.Proofs.YtcoclopllbfjcaaGreatDoor
namespace Go.Proofs.YtcoclopllbfjcaaGreatDoor
set_option linter.unusedVariables false
set_option linter.unusedSimpArgs false
open Go.RowKit
set_option maxRecDepth 200000 in
theorem mul_no (na nb : Bool) (ua va : Option Addr) (un uc vn vc : Nat) (ea eb : Int) (w : World)
    (k67 : ∀ W g, Below w.heap.size w W → W.heap[g]? = some (.cells #[.bool na, .slice ua un uc, .int .i64 ea, .bool nb, .slice va vn vc, .int .i64 eb] 96 (0, 0)) → Calls Tryz.prog 120 #[.slice (some ⟨g, 0, none⟩) 2 2] W fun r w' => r = .returned (.bool false) ∧ Below W.heap.size W w') :
    Calls Tryz.prog 119 #[NumV na (.slice ua un uc) ea, NumV nb (.slice va vn vc) eb] w fun r w' => r = .returned (.tuple #[Nil, .int .i64 1]) ∧ Below w.heap.size w w' := by
  obtain ⟨W, hW⟩ : ∃ W, W = ((w.alloc (.cells #[.bool na, .slice ua un uc, .int .i64 ea] 96)).alloc (.cells #[.bool nb, .slice va vn vc, .int .i64 eb] 96)).alloc (.cells #[.bool false, .slice none 0 0, .int .i64 0] 96) := ⟨_, rfl⟩
  obtain ⟨hA, hBb, hC, hsz, hBW⟩ := boxes3 _ _ _ hW
  have hB4 : Below w.heap.size w (W.alloc (.cells #[.bool na, .slice ua un uc, .int .i64 ea, .bool nb, .slice va vn vc, .int .i64 eb] 96)) := hBW.alloc hBW.size _
  have k1 := k67 (W.alloc (.cells #[.bool na, .slice ua un uc, .int .i64 ea, .bool nb, .slice va vn vc, .int .i64 eb] 96)) (w.heap.size + 1 + 1 + 1) hB4 (by rw [← hsz]; exact heap_alloc_new _ _)
  have HH : Hid (W.heap[w.heap.size + 1 + 1]? = some (.cells #[.bool false, .slice none 0 0, .int .i64 0] 96 (0, 0)) ∧ W.heap.size = w.heap.size + 1 + 1 + 1 ∧ Below w.heap.size w W ∧ Below W.heap.size W (W.alloc (.cells #[.bool na, .slice ua un uc, .int .i64 ea, .bool nb, .slice va vn vc, .int .i64 eb] 96))) := ⟨hC, hsz, hBW, (Below.refl _ _).alloc (Nat.le_refl _) _⟩
  unfold NumV
  clear hA hBb hC hsz hBW hB4 k67
  go_enter Tryz.func119, Tryz.ntmps119
  go_wp2_with fail
  rw [← hW]
  clear hW
  refine k1.mono ?_
  rintro r w1 ⟨rfl, hB1⟩
  clear k1
  have hBW1 : Below W.heap.size W w1 := HH.out.2.2.2.trans (hB1.mono HH.out.2.2.2.size)
  have HC3 : Hid (w1.heap[w.heap.size + 1 + 1]? = some (.cells #[.bool false, .slice none 0 0, .int .i64 0] 96 (0, 0))) := box_later HH.out.1 hBW1 (by have := HH.out.2.1; omega)
  have HB1 : Hid (Below W.heap.size W w1) := hBW1
  obtain ⟨⟨x1, x2, x3⟩, x4, x5, x6⟩ := box_cells HC3.out
  clear hB1 hBW1
  go_wp2
  refine bodyPost_ret (results_cell_tmp_row rfl _ _ (w.heap.size + 1 + 1) 96 #[.bool false, .slice none 0 0, .int .i64 0] (0, 0) _ rfl (store3 _ _ _ HC3.out) Tryz.underlying96 rfl Tryz.info96) rfl ?_
  obtain ⟨b1, b2, b3, b4⟩ := HH.out
  exact ⟨rfl, below_store3 (b3.trans (HB1.out.mono b3.size)) (by omega) _ _ _⟩
set_option maxRecDepth 200000 in
theorem shift_0 (na : Bool) (ua : Option Addr) (un uc : Nat) (ea k0 : Int) (w : World) (k43 : ∀ W g, Below w.heap.size w W → W.heap[g]? = some (.cells #[.bool na, .slice ua un uc, .int .i64 ea] 96 (0, 0)) → Calls Tryz.prog 120 #[.slice (some ⟨g, 0, none⟩) 1 1] W fun r w' => r = .returned (.bool false) ∧ Below W.heap.size W w') :
    Calls Tryz.prog 100 #[.agg #[.bool na, .slice ua un uc, .int .i64 ea], .int .i64 k0] w fun r w' => r = .returned (.tuple #[.agg #[.bool false, .slice none 0 0, .int .i64 0], .int .i64 1]) ∧ Below w.heap.size w w' := by
  obtain ⟨W, hW⟩ : ∃ W, W = (w.alloc (.cells #[.bool na, .slice ua un uc, .int .i64 ea] 96)).alloc (.cells #[.bool false, .slice none 0 0, .int .i64 0] 96) := ⟨_, rfl⟩
  have hBW : Below w.heap.size w W := by rw [hW]; exact ((Below.refl _ _).alloc (Nat.le_refl _) _).alloc (by simp) _
  have hbA : W.heap[w.heap.size]? = some (.cells #[.bool na, .slice ua un uc, .int .i64 ea] 96 (0, 0)) := by
    rw [hW, Below.heap_alloc _ _ _ (by simp)]; exact heap_alloc_new _ _
  have hbB : W.heap[w.heap.size + 1]? = some (.cells #[.bool false, .slice none 0 0, .int .i64 0] 96 (0, 0)) := by
    have := heap_alloc_new (w.alloc (.cells #[.bool na, .slice ua un uc, .int .i64 ea] 96)) (.cells #[.bool false, .slice none 0 0, .int .i64 0] 96)
    rw [hW]; simpa using this
  have hsz : W.heap.size = w.heap.size + 1 + 1 := by rw [hW]; simp
  have k1 := k43 (W.alloc (.cells #[.bool na, .slice ua un uc, .int .i64 ea] 96)) (w.heap.size + 1 + 1) (hBW.alloc hBW.size _) (by rw [← hsz]; exact heap_alloc_new _ _)
  have HX : Hid (Below w.heap.size w W ∧ W.heap.size = w.heap.size + 1 + 1 ∧ W.heap[w.heap.size]? = some (.cells #[.bool na, .slice ua un uc, .int .i64 ea] 96 (0, 0)) ∧ W.heap[w.heap.size + 1]? = some (.cells #[.bool false, .slice none 0 0, .int .i64 0] 96 (0, 0))) := ⟨hBW, hsz, hbA, hbB⟩
  clear hBW hsz hbA hbB k43
  go_enter Tryz.func100, Tryz.ntmps100
  go_wp2_with fail
  rw [← hW]
  clear hW
  refine k1.mono ?_
  rintro r w1 ⟨rfl, hb1⟩
  have HB1 : Hid (Below W.heap.size W w1) := ((Below.refl W.heap.size W).alloc (Nat.le_refl _) _).trans (hb1.mono (by simp))
  have H3 : Hid (w1.heap[w.heap.size]? = some (.cells #[.bool na, .slice ua un uc, .int .i64 ea] 96 (0, 0)) ∧ w1.heap[w.heap.size + 1]? = some (.cells #[.bool false, .slice none 0 0, .int .i64 0] 96 (0, 0)) ∧ w.heap.size + 1 + 1 ≤ w1.heap.size ∧ Below w.heap.size w w1) := ⟨box_later HX.out.2.2.1 HB1.out (by have := HX.out.2.1; omega), box_later HX.out.2.2.2 HB1.out (by have := HX.out.2.1; omega), by have := HB1.out.size; have := HX.out.2.1; omega, HX.out.1.trans (HB1.out.mono HX.out.1.size)⟩
  clear k1 hb1
  obtain ⟨⟨a0, a1, a2⟩, -⟩ := box_cells H3.out.1
  obtain ⟨⟨x1, x2, x3⟩, x4, x5, x6⟩ := box_cells H3.out.2.1
  go_wp2
  refine bodyPost_ret (results_cell_tmp_row rfl _ _ (w.heap.size + 1) 96 #[.bool false, .slice none 0 0, .int .i64 0] (0, 0) _ rfl (store3 _ _ _ H3.out.2.1) Tryz.underlying96 rfl Tryz.info96) rfl ?_
  exact ⟨rfl, below_store3 H3.out.2.2.2 (by omega) _ _ _⟩
set_option maxRecDepth 200000 in
theorem shift_1 (na : Bool) (ua : Option Addr) (uc : Nat) (ea k0 : Int) (w : World) (k43 : ∀ W g, Below w.heap.size w W → W.heap[g]? = some (.cells #[.bool na, .slice ua 0 uc, .int .i64 ea] 96 (0, 0)) → Calls Tryz.prog 120 #[.slice (some ⟨g, 0, none⟩) 1 1] W fun r w' => r = .returned (.bool true) ∧ Below W.heap.size W w') :
    Calls Tryz.prog 100 #[.agg #[.bool na, .slice ua 0 uc, .int .i64 ea], .int .i64 k0] w fun r w' => r = .returned (.tuple #[.agg #[.bool false, .slice none 0 0, .int .i64 0], .int .i64 0]) ∧ Below w.heap.size w w' := by
  obtain ⟨W, hW⟩ : ∃ W, W = (w.alloc (.cells #[.bool na, .slice ua 0 uc, .int .i64 ea] 96)).alloc (.cells #[.bool false, .slice none 0 0, .int .i64 0] 96) := ⟨_, rfl⟩
  have hBW : Below w.heap.size w W := by rw [hW]; exact ((Below.refl _ _).alloc (Nat.le_refl _) _).alloc (by simp) _
  have hbA : W.heap[w.heap.size]? = some (.cells #[.bool na, .slice ua 0 uc, .int .i64 ea] 96 (0, 0)) := by
    rw [hW, Below.heap_alloc _ _ _ (by simp)]; exact heap_alloc_new _ _
  have hbB : W.heap[w.heap.size + 1]? = some (.cells #[.bool false, .slice none 0 0, .int .i64 0] 96 (0, 0)) := by
    have := heap_alloc_new (w.alloc (.cells #[.bool na, .slice ua 0 uc, .int .i64 ea] 96)) (.cells #[.bool false, .slice none 0 0, .int .i64 0] 96)
    rw [hW]; simpa using this
  have hsz : W.heap.size = w.heap.size + 1 + 1 := by rw [hW]; simp
  have k1 := k43 (W.alloc (.cells #[.bool na, .slice ua 0 uc, .int .i64 ea] 96)) (w.heap.size + 1 + 1) (hBW.alloc hBW.size _) (by rw [← hsz]; exact heap_alloc_new _ _)
  have HX : Hid (Below w.heap.size w W ∧ W.heap.size = w.heap.size + 1 + 1 ∧ W.heap[w.heap.size]? = some (.cells #[.bool na, .slice ua 0 uc, .int .i64 ea] 96 (0, 0)) ∧ W.heap[w.heap.size + 1]? = some (.cells #[.bool false, .slice none 0 0, .int .i64 0] 96 (0, 0))) := ⟨hBW, hsz, hbA, hbB⟩
  clear hBW hsz hbA hbB k43
  go_enter Tryz.func100, Tryz.ntmps100
  go_wp2_with fail
  rw [← hW]
  clear hW
  refine k1.mono ?_
  rintro r w1 ⟨rfl, hb1⟩
  have HB1 : Hid (Below W.heap.size W w1) := ((Below.refl W.heap.size W).alloc (Nat.le_refl _) _).trans (hb1.mono (by simp))
  have H3 : Hid (w1.heap[w.heap.size]? = some (.cells #[.bool na, .slice ua 0 uc, .int .i64 ea] 96 (0, 0)) ∧ w1.heap[w.heap.size + 1]? = some (.cells #[.bool false, .slice none 0 0, .int .i64 0] 96 (0, 0)) ∧ w.heap.size + 1 + 1 ≤ w1.heap.size ∧ Below w.heap.size w w1) := ⟨box_later HX.out.2.2.1 HB1.out (by have := HX.out.2.1; omega), box_later HX.out.2.2.2 HB1.out (by have := HX.out.2.1; omega), by have := HB1.out.size; have := HX.out.2.1; omega, HX.out.1.trans (HB1.out.mono HX.out.1.size)⟩
  clear k1 hb1
  obtain ⟨⟨a0, a1, a2⟩, -⟩ := box_cells H3.out.1
  obtain ⟨⟨x1, x2, x3⟩, x4, x5, x6⟩ := box_cells H3.out.2.1
  go_wp2
  refine bodyPost_ret (results_cell_tmp_row rfl _ _ (w.heap.size + 1) 96 #[.bool false, .slice none 0 0, .int .i64 0] (0, 0) _ rfl (store3 _ _ _ H3.out.2.1) Tryz.underlying96 rfl Tryz.info96) rfl ?_
  exact ⟨rfl, below_store3 H3.out.2.2.2 (by omega) _ _ _⟩
set_option maxRecDepth 200000 in
theorem shift_2 (na : Bool) (ua : Option Addr) (un uc : Nat) (ea k0 : Int) (w : World) (hn : un ≤ 35184372088832) (hn0 : ((un : Int) == 0) = false) (he1 : -65536 ≤ ea) (he2 : ea ≤ 65536) (hk : k0 < -65536 - ea ∨ 65536 - ea < k0) (k43 : ∀ W g, Below w.heap.size w W → W.heap[g]? = some (.cells #[.bool na, .slice ua un uc, .int .i64 ea] 96 (0, 0)) → Calls Tryz.prog 120 #[.slice (some ⟨g, 0, none⟩) 1 1] W fun r w' => r = .returned (.bool true) ∧ Below W.heap.size W w') :
    Calls Tryz.prog 100 #[.agg #[.bool na, .slice ua un uc, .int .i64 ea], .int .i64 k0] w fun r w' => r = .returned (.tuple #[.agg #[.bool false, .slice none 0 0, .int .i64 0], .int .i64 2]) ∧ Below w.heap.size w w' := by
  obtain ⟨W, hW⟩ : ∃ W, W = (w.alloc (.cells #[.bool na, .slice ua un uc, .int .i64 ea] 96)).alloc (.cells #[.bool false, .slice none 0 0, .int .i64 0] 96) := ⟨_, rfl⟩
  have hBW : Below w.heap.size w W := by rw [hW]; exact ((Below.refl _ _).alloc (Nat.le_refl _) _).alloc (by simp) _
  have hbA : W.heap[w.heap.size]? = some (.cells #[.bool na, .slice ua un uc, .int .i64 ea] 96 (0, 0)) := by
    rw [hW, Below.heap_alloc _ _ _ (by simp)]; exact heap_alloc_new _ _
  have hbB : W.heap[w.heap.size + 1]? = some (.cells #[.bool false, .slice none 0 0, .int .i64 0] 96 (0, 0)) := by
    have := heap_alloc_new (w.alloc (.cells #[.bool na, .slice ua un uc, .int .i64 ea] 96)) (.cells #[.bool false, .slice none 0 0, .int .i64 0] 96)
    rw [hW]; simpa using this
  have hsz : W.heap.size = w.heap.size + 1 + 1 := by rw [hW]; simp
  have k1 := k43 (W.alloc (.cells #[.bool na, .slice ua un uc, .int .i64 ea] 96)) (w.heap.size + 1 + 1) (hBW.alloc hBW.size _) (by rw [← hsz]; exact heap_alloc_new _ _)
  have HX : Hid (Below w.heap.size w W ∧ W.heap.size = w.heap.size + 1 + 1 ∧ W.heap[w.heap.size]? = some (.cells #[.bool na, .slice ua un uc, .int .i64 ea] 96 (0, 0)) ∧ W.heap[w.heap.size + 1]? = some (.cells #[.bool false, .slice none 0 0, .int .i64 0] 96 (0, 0))) := ⟨hBW, hsz, hbA, hbB⟩
  clear hBW hsz hbA hbB k43
  go_enter Tryz.func100, Tryz.ntmps100
  go_wp2_with fail
  rw [← hW]
  clear hW
  refine k1.mono ?_
  rintro r w1 ⟨rfl, hb1⟩
  have HB1 : Hid (Below W.heap.size W w1) := ((Below.refl W.heap.size W).alloc (Nat.le_refl _) _).trans (hb1.mono (by simp))
  have H3 : Hid (w1.heap[w.heap.size]? = some (.cells #[.bool na, .slice ua un uc, .int .i64 ea] 96 (0, 0)) ∧ w1.heap[w.heap.size + 1]? = some (.cells #[.bool false, .slice none 0 0, .int .i64 0] 96 (0, 0)) ∧ w.heap.size + 1 + 1 ≤ w1.heap.size ∧ Below w.heap.size w w1) := ⟨box_later HX.out.2.2.1 HB1.out (by have := HX.out.2.1; omega), box_later HX.out.2.2.2 HB1.out (by have := HX.out.2.1; omega), by have := HB1.out.size; have := HX.out.2.1; omega, HX.out.1.trans (HB1.out.mono HX.out.1.size)⟩
  clear k1 hb1
  obtain ⟨⟨a0, a1, a2⟩, -⟩ := box_cells H3.out.1
  obtain ⟨⟨x1, x2, x3⟩, x4, x5, x6⟩ := box_cells H3.out.2.1
  by_cases hk1 : k0 < -65536 - ea
  · clear hk
    go_wp2
    refine bodyPost_ret (results_cell_tmp_row rfl _ _ (w.heap.size + 1) 96 #[.bool false, .slice none 0 0, .int .i64 0] (0, 0) _ rfl (store3 _ _ _ H3.out.2.1) Tryz.underlying96 rfl Tryz.info96) rfl ?_
    exact ⟨rfl, below_store3 H3.out.2.2.2 (by omega) _ _ _⟩
  · have hk2 : 65536 - ea < k0 := by omega
    clear hk
    go_wp2
    refine bodyPost_ret (results_cell_tmp_row rfl _ _ (w.heap.size + 1) 96 #[.bool false, .slice none 0 0, .int .i64 0] (0, 0) _ rfl (store3 _ _ _ H3.out.2.1) Tryz.underlying96 rfl Tryz.info96) rfl ?_
    exact ⟨rfl, below_store3 H3.out.2.2.2 (by omega) _ _ _⟩
set_option maxRecDepth 200000 in
theorem shift_3 (na : Bool) (ua : Option Addr) (un uc : Nat) (ea k0 : Int) (w : World) (x : Nat) (h1 : Is w (.slice ua un uc) x) (hx : dlen x ≤ 1000000) (hn : un ≤ 35184372088832) (hn0 : ((un : Int) == 0) = false) (he1 : -65536 ≤ ea) (he2 : ea ≤ 65536) (hk1 : ¬ k0 < -65536 - ea) (hk2 : ¬ 65536 - ea < k0) (k43 : ∀ W g, Below w.heap.size w W → W.heap[g]? = some (.cells #[.bool na, .slice ua un uc, .int .i64 ea] 96 (0, 0)) → Calls Tryz.prog 120 #[.slice (some ⟨g, 0, none⟩) 1 1] W fun r w' => r = .returned (.bool true) ∧ Below W.heap.size W w') :
    Calls Tryz.prog 100 #[.agg #[.bool na, .slice ua un uc, .int .i64 ea], .int .i64 k0] w fun r w' => ∃ v, r = .returned (.tuple #[.agg #[.bool na, v, .int .i64 (ea + k0)], .int .i64 0]) ∧ Own w' w.heap.size v x ∧ Below w.heap.size w w' := by
  obtain ⟨W, hW⟩ : ∃ W, W = (w.alloc (.cells #[.bool na, .slice ua un uc, .int .i64 ea] 96)).alloc (.cells #[.bool false, .slice none 0 0, .int .i64 0] 96) := ⟨_, rfl⟩
  have hBW : Below w.heap.size w W := by rw [hW]; exact ((Below.refl _ _).alloc (Nat.le_refl _) _).alloc (by simp) _
  have hbA : W.heap[w.heap.size]? = some (.cells #[.bool na, .slice ua un uc, .int .i64 ea] 96 (0, 0)) := by
    rw [hW, Below.heap_alloc _ _ _ (by simp)]; exact heap_alloc_new _ _
  have hbB : W.heap[w.heap.size + 1]? = some (.cells #[.bool false, .slice none 0 0, .int .i64 0] 96 (0, 0)) := by
    have := heap_alloc_new (w.alloc (.cells #[.bool na, .slice ua un uc, .int .i64 ea] 96)) (.cells #[.bool false, .slice none 0 0, .int .i64 0] 96)
    rw [hW]; simpa using this
  have hsz : W.heap.size = w.heap.size + 1 + 1 := by rw [hW]; simp
  have k1 := k43 (W.alloc (.cells #[.bool na, .slice ua un uc, .int .i64 ea] 96)) (w.heap.size + 1 + 1) (hBW.alloc hBW.size _) (by rw [← hsz]; exact heap_alloc_new _ _)
  have HX : Hid (Below w.heap.size w W ∧ W.heap.size = w.heap.size + 1 + 1 ∧ W.heap[w.heap.size]? = some (.cells #[.bool na, .slice ua un uc, .int .i64 ea] 96 (0, 0)) ∧ W.heap[w.heap.size + 1]? = some (.cells #[.bool false, .slice none 0 0, .int .i64 0] 96 (0, 0))) := ⟨hBW, hsz, hbA, hbB⟩
  have HI : Hid (Is w (.slice ua un uc) x ∧ dlen x ≤ 1000000) := ⟨h1, hx⟩
  clear h1 hx
  clear hBW hsz hbA hbB k43
  go_enter Tryz.func100, Tryz.ntmps100
  go_wp2_with fail
  rw [← hW]
  clear hW
  refine k1.mono ?_
  rintro r w1 ⟨rfl, hb1⟩
  have HB1 : Hid (Below W.heap.size W w1) := ((Below.refl W.heap.size W).alloc (Nat.le_refl _) _).trans (hb1.mono (by simp))
  have H3 : Hid (w1.heap[w.heap.size]? = some (.cells #[.bool na, .slice ua un uc, .int .i64 ea] 96 (0, 0)) ∧ w1.heap[w.heap.size + 1]? = some (.cells #[.bool false, .slice none 0 0, .int .i64 0] 96 (0, 0)) ∧ w.heap.size + 1 + 1 ≤ w1.heap.size ∧ Below w.heap.size w w1) := ⟨box_later HX.out.2.2.1 HB1.out (by have := HX.out.2.1; omega), box_later HX.out.2.2.2 HB1.out (by have := HX.out.2.1; omega), by have := HB1.out.size; have := HX.out.2.1; omega, HX.out.1.trans (HB1.out.mono HX.out.1.size)⟩
  clear k1 hb1
  obtain ⟨⟨a0, a1, a2⟩, -⟩ := box_cells H3.out.1
  obtain ⟨⟨x1, x2, x3⟩, x4, x5, x6⟩ := box_cells H3.out.2.1
  have HK : Hid (∀ w', Below (w.heap.size + 1) w1 w' → (w'.cell? ⟨w.heap.size, 0, none⟩ = some (.bool na) ∧ w'.cell? ⟨w.heap.size, 1, none⟩ = some (.slice ua un uc) ∧ w'.cell? ⟨w.heap.size, 2, none⟩ = some (.int .i64 ea))) := fun w' hb => (box_cells (box_later H3.out.1 hb (by omega))).1
  have kC : ∀ w4, Below w1.heap.size w1 w4 → Calls Tryz.prog 135 #[.slice ua un uc] w4 fun r w' => ∃ ao n cap, r = .returned (.slice ao n cap) ∧ Own w' w1.heap.size (.slice ao n cap) x ∧ Below w1.heap.size w1 w' := fun w4 hb =>
    (clone_ok ((HI.out.1.later H3.out.2.2.2).later hb) (by have := HI.out.2; omega)).mono fun r w' ⟨v, e1, o1, o2⟩ => by
      obtain ⟨ao, cap, rfl, -, -, -⟩ := o1.is
      exact ⟨_, _, _, e1, o1.mono hb.size, hb.trans (o2.mono hb.size)⟩
  have hBR : Below w1.heap.size w1 w1.drew := (Below.refl _ _).drew
  have hBR1 : Below (w.heap.size + 1) w1 w1.drew := (Below.refl _ _).drew
  have H1 : Hid (w.heap.size + 1 ≤ w1.heap.size) := (by have := H3.out.2.2.1; omega : w.heap.size + 1 ≤ w1.heap.size)
  have HZ : Hid (IntKind.i64.wrap (ea + k0) = ea + k0) := (by rw [IntKind.wrap_i64]; omega : IntKind.i64.wrap (ea + k0) = ea + k0)
  go_upto_region 8 with fail
  clear x1 x2 x3 x4 x5 x6
  go_region_held3 (fun w' => w'.cell? ⟨w.heap.size, 0, none⟩ = some (.bool na) ∧ w'.cell? ⟨w.heap.size, 1, none⟩ = some (.slice ua un uc) ∧ w'.cell? ⟨w.heap.size, 2, none⟩ = some (.int .i64 ea)) (first | (with_reducible assumption) | exact HK.out _ hBR1 | (refine HK.out _ (Below.mono ?_ H1.out); with_reducible assumption) | (refine HK.out _ (below_store3 (Below.mono hb5 H1.out) (Nat.le_refl _) _ _ _)) | go_keep)
    (first | (go_at_call 135; refine (kC _ (by first | (with_reducible assumption) | exact hBR)).mono ?_; rintro r w5 ⟨ao5, n5, cap5, rfl, ho5, hb5⟩; have hblk5 := box_later H3.out.2.1 hb5 (by have := H3.out.2.2.1; omega); obtain ⟨⟨x1, x2, x3⟩, x4, x5, x6⟩ := box_cells hblk5))
  all_goals (have HF : Hid (Below w1.heap.size w1 w5 ∧ Own w5 w1.heap.size (.slice ao5 n5 cap5) x ∧ w5.heap[w.heap.size + 1]? = some (.cells #[.bool false, .slice none 0 0, .int .i64 0] 96 (0, 0))) := ⟨hb5, ho5, hblk5⟩; clear ho5 hb5 hblk5 x1 x2 x3 x4 x5 x6 kC HK hBR hBR1 a0 a1 a2; (try rw [HZ.out]); go_wp2; refine bodyPost_ret (results_cell_tmp_row rfl _ _ (w.heap.size + 1) 96 #[.bool na, .slice ao5 n5 cap5, .int .i64 (ea + k0)] (0, 0) _ rfl (store3 _ _ _ HF.out.2.2) Tryz.underlying96 rfl Tryz.info96) rfl ?_; exact ⟨_, rfl, (own_store3 HF.out.2.1 (by have := H3.out.2.2.1; omega) _ _ _).mono (by have := H3.out.2.2.1; omega), below_store3 (H3.out.2.2.2.trans (HF.out.1.mono H3.out.2.2.2.size)) (by omega) _ _ _⟩)
end Go.Proofs.YtcoclopllbfjcaaGreatDoor
namespace Go.Proofs.YtcoclopllbfjcaaGreatDoor
set_option linter.unusedVariables false
set_option linter.unusedSimpArgs false
open Go.RowKit
end Go.Proofs.YtcoclopllbfjcaaGreatDoor
namespace Go.Proofs.YtcoclopllbfjcaaGreatDoor
set_option linter.unusedVariables false
set_option linter.unusedSimpArgs false
open Go.RowKit
set_option maxRecDepth 200000 in
theorem rsgn {na : Bool} {ua : Option Addr} {un uc : Nat} {ea : Int} {w : World} (hn : un ≤ 35184372088832) :
    Calls Tryz.prog 77 #[.agg #[.bool na, .slice ua un uc, .int .i64 ea]] w fun r w' => r = .returned (.int .i64 (if un = 0 then 0 else if na then -1 else 1)) ∧ Below w.heap.size w w' := by
  obtain ⟨W, hW⟩ : ∃ W, W = w.alloc (.cells #[.bool na, .slice ua un uc, .int .i64 ea] 45) := ⟨_, rfl⟩
  have HB : Hid (Below w.heap.size w W) := (by rw [hW]; exact (Below.refl _ _).alloc (Nat.le_refl _) _ : Below w.heap.size w W)
  by_cases h0 : un = 0
  · subst h0
    rw [if_pos rfl]
    go_enter Tryz.func77, Tryz.ntmps77
    go_wp2
    go_ret
    exact ⟨rfl, hW ▸ HB.out⟩
  · have hn0 : ((un : Int) == 0) = false := by simp; omega
    rw [if_neg h0]
    clear h0
    cases na
    · go_enter Tryz.func77, Tryz.ntmps77
      go_wp2
      go_ret
      exact ⟨rfl, hW ▸ HB.out⟩
    · go_enter Tryz.func77, Tryz.ntmps77
      go_wp2
      go_ret
      exact ⟨rfl, hW ▸ HB.out⟩
end Go.Proofs.YtcoclopllbfjcaaGreatDoor
namespace Go.Proofs.YtcoclopllbfjcaaGreatDoor
set_option linter.unusedVariables false
set_option linter.unusedSimpArgs false
open Go.RowKit Go.Fl64
theorem ord_of {ops : Array Oper} (h : ((List.range ops.size).all fun i => match ops[i]? with | some o => o.after.all (fun e => decide (e.on < i)) | none => true) = true) (i : Nat) (o : Oper) (ho : ops[i]? = some o) : ∀ e ∈ o.after, e.on < i := by
  intro e he
  have hi : i < ops.size := (Array.getElem?_eq_some_iff.1 ho).1
  have h1 := List.all_eq_true.1 h i (List.mem_range.2 hi)
  simp only [ho] at h1
  exact of_decide_eq_true (Array.all_eq_true_iff_forall_mem.1 h1 e he)
def Bn (w : World) (g : Nat) (s : Bool) (ao : Option Addr) (n cap : Nat) (e : Int) (t : Bool × Nat × Int) : Prop :=
  w.heap[g]? = some (.cells #[.bool s, .slice ao n cap, .int .i64 e] 96 (0, 0)) ∧ PN w (.agg #[.bool s, .slice ao n cap, .int .i64 e]) t
theorem Bn.later {w w' : World} {g : Nat} {s : Bool} {ao : Option Addr} {n cap : Nat} {e : Int} {t : Bool × Nat × Int} (h : Bn w g s ao n cap e t) (hb : Below w.heap.size w w') : Bn w' g s ao n cap e t :=
  ⟨box_later h.1 hb (Array.getElem?_eq_some_iff.1 h.1).1, h.2.later hb⟩
theorem Bn.new {w : World} {s : Bool} {ao : Option Addr} {n cap : Nat} {e : Int} {t : Bool × Nat × Int} (h : PN w (.agg #[.bool s, .slice ao n cap, .int .i64 e]) t) : Bn (w.alloc (.cells #[.bool s, .slice ao n cap, .int .i64 e] 96)) w.heap.size s ao n cap e t :=
  ⟨heap_alloc_new _ _, h.later ((Below.refl _ _).alloc (Nat.le_refl _) _)⟩
end Go.Proofs.YtcoclopllbfjcaaGreatDoor
namespace Go.Proofs.YtcoclopllbfjcaaGreatDoor
set_option linter.unusedVariables false
set_option linter.unusedSimpArgs false
open Go.RowKit
end Go.Proofs.YtcoclopllbfjcaaGreatDoor
namespace Go.Proofs.YtcoclopllbfjcaaGreatDoor
set_option linter.unusedVariables false
set_option linter.unusedSimpArgs false
open Go.RowKit Go.Fl64
end Go.Proofs.YtcoclopllbfjcaaGreatDoor
namespace Go.Proofs.YtcoclopllbfjcaaGreatDoor
set_option linter.unusedVariables false
set_option linter.unusedSimpArgs false
open Go.RowKit
def BB (ty : TypeId) (P : World → Value → Prop) (w : World) (g : Nat) (s : Bool) (ao : Option Addr) (n cap : Nat) (e : Int) : Prop :=
  w.heap[g]? = some (.cells #[.bool s, .slice ao n cap, .int .i64 e] ty (0, 0)) ∧ P w (.agg #[.bool s, .slice ao n cap, .int .i64 e])
def Lasts (P : World → Value → Prop) : Prop := ∀ W W' A, Below W.heap.size W W' → P W A → P W' A
theorem BB.later {ty : TypeId} {P : World → Value → Prop} (hP : Lasts P) {w w' : World} {g : Nat} {s : Bool} {ao : Option Addr} {n cap : Nat} {e : Int} (h : BB ty P w g s ao n cap e) (hb : Below w.heap.size w w') : BB ty P w' g s ao n cap e :=
  ⟨box_later h.1 hb (Array.getElem?_eq_some_iff.1 h.1).1, hP _ _ _ hb h.2⟩
theorem BB.new {ty : TypeId} {P : World → Value → Prop} (hP : Lasts P) {w : World} {s : Bool} {ao : Option Addr} {n cap : Nat} {e : Int} (h : P w (.agg #[.bool s, .slice ao n cap, .int .i64 e])) : BB ty P (w.alloc (.cells #[.bool s, .slice ao n cap, .int .i64 e] ty)) w.heap.size s ao n cap e :=
  ⟨heap_alloc_new _ _, hP _ _ _ ((Below.refl _ _).alloc (Nat.le_refl _) _) h⟩
theorem ex_step {x i d : Nat} (hd : dg x i = d) : x % B ^ (i + 1) = 0 ↔ (x % B ^ i = 0 ∧ d = 0) := by
  have h := Nat.mod_pow_succ (x := x) (b := B) (k := i)
  have hp : 0 < B ^ i := Nat.pow_pos B_pos
  unfold dg at hd
  rw [h, hd]
  constructor
  · intro h1
    obtain ⟨h1, h2⟩ := Nat.add_eq_zero_iff.1 h1
    rcases Nat.mul_eq_zero.1 h2 with h3 | h3
    · omega
    · exact ⟨h1, h3⟩
  · rintro ⟨h1, h2⟩
    rw [h1, h2]; rfl
theorem ex_last {x k whole part d : Nat} (hw : k / 32 = whole) (hp : k % 32 = part) (hd : dg x whole = d) : x % 2 ^ k = 0 ↔ (x % B ^ whole = 0 ∧ d % 2 ^ part = 0) := by
  have hB : B ^ whole = 2 ^ (32 * whole) := by rw [show B = 2 ^ 32 by rfl, ← Nat.pow_mul]
  have hk : 2 ^ k = B ^ whole * 2 ^ part := by rw [hB, ← Nat.pow_add]; congr 1; omega
  have hpos : 0 < B ^ whole := Nat.pow_pos B_pos
  have hdd : d % 2 ^ part = x / B ^ whole % 2 ^ part := by
    rw [← hd]; unfold dg
    exact Nat.mod_mod_of_dvd _ (by rw [show B = 2 ^ 32 by rfl]; exact Nat.pow_dvd_pow 2 (by omega))
  rw [hk, Nat.mod_mul, hdd]
  constructor
  · intro h1
    obtain ⟨h1, h2⟩ := Nat.add_eq_zero_iff.1 h1
    rcases Nat.mul_eq_zero.1 h2 with h3 | h3
    · omega
    · exact ⟨h1, h3⟩
  · rintro ⟨h1, h2⟩
    rw [h1, h2]; rfl
theorem ex_past {x k n : Nat} (hn : dlen x ≤ n) (hk : n ≤ k / 32) : (x % B ^ n = 0 ↔ x % 2 ^ k = 0) ∧ x / 2 ^ k = 0 := by
  have h1 : x < B ^ n := Nat.lt_of_lt_of_le (lt_dlen x) (Nat.pow_le_pow_right B_pos hn)
  have h2 : B ^ n ≤ 2 ^ k := by rw [show B = 2 ^ 32 by rfl, ← Nat.pow_mul]; exact Nat.pow_le_pow_right (by omega) (by omega)
  rw [Nat.mod_eq_of_lt h1, Nat.mod_eq_of_lt (by omega)]
  exact ⟨Iff.rfl, Nat.div_eq_of_lt (by omega)⟩
theorem ex_bits {d part : Nat} (hd : d < B) (hp : part < 32) : (bits BinOp.and IntKind.u32 (d : Int) ((2 ^ part - 1) % 4294967296) == 0) = decide (d % 2 ^ part = 0) := by
  have h2 : 2 ^ part < 2 ^ 32 := Nat.pow_lt_pow_right (by omega) hp
  have hpos := Nat.two_pow_pos part
  have e1 : (((2 : Int) ^ part - 1) % 4294967296) = ((2 ^ part - 1 : Nat) : Int) := by
    have : ((2 : Int) ^ part) = ((2 ^ part : Nat) : Int) := by simp
    rw [this]; omega
  rw [e1, u32_and_nat d (2 ^ part - 1) (by unfold B at hd; omega) (by omega), Nat.and_two_pow_sub_one_eq_mod]
  generalize d % 2 ^ part = r
  by_cases h : r = 0
  · rw [h]; simp
  · rw [decide_eq_false h]
    have : ((r : Nat) : Int) ≠ 0 := by omega
    simpa using this
theorem ex_ret {a : Value} {b c : Bool} (h : b = c) : Ending.returned (Value.tuple #[a, .bool b]) = .returned (.tuple #[a, .bool c]) := by rw [h]
theorem ex_false {x k i d part : Nat} (he : false = true ↔ x % B ^ i = 0) (hx : x % 2 ^ k = 0 ↔ (x % B ^ i = 0 ∧ d % 2 ^ part = 0)) : false = decide (x % 2 ^ k = 0) := by
  rw [decide_eq_false]
  intro h
  exact absurd (he.2 (hx.1 h).1) (by decide)
theorem ex_true {x k i d part : Nat} (he : True ↔ x % B ^ i = 0) (hx : x % 2 ^ k = 0 ↔ (x % B ^ i = 0 ∧ d % 2 ^ part = 0)) (h0 : d = dg x i) (hd : d < B) (hp : part < 32) : (bits BinOp.and IntKind.u32 ((dg x i : Nat) : Int) ((2 ^ part - 1) % 4294967296) == 0) = decide (x % 2 ^ k = 0) := by
  rw [← h0, ex_bits hd hp]
  refine decide_eq_decide.2 ?_
  rw [hx]
  exact ⟨fun h => ⟨he.1 trivial, h⟩, fun h => h.2⟩
theorem ex_next {x i d : Nat} {bb : Bool} (h : bb = true ↔ x % B ^ i = 0) (hs : x % B ^ (i + 1) = 0 ↔ (x % B ^ i = 0 ∧ d = 0)) : ((bb && ((d : Int) == 0)) = true) ↔ x % B ^ (i + 1) = 0 := by
  rw [hs, ← h]; simp
set_option maxRecDepth 200000 in
theorem r64b_1 (b o cap m whole part x k : Nat) (w : World) (hm0 : 0 < m) (hm : m ≤ 17592186044416) (hk : k ≤ 1099511627776) (hcap : whole + m ≤ cap) (hwh : k / 32 = whole) (hpa : k % 32 = part)
    (hn : dlen x = whole + m) (hcell : ∀ i, i < whole + m → w.cell? ⟨b, o + i, none⟩ = some (.int .u32 (dg x i : Nat))) :
    Calls Tryz.prog 112 #[.slice (some ⟨b, o, none⟩) (whole + m : Nat) cap, .int .i64 k] w fun e w' => ∃ ao cap', e = .returned (.tuple #[.slice ao (dlen (x / 2 ^ k)) cap', .bool (decide (x % 2 ^ k = 0))]) ∧ At w' ao (dlen (x / 2 ^ k)) (x / 2 ^ k) ∧ dlen (x / 2 ^ k) ≤ cap' ∧ Below w.heap.size w w' := by
  have hq : (k : Int).tdiv 32 = ((k / 32 : Nat) : Int) := by rw [Int.tdiv_eq_ediv_of_nonneg (by omega)]; rfl
  have hr : (k : Int).tmod 32 = ((k % 32 : Nat) : Int) := by rw [Int.tmod_eq_emod_of_nonneg (by omega)]; rfl
  have hwb : whole ≤ 1099511627776 := by omega
  have hpb : part < 32 := by omega
  rw [hwh] at hq
  rw [hpa] at hr
  have HN : Hid (dlen x = whole + m) := hn
  have HW : Hid (k / 32 = whole) := hwh
  have HP : Hid (k % 32 = part) := hpa
  clear hn hwh hpa
  have hmi : (whole : Int) < ((whole + m : Nat) : Int) := by omega
  go_enter Tryz.func112, Tryz.ntmps112
  go_wp2
  go_loop [6, 7] (fun a v => ∃ (bb : Bool) (i : Nat), a = .bool bb ∧ v = .int .i64 (i : Int) ∧ i ≤ whole ∧ Hid (bb = true ↔ x % B ^ i = 0)) (fun _ v => whole - (intOf v).toNat)
  case atStart => exact ⟨true, 0, rfl, rfl, Nat.zero_le _, (by rw [Nat.pow_zero, Nat.mod_one]; simp : true = true ↔ x % B ^ 0 = 0)⟩
  case round =>
    obtain ⟨bb, i, rfl, rfl, hi, HE⟩ := hrel
    by_cases hiw : i < whole
    · have g1 := hcell i (by omega)
      have HS : Hid (x % B ^ (i + 1) = 0 ↔ (x % B ^ i = 0 ∧ dg x i = 0)) := ex_step rfl
      generalize dg x i = d at *
      have hii : (i : Int) < (whole : Int) := by omega
      clear hcell
      cases bb
      · go_wp2
        exact ⟨⟨_, i + 1, rfl, by simp, by omega, ex_next HE.out HS.out⟩, by simp [intOf]; omega⟩
      · go_wp2
        exact ⟨⟨_, i + 1, rfl, by simp, by omega, ex_next HE.out HS.out⟩, by simp [intOf]; omega⟩
    · obtain rfl : i = whole := by omega
      clear hiw hi
      have HX : Hid (x % 2 ^ k = 0 ↔ (x % B ^ i = 0 ∧ dg x i % 2 ^ part = 0)) := ex_last HW.out HP.out rfl
      have g0 := hcell i (by omega)
      have HDL : Hid (dg x i < B) := dg_lt _ _
      have HQ : Hid (dg x i = dg x i) := rfl
      obtain ⟨d0, hd0⟩ : ∃ d0, d0 = dg x i := ⟨_, rfl⟩
      rw [← hd0] at g0 HX HDL
      clear HQ
      have HD0 : Hid (d0 = dg x i) := hd0
      clear hd0
      have HC : Hid (∀ i_1 : Nat, i_1 < i + m → w.cell? { block := b, off := o + i_1 } = some (Value.int IntKind.u32 ↑(dg x i_1))) := hcell
      cases bb
      all_goals
        go_wp2_with fail
        clear hq hmi hr hcell g0
        go_loopw [9, 10] (fun v c wr => ∃ j : Nat, j ≤ m ∧ c = .int .i64 ((i : Int) + j) ∧ wr.ownsRow w.heap.size 85 1 v j (cells (x / 2 ^ k) j) ∧ Below w.heap.size w wr) (fun _ c _ => m - (intOf c - i).toNat)
        case atStart => exact ⟨0, Nat.zero_le _, by simp, World.ownsRow_nil .., Below.refl _ _⟩
        case round =>
          obtain ⟨j, hj, rfl, ho, hB⟩ := hrel
          have HO : Hid (wr.ownsRow w.heap.size 85 1 u9 j (cells (x / 2 ^ k) j)) := ho
          have HB : Hid (Below w.heap.size w wr) := hB
          have hbs : w.heap.size ≤ wr.heap.size := hB.size
          by_cases hjn : j + 1 < m
          · have g1 := (hB.cell (World.block_lt_of_cell? _ _ (HC.out (i + j) (by omega)))).trans (HC.out (i + j) (by omega))
            have g4 := (hB.cell (World.block_lt_of_cell? _ _ (HC.out (i + j + 1) (by omega)))).trans (HC.out (i + j + 1) (by omega))
            have hji : (j : Int) + 1 < (m : Int) := by omega
            generalize hd : dg x (i + j) = d at *
            generalize hd1 : dg x (i + j + 1) = d1 at *
            have HD : Hid (dg x (i + j) = d) := hd
            have HD1 : Hid (dg x (i + (j + 1)) = d1) := hd1
            have HL : Hid (d < B ∧ d1 < B) := ⟨hd ▸ dg_lt _ _, hd1 ▸ dg_lt _ _⟩
            clear hd hd1 hB
            obtain ⟨i0, hi0, hz0, hz1, hz2⟩ := info_parts Tryz.info85
            go_wp2_with (at_builtin; refine wpList_append_own _ rfl _ _ 43 rfl w.heap.size 85 i0 (.int .u32 0) 1 4 Tryz.underlying43 hi0 hz0 hz1 hz2 rfl (by decide) _ _ _ rfl (ho.alloc _) ⟨wr.heap.size, 0, none⟩ 1 1 [.int .u32 (bits BinOp.or IntKind.u64 (IntKind.u64.wrap (d : Int)) (IntKind.u64.wrap (IntKind.u64.wrap (d1 : Int) * 4294967296)) / 2 ^ part % 4294967296)] rfl rfl (cell_one_new _ _ _) (by intro u hu; simp at hu; subst hu; rfl) (by unfold maxLen; omega) (by omega) (by simp; omega) ?_)
            intro v' w4 hown4 hgrow _
            go_wp2
            exact r64_round (by rw [shr_word2 HL.out.1 HL.out.2, shr_digit HW.out HP.out, HD.out, HD1.out]) (by omega) HB.out HO.out hown4 hgrow
          · by_cases hjm : j < m
            · have g1 := (hB.cell (World.block_lt_of_cell? _ _ (HC.out (i + j) (by omega)))).trans (HC.out (i + j) (by omega))
              have hji : ¬ (j : Int) + 1 < (m : Int) := by omega
              have hji2 : (j : Int) < (m : Int) := by omega
              generalize hd : dg x (i + j) = d at *
              have HD : Hid (dg x (i + j) = d) := hd
              have HL : Hid (d < B) := hd ▸ dg_lt _ _
              have HZ : Hid (dg x (i + (j + 1)) = 0) := dg_past (by rw [HN.out]; omega)
              clear hd hB
              obtain ⟨i0, hi0, hz0, hz1, hz2⟩ := info_parts Tryz.info85
              go_wp2_with (at_builtin; refine wpList_append_own _ rfl _ _ 43 rfl w.heap.size 85 i0 (.int .u32 0) 1 4 Tryz.underlying43 hi0 hz0 hz1 hz2 rfl (by decide) _ _ _ rfl (ho.alloc _) ⟨wr.heap.size, 0, none⟩ 1 1 [.int .u32 (IntKind.u64.wrap (d : Int) / 2 ^ part % 4294967296)] rfl rfl (cell_one_new _ _ _) (by intro u hu; simp at hu; subst hu; rfl) (by unfold maxLen; omega) (by omega) (by simp; omega) ?_)
              intro v' w4 hown4 hgrow _
              go_wp2
              exact r64_round (by rw [shr_word1 HL.out, shr_digit HW.out HP.out, HD.out, HZ.out, Nat.zero_mul, Nat.add_zero]) (by omega) HB.out HO.out hown4 hgrow
            · obtain rfl : j = m := by omega
              have hL := shr_len (k := k) (m := j) (by rw [HW.out]; exact HN.out)
              obtain ⟨ao', cap', rfl, hc', hA⟩ := at_of_row ho
              have HA : Hid (At wr ao' (dlen (x / 2 ^ k)) (x / 2 ^ k) ∧ dlen (x / 2 ^ k) ≤ cap') := ⟨at_short hA hL, by omega⟩
              have k40 := r40 ao' j cap' (x / 2 ^ k) wr hL hc' (by omega) hA
              clear hB ho hA
              go_wp2_with (first | (go_at_call 111; refine k40.mono ?_; rintro e w' ⟨rfl, rfl⟩))
              refine bodyPost_ret (results_tmp2 rfl _ _ _) rfl ?_
              first | exact ⟨_, _, ex_ret (ex_false HE.out HX.out), HA.out.1, HA.out.2, HB.out⟩ | exact ⟨_, _, ex_ret (ex_true HE.out HX.out HD0.out HDL.out hpb), HA.out.1, HA.out.2, HB.out⟩
set_option maxRecDepth 200000 in
theorem r64n_1 (bo : Option Addr) (b o n cap whole x k : Nat) (w : World) (hn : n ≤ 17592186044416) (hk : k ≤ 1099511627776) (hcap : n ≤ cap) (hwh : k / 32 = whole) (hwn : n ≤ whole) (hbo : 0 < n → bo = some ⟨b, o, none⟩) (hd : dlen x = n)
    (hcell : ∀ i, i < n → w.cell? ⟨b, o + i, none⟩ = some (.int .u32 (dg x i : Nat))) :
    Calls Tryz.prog 112 #[.slice bo n cap, .int .i64 k] w fun e w' => e = .returned (.tuple #[.slice none 0 0, .bool (decide (x % 2 ^ k = 0))]) ∧ w' = w := by
  have hq : (k : Int).tdiv 32 = ((k / 32 : Nat) : Int) := by rw [Int.tdiv_eq_ediv_of_nonneg (by omega)]; rfl
  rw [hwh] at hq
  have HP : Hid ((x % B ^ n = 0 ↔ x % 2 ^ k = 0) ∧ x / 2 ^ k = 0) := ex_past (Nat.le_of_eq hd) (by omega)
  have hwb : whole ≤ 1099511627776 := by omega
  clear hwh hd
  go_enter Tryz.func112, Tryz.ntmps112
  go_wp2
  go_loop [6, 7] (fun a v => ∃ (bb : Bool) (i : Nat), a = .bool bb ∧ v = .int .i64 (i : Int) ∧ i ≤ n ∧ Hid (bb = true ↔ x % B ^ i = 0)) (fun _ v => n - (intOf v).toNat)
  case atStart => exact ⟨true, 0, rfl, rfl, Nat.zero_le _, (by rw [Nat.pow_zero, Nat.mod_one]; simp : true = true ↔ x % B ^ 0 = 0)⟩
  case round =>
    obtain ⟨bb, i, rfl, rfl, hi, HE⟩ := hrel
    by_cases hiw : i < n
    · obtain rfl := hbo (by omega)
      have g1 := hcell i (by omega)
      have HS : Hid (x % B ^ (i + 1) = 0 ↔ (x % B ^ i = 0 ∧ dg x i = 0)) := ex_step rfl
      generalize dg x i = d at *
      have hii : (i : Int) < (whole : Int) := by omega
      have hin : (i : Int) < (n : Int) := by omega
      clear hcell hbo
      cases bb
      · go_wp2
        exact ⟨⟨_, i + 1, rfl, by simp, by omega, ex_next HE.out HS.out⟩, by simp [intOf]; omega⟩
      · go_wp2
        exact ⟨⟨_, i + 1, rfl, by simp, by omega, ex_next HE.out HS.out⟩, by simp [intOf]; omega⟩
    · obtain rfl : i = n := by omega
      have hwi : (i : Int) ≤ (whole : Int) := by omega
      have hii : ¬ (i : Int) < (i : Int) := by omega
      obtain ⟨b2, hb2⟩ : ∃ b2 : Bool, b2 = bb := ⟨_, rfl⟩
      have HE2 : Hid (bb = decide (x % 2 ^ k = 0)) := (by
        have h1 := HE.out; have h2 := HP.out.1
        cases bb
        · rw [decide_eq_false]; intro h; exact absurd (h1.2 (h2.2 h)) (by decide)
        · rw [decide_eq_true (h2.1 (h1.1 rfl))] : bb = decide (x % 2 ^ k = 0))
      clear hcell hbo hiw hi HE hb2 b2
      go_wp2
      refine bodyPost_ret (results_tmp2 rfl _ _ _) rfl ?_
      exact ⟨ex_ret HE2.out, rfl⟩
theorem rdown {v : Value} {x : Nat} {w : World} (h : Ir w v x) (k : Nat) (hx : dlen x ≤ 17592186044416) (hk : k ≤ 1099511627776) :
    Calls Tryz.prog 112 #[v, .int .i64 k] w fun e w' => ∃ ao cap', e = .returned (.tuple #[.slice ao (dlen (x / 2 ^ k)) cap', .bool (decide (x % 2 ^ k = 0))]) ∧ At w' ao (dlen (x / 2 ^ k)) (x / 2 ^ k) ∧ dlen (x / 2 ^ k) ≤ cap' ∧ Below w.heap.size w w' := by
  obtain ⟨ao, cap, rfl, hc, b, o, hb, hcell⟩ := h
  by_cases hlt : k / 32 < dlen x
  · obtain rfl := hb (by omega)
    obtain ⟨m, hm⟩ : ∃ m, dlen x = k / 32 + m := ⟨dlen x - k / 32, by omega⟩
    rw [hm] at hcell hc ⊢
    exact r64b_1 b o cap m _ _ x k w (by omega) (by omega) hk hc rfl rfl hm hcell
  · have hp := ex_past (x := x) (k := k) (Nat.le_refl _) (by omega)
    refine (r64n_1 ao b o (dlen x) cap (k / 32) x k w hx hk hc rfl (by omega) hb rfl hcell).mono ?_
    rintro e w' ⟨rfl, rfl⟩
    rw [hp.2, dlen_zero]
    exact ⟨none, 0, rfl, ⟨0, 0, fun h => by omega, fun i hi => by omega⟩, Nat.le_refl _, Below.refl _ _⟩
end Go.Proofs.YtcoclopllbfjcaaGreatDoor
namespace Go.Proofs.YtcoclopllbfjcaaGreatDoor
set_option linter.unusedVariables false
set_option linter.unusedSimpArgs false
theorem kn_low {R V v1 v2 t r3 d r n : Nat} (hn : 2 ≤ n) (hV : (v1 * B + v2) * B ^ (n - 2) ≤ V) (hR : R < (t * B + r3 + 1) * B ^ (n - 2)) (ht : d * v1 + r = t) (h : r * B + r3 < d * v2) : R < d * V := by
  have h1 : (t * B + r3 + 1) ≤ d * (v1 * B + v2) := by
    have e1 : d * (v1 * B + v2) = (d * v1) * B + d * v2 := by grind
    have e2 : t * B = d * v1 * B + r * B := by rw [← ht, Nat.add_mul]
    omega
  calc R < (t * B + r3 + 1) * B ^ (n - 2) := hR
    _ ≤ d * (v1 * B + v2) * B ^ (n - 2) := Nat.mul_le_mul_right _ h1
    _ = d * ((v1 * B + v2) * B ^ (n - 2)) := Nat.mul_assoc _ _ _
    _ ≤ d * V := Nat.mul_le_mul_left _ hV
theorem kn_high {R V v1 v2 t r3 d r n : Nat} (hn : 2 ≤ n) (hV : V < (v1 * B + v2 + 1) * B ^ (n - 2)) (hR : (t * B + r3) * B ^ (n - 2) ≤ R) (ht : d * v1 + r = t) (hd : d ≤ B) (hv : 1 ≤ v1) (h : d * v2 ≤ r * B + r3) : (d - 1) * V ≤ R := by
  rcases Nat.eq_zero_or_pos d with h0 | h0
  · subst h0; simp
  obtain ⟨c, rfl⟩ : ∃ c, d = c + 1 := ⟨d - 1, by omega⟩
  rw [Nat.add_sub_cancel]
  have hb : c ≤ v1 * B + v2 := by
    have : B ≤ v1 * B := Nat.le_mul_of_pos_left _ hv
    omega
  have h1 : c * (v1 * B + v2 + 1) ≤ t * B + r3 := by
    have e1 : (c + 1) * (v1 * B + v2) = ((c + 1) * v1) * B + (c + 1) * v2 := by grind
    have e2 : t * B = (c + 1) * v1 * B + r * B := by rw [← ht, Nat.add_mul]
    have e3 : (c + 1) * (v1 * B + v2) = c * (v1 * B + v2) + (v1 * B + v2) := by grind
    have e4 : c * (v1 * B + v2 + 1) = c * (v1 * B + v2) + c := by grind
    omega
  calc c * V ≤ c * ((v1 * B + v2 + 1) * B ^ (n - 2)) := Nat.mul_le_mul_left _ (Nat.le_of_lt hV)
    _ = c * (v1 * B + v2 + 1) * B ^ (n - 2) := (Nat.mul_assoc _ _ _).symm
    _ ≤ (t * B + r3) * B ^ (n - 2) := Nat.mul_le_mul_right _ h1
    _ ≤ R := hR
structure Kn (R V v1 t d r : Nat) : Prop where
  sum : d * v1 + r = t
  ge : R < (d + 1) * V
  le : d ≤ B + 1
theorem kn_start {R V v1 v2 t n : Nat} (hn : 1 ≤ n) (hv : 1 ≤ v1) (hh : B ≤ 2 * v1) (hv2 : v2 < B) (hV1 : v1 * B ^ (n - 1) ≤ V) (hR : R < (t + 1) * B ^ (n - 1)) (ht : t ≤ v1 * B + v2) : Kn R V v1 t (t / v1) (t % v1) := by
  have h0 := Nat.div_add_mod t v1
  have h1 := Nat.mod_lt t (show 0 < v1 by omega)
  refine ⟨by rw [Nat.mul_comm]; exact h0, ?_, ?_⟩
  · have h2 : t + 1 ≤ (t / v1 + 1) * v1 := by rw [Nat.add_mul, Nat.one_mul, Nat.mul_comm]; omega
    calc R < (t + 1) * B ^ (n - 1) := hR
      _ ≤ (t / v1 + 1) * v1 * B ^ (n - 1) := Nat.mul_le_mul_right _ h2
      _ = (t / v1 + 1) * (v1 * B ^ (n - 1)) := Nat.mul_assoc _ _ _
      _ ≤ (t / v1 + 1) * V := Nat.mul_le_mul_left _ hV1
  · refine Nat.le_of_lt_succ ((Nat.div_lt_iff_lt_mul (by omega)).2 ?_)
    have : (B + 1).succ * v1 = v1 * B + 2 * v1 := by rw [Nat.succ_eq_add_one]; grind
    rw [this]; omega
theorem Kn.less {R V v1 v2 t d r r3 n : Nat} (h : Kn R V v1 t d r) (hn : 2 ≤ n) (hV : (v1 * B + v2) * B ^ (n - 2) ≤ V) (hR : R < (t * B + r3 + 1) * B ^ (n - 2)) (hq : R < V * B) (hc : B ≤ d ∨ r * B + r3 < d * v2) : Kn R V v1 t (d - 1) (r + v1) ∧ 1 ≤ d := by
  have hd : 1 ≤ d := by
    rcases hc with h | h
    · have := B_pos; omega
    · rcases Nat.eq_zero_or_pos d with h0 | h0
      · rw [h0] at h; omega
      · exact h0
  refine ⟨⟨?_, ?_, ?_⟩, hd⟩
  · have := h.sum
    have e : d * v1 = (d - 1) * v1 + v1 := by
      obtain ⟨c, rfl⟩ : ∃ c, d = c + 1 := ⟨d - 1, by omega⟩
      rw [Nat.add_sub_cancel, Nat.add_mul, Nat.one_mul]
    omega
  · rw [show d - 1 + 1 = d by omega]
    rcases hc with h1 | h1
    · exact Nat.lt_of_lt_of_le hq (by rw [Nat.mul_comm]; exact Nat.mul_le_mul_right _ h1)
    · exact kn_low hn hV hR h.sum h1
  · have := h.le; omega
theorem Kn.done {R V v1 v2 t d r r3 n : Nat} (h : Kn R V v1 t d r) (hn : 2 ≤ n) (hv : 1 ≤ v1) (hv2 : v2 < B) (hV0 : 0 < V) (hV : V < (v1 * B + v2 + 1) * B ^ (n - 2)) (hR : (t * B + r3) * B ^ (n - 2) ≤ R) (hd : d < B) (hc : d * v2 ≤ r * B + r3 ∨ B ≤ r) : R / V ≤ d ∧ d ≤ R / V + 1 := by
  have hc' : d * v2 ≤ r * B + r3 := by
    rcases hc with h | h
    · exact h
    · have h1 : d * v2 ≤ B * B := Nat.mul_le_mul (Nat.le_of_lt hd) (Nat.le_of_lt hv2)
      have h2 : B * B ≤ r * B := Nat.mul_le_mul_right _ h
      omega
  constructor
  · exact Nat.le_of_lt_succ ((Nat.div_lt_iff_lt_mul hV0).2 h.ge)
  · have h1 := kn_high hn hV hR h.sum (Nat.le_of_lt hd) hv hc'
    have := (Nat.le_div_iff_mul_le hV0).2 h1
    omega
theorem Kn.brk {R V v1 v2 t d r : Nat} (h : Kn R V v1 t d r) (hh : B ≤ 2 * v1) (hv2 : v2 < B) (hr : r < B) (ht : t ≤ v1 * B + v2) (hc : B ≤ r + v1) : d - 1 < B := by
  have h1 := h.sum
  have h2 := h.le
  have hB := B_pos
  rcases Nat.lt_or_ge d (B + 1) with h3 | h3
  · omega
  · obtain rfl : d = B + 1 := by omega
    have : (B + 1) * v1 = v1 * B + v1 := by grind
    omega
end Go.Proofs.YtcoclopllbfjcaaGreatDoor
namespace Go.Proofs.YtcoclopllbfjcaaGreatDoor
set_option linter.unusedVariables false
set_option linter.unusedSimpArgs false
open Go.RowKit
theorem div_next (x i : Nat) : x / B ^ i = x / B ^ (i + 1) * B + dg x i := by
  unfold dg
  rw [Nat.pow_succ, ← Nat.div_div_eq_div_mul]
  have := Nat.div_add_mod (x / B ^ i) B
  rw [Nat.mul_comm]; omega
theorem sg_step {x b i r d t : Nat} (hb : 0 < b) (hbB : b < B) (hr : x / B ^ (i + 1) % b = r) (hd : dg x i = d) (ht : r * B + d = t) : t / b = dg (x / b) i ∧ t % b = x / B ^ i % b ∧ t < 18446744073709551616 ∧ t / b < B := by
  have hdB : d < B := hd ▸ dg_lt _ _
  have hrb : r < b := hr ▸ Nat.mod_lt _ hb
  have h1 := div_next x i
  have h2 := Nat.div_add_mod (x / B ^ (i + 1)) b
  rw [hr] at h2
  rw [hd] at h1
  have h3 : x / B ^ i = t + b * (x / B ^ (i + 1) / b * B) := by
    rw [h1, ← ht]
    have e : x / B ^ (i + 1) * B = b * (x / B ^ (i + 1) / b * B) + r * B := by
      conv => lhs; rw [← h2]
      grind
    omega
  have h4 : t < B * b := by
    have : (r + 1) * B ≤ b * B := Nat.mul_le_mul_right _ hrb
    rw [Nat.add_mul, Nat.mul_comm b B] at this
    omega
  have h5 : t / b < B := (Nat.div_lt_iff_lt_mul hb).2 h4
  refine ⟨?_, ?_, ?_, h5⟩
  · unfold dg
    rw [Nat.div_div_eq_div_mul, Nat.mul_comm b, ← Nat.div_div_eq_div_mul, h3, Nat.add_mul_div_left _ _ hb, Nat.add_mul_mod_self_right, Nat.mod_eq_of_lt h5]
  · rw [h3, Nat.add_mul_mod_self_left]
  · have : B * b ≤ B * B := Nat.mul_le_mul_left _ (Nat.le_of_lt hbB)
    have hBB : B * B = 18446744073709551616 := by unfold B; rfl
    omega
theorem sg_word {r d : Nat} (hr : r < B) (hd : d < B) : bits BinOp.or IntKind.u64 (IntKind.u64.wrap ((r : Int) * 4294967296)) (IntKind.u64.wrap (d : Int)) = ((r * B + d : Nat) : Int) := by
  have e : IntKind.u64.wrap ((r : Int) * 4294967296) = ((r * B : Nat) : Int) := by
    rw [IntKind.wrap_u64]; unfold B at *; omega
  rw [wrap_d hd, e, u64_or_nat _ _ (by unfold B at *; omega) (by unfold B at *; omega), or_add (p := 32) (by rw [← B_two]; exact Nat.mul_mod_left ..) hd]
theorem sg_ret {a : Value} {r y : Nat} (h : r = y) (hr : r < B) : Ending.returned (Value.tuple #[a, .int .u32 ((r : Int) % 4294967296)]) = .returned (.tuple #[a, .int .u32 (y : Nat)]) := by
  rw [show ((r : Int) % 4294967296) = (y : Int) by unfold B at hr; omega]
theorem sg_set {w wr : World} {n j t b y : Nat} (h : Mk w wr n (fun t => if j + 1 ≤ t then dg y t else 0)) (h1 : t / b = dg y j) (h2 : t / b < B) (h3 : t < 18446744073709551616) :
    Mk w (wr.setCell ⟨w.heap.size, j, none⟩ (.int .u32 (IntKind.u64.wrap ((t : Int) / (b : Int)) % 4294967296))) n (fun t => if j ≤ t then dg y t else 0) := by
  have e : IntKind.u64.wrap ((t : Int) / (b : Int)) % 4294967296 = ((dg y j : Nat) : Int) := by
    rw [show (t : Int) / (b : Int) = ((t / b : Nat) : Int) from rfl, IntKind.wrap_u64, ← h1]
    generalize t / b = q at *
    unfold B at h2; omega
  rw [e]
  refine (h.set j _).congr fun s hs => ?_
  by_cases h5 : s = j
  · subst h5; simp
  · by_cases h6 : j + 1 ≤ s
    · simp [h5, h6, show j ≤ s by omega]
    · simp [h5, h6, show ¬ j ≤ s by omega]
set_option maxRecDepth 200000 in
theorem rsingle_1 (ao : Option Addr) (ba oa n ca x b : Nat) (w : World) (ha : ao = some ⟨ba, oa, none⟩) (hn0 : 0 < n) (hn : n ≤ 1000000000) (hx : dlen x = n) (hb : 0 < b) (hbB : b < B)
    (hca : ∀ i, i < n → w.cell? ⟨ba, oa + i, none⟩ = some (.int .u32 (dg x i : Nat))) :
    Calls Tryz.prog 172 #[.slice ao n ca, .int .u32 (b : Nat)] w fun e w' => ∃ v, e = .returned (.tuple #[v, .int .u32 (x % b : Nat)]) ∧ Own w' w.heap.size v (x / b) ∧ Below w.heap.size w w' := by
  subst ha
  have hmk := run_make_row' (P := Tryz.prog) 43 85 (.int .u32 0) 4 Tryz.underlying43 Tryz.info85 rfl .i64 .i64 n (by omega) (by omega)
  have HX : Hid (dlen x = n) := hx
  have HB : Hid (0 < b ∧ b < B) := ⟨hb, hbB⟩
  have hbw := wrap_d hbB
  have hb0 : ((b : Int) == 0) = false := by simp; omega
  have hb1 : (b : Int) ≠ 0 := by omega
  have hb2 : (0 : Int) < b := by omega
  clear hx hb hbB
  go_enter Tryz.func172, Tryz.ntmps172
  go_wp2
  clear hmk
  go_loopw [7, 8] (fun r c wr => ∃ i : Nat, i ≤ n ∧ r = .int .u64 (x / B ^ i % b : Nat) ∧ c = .int .i64 ((i : Int) - 1) ∧ Mk w wr n (fun t => if i ≤ t then dg (x / b) t else 0)) (fun _ c _ => (intOf c + 1).toNat)
  case atStart => exact ⟨n, Nat.le_refl _, by rw [Nat.div_eq_of_lt (by rw [← HX.out]; exact lt_dlen x), Nat.zero_mod]; rfl, rfl, (Mk.start w _).congr fun t ht => by rw [if_neg (by omega)]⟩
  case round =>
    obtain ⟨i, hi, rfl, rfl, hO⟩ := hrel
    by_cases hi0 : 0 < i
    · obtain ⟨j, rfl⟩ : ∃ j, i = j + 1 := ⟨i - 1, by omega⟩
      have g1 := hO.old (hca j (by omega))
      have g3 := hO.frozen j
      have g2 := hO.cell (i := j) (by omega)
      rw [if_neg (by omega)] at g2
      have HO : Hid (Mk w wr n (fun t => if j + 1 ≤ t then dg (x / b) t else 0)) := hO
      obtain ⟨d, hd⟩ : ∃ d, dg x j = d := ⟨_, rfl⟩
      obtain ⟨r, hr⟩ : ∃ r, x / B ^ (j + 1) % b = r := ⟨_, rfl⟩
      obtain ⟨t, ht⟩ : ∃ t, r * B + d = t := ⟨_, rfl⟩
      have hs := sg_step HB.out.1 HB.out.2 hr hd ht
      have htw := sg_word (r := r) (d := d) (by have := Nat.mod_lt (x / B ^ (j + 1)) HB.out.1; have := HB.out.2; omega) (hd ▸ dg_lt _ _)
      rw [ht] at htw
      rw [hd] at g1
      rw [hr]
      have HS : Hid (t / b = dg (x / b) j ∧ t % b = x / B ^ j % b ∧ t < 18446744073709551616 ∧ t / b < B) := hs
      have e1 : ((j + 1 : Nat) : Int) - 1 = (j : Int) := by omega
      have hj0 : (0 : Int) ≤ (j : Int) := by omega
      have htl : (t : Int) < 18446744073709551616 := by omega
      clear hs ht hr hd hO hca
      go_wp2
      exact ⟨⟨j, by omega, congrArg (Value.int .u64) (by rw [← HS.out.2.1]; rfl), rfl, sg_set HO.out HS.out.1 HS.out.2.2.2 HS.out.2.2.1⟩, by simp [intOf]⟩
    · obtain rfl : i = 0 := by omega
      have hE : Mk w wr n (dg (x / b)) := hO.congr fun t ht => if_pos (Nat.zero_le _)
      have hA := hE.at
      have hL : dlen (x / b) ≤ n := by rw [← HX.out]; exact dlen_mono (Nat.div_le_self _ _)
      have HC : Hid (Mk w wr n (dg (x / b))) := hE
      have k40 := r40 (some ⟨w.heap.size, 0, none⟩) n n (x / b) wr hL (Nat.le_refl _) (by omega) hA
      have HL : Hid (dlen (x / b) ≤ n) := hL
      obtain ⟨r, hr⟩ : ∃ r, x / B ^ 0 % b = r := ⟨_, rfl⟩
      rw [hr]
      have HR : Hid (r = x % b ∧ r < B) := ⟨by rw [← hr, Nat.pow_zero, Nat.div_one], by have := Nat.mod_lt (x / B ^ 0) HB.out.1; have := HB.out.2; omega⟩
      clear hO hca hE hA hL hr hi0
      go_wp2_with (first | (go_at_call 111; refine k40.mono ?_; rintro e w' ⟨rfl, rfl⟩))
      refine bodyPost_ret (results_tmp2 rfl _ _ _) rfl ?_
      exact ⟨_, sg_ret HR.out.1 HR.out.2, HC.out.own HL.out (by omega), HC.out.below⟩
theorem rsingle {v : Value} {x b : Nat} {w : World} (h : Ir w v x) (hx0 : x ≠ 0) (hx : dlen x ≤ 1000000000) (hb : 0 < b) (hbB : b < B) :
    Calls Tryz.prog 172 #[v, .int .u32 (b : Nat)] w fun e w' => ∃ v, e = .returned (.tuple #[v, .int .u32 (x % b : Nat)]) ∧ Own w' w.heap.size v (x / b) ∧ Below w.heap.size w w' := by
  obtain ⟨ao, ca, rfl, a1, ba, oa, a3, a4⟩ := h
  have hp : 0 < dlen x := Nat.pos_of_ne_zero fun e => hx0 (dlen_eq_zero.1 e)
  exact rsingle_1 ao ba oa _ ca x b w (a3 hp) hp hx rfl hb hbB a4
structure Two (g h : Nat) (w wr : World) (L M : Nat) (f q : Nat → Nat) : Prop where
  os : wr.os = w.os
  tape : wr.tape = w.tape
  output : wr.output = w.output
  size : wr.heap.size = w.heap.size
  block : ∀ k, k ≠ g → k ≠ h → wr.heap[k]? = w.heap[k]?
  ru : RowGe wr g L (fun i => .int .u32 (f i : Nat))
  rq : RowGe wr h M (fun i => .int .u32 (q i : Nat))
theorem Two.congr {g h : Nat} {w wr : World} {L M : Nat} {f q f' q' : Nat → Nat} (t : Two g h w wr L M f q) (e : ∀ i, i < L → f i = f' i) (e' : ∀ i, i < M → q i = q' i) : Two g h w wr L M f' q' :=
  ⟨t.os, t.tape, t.output, t.size, t.block, t.ru.congr (fun i hi => by rw [e i hi]), t.rq.congr (fun i hi => by rw [e' i hi])⟩
theorem Two.drewN {g h : Nat} {w wr : World} {L M : Nat} {f q : Nat → Nat} (t : Two g h w wr L M f q) (n : Nat) : Two g h w (wr.drewN n) L M f q :=
  ⟨t.os, t.tape, t.output, t.size, t.block, t.ru, t.rq⟩
theorem Two.cellU {g h : Nat} {w wr : World} {L M : Nat} {f q : Nat → Nat} (t : Two g h w wr L M f q) {i : Nat} (hi : i < L) : wr.cell? ⟨g, i, none⟩ = some (.int .u32 (f i : Nat)) := t.ru.cell hi
theorem Two.cellQ {g h : Nat} {w wr : World} {L M : Nat} {f q : Nat → Nat} (t : Two g h w wr L M f q) {i : Nat} (hi : i < M) : wr.cell? ⟨h, i, none⟩ = some (.int .u32 (q i : Nat)) := t.rq.cell hi
theorem Two.frozenU {g h : Nat} {w wr : World} {L M : Nat} {f q : Nat → Nat} (t : Two g h w wr L M f q) (i : Nat) : wr.frozen? ⟨g, i, none⟩ = false := t.ru.frozen i
theorem Two.frozenQ {g h : Nat} {w wr : World} {L M : Nat} {f q : Nat → Nat} (t : Two g h w wr L M f q) (i : Nat) : wr.frozen? ⟨h, i, none⟩ = false := t.rq.frozen i
theorem Two.old {g h : Nat} {w wr : World} {L M : Nat} {f q : Nat → Nat} (t : Two g h w wr L M f q) {p : Addr} {u : Value} (h1 : p.block ≠ g) (h2 : p.block ≠ h) (hc : w.cell? p = some u) : wr.cell? p = some u := (World.cell?_of_block (w := w) (t.block p.block h1 h2)).trans hc
theorem Two.below {g h b : Nat} {w wr : World} {L M : Nat} {f q : Nat → Nat} (t : Two g h w wr L M f q) (h1 : b ≤ g) (h2 : b ≤ h) : Below b w wr := ⟨t.os, t.tape, t.output, by rw [t.size]; exact Nat.le_refl _, fun k hk => t.block k (by omega) (by omega)⟩
theorem Two.setU {g h : Nat} {w wr : World} {L M : Nat} {f q : Nat → Nat} (t : Two g h w wr L M f q) (hgh : g ≠ h) (i d : Nat) : Two g h w (wr.setCell ⟨g, i, none⟩ (.int .u32 (d : Nat))) L M (fun j => if j = i then d else f j) q :=
  ⟨t.os, t.tape, t.output, by rw [← t.size]; simp [World.setCell], fun k h1 h2 => (Below.heap_setCell _ _ _ _ h1).trans (t.block k h1 h2), (t.ru.set i _).congr (fun j _ => by split <;> rfl), t.rq.of_block (Below.heap_setCell _ _ _ _ (Ne.symm hgh))⟩
theorem Two.setQ {g h : Nat} {w wr : World} {L M : Nat} {f q : Nat → Nat} (t : Two g h w wr L M f q) (hgh : g ≠ h) (i d : Nat) : Two g h w (wr.setCell ⟨h, i, none⟩ (.int .u32 (d : Nat))) L M f (fun j => if j = i then d else q j) :=
  ⟨t.os, t.tape, t.output, by rw [← t.size]; simp [World.setCell], fun k h1 h2 => (Below.heap_setCell _ _ _ _ h2).trans (t.block k h1 h2), t.ru.of_block (Below.heap_setCell _ _ _ _ hgh), (t.rq.set i _).congr (fun j _ => by split <;> rfl)⟩
theorem Two.putU {g h : Nat} {w wr : World} {L M off j z : Nat} {f q : Nat → Nat} (t : Two g h w wr L M (put off j z f) q) (hgh : g ≠ h) {d : Int} (hd : d = (dg z j : Nat)) : Two g h w (wr.setCell ⟨g, off + j, none⟩ (.int .u32 d)) L M (put off (j + 1) z f) q := by
  subst hd
  refine (t.setU hgh (off + j) _).congr (fun s hs => ?_) (fun _ _ => rfl)
  unfold put
  by_cases e : s = off + j
  · subst e
    rw [if_pos rfl, if_pos (by omega), Nat.add_sub_cancel_left]
  · rw [if_neg e]
    by_cases e2 : off ≤ s ∧ s < off + j
    · rw [if_pos e2, if_pos (by omega)]
    · rw [if_neg e2, if_neg (by omega)]
theorem win_dig {Y V j t : Nat} : dg (Y % (V * B ^ (j + 1))) (j + t) = dg (Y / B ^ j % (V * B)) t := by
  have e : V * B ^ (j + 1) = B ^ j * (V * B) := by rw [Nat.pow_succ]; grind
  rw [← dg_div, e, Nat.mod_mul_right_div_self]
theorem win_low {Y V V' j t : Nat} (h : t < j) (hV : 0 < V) : dg (Y % (V * B ^ j)) t = dg Y t := by
  have h1 : dg (Y % (V * B ^ j) % B ^ j) t = dg (Y % (V * B ^ j)) t := dg_mod h
  rw [← h1, Nat.mod_mul_left_mod, dg_mod h]
theorem win_new {Y V j t : Nat} : dg (Y % (V * B ^ j)) (j + t) = dg (Y / B ^ j % V) t := by
  have e : V * B ^ j = B ^ j * V := Nat.mul_comm _ _
  rw [← dg_div, e, Nat.mod_mul_right_div_self]
theorem win_quo {Y V j : Nat} : Y / B ^ j % (V * B) / V = dg (Y / V) j := by
  unfold dg
  rw [Nat.mod_mul_right_div_self, Nat.div_div_eq_div_mul, Nat.div_div_eq_div_mul, Nat.mul_comm]
theorem win_rest {Y V j : Nat} : Y / B ^ j % (V * B) % V = Y / B ^ j % V := Nat.mod_mul_right_mod _ _ _
theorem top_two {X n : Nat} (hn : 1 ≤ n) (h : X < B ^ (n + 1)) : dg X n * B + dg X (n - 1) = X / B ^ (n - 1) := by
  obtain ⟨m, rfl⟩ : ∃ m, n = m + 1 := ⟨n - 1, by omega⟩
  rw [Nat.add_sub_cancel]
  unfold dg
  rw [Nat.pow_succ, ← Nat.div_div_eq_div_mul]
  have h1 : X / B ^ m / B < B := by
    rw [Nat.div_div_eq_div_mul, ← Nat.pow_succ]
    refine (Nat.div_lt_iff_lt_mul (Nat.pow_pos B_pos)).2 ?_
    rw [Nat.mul_comm, ← Nat.pow_succ]; exact h
  rw [Nat.mod_eq_of_lt h1]
  have := Nat.div_add_mod (X / B ^ m) B
  rw [Nat.mul_comm]; omega
structure Gs (R V v1 v2 t r3 n : Nat) : Prop where
  n2 : 2 ≤ n
  v1p : 1 ≤ v1
  v1h : B ≤ 2 * v1
  v1B : v1 < B
  v2B : v2 < B
  r3B : r3 < B
  V0 : 0 < V
  Vlo : (v1 * B + v2) * B ^ (n - 2) ≤ V
  Vhi : V < (v1 * B + v2 + 1) * B ^ (n - 2)
  Rlo : (t * B + r3) * B ^ (n - 2) ≤ R
  Rhi : R < (t * B + r3 + 1) * B ^ (n - 2)
  V1 : v1 * B ^ (n - 1) ≤ V
  R1 : R < (t + 1) * B ^ (n - 1)
  tle : t ≤ v1 * B + v2
  RV : R < V * B
  tB : t < B * B
theorem div_bounds {X m k : Nat} (h : X / B ^ k = m) : m * B ^ k ≤ X ∧ X < (m + 1) * B ^ k := by
  have hp : 0 < B ^ k := Nat.pow_pos B_pos
  subst h
  exact ⟨Nat.div_mul_le_self _ _, Nat.lt_mul_of_div_lt (Nat.lt_succ_self _) hp⟩
theorem gs_of {R V n : Nat} (hn : 2 ≤ n) (hV : dlen V = n) (hh : B ≤ 2 * dg V (n - 1)) (hR : R < V * B) : Gs R V (dg V (n - 1)) (dg V (n - 2)) (R / B ^ (n - 1)) (dg R (n - 2)) n := by
  have hB := B_pos
  have hVlt : V < B ^ n := hV ▸ lt_dlen V
  have hV0 : 0 < V := Nat.pos_of_ne_zero fun e => by rw [e, dlen_zero] at hV; omega
  have e1 : V / B ^ (n - 2) = dg V (n - 1) * B + dg V (n - 2) := by
    have := top_two (X := V) (n := n - 1) (by omega) (by rw [show n - 1 + 1 = n by omega]; exact hVlt)
    rw [show n - 1 - 1 = n - 2 by omega] at this
    exact this.symm
  have e2 : V / B ^ (n - 1) = dg V (n - 1) := by
    unfold dg
    rw [Nat.mod_eq_of_lt]
    refine (Nat.div_lt_iff_lt_mul (Nat.pow_pos hB)).2 ?_
    rw [Nat.mul_comm, ← Nat.pow_succ, show (n - 1).succ = n by omega]; exact hVlt
  have e3 : R / B ^ (n - 2) = R / B ^ (n - 1) * B + dg R (n - 2) := by
    unfold dg
    have h1 := Nat.div_add_mod (R / B ^ (n - 2)) B
    rw [Nat.div_div_eq_div_mul, ← Nat.pow_succ, show (n - 2).succ = n - 1 by omega] at h1
    rw [Nat.mul_comm]; omega
  obtain ⟨a1, a2⟩ := div_bounds e1
  obtain ⟨b1, b2⟩ := div_bounds e2
  obtain ⟨c1, c2⟩ := div_bounds e3
  obtain ⟨d1, d2⟩ := div_bounds (X := R) (k := n - 1) rfl
  have hn1 : B ^ (n - 1) = B * B ^ (n - 2) := by rw [← Nat.pow_succ']; congr 1; omega
  have ht : R / B ^ (n - 1) ≤ dg V (n - 1) * B + dg V (n - 2) := by
    refine Nat.le_of_lt_succ ((Nat.div_lt_iff_lt_mul (Nat.pow_pos hB)).2 (Nat.lt_of_lt_of_le hR ?_))
    rw [hn1, Nat.mul_comm V B, Nat.mul_left_comm]
    exact Nat.mul_le_mul_left _ (Nat.le_of_lt a2)
  have hv1 := dg_lt V (n - 1)
  have hv2 := dg_lt V (n - 2)
  refine ⟨hn, by omega, hh, hv1, hv2, dg_lt _ _, hV0, a1, a2, c1, c2, b1, d2, ht, hR, ?_⟩
  have : dg V (n - 1) * B + B ≤ B * B := by
    have := Nat.mul_le_mul_right B (show dg V (n - 1) + 1 ≤ B by omega)
    rw [Nat.add_mul, Nat.one_mul] at this
    exact this
  omega
theorem Gs.start {R V v1 v2 t r3 n : Nat} (h : Gs R V v1 v2 t r3 n) : Kn R V v1 t (t / v1) (t % v1) := kn_start (by have := h.n2; omega) h.v1p h.v1h h.v2B h.V1 h.R1 h.tle
theorem Gs.less {R V v1 v2 t r3 n d r : Nat} (h : Gs R V v1 v2 t r3 n) (k : Kn R V v1 t d r) (hc : B ≤ d ∨ r * B + r3 < d * v2) : Kn R V v1 t (d - 1) (r + v1) ∧ 1 ≤ d := k.less h.n2 h.Vlo h.Rhi h.RV hc
theorem Gs.done {R V v1 v2 t r3 n d r : Nat} (h : Gs R V v1 v2 t r3 n) (k : Kn R V v1 t d r) (hd : d < B) (hc : d * v2 ≤ r * B + r3 ∨ B ≤ r) : R / V ≤ d ∧ d ≤ R / V + 1 := k.done h.n2 h.v1p h.v2B h.V0 h.Vhi h.Rlo hd hc
theorem Gs.brk {R V v1 v2 t r3 n d r : Nat} (h : Gs R V v1 v2 t r3 n) (k : Kn R V v1 t d r) (hr : r < B) (hc : B ≤ r + v1) : d - 1 < B := k.brk h.v1h h.v2B hr h.tle hc
theorem sub_word {u y b : Nat} (hu : u < B) (hy : y < B) (hb : b ≤ 1) : ∃ W : Nat, IntKind.u64.wrap (IntKind.u64.wrap ((u : Int) - (y : Int)) - (b : Int)) = (W : Int) ∧ (W : Int) % 4294967296 = (((u + B + B - y - b) % B : Nat) : Int) ∧ (W : Int) / 9223372036854775808 = ((if u < y + b then 1 else 0 : Nat) : Int) := by
  unfold B at *
  rw [IntKind.wrap_u64, IntKind.wrap_u64]
  by_cases h : u < y + b
  · refine ⟨18446744073709551616 + u - y - b, by omega, by omega, ?_⟩
    rw [if_pos h]; omega
  · refine ⟨u - y - b, by omega, by omega, ?_⟩
    rw [if_neg h]; omega
theorem ms_step {R V D s n : Nat} (hD : D < B) (hs : s < n + 1) : ∃ P W c' y b' sd : Nat,
    IntKind.u64.wrap (IntKind.u64.wrap ((D : Int) * ((dg V s : Nat) : Int)) + ((mulc V D s : Nat) : Int)) = (P : Int) ∧ (P : Int) / 4294967296 = (c' : Int) ∧ (P : Int) % 4294967296 = (y : Int) ∧ IntKind.u64.wrap (y : Int) = (y : Int) ∧
    IntKind.u64.wrap (IntKind.u64.wrap (((dg R s : Nat) : Int) - (y : Int)) - ((subb R (V * D) s : Nat) : Int)) = (W : Int) ∧ (W : Int) % 4294967296 = (sd : Int) ∧ (W : Int) / 9223372036854775808 = (b' : Int) ∧
    c' = mulc V D (s + 1) ∧ b' = subb R (V * D) (s + 1) ∧ sd = dg (wsub R (V * D) (n + 1)) s := by
  have hd := dg_lt V s
  have hc := mulc_le V D s
  have hy := dg_lt (V * D) s
  have hf := mac_fits (c := mulc V D s) (f := 0) (d := D) (e := dg V s) (by omega) (by unfold B; omega) hD hd
  have e1 : dg (V * D) s = (mulc V D s + dg V s * D) % B := dg_mul V D s
  have e2 := mulc_succ V D s
  obtain ⟨W, w1, w2, w3⟩ := sub_word (dg_lt R s) hy (subb_le R (V * D) s)
  refine ⟨mulc V D s + dg V s * D, W, _, _, _, _, ?_, ?_, ?_, wrap_d hy, w1, w2, w3, rfl, (subb_succ R (V * D) s).symm, (dg_wsub hs).symm⟩
  · rw [← Int.natCast_mul, Nat.mul_comm D]
    generalize dg V s * D = m at *
    rw [IntKind.wrap_u64, IntKind.wrap_u64]; omega
  · rw [e2]; generalize mulc V D s + dg V s * D = m; unfold B; omega
  · rw [e1]; generalize mulc V D s + dg V s * D = m; unfold B; omega
theorem ms_top {R V D n : Nat} (hD : D < B) (hV : V < B ^ n) (hR : R < B ^ (n + 1)) : ∃ W sd : Nat,
    IntKind.u64.wrap (IntKind.u64.wrap (((dg R n : Nat) : Int) - ((mulc V D n : Nat) : Int)) - ((subb R (V * D) n : Nat) : Int)) = (W : Int) ∧ (W : Int) % 4294967296 = (sd : Int) ∧ ((W : Int) / 9223372036854775808 != 0) = decide (R < V * D) ∧ sd = dg (wsub R (V * D) (n + 1)) n := by
  have hc := mulc_le V D n
  have e1 : dg (V * D) n = mulc V D n := by
    rw [dg_mul, dg_of_lt hV, Nat.zero_mul, Nat.add_zero, Nat.mod_eq_of_lt (by omega)]
  obtain ⟨W, w1, w2, w3⟩ := sub_word (dg_lt R n) (dg_lt (V * D) n) (subb_le R (V * D) n)
  rw [e1] at w1
  refine ⟨W, _, w1, w2, ?_, (dg_wsub (by omega)).symm⟩
  rw [w3, ← subb_succ]
  have hfin : subb R (V * D) (n + 1) = if R < V * D then 1 else 0 := by
    unfold subb
    have hm : V * D < B ^ (n + 1) := by rw [Bpow_succ]; exact Nat.mul_lt_mul_of_lt_of_le hV (Nat.le_of_lt hD) B_pos
    rw [Nat.mod_eq_of_lt hR, Nat.mod_eq_of_lt hm]
  rw [hfin]
  by_cases h : R < V * D <;> simp [h]
theorem ad_step (z V s : Nat) : ∃ T c' sd : Nat, IntKind.u64.wrap (IntKind.u64.wrap (((addc z V s : Nat) : Int) + ((dg z s : Nat) : Int)) + ((dg V s : Nat) : Int)) = (T : Int) ∧ (T : Int) % 4294967296 = (sd : Int) ∧ (T : Int) / 4294967296 = (c' : Int) ∧ c' = addc z V (s + 1) ∧ sd = dg (z + V) s := by
  have h1 := dg_lt z s
  have h2 := dg_lt V s
  have h3 := addc_le z V s
  refine ⟨addc z V s + dg z s + dg V s, _, _, ?_, ?_, ?_, rfl, rfl⟩
  · rw [IntKind.wrap_u64, IntKind.wrap_u64]; unfold B at *; omega
  · rw [dg_add]; generalize addc z V s + dg z s + dg V s = m; unfold B; omega
  · rw [addc_succ]; generalize addc z V s + dg z s + dg V s = m; unfold B; omega
theorem ad_top {z V n : Nat} (hV : V < B ^ n) : ∃ sd : Nat, IntKind.u32.wrap (((dg z n : Nat) : Int) + ((addc z V n : Nat) : Int) % 4294967296) = (sd : Int) ∧ sd = dg (z + V) n := by
  have h1 := dg_lt z n
  have h3 := addc_le z V n
  refine ⟨_, ?_, rfl⟩
  rw [dg_add, dg_of_lt hV, IntKind.wrap_u32]
  unfold B at *; omega
theorem fin_le {R V D n : Nat} (hR : R < B ^ (n + 1)) (h : ¬ R < V * D) (h1 : R / V ≤ D) (hV : 0 < V) : D = R / V ∧ wsub R (V * D) (n + 1) = R % V := by
  have h2 : D ≤ R / V := (Nat.le_div_iff_mul_le hV).2 (by rw [Nat.mul_comm]; omega)
  have h3 : D = R / V := by omega
  refine ⟨h3, ?_⟩
  rw [wsub_of_le hR (by omega), h3]
  have := Nat.div_add_mod R V
  omega
theorem fin_gt {R V D n : Nat} (hR : R < B ^ (n + 1)) (hm : V * D < B ^ (n + 1)) (h : R < V * D) (h1 : D ≤ R / V + 1) (hV : 0 < V) : D = R / V + 1 ∧ wsub R (V * D) (n + 1) + V = R % V + B ^ (n + 1) := by
  have h2 : R / V < D := (Nat.div_lt_iff_lt_mul hV).2 (by rw [Nat.mul_comm]; exact h)
  have h3 : D = R / V + 1 := by omega
  refine ⟨h3, ?_⟩
  unfold wsub
  rw [Nat.mod_eq_of_lt hm, Nat.mod_eq_of_lt (by omega)]
  have := Nat.div_add_mod R V
  have e : V * D = V * (R / V) + V := by rw [h3, Nat.mul_add, Nat.mul_one]
  have hp := Nat.mod_lt R hV
  omega
theorem dg_plus {x n t : Nat} (h : t < n) : dg (x + B ^ n) t = dg x t := by
  rw [← dg_mod h, Nat.add_mod_right, dg_mod h]
theorem fin_row {Y V R j n z : Nat} {f : Nat → Nat} (hV0 : 0 < V) (hV : V < B ^ n) (hR : R = Y / B ^ j % (V * B)) (hRB : R < B ^ (n + 1)) (hz : ∀ t, t < n + 1 → dg z t = dg (R % V) t) (hf : ∀ i, f i = if j ≤ i ∧ i < j + (n + 1) then dg z (i - j) else dg (Y % (V * B ^ (j + 1))) i) (i : Nat) : f i = dg (Y % (V * B ^ j)) i := by
  rw [hf]
  by_cases h1 : i < j
  · rw [if_neg (by omega), win_low (V' := 0) (by omega) hV0, win_low (V' := 0) h1 hV0]
  · obtain ⟨t, rfl⟩ : ∃ t, i = j + t := ⟨i - j, by omega⟩
    rw [Nat.add_sub_cancel_left, win_new, win_dig, ← hR]
    by_cases h2 : t < n + 1
    · rw [if_pos (by omega), hz t h2, hR, win_rest]
    · rw [if_neg (by omega), dg_of_lt (Nat.lt_of_lt_of_le hRB (Nat.pow_le_pow_right B_pos (by omega)))]
      refine (dg_of_lt (Nat.lt_of_lt_of_le (Nat.mod_lt _ hV0) (Nat.le_of_lt (Nat.lt_of_lt_of_le hV (Nat.pow_le_pow_right B_pos (by omega)))))).symm
end Go.Proofs.YtcoclopllbfjcaaGreatDoor
