/- Own work: contracts of the program's functions, part C2. -/
import Derived.Test.YtceoeiojoffnnaaGreatDoorA16
import Derived.Test.YtceoeiojoffnnaaGreatDoorA5

/- The document's size, Valid, kept. -/
namespace Go.Proofs.YtceoeiojoffnnaaGreatDoor
set_option linter.unusedVariables false
set_option linter.unusedSimpArgs false
open Go.RowKit Go.Fl64

theorem bl_half {x : Nat} (h : x ≠ 0) : bl x = bl (x / 2) + 1 := by
  have h1 := lt_bl (x / 2)
  apply bl_eq
  · rw [Nat.pow_succ]; omega
  · refine .inr ?_
    rw [Nat.add_sub_cancel]
    by_cases h2 : x / 2 = 0
    · rw [h2]
      have : bl 0 = 0 := by unfold bl; simp
      rw [this]; omega
    · have h3 := le_bl h2
      have h4 : bl (x / 2) ≠ 0 := by unfold bl; rw [if_neg h2]; omega
      obtain ⟨k, hk⟩ : ∃ k, bl (x / 2) = k + 1 := ⟨bl (x / 2) - 1, by omega⟩
      rw [hk] at h3 ⊢
      rw [Nat.add_sub_cancel] at h3
      rw [Nat.pow_succ]; omega

set_option maxRecDepth 200000 in
theorem r42 (b o n cap x : Nat) (w : World) (hn0 : 0 < n) (hn : n ≤ 1000000000) (hx : dlen x = n) (hcell : ∀ i, i < n → w.cell? ⟨b, o + i, none⟩ = some (.int .u32 (dg x i : Nat))) :
    Calls Tryz.prog 42 #[.slice (some ⟨b, o, none⟩) n cap] w fun e w' => e = .returned (.int .i64 (bl x : Nat)) ∧ w' = w := by
  have hx0 : x ≠ 0 := by intro e; subst e; rw [dlen_zero] at hx; omega
  have hbt := bl_top hx0
  have hlt := dg_lt x (n - 1)
  have g := hcell (n - 1) (by omega)
  rw [hx] at hbt
  obtain ⟨k, rfl⟩ : ∃ k, n = k + 1 := ⟨n - 1, by omega⟩
  rw [Nat.add_sub_cancel] at hbt hlt g
  generalize hd : dg x k = d at *
  have HB : Hid (bl x = 32 * k + bl d ∧ d < 4294967296) := ⟨hbt, hlt⟩
  have hn0' : (((k + 1 : Nat) : Int) == 0) = false := by simp; omega
  clear hcell hbt hlt hx hx0 hd
  go_enter Tryz.func42, Tryz.ntmps42
  go_wp2
  go_loop [3, 4] (fun c t => ∃ (j u : Nat), c = .int .i64 (32 * (k : Int) + j) ∧ t = .int .u32 (u : Int) ∧ Hid (bl d = j + bl u ∧ u < 4294967296) ∧ j ≤ 32) (fun _ t => (intOf t).toNat)
  case atStart => exact ⟨0, d, by simp, rfl, ⟨by omega, HB.out.2⟩, by omega⟩
  case round =>
    obtain ⟨j, u, rfl, rfl, HU, hj⟩ := hrel
    by_cases hu : u = 0
    · subst hu
      have e : bl x = 32 * k + j := by
        have h1 := HU.out.1
        have : bl 0 = 0 := by unfold bl; simp
        rw [this] at h1
        have := HB.out.1
        omega
      have HE : Hid (((bl x : Nat) : Int) = 32 * (k : Int) + j) := (by rw [e]; simp : ((bl x : Nat) : Int) = 32 * (k : Int) + j)
      clear e
      go_wp2
      go_ret
      rw [HE.out]
      exact ⟨rfl, rfl⟩
    · have hu0 : 0 < (u : Int) := by omega
      have hb := bl_half hu
      have hj' : j + 1 ≤ 32 := by
        have h1 := HU.out.1
        have := bl_le32 (x := d) HB.out.2
        omega
      have HN : Hid (bl d = (j + 1) + bl (u / 2) ∧ u / 2 < 4294967296) := ⟨by have := HU.out.1; omega, by have := HU.out.2; omega⟩
      clear hb
      go_wp2
      exact ⟨⟨j + 1, u / 2, by congr 1, by simp, HN, hj'⟩, by simp [intOf]; omega⟩

set_option maxHeartbeats 4000000 in
set_option maxRecDepth 200000 in
theorem r17 (s : Bool) (b o n cap z : Nat) (e : Int) (w : World) (hn0 : 0 < n) (hn : n ≤ 1000000000) (hz : dlen z = n) (hodd : z % 2 = 1) (hcell : ∀ i, i < n → w.cell? ⟨b, o + i, none⟩ = some (.int .u32 (dg z i : Nat))) :
    Calls Tryz.prog 17 #[.agg #[.bool s, .slice (some ⟨b, o, none⟩) n cap, .int .i64 e]] w fun r w' => r = .returned (.bool (decide (n ≤ 2048) && decide (-65536 ≤ e) && decide (e ≤ 65536))) ∧ Below w.heap.size w w' := by
  have hz0 : z ≠ 0 := by intro e; subst e; simp at hodd
  obtain ⟨W, hW⟩ : ∃ W, W = w.alloc (.cells #[.bool s, .slice (some ⟨b, o, none⟩) n cap, .int .i64 e] 29) := ⟨_, rfl⟩
  have hBW : Below w.heap.size w W := by rw [hW]; exact (Below.refl _ _).alloc (Nat.le_refl _) _
  have hbx : W.heap[w.heap.size]? = some (.cells #[.bool s, .slice (some ⟨b, o, none⟩) n cap, .int .i64 e] 29 (0, 0)) := by rw [hW]; exact heap_alloc_new _ _
  have hc : ∀ i, i < n → W.cell? ⟨b, o + i, none⟩ = some (.int .u32 (dg z i : Nat)) := fun i hi => (hBW.cell (World.block_lt_of_cell? _ _ (hcell i hi))).trans (hcell i hi)
  have k42 := r42 b o n cap z W hn0 hn hz hc
  obtain ⟨⟨a0, a1, a2⟩, -⟩ := box_cells29 hbx
  have g1 := hc (n - 1) (by omega)
  have g0 : W.cell? ⟨b, o, none⟩ = some (.int .u32 (dg z 0 : Nat)) := hc 0 hn0
  have ht : dg z (n - 1) ≠ 0 := by rw [← hz]; exact dg_top hz0
  have hlow : dg z 0 % 2 = 1 := by
    unfold dg
    simp only [Nat.pow_zero, Nat.div_one]
    unfold B
    omega
  have hand := and_one32 (dg z 0) (dg_lt z 0)
  rw [hlow, show ((1 : Nat) : Int) = 1 from rfl] at hand
  have hbl : bl z ≤ 32 * n := by
    have h1 := bl_top hz0
    have h2 := bl_le32 (dg_lt z (dlen z - 1))
    rw [hz] at h1 h2
    omega
  obtain ⟨k, rfl⟩ : ∃ k, n = k + 1 := ⟨n - 1, by omega⟩
  rw [Nat.add_sub_cancel] at g1 ht
  generalize dg z k = d1 at *
  generalize dg z 0 = d0 at *
  generalize bl z = L at *
  have t1 : ((d1 : Int) != 0) = true := by simp; omega
  have hn0' : (((k + 1 : Nat) : Int) == 0) = false := by simp; omega
  have HB : Hid (Below w.heap.size w W) := hBW
  clear hcell hc hbx hBW hlow hz hodd hz0 ht
  rw [hW] at a0 a1 a2 g0 g1
  have hn1 : ((k : Int) + 1 == 0) = false := by simp; omega
  by_cases c1 : k + 1 ≤ 2048
  · have hL : (L : Int) ≤ 65536 := by omega
    have c1' : (k : Int) + 1 ≤ 2048 := by omega
    by_cases c2 : -65536 ≤ e
    · by_cases c3 : e ≤ 65536
      · rw [decide_eq_true c1, decide_eq_true c2, decide_eq_true c3]
        have t3 : decide (e ≤ 65536) = true := decide_eq_true c3
        go_enter Tryz.func17, Tryz.ntmps17
        go_wp2_with fail
        rw [← hW]
        refine k42.mono ?_
        rintro r w' ⟨rfl, hw'⟩
        rw [hw']
        clear hw' k42
        rw [← hW] at a0 a1 a2
        clear hW g0 g1
        go_wp2_with fail
        go_ret
        exact ⟨rfl, HB.out⟩
      · rw [decide_eq_true c1, decide_eq_true c2, decide_eq_false c3]
        have t3 : decide (e ≤ 65536) = false := decide_eq_false c3
        go_enter Tryz.func17, Tryz.ntmps17
        go_wp2_with fail
        rw [← hW]
        refine k42.mono ?_
        rintro r w' ⟨rfl, hw'⟩
        rw [hw']
        clear hw' k42
        rw [← hW] at a0 a1 a2
        clear hW g0 g1
        go_wp2_with fail
        go_ret
        exact ⟨rfl, HB.out⟩
    · rw [decide_eq_true c1, decide_eq_false c2]
      go_enter Tryz.func17, Tryz.ntmps17
      go_wp2_with fail
      rw [← hW]
      refine k42.mono ?_
      rintro r w' ⟨rfl, hw'⟩
      rw [hw']
      clear hw' k42
      rw [← hW] at a0 a1 a2
      clear hW g0 g1
      go_wp2_with fail
      go_ret
      exact ⟨rfl, HB.out⟩
  · have c1' : ¬ (k : Int) + 1 ≤ 2048 := by omega
    rw [decide_eq_false c1]
    go_enter Tryz.func17, Tryz.ntmps17
    go_wp2_with fail
    rw [← hW]
    go_ret
    exact ⟨rfl, HB.out⟩
end Go.Proofs.YtceoeiojoffnnaaGreatDoor

/- The document's kept and Make. -/
namespace Go.Proofs.YtceoeiojoffnnaaGreatDoor
set_option linter.unusedVariables false
set_option linter.unusedSimpArgs false
open Go.RowKit Go.Fl64

theorem two29 {w W : World} (a b : Obj) (hW : W = (w.alloc a).alloc b) : W.heap[w.heap.size]? = some a ∧ W.heap[w.heap.size + 1]? = some b ∧ W.heap.size = w.heap.size + 1 + 1 ∧ Below w.heap.size w W := by
  subst hW
  refine ⟨?_, ?_, by simp, ((Below.refl _ _).alloc (Nat.le_refl _) _).alloc (by simp) _⟩
  · rw [Below.heap_alloc _ _ _ (by simp)]; exact heap_alloc_new _ _
  · have := heap_alloc_new (w.alloc a) b
    simpa using this

set_option maxRecDepth 200000 in
theorem r41 (s : Bool) (ao : Option Addr) (n cap : Nat) (e : Int) (V : Bool) (w : World)
    (k17 : ∀ W, Below w.heap.size w W → Calls Tryz.prog 17 #[.agg #[.bool s, .slice ao n cap, .int .i64 e]] W fun r w' => r = .returned (.bool V) ∧ Below W.heap.size W w') :
    Calls Tryz.prog 41 #[.agg #[.bool s, .slice ao n cap, .int .i64 e]] w fun r w' => r = .returned (.tuple #[if V then .agg #[.bool s, .slice ao n cap, .int .i64 e] else .agg #[.bool false, .slice none 0 0, .int .i64 0], .int .i64 (if V then 0 else 2)]) ∧ Below w.heap.size w w' := by
  obtain ⟨W, hW⟩ : ∃ W, W = (w.alloc (.cells #[.bool s, .slice ao n cap, .int .i64 e] 29)).alloc (.cells #[.bool false, .slice none 0 0, .int .i64 0] 29) := ⟨_, rfl⟩
  obtain ⟨hA, hB, hsz, hBW⟩ := two29 _ _ hW
  have k := k17 W hBW
  obtain ⟨⟨a0, a1, a2⟩, -⟩ := box_cells29 hA
  rw [hW] at a0 a1 a2
  have HX : Hid (Below w.heap.size w W ∧ W.heap.size = w.heap.size + 1 + 1 ∧ W.heap[w.heap.size]? = some (.cells #[.bool s, .slice ao n cap, .int .i64 e] 29 (0, 0)) ∧ W.heap[w.heap.size + 1]? = some (.cells #[.bool false, .slice none 0 0, .int .i64 0] 29 (0, 0))) := ⟨hBW, hsz, hA, hB⟩
  clear k17 hA hB hsz hBW
  go_enter Tryz.func41, Tryz.ntmps41
  go_wp2_with fail
  rw [← hW]
  clear hW a0 a1 a2
  refine k.mono ?_
  rintro r w1 ⟨rfl, hb1⟩
  have HA : Hid (w1.heap[w.heap.size]? = some (.cells #[.bool s, .slice ao n cap, .int .i64 e] 29 (0, 0))) := box_later HX.out.2.2.1 hb1 (by have := HX.out.2.1; omega)
  have HBx : Hid (w1.heap[w.heap.size + 1]? = some (.cells #[.bool false, .slice none 0 0, .int .i64 0] 29 (0, 0))) := box_later HX.out.2.2.2 hb1 (by have := HX.out.2.1; omega)
  have HB1 : Hid (Below w.heap.size w w1) := HX.out.1.trans (hb1.mono HX.out.1.size)
  obtain ⟨⟨a0, a1, a2⟩, -⟩ := box_cells29 HA.out
  obtain ⟨⟨b0, b1, b2⟩, b3, b4, b5⟩ := box_cells29 HBx.out
  clear k hb1
  cases V
  · go_wp2_with fail
    refine bodyPost_ret (results_cell_tmp_row rfl _ _ (w.heap.size + 1) 29 #[.bool false, .slice none 0 0, .int .i64 0] (0, 0) _ rfl (store3_29 _ _ _ HBx.out) Tryz.underlying29 rfl Tryz.info29) rfl ?_
    exact ⟨rfl, below_store3 HB1.out (by omega) _ _ _⟩
  · go_wp2_with fail
    refine bodyPost_ret (results_cell_tmp_row rfl _ _ (w.heap.size + 1) 29 #[.bool s, .slice ao n cap, .int .i64 e] (0, 0) _ rfl (store3_29 _ _ _ HBx.out) Tryz.underlying29 rfl Tryz.info29) rfl ?_
    exact ⟨rfl, below_store3 HB1.out (by omega) _ _ _⟩

set_option maxRecDepth 200000 in
theorem r16_0 (neg : Bool) (ao : Option Addr) (n cap : Nat) (e : Int) (w : World) (h : At w ao n 0) (hn : n ≤ cap) (hc : n ≤ 70368744177664) :
    Calls Tryz.prog 16 #[.bool neg, .slice ao n cap, .int .i64 e] w fun r w' => r = .returned (.tuple #[.agg #[.bool false, .slice none 0 0, .int .i64 0], .int .i64 0]) ∧ Below w.heap.size w w' := by
  have HB : Hid (Below w.heap.size w (w.alloc (.cells #[.bool false, .slice none 0 0, .int .i64 0] 29))) := (Below.refl _ _).alloc (Nat.le_refl _) _
  have k := r40 ao n cap 0 (w.alloc (.cells #[.bool false, .slice none 0 0, .int .i64 0] 29)) (by rw [dlen_zero]; omega) hn hc (h.later HB.out)
  rw [dlen_zero] at k
  clear h
  go_enter Tryz.func16, Tryz.ntmps16
  go_wp2_with fail
  refine k.mono ?_
  rintro e w1 ⟨rfl, rfl⟩
  go_wp2
  refine bodyPost_ret (results_cell_tmp_row rfl _ _ w.heap.size 29 #[.bool false, .slice none 0 0, .int .i64 0] (0, 0) _ rfl (heap_alloc_new _ _) Tryz.underlying29 rfl Tryz.info29) rfl ?_
  exact ⟨rfl, HB.out⟩

theorem tz_in {x : Nat} (hx0 : x ≠ 0) : tz x / 32 < dlen x := by
  have h1 := (tz_spec _ x (Nat.le_refl _) hx0)
  have h2 : 2 ^ tz x ≤ x := by
    have h3 : 1 ≤ x / 2 ^ tz x := Nat.pos_of_ne_zero fun e0 => by have := h1.2; rw [e0] at this; simp at this
    have := Nat.mul_le_mul_left (2 ^ tz x) h3
    omega
  have h4 := lt_bl x
  have h5 : tz x < bl x := Nat.lt_of_not_le fun h6 => by
    have := Nat.pow_le_pow_right (n := 2) (by omega) h6
    omega
  have hd0 : dlen x ≠ 0 := fun e => hx0 (dlen_eq_zero.1 e)
  have := bl_top hx0
  have := bl_le32 (dg_lt x (dlen x - 1))
  omega

set_option maxHeartbeats 4000000 in
set_option maxRecDepth 200000 in
theorem r16_1 (neg : Bool) (ao : Option Addr) (n cap x : Nat) (e : Int) (w : World) (h : At w ao n x) (hxn : dlen x ≤ n) (hn : n ≤ cap) (hc : n ≤ 1000000000) (hx0 : x ≠ 0) (he : -9223372036854775808 ≤ e ∧ e ≤ 9223372036854775807) (hbad : e < -65536 - (tz x : Int) ∨ 65536 - (tz x : Int) < e) :
    Calls Tryz.prog 16 #[.bool neg, .slice ao n cap, .int .i64 e] w fun r w' => r = .returned (.tuple #[.agg #[.bool false, .slice none 0 0, .int .i64 0], .int .i64 2]) ∧ Below w.heap.size w w' := by
  obtain ⟨w0, hw0⟩ : ∃ w0, w0 = w.alloc (.cells #[.bool false, .slice none 0 0, .int .i64 0] 29) := ⟨_, rfl⟩
  have hB0 : Below w.heap.size w w0 := by rw [hw0]; exact (Below.refl _ _).alloc (Nat.le_refl _) _
  have h0 := h.later hB0
  have k40 := r40 ao n cap x w0 hxn hn (by omega) h0
  have htz := tz_in hx0
  have hs := at_short h0 hxn
  have hl0 : 0 < dlen x := by omega
  have hn0 : ((dlen x : Int) == 0) = false := by simp; omega
  have HS : Hid (At w0 ao (dlen x) x) := hs
  have HH : Hid (w0.heap[w.heap.size]? = some (.cells #[.bool false, .slice none 0 0, .int .i64 0] 29 (0, 0))) := (by rw [hw0]; exact heap_alloc_new _ _ : w0.heap[w.heap.size]? = some (.cells #[.bool false, .slice none 0 0, .int .i64 0] 29 (0, 0)))
  have HB0 : Hid (Below w.heap.size w w0) := hB0
  have HX : Hid (w0.heap.size = w.heap.size + 1) := (by rw [hw0]; simp : w0.heap.size = w.heap.size + 1)
  have HT : Hid (tz x / 32 < dlen x ∧ x ≠ 0) := ⟨htz, hx0⟩
  obtain ⟨he1, he2⟩ := he
  have hlb : dlen x ≤ 1000000000 := by omega
  clear h h0 hB0 hs hxn hn hx0
  generalize hL : dlen x = L at *
  generalize htzx : tz x = T at *
  have HTZ : Hid (tz x = T ∧ dlen x = L) := ⟨htzx, hL⟩
  clear htzx hL
  have hTb : T ≤ 40000000000 := by omega
  go_enter Tryz.func16, Tryz.ntmps16
  go_wp2_with fail
  rw [← hw0]
  clear hw0
  refine k40.mono ?_
  rintro r w1 ⟨rfl, rfl⟩
  clear k40
  go_wp2_with fail
  go_loop [9] (fun v => ∃ t : Nat, t ≤ T ∧ v = .int .i64 (t : Int)) (fun v => T - (intOf v).toNat)
  case atStart => exact ⟨0, Nat.zero_le _, rfl⟩
  case round =>
    obtain ⟨t, ht, rfl⟩ := hrel
    obtain ⟨b, o, hb, hcell⟩ := HS.out
    obtain rfl := hb (by omega)
    have hq : (t : Int).tdiv 32 = ((t / 32 : Nat) : Int) := by rw [Int.tdiv_eq_ediv_of_nonneg (by omega)]; rfl
    have hr : (t : Int).tmod 32 = ((t % 32 : Nat) : Int) := by rw [Int.tmod_eq_emod_of_nonneg (by omega)]; rfl
    have htl : t / 32 < L := by omega
    have g1 := hcell (t / 32) htl
    have hpb : t % 32 < 32 := by omega
    generalize hi : t / 32 = i at *
    generalize hp : t % 32 = p at *
    generalize hd : dg x i = d at *
    have HI : Hid (t / 32 = i ∧ t % 32 = p ∧ dg x i = d) := ⟨hi, hp, hd⟩
    have hbit := bit_tz HTZ.out.1 HT.out.2 ht HI.out
    clear hi hp hd hcell hb
    by_cases htt : t < T
    · rw [decide_eq_true htt] at hbit
      go_wp2_with fail
      exact ⟨⟨t + 1, by omega, by simp⟩, by simp [intOf]; omega⟩
    · rw [decide_eq_false htt] at hbit
      obtain rfl : t = T := by omega
      clear htt ht
      obtain ⟨⟨a0, a1, a2⟩, a3, a4, a5⟩ := box_cells29 HH.out
      rcases hbad with hbad | hbad
      · go_wp2_with fail
        refine bodyPost_ret (results_cell_tmp_row rfl _ _ w.heap.size 29 #[.bool false, .slice none 0 0, .int .i64 0] (0, 0) _ rfl (store3_29 _ _ _ HH.out) Tryz.underlying29 rfl Tryz.info29) rfl ?_
        exact ⟨rfl, below_store3 HB0.out (Nat.le_refl _) _ _ _⟩
      · have hbad2 : ¬ e < -65536 - (t : Int) := by omega
        go_wp2_with fail
        refine bodyPost_ret (results_cell_tmp_row rfl _ _ w.heap.size 29 #[.bool false, .slice none 0 0, .int .i64 0] (0, 0) _ rfl (store3_29 _ _ _ HH.out) Tryz.underlying29 rfl Tryz.info29) rfl ?_
        exact ⟨rfl, below_store3 HB0.out (Nat.le_refl _) _ _ _⟩
/-- what the document's Make answers of digits that are not all noughts -/
def Mk29 (w w' : World) (neg V : Bool) (y : Nat) (E : Int) (r : Ending) : Prop :=
  ∃ g cap, r = .returned (.tuple #[if V then .agg #[.bool neg, .slice (some ⟨g, 0, none⟩) (dlen y) cap, .int .i64 E] else .agg #[.bool false, .slice none 0 0, .int .i64 0], .int .i64 (if V then 0 else 2)]) ∧ w.heap.size < g ∧ At w' (some ⟨g, 0, none⟩) (dlen y) y
theorem lt_of_box' {w : World} {g : Nat} {o : Obj} (h : w.heap[g]? = some o) : g < w.heap.size := (Array.getElem?_eq_some_iff.1 h).1

set_option maxHeartbeats 4000000 in
set_option maxRecDepth 200000 in
theorem r16_2 (neg : Bool) (ao : Option Addr) (n cap x : Nat) (e : Int) (w : World) (h : At w ao n x) (hxn : dlen x ≤ n) (hn : n ≤ cap) (hc : n ≤ 1000000000) (hx0 : x ≠ 0) (he : -9223372036854775808 ≤ e ∧ e ≤ 9223372036854775807) (hge : -65536 ≤ e + (tz x : Int)) (hle : e + (tz x : Int) ≤ 65536) (V : Bool) (hV : decide (dlen (x / 2 ^ tz x) ≤ 2048) = V) :
    Calls Tryz.prog 16 #[.bool neg, .slice ao n cap, .int .i64 e] w fun r w' => Mk29 w w' neg V (x / 2 ^ tz x) (e + tz x) r ∧ Below w.heap.size w w' := by
  obtain ⟨w0, hw0⟩ : ∃ w0, w0 = w.alloc (.cells #[.bool false, .slice none 0 0, .int .i64 0] 29) := ⟨_, rfl⟩
  have hB0 : Below w.heap.size w w0 := by rw [hw0]; exact (Below.refl _ _).alloc (Nat.le_refl _) _
  have h0 := h.later hB0
  have k40 := r40 ao n cap x w0 hxn hn (by omega) h0
  have htz := tz_in hx0
  have hs := at_short h0 hxn
  have k34 := r34_1 neg ao (dlen x) cap x e w0 hs (Nat.le_refl _) (by omega) (by omega) hx0 (by omega)
  have hyo : x / 2 ^ tz x % 2 = 1 := (tz_spec _ x (Nat.le_refl _) hx0).2
  have hyl : dlen (x / 2 ^ tz x) ≤ dlen x := dlen_mono (Nat.div_le_self ..)
  have HV : Hid (decide (dlen (x / 2 ^ tz x) ≤ 2048) = V ∧ x / 2 ^ tz x % 2 = 1 ∧ dlen (x / 2 ^ tz x) ≤ dlen x ∧ -65536 ≤ e + (tz x : Int) ∧ e + (tz x : Int) ≤ 65536) := ⟨hV, hyo, hyl, hge, hle⟩
  clear hV hyo hyl
  have hl0 : 0 < dlen x := by omega
  have hn0 : ((dlen x : Int) == 0) = false := by simp; omega
  have HS : Hid (At w0 ao (dlen x) x) := hs
  have HH : Hid (w0.heap[w.heap.size]? = some (.cells #[.bool false, .slice none 0 0, .int .i64 0] 29 (0, 0))) := (by rw [hw0]; exact heap_alloc_new _ _ : w0.heap[w.heap.size]? = some (.cells #[.bool false, .slice none 0 0, .int .i64 0] 29 (0, 0)))
  have HB0 : Hid (Below w.heap.size w w0) := hB0
  have HX : Hid (w0.heap.size = w.heap.size + 1) := (by rw [hw0]; simp : w0.heap.size = w.heap.size + 1)
  have HT : Hid (tz x / 32 < dlen x ∧ x ≠ 0) := ⟨htz, hx0⟩
  obtain ⟨he1, he2⟩ := he
  have hlb : dlen x ≤ 1000000000 := by omega
  clear h h0 hB0 hs hxn hn hx0
  generalize hL : dlen x = L at *
  generalize htzx : tz x = T at *
  have HTZ : Hid (tz x = T ∧ dlen x = L) := ⟨htzx, hL⟩
  clear htzx hL
  have hTb : T ≤ 40000000000 := by omega
  go_enter Tryz.func16, Tryz.ntmps16
  go_wp2_with fail
  rw [← hw0]
  clear hw0
  refine k40.mono ?_
  rintro r w1 ⟨rfl, rfl⟩
  clear k40
  go_wp2_with fail
  go_loop [9] (fun v => ∃ t : Nat, t ≤ T ∧ v = .int .i64 (t : Int)) (fun v => T - (intOf v).toNat)
  case atStart => exact ⟨0, Nat.zero_le _, rfl⟩
  case round =>
    obtain ⟨t, ht, rfl⟩ := hrel
    obtain ⟨b, o, hb, hcell⟩ := HS.out
    obtain rfl := hb (by omega)
    have hq : (t : Int).tdiv 32 = ((t / 32 : Nat) : Int) := by rw [Int.tdiv_eq_ediv_of_nonneg (by omega)]; rfl
    have hr : (t : Int).tmod 32 = ((t % 32 : Nat) : Int) := by rw [Int.tmod_eq_emod_of_nonneg (by omega)]; rfl
    have htl : t / 32 < L := by omega
    have g1 := hcell (t / 32) htl
    have hpb : t % 32 < 32 := by omega
    generalize hi : t / 32 = i at *
    generalize hp : t % 32 = p at *
    generalize hd : dg x i = d at *
    have HI : Hid (t / 32 = i ∧ t % 32 = p ∧ dg x i = d) := ⟨hi, hp, hd⟩
    have hbit := bit_tz HTZ.out.1 HT.out.2 ht HI.out
    clear hi hp hd hcell hb
    by_cases htt : t < T
    · rw [decide_eq_true htt] at hbit
      go_wp2_with fail
      exact ⟨⟨t + 1, by omega, by simp⟩, by simp [intOf]; omega⟩
    · rw [decide_eq_false htt] at hbit
      obtain rfl : t = T := by omega
      clear htt ht
      obtain ⟨⟨a0, a1, a2⟩, a3, a4, a5⟩ := box_cells29 HH.out
      have h1 : ¬ e < -65536 - (t : Int) := by omega
      have h2 : ¬ e > 65536 - (t : Int) := by omega
      go_wp2_with fail
      refine k34.mono ?_
      rintro r w3 ⟨g, cap3, rfl, hg3, hA3, hB3⟩
      clear k34 hq hr hbit g1 a0 a1 a2 a3 a4 a5
      have HH3 : Hid (w3.heap[w.heap.size]? = some (.cells #[.bool false, .slice none 0 0, .int .i64 0] 29 (0, 0))) := box_later HH.out hB3 (by have := HX.out; omega)
      have HB3 : Hid (Below w1.heap.size w1 w3 ∧ w1.heap.size ≤ g ∧ At w3 (some ⟨g, 0, none⟩) (dlen (x / 2 ^ t)) (x / 2 ^ t)) := ⟨hB3, hg3, hA3⟩
      have k41 := r41 neg (some ⟨g, 0, none⟩) (dlen (x / 2 ^ t)) cap3 (e + t) V w3 (fun W hW => by
        have hAW := hA3.later hW
        obtain ⟨bb, oo, hb', hc'⟩ := hAW
        have hy0 : 0 < dlen (x / 2 ^ t) := Nat.pos_of_ne_zero fun e0 => by have := HV.out.2.1; rw [dlen_eq_zero.1 e0] at this; simp at this
        have hb2 := hb' hy0
        simp only [Option.some.injEq, Addr.mk.injEq] at hb2
        obtain ⟨rfl, rfl, -⟩ := hb2
        have k := r17 neg g 0 (dlen (x / 2 ^ t)) cap3 (x / 2 ^ t) (e + t) W hy0 (by have := HV.out.2.2.1; omega) rfl HV.out.2.1 hc'
        rw [HV.out.1, decide_eq_true HV.out.2.2.2.1, decide_eq_true HV.out.2.2.2.2, Bool.and_true, Bool.and_true] at k
        exact k)
      clear hg3 hA3 hB3
      go_wp2_with fail
      refine k41.mono ?_
      rintro r w4 ⟨rfl, hB4⟩
      have HH4 : Hid (w4.heap[w.heap.size]? = some (.cells #[.bool false, .slice none 0 0, .int .i64 0] 29 (0, 0))) := box_later HH3.out hB4 (lt_of_box' HH3.out)
      have HB4 : Hid (Below w3.heap.size w3 w4) := hB4
      obtain ⟨⟨a0, a1, a2⟩, a3, a4, a5⟩ := box_cells29 HH4.out
      clear k41 hB4
      have hfin : ∀ p q r, w.heap.size < g ∧ At (((w4.setCell ⟨w.heap.size, 0, none⟩ p).setCell ⟨w.heap.size, 1, none⟩ q).setCell ⟨w.heap.size, 2, none⟩ r) (some ⟨g, 0, none⟩) (dlen (x / 2 ^ t)) (x / 2 ^ t) ∧ Below w.heap.size w (((w4.setCell ⟨w.heap.size, 0, none⟩ p).setCell ⟨w.heap.size, 1, none⟩ q).setCell ⟨w.heap.size, 2, none⟩ r) := fun p q r => by
        have hsz := HX.out
        have hg := HB3.out.2.1
        refine ⟨by omega, ?_, below_store3 (HB0.out.trans ((HB3.out.1.trans (HB4.out.mono HB3.out.1.size)).mono (by omega))) (Nat.le_refl _) _ _ _⟩
        obtain ⟨bb, oo, hb', hc'⟩ := HB3.out.2.2.later HB4.out
        refine ⟨bb, oo, hb', fun i hi => ?_⟩
        have hb2 := hb' (by omega)
        simp only [Option.some.injEq, Addr.mk.injEq] at hb2
        obtain ⟨rfl, rfl, -⟩ := hb2
        rw [cell_far3 (by show g ≠ w.heap.size; omega)]
        exact hc' i hi
      have HF : Hid (∀ p q r, w.heap.size < g ∧ At (((w4.setCell ⟨w.heap.size, 0, none⟩ p).setCell ⟨w.heap.size, 1, none⟩ q).setCell ⟨w.heap.size, 2, none⟩ r) (some ⟨g, 0, none⟩) (dlen (x / 2 ^ t)) (x / 2 ^ t) ∧ Below w.heap.size w (((w4.setCell ⟨w.heap.size, 0, none⟩ p).setCell ⟨w.heap.size, 1, none⟩ q).setCell ⟨w.heap.size, 2, none⟩ r)) := hfin
      clear hfin
      cases V
      · go_wp2_with fail
        refine bodyPost_ret (results_cell_tmp_row rfl _ _ w.heap.size 29 #[.bool false, .slice none 0 0, .int .i64 0] (0, 0) _ rfl (store3_29 _ _ _ HH4.out) Tryz.underlying29 rfl Tryz.info29) rfl ?_
        exact ⟨(by unfold Mk29; exact ⟨g, cap3, rfl, (HF.out .nilIface .nilIface .nilIface).1, (HF.out _ _ _).2.1⟩), (HF.out _ _ _).2.2⟩
      · go_wp2_with fail
        refine bodyPost_ret (results_cell_tmp_row rfl _ _ w.heap.size 29 #[.bool neg, .slice (some ⟨g, 0, none⟩) (dlen (x / 2 ^ t)) cap3, .int .i64 (e + t)] (0, 0) _ rfl (store3_29 _ _ _ HH4.out) Tryz.underlying29 rfl Tryz.info29) rfl ?_
        exact ⟨(by unfold Mk29; exact ⟨g, cap3, rfl, (HF.out .nilIface .nilIface .nilIface).1, (HF.out _ _ _).2.1⟩), (HF.out _ _ _).2.2⟩
end Go.Proofs.YtceoeiojoffnnaaGreatDoor
