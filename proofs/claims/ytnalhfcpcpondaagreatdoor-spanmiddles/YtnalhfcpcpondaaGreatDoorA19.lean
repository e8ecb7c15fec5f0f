/- Own work: contracts of the program's functions, part 19: SNZ SO1 SO2 SO3. -/
import Derived.Test.YtnalhfcpcpondaaGreatDoorA18
import Derived.Test.YtnalhfcpcpondaaGreatDoorA16

/- The document's Rad. -/
namespace Go.Proofs.YtnalhfcpcpondaaGreatDoor
set_option linter.unusedVariables false
set_option linter.unusedSimpArgs false
open Go.RowKit Go.Fl64
attribute [local go_sem] run_store_flt

def raV (v f : Bool) (R : Nat) : Value := if v then (if f then .tuple #[.float .f64 9218868437227405312, .int .i64 0] else .tuple #[.float .f64 R, .int .i64 0]) else .tuple #[.float .f64 0, .int .i64 1]
set_option maxHeartbeats 16000000 in
set_option maxRecDepth 200000 in
theorem drad_1 (a b : Nat) (i j : Int) (M R : Nat) (t : Bool × Nat × Int) (hIJ : eI a = i ∧ eI b = j) (KM : Hid (vI a b = true → ∀ W, Calls Tryz.prog 35 #[.agg #[.float .f64 a, .float .f64 b]] W fun r w' => r = .returned (.tuple #[.float .f64 M, .int .i64 0]) ∧ Below W.heap.size W w')) (KH : Hid (vI a b = true → i = 0 → j = 0 → ∀ W, Calls Tryz.prog 77 #[.agg #[.float .f64 a, .float .f64 b], .float .f64 M] W fun r w' => ∃ A, r = .returned A ∧ DN w' A t ∧ Below W.heap.size W w')) (KT : Hid (vI a b = true → i = 0 → j = 0 → ∀ W A, DN W A t → Calls Tryz.prog 73 #[A, .int .i64 3] W fun r w' => r = .returned (.float .f64 R) ∧ Below W.heap.size W w')) (w : World) (ha : a < 18446744073709551616) (hb : b < 18446744073709551616) :
    Calls Tryz.prog 37 #[.agg #[.float .f64 a, .float .f64 b]] w fun r w' => r = .returned (raV (vI a b) (decide (i ≠ 0) || decide (j ≠ 0)) R) ∧ Below w.heap.size w w' := by
  have k1 := fun W => d8valid a b ha hb W
  have HN1 : Hid (vI a b = true → isNaN a = false ∧ isNaN b = false) := vI_nn
  generalize hu : vI a b = u at *
  clear hu
  obtain ⟨W, hW⟩ : ∃ W, W = (w.alloc (.cells #[.float .f64 a, .float .f64 b] 24)) := ⟨_, rfl⟩
  have HX : Hid (Below w.heap.size w W ∧ IvB W (w.heap.size) a b) := by
    rw [hW]
    exact ⟨bxs1_0 w a b, bxs1_1 w a b⟩
  have HK : Hid (∀ w', Below W.heap.size W w' → IvF w' (w.heap.size) a b) := fun w' hb => (HX.out.2).later hb
  have HV0 : Hid (Below w.heap.size w W) := HX.out.1
  obtain ⟨c0, c1, z0, z1⟩ := HK.out W (Below.refl _ _)
  have kv := k1 W
  clear k1
  go_enter Tryz.func37, Tryz.ntmps37
  go_upto_region 1 with fail
  rw [← hW]
  clear hW
  go_wp2_with fail
  refine kv.mono ?_
  rintro r w1 ⟨rfl, hb1⟩
  clear kv
  clear c0 z0 c1 z1
  obtain ⟨c0, c1, z0, z1⟩ := HK.out w1 hb1
  cases u
  · have HB : Hid (Below w.heap.size w w1) := HX.out.1.trans (hb1.mono HX.out.1.size)
    clear hb1 HK HX
    go_wp2
    go_ret2
    exact ⟨rfl, HB.out⟩
  obtain ⟨Na, Nb⟩ := HN1.out (by simp)
  have HB1 : Hid (Below W.heap.size W w1) := hb1
  have HAB : Hid (a < 18446744073709551616 ∧ b < 18446744073709551616 ∧ isNaN a = false ∧ isNaN b = false) := ⟨ha, hb, Na, Nb⟩
  clear hb1 HN1 ha hb Na Nb
  go_upto_region 3 with fail
  go_cut [4, 5] from 11 to 16 (fun p q wx => ∃ (g0 g1 : Nat) (s0 : Bool) (ao0 : Option Addr) (n0 cap0 : Nat) (e0 : Int) (s1 : Bool) (ao1 : Option Addr) (n1 cap1 : Nat) (e1 : Int), p = .pointer (some ⟨g0, 0, none⟩) ∧ q = .pointer (some ⟨g1, 0, none⟩) ∧ Hid (Below w1.heap.size w1 wx ∧ EnB wx g0 (.int .i64 (eI a)) (.bool s0) (.slice ao0 n0 cap0) (.int .i64 e0) ∧ EnB wx g1 (.int .i64 (eI b)) (.bool s1) (.slice ao1 n1 cap1) (.int .i64 e1) ∧ EN wx (.agg #[.int .i64 (eI a), .bool s0, .slice ao0 n0 cap0, .int .i64 e0]) (eI a) (eT a) ∧ EN wx (.agg #[.int .i64 (eI b), .bool s1, .slice ao1 n1 cap1, .int .i64 e1]) (eI b) (eT b) ∧ w1.heap.size ≤ g0 ∧ w1.heap.size ≤ g1))
  case first =>
    refine ends_region 2 (fun k => 1) (fun k => 11 + 3 * k) (fun k => 12 + 3 * k) (fun k => 13 + 3 * k) (fun k => 4 + k) (fun k => w.heap.size) (fun k => k) (fun k => if k = 0 then a else b) w1 _ rfl (ord_of (by kernel_rfl)) ?_ ?_ ?_ ?_ ?_ ?_ ?_ ?_ ?_ ?_ ?_ ?_ ?_
    · intro k hk
      rcases lt28 hk with rfl | rfl
      · exact ⟨rfl, .inl rfl, fun w' hw => (HK.out w' (HB1.out.trans (hw.mono HB1.out.size))).1, HAB.out.1, HAB.out.2.2.1⟩
      · exact ⟨rfl, .inr rfl, fun w' hw => (HK.out w' (HB1.out.trans (hw.mono HB1.out.size))).2.1, HAB.out.2.1, HAB.out.2.2.2⟩
    · intro k hk
      rcases lt28 hk with rfl | rfl <;> decide
    · intro k hk
      rcases lt28 hk with rfl | rfl <;> exact ⟨_, rfl, rfl, rfl, rfl⟩
    · intro k hk
      rcases lt28 hk with rfl | rfl <;> exact ⟨_, rfl, rfl, rfl, rfl, ⟨_, .data⟩, by simp, rfl, rfl⟩
    · intro k hk
      rcases lt28 hk with rfl | rfl <;> exact ⟨_, rfl, rfl, ⟨_, rfl⟩, rfl, ⟨_, .data⟩, by simp, rfl, rfl⟩
    · intro k hk
      rcases lt28 hk with rfl | rfl <;> exact ⟨_, rfl, rfl, rfl, rfl⟩
    · intro k hk
      rcases lt28 hk with rfl | rfl <;> exact ⟨_, rfl, rfl, rfl, rfl, ⟨⟨_, .data⟩, by simp, rfl, rfl⟩, ⟨_, .data⟩, by simp, rfl, rfl⟩
    · show ∀ j, j < 3 * 2 → eslot (fun k => 11 + 3 * k) (fun k => 12 + 3 * k) (fun k => 13 + 3 * k) j < 35
      decide
    · show ∀ k, k < 2 → 4 + k < 35
      decide
    · decide
    · decide
    · decide
    · intro u g wx hb hk
      obtain ⟨x1, x0, cs0, x2, x3⟩ := hk 0 (by omega)
      obtain ⟨y1, y0, cs1, y2, y3⟩ := hk 1 (by omega)
      have x1' := x1
      have y1' := y1
      obtain ⟨s0, ao0, n0, cap0, e0, x4, -⟩ := x1'
      obtain ⟨s1, ao1, n1, cap1, e1, y4, -⟩ := y1'
      have x5 : cs0 = #[.int .i64 (eI a), .bool s0, .slice ao0 n0 cap0, .int .i64 e0] := by
        have := x2.symm.trans x4
        simpa using this
      have y5 : cs1 = #[.int .i64 (eI b), .bool s1, .slice ao1 n1 cap1, .int .i64 e1] := by
        have := y2.symm.trans y4
        simpa using this
      rw [x5] at x3
      rw [y5] at y3
      rw [x4] at x1
      rw [y4] at y1
      have HF : Hid (Below w1.heap.size w1 wx ∧ EnB wx (g 0) (.int .i64 (eI a)) (.bool s0) (.slice ao0 n0 cap0) (.int .i64 e0) ∧ EnB wx (g 1) (.int .i64 (eI b)) (.bool s1) (.slice ao1 n1 cap1) (.int .i64 e1) ∧ EN wx (.agg #[.int .i64 (eI a), .bool s0, .slice ao0 n0 cap0, .int .i64 e0]) (eI a) (eT a) ∧ EN wx (.agg #[.int .i64 (eI b), .bool s1, .slice ao1 n1 cap1, .int .i64 e1]) (eI b) (eT b) ∧ w1.heap.size ≤ g 0 ∧ w1.heap.size ≤ g 1) := ⟨hb, x3, y3, x1, y1, x0, y0⟩
      clear hk x0 y0 x1 x2 x3 x4 x5 y1 y2 y3 y4 y5 hb
      simp only [putL, eslot, show List.range (3 * 2) = [0, 1, 2, 3, 4, 5] from rfl, show List.range 2 = [0, 1] from rfl, List.map_cons, List.map_nil, List.cons_append, List.nil_append, List.foldl_cons, List.foldl_nil, Nat.reduceMod, Nat.reduceDiv, Nat.reduceMul, Nat.reduceAdd, Nat.reduceEqDiff, reduceIte, Nat.one_ne_zero, Act.put, List.setIfInBounds_toArray, List.set_cons_zero, List.set_cons_succ]
      go_wp2_with fail
      go_meet
      exact ⟨_, _, _, _, _, _, _, _, _, _, _, _, rfl, rfl, HF⟩
  case rest =>
    obtain ⟨w8, hw8⟩ : ∃ w8 : World, w8 = wc := ⟨_, rfl⟩
    subst hw8
    obtain ⟨g0, g1, s0, ao0, n0, cap0, e0, s1, ao1, n1, cap1, e1, rfl, rfl, HF⟩ := hcut
    have HB8 : Hid (Below W.heap.size W w8) := HB1.out.trans (HF.out.1.mono HB1.out.size)
    have HE : Hid (EN w8 (.agg #[.int .i64 (eI a), .bool s0, .slice ao0 n0 cap0, .int .i64 e0]) (eI a) (eT a) ∧ EN w8 (.agg #[.int .i64 (eI b), .bool s1, .slice ao1 n1 cap1, .int .i64 e1]) (eI b) (eT b)) := ⟨HF.out.2.2.2.1, HF.out.2.2.2.2.1⟩
    have HW8 : Hid (Below w.heap.size w w8) := HV0.out.trans (HB8.out.mono HV0.out.size)
    obtain ⟨⟨a0, a1, a2, a3⟩, -⟩ := HF.out.2.1.facts
    obtain ⟨⟨b0, b1, b2, b3⟩, -⟩ := HF.out.2.2.1.facts
    clear HB1 c0 c1 z0 z1
    rw [hIJ.1] at a0 HE
    rw [hIJ.2] at b0 HE
    clear HF HAB HV0 hIJ HE
    obtain ⟨c0, c1, z0, z1⟩ := HK.out w8 HB8.out
    by_cases hij : i = 0 ∧ j = 0
    · obtain ⟨rfl, rfl⟩ := hij
      have kk := KM.out (by simp) w8
      clear KM
      go_wp2_with fail
      refine kk.mono ?_
      rintro r v1 ⟨rfl, q1⟩
      have HB1 : Hid (Below W.heap.size W v1) := HB8.out.trans (q1.mono HB8.out.size)
      have kk := KH.out (by simp) (by simp) (by simp) v1
      clear KH q1 HW8 HB8 a0 a1 a2 a3 b0 b1 b2 b3 c0 c1 z0 z1
      obtain ⟨c0, c1, z0, z1⟩ := HK.out v1 HB1.out
      go_wp2_with fail
      refine kk.mono ?_
      rintro r v2 ⟨A2, rfl, F2, q2⟩
      have HB2 : Hid (Below W.heap.size W v2) := HB1.out.trans (q2.mono HB1.out.size)
      have kk := KT.out (by simp) (by simp) (by simp) _ _ F2
      clear KT q2 F2 HB1 c0 c1 z0 z1
      go_wp2_with fail
      refine kk.mono ?_
      rintro r v3 ⟨rfl, q3⟩
      have HB3 : Hid (Below w.heap.size w v3) := HX.out.1.trans ((HB2.out.trans (q3.mono HB2.out.size)).mono HX.out.1.size)
      clear q3 HB2 kk HX HK
      go_wp2
      go_ret2
      exact ⟨rfl, HB3.out⟩
    have kk := cinf_p w8
    clear KM KH KT HK HX HB8
    by_cases h1 : i = 0
    · have h2 : j ≠ 0 := fun h => hij ⟨h1, h⟩
      have e2 : (j != 0) = true := by simp [h2]
      subst h1
      have e0 : (decide ((0 : Int) ≠ 0) || decide (j ≠ 0)) = true := by simp [h2]
      clear hij
      go_wp2_with fail
      refine kk.mono ?_
      rintro r v1 ⟨rfl, rfl⟩
      go_wp2
      go_ret2
      exact ⟨by simp [raV, h2], HW8.out⟩
    · have e1 : (i != 0) = true := by simp [h1]
      clear hij
      go_wp2_with fail
      refine kk.mono ?_
      rintro r v1 ⟨rfl, rfl⟩
      go_wp2
      go_ret2
      exact ⟨by simp [raV, h1], HW8.out⟩
end Go.Proofs.YtnalhfcpcpondaaGreatDoor
/- Middles in numbers. -/
namespace Go.Proofs.YtnalhfcpcpondaaGreatDoor
set_option linter.unusedVariables false
set_option linter.unusedSimpArgs false
open Go.RowKit Go.Fl64
attribute [local go_sem] run_store_flt

/-- the value of a number -/
def V8 (t : Bool × Nat × Int) : Int := vz 5000000 t.1 t.2.1 t.2.2
theorem V8_zero : V8 (false, 0, 0) = 0 := vz_zero _ _ _
theorem V8_neg (t : Bool × Nat × Int) : V8 (tNeg t) = - V8 t := by
  unfold tNeg V8
  by_cases h : t.2.1 = 0
  · rw [if_pos h, h, vz_zero, vz_zero]; rfl
  · rw [if_neg h]
    show vz 5000000 (!t.1) t.2.1 t.2.2 = _
    unfold vz
    rw [← Int.neg_mul]
    congr 1
    unfold sv
    cases t.1 <;> simp
def E8 (t : Bool × Nat × Int) : Prop := Fits (-1074) 1025 t.2.1 t.2.2 ∧ 0 ≤ t.2.2 + (5000000 : Nat) ∧ Ok t
theorem E8_tF (a : Nat) : E8 (tF a) := ⟨tF_fits a, tF_e5000000 a, tF_ok a⟩
theorem E8_neg {t : Bool × Nat × Int} (h : E8 t) : E8 (tNeg t) := by
  refine ⟨tNeg_fits h.1, ?_, tNeg_ok h.2.2⟩
  unfold tNeg
  split
  · decide
  · exact h.2.1
theorem V8_sum {t u : Bool × Nat × Int} (h1 : E8 t) (h2 : E8 u) : V8 (tS t u) = V8 t + V8 u := vz_tS h1.1 h2.1 h1.2.1 h2.2.1 (by omega)
theorem S8_ok {t u : Bool × Nat × Int} (h1 : E8 t) (h2 : E8 u) : Ok (tS t u) := ok_cn (tS_okR h1.1 h2.1 (by omega) (by omega) (by omega))
theorem Ok.e8 {t : Bool × Nat × Int} (h : Ok t) : 0 ≤ t.2.2 + (5000000 : Nat) := by
  have := h.facts
  omega
theorem V8_half {t : Bool × Nat × Int} (h : Ok t) : 2 * V8 (tSh t (-1)) = V8 t := by
  have e := h.facts
  unfold tSh V8
  by_cases h0 : t.2.1 = 0
  · rw [if_pos h0, h0, vz_zero, vz_zero]; rfl
  · rw [if_neg h0]
    show 2 * vz 5000000 t.1 t.2.1 (t.2.2 + -1) = _
    have k := vz_shift (K := 5000000) (s := t.1) (x := t.2.1) (k := 1) (e := t.2.2 + -1) (by omega)
    rw [show t.2.2 + -1 + ((1 : Nat) : Int) = t.2.2 by omega] at k
    rw [← k]
    unfold vz sv
    cases t.1 <;> simp <;> rw [← Int.mul_assoc] <;> congr 1 <;> omega
theorem toD_tf {t : Bool × Nat × Int} (h : Ok t) {m : Int} (hm : 1 ≤ m ∧ m ≤ 3) : toD t m = tfF t.1 true t.2.1 t.2.2 m := by
  unfold toD
  by_cases h0 : t.2.1 = 0
  · rw [if_pos h0, h.facts.2.2.2.1 h0]
    rcases (show m = 1 ∨ m = 2 ∨ m = 3 by omega) with rfl | rfl | rfl <;> decide +kernel
  · rw [if_neg h0]
theorem toD_mono {t u : Bool × Nat × Int} (h1 : Ok t) (h2 : Ok u) {m : Int} (hm : 1 ≤ m ∧ m ≤ 3) (h : V8 t ≤ V8 u) : stp (toD t m) ≤ stp (toD u m) := by
  rw [toD_tf h1 hm, toD_tf h2 hm]
  exact ord_round (K := 5000000) (by omega) (s := t.1) (x := t.2.1) (e := t.2.2) (t := u.1) (y := u.2.1) (f := u.2.2) h1 h2 hm h
theorem toD_pos {t : Bool × Nat × Int} (h1 : Ok t) {m : Int} (hm : 1 ≤ m ∧ m ≤ 3) (h : 0 ≤ V8 t) : toD t m ≠ 9223372036854775808 ∧ 0 ≤ stp (toD t m) := by
  have hz : Ok (false, 0, 0) := by unfold Ok; rw [dlen_zero]; rfl
  refine ⟨?_, ?_⟩
  · unfold toD
    by_cases h0 : t.2.1 = 0
    · rw [if_pos h0]; decide
    · rw [if_neg h0, tf_bdy hm]
      have hs : t.1 = false := by
        cases e : t.1
        · rfl
        · exfalso
          unfold V8 vz at h
          rw [e] at h
          have hp : (0 : Int) < ((2 ^ (t.2.2 + (5000000 : Nat)).toNat : Nat) : Int) := by exact_mod_cast Nat.two_pow_pos _
          have hx : sv true t.2.1 < 0 := by unfold sv; simp; omega
          have := Int.mul_neg_of_neg_of_pos hx hp
          omega
      rw [hs]
      have := bdy_le t.2.1 t.2.2 (wyN false m)
      unfold sig
      simp
      omega
  · have k := toD_mono hz h1 hm (by rw [V8_zero]; exact h)
    have e : stp (toD (false, 0, 0) m) = 0 := by unfold toD; rw [if_pos rfl]; decide
    omega
theorem toD_self {a : Nat} (ha : a < 18446744073709551616) (hf : mag a < 9218868437227405312) {m : Int} (hm : 1 ≤ m ∧ m ≤ 3) : stp (toD (tF a) m) = stp a := by
  by_cases h0 : mag a = 0
  · rw [tF_zero8 h0]
    unfold toD
    rw [if_pos rfl]
    have : stp a = 0 := by unfold stp sgn; rw [h0]; cases neg a <;> rfl
    rw [this]
    decide
  · rw [toD_tf (tF_ok a) hm, (tF_val8 hf h0).1, tf_tF8 ha hf h0 m hm]
theorem V8_cmp {a b : Nat} (ha : a < 18446744073709551616) (hb : b < 18446744073709551616) (fa : mag a < 9218868437227405312) (fb : mag b < 9218868437227405312) : V8 (tF a) ≤ V8 (tF b) ↔ stp a ≤ stp b := by
  have k := ord_tF8 ha hb fa fb
  rw [ordN_vz (tF_e5000000 a) (tF_e5000000 b)] at k
  have h1 := (cmpI_neg_iff (V8 (tF a)) (V8 (tF b))).2
  have h2 := (cmpI_neg_iff (stp a) (stp b)).2
  have k : cmpI (V8 (tF a)) (V8 (tF b)) = cmpI (stp a) (stp b) := k
  rw [k] at h1
  constructor
  · intro h
    by_cases h' : stp a ≤ stp b
    · exact h'
    · have := h1.1 (h2.2 (by omega)); omega
  · intro h
    by_cases h' : V8 (tF a) ≤ V8 (tF b)
    · exact h'
    · have := h2.1 (h1.2 (by omega)); omega
theorem hfS_toD (a b : Nat) : hfS a b = toD (tSh (tS (tF a) (tF b)) (-1)) 2 := (toD_tf (hfS_facts a b).2.1 (by omega)).symm
/-- the middle lies between the ends -/
theorem hfS_in {a b : Nat} (ha : a < 18446744073709551616) (hb : b < 18446744073709551616) (fa : mag a < 9218868437227405312) (fb : mag b < 9218868437227405312) (h : stp a ≤ stp b) : stp a ≤ stp (hfS a b) ∧ stp (hfS a b) ≤ stp b ∧ mag (hfS a b) < 9218868437227405312 := by
  have hv := (V8_cmp ha hb fa fb).2 h
  have hs := V8_sum (E8_tF a) (E8_tF b)
  have hh := V8_half (hfS_facts a b).1
  have o := (hfS_facts a b).2.1
  have k1 := toD_mono (tF_ok a) o (m := 2) (by omega) (by omega)
  have k2 := toD_mono o (tF_ok b) (m := 2) (by omega) (by omega)
  rw [toD_self ha fa (by omega), ← hfS_toD] at k1
  rw [toD_self hb fb (by omega), ← hfS_toD] at k2
  refine ⟨k1, k2, ?_⟩
  have f1 := fin_stp fa
  have f2 := fin_stp fb
  have : -9218868437227405312 < stp (hfS a b) ∧ stp (hfS a b) < 9218868437227405312 := ⟨by omega, by omega⟩
  unfold stp sgn at this
  split at this <;> omega
end Go.Proofs.YtnalhfcpcpondaaGreatDoor
/- Middles joined. -/
namespace Go.Proofs.YtnalhfcpcpondaaGreatDoor
set_option linter.unusedVariables false
set_option linter.unusedSimpArgs false
open Go.RowKit Go.Fl64
attribute [local go_sem] run_store_flt

theorem tF_ngt {b : Nat} (hb : b < 18446744073709551616) (fb : mag b < 9218868437227405312) (nb : isNaN b = false) : tF (ngt b) = tNeg (tF b) := by
  have h := eT_ngt hb
  have e := (eI_zero_fin hb nb).2 fb
  have e' : eI (ngt b) = 0 := by rw [eI_ngt hb, e]; rfl
  unfold eT at h
  rw [if_pos e, if_pos e'] at h
  exact h
theorem fin_nn {a : Nat} (h : mag a < 9218868437227405312) : isNaN a = false := by unfold isNaN; exact decide_eq_false (by omega)
theorem fsub8 {a c : Nat} (ha : a < 18446744073709551616) (hc : c < 18446744073709551616) (fa : mag a < 9218868437227405312) (fc : mag c < 9218868437227405312) :
    fAdM a (ngt c) 3 = if (tS (tF a) (tNeg (tF c))).2.1 = 0 then sig (z0 (neg a) (neg (ngt c)) 3) 0 else toD (tS (tF a) (tNeg (tF c))) 3 := by
  unfold fAdM
  have h1 : fin a = true := decide_eq_true fa
  have h2 : fin (ngt c) = true := by unfold fin; rw [ngt_mag hc]; exact decide_eq_true fc
  rw [if_neg (by rw [h1, h2]; simp), tF_ngt hc fc (fin_nn fc)]
  split
  · rfl
  · rename_i h
    unfold toD
    rw [if_neg h]
theorem stp_sig0 (s : Bool) : stp (sig s 0) = 0 := by cases s <;> decide
theorem fsub8_stp {a c : Nat} (ha : a < 18446744073709551616) (hc : c < 18446744073709551616) (fa : mag a < 9218868437227405312) (fc : mag c < 9218868437227405312) :
    stp (fAdM a (ngt c) 3) = stp (toD (tS (tF a) (tNeg (tF c))) 3) := by
  rw [fsub8 ha hc fa fc]
  split
  · rename_i h
    rw [stp_sig0]
    unfold toD
    rw [if_pos h]
    decide
  · rfl
theorem fsub8_nought {a c : Nat} (ha : a < 18446744073709551616) (hc : c < 18446744073709551616) (fa : mag a < 9218868437227405312) (fc : mag c < 9218868437227405312) (hv : 0 ≤ V8 (tS (tF a) (tNeg (tF c)))) (hz : fAdM a (ngt c) 3 = 9223372036854775808) :
    neg a = true ∧ neg (ngt c) = true := by
  rw [fsub8 ha hc fa fc] at hz
  split at hz
  · unfold sig z0 at hz
    cases e1 : neg a <;> cases e2 : neg (ngt c) <;> rw [e1, e2] at hz <;> first | exact ⟨rfl, rfl⟩ | (exfalso; revert hz; decide)
  · exact absurd hz (toD_pos (S8_ok (E8_tF a) (E8_neg (E8_tF c))) (by omega) hv).1
theorem neg_ngt8 {c : Nat} (hc : c < 18446744073709551616) : neg (ngt c) = !neg c := by
  unfold ngt neg
  split <;> rename_i h
  · rw [h]; simp only [decide_eq_true_eq] at h; simp; omega
  · simp only [decide_eq_true_eq] at h; simp; omega
/-- the way to the farther end, rounded up -/
theorem rad_fin {a b m : Nat} (ha : a < 18446744073709551616) (hb : b < 18446744073709551616) (hm : m < 18446744073709551616) (fa : mag a < 9218868437227405312) (fb : mag b < 9218868437227405312) (fm : mag m < 9218868437227405312) (h1 : stp a ≤ stp m) (h2 : stp m ≤ stp b) {p q : Bool × Nat × Int} (hp : p = tS (tF b) (tNeg (tF m))) (hq : q = tS (tF m) (tNeg (tF a))) :
    Ok p ∧ Ok q ∧ toD (if ordN p.1 p.2.1 p.2.2 q.1 q.2.1 q.2.2 < 0 then q else p) 3 = fMax (fAdM m (ngt a) 3) (fAdM b (ngt m) 3) := by
  have op : Ok p := by rw [hp]; exact S8_ok (E8_tF b) (E8_neg (E8_tF m))
  have oq : Ok q := by rw [hq]; exact S8_ok (E8_tF m) (E8_neg (E8_tF a))
  have vp : V8 p = V8 (tF b) - V8 (tF m) := by rw [hp, V8_sum (E8_tF b) (E8_neg (E8_tF m)), V8_neg]; omega
  have vq : V8 q = V8 (tF m) - V8 (tF a) := by rw [hq, V8_sum (E8_tF m) (E8_neg (E8_tF a)), V8_neg]; omega
  have k1 := (V8_cmp ha hm fa fm).2 h1
  have k2 := (V8_cmp hm hb fm fb).2 h2
  have sx : stp (fAdM m (ngt a) 3) = stp (toD q 3) := by rw [fsub8_stp hm ha fm fa, hq]
  have sy : stp (fAdM b (ngt m) 3) = stp (toD p 3) := by rw [fsub8_stp hb hm fb fm, hp]
  have pp := toD_pos op (m := 3) (by omega) (by omega)
  have pq := toD_pos oq (m := 3) (by omega) (by omega)
  have zx : fAdM m (ngt a) 3 = 9223372036854775808 → neg m = true := fun h => (fsub8_nought hm ha fm fa (by rw [← hq]; omega) h).1
  have zy : fAdM b (ngt m) 3 = 9223372036854775808 → neg m = false := fun h => by
    have := (fsub8_nought hb hm fb fm (by rw [← hp]; omega) h).2
    rw [neg_ngt8 hm] at this
    simpa using this
  have lx : fAdM m (ngt a) 3 < 18446744073709551616 := fAdM_lt hm (ngt_lt ha) (by omega)
  have ly : fAdM b (ngt m) 3 < 18446744073709551616 := fAdM_lt hb (ngt_lt hm) (by omega)
  refine ⟨op, oq, ?_⟩
  have ho := ordN_vz (na := p.1) (x := p.2.1) (ea := p.2.2) (nb := q.1) (y := q.2.1) (eb := q.2.2) op.e8 oq.e8
  have ho : ordN p.1 p.2.1 p.2.2 q.1 q.2.1 q.2.2 = cmpI (V8 p) (V8 q) := ho
  have hc := (cmpI_neg_iff (V8 p) (V8 q)).1
  generalize fAdM m (ngt a) 3 = x at *
  generalize fAdM b (ngt m) 3 = y at *
  refine stp_inj (toD_lt (by omega)) (fMax_lt lx ly) ?_ ?_ ?_
  · rw [fMax_stp, sx, sy, ho]
    by_cases h : cmpI (V8 p) (V8 q) < 0
    · rw [if_pos h]
      have := toD_mono op oq (m := 3) (by omega) (by have := hc.1 h; omega)
      omega
    · rw [if_neg h]
      have := toD_mono oq op (m := 3) (by omega) (by have : ¬ V8 p < V8 q := fun h' => h (hc.2 h'); omega)
      omega
  · split
    · exact pq.1
    · exact pp.1
  · intro hz
    have bx : ∀ z, z < 18446744073709551616 → stp z = 0 → neg z = true → z = 9223372036854775808 := fun z hl h0 hn => by
      rcases (stp_zero hl).1 h0 with rfl | rfl
      · exact absurd hn (by decide)
      · rfl
    unfold fMax at hz
    split at hz
    · rename_i h
      have : stp y = 0 := by rw [hz]; decide
      omega
    · split at hz
      · have : stp x = 0 := by rw [hz]; decide
        omega
      · split at hz
        · rename_i h3 h4 h5
          have y0 : stp y = 0 := by rw [hz]; decide
          have e1 := zx (bx x lx (by omega) h5)
          have e2 := zy hz
          rw [e1] at e2
          exact absurd e2 (by simp)
        · rename_i h5
          rw [hz] at h5
          exact h5 (by decide)
end Go.Proofs.YtnalhfcpcpondaaGreatDoor
/- SpanMiddles. -/
namespace Go.Proofs.YtnalhfcpcpondaaGreatDoor
set_option linter.unusedVariables false
set_option linter.unusedSimpArgs false
open Go.RowKit Go.Fl64
attribute [local go_sem] run_store_flt

/-- the ends of an interval -/
theorem vI_cases {a b : Nat} (ha : a < 18446744073709551616) (hb : b < 18446744073709551616) (v : vI a b = true) : ((mag a < 9218868437227405312 ∧ eI a = 0 ∧ eT a = tF a) ∨ (a = 18442240474082181120 ∧ eI a = -1)) ∧ ((mag b < 9218868437227405312 ∧ eI b = 0 ∧ eT b = tF b) ∨ (b = 9218868437227405312 ∧ eI b = 1)) ∧ stp a ≤ stp b := by
  obtain ⟨na, nb⟩ := vI_nn v
  obtain ⟨e1, e2⟩ := vI_ends v
  have hs : stp a ≤ stp b := by
    unfold vI le at v
    simp only [Bool.and_eq_true, decide_eq_true_eq] at v
    exact v.1.1.1.1.2
  refine ⟨?_, ?_, hs⟩
  · rcases inf_or ha na with h | ⟨-, h⟩ | h
    · exact .inl h
    · exact absurd h e1
    · exact .inr h
  · rcases inf_or hb nb with h | h | ⟨-, h⟩
    · exact .inl h
    · exact .inr h
    · exact absurd h e2
theorem far_of {a : Nat} (h : mag a < 9218868437227405312) : iFar a = false := by
  have hm : isNaN (mag a) = false := by
    unfold isNaN
    rw [show mag (mag a) = mag a by unfold mag; omega]
    exact decide_eq_false (by omega)
  have hs : stp (mag a) = (mag a : Int) := by
    unfold stp sgn neg
    rw [show mag (mag a) = mag a by unfold mag; omega, if_neg (by have := mag_lt a; simp; omega)]
  unfold iFar lt
  rw [hm, hs, show isNaN 9218868437227405311 = false by decide, show stp 9218868437227405311 = 9218868437227405311 by decide]
  simp only [Bool.not_false, Bool.true_and, decide_eq_false_iff_not]
  omega
theorem all_no1 {a : Nat} (b : Nat) (h : mag a < 9218868437227405312) : iAll a b = false := by
  have k : eq a 18442240474082181120 = false := by
    unfold eq
    rw [show stp 18442240474082181120 = -9218868437227405312 by decide]
    have := fin_stp h
    rw [decide_eq_false (by omega : ¬ stp a = -9218868437227405312)]
    simp
  unfold iAll
  rw [k]
  rfl
theorem all_no2 (a : Nat) {b : Nat} (h : mag b < 9218868437227405312) : iAll a b = false := by
  have k : eq b 9218868437227405312 = false := by
    unfold eq
    rw [show stp 9218868437227405312 = 9218868437227405312 by decide]
    have := fin_stp h
    rw [decide_eq_false (by omega : ¬ stp b = 9218868437227405312)]
    simp
  unfold iAll
  rw [k]
  simp
theorem mdF_fin {a b : Nat} (ha : a < 18446744073709551616) (hb : b < 18446744073709551616) (v : vI a b = true) : mag (mdF a b) < 9218868437227405312 := by
  obtain ⟨c1, c2, hs⟩ := vI_cases ha hb v
  unfold mdF
  split
  · decide
  · split
    · decide
    · split
      · decide
      · rename_i h1 h2 h3
        rcases c1 with ⟨f1, -, -⟩ | ⟨rfl, -⟩
        · rcases c2 with ⟨f2, -, -⟩ | ⟨rfl, -⟩
          · exact (hfS_in ha hb f1 f2 hs).2.2
          · exact absurd (by decide +kernel : iFar 9218868437227405312 = true) h3
        · exact absurd (by decide +kernel : iFar 18442240474082181120 = true) h2
/-- the document's Mid is the program's -/
theorem mid_doc {a b : Nat} (ha : a < 18446744073709551616) (hb : b < 18446744073709551616) : midV (vI a b) (decide (eI a ≠ 0) && decide (eI b ≠ 0)) (decide (eI a ≠ 0)) (decide (eI b ≠ 0)) (toD (tSh (tS (eT a) (eT b)) (-1)) 2) = .tuple #[.float .f64 (if vI a b then mdF a b else 0), .int .i64 (if vI a b then 0 else 1)] := by
  rw [← midV_eq]
  cases v : vI a b
  · rfl
  · obtain ⟨c1, c2, hs⟩ := vI_cases ha hb v
    rcases c1 with ⟨f1, e1, t1⟩ | ⟨rfl, e1⟩
    · rcases c2 with ⟨f2, e2, t2⟩ | ⟨rfl, e2⟩
      · rw [e1, e2, t1, t2, all_no1 b f1, far_of f1, far_of f2, hfS_toD]; rfl
      · rw [e1, e2, all_no1 _ f1, far_of f1, show iFar 9218868437227405312 = true by decide +kernel]; rfl
    · rcases c2 with ⟨f2, e2, t2⟩ | ⟨rfl, e2⟩
      · rw [e1, e2, all_no2 _ f2, far_of f2, show iFar 18442240474082181120 = true by decide +kernel]; rfl
      · rw [e1, e2, show iAll 18442240474082181120 9218868437227405312 = true by decide +kernel]; rfl
theorem dmid (a b : Nat) (ha : a < 18446744073709551616) (hb : b < 18446744073709551616) (w : World) : Calls Tryz.prog 35 #[.agg #[.float .f64 a, .float .f64 b]] w fun r w' => r = .returned (.tuple #[.float .f64 (if vI a b then mdF a b else 0), .int .i64 (if vI a b then 0 else 1)]) ∧ Below w.heap.size w w' := by
  have k := dmid_1 a b (eI a) (eI b) (toD (tSh (tS (eT a) (eT b)) (-1)) 2) ⟨rfl, rfl⟩ (fun e1 e2 => by
    have t1 : eT a = tF a := by unfold eT; rw [if_pos e1]
    have t2 : eT b = tF b := by unfold eT; rw [if_pos e2]
    obtain ⟨o1, o2, -, -⟩ := hfS_facts a b
    have := o1.facts
    rw [t1, t2]
    exact ⟨rfl, o2, fun _ => ⟨by omega, by omega⟩⟩) w ha hb
  rw [mid_doc ha hb] at k
  exact k
/-- what the program's Rad adds up is no NaN -/
theorem rd_nn {a b : Nat} (ha : a < 18446744073709551616) (hb : b < 18446744073709551616) (v : vI a b = true) : isNaN (rdP a b) = false ∧ isNaN (rdQ a b) = false := by
  obtain ⟨na, nb⟩ := vI_nn v
  have fm := mdF_fin ha hb v
  have nm := fin_nn fm
  have em := (eI_zero_fin (mdF_lt a b) nm).2 fm
  have n1 : isNaN (ngt a) = false := by unfold isNaN at na ⊢; rw [ngt_mag ha]; exact na
  have n2 : isNaN (ngt (mdF a b)) = false := by unfold isNaN at nm ⊢; rw [ngt_mag (mdF_lt a b)]; exact nm
  have e2 : eI (ngt (mdF a b)) = 0 := by rw [eI_ngt (mdF_lt a b), em]; rfl
  constructor
  · exact fAdM_nn (mdF_lt a b) (ngt_lt ha) nm n1 (by rw [em]; omega) (by rw [em]; omega) (by omega)
  · exact fAdM_nn hb (ngt_lt (mdF_lt a b)) nb n2 (by rw [e2]; omega) (by rw [e2]; omega) (by omega)
theorem nn_stp {x : Nat} (h : isNaN x = false) : stp x ≤ 9218868437227405312 := by
  have n' : ¬ 9218868437227405312 < mag x := of_decide_eq_false h
  unfold stp sgn
  split <;> omega
theorem fMax_inf {x y : Nat} (hx : x < 18446744073709551616) (hy : y < 18446744073709551616) (nx : isNaN x = false) (ny : isNaN y = false) (h : x = 9218868437227405312 ∨ y = 9218868437227405312) : fMax x y = 9218868437227405312 := by
  have k := fMax_stp x y
  have k1 := nn_stp nx
  have k2 := nn_stp ny
  have ke : stp 9218868437227405312 = 9218868437227405312 := by decide
  have ks : stp (fMax x y) = 9218868437227405312 := by
    rcases h with h | h
    · rw [k, h, ke]; omega
    · rw [k, h, ke]; omega
  refine stp_inj (fMax_lt hx hy) (by omega) (by rw [ks, ke]) ?_ (by omega)
  intro hz
  rw [hz] at ks
  exact absurd ks (by decide)
theorem rad_doc {a b : Nat} (ha : a < 18446744073709551616) (hb : b < 18446744073709551616) (v : vI a b = true) (h : eI a ≠ 0 ∨ eI b ≠ 0) : fMax (rdP a b) (rdQ a b) = 9218868437227405312 := by
  obtain ⟨n1, n2⟩ := rd_nn ha hb v
  refine fMax_inf (fAdM_lt (mdF_lt a b) (ngt_lt ha) (by omega)) (fAdM_lt hb (ngt_lt (mdF_lt a b)) (by omega)) n1 n2 ?_
  obtain ⟨na, nb⟩ := vI_nn v
  have fm := mdF_fin ha hb v
  have nm := fin_nn fm
  have em := (eI_zero_fin (mdF_lt a b) nm).2 fm
  obtain ⟨c1, c2, hs⟩ := vI_cases ha hb v
  have key : ∀ x c, x < 18446744073709551616 → c < 18446744073709551616 → isNaN x = false → isNaN c = false → eI x + eI c = 1 → fAdM x c 3 = 9218868437227405312 := fun x c hx hc nx nc e => by
    have k := enF_plus hx hc nx nc (by omega) (by omega) (m := 3) (by omega)
    rw [e] at k
    have e1 : enF 1 (plT (eI x) (eI c) (eT x) (eT c)) 3 = 9218868437227405312 := by unfold enF; rfl
    rw [e1] at k
    rcases pl_cases (fAdM x c 3) with h | ⟨-, h⟩
    · rw [h] at k; exact k.symm
    · rw [h] at k; exact absurd k (by decide)
  rcases c1 with ⟨f1, e1, t1⟩ | ⟨-, e1⟩
  · rcases c2 with ⟨f2, e2, t2⟩ | ⟨-, e2⟩
    · exact absurd h (by rw [e1, e2]; simp)
    · right
      refine key b _ hb (ngt_lt (mdF_lt a b)) nb (by unfold isNaN at nm ⊢; rw [ngt_mag (mdF_lt a b)]; exact nm) ?_
      rw [eI_ngt (mdF_lt a b), em, e2]; rfl
  · left
    refine key _ (ngt a) (mdF_lt a b) (ngt_lt ha) nm (by unfold isNaN at na ⊢; rw [ngt_mag ha]; exact na) ?_
    rw [eI_ngt ha, em, e1]; rfl
theorem drad (a b : Nat) (ha : a < 18446744073709551616) (hb : b < 18446744073709551616) (w : World) : Calls Tryz.prog 37 #[.agg #[.float .f64 a, .float .f64 b]] w fun r w' => r = .returned (.tuple #[.float .f64 (if vI a b then fMax (rdP a b) (rdQ a b) else 0), .int .i64 (if vI a b then 0 else 1)]) ∧ Below w.heap.size w w' := by
  have hml := mdF_lt a b
  obtain ⟨p, hp⟩ : ∃ p, p = tS (tF b) (tNeg (tF (mdF a b))) := ⟨_, rfl⟩
  obtain ⟨q, hq⟩ : ∃ q, q = tS (tF (mdF a b)) (tNeg (tF a)) := ⟨_, rfl⟩
  have fins : vI a b = true → eI a = 0 → eI b = 0 → mag a < 9218868437227405312 ∧ mag b < 9218868437227405312 ∧ stp a ≤ stp b ∧ mdF a b = hfS a b := fun v e1 e2 => by
    obtain ⟨c1, c2, hs⟩ := vI_cases ha hb v
    rcases c1 with ⟨f1, -, -⟩ | ⟨-, e⟩
    · rcases c2 with ⟨f2, -, -⟩ | ⟨-, e⟩
      · refine ⟨f1, f2, hs, ?_⟩
        unfold mdF
        rw [all_no1 b f1, far_of f1, far_of f2]
        rfl
      · omega
    · omega
  have rf : vI a b = true → eI a = 0 → eI b = 0 → Ok p ∧ Ok q ∧ toD (if ordN p.1 p.2.1 p.2.2 q.1 q.2.1 q.2.2 < 0 then q else p) 3 = fMax (rdP a b) (rdQ a b) := fun v e1 e2 => by
    obtain ⟨f1, f2, hs, hm⟩ := fins v e1 e2
    have k := hfS_in ha hb f1 f2 hs
    exact rad_fin ha hb hml f1 f2 (mdF_fin ha hb v) (by rw [hm]; exact k.1) (by rw [hm]; exact k.2.1) hp hq
  have k := drad_1 a b (eI a) (eI b) (mdF a b) (fMax (rdP a b) (rdQ a b)) (if ordN p.1 p.2.1 p.2.2 q.1 q.2.1 q.2.2 < 0 then q else p) ⟨rfl, rfl⟩
    (fun v W => by
      have k := dmid a b ha hb W
      rw [v] at k
      exact k)
    (fun v e1 e2 W => by
      obtain ⟨op, oq, -⟩ := rf v e1 e2
      exact dhalf_1 a b (mdF a b) (tF a) (tF b) (tF (mdF a b)) p q _ W (fun W => float_dn b hb W) (fun W => float_dn (mdF a b) hml W) (fun W => float_dn a ha W)
        (fun W A B h1 h2 => by
          have k := less8_dn (tF_ok b) (tF_ok (mdF a b)) h1 h2
          rw [tD8_eq (tF_ok _), ← hp] at k
          exact k)
        (fun W A B h1 h2 => by
          have k := less8_dn (tF_ok (mdF a b)) (tF_ok a) h1 h2
          rw [tD8_eq (tF_ok _), ← hq] at k
          exact k)
        (fun W A B h1 h2 => dorder op oq h1 h2))
    (fun v e1 e2 W A h => by
      obtain ⟨op, oq, e⟩ := rf v e1 e2
      have o : Ok (if ordN p.1 p.2.1 p.2.2 q.1 q.2.1 q.2.2 < 0 then q else p) := by
        split
        · exact oq
        · exact op
      have k := dto8 (m := 3) o (by omega) h
      rw [e] at k
      exact k) w ha hb
  refine k.mono ?_
  rintro r w' ⟨rfl, hbl⟩
  refine ⟨?_, hbl⟩
  congr 1
  unfold raV
  cases v : vI a b
  · rfl
  · by_cases h : eI a ≠ 0 ∨ eI b ≠ 0
    · rw [rad_doc ha hb v h]
      simp
    · have h1 : eI a = 0 := by omega
      have h2 : eI b = 0 := by omega
      rw [h1, h2]
      rfl
set_option maxHeartbeats 16000000 in
set_option maxRecDepth 200000 in
theorem mids8_1 (a b x y : Nat) (f1 : Int) (w : World)
    (k1 : ∀ W, Below w.heap.size w W → Calls Tryz.prog 34 #[.agg #[.float .f64 a, .float .f64 b]] W fun r w' => r = .returned (.tuple #[.float .f64 x, .int .i64 f1]) ∧ Below W.heap.size W w')
    (k2 : ∀ W, Below w.heap.size w W → Calls Tryz.prog 35 #[.agg #[.float .f64 a, .float .f64 b]] W fun r w' => r = .returned (.tuple #[.float .f64 x, .int .i64 f1]) ∧ Below W.heap.size W w')
    (k3 : ∀ W, Below w.heap.size w W → Calls Tryz.prog 36 #[.agg #[.float .f64 a, .float .f64 b]] W fun r w' => r = .returned (.tuple #[.float .f64 y, .int .i64 f1]) ∧ Below W.heap.size W w')
    (k4 : ∀ W, Below w.heap.size w W → Calls Tryz.prog 37 #[.agg #[.float .f64 a, .float .f64 b]] W fun r w' => r = .returned (.tuple #[.float .f64 y, .int .i64 f1]) ∧ Below W.heap.size W w')
    (m1 : ∀ W, Below w.heap.size w W → Calls Tryz.prog 38 #[.float .f64 x, .float .f64 x] W fun r w' => r = .returned (.bool true) ∧ Below W.heap.size W w')
    (m2 : ∀ W, Below w.heap.size w W → Calls Tryz.prog 38 #[.float .f64 y, .float .f64 y] W fun r w' => r = .returned (.bool true) ∧ Below W.heap.size W w')
    (m3 : ∀ W, Below w.heap.size w W → Calls Tryz.prog 17 #[] W fun r w' => r = .returned (.bool true) ∧ Below W.heap.size W w') :
    Calls Tryz.prog 7 #[.agg #[.float .f64 a, .float .f64 b]] w fun r w' => r = .returned (.bool true) ∧ Below w.heap.size w w' := by
  have fe1 : (f1 == f1) = true := by simp
  have Hk1 : Hid (∀ W, Below w.heap.size w W → Calls Tryz.prog 34 #[.agg #[.float .f64 a, .float .f64 b]] W fun r w' => r = .returned (.tuple #[.float .f64 x, .int .i64 f1]) ∧ Below W.heap.size W w') := k1
  have Hk2 : Hid (∀ W, Below w.heap.size w W → Calls Tryz.prog 35 #[.agg #[.float .f64 a, .float .f64 b]] W fun r w' => r = .returned (.tuple #[.float .f64 x, .int .i64 f1]) ∧ Below W.heap.size W w') := k2
  have Hk3 : Hid (∀ W, Below w.heap.size w W → Calls Tryz.prog 36 #[.agg #[.float .f64 a, .float .f64 b]] W fun r w' => r = .returned (.tuple #[.float .f64 y, .int .i64 f1]) ∧ Below W.heap.size W w') := k3
  have Hk4 : Hid (∀ W, Below w.heap.size w W → Calls Tryz.prog 37 #[.agg #[.float .f64 a, .float .f64 b]] W fun r w' => r = .returned (.tuple #[.float .f64 y, .int .i64 f1]) ∧ Below W.heap.size W w') := k4
  have Hm1 : Hid (∀ W, Below w.heap.size w W → Calls Tryz.prog 38 #[.float .f64 x, .float .f64 x] W fun r w' => r = .returned (.bool true) ∧ Below W.heap.size W w') := m1
  have Hm2 : Hid (∀ W, Below w.heap.size w W → Calls Tryz.prog 38 #[.float .f64 y, .float .f64 y] W fun r w' => r = .returned (.bool true) ∧ Below W.heap.size W w') := m2
  have Hm3 : Hid (∀ W, Below w.heap.size w W → Calls Tryz.prog 17 #[] W fun r w' => r = .returned (.bool true) ∧ Below W.heap.size W w') := m3
  obtain ⟨W, hW⟩ : ∃ W, W = (w.alloc (.cells #[.float .f64 a, .float .f64 b] 24)) := ⟨_, rfl⟩
  have HX : Hid (Below w.heap.size w W ∧ IvB W (w.heap.size) a b) := by
    rw [hW]
    exact ⟨bxs1_0 w a b, bxs1_1 w a b⟩
  have HK : Hid (∀ w', Below W.heap.size W w' → IvF w' (w.heap.size) a b) := fun w' hb => (HX.out.2).later hb
  have AW : Hid (Below w.heap.size w W) := HX.out.1
  have BW_W : Hid (Below W.heap.size W W) := Below.refl _ _
  clear k1 k2 k3 k4 m1 m2 m3
  go_enter Tryz.func7, Tryz.ntmps7
  go_upto_region 1 with fail
  rw [← hW]
  clear hW
  obtain ⟨c0, c1, z0, z1⟩ := HK.out W BW_W.out
  clear z0 z1
  have kk := Hk1.out W AW.out
  clear Hk1
  go_wp2_with fail
  clear c0 c1
  refine kk.mono ?_
  rintro r w1 ⟨rfl, hb⟩
  clear kk
  have Aw1 : Hid (Below w.heap.size w w1) := AW.out.trans (hb.mono AW.out.size)
  have BW_w1 : Hid (Below W.heap.size W w1) := BW_W.out.trans (hb.mono BW_W.out.size)
  clear hb AW BW_W 
  obtain ⟨c0, c1, z0, z1⟩ := HK.out w1 BW_w1.out
  clear z0 z1
  have kk := Hk2.out w1 Aw1.out
  clear Hk2
  go_wp2_with fail
  clear c0 c1
  refine kk.mono ?_
  rintro r w2 ⟨rfl, hb⟩
  clear kk
  have Aw2 : Hid (Below w.heap.size w w2) := Aw1.out.trans (hb.mono Aw1.out.size)
  have BW_w2 : Hid (Below W.heap.size W w2) := BW_w1.out.trans (hb.mono BW_w1.out.size)
  clear hb Aw1 BW_w1 
  obtain ⟨c0, c1, z0, z1⟩ := HK.out w2 BW_w2.out
  clear z0 z1
  have kk := Hk3.out w2 Aw2.out
  clear Hk3
  go_wp2_with fail
  clear c0 c1
  refine kk.mono ?_
  rintro r w3 ⟨rfl, hb⟩
  clear kk
  have Aw3 : Hid (Below w.heap.size w w3) := Aw2.out.trans (hb.mono Aw2.out.size)
  have BW_w3 : Hid (Below W.heap.size W w3) := BW_w2.out.trans (hb.mono BW_w2.out.size)
  clear hb Aw2 BW_w2 
  obtain ⟨c0, c1, z0, z1⟩ := HK.out w3 BW_w3.out
  clear z0 z1
  have kk := Hk4.out w3 Aw3.out
  clear Hk4
  go_wp2_with fail
  clear c0 c1
  refine kk.mono ?_
  rintro r w4 ⟨rfl, hb⟩
  clear kk
  have Aw4 : Hid (Below w.heap.size w w4) := Aw3.out.trans (hb.mono Aw3.out.size)
  have BW_w4 : Hid (Below W.heap.size W w4) := BW_w3.out.trans (hb.mono BW_w3.out.size)
  clear hb Aw3 BW_w3 
  have HKK : Hid (∀ w', Below w4.heap.size w4 w' → w'.cell? ⟨w.heap.size, 0, none⟩ = some (.float .f64 a) ∧ w'.cell? ⟨w.heap.size, 1, none⟩ = some (.float .f64 b) ∧ Below w4.heap.size w4 w') := fun w' hb => ⟨(HK.out w' (BW_w4.out.trans (hb.mono BW_w4.out.size))).1, (HK.out w' (BW_w4.out.trans (hb.mono BW_w4.out.size))).2.1, hb⟩
  have hBR : Below w4.heap.size w4 w4.drew := (Below.refl _ _).drew
  have q1 : ∀ W, Below w4.heap.size w4 W → Calls Tryz.prog 38 #[.float .f64 x, .float .f64 x] W fun r w' => r = .returned (.bool true) ∧ Below w4.heap.size w4 w' := fun W h => (Hm1.out W (Aw4.out.trans (h.mono Aw4.out.size))).mono fun r w' ⟨e1, e2⟩ => ⟨e1, h.trans (e2.mono h.size)⟩
  have q2 : ∀ W, Below w4.heap.size w4 W → Calls Tryz.prog 38 #[.float .f64 y, .float .f64 y] W fun r w' => r = .returned (.bool true) ∧ Below w4.heap.size w4 w' := fun W h => (Hm2.out W (Aw4.out.trans (h.mono Aw4.out.size))).mono fun r w' ⟨e1, e2⟩ => ⟨e1, h.trans (e2.mono h.size)⟩
  have q3 : ∀ W, Below w4.heap.size w4 W → Calls Tryz.prog 17 #[] W fun r w' => r = .returned (.bool true) ∧ Below w4.heap.size w4 w' := fun W h => (Hm3.out W (Aw4.out.trans (h.mono Aw4.out.size))).mono fun r w' ⟨e1, e2⟩ => ⟨e1, h.trans (e2.mono h.size)⟩
  clear Hm1 Hm2 Hm3  HX HK BW_w4
  obtain ⟨a0, a1, -⟩ := HKK.out w4 (Below.refl _ _)
  go_upto_region 5 with fail
  have D0 : Hid (Below w4.heap.size w4 w4) := Below.refl _ _
  have kk := q1 w4 D0.out
  go_wp2_with fail
  refine kk.mono ?_
  rintro r z_1 ⟨rfl, hb⟩
  have D1 : Hid (Below w4.heap.size w4 z_1) := hb
  clear kk hb D0
  clear a0 a1
  obtain ⟨a0, a1, -⟩ := HKK.out z_1 D1.out
  have kk := q2 z_1 D1.out
  go_wp2_with fail
  refine kk.mono ?_
  rintro r z_2 ⟨rfl, hb⟩
  have D2 : Hid (Below w4.heap.size w4 z_2) := hb
  clear kk hb D1
  clear a0 a1
  obtain ⟨a0, a1, -⟩ := HKK.out z_2 D2.out
  have kk := q3 z_2 D2.out
  go_wp2_with fail
  refine kk.mono ?_
  rintro r wz ⟨rfl, hb⟩
  have D3 : Hid (Below w4.heap.size w4 wz) := hb
  clear kk hb D2
  clear a0 a1
  obtain ⟨a0, a1, -⟩ := HKK.out wz D3.out
  have hbz := D3.out
  have HF : Hid (Below w.heap.size w wz) := Aw4.out.trans (hbz.mono Aw4.out.size)
  clear q1 q2 q3 HKK hBR a0 a1 hbz
  go_wp2_with fail
  go_ret
  exact ⟨rfl, HF.out⟩
theorem radV_or (v : Bool) (R : Nat) : radV (if v then 0 else 1) R = .tuple #[.float .f64 (if v then R else 0), .int .i64 (if v then 0 else 1)] := by
  cases v <;> rfl
/-- SpanMiddles answers true -/
theorem spanMiddles_ok (a b : Nat) (w : World) (ha : a < 18446744073709551616) (hb : b < 18446744073709551616) (hT : Tab32 w) (hJ : Ie.Tab w) :
    Calls Tryz.prog 7 #[.agg #[.float .f64 a, .float .f64 b]] w fun r w' => r = .returned (.bool true) ∧ Below w.heap.size w w' :=
  mids8_1 a b (if vI a b then mdF a b else 0) (if vI a b then fMax (rdP a b) (rdQ a b) else 0) (if vI a b then 0 else 1) w
    (fun W h => by have k := smid a b ha hb W (hT.later h) (Tab.later hJ h); rw [midV_eq] at k; exact k)
    (fun W _ => dmid a b ha hb W)
    (fun W h => by have k := srad a b ha hb W (hT.later h) (Tab.later hJ h) (fun v => (rd_nn ha hb v).1) (fun v => (rd_nn ha hb v).2); rw [radV_or] at k; exact k)
    (fun W _ => drad a b ha hb W)
    (fun W _ => (llike_self _ (or_lt8 (mdF_lt a b)) W).mono fun r w' ⟨e, h⟩ => ⟨e, h ▸ Below.refl _ _⟩)
    (fun W _ => (llike_self _ (or_lt8 (fMax_lt (fAdM_lt (mdF_lt a b) (ngt_lt ha) (by omega)) (fAdM_lt hb (ngt_lt (mdF_lt a b)) (by omega)))) W).mono fun r w' ⟨e, h⟩ => ⟨e, h ▸ Below.refl _ _⟩)
    (fun W h => works8 W (hT.later h) (Tab.later hJ h))
end Go.Proofs.YtnalhfcpcpondaaGreatDoor
