/- Own work: contracts of the program's functions, part 17: RY5 SA7 SA8 SB1 SB2 SB3 FL2 SC1 RY6 SC2 RY7 SD1. -/
import Derived.Test.YtajeodimbfppiaaGreatDoorA16
import Derived.Test.YtajeodimbfppiaaGreatDoorA10
import Derived.Test.YtajeodimbfppiaaGreatDoorA8
import Derived.Test.YtajeodimbfppiaaGreatDoorA9
import Derived.Test.YtajeodimbfppiaaGreatDoorA12
import Derived.Test.YtajeodimbfppiaaGreatDoorA6

/- The document's numbers between two cuts, rounded. -/
namespace Go.Proofs.YtajeodimbfppiaaGreatDoor
set_option linter.unusedVariables false
set_option linter.unusedSimpArgs false
open Go.RowKit Go.Fl64
open Ie

/-- the document's rounding of a number in its canonical form -/
theorem rto_nc {W : World} {base : Nat} {A : Value} {s : Bool} {z : Nat} {e m : Int} (h : NC W base A s z e) (hz : z ≠ 0) (hl : dlen z ≤ 30000) (he1 : -2000000 ≤ e) (he2 : e ≤ 2000000) (hm : 1 ≤ m ∧ m ≤ 3) :
    Calls Tryz.prog 84 #[A, .int .i64 m] W fun r w' => r = .returned (.float .f64 (tfF s true z e m)) ∧ Below W.heap.size W w' := by
  obtain ⟨ao, cap, rfl, hA, -⟩ := h
  have hc : cn s z e = (s, z / 2 ^ tz z, e + tz z) := by unfold cn; rw [if_neg hz]
  rw [hc] at hA ⊢
  simp only at hA ⊢
  have hs := tz_spec z z (Nat.le_refl _) hz
  have htz : tz z < bl z := by
    have h3 : 2 ^ tz z ≤ z := by
      have h4 : 0 < z / 2 ^ tz z := Nat.pos_of_ne_zero fun e => by have := hs.2; rw [e] at this; omega
      exact Nat.le_trans (Nat.le_mul_of_pos_right _ h4) (Nat.le_of_eq hs.1)
    exact (Nat.pow_lt_pow_iff_right (by omega)).1 (Nat.lt_of_le_of_lt h3 (lt_bl z))
  have hbl := bl_le_dlen z
  have hdl : dlen (z / 2 ^ tz z) ≤ dlen z := dlen_mono (Nat.div_le_self _ _)
  have := rto (neg := s) (ea := e + tz z) (m := m) hA.at_ hA.le hs.2 (by omega) (by omega) (by omega) hm
  rw [← tf_bdy hm] at this
  have e1 : tfF s true (z / 2 ^ tz z) (e + tz z) m = tfF s true z e m := by
    rw [← tf_shl (x := z / 2 ^ tz z) (n := tz z) (e := e) hm, Nat.mul_comm, hs.1]
  rw [e1] at this
  exact this
theorem half_sum {s : Bool} {z : Nat} {P : Int} (hz : s = true → z ≠ 0) : sumN (cn s z (-P)).1 (cn s z (-P)).2.1 (cn s z (-P)).2.2 false 1 (-(P + 1)) = (if z = 0 then false else s, if s then 2 * z - 1 else 2 * z + 1, -(P + 1)) := by
  by_cases h0 : z = 0
  · have hs : s = false := by cases s with
      | false => rfl
      | true => exact absurd h0 (hz rfl)
    subst hs; subst h0
    unfold cn; rw [if_pos rfl]; unfold sumN; rw [if_pos rfl]; simp
  · have h2 := tz_spec z z (Nat.le_refl _) h0
    have e1 : cn s z (-P) = (s, z / 2 ^ tz z, -P + tz z) := by unfold cn; rw [if_neg h0]
    have h3 : z / 2 ^ tz z ≠ 0 := fun e => by have := h2.2; rw [e] at this; omega
    have hz2 : z / 2 ^ tz z * 2 ^ (tz z + 1) = 2 * z := by rw [Nat.pow_succ, ← Nat.mul_assoc, Nat.mul_comm (z / 2 ^ tz z), h2.1, Nat.mul_comm]
    rw [e1]
    unfold sumN
    simp only
    rw [if_neg h3, if_neg (by omega), show min (-P + (tz z : Int)) (-(P + 1)) = -(P + 1) by omega, show (-P + (tz z : Int) - -(P + 1)).toNat = tz z + 1 by omega, show (-(P + 1) - -(P + 1)).toNat = 0 by omega, Nat.pow_zero, Nat.mul_one, hz2, if_neg h0]
    cases s
    · rw [if_pos rfl, if_neg (by decide)]
    · rw [if_neg (by decide), if_neg (by omega), if_pos rfl]
/-- Between: the number cut, or what lies half a unit above it -/
theorem rbetween {W : World} {base : Nat} {A : Value} {s : Bool} {q : Nat} {P m : Int} {bx : Bool} (h : NC W base A s (if s && !bx then q + 1 else q) (-P)) (hq : bx = true → q ≠ 0) (hl : dlen q ≤ 20000) (hP1 : -100000 ≤ P) (hP2 : P ≤ 100000) (hm : 1 ≤ m ∧ m ≤ 3) :
    Calls Tryz.prog 98 #[A, .bool bx, .int .i64 P, .int .i64 m] W fun r w' => r = .returned (.float .f64 (if bx then tfF s true q (-P) m else tfF s true (2 * q + 1) (-(P + 1)) m)) ∧ Below W.heap.size W w' := by
  obtain ⟨s0, ao0, n0, cap0, e0, rfl⟩ := h.shape
  cases bx
  · rw [Bool.not_false, Bool.and_true] at h
    rw [if_neg (by decide)]
    have hzl : dlen (if s then q + 1 else q) ≤ 20001 := by
      split
      · exact Nat.le_trans (dlen_succ_le _) (by omega)
      · omega
    refine rbet_r s0 ao0 n0 cap0 _ e0 P m s (2 * q + 1) (-(P + 1)) W (by omega) (by omega) (fun g W' hW' hA1 => ?_) (fun W' A' hW' hN => ?_)
    · obtain ⟨ao, cap, e1, hA, -⟩ := h.later hW'
      rw [e1]
      obtain ⟨z, hz⟩ : ∃ z, z = if s then q + 1 else q := ⟨_, rfl⟩
      rw [← hz] at hA hzl ⊢
      have hcn : cn (cn s z (-P)).1 (cn s z (-P)).2.1 (cn s z (-P)).2.2 = (cn s z (-P)) := by
        by_cases h0 : z = 0
        · unfold cn; rw [if_pos h0, if_pos rfl]
        · have h2 := (tz_spec z z (Nat.le_refl _) h0).2
          have : cn s z (-P) = (s, z / 2 ^ tz z, -P + tz z) := by unfold cn; rw [if_neg h0]
          rw [this]
          exact cn_odd h2
      have hbnd : -2000000 ≤ (cn s z (-P)).2.2 ∧ (cn s z (-P)).2.2 ≤ 2000000 := by
        by_cases h0 : z = 0
        · unfold cn; rw [if_pos h0]; exact ⟨by decide, by decide⟩
        · have hs := tz_spec z z (Nat.le_refl _) h0
          have htz : tz z < bl z := by
            have h3 : 2 ^ tz z ≤ z := Nat.le_trans (Nat.le_mul_of_pos_right _ (Nat.pos_of_ne_zero fun e => by have := hs.2; rw [e] at this; omega)) (Nat.le_of_eq hs.1)
            exact (Nat.pow_lt_pow_iff_right (by omega)).1 (Nat.lt_of_le_of_lt h3 (lt_bl z))
          have hbl := bl_le_dlen z
          unfold cn; rw [if_neg h0]; exact ⟨by simp only; omega, by simp only; omega⟩
      have hone : Arg W' (some ⟨g, 0, none⟩) (dlen 1) 1 1 := ⟨fun h => by rw [dlen_one] at h; omega, by rw [dlen_one]; exact hA1, by rw [dlen_one]; exact Nat.le_refl _, by rw [dlen_one]; omega⟩
      have := rplusG (na := (cn s z (-P)).1) (nb := false) (ea := (cn s z (-P)).2.2) (eb := -(P + 1)) hA hone hcn (cn_odd rfl) hbnd.1 hbnd.2 (by omega) (by omega) (Nat.le_trans cn_dlen (by omega)) (by rw [dlen_one]; omega)
      have hzs : s = true → z ≠ 0 := fun e => by rw [hz, e, if_pos rfl]; omega
      rw [half_sum hzs, dlen_one] at this
      refine this.mono ?_
      rintro r w' ⟨a, rfl, hN, hb⟩
      refine ⟨a, rfl, ?_, hb⟩
      have e2 : (if s then 2 * z - 1 else 2 * z + 1) = 2 * q + 1 := by
        rw [hz]; cases s
        · rw [if_neg (by decide), if_neg (by decide)]
        · rw [if_pos rfl, if_pos rfl]; omega
      rw [e2] at hN
      by_cases h0 : z = 0
      · rw [if_pos h0] at hN
        have hs : s = false := by cases s with
          | false => rfl
          | true => exact absurd h0 (hzs rfl)
        rw [hs]; exact hN
      · rw [if_neg h0] at hN; exact hN
    · refine rto_nc hN (by omega) ?_ (by omega) (by omega) hm
      have h1 := dlen_add_le q q
      have h2 := dlen_succ_le (q + q)
      rw [show 2 * q + 1 = q + q + 1 by omega]
      omega
  · rw [Bool.not_true, Bool.and_false, if_neg (by decide)] at h
    rw [if_pos rfl]
    exact rbet_e s0 ao0 n0 cap0 _ e0 P m W (fun W' hW' => rto_nc (h.later hW') (hq rfl) (by omega) (by omega) (by omega) hm)
end Go.Proofs.YtajeodimbfppiaaGreatDoor

/- The document's Add and Sub of finite floats. -/
namespace Go.Proofs.YtajeodimbfppiaaGreatDoor
set_option linter.unusedVariables false
set_option linter.unusedSimpArgs false
open Go.RowKit Go.Fl64

set_option maxHeartbeats 4000000 in
set_option maxRecDepth 200000 in
theorem dR_1 (s : Bool) (ao : Option Addr) (n cap : Nat) (e m sg : Int) (Z F : Nat) (w : World)
    (kS : ∀ W, Below w.heap.size w W → Calls Tryz.prog 64 #[.agg #[.bool s, .slice ao n cap, .int .i64 e]] W fun r w' => r = .returned (.int .i64 sg) ∧ Below W.heap.size W w')
    (kT : (sg == 0) = false → ∀ W, Below w.heap.size w W → Calls Tryz.prog 84 #[.agg #[.bool s, .slice ao n cap, .int .i64 e], .int .i64 m] W fun r w' => r = .returned (.float .f64 F) ∧ Below W.heap.size W w') :
    Calls Tryz.prog 48 #[.agg #[.bool s, .slice ao n cap, .int .i64 e], .int .i64 m, .float .f64 Z] w fun r w' => r = .returned (.float .f64 (if sg == 0 then Z else F)) ∧ Below w.heap.size w w' := by
  obtain ⟨W, hW⟩ : ∃ W, W = w.alloc (.cells #[.bool s, .slice ao n cap, .int .i64 e] 38) := ⟨_, rfl⟩
  have hA : W.heap[w.heap.size]? = some (.cells #[.bool s, .slice ao n cap, .int .i64 e] 38 (0, 0)) := by rw [hW]; exact heap_alloc_new _ _
  have HX : Hid (Below w.heap.size w W ∧ W.heap[w.heap.size]? = some (.cells #[.bool s, .slice ao n cap, .int .i64 e] 38 (0, 0))) := ⟨by rw [hW]; exact (Below.refl _ _).alloc (Nat.le_refl _) _, hA⟩
  obtain ⟨⟨a0, a1, a2⟩, -⟩ := box_cells29 hA
  have k1 := kS W HX.out.1
  have HT : Hid ((sg == 0) = false → ∀ W, Below w.heap.size w W → Calls Tryz.prog 84 #[.agg #[.bool s, .slice ao n cap, .int .i64 e], .int .i64 m] W fun r w' => r = .returned (.float .f64 F) ∧ Below W.heap.size W w') := kT
  clear kS kT hA
  rw [hW] at a0 a1 a2
  cases hs : (sg == 0)
  · have kt := HT.out hs
    have HT2 : Hid (∀ W, Below w.heap.size w W → Calls Tryz.prog 84 #[.agg #[.bool s, .slice ao n cap, .int .i64 e], .int .i64 m] W fun r w' => r = .returned (.float .f64 F) ∧ Below W.heap.size W w') := kt
    clear HT kt
    go_enter Tryz.func48, Tryz.ntmps48
    go_wp2_with fail
    rw [← hW]
    clear hW a0 a1 a2
    refine k1.mono ?_
    rintro r w1 ⟨rfl, hb1⟩
    have HB1 : Hid (Below w.heap.size w w1) := HX.out.1.trans (hb1.mono HX.out.1.size)
    obtain ⟨⟨a0, a1, a2⟩, -⟩ := box_cells29 (box_later HX.out.2 hb1 (lt_of_box HX.out.2))
    have k2 := HT2.out w1 HB1.out
    clear k1 hb1
    go_wp2_with fail
    refine k2.mono ?_
    rintro r w2 ⟨rfl, hb2⟩
    have HB2 : Hid (Below w.heap.size w w2) := HB1.out.trans (hb2.mono HB1.out.size)
    clear k2 hb2 a0 a1 a2
    go_wp2_with fail
    go_ret
    exact ⟨rfl, HB2.out⟩
  · go_enter Tryz.func48, Tryz.ntmps48
    go_wp2_with fail
    rw [← hW]
    clear hW a0 a1 a2
    refine k1.mono ?_
    rintro r w1 ⟨rfl, hb1⟩
    have HB1 : Hid (Below w.heap.size w w1) := HX.out.1.trans (hb1.mono HX.out.1.size)
    clear k1 hb1
    go_wp2_with fail
    go_ret
    exact ⟨rfl, HB1.out⟩

/-- R of a number in its one form -/
theorem dR {t : Bool × Nat × Int} {A : Value} {m : Int} {Z : Nat} {w : World} (h : DN w A t) (ho : t.2.1 ≠ 0 → t.2.1 % 2 = 1) (hl : dlen t.2.1 ≤ 30000) (he1 : -2000000 ≤ t.2.2) (he2 : t.2.2 ≤ 2000000) (hm : 1 ≤ m ∧ m ≤ 3) :
    Calls Tryz.prog 48 #[A, .int .i64 m, .float .f64 Z] w fun r w' => r = .returned (.float .f64 (if t.2.1 = 0 then Z else tfF t.1 true t.2.1 t.2.2 m)) ∧ Below w.heap.size w w' := by
  obtain ⟨ao, cap, rfl, hA⟩ := h
  have k := dR_1 t.1 ao (dlen t.2.1) cap t.2.2 m (if dlen t.2.1 = 0 then 0 else if t.1 then -1 else 1) Z (tfF t.1 true t.2.1 t.2.2 m) w (fun W hW => rsgn (by omega)) (fun hs W hW => by
    have h0 : t.2.1 ≠ 0 := by
      intro e
      rw [if_pos (dlen_eq_zero.2 e)] at hs
      simp at hs
    rw [tf_bdy hm]
    exact rto ((hA.later hW).at_) hA.le (ho h0) (by omega) (by omega) (by omega) hm)
  refine k.mono ?_
  rintro r w' ⟨rfl, hb⟩
  refine ⟨?_, hb⟩
  by_cases h0 : t.2.1 = 0
  · rw [if_pos h0, if_pos (dlen_eq_zero.2 h0)]; rfl
  · rw [if_neg h0, if_neg (fun e => h0 (dlen_eq_zero.1 e))]
    cases t.1 <;> rfl

set_option maxHeartbeats 4000000 in
set_option maxRecDepth 200000 in
theorem dadd_fin (a b F : Nat) (m : Int) (ta tb t3 : Bool × Nat × Int) (w : World) (hm : isM m = true) (ha : a < 18446744073709551616) (hb : b < 18446744073709551616)
    (hfa : mag a < 9218868437227405312) (hfb : mag b < 9218868437227405312)
    (kA : Calls Tryz.prog 28 #[.float .f64 a] w fun r w' => ∃ A, r = .returned A ∧ DN w' A ta ∧ Below w.heap.size w w')
    (kB : ∀ W, Below w.heap.size w W → Calls Tryz.prog 28 #[.float .f64 b] W fun r w' => ∃ A, r = .returned A ∧ DN w' A tb ∧ Below W.heap.size W w')
    (kC : ∀ W X Y, Below w.heap.size w W → DN W X ta → DN W Y tb → Calls Tryz.prog 30 #[X, Y] W fun r w' => ∃ A, r = .returned A ∧ DN w' A t3 ∧ Below W.heap.size W w')
    (kR : ∀ W X, Below w.heap.size w W → DN W X t3 → Calls Tryz.prog 48 #[X, .int .i64 m, .float .f64 (sig (z0 (neg a) (neg b) m) 0)] W fun r w' => r = .returned (.float .f64 F) ∧ Below W.heap.size W w') :
    Calls Tryz.prog 11 #[.float .f64 a, .float .f64 b, .int .i64 m] w fun r w' => r = .returned (.float .f64 F) ∧ Below w.heap.size w w' := by
  have kV : ∀ W, Calls Tryz.prog 15 #[.int .i64 m] W fun r w' => r = .returned (.int .i64 0) ∧ w' = W := fun W => by
    have := dvalid m W
    rw [hm] at this
    exact this
  have kna := Ie.dnan a ha
  have knb := Ie.dnan b hb
  have kia := Ie.dinf a ha
  have kib := Ie.dinf b hb
  rw [show isNaN a = false by unfold isNaN; simp; omega] at kna
  rw [show isNaN b = false by unfold isNaN; simp; omega] at knb
  rw [Ie.isInf_not.2 (by omega)] at kia
  rw [Ie.isInf_not.2 (by omega)] at kib
  have HS : Hid ((∀ W, Calls Tryz.prog 50 #[.float .f64 a] W fun r w' => r = .returned (.bool (neg a)) ∧ w' = W) ∧ (∀ W, Calls Tryz.prog 50 #[.float .f64 b] W fun r w' => r = .returned (.bool (neg b)) ∧ w' = W)) := ⟨dsign a ha, dsign b hb⟩
  have HKB : Hid (∀ W, Below w.heap.size w W → Calls Tryz.prog 28 #[.float .f64 b] W fun r w' => ∃ A, r = .returned A ∧ DN w' A tb ∧ Below W.heap.size W w') := kB
  have HKC : Hid (∀ W X Y, Below w.heap.size w W → DN W X ta → DN W Y tb → Calls Tryz.prog 30 #[X, Y] W fun r w' => ∃ A, r = .returned A ∧ DN w' A t3 ∧ Below W.heap.size W w') := kC
  have HKR : Hid (∀ W X, Below w.heap.size w W → DN W X t3 → Calls Tryz.prog 48 #[X, .int .i64 m, .float .f64 (sig (z0 (neg a) (neg b) m) 0)] W fun r w' => r = .returned (.float .f64 F) ∧ Below W.heap.size W w') := kR
  clear ha hb kB kC kR hfa hfb
  go_enter Tryz.func11, Tryz.ntmps11
  go_wp2_with (first | (go_at_call 15; refine (kV _).mono ?_; rintro e w' ⟨rfl, hw⟩; rw [hw]; clear hw w') | (go_at_call 35; first | (refine (kna _).mono ?_; rintro e w' ⟨rfl, hw⟩; rw [hw]; clear hw w') | (refine (knb _).mono ?_; rintro e w' ⟨rfl, hw⟩; rw [hw]; clear hw w')) | (go_at_call 36; first | (refine (kia _).mono ?_; rintro e w' ⟨rfl, hw⟩; rw [hw]; clear hw w') | (refine (kib _).mono ?_; rintro e w' ⟨rfl, hw⟩; rw [hw]; clear hw w')))
  clear kna knb kia kib kV
  refine kA.mono ?_
  rintro r w1 ⟨A1, rfl, hP1, hb1⟩
  have k2 := HKB.out w1 hb1
  clear kA
  go_wp2_with fail
  refine k2.mono ?_
  rintro r w2 ⟨A2, rfl, hP2, hb2⟩
  have HB2 : Hid (Below w.heap.size w w2) := hb1.trans (hb2.mono hb1.size)
  have k3 := HKC.out w2 _ _ HB2.out (hP1.later hb2) hP2
  clear k2 hP1 hP2 hb1 hb2
  go_wp2_with fail
  refine k3.mono ?_
  rintro r w3 ⟨A3, rfl, hP3, hb3⟩
  have HB3 : Hid (Below w.heap.size w w3) := HB2.out.trans (hb3.mono HB2.out.size)
  have k4 := HKR.out w3 _ HB3.out hP3
  have ks1 := HS.out.1 w3
  have ks2 := HS.out.2 w3
  have k5 := dsum0 (neg a) (neg b) m w3
  clear k3 hP3 hb3
  go_wp2_with fail
  refine ks1.mono ?_
  rintro r w6 ⟨rfl, hw⟩
  rw [hw]
  clear hw ks1
  go_wp2_with fail
  refine ks2.mono ?_
  rintro r w6 ⟨rfl, hw⟩
  rw [hw]
  clear hw ks2
  go_wp2_with fail
  refine k5.mono ?_
  rintro r w6 ⟨rfl, hw⟩
  rw [hw]
  clear hw k5
  go_wp2_with fail
  refine k4.mono ?_
  rintro r w6 ⟨rfl, hb6⟩
  have HB6 : Hid (Below w.heap.size w w6) := HB3.out.trans (hb6.mono HB3.out.size)
  clear k4 hb6
  go_wp2_with fail
  go_ret
  exact ⟨rfl, HB6.out⟩
end Go.Proofs.YtajeodimbfppiaaGreatDoor

/- Add and Sub of floats: the program and the document answer alike. -/
namespace Go.Proofs.YtajeodimbfppiaaGreatDoor
set_option linter.unusedVariables false
set_option linter.unusedSimpArgs false
open Go.RowKit Go.Fl64

theorem tF_fits (a : Nat) : Fits (-1074) 1025 (tF a).2.1 (tF a).2.2 := by
  refine Fits.cn (.inr ⟨(Ie.lp_bound a).1, by have := (Ie.lp_bound a).2; omega, ?_⟩)
  have h := Ie.mant_bound a
  have h2 := (Ie.lp_bound a).2
  have : 2 ^ 53 ≤ 2 ^ (1025 - Ie.lp a).toNat := Nat.pow_le_pow_right (by decide) (by omega)
  omega
theorem tF_ok (a : Nat) : Ok (tF a) := by
  refine ok_cn (Fits.ok (lo := -1074) (hi := 1025) (.inr ⟨(Ie.lp_bound a).1, by have := (Ie.lp_bound a).2; omega, ?_⟩) (by omega) (by omega) (by omega))
  have h := Ie.mant_bound a
  have h2 := (Ie.lp_bound a).2
  have : 2 ^ 53 ≤ 2 ^ (1025 - Ie.lp a).toNat := Nat.pow_le_pow_right (by decide) (by omega)
  omega
theorem cn_parts (a m : Nat) (ha : a < 18446744073709551616) (hf : mag a < 9218868437227405312) (hm : Ie.sM a = (m : Int)) : cn (neg a) m (Ie.sE a) = tF a := by
  unfold tF cn
  rcases of_parts a m ha hf hm with ⟨h1, h2⟩ | ⟨h1, h2, -, h3, h4⟩
  · rw [if_pos h1, if_pos h2]
  · rw [if_neg h1, if_neg h2, h3, h4]
theorem exact_ok (a : Nat) (ha : a < 18446744073709551616) (hf : mag a < 9218868437227405312) (w : World) (hT : Tab32 w) (hI : Ie.Tab w) : Calls Tryz.prog 41 #[.float .f64 a] w fun r w' => OutA w (tF a) r w' := by
  obtain ⟨m, hm, hml⟩ := sM_lt a ha
  refine exact_1 a (tF a) w fun W hW => (of_fin a m ha W (hT.later hW) (Tab.later hI hW) hf hm).mono ?_
  rintro r w' ⟨A, rfl, hN, hb⟩
  have hp := hN.pn
  rw [cn_parts a m ha hf hm] at hp
  obtain ⟨s, ao, n, cap, e, rfl⟩ := hp.shape
  exact ⟨s, ao, n, cap, e, rfl, hp, hb⟩

/-- the sum of two numbers, in its one form -/
def tS (t1 t2 : Bool × Nat × Int) : Bool × Nat × Int := cn (sumN t1.1 t1.2.1 t1.2.2 t2.1 t2.2.1 t2.2.2).1 (sumN t1.1 t1.2.1 t1.2.2 t2.1 t2.2.1 t2.2.2).2.1 (sumN t1.1 t1.2.1 t1.2.2 t2.1 t2.2.1 t2.2.2).2.2
theorem tS_fits {lo hi : Int} {t1 t2 : Bool × Nat × Int} (h1 : Fits lo hi t1.2.1 t1.2.2) (h2 : Fits lo hi t2.2.1 t2.2.2) : Fits lo (hi + 1) (tS t1 t2).2.1 (tS t1 t2).2.2 := Fits.cn (Fits.sum h1 h2)
theorem tS_okR {lo hi : Int} {t1 t2 : Bool × Nat × Int} (h1 : Fits lo hi t1.2.1 t1.2.2) (h2 : Fits lo hi t2.2.1 t2.2.2) (hb : hi + 1 - lo ≤ 65536) (hlo : -65536 ≤ lo) (hhi : hi + 1 ≤ 65536) : okR (sumN t1.1 t1.2.1 t1.2.2 t2.1 t2.2.1 t2.2.2).1 (sumN t1.1 t1.2.1 t1.2.2 t2.1 t2.2.1 t2.2.2).2.1 (sumN t1.1 t1.2.1 t1.2.2 t2.1 t2.2.1 t2.2.2).2.2 = true := (Fits.sum h1 h2).ok hb hlo hhi
theorem plus_dn {t1 t2 : Bool × Nat × Int} {X Y : Value} {w : World} (o1 : Ok t1) (o2 : Ok t2) (h1 : DN w X t1) (h2 : DN w Y t2) : Calls Tryz.prog 30 #[X, Y] w fun r w' => ∃ A, r = .returned A ∧ DN w' A (tS t1 t2) ∧ Below w.heap.size w w' := by
  obtain ⟨ao, cap, rfl, a1⟩ := h1
  obtain ⟨ao', cap', rfl, a2⟩ := h2
  obtain ⟨f1, f2, f3, -, -⟩ := o1.facts
  obtain ⟨g1, g2, g3, -, -⟩ := o2.facts
  exact (rplusG a1 a2 (cn_ok o1) (cn_ok o2) (by omega) (by omega) (by omega) (by omega) (by omega) (by omega)).mono fun r w' ⟨A, e, h, hb⟩ => ⟨A, e, h.dn, hb⟩
theorem psign {t : Bool × Nat × Int} {A : Value} {w : World} (ok : Ok t) (h : PN w A t) : Calls Tryz.prog 42 #[A] w fun r w' => r = .returned (.int .i64 (sgI t.1 (dlen t.2.1))) ∧ Below w.heap.size w w' := by
  obtain ⟨ao, cap, rfl, h1⟩ := h
  obtain ⟨f1, -, -, -, -⟩ := ok.facts
  exact sign_ok h1 (by omega) ok
theorem sgI_nought {s : Bool} {x : Nat} : (sgI s (dlen x) == 0) = decide (x = 0) := by
  unfold sgI
  by_cases h : x = 0
  · rw [if_pos (dlen_eq_zero.2 h), decide_eq_true h]; rfl
  · rw [if_neg (fun e => h (dlen_eq_zero.1 e)), decide_eq_false h]; cases s <;> rfl
theorem sig_lt {s : Bool} {n : Nat} (h : n ≤ 9218868437227405312) : sig s n < 18446744073709551616 := by
  unfold sig; cases s <;> simp <;> omega
theorem tfF_lt {s : Bool} {x : Nat} {e m : Int} (hm : 1 ≤ m ∧ m ≤ 3) : tfF s true x e m < 18446744073709551616 := by
  rw [tf_bdy hm]; exact sig_lt (bdy_le _ _ _)
theorem fin_false {a : Nat} : fin a = false ↔ ¬ mag a < 9218868437227405312 := by unfold fin; simp
theorem addX_lt {a b : Nat} (ha : a < 18446744073709551616) (hb : b < 18446744073709551616) : addX a b < 18446744073709551616 := by
  unfold addX
  repeat' split
  all_goals first | exact ha | exact hb | decide

/-- what a call of floats answers, alike X -/
def OutF2 (W : World) (X : Nat) (r : Ending) (w' : World) : Prop := ∃ n, r = .returned (.float .f64 n) ∧ lk n X ∧ Below W.heap.size W w'
/-- the document's answer X -/
def OutD (W : World) (X : Nat) (r : Ending) (w' : World) : Prop := r = .returned (.float .f64 X) ∧ Below W.heap.size W w'

theorem join_FAdd (a b : Nat) (m : Int) (ha : a < 18446744073709551616) (hb : b < 18446744073709551616) :
    ∃ X, X < 18446744073709551616 ∧ ((isM m = false ∨ isNaN a = true ∨ isNaN b = true) → X = 9221120237041090560) ∧
      (∀ W, Tab32 W → Ie.Tab W → Calls Tryz.prog 10 #[.float .f64 a, .float .f64 b, .int .i64 m] W fun r w' => OutF2 W X r w') ∧
      (∀ W, Calls Tryz.prog 11 #[.float .f64 a, .float .f64 b, .int .i64 m] W fun r w' => OutD W X r w') ∧
      (isM m = true → mag a < 9218868437227405312 → mag b < 9218868437227405312 → X = if (tS (tF a) (tF b)).2.1 = 0 then sig (z0 (neg a) (neg b) m) 0 else tfF (tS (tF a) (tF b)).1 true (tS (tF a) (tF b)).2.1 (tS (tF a) (tF b)).2.2 m) := by
  cases hm : isM m
  · refine ⟨9221120237041090560, by decide, fun _ => rfl, fun W _ _ => ?_, fun W => ?_, fun h => (by cases h)⟩
    · refine (padd_no a b m W hm).mono ?_
      rintro r w' ⟨rfl, hb⟩
      exact ⟨_, rfl, lk.nan (by decide) (by decide) (by decide), hb⟩
    · refine (dadd_no a b m hm W).mono ?_
      rintro r w' ⟨rfl, hw⟩
      exact ⟨rfl, hw ▸ Below.refl _ _⟩
  · have hm' := isM_iff.1 hm
    by_cases hf : fin a = false ∨ fin b = false
    · refine ⟨addX a b, addX_lt ha hb, fun h => ?_, fun W _ _ => ?_, fun W => ?_, fun _ h1 h2 => ?_⟩
      · unfold addX
        rcases h with h | h | h
        · cases h
        · rw [h, Bool.true_or, if_pos rfl]
        · rw [h, Bool.or_true, if_pos rfl]
      · have hrun : (∀ W, (binOp .add 22 (.float .f64 a) (.float .f64 b)).run Tryz.prog W = .ok (.float .f64 (addX a b)) W) ∨ ∀ W, ∃ n, lk n (addX a b) ∧ (binOp .add 22 (.float .f64 a) (.float .f64 b)).run Tryz.prog W = .ok (.float .f64 n) W.drew := by
          rcases add_non ha hb hf with ⟨h1, h2⟩ | h1
          · refine .inr fun W => ?_
            obtain ⟨n, n1, n2, hs⟩ := run_nan (P := Tryz.prog) W .add 22 a b (by simp) h1
            exact ⟨n, lk.nan n1 n2 h2, hs⟩
          · exact .inl fun W => run_float_arith W .add 22 .f64 a b _ h1
        by_cases hfa : mag a < 9218868437227405312
        · have hfb : ¬ mag b < 9218868437227405312 := by
            rcases hf with h | h
            · exact absurd hfa (fin_false.1 h)
            · exact fin_false.1 h
          exact padd_b a b (addX a b) m W hm (pfin_y a ha hfa) (pfin_n b hb hfb) hrun (addX_lt ha hb)
        · exact padd_a a b (addX a b) m W hm (pfin_n a ha hfa) hrun (addX_lt ha hb)
      · refine (dadd_non a b m ha hb hm hf W).mono ?_
        rintro r w' ⟨rfl, hw⟩
        exact ⟨rfl, hw ▸ Below.refl _ _⟩
      · rcases hf with h | h
        · exact absurd h1 (fin_false.1 h)
        · exact absurd h2 (fin_false.1 h)
    · have hfa : mag a < 9218868437227405312 := Nat.lt_of_not_le fun h => hf (.inl (fin_false.2 (by omega)))
      have hfb : mag b < 9218868437227405312 := Nat.lt_of_not_le fun h => hf (.inr (fin_false.2 (by omega)))
      have hfs := tS_fits (tF_fits a) (tF_fits b)
      have hokR := tS_okR (tF_fits a) (tF_fits b) (by omega) (by omega) (by omega)
      have hok : Ok (tS (tF a) (tF b)) := ok_cn hokR
      obtain ⟨f1, f2, f3, f4, f5⟩ := hok.facts
      have hadd := add_op (tF_ok a) (tF_ok b) hokR
      refine ⟨if (tS (tF a) (tF b)).2.1 = 0 then sig (z0 (neg a) (neg b) m) 0 else tfF (tS (tF a) (tF b)).1 true (tS (tF a) (tF b)).2.1 (tS (tF a) (tF b)).2.2 m, ?_, fun h => (by unfold isNaN at h; simp only [decide_eq_true_eq] at h; rcases h with h | h | h; cases h; omega; omega), fun W hT hI => ?_, fun W => ?_, fun _ _ _ => rfl⟩
      · split
        · exact sig_lt (by omega)
        · exact tfF_lt hm'
      · by_cases h0 : (tS (tF a) (tF b)).2.1 = 0
        · rw [if_pos h0]
          refine (padd_z a b _ m _ (tF a) (tF b) (tS (tF a) (tF b)) W hm ha hb (pfin_y a ha hfa) (pfin_y b hb hfb) (exact_ok a ha hfa W hT hI) (fun W' h => exact_ok b hb hfb W' (hT.later h) (Tab.later hI h)) (fun W' X Y h h1 h2 => added_op hadd (hT.later h) h1 h2) (fun W' X h => psign hok h) (by rw [sgI_nought, decide_eq_true h0]) (fun W' => pnought _ _ m hm' W')).mono ?_
          rintro r w' ⟨rfl, hb'⟩
          exact ⟨_, rfl, lk.refl (sig_lt (by omega)), hb'⟩
        · rw [if_neg h0]
          refine (padd_r a b _ m _ (tF a) (tF b) (tS (tF a) (tF b)) W hm ha hb (pfin_y a ha hfa) (pfin_y b hb hfb) (exact_ok a ha hfa W hT hI) (fun W' h => exact_ok b hb hfb W' (hT.later h) (Tab.later hI h)) (fun W' X Y h h1 h2 => added_op hadd (hT.later h) h1 h2) (fun W' X h => psign hok h) (by rw [sgI_nought, decide_eq_false h0]) (fun W' X h h1 => prounded (hT.later h) hok h1 hm')).mono ?_
          rintro r w' ⟨rfl, hb'⟩
          exact ⟨_, rfl, lk.refl (tfF_lt hm'), hb'⟩
      · exact dadd_fin a b _ m (tF a) (tF b) (tS (tF a) (tF b)) W hm ha hb hfa hfb (float_dn a ha W) (fun W' h => float_dn b hb W') (fun W' X Y h h1 h2 => plus_dn (tF_ok a) (tF_ok b) h1 h2) (fun W' X h h1 => dR h1 f5 (by omega) (by omega) (by omega) hm')
end Go.Proofs.YtajeodimbfppiaaGreatDoor

/- The program's Div of floats where something is to be rounded. -/
namespace Go.Proofs.YtajeodimbfppiaaGreatDoor
set_option linter.unusedVariables false
set_option linter.unusedSimpArgs false
open Go.RowKit Go.Fl64

/-- how many digits are laid behind the dividend -/
def rtK (t1 t2 : Bool × Nat × Int) : Nat := (max 0 (64 + (bl t2.2.1 : Int) - (bl t1.2.1 : Int))).toNat
/-- the quotient, rounded -/
def rtF (t1 t2 : Bool × Nat × Int) (m : Int) : Nat := tfF (t1.1 != t2.1) (decide (t1.2.1 * 2 ^ rtK t1 t2 % t2.2.1 = 0)) (t1.2.1 * 2 ^ rtK t1 t2 / t2.2.1) (t1.2.2 - t2.2.2 - rtK t1 t2) m
theorem pratio {t1 t2 : Bool × Nat × Int} {X Y : Value} {m : Int} {w : World} (hT : Tab32 w) (o1 : Ok t1) (o2 : Ok t2) (h1 : PN w X t1) (h2 : PN w Y t2) (x0 : t1.2.1 ≠ 0) (y0 : t2.2.1 ≠ 0) (hm : 1 ≤ m ∧ m ≤ 3) :
    Calls Tryz.prog 58 #[X, Y, .int .i64 m] w fun r w' => r = .returned (.tuple #[.float .f64 (rtF t1 t2 m), .int .i64 0]) ∧ Below w.heap.size w w' := by
  obtain ⟨pa, pc, rfl, i1⟩ := h1
  obtain ⟨qa, qc, rfl, i2⟩ := h2
  have f1 := o1.facts
  have f2 := o2.facts
  have bx := bl_le_dlen t1.2.1
  have by' := bl_le_dlen t2.2.1
  have hn0 : ((dlen t1.2.1 : Int) == 0) = false := by
    have : dlen t1.2.1 ≠ 0 := fun e => x0 (dlen_eq_zero.1 e)
    simp; omega
  have hn1 : ((dlen t2.2.1 : Int) == 0) = false := by
    have : dlen t2.2.1 ≠ 0 := fun e => y0 (dlen_eq_zero.1 e)
    simp; omega
  have hk : max 0 (64 + (bl t2.2.1 : Int) - (bl t1.2.1 : Int)) = (rtK t1 t2 : Int) := by unfold rtK; omega
  refine pratio_1 t1.1 t2.1 pa qa _ pc _ qc _ _ (rtK t1 t2) (bl t1.2.1) (bl t2.2.1) t1.2.2 t2.2.2 m (t1.1 != t2.1) w (rfl : (!(t1.1 == t2.1)) = (t1.1 != t2.1)) hT i1 i2 (by omega) (by omega) y0 (by omega) (by omega) (by omega) (by omega) (by omega) rfl rfl (by omega) (by omega) hk (by omega) hn0 hn1 (fun W' g hW' hg => ?_)
  have := maybe2 hg (i1.later hW') (i2.later hW') (by omega) (by omega)
  rw [show okN t1.1 (dlen t1.2.1) t1.2.1 t1.2.2 = true from o1, show okN t2.1 (dlen t2.2.1) t2.2.1 t2.2.2 = true from o2] at this
  exact this

theorem ne_nought {a : Nat} (ha : a < 18446744073709551616) (hf : mag a < 9218868437227405312) : (FloatKind.f64.format.order a 0 != some Ordering.eq) = decide (mag a ≠ 0) := by
  rw [bne, ord_eq a 0 ha (by decide)]
  have na : isNaN a = false := by unfold isNaN; simp; omega
  have nb : isNaN 0 = false := by decide
  unfold Fl64.eq
  rw [na, nb]
  have e0 : stp 0 = 0 := by decide
  rw [e0]
  by_cases h : mag a = 0
  · have : stp a = 0 := by unfold stp sgn; rw [h]; simp
    simp [this, h]
  · have : stp a ≠ 0 := by unfold stp sgn; split <;> omega
    simp [this, h]
theorem pplain_y (a : Nat) (ha : a < 18446744073709551616) (hf : mag a < 9218868437227405312) (h0 : mag a ≠ 0) (w : World) : Calls Tryz.prog 53 #[.float .f64 a] w fun r w' => r = .returned (.bool true) ∧ w' = w := by
  have k := pfin_y a ha hf
  have he := ne_nought ha hf
  rw [decide_eq_true h0] at he
  clear ha hf h0
  go_enter Tryz.func53, Tryz.ntmps53
  go_wp2_with (go_at_call 39; refine (k _).mono ?_; rintro e w' ⟨rfl, rfl⟩)
  go_ret
  exact ⟨rfl, rfl⟩
theorem pplain_z (a : Nat) (ha : a < 18446744073709551616) (h0 : mag a = 0) (w : World) : Calls Tryz.prog 53 #[.float .f64 a] w fun r w' => r = .returned (.bool false) ∧ w' = w := by
  have k := pfin_y a ha (by omega)
  have he := ne_nought ha (by omega)
  rw [decide_eq_false (by omega)] at he
  clear ha h0
  go_enter Tryz.func53, Tryz.ntmps53
  go_wp2_with (go_at_call 39; refine (k _).mono ?_; rintro e w' ⟨rfl, rfl⟩)
  go_ret
  exact ⟨rfl, rfl⟩
theorem pplain_n (a : Nat) (ha : a < 18446744073709551616) (hf : ¬ mag a < 9218868437227405312) (w : World) : Calls Tryz.prog 53 #[.float .f64 a] w fun r w' => r = .returned (.bool false) ∧ w' = w.drew := by
  have k := pfin_n a ha hf w
  clear ha hf
  go_enter Tryz.func53, Tryz.ntmps53
  go_wp2_with fail
  refine k.mono ?_
  rintro e w' ⟨rfl, hw⟩
  rw [hw]
  clear hw k w'
  go_wp2
  go_ret
  exact ⟨rfl, rfl⟩

set_option maxHeartbeats 4000000 in
set_option maxRecDepth 200000 in
theorem pdiv_r (a b F : Nat) (m : Int) (ta tb : Bool × Nat × Int) (w : World) (hm : isM m = true)
    (hfa : ∀ W, Calls Tryz.prog 53 #[.float .f64 a] W fun r w' => r = .returned (.bool true) ∧ w' = W)
    (hfb : ∀ W, Calls Tryz.prog 53 #[.float .f64 b] W fun r w' => r = .returned (.bool true) ∧ w' = W)
    (kA : Calls Tryz.prog 41 #[.float .f64 a] w fun r w' => OutA w ta r w')
    (kB : ∀ W, Below w.heap.size w W → Calls Tryz.prog 41 #[.float .f64 b] W fun r w' => OutA W tb r w')
    (kC : ∀ W X Y, Below w.heap.size w W → PN W X ta → PN W Y tb → Calls Tryz.prog 58 #[X, Y, .int .i64 m] W fun r w' => r = .returned (.tuple #[.float .f64 F, .int .i64 0]) ∧ Below W.heap.size W w') :
    Calls Tryz.prog 19 #[.float .f64 a, .float .f64 b, .int .i64 m] w fun r w' => r = .returned (.float .f64 F) ∧ Below w.heap.size w w' := by
  have kV := pvalid m w
  rw [hm] at kV
  have HKB : Hid (∀ W, Below w.heap.size w W → Calls Tryz.prog 41 #[.float .f64 b] W fun r w' => OutA W tb r w') := kB
  have HKC : Hid (∀ W X Y, Below w.heap.size w W → PN W X ta → PN W Y tb → Calls Tryz.prog 58 #[X, Y, .int .i64 m] W fun r w' => r = .returned (.tuple #[.float .f64 F, .int .i64 0]) ∧ Below W.heap.size W w') := kC
  clear kB kC
  go_enter Tryz.func19, Tryz.ntmps19
  go_wp2_with fail
  refine kV.mono ?_
  rintro r w' ⟨rfl, hw⟩
  rw [hw]
  clear hw kV
  have kN := hfa w
  go_wp2_with fail
  refine kN.mono ?_
  rintro r w' ⟨rfl, hw⟩
  rw [hw]
  clear hw kN hfa
  have kN := hfb w
  go_wp2_with fail
  refine kN.mono ?_
  rintro r w' ⟨rfl, hw⟩
  rw [hw]
  clear hw kN hfb
  go_wp2_with fail
  refine kA.mono ?_
  rintro r w1 ⟨s1, ao1, n1, cap1, ex1, rfl, hP1, hb1⟩
  have k2 := HKB.out w1 hb1
  clear kA
  go_wp2_with fail
  refine k2.mono ?_
  rintro r w2 ⟨s2, ao2, n2, cap2, ex2, rfl, hP2, hb2⟩
  have HB2 : Hid (Below w.heap.size w w2) := hb1.trans (hb2.mono hb1.size)
  have k3 := HKC.out w2 _ _ HB2.out (hP1.later hb2) hP2
  clear k2 hP1 hP2 hb1 hb2
  go_wp2_with fail
  refine k3.mono ?_
  rintro r w3 ⟨rfl, hb3⟩
  have HB3 : Hid (Below w.heap.size w w3) := HB2.out.trans (hb3.mono HB2.out.size)
  clear k3 hb3
  go_wp2_with fail
  go_ret
  exact ⟨rfl, HB3.out⟩

/-- Div of two floats that are finite and not nought -/
theorem pdiv_ok (a b : Nat) (m : Int) (w : World) (hm : isM m = true) (hT : Tab32 w) (hI : Ie.Tab w) (ha : a < 18446744073709551616) (hb : b < 18446744073709551616) (hfa : mag a < 9218868437227405312) (hfb : mag b < 9218868437227405312) (ha0 : mag a ≠ 0) (hb0 : mag b ≠ 0) (xa : (tF a).2.1 ≠ 0) (xb : (tF b).2.1 ≠ 0) :
    Calls Tryz.prog 19 #[.float .f64 a, .float .f64 b, .int .i64 m] w fun r w' => r = .returned (.float .f64 (rtF (tF a) (tF b) m)) ∧ Below w.heap.size w w' :=
  pdiv_r a b _ m (tF a) (tF b) w hm (pplain_y a ha hfa ha0) (pplain_y b hb hfb hb0) (exact_ok a ha hfa w hT hI) (fun W h => exact_ok b hb hfb W (hT.later h) (Tab.later hI h)) (fun W X Y h h1 h2 => pratio (hT.later h) (tF_ok a) (tF_ok b) h1 h2 xa xb (isM_iff.1 hm))
theorem tF_ne {a : Nat} (h : mag a ≠ 0) : (tF a).2.1 ≠ 0 := by
  have h1 := Ie.mant_ne h
  unfold tF cn
  rw [if_neg h1]
  intro e
  have := (tz_spec _ _ (Nat.le_refl _) h1).2
  simp only at e
  rw [e] at this
  simp at this
theorem sure_add : (if (tS (tF 4607182418800017408) (tF 4611686018427387904)).2.1 = 0 then sig (z0 (neg 4607182418800017408) (neg 4611686018427387904) 2) 0 else tfF (tS (tF 4607182418800017408) (tF 4611686018427387904)).1 true (tS (tF 4607182418800017408) (tF 4611686018427387904)).2.1 (tS (tF 4607182418800017408) (tF 4611686018427387904)).2.2 2) = 4613937818241073152 := by decide +kernel
theorem sure_div3 : rtF (tF 4607182418800017408) (tF 4613937818241073152) 3 = 4599676419421066582 := by decide +kernel
theorem sure_div1 : rtF (tF 4607182418800017408) (tF 4613937818241073152) 1 = 4599676419421066581 := by decide +kernel
end Go.Proofs.YtajeodimbfppiaaGreatDoor

/- The program's Hypot of finite floats. -/
namespace Go.Proofs.YtajeodimbfppiaaGreatDoor
set_option linter.unusedVariables false
set_option linter.unusedSimpArgs false
open Go.RowKit Go.Fl64

set_option maxHeartbeats 4000000 in
set_option maxRecDepth 200000 in
theorem phyp_r (a b F : Nat) (m : Int) (ta tb t1 t2 t3 : Bool × Nat × Int) (w : World) (hm : isM m = true)
    (hia : ∀ W, Calls Tryz.prog 62 #[.float .f64 a, .int .i64 0] W fun r w' => r = .returned (.bool false) ∧ w' = W)
    (hib : ∀ W, Calls Tryz.prog 62 #[.float .f64 b, .int .i64 0] W fun r w' => r = .returned (.bool false) ∧ w' = W)
    (hfa : ∀ W, Calls Tryz.prog 39 #[.float .f64 a] W fun r w' => r = .returned (.bool true) ∧ w' = W)
    (hfb : ∀ W, Calls Tryz.prog 39 #[.float .f64 b] W fun r w' => r = .returned (.bool true) ∧ w' = W)
    (kA : Calls Tryz.prog 41 #[.float .f64 a] w fun r w' => OutA w ta r w')
    (kB : ∀ W, Below w.heap.size w W → Calls Tryz.prog 41 #[.float .f64 b] W fun r w' => OutA W tb r w')
    (kM1 : ∀ W X, Below w.heap.size w W → PN W X ta → Calls Tryz.prog 54 #[X, X] W fun r w' => OutA W t1 r w')
    (kM2 : ∀ W X, Below w.heap.size w W → PN W X tb → Calls Tryz.prog 54 #[X, X] W fun r w' => OutA W t2 r w')
    (kC : ∀ W X Y, Below w.heap.size w W → PN W X t1 → PN W Y t2 → Calls Tryz.prog 40 #[X, Y] W fun r w' => OutA W t3 r w')
    (kR : ∀ W X, Below w.heap.size w W → PN W X t3 → Calls Tryz.prog 60 #[X, .int .i64 m] W fun r w' => r = .returned (.tuple #[.float .f64 F, .int .i64 0]) ∧ Below W.heap.size W w') :
    Calls Tryz.prog 23 #[.float .f64 a, .float .f64 b, .int .i64 m] w fun r w' => r = .returned (.float .f64 F) ∧ Below w.heap.size w w' := by
  have kV := pvalid m w
  rw [hm] at kV
  have HKB : Hid (∀ W, Below w.heap.size w W → Calls Tryz.prog 41 #[.float .f64 b] W fun r w' => OutA W tb r w') := kB
  have HM1 : Hid (∀ W X, Below w.heap.size w W → PN W X ta → Calls Tryz.prog 54 #[X, X] W fun r w' => OutA W t1 r w') := kM1
  have HM2 : Hid (∀ W X, Below w.heap.size w W → PN W X tb → Calls Tryz.prog 54 #[X, X] W fun r w' => OutA W t2 r w') := kM2
  have HKC : Hid (∀ W X Y, Below w.heap.size w W → PN W X t1 → PN W Y t2 → Calls Tryz.prog 40 #[X, Y] W fun r w' => OutA W t3 r w') := kC
  have HKR : Hid (∀ W X, Below w.heap.size w W → PN W X t3 → Calls Tryz.prog 60 #[X, .int .i64 m] W fun r w' => r = .returned (.tuple #[.float .f64 F, .int .i64 0]) ∧ Below W.heap.size W w') := kR
  clear kB kM1 kM2 kC kR
  go_enter Tryz.func23, Tryz.ntmps23
  go_wp2_with fail
  refine kV.mono ?_
  rintro r w' ⟨rfl, hw⟩
  rw [hw]
  clear hw kV
  have kN := hia w
  go_wp2_with fail
  refine kN.mono ?_
  rintro r w' ⟨rfl, hw⟩
  rw [hw]
  clear hw kN hia
  have kN := hib w
  go_wp2_with fail
  refine kN.mono ?_
  rintro r w' ⟨rfl, hw⟩
  rw [hw]
  clear hw kN hib
  have kN := hfa w
  go_wp2_with fail
  refine kN.mono ?_
  rintro r w' ⟨rfl, hw⟩
  rw [hw]
  clear hw kN hfa
  have kN := hfb w
  go_wp2_with fail
  refine kN.mono ?_
  rintro r w' ⟨rfl, hw⟩
  rw [hw]
  clear hw kN hfb
  go_wp2_with fail
  refine kA.mono ?_
  rintro r w1 ⟨s1, ao1, n1, cap1, ex1, rfl, hP1, hb1⟩
  have k2 := HKB.out w1 hb1
  clear kA
  go_wp2_with fail
  refine k2.mono ?_
  rintro r w2 ⟨s2, ao2, n2, cap2, ex2, rfl, hP2, hb2⟩
  have HB2 : Hid (Below w.heap.size w w2 ∧ PN w2 (.agg #[.bool s1, .slice ao1 n1 cap1, .int .i64 ex1]) ta ∧ PN w2 (.agg #[.bool s2, .slice ao2 n2 cap2, .int .i64 ex2]) tb) := ⟨hb1.trans (hb2.mono hb1.size), hP1.later hb2, hP2⟩
  clear k2 hP1 hP2 hb1 hb2
  obtain ⟨W, hW⟩ : ∃ W, W = (w2.alloc (.cells #[.bool s1, .slice ao1 n1 cap1, .int .i64 ex1] 45)).alloc (.cells #[.bool s2, .slice ao2 n2 cap2, .int .i64 ex2] 45) := ⟨_, rfl⟩
  have hh := two29 _ _ hW
  have HX : Hid (Below w.heap.size w W ∧ W.heap[w2.heap.size]? = some (.cells #[.bool s1, .slice ao1 n1 cap1, .int .i64 ex1] 45 (0, 0)) ∧ W.heap[w2.heap.size + 1]? = some (.cells #[.bool s2, .slice ao2 n2 cap2, .int .i64 ex2] 45 (0, 0)) ∧ PN W (.agg #[.bool s1, .slice ao1 n1 cap1, .int .i64 ex1]) ta ∧ PN W (.agg #[.bool s2, .slice ao2 n2 cap2, .int .i64 ex2]) tb) := ⟨HB2.out.1.trans (hh.2.2.2.mono HB2.out.1.size), hh.1, hh.2.1, HB2.out.2.1.later hh.2.2.2, HB2.out.2.2.later hh.2.2.2⟩
  clear hh
  go_upto_region 8 with fail
  rw [← hW]
  clear hW HB2
  generalize w2.heap.size = g2 at *
  have HK : Hid (∀ w', Below W.heap.size W w' → ((w'.cell? ⟨g2, 0, none⟩ = some (.bool s1) ∧ w'.cell? ⟨g2, 1, none⟩ = some (.slice ao1 n1 cap1) ∧ w'.cell? ⟨g2, 2, none⟩ = some (.int .i64 ex1)) ∧ (w'.cell? ⟨g2 + 1, 0, none⟩ = some (.bool s2) ∧ w'.cell? ⟨g2 + 1, 1, none⟩ = some (.slice ao2 n2 cap2) ∧ w'.cell? ⟨g2 + 1, 2, none⟩ = some (.int .i64 ex2))) ∧ Below W.heap.size W w') := fun w' hb => ⟨⟨(box_cells (box_later HX.out.2.1 hb (lt_of_box HX.out.2.1))).1, (box_cells (box_later HX.out.2.2.1 hb (lt_of_box HX.out.2.2.1))).1⟩, hb⟩
  have hBR : Below W.heap.size W W.drew := (Below.refl _ _).drew
  have km1 : ∀ w4, Below W.heap.size W w4 → Calls Tryz.prog 54 #[.agg #[.bool s1, .slice ao1 n1 cap1, .int .i64 ex1], .agg #[.bool s1, .slice ao1 n1 cap1, .int .i64 ex1]] w4 fun r w' => ∃ s ao n cap e, r = .returned (.agg #[.bool s, .slice ao n cap, .int .i64 e]) ∧ PN w' (.agg #[.bool s, .slice ao n cap, .int .i64 e]) t1 ∧ Below W.heap.size W w' := fun w4 hb =>
    (HM1.out w4 _ (HX.out.1.trans (hb.mono HX.out.1.size)) (HX.out.2.2.2.1.later hb)).mono fun r w' ⟨s, ao, n, cap, e, e1, o1, o2⟩ => ⟨s, ao, n, cap, e, e1, o1, hb.trans (o2.mono hb.size)⟩
  have km2 : ∀ w4, Below W.heap.size W w4 → Calls Tryz.prog 54 #[.agg #[.bool s2, .slice ao2 n2 cap2, .int .i64 ex2], .agg #[.bool s2, .slice ao2 n2 cap2, .int .i64 ex2]] w4 fun r w' => ∃ s ao n cap e, r = .returned (.agg #[.bool s, .slice ao n cap, .int .i64 e]) ∧ PN w' (.agg #[.bool s, .slice ao n cap, .int .i64 e]) t2 ∧ Below W.heap.size W w' ∧ Hid (Below w4.heap.size w4 w') := fun w4 hb =>
    (HM2.out w4 _ (HX.out.1.trans (hb.mono HX.out.1.size)) (HX.out.2.2.2.2.later hb)).mono fun r w' ⟨s, ao, n, cap, e, e1, o1, o2⟩ => ⟨s, ao, n, cap, e, e1, o1, hb.trans (o2.mono hb.size), o2⟩
  have kc : ∀ w4 X Y, Below W.heap.size W w4 → PN w4 X t1 → PN w4 Y t2 → Calls Tryz.prog 40 #[X, Y] w4 fun r w' => ∃ s ao n cap e, r = .returned (.agg #[.bool s, .slice ao n cap, .int .i64 e]) ∧ PN w' (.agg #[.bool s, .slice ao n cap, .int .i64 e]) t3 ∧ Below W.heap.size W w' := fun w4 X Y hb h1 h2 =>
    (HKC.out w4 _ _ (HX.out.1.trans (hb.mono HX.out.1.size)) h1 h2).mono fun r w' ⟨s, ao, n, cap, e, e1, o1, o2⟩ => ⟨s, ao, n, cap, e, e1, o1, hb.trans (o2.mono hb.size)⟩
  have kr : ∀ w4 X, Below W.heap.size W w4 → PN w4 X t3 → Calls Tryz.prog 60 #[X, .int .i64 m] w4 fun r w' => r = .returned (.tuple #[.float .f64 F, .int .i64 0]) ∧ Below W.heap.size W w' := fun w4 X hb h1 =>
    (HKR.out w4 _ (HX.out.1.trans (hb.mono HX.out.1.size)) h1).mono fun r w' ⟨e1, o2⟩ => ⟨e1, hb.trans (o2.mono hb.size)⟩
  obtain ⟨⟨⟨a0, a1, a2⟩, ⟨b0, b1, b2⟩⟩, -⟩ := HK.out W (Below.refl _ _)
  go_region_held3 (fun w' => ((w'.cell? ⟨g2, 0, none⟩ = some (.bool s1) ∧ w'.cell? ⟨g2, 1, none⟩ = some (.slice ao1 n1 cap1) ∧ w'.cell? ⟨g2, 2, none⟩ = some (.int .i64 ex1)) ∧ (w'.cell? ⟨g2 + 1, 0, none⟩ = some (.bool s2) ∧ w'.cell? ⟨g2 + 1, 1, none⟩ = some (.slice ao2 n2 cap2) ∧ w'.cell? ⟨g2 + 1, 2, none⟩ = some (.int .i64 ex2))) ∧ Below W.heap.size W w') (first | (with_reducible assumption) | exact ⟨⟨⟨a0, a1, a2⟩, ⟨b0, b1, b2⟩⟩, hBR⟩ | (refine HK.out _ ?_; with_reducible assumption) | go_keep)
    (first | (go_at_call 54; first | (have hq := hP5; clear hq; refine (km2 _ hb5).mono ?_; rintro r w6 ⟨s6, ao6, n6, cap6, e6, rfl, hP6, hb6, hk6⟩) | (refine (km1 _ hBR).mono ?_; rintro r w5 ⟨s5, ao5, n5, cap5, e5, rfl, hP5, hb5⟩))
           | (go_at_call 40; refine (kc _ _ _ hb6 (hP5.later hk6.out) hP6).mono ?_; rintro r w7 ⟨s7, ao7, n7, cap7, e7, rfl, hP7, hb7⟩)
           | (go_at_call 60; refine (kr _ _ hb7 hP7).mono ?_; rintro r w8 ⟨rfl, hb8⟩))
  all_goals
    have HF : Hid (Below w.heap.size w w8) := HX.out.1.trans (hb8.mono HX.out.1.size)
    clear hP5 hb5 hP6 hb6 hk6 hP7 hb7 hb8 km1 km2 kc kr HK hBR a0 a1 a2 b0 b1 b2
    go_wp2_with fail
    go_ret
    exact ⟨rfl, HF.out⟩
end Go.Proofs.YtajeodimbfppiaaGreatDoor

/- Hypot of 3 and 4, and a float made whole: what the law's own test asks. -/
namespace Go.Proofs.YtajeodimbfppiaaGreatDoor
set_option linter.unusedVariables false
set_option linter.unusedSimpArgs false
open Go.RowKit Go.Fl64

/-- the product of two numbers, in its one form -/
def tM (t1 t2 : Bool × Nat × Int) : Bool × Nat × Int := cn (!(t1.1 == t2.1)) (t1.2.1 * t2.2.1) (t1.2.2 + t2.2.2)
/-- how many digits are laid behind a number whose root is taken -/
def sqK (t : Bool × Nat × Int) : Nat := if ((t.2.2 - ((max 0 (128 - (bl t.2.1 : Int))).toNat : Int)).tmod 2 != 0) = true then (max 0 (128 - (bl t.2.1 : Int))).toNat + 1 else (max 0 (128 - (bl t.2.1 : Int))).toNat
theorem td2 (z : Int) (h1 : -80000 ≤ z) (h2 : z ≤ 80000) : -40000 ≤ z.tdiv 2 ∧ z.tdiv 2 ≤ 40000 := by
  by_cases h : 0 ≤ z
  · rw [Int.tdiv_eq_ediv_of_nonneg h]; omega
  · obtain ⟨y, rfl⟩ : ∃ y, z = -y := ⟨-z, by omega⟩
    rw [Int.neg_tdiv, Int.tdiv_eq_ediv_of_nonneg (by omega)]; omega
theorem psqrt {t : Bool × Nat × Int} {X : Value} {m : Int} {w : World} (hT : Tab32 w) (ok : Ok t) (h : PN w X t) (hs : t.1 = false) (hm : 1 ≤ m ∧ m ≤ 3) :
    Calls Tryz.prog 60 #[X, .int .i64 m] w fun r w' => ∃ q, (q * q ≤ t.2.1 * 2 ^ sqK t ∧ t.2.1 * 2 ^ sqK t < (q + 1) * (q + 1)) ∧ r = .returned (.tuple #[.float .f64 (tfF false (decide (q * q = t.2.1 * 2 ^ sqK t)) q ((t.2.2 - (sqK t : Int)).tdiv 2) m), .int .i64 0]) ∧ Below w.heap.size w w' := by
  obtain ⟨pa, pc, rfl, i1⟩ := h
  have f1 := ok.facts
  have bx := bl_le_dlen t.2.1
  rw [hs]
  obtain ⟨k0', hk0⟩ : ∃ k0' : Nat, max 0 (128 - (bl t.2.1 : Int)) = (k0' : Int) := ⟨(max 0 (128 - (bl t.2.1 : Int))).toNat, by omega⟩
  have hq : (max 0 (128 - (bl t.2.1 : Int))).toNat = k0' := by omega
  have hmb : ∀ W' g, Below w.heap.size w W' → W'.heap[g]? = some (.cells #[.bool false, .slice pa (dlen t.2.1) pc, .int .i64 t.2.2] 45 (0, 0)) → Calls Tryz.prog 80 #[.slice (some ⟨g, 0, none⟩) 1 1] W' fun r w' => r = .returned (.bool true) ∧ Below W'.heap.size W' w' := fun W' g hW' hg => by
    have := maybe1 hg (i1.later hW') (by omega)
    have ok' : okN t.1 (dlen t.2.1) t.2.1 t.2.2 = true := ok
    rw [hs] at ok'
    rw [ok'] at this
    exact this
  unfold sqK
  rw [hq]
  by_cases hod : ((t.2.2 - (k0' : Int)).tmod 2 != 0) = true
  · simp only [if_pos hod]
    have := psqrt_o pa _ pc t.2.1 k0' (bl t.2.1) t.2.2 m _ w hT i1 (by omega) (by omega) (by omega) (by omega) rfl (by omega) hk0 (by omega) hod rfl (td2 _ (by omega) (by omega)).1 (td2 _ (by omega) (by omega)).2 hmb
    rw [show ((k0' + 1 : Nat) : Int) = (k0' : Int) + 1 by omega]
    exact this
  · simp only [if_neg hod]
    exact psqrt_e pa _ pc t.2.1 k0' (bl t.2.1) t.2.2 m _ w hT i1 (by omega) (by omega) (by omega) (by omega) rfl (by omega) hk0 (by omega) (by simpa using hod) rfl (td2 _ (by omega) (by omega)).1 (td2 _ (by omega) (by omega)).2 hmb

theorem root_only {q q' N : Nat} (h1 : q * q ≤ N) (h2 : N < (q + 1) * (q + 1)) (h3 : q' * q' ≤ N) (h4 : N < (q' + 1) * (q' + 1)) : q = q' := by
  rcases Nat.lt_trichotomy q q' with h | h | h
  · have : (q + 1) * (q + 1) ≤ q' * q' := Nat.mul_le_mul h h
    omega
  · exact h
  · have : (q' + 1) * (q' + 1) ≤ q * q := Nat.mul_le_mul h h
    omega

theorem pinf_n (a : Nat) (ha : a < 18446744073709551616) (hf : mag a < 9218868437227405312) (w : World) : Calls Tryz.prog 62 #[.float .f64 a, .int .i64 0] w fun r w' => r = .returned (.bool false) ∧ w' = w := by
  have := c123 a ha w
  rw [show lt 9218868437227405311 (mag a) = false by
    unfold lt
    have h1 : stp 9218868437227405311 = 9218868437227405311 := by decide
    have h2 : stp (mag a) = mag a := by unfold stp sgn neg; rw [decide_eq_false (by omega)]; unfold mag; simp
    rw [h1, h2]
    simp; omega] at this
  exact this

theorem hyp_t : tS (tM (tF 4613937818241073152) (tF 4613937818241073152)) (tM (tF 4616189618054758400) (tF 4616189618054758400)) = (false, 25, 0) := by decide +kernel
theorem hyp_k : sqK (false, 25, 0) = 124 := by decide +kernel
theorem hyp_f : tfF false true (5 * 2 ^ 62) (-62) 3 = 4617315517961601024 := by decide +kernel
theorem hyp_1 : okR (!((tF 4613937818241073152).1 == (tF 4613937818241073152).1)) ((tF 4613937818241073152).2.1 * (tF 4613937818241073152).2.1) ((tF 4613937818241073152).2.2 + (tF 4613937818241073152).2.2) = true := by decide +kernel
theorem hyp_2 : okR (!((tF 4616189618054758400).1 == (tF 4616189618054758400).1)) ((tF 4616189618054758400).2.1 * (tF 4616189618054758400).2.1) ((tF 4616189618054758400).2.2 + (tF 4616189618054758400).2.2) = true := by decide +kernel

theorem tM_ok {t1 t2 : Bool × Nat × Int} (h : okR (!(t1.1 == t2.1)) (t1.2.1 * t2.2.1) (t1.2.2 + t2.2.2) = true) : Ok (tM t1 t2) := ok_cn h
theorem sure_hyp (w : World) (hT : Tab32 w) (hI : Ie.Tab w) : Calls Tryz.prog 23 #[.float .f64 4613937818241073152, .float .f64 4616189618054758400, .int .i64 3] w fun r w' => r = .returned (.float .f64 4617315517961601024) ∧ Below w.heap.size w w' := by
  have m1 := mul_op (tF_ok 4613937818241073152) (tF_ok 4613937818241073152) hyp_1
  have m2 := mul_op (tF_ok 4616189618054758400) (tF_ok 4616189618054758400) hyp_2
  have hadd := add_op (tM_ok hyp_1) (tM_ok hyp_2) (by decide +kernel)
  refine phyp_r _ _ _ 3 (tF 4613937818241073152) (tF 4616189618054758400) (tM (tF 4613937818241073152) (tF 4613937818241073152)) (tM (tF 4616189618054758400) (tF 4616189618054758400)) (false, 25, 0) w (by decide) (pinf_n _ (by decide) (by decide)) (pinf_n _ (by decide) (by decide)) (pfin_y _ (by decide) (by decide)) (pfin_y _ (by decide) (by decide)) (exact_ok _ (by decide) (by decide) w hT hI) (fun W h => exact_ok _ (by decide) (by decide) W (hT.later h) (Tab.later hI h)) (fun W X h h1 => multiplied_op m1 (hT.later h) h1 h1) (fun W X h h1 => multiplied_op m2 (hT.later h) h1 h1) (fun W X Y h h1 h2 => ?_) (fun W X h h1 => ?_)
  · have := added_op hadd (hT.later h) h1 h2
    rw [show cn _ _ _ = (false, 25, 0) from hyp_t] at this
    exact this
  · refine (psqrt (t := (false, 25, 0)) (hT.later h) (show okN false (dlen 25) 25 0 = true by decide +kernel) h1 rfl (by omega)).mono ?_
    rintro r w' ⟨q, ⟨q1, q2⟩, rfl, hb⟩
    refine ⟨?_, hb⟩
    simp only [hyp_k] at q1 q2 ⊢
    have e : q = 5 * 2 ^ 62 := root_only q1 q2 (by decide) (by decide)
    subst e
    rw [decide_eq_true (by decide : (5 * 2 ^ 62) * (5 * 2 ^ 62) = 25 * 2 ^ 124), show ((0 : Int) - ((124 : Nat) : Int)).tdiv 2 = -62 by decide, hyp_f]
end Go.Proofs.YtajeodimbfppiaaGreatDoor

/- Products and quotients of floats of which one is nought or not finite. -/
namespace Go.Fl64
set_option linter.unusedVariables false
set_option linter.unusedSimpArgs false

/-- finite and not nought -/
def pln (a : Nat) : Bool := decide (mag a < 9218868437227405312) && decide (mag a ≠ 0)
theorem pln_false {a : Nat} : pln a = false ↔ (¬ mag a < 9218868437227405312 ∨ mag a = 0) := by
  unfold pln
  by_cases h1 : mag a < 9218868437227405312 <;> by_cases h2 : mag a = 0 <;> simp [h1, h2]
theorem pln_true {a : Nat} : pln a = true ↔ (mag a < 9218868437227405312 ∧ mag a ≠ 0) := by
  unfold pln
  by_cases h1 : mag a < 9218868437227405312 <;> by_cases h2 : mag a = 0 <;> simp [h1, h2]

theorem nan_of {a : Nat} (h : 9218868437227405312 < mag a) : isNaN a = true := by unfold isNaN; simp; omega
theorem nan_no {a : Nat} (h : mag a ≤ 9218868437227405312) : isNaN a = false := by unfold isNaN; simp; omega
end Go.Fl64

/- The program's Mul and Div of floats, in every case. -/
namespace Go.Proofs.YtajeodimbfppiaaGreatDoor
set_option linter.unusedVariables false
set_option linter.unusedSimpArgs false
open Go.RowKit Go.Fl64

theorem pplain_f (a : Nat) (ha : a < 18446744073709551616) (h : pln a = false) (w : World) : Calls Tryz.prog 53 #[.float .f64 a] w fun r w' => r = .returned (.bool false) ∧ Below w.heap.size w w' := by
  rcases pln_false.1 h with h | h
  · exact (pplain_n a ha h w).mono fun r w' ⟨e, hw⟩ => ⟨e, hw ▸ (Below.refl _ _).drew⟩
  · exact (pplain_z a ha h w).mono fun r w' ⟨e, hw⟩ => ⟨e, hw ▸ Below.refl _ _⟩
theorem pplain_t (a : Nat) (ha : a < 18446744073709551616) (h : pln a = true) (w : World) : Calls Tryz.prog 53 #[.float .f64 a] w fun r w' => r = .returned (.bool true) ∧ w' = w := pplain_y a ha (pln_true.1 h).1 (pln_true.1 h).2 w

theorem tM_fits {lo hi lo' hi' : Int} {t1 t2 : Bool × Nat × Int} (h1 : Fits lo hi t1.2.1 t1.2.2) (h2 : Fits lo' hi' t2.2.1 t2.2.2) : Fits (lo + lo') (hi + hi') (tM t1 t2).2.1 (tM t1 t2).2.2 := Fits.cn (Fits.mul h1 h2)
theorem tM_okR (a b : Nat) : okR (!((tF a).1 == (tF b).1)) ((tF a).2.1 * (tF b).2.1) ((tF a).2.2 + (tF b).2.2) = true := (Fits.mul (tF_fits a) (tF_fits b)).ok (by omega) (by omega) (by omega)
theorem tfM_lt (ex : Bool) (x : Nat) : tfM ex x < 18446744073709551616 := by
  have h1 : x < 2 ^ (tfD x + 64) := Nat.lt_of_lt_of_le (lt_bl x) (Nat.pow_le_pow_right (by decide) (by unfold tfD; omega))
  rw [Nat.pow_add] at h1
  have h2 : x / 2 ^ tfD x < 2 ^ 64 := Nat.div_lt_of_lt_mul h1
  have h3 : x / 2 ^ tfD x ||| 1 < 2 ^ 64 := Nat.or_lt_two_pow h2 (by decide)
  unfold tfM
  split
  · exact h2
  · exact h3
theorem tfF_lt' {s ex : Bool} {x : Nat} {e m : Int} (hm : 1 ≤ m ∧ m ≤ 3) : tfF s ex x e m < 18446744073709551616 := by
  unfold tfF Ie.mk
  rw [if_pos (by omega)]
  refine sig_lt ?_
  split
  · omega
  · rename_i h0
    have := Ie.bod_bounds (tfM ex x) (e + (tfD x : Int)) (Ie.wy s m) (tfM_lt ex x) h0
    omega
end Go.Proofs.YtajeodimbfppiaaGreatDoor

/- The document's quotient, rounded: the program's float. -/
namespace Go.Proofs.YtajeodimbfppiaaGreatDoor
set_option linter.unusedVariables false
set_option linter.unusedSimpArgs false
open Go.RowKit Go.Fl64
open Ie

theorem bl_shl' {x k : Nat} (h : x ≠ 0) : bl (x * 2 ^ k) = bl x + k := by
  have h1 := lt_bl x
  have h2 := le_bl h
  have hb := bl_ne h
  have a : bl (x * 2 ^ k) ≤ bl x + k := (bl_le _ _).2 (by rw [Nat.pow_add]; exact Nat.mul_lt_mul_of_pos_right h1 (Nat.two_pow_pos k))
  have b : bl x + k - 1 + 1 ≤ bl (x * 2 ^ k) := bl_ge.2 (by rw [show bl x + k - 1 = bl x - 1 + k by omega, Nat.pow_add]; exact Nat.mul_le_mul_right _ h2)
  omega
theorem bl_one : bl 1 = 1 := by rfl
theorem rto_one {W : World} {g : Nat} {s : Bool} {e m : Int} (h : At W (some ⟨g, 0, none⟩) 1 1) (he1 : -4000000 ≤ e) (he2 : e ≤ 4000000) (hm : 1 ≤ m ∧ m ≤ 3) :
    Calls Tryz.prog 84 #[.agg #[.bool s, .slice (some ⟨g, 0, none⟩) 1 1, .int .i64 e], .int .i64 m] W fun r w' => r = .returned (.float .f64 (tfF s true 1 e m)) ∧ Below W.heap.size W w' := by
  have := rto (neg := s) (uc := 1) (x := 1) (ea := e) (m := m) (by rw [dlen_one]; exact h) (by rw [dlen_one]; exact Nat.le_refl _) rfl (by rw [dlen_one]; omega) he1 he2 hm
  rw [← tf_bdy hm, dlen_one] at this
  exact this
end Go.Proofs.YtajeodimbfppiaaGreatDoor

/- The document's product of numbers, that can be handed on; its Mul and Div of floats. -/
namespace Go.Proofs.YtajeodimbfppiaaGreatDoor
set_option linter.unusedVariables false
set_option linter.unusedSimpArgs false
open Go.RowKit Go.Fl64

set_option maxHeartbeats 4000000 in
set_option maxRecDepth 200000 in
theorem xtimes_1 (na nb sg : Bool) (ua va : Option Addr) (un uc vn vc x y : Nat) (ea eb : Int) (w : World) (h1 : Ir w (.slice ua un uc) x) (h2 : Ir w (.slice va vn vc) y) (hx : dlen x ≤ 400000) (hy : dlen y ≤ 400000) (he1 : -4000000 ≤ ea) (he2 : ea ≤ 4000000) (he3 : -4000000 ≤ eb) (he4 : eb ≤ 4000000) (hsg : (!(na == nb)) = sg) :
    Calls Tryz.prog 31 #[.agg #[.bool na, .slice ua un uc, .int .i64 ea], .agg #[.bool nb, .slice va vn vc, .int .i64 eb]] w fun r w' => ∃ a, r = .returned a ∧ NC w' w.heap.size a sg (x * y) (ea + eb) ∧ Below w.heap.size w w' := by
  obtain ⟨W, hW⟩ : ∃ W, W = ((w.alloc (.cells #[.bool na, .slice ua un uc, .int .i64 ea] 38)).alloc (.cells #[.bool nb, .slice va vn vc, .int .i64 eb] 38)).alloc (.cells #[.bool false, .slice none 0 0, .int .i64 0] 38) := ⟨_, rfl⟩
  obtain ⟨hA, hBb, hC, hsz, hBW⟩ := boxes3 _ _ _ hW
  have hxy : dlen (x * y) ≤ 1000000 := by
    have l1 := (dlen_le (dlen x) x).1 (Nat.le_refl _)
    have l2 := (dlen_le (dlen y) y).1 (Nat.le_refl _)
    have : dlen (x * y) ≤ dlen x + dlen y := (dlen_le _ _).2 (by
      rw [Nat.pow_add]
      rcases Nat.eq_zero_or_pos x with h | h
      · rw [h, Nat.zero_mul]; exact Nat.mul_pos (Bpow_pos _) (Bpow_pos _)
      · exact Nat.mul_lt_mul_of_lt_of_le l1 (Nat.le_of_lt l2) (Bpow_pos _))
    omega
  have HH : Hid (W.heap[w.heap.size + 1 + 1]? = some (.cells #[.bool false, .slice none 0 0, .int .i64 0] 38 (0, 0)) ∧ W.heap.size = w.heap.size + 1 + 1 + 1 ∧ Below w.heap.size w W) := ⟨hC, hsz, hBW⟩
  have k78 : ∀ w4, Below W.heap.size W w4 → Calls Tryz.prog 73 #[.slice ua un uc, .slice va vn vc] w4 fun r w' => ∃ v, r = .returned v ∧ Own w' W.heap.size v (x * y) ∧ Below W.heap.size W w' := fun w4 hb =>
    (rprod ((h1.later hBW).later hb) ((h2.later hBW).later hb) (by omega) (by omega)).mono fun r w' ⟨v, e1, o1, o2⟩ => ⟨v, e1, o1.mono hb.size, hb.trans (o2.mono hb.size)⟩
  have k31 : ∀ v5 w5, Own w5 W.heap.size v5 (x * y) → Below W.heap.size W w5 → Calls Tryz.prog 67 #[.bool sg, v5, .int .i64 (ea + eb)] w5 fun r w' => ∃ s ao n cap ex, r = .returned (.agg #[.bool s, .slice ao n cap, .int .i64 ex]) ∧
      Hid (NC w' w5.heap.size (.agg #[.bool s, .slice ao n cap, .int .i64 ex]) sg (x * y) (ea + eb) ∧ W.heap.size ≤ w5.heap.size) ∧ Below W.heap.size W w' ∧ Hid (w'.heap[w.heap.size + 1 + 1]? = some (.cells #[.bool false, .slice none 0 0, .int .i64 0] 38 (0, 0))) ∧
      (w'.cell? ⟨w.heap.size + 1 + 1, 0, none⟩ = some (.bool false) ∧ w'.cell? ⟨w.heap.size + 1 + 1, 1, none⟩ = some (.slice none 0 0) ∧ w'.cell? ⟨w.heap.size + 1 + 1, 2, none⟩ = some (.int .i64 0)) ∧ (w'.frozen? ⟨w.heap.size + 1 + 1, 0, none⟩ = false ∧ w'.frozen? ⟨w.heap.size + 1 + 1, 1, none⟩ = false ∧ w'.frozen? ⟨w.heap.size + 1 + 1, 2, none⟩ = false) := by
    intro v5 w5 ho hb
    obtain ⟨ao0, cap0, rfl, hl0, -, hat0⟩ := ho.is
    refine (rnormN hat0 (Nat.le_refl _) hl0 (by omega) (by omega)).mono ?_
    rintro r w6 ⟨a, rfl, hN, hb6⟩
    obtain ⟨s, ao, n, cap, ex, rfl⟩ := hN.shape
    have hb46 : Below W.heap.size W w6 := hb.trans (hb6.mono hb.size)
    have hblk := box_later HH.out.1 hb46 (by have := HH.out.2.1; omega)
    obtain ⟨f1, f2⟩ := box_cells29 hblk
    exact ⟨s, ao, n, cap, ex, rfl, ⟨hN, hb.size⟩, hb46, hblk, f1, f2⟩
  obtain ⟨⟨a0, a1, a2⟩, -⟩ := box_cells29 hA
  obtain ⟨⟨b0, b1, b2⟩, -⟩ := box_cells29 hBb
  have HK : Hid (∀ w', Below W.heap.size W w' → ((w'.cell? ⟨w.heap.size, 0, none⟩ = some (.bool na) ∧ w'.cell? ⟨w.heap.size, 1, none⟩ = some (.slice ua un uc) ∧ w'.cell? ⟨w.heap.size, 2, none⟩ = some (.int .i64 ea)) ∧ (w'.cell? ⟨w.heap.size + 1, 0, none⟩ = some (.bool nb) ∧ w'.cell? ⟨w.heap.size + 1, 1, none⟩ = some (.slice va vn vc) ∧ w'.cell? ⟨w.heap.size + 1, 2, none⟩ = some (.int .i64 eb)))) := fun w' hb => ⟨(box_cells29 (box_later hA hb (by omega))).1, (box_cells29 (box_later hBb hb (by omega))).1⟩
  have HK2 : Hid (∀ w', Below (w.heap.size + 1 + 1) W w' → ((w'.cell? ⟨w.heap.size, 0, none⟩ = some (.bool na) ∧ w'.cell? ⟨w.heap.size, 1, none⟩ = some (.slice ua un uc) ∧ w'.cell? ⟨w.heap.size, 2, none⟩ = some (.int .i64 ea)) ∧ (w'.cell? ⟨w.heap.size + 1, 0, none⟩ = some (.bool nb) ∧ w'.cell? ⟨w.heap.size + 1, 1, none⟩ = some (.slice va vn vc) ∧ w'.cell? ⟨w.heap.size + 1, 2, none⟩ = some (.int .i64 eb)))) := fun w' hb => ⟨(box_cells29 (box_later hA hb (by omega))).1, (box_cells29 (box_later hBb hb (by omega))).1⟩
  have HS2 : Hid (w.heap.size + 1 + 1 ≤ W.heap.size) := (by omega : w.heap.size + 1 + 1 ≤ W.heap.size)
  have hBR : Below W.heap.size W W.drew := (Below.refl _ _).drew
  have wz : IntKind.i64.wrap (ea + eb) = ea + eb := by rw [IntKind.wrap_i64]; omega
  clear hA hBb hC hsz hBW h1 h2 hx hy hxy
  go_enter Tryz.func31, Tryz.ntmps31
  go_upto_region 1 with fail
  rw [← hW]
  clear hW
  go_region_held3 (fun w' => ((w'.cell? ⟨w.heap.size, 0, none⟩ = some (.bool na) ∧ w'.cell? ⟨w.heap.size, 1, none⟩ = some (.slice ua un uc) ∧ w'.cell? ⟨w.heap.size, 2, none⟩ = some (.int .i64 ea)) ∧ (w'.cell? ⟨w.heap.size + 1, 0, none⟩ = some (.bool nb) ∧ w'.cell? ⟨w.heap.size + 1, 1, none⟩ = some (.slice va vn vc) ∧ w'.cell? ⟨w.heap.size + 1, 2, none⟩ = some (.int .i64 eb)))) (first | (with_reducible assumption) | exact ⟨⟨a0, a1, a2⟩, b0, b1, b2⟩ | (refine HK.out _ ?_; with_reducible assumption) | (refine HK2.out _ (below_store3 (Below.mono hb6 HS2.out) (Nat.le_refl _) _ _ _)) | go_keep)
    (first | (go_at_call 73; refine (k78 _ (by first | (with_reducible assumption) | exact hBR)).mono ?_; rintro r w5 ⟨v5, rfl, ho5, hb5⟩) | (go_at_call 67; (try simp only [hsg, wz]); refine (k31 _ _ ho5 hb5).mono ?_; rintro r w6 ⟨s6, ao6, n6, cap6, ex6, rfl, hN6, hb6, hblk6, ⟨x1, x2, x3⟩, x4, x5, x6⟩))
  have HF : Hid (Below W.heap.size W w6) := hb6
  clear ho5 hb5 hb6 k31 k78 x1 x2 x3 x4 x5 x6 a0 a1 a2 b0 b1 b2 HK HK2
  go_wp2
  refine bodyPost_ret (results_cell_row rfl _ _ (w.heap.size + 1 + 1) 38 #[.bool s6, .slice ao6 n6 cap6, .int .i64 ex6] (0, 0) _ rfl (store3_29 _ _ _ hblk6.out) Tryz.underlying38 rfl Tryz.info38) rfl ?_
  obtain ⟨-, hs, hBW⟩ := HH.out
  have hs5 := hN6.out.2
  exact ⟨_, rfl, (hN6.out.1.store (by omega) _ _ _).mono (by omega), below_store3 (hBW.trans (HF.out.mono hBW.size)) (by omega) _ _ _⟩


theorem times_dn {t1 t2 : Bool × Nat × Int} {X Y : Value} {w : World} (o1 : Ok t1) (o2 : Ok t2) (h1 : DN w X t1) (h2 : DN w Y t2) : Calls Tryz.prog 31 #[X, Y] w fun r w' => ∃ A, r = .returned A ∧ DN w' A (tM t1 t2) ∧ Below w.heap.size w w' := by
  obtain ⟨ao, cap, rfl, a1⟩ := h1
  obtain ⟨ao', cap', rfl, a2⟩ := h2
  obtain ⟨f1, f2, f3, -, -⟩ := o1.facts
  obtain ⟨g1, g2, g3, -, -⟩ := o2.facts
  exact (xtimes_1 t1.1 t2.1 _ ao ao' _ cap _ cap' t1.2.1 t2.2.1 t1.2.2 t2.2.2 w ⟨ao, cap, rfl, a1.le, a1.at_⟩ ⟨ao', cap', rfl, a2.le, a2.at_⟩ (by omega) (by omega) (by omega) (by omega) (by omega) (by omega) rfl).mono fun r w' ⟨A, e, h, hb⟩ => ⟨A, e, h.dn, hb⟩

theorem zero_iff {a : Nat} : ((mag a : Int) == 0) = decide (mag a = 0) := by
  by_cases h : mag a = 0 <;> simp [h]
theorem inf_dec {a : Nat} : Ie.isInf a = decide (mag a = 9218868437227405312) := by
  by_cases h : mag a = 9218868437227405312
  · rw [decide_eq_true h]; exact Ie.isInf_iff.2 h
  · rw [decide_eq_false h]; exact Ie.isInf_not.2 h

theorem nonfin {a : Nat} (h : ¬ mag a < 9218868437227405312) : (isNaN a || Ie.isInf a) = true := by
  rcases Nat.lt_or_eq_of_le (Nat.le_of_not_lt h) with h | h
  · rw [nan_of h]; rfl
  · rw [Ie.isInf_iff.2 h.symm, Bool.or_true]
end Go.Proofs.YtajeodimbfppiaaGreatDoor

/- The document's root, rounded: the program's float. -/
namespace Go.Proofs.YtajeodimbfppiaaGreatDoor
set_option linter.unusedVariables false
set_option linter.unusedSimpArgs false
open Go.RowKit Go.Fl64

theorem bl_root_lo {N q : Nat} (h : N < (q + 1) * (q + 1)) : bl N ≤ 2 * bl q := by
  refine (bl_le _ _).2 (Nat.lt_of_lt_of_le h ?_)
  rw [four_two]
  exact Nat.mul_le_mul (lt_bl q) (lt_bl q)
theorem bl_root_hi {N q : Nat} (h : q * q ≤ N) (hq : q ≠ 0) : 2 * bl q ≤ bl N + 1 := by
  have h1 := le_bl hq
  have b1 := bl_ne hq
  have h2 : 2 ^ (2 * (bl q - 1)) ≤ N := by
    rw [four_two]
    exact Nat.le_trans (Nat.mul_le_mul h1 h1) h
  have h3 := (Nat.pow_lt_pow_iff_right (by omega : 1 < 2)).1 (Nat.lt_of_le_of_lt h2 (lt_bl N))
  omega
theorem bl_rtQ {x : Nat} {ea P : Int} (hx : x ≠ 0) (h : 0 ≤ (bl x : Int) + ea + 2 * P) : (bl (rtQ x ea P) : Int) = bl x + ea + 2 * P := by
  have hb := bl_ne hx
  unfold rtQ
  by_cases hn : 0 ≤ ea + 2 * P
  · rw [if_pos hn, bl_shl' hx]; omega
  · rw [if_neg hn]
    by_cases he : (bl x : Int) + ea + 2 * P = 0
    · have : x / 2 ^ (-(ea + 2 * P)).toNat = 0 := by
        refine Nat.div_eq_of_lt ?_
        have := lt_bl x
        rw [show (-(ea + 2 * P)).toNat = bl x by omega]
        exact this
      rw [this, he]; rfl
    · rw [bl_div (by omega)]; omega
theorem rt_ne {x s : Nat} {ea P : Int} (hx : x ≠ 0) (h : (decide (s * s = rtQ x ea P) && rtW x ea P) = true) : s ≠ 0 := by
  rintro rfl
  simp only [Bool.and_eq_true, decide_eq_true_eq, Nat.mul_zero] at h
  obtain ⟨h1, h2⟩ := h
  unfold rtQ at h1
  unfold rtW at h2
  by_cases hn : 0 ≤ ea + 2 * P
  · rw [if_pos hn] at h1
    exact Nat.mul_ne_zero hx (Nat.pos_iff_ne_zero.1 (Nat.two_pow_pos _)) h1.symm
  · rw [if_neg hn] at h1
    rw [decide_eq_false hn, Bool.false_or] at h2
    have h3 := of_decide_eq_true h2
    have := Nat.div_add_mod x (2 ^ (-(ea + 2 * P)).toNat)
    rw [h3, ← h1] at this
    omega
theorem rt_len {x s : Nat} {ea P : Int} (hx : dlen x ≤ 2048) (h : s * s ≤ rtQ x ea P) (h1 : ea + 2 * P ≤ 70000) : dlen s ≤ 20000 := by
  have h2 : rtQ x ea P ≤ x * 2 ^ (ea + 2 * P).toNat := by
    unfold rtQ
    split
    · exact Nat.le_refl _
    · exact Nat.le_trans (Nat.div_le_self _ _) (Nat.le_mul_of_pos_right x (Nat.two_pow_pos _))
  have h3 : s ≤ s * s := by
    rcases Nat.eq_zero_or_pos s with rfl | h
    · exact Nat.le_refl _
    · exact Nat.le_mul_of_pos_right s h
  have h4 := dlen_mono (Nat.le_trans h3 (Nat.le_trans h h2))
  have := shl_len (x := x) (k := (ea + 2 * P).toNat) rfl
  omega
/-- what Between answers of a root is the program's float -/
theorem rt_key {x k q s : Nat} {ea P h2 m t : Int} (hm : 1 ≤ m ∧ m ≤ 3) (hx0 : x ≠ 0) (hk : ea - k = 2 * h2) (a1 : q * q ≤ x * 2 ^ k) (a2 : x * 2 ^ k < (q + 1) * (q + 1)) (hN : 128 ≤ bl x + k) (ht : (bl x : Int) + ea = t) (hP : (P = 120 ∧ 0 < t) ∨ (P = 1200 ∧ -2400 ≤ t ∧ t ≤ 0)) (b1 : s * s ≤ rtQ x ea P) (b2 : rtQ x ea P < (s + 1) * (s + 1)) :
    (if (decide (s * s = rtQ x ea P) && rtW x ea P) then tfF false true s (-P) m else tfF false true (2 * s + 1) (-(P + 1)) m) = tfF false (decide (q * q = x * 2 ^ k)) q h2 m := by
  have hB : bl (x * 2 ^ k) = bl x + k := bl_shl' hx0
  have q1 := bl_root_lo a2
  have h64 : 64 ≤ bl q := by omega
  have hq0 : q ≠ 0 := fun e => by rw [e] at h64; simp [bl] at h64
  have q2 := bl_root_hi a1 hq0
  have hR := bl_rtQ (x := x) (ea := ea) (P := P) hx0 (by omega)
  have s1 := bl_root_lo b2
  by_cases hs : 64 ≤ bl s
  · rw [sqrt_eq hm hk a1 a2 b1 b2 h64 hs]
    cases (decide (s * s = rtQ x ea P) && rtW x ea P)
    · rw [if_neg (by decide), tf_sticky hs, show -P - 1 = -(P + 1) by omega]
    · rw [if_pos rfl]
  · cases hdc : (decide (s * s = rtQ x ea P) && rtW x ea P)
    · rw [if_neg (by decide)]
      refine (tf_tiny hm (.inl h64) (by omega) (by omega) ?_).symm
      by_cases hz : s = 0
      · rw [hz, Nat.mul_zero, Nat.zero_add, bl_one]; omega
      · rw [bl_two hz]; omega
    · rw [if_pos rfl]
      exact (tf_tiny hm (.inl h64) (rt_ne hx0 hdc) (by omega) (by omega)).symm
theorem rsqrtto {na : Bool} {ua : Option Addr} {uc x k q : Nat} {ea m h2 : Int} {w : World} (h1 : Arg w ua (dlen x) uc x) (hx : dlen x ≤ 2048) (ha : -65536 ≤ ea ∧ ea ≤ 65536) (hx0 : x ≠ 0) (hm : 1 ≤ m ∧ m ≤ 3) (hk : ea - k = 2 * h2) (a1 : q * q ≤ x * 2 ^ k) (a2 : x * 2 ^ k < (q + 1) * (q + 1)) (hN : 128 ≤ bl x + k) :
    Calls Tryz.prog 61 #[.agg #[.bool na, .slice ua (dlen x) uc, .int .i64 ea], .int .i64 m] w fun r w' => r = .returned (.float .f64 (tfF false (decide (q * q = x * 2 ^ k)) q h2 m)) ∧ Below w.heap.size w w' := by
  have hB : bl (x * 2 ^ k) = bl x + k := bl_shl' hx0
  have q1 := bl_root_lo a2
  have h64 : 64 ≤ bl q := by omega
  have hq0 : q ≠ 0 := fun e => by rw [e] at h64; simp [bl] at h64
  have q2 := bl_root_hi a1 hq0
  have hn0 : ((dlen x : Int) == 0) = false := len_ne (n := 0) hx0
  have kH := fun W (hW : Below w.heap.size w W) => rhigh (neg := na) (cap := uc) (e := ea) (h1.later hW).at_ hx0 (by omega) ⟨by omega, by omega⟩
  by_cases hb1 : 2200 < (bl x : Int) + ea
  · rw [tf_big (s := false) (y := 1) (f := 1100) hm (.inl h64) (by omega) (by omega) (by rw [bl_one]; omega)]
    exact rsqrtto_b na ua _ uc _ ea m _ w hn0 hb1 kH (fun g W hW hA => rto_one hA (by omega) (by omega) hm)
  · by_cases hb2 : (bl x : Int) + ea < -2400
    · rw [tf_tiny (s := false) (y := 1) (f := -1200) hm (.inl h64) (by omega) (by omega) (by rw [bl_one]; omega)]
      exact rsqrtto_t na ua _ uc _ ea m _ w hn0 hb2 kH (fun g W hW hA => rto_one hA (by omega) (by omega) hm)
    · by_cases hp : 0 < (bl x : Int) + ea
      · refine rsqrtto_p na ua _ uc _ ea m _ (fun s => decide (s * s = rtQ x ea 120) && rtW x ea 120) (fun s => s * s ≤ rtQ x ea 120 ∧ rtQ x ea 120 < (s + 1) * (s + 1)) w hn0 (by omega) (by omega) hp kH (fun W hW => ?_) (fun W A s hW hC hs => ?_)
        · exact (rrootof (na := na) (h1.later hW).at_ h1.le (by omega) ⟨by omega, by omega⟩ ⟨by omega, by omega⟩).mono fun r w' ⟨A, s, e1, e2, e3, e4, e5⟩ => ⟨A, s, e1, e2, ⟨e3, e4⟩, e5⟩
        · rw [← rt_key (P := 120) hm hx0 hk a1 a2 hN rfl (.inl ⟨rfl, hp⟩) hs.1 hs.2]
          exact rbetween (s := false) (P := 120) hC (rt_ne hx0) (rt_len hx hs.1 (by omega)) (by omega) (by omega) hm
      · refine rsqrtto_n na ua _ uc _ ea m _ (fun s => decide (s * s = rtQ x ea 1200) && rtW x ea 1200) (fun s => s * s ≤ rtQ x ea 1200 ∧ rtQ x ea 1200 < (s + 1) * (s + 1)) w hn0 (by omega) (by omega) (by omega) kH (fun W hW => ?_) (fun W A s hW hC hs => ?_)
        · exact (rrootof (na := na) (h1.later hW).at_ h1.le (by omega) ⟨by omega, by omega⟩ ⟨by omega, by omega⟩).mono fun r w' ⟨A, s, e1, e2, e3, e4, e5⟩ => ⟨A, s, e1, e2, ⟨e3, e4⟩, e5⟩
        · rw [← rt_key (P := 1200) hm hx0 hk a1 a2 hN rfl (.inr ⟨rfl, by omega, by omega⟩) hs.1 hs.2]
          exact rbetween (s := false) (P := 1200) hC (rt_ne hx0) (rt_len hx hs.1 (by omega)) (by omega) (by omega) hm
end Go.Proofs.YtajeodimbfppiaaGreatDoor

/- Square roots of numbers: the program's and the document's are one float; Sqrt of floats. -/
namespace Go.Proofs.YtajeodimbfppiaaGreatDoor
set_option linter.unusedVariables false
set_option linter.unusedSimpArgs false
open Go.RowKit Go.Fl64

theorem rootEx (a : Nat) : ∃ s, s * s ≤ a ∧ a < (s + 1) * (s + 1) := by
  induction a with
  | zero => exact ⟨0, by omega, by omega⟩
  | succ n ih =>
    obtain ⟨s, h1, h2⟩ := ih
    by_cases h : n + 1 < (s + 1) * (s + 1)
    · exact ⟨s, by omega, h⟩
    · refine ⟨s + 1, by omega, ?_⟩
      have : (s + 1 + 1) * (s + 1 + 1) = (s + 1) * (s + 1) + 2 * (s + 1) + 1 := by grind
      omega
theorem sqK_even (t : Bool × Nat × Int) : t.2.2 - (sqK t : Int) = 2 * (t.2.2 - (sqK t : Int)).tdiv 2 := by
  unfold sqK
  generalize (max 0 (128 - (bl t.2.1 : Int))).toNat = k
  by_cases hod : ((t.2.2 - (k : Int)).tmod 2 != 0) = true
  · rw [if_pos hod]
    have hod' : (t.2.2 - (k : Int)).tmod 2 ≠ 0 := by simpa using hod
    have h3 := Int.mul_tdiv_add_tmod (t.2.2 - ((k + 1 : Nat) : Int)) 2
    have h5 : ¬ (2 ∣ t.2.2 - (k : Int)) := fun d => hod' (Int.tmod_eq_zero_of_dvd d)
    have h4 : (t.2.2 - ((k + 1 : Nat) : Int)).tmod 2 = 0 := Int.tmod_eq_zero_of_dvd (by omega)
    omega
  · rw [if_neg hod]
    have hod' : (t.2.2 - (k : Int)).tmod 2 = 0 := by simpa using hod
    have h3 := Int.mul_tdiv_add_tmod (t.2.2 - (k : Int)) 2
    omega
theorem sqK_big (t : Bool × Nat × Int) : 128 ≤ bl t.2.1 + sqK t := by
  unfold sqK
  split <;> omega
theorem tf_zero {e m : Int} (hm : 1 ≤ m ∧ m ≤ 3) : tfF false true 0 e m = 0 := by
  rw [tf_bdy hm]; unfold bdy; rw [if_pos rfl]; rfl

theorem join_root (t : Bool × Nat × Int) (m : Int) (ok : Ok t) (hs : t.1 = false) (hm : 1 ≤ m ∧ m ≤ 3) :
    ∃ F, F < 18446744073709551616 ∧ (t.2.1 = 0 → F = 0) ∧
      (∀ W X, Tab32 W → PN W X t → Calls Tryz.prog 60 #[X, .int .i64 m] W fun r w' => r = .returned (.tuple #[.float .f64 F, .int .i64 0]) ∧ Below W.heap.size W w') ∧
      (t.2.1 ≠ 0 → ∀ W X, DN W X t → Calls Tryz.prog 61 #[X, .int .i64 m] W fun r w' => r = .returned (.float .f64 F) ∧ Below W.heap.size W w') := by
  obtain ⟨q, a1, a2⟩ := rootEx (t.2.1 * 2 ^ sqK t)
  refine ⟨tfF false (decide (q * q = t.2.1 * 2 ^ sqK t)) q ((t.2.2 - (sqK t : Int)).tdiv 2) m, tfF_lt' hm, fun h0 => ?_, fun W X hT h => ?_, fun h0 W X h => ?_⟩
  · rw [h0, Nat.zero_mul] at a1 a2 ⊢
    have hq : q = 0 := by
      rcases Nat.eq_zero_or_pos q with h | h
      · exact h
      · have := Nat.mul_pos h h; omega
    subst hq
    rw [decide_eq_true (by rfl)]
    exact tf_zero hm
  · refine (psqrt hT ok h hs hm).mono ?_
    rintro r w' ⟨q', ⟨c1, c2⟩, rfl, hb⟩
    obtain rfl := root_only a1 a2 c1 c2
    exact ⟨rfl, hb⟩
  · obtain ⟨ao, cap, rfl, hA⟩ := h
    have f := ok.facts
    exact rsqrtto hA f.1 ⟨by omega, by omega⟩ h0 hm (sqK_even t) a1 a2 (sqK_big t)

theorem lt_nought {a : Nat} (ha : a < 18446744073709551616) : (FloatKind.f64.format.order a 0 == some Ordering.lt) = (!isNaN a && neg a && decide (mag a ≠ 0)) := by
  rw [ord_lt a 0 ha (by decide)]
  unfold lt
  have nb : isNaN 0 = false := by decide
  have e0 : stp 0 = 0 := by decide
  rw [nb, e0]
  cases isNaN a
  · have : decide (stp a < 0) = (neg a && decide (mag a ≠ 0)) := by
      unfold stp sgn
      cases neg a
      · show decide ((mag a : Int) < 0) = (false && _)
        rw [decide_eq_false (by omega)]; rfl
      · show decide (-(mag a : Int) < 0) = (true && decide (mag a ≠ 0))
        by_cases h : mag a = 0
        · simp [h]
        · rw [decide_eq_true (by omega), decide_eq_true h]; rfl
    rw [this]; simp
  · rfl

theorem psq_no (a : Nat) (m : Int) (w : World) (hm : isM m = false) : Calls Tryz.prog 21 #[.float .f64 a, .int .i64 m] w fun r w' => r = .returned (.float .f64 9221120237041090561) ∧ Below w.heap.size w w' := by
  have kV := pvalid m w
  rw [hm] at kV
  go_enter Tryz.func21, Tryz.ntmps21
  go_wp2_with fail
  refine kV.mono ?_
  rintro r w' ⟨rfl, hw⟩
  rw [hw]
  clear hw kV w'
  have kN := Ie.c52 w
  go_wp2_with fail
  refine kN.mono ?_
  rintro r w' ⟨rfl, hw⟩
  rw [hw]
  clear hw kN w'
  go_wp2_with fail
  go_ret
  exact ⟨rfl, Below.refl _ _⟩
theorem psq_neg (a : Nat) (m : Int) (w : World) (hm : isM m = true) (hl : (FloatKind.f64.format.order a 0 == some Ordering.lt) = true) : Calls Tryz.prog 21 #[.float .f64 a, .int .i64 m] w fun r w' => r = .returned (.float .f64 9221120237041090561) ∧ Below w.heap.size w w' := by
  have kV := pvalid m w
  rw [hm] at kV
  go_enter Tryz.func21, Tryz.ntmps21
  go_wp2_with fail
  refine kV.mono ?_
  rintro r w' ⟨rfl, hw⟩
  rw [hw]
  clear hw kV w'
  have kN := Ie.c52 w
  go_wp2_with fail
  refine kN.mono ?_
  rintro r w' ⟨rfl, hw⟩
  rw [hw]
  clear hw kN w'
  go_wp2_with fail
  go_ret
  exact ⟨rfl, Below.refl _ _⟩
theorem psq_np (a : Nat) (m : Int) (w : World) (hm : isM m = true) (hl : (FloatKind.f64.format.order a 0 == some Ordering.lt) = false) (hf : ∀ W, Calls Tryz.prog 53 #[.float .f64 a] W fun r w' => r = .returned (.bool false) ∧ Below W.heap.size W w') : Calls Tryz.prog 21 #[.float .f64 a, .int .i64 m] w fun r w' => r = .returned (.float .f64 a) ∧ Below w.heap.size w w' := by
  have kV := pvalid m w
  rw [hm] at kV
  go_enter Tryz.func21, Tryz.ntmps21
  go_wp2_with fail
  refine kV.mono ?_
  rintro r w' ⟨rfl, hw⟩
  rw [hw]
  clear hw kV w'
  have kN := hf w
  go_wp2_with fail
  refine kN.mono ?_
  rintro r w1 ⟨rfl, hb1⟩
  have HB : Hid (Below w.heap.size w w1) := hb1
  clear hb1 kN hf
  go_wp2_with fail
  go_ret
  exact ⟨rfl, HB.out⟩
theorem psq_r (a F : Nat) (m : Int) (ta : Bool × Nat × Int) (w : World) (hm : isM m = true) (hl : (FloatKind.f64.format.order a 0 == some Ordering.lt) = false) (hf : ∀ W, Calls Tryz.prog 53 #[.float .f64 a] W fun r w' => r = .returned (.bool true) ∧ w' = W)
    (kA : Calls Tryz.prog 41 #[.float .f64 a] w fun r w' => OutA w ta r w')
    (kR : ∀ W X, Below w.heap.size w W → PN W X ta → Calls Tryz.prog 60 #[X, .int .i64 m] W fun r w' => r = .returned (.tuple #[.float .f64 F, .int .i64 0]) ∧ Below W.heap.size W w') : Calls Tryz.prog 21 #[.float .f64 a, .int .i64 m] w fun r w' => r = .returned (.float .f64 F) ∧ Below w.heap.size w w' := by
  have kV := pvalid m w
  rw [hm] at kV
  have HKR : Hid (∀ W X, Below w.heap.size w W → PN W X ta → Calls Tryz.prog 60 #[X, .int .i64 m] W fun r w' => r = .returned (.tuple #[.float .f64 F, .int .i64 0]) ∧ Below W.heap.size W w') := kR
  clear kR
  go_enter Tryz.func21, Tryz.ntmps21
  go_wp2_with fail
  refine kV.mono ?_
  rintro r w' ⟨rfl, hw⟩
  rw [hw]
  clear hw kV w'
  have kN := hf w
  go_wp2_with fail
  refine kN.mono ?_
  rintro r w' ⟨rfl, hw⟩
  rw [hw]
  clear hw kN hf w'
  go_wp2_with fail
  refine kA.mono ?_
  rintro r w1 ⟨s1, ao1, n1, cap1, ex1, rfl, hP1, hb1⟩
  have HB1 : Hid (Below w.heap.size w w1) := hb1
  have k2 := HKR.out w1 _ hb1 hP1
  clear kA hb1 hP1
  go_wp2_with fail
  refine k2.mono ?_
  rintro r w2 ⟨rfl, hb2⟩
  have HB2 : Hid (Below w.heap.size w w2) := HB1.out.trans (hb2.mono HB1.out.size)
  clear k2 hb2
  go_wp2_with fail
  go_ret
  exact ⟨rfl, HB2.out⟩

/-- what the document answers of a root where nothing is rounded -/
def sqX (a : Nat) : Nat := if isNaN a then 9221120237041090560 else if ((mag a : Int) == 0) then a else if neg a then 9221120237041090560 else a
theorem dsq_no (a : Nat) (m : Int) (hm : isM m = false) (w : World) : Calls Tryz.prog 22 #[.float .f64 a, .int .i64 m] w fun r w' => r = .returned (.float .f64 9221120237041090560) ∧ w' = w := by
  have kV : ∀ W, Calls Tryz.prog 15 #[.int .i64 m] W fun r w' => r = .returned (.int .i64 1) ∧ w' = W := fun W => by
    have := dvalid m W
    rw [hm] at this
    exact this
  go_enter Tryz.func22, Tryz.ntmps22
  go_wp2_with (first | (go_at_call 15; refine (kV _).mono ?_; rintro e w' ⟨rfl, hw⟩; rw [hw]; clear hw w') | (go_at_call 46; refine (Ie.dnot _).mono ?_; rintro e w' ⟨rfl, hw⟩; rw [hw]; clear hw w'))
  go_ret
  exact ⟨rfl, rfl⟩
theorem dsq_non (a : Nat) (m : Int) (ha : a < 18446744073709551616) (hm : isM m = true) (h : (isNaN a || Ie.isInf a || ((mag a : Int) == 0) || neg a) = true) (w : World) :
    Calls Tryz.prog 22 #[.float .f64 a, .int .i64 m] w fun r w' => r = .returned (.float .f64 (sqX a)) ∧ w' = w := by
  unfold sqX
  have kV : ∀ W, Calls Tryz.prog 15 #[.int .i64 m] W fun r w' => r = .returned (.int .i64 0) ∧ w' = W := fun W => by
    have := dvalid m W
    rw [hm] at this
    exact this
  have kna := Ie.dnan a ha
  have kia := Ie.dinf a ha
  have ksa := Ie.dneg a ha
  have kza := Ie.diszero a ha
  clear ha hm
  generalize isNaN a = na at *
  generalize Ie.isInf a = ia at *
  generalize ((mag a : Int) == 0) = za at *
  generalize neg a = sa at *
  cases na <;> cases ia <;> cases za <;> cases sa
  all_goals first
    | (exfalso; revert h; decide)
    | (clear h
       go_enter Tryz.func22, Tryz.ntmps22
       go_wp2_with (first | (go_at_call 15; refine (kV _).mono ?_; rintro e w' ⟨rfl, hw⟩; rw [hw]; clear hw w') | (go_at_call 46; refine (Ie.dnot _).mono ?_; rintro e w' ⟨rfl, hw⟩; rw [hw]; clear hw w') | (go_at_call 35; refine (kna _).mono ?_; rintro e w' ⟨rfl, hw⟩; rw [hw]; clear hw w') | (go_at_call 36; refine (kia _).mono ?_; rintro e w' ⟨rfl, hw⟩; rw [hw]; clear hw w') | (go_at_call 47; refine (ksa _).mono ?_; rintro e w' ⟨rfl, hw⟩; rw [hw]; clear hw w') | (go_at_call 55; refine (kza _).mono ?_; rintro e w' ⟨rfl, hw⟩; rw [hw]; clear hw w'))
       go_ret
       exact ⟨rfl, rfl⟩)
theorem dsq_fin (a F : Nat) (m : Int) (ta : Bool × Nat × Int) (w : World) (hm : isM m = true) (ha : a < 18446744073709551616) (hp : pln a = true) (hn : neg a = false)
    (kA : Calls Tryz.prog 28 #[.float .f64 a] w fun r w' => ∃ A, r = .returned A ∧ DN w' A ta ∧ Below w.heap.size w w')
    (kR : ∀ W X, DN W X ta → Calls Tryz.prog 61 #[X, .int .i64 m] W fun r w' => r = .returned (.float .f64 F) ∧ Below W.heap.size W w') :
    Calls Tryz.prog 22 #[.float .f64 a, .int .i64 m] w fun r w' => r = .returned (.float .f64 F) ∧ Below w.heap.size w w' := by
  have kV : ∀ W, Calls Tryz.prog 15 #[.int .i64 m] W fun r w' => r = .returned (.int .i64 0) ∧ w' = W := fun W => by
    have := dvalid m W
    rw [hm] at this
    exact this
  obtain ⟨p1, p2⟩ := pln_true.1 hp
  have kna := Ie.dnan a ha
  have kia := Ie.dinf a ha
  have ksa := Ie.dneg a ha
  have kza := Ie.diszero a ha
  rw [nan_no (by omega)] at kna
  rw [Ie.isInf_not.2 (by omega)] at kia
  rw [hn] at ksa
  rw [zero_iff, decide_eq_false p2] at kza
  have HKR : Hid (∀ W X, DN W X ta → Calls Tryz.prog 61 #[X, .int .i64 m] W fun r w' => r = .returned (.float .f64 F) ∧ Below W.heap.size W w') := kR
  clear kR ha hm p1 p2 hp hn
  go_enter Tryz.func22, Tryz.ntmps22
  go_wp2_with (first | (go_at_call 15; refine (kV _).mono ?_; rintro e w' ⟨rfl, hw⟩; rw [hw]; clear hw w') | (go_at_call 35; refine (kna _).mono ?_; rintro e w' ⟨rfl, hw⟩; rw [hw]; clear hw w') | (go_at_call 36; refine (kia _).mono ?_; rintro e w' ⟨rfl, hw⟩; rw [hw]; clear hw w') | (go_at_call 47; refine (ksa _).mono ?_; rintro e w' ⟨rfl, hw⟩; rw [hw]; clear hw w') | (go_at_call 55; refine (kza _).mono ?_; rintro e w' ⟨rfl, hw⟩; rw [hw]; clear hw w'))
  clear kna kia ksa kza kV
  refine kA.mono ?_
  rintro r w1 ⟨A1, rfl, hP1, hb1⟩
  have HB1 : Hid (Below w.heap.size w w1) := hb1
  have k2 := HKR.out w1 _ hP1
  clear kA hb1 hP1
  go_wp2_with fail
  refine k2.mono ?_
  rintro r w2 ⟨rfl, hb2⟩
  have HB2 : Hid (Below w.heap.size w w2) := HB1.out.trans (hb2.mono HB1.out.size)
  clear k2 hb2
  go_wp2_with fail
  go_ret
  exact ⟨rfl, HB2.out⟩
theorem tF_pos {a : Nat} (h : neg a = false) : (tF a).1 = false := by
  unfold tF cn
  split
  · rfl
  · exact h
theorem sqX_lt {a : Nat} (ha : a < 18446744073709551616) : sqX a < 18446744073709551616 := by
  unfold sqX
  repeat' split
  all_goals first | exact ha | decide

theorem join_FSqrt (a : Nat) (m : Int) (ha : a < 18446744073709551616) :
    ∃ X, X < 18446744073709551616 ∧
      (∀ W, Tab32 W → Ie.Tab W → Calls Tryz.prog 21 #[.float .f64 a, .int .i64 m] W fun r w' => OutF2 W X r w') ∧
      (∀ W, Calls Tryz.prog 22 #[.float .f64 a, .int .i64 m] W fun r w' => OutD W X r w') := by
  cases hm : isM m
  · refine ⟨9221120237041090560, by decide, fun W _ _ => ?_, fun W => ?_⟩
    · refine (psq_no a m W hm).mono ?_
      rintro r w' ⟨rfl, hb⟩
      exact ⟨_, rfl, lk.nan (by decide) (by decide) (by decide), hb⟩
    · refine (dsq_no a m hm W).mono ?_
      rintro r w' ⟨rfl, hw⟩
      exact ⟨rfl, hw ▸ Below.refl _ _⟩
  · have hm' := isM_iff.1 hm
    have hl := lt_nought ha
    by_cases hp : (isNaN a || Ie.isInf a || ((mag a : Int) == 0) || neg a) = true
    · refine ⟨sqX a, sqX_lt ha, fun W hT hI => ?_, fun W => ?_⟩
      · cases h1 : (FloatKind.f64.format.order a 0 == some Ordering.lt)
        · have hpl : pln a = false := by
            refine pln_false.2 ?_
            rw [zero_iff] at hp
            rw [h1] at hl
            by_cases hn : isNaN a = true
            · left; unfold isNaN at hn; simp at hn; omega
            · by_cases hi : Ie.isInf a = true
              · left; rw [Ie.isInf_iff.1 hi]; omega
              · right
                have e1 : isNaN a = false := by simpa using hn
                have e2 : Ie.isInf a = false := by simpa using hi
                rw [e1, e2] at hp
                rw [e1] at hl
                by_cases h0 : mag a = 0
                · exact h0
                · rw [decide_eq_false h0] at hp
                  rw [decide_eq_true h0] at hl
                  cases hs : neg a
                  · rw [hs] at hp; simp at hp
                  · rw [hs] at hl; simp at hl
          refine (psq_np a m W hm h1 (pplain_f a ha hpl)).mono ?_
          rintro r w' ⟨rfl, hb⟩
          refine ⟨_, rfl, ?_, hb⟩
          cases hn : isNaN a
          · have : sqX a = a := by
              unfold sqX
              rw [hn, if_neg (by decide)]
              split
              · rfl
              · rename_i h0
                rw [zero_iff] at h0
                have h0' : mag a ≠ 0 := by simpa using h0
                rw [h1, hn, decide_eq_true h0'] at hl
                have : neg a = false := by simpa using hl
                rw [this, if_neg (by decide)]
            rw [this]
            exact lk.refl ha
          · refine lk.nan ha hn ?_
            unfold sqX
            rw [hn, if_pos rfl]
            exact nan_x
        · rw [h1] at hl
          have hl' := hl.symm
          simp only [Bool.and_eq_true, Bool.not_eq_true', decide_eq_true_eq] at hl'
          obtain ⟨⟨l1, l2⟩, l3⟩ := hl'
          refine (psq_neg a m W hm h1).mono ?_
          rintro r w' ⟨rfl, hb⟩
          refine ⟨_, rfl, lk.nan (by decide) (by decide) ?_, hb⟩
          unfold sqX
          rw [l1, if_neg (by decide), zero_iff, decide_eq_false l3, if_neg (by decide), l2, if_pos rfl]
          exact nan_x
      · refine (dsq_non a m ha hm hp W).mono ?_
        rintro r w' ⟨rfl, hw⟩
        exact ⟨rfl, hw ▸ Below.refl _ _⟩
    · have hp' : (isNaN a || Ie.isInf a || ((mag a : Int) == 0) || neg a) = false := by simpa using hp
      simp only [Bool.or_eq_false_iff] at hp'
      obtain ⟨⟨⟨p1, p2⟩, p3⟩, p4⟩ := hp'
      rw [zero_iff] at p3
      have p3' : mag a ≠ 0 := by simpa using p3
      have hf : mag a < 9218868437227405312 := by
        rcases Nat.lt_or_ge (mag a) 9218868437227405312 with h | h
        · exact h
        · have := nonfin (a := a) (by omega)
          rw [p1, p2] at this
          cases this
      have hpl : pln a = true := pln_true.2 ⟨hf, p3'⟩
      obtain ⟨F, f1, -, f3, f4⟩ := join_root (tF a) m (tF_ok a) (tF_pos p4) hm'
      refine ⟨F, f1, fun W hT hI => ?_, fun W => ?_⟩
      · refine (psq_r a F m (tF a) W hm (by rw [hl, p4]; simp) (pplain_t a ha hpl) (exact_ok a ha hf W hT hI) (fun W' X h h1 => f3 W' X (hT.later h) h1)).mono ?_
        rintro r w' ⟨rfl, hb⟩
        exact ⟨_, rfl, lk.refl f1, hb⟩
      · exact dsq_fin a F m (tF a) W hm ha hpl p4 (float_dn a ha W) (fun W' X h => f4 (tF_ne p3') W' X h)
end Go.Proofs.YtajeodimbfppiaaGreatDoor
