/- Own work: contracts of the program's functions, part 13: SC1 RY6 SC2 RY7 SD1 RE1. -/
import Derived.Test.YtcoclopllbfjcaaGreatDoorA12
import Derived.Test.YtcoclopllbfjcaaGreatDoorA7
import Derived.Test.YtcoclopllbfjcaaGreatDoorA8
import Derived.Test.YtcoclopllbfjcaaGreatDoorA9
import Derived.Test.YtcoclopllbfjcaaGreatDoorA11

set_option maxHeartbeats 16000000
namespace Go.Proofs.YtcoclopllbfjcaaGreatDoor
set_option linter.unusedVariables false
set_option linter.unusedSimpArgs false
open Go.RowKit Go.Fl64
def Rn (op : BinOp) (a b F : Nat) : Prop := (∀ W, (binOp op 22 (.float .f64 a) (.float .f64 b)).run Tryz.prog W = .ok (.float .f64 F) W) ∨ ∀ W, ∃ n, lk n F ∧ (binOp op 22 (.float .f64 a) (.float .f64 b)).run Tryz.prog W = .ok (.float .f64 n) W.drew
theorem rn_of {op : BinOp} {a b F : Nat} (hop : op = .add ∨ op = .sub ∨ op = .mul ∨ op = .quo) (h : (floatBits op .f64 a b = none ∧ isNaN F = true) ∨ floatBits op .f64 a b = some F) : Rn op a b F := by
  rcases h with ⟨h1, h2⟩ | h1
  · refine .inr fun W => ?_
    obtain ⟨n, n1, n2, hs⟩ := run_nan (P := Tryz.prog) W op 22 a b hop h1
    exact ⟨n, lk.nan n1 n2 h2, hs⟩
  · exact .inl fun W => run_float_arith W op 22 .f64 a b _ h1
theorem pplain_f (a : Nat) (ha : a < 18446744073709551616) (h : pln a = false) (w : World) : Calls Tryz.prog 82 #[.float .f64 a] w fun r w' => r = .returned (.bool false) ∧ Below w.heap.size w w' := by
  rcases pln_false.1 h with h | h
  · exact (pplain_n a ha h w).mono fun r w' ⟨e, hw⟩ => ⟨e, hw ▸ (Below.refl _ _).drew⟩
  · exact (pplain_z a ha h w).mono fun r w' ⟨e, hw⟩ => ⟨e, hw ▸ Below.refl _ _⟩
theorem pplain_t (a : Nat) (ha : a < 18446744073709551616) (h : pln a = true) (w : World) : Calls Tryz.prog 82 #[.float .f64 a] w fun r w' => r = .returned (.bool true) ∧ w' = w := pplain_y a ha (pln_true.1 h).1 (pln_true.1 h).2 w
theorem pmul_no (a b : Nat) (m : Int) (w : World) (hm : isM m = false) : Calls Tryz.prog 36 #[.float .f64 a, .float .f64 b, .int .i64 m] w fun r w' => r = .returned (.float .f64 9221120237041090561) ∧ Below w.heap.size w w' := by
  have kV := pvalid m w
  rw [hm] at kV
  go_enter Tryz.func36, Tryz.ntmps36
  go_wp2_with fail
  refine kV.mono ?_
  rintro r w' ⟨rfl, hw⟩
  rw [hw]
  clear hw kV w'
  have kN := Ie.c52 w
  go_wp2_with fail
  refine kN.mono ?_
  rintro r w' ⟨rfl, hw⟩
  rw [hw]
  clear hw kN w'
  go_wp2_with fail
  go_ret
  exact ⟨rfl, Below.refl _ _⟩
set_option maxRecDepth 200000 in
theorem pmul_na (a b F : Nat) (m : Int) (w : World) (hm : isM m = true) (hfa : ∀ W, Calls Tryz.prog 82 #[.float .f64 a] W fun r w' => r = .returned (.bool false) ∧ Below W.heap.size W w') (h : Rn .mul a b F) (hF : F < 18446744073709551616) :
    Calls Tryz.prog 36 #[.float .f64 a, .float .f64 b, .int .i64 m] w fun r w' => OutF2 w F r w' := by
  have kV := pvalid m w
  rw [hm] at kV
  have HF : Hid (F < 18446744073709551616 ∧ Rn .mul a b F) := ⟨hF, h⟩
  clear hF h
  go_enter Tryz.func36, Tryz.ntmps36
  go_wp2_with fail
  refine kV.mono ?_
  rintro r w' ⟨rfl, hw⟩
  rw [hw]
  clear hw kV w'
  have kN := hfa w
  go_wp2_with fail
  refine kN.mono ?_
  rintro r w1 ⟨rfl, hb1⟩
  have HB : Hid (Below w.heap.size w w1 ∧ Below w.heap.size w w1.drew) := ⟨hb1, hb1.drew⟩
  clear hb1 kN hfa
  rcases HF.out.2 with h | h
  · have hr := h w1
    clear h
    go_wp2_with fail
    go_ret
    exact ⟨_, rfl, lk.refl HF.out.1, HB.out.1⟩
  · obtain ⟨n, hn, hr⟩ := h w1
    have HN : Hid (lk n F) := hn
    clear hn h
    go_wp2_with fail
    go_ret
    exact ⟨_, rfl, HN.out, HB.out.2⟩
set_option maxRecDepth 200000 in
theorem pmul_nb (a b F : Nat) (m : Int) (w : World) (hm : isM m = true) (hfa : ∀ W, Calls Tryz.prog 82 #[.float .f64 a] W fun r w' => r = .returned (.bool true) ∧ w' = W) (hfb : ∀ W, Calls Tryz.prog 82 #[.float .f64 b] W fun r w' => r = .returned (.bool false) ∧ Below W.heap.size W w') (h : Rn .mul a b F) (hF : F < 18446744073709551616) :
    Calls Tryz.prog 36 #[.float .f64 a, .float .f64 b, .int .i64 m] w fun r w' => OutF2 w F r w' := by
  have kV := pvalid m w
  rw [hm] at kV
  have HF : Hid (F < 18446744073709551616 ∧ Rn .mul a b F) := ⟨hF, h⟩
  clear hF h
  go_enter Tryz.func36, Tryz.ntmps36
  go_wp2_with fail
  refine kV.mono ?_
  rintro r w' ⟨rfl, hw⟩
  rw [hw]
  clear hw kV w'
  have kN := hfa w
  go_wp2_with fail
  refine kN.mono ?_
  rintro r w' ⟨rfl, hw⟩
  rw [hw]
  clear hw kN hfa w'
  have kN := hfb w
  go_wp2_with fail
  refine kN.mono ?_
  rintro r w1 ⟨rfl, hb1⟩
  have HB : Hid (Below w.heap.size w w1 ∧ Below w.heap.size w w1.drew) := ⟨hb1, hb1.drew⟩
  clear hb1 kN hfb
  rcases HF.out.2 with h | h
  · have hr := h w1
    clear h
    go_wp2_with fail
    go_ret
    exact ⟨_, rfl, lk.refl HF.out.1, HB.out.1⟩
  · obtain ⟨n, hn, hr⟩ := h w1
    have HN : Hid (lk n F) := hn
    clear hn h
    go_wp2_with fail
    go_ret
    exact ⟨_, rfl, HN.out, HB.out.2⟩
theorem pdiv_no (a b : Nat) (m : Int) (w : World) (hm : isM m = false) : Calls Tryz.prog 43 #[.float .f64 a, .float .f64 b, .int .i64 m] w fun r w' => r = .returned (.float .f64 9221120237041090561) ∧ Below w.heap.size w w' := by
  have kV := pvalid m w
  rw [hm] at kV
  go_enter Tryz.func43, Tryz.ntmps43
  go_wp2_with fail
  refine kV.mono ?_
  rintro r w' ⟨rfl, hw⟩
  rw [hw]
  clear hw kV w'
  have kN := Ie.c52 w
  go_wp2_with fail
  refine kN.mono ?_
  rintro r w' ⟨rfl, hw⟩
  rw [hw]
  clear hw kN w'
  go_wp2_with fail
  go_ret
  exact ⟨rfl, Below.refl _ _⟩
set_option maxRecDepth 200000 in
theorem pdiv_na (a b F : Nat) (m : Int) (w : World) (hm : isM m = true) (hfa : ∀ W, Calls Tryz.prog 82 #[.float .f64 a] W fun r w' => r = .returned (.bool false) ∧ Below W.heap.size W w') (h : Rn .quo a b F) (hF : F < 18446744073709551616) :
    Calls Tryz.prog 43 #[.float .f64 a, .float .f64 b, .int .i64 m] w fun r w' => OutF2 w F r w' := by
  have kV := pvalid m w
  rw [hm] at kV
  have HF : Hid (F < 18446744073709551616 ∧ Rn .quo a b F) := ⟨hF, h⟩
  clear hF h
  go_enter Tryz.func43, Tryz.ntmps43
  go_wp2_with fail
  refine kV.mono ?_
  rintro r w' ⟨rfl, hw⟩
  rw [hw]
  clear hw kV w'
  have kN := hfa w
  go_wp2_with fail
  refine kN.mono ?_
  rintro r w1 ⟨rfl, hb1⟩
  have HB : Hid (Below w.heap.size w w1 ∧ Below w.heap.size w w1.drew) := ⟨hb1, hb1.drew⟩
  clear hb1 kN hfa
  rcases HF.out.2 with h | h
  · have hr := h w1
    clear h
    go_wp2_with fail
    go_ret
    exact ⟨_, rfl, lk.refl HF.out.1, HB.out.1⟩
  · obtain ⟨n, hn, hr⟩ := h w1
    have HN : Hid (lk n F) := hn
    clear hn h
    go_wp2_with fail
    go_ret
    exact ⟨_, rfl, HN.out, HB.out.2⟩
set_option maxRecDepth 200000 in
theorem pdiv_nb (a b F : Nat) (m : Int) (w : World) (hm : isM m = true) (hfa : ∀ W, Calls Tryz.prog 82 #[.float .f64 a] W fun r w' => r = .returned (.bool true) ∧ w' = W) (hfb : ∀ W, Calls Tryz.prog 82 #[.float .f64 b] W fun r w' => r = .returned (.bool false) ∧ Below W.heap.size W w') (h : Rn .quo a b F) (hF : F < 18446744073709551616) :
    Calls Tryz.prog 43 #[.float .f64 a, .float .f64 b, .int .i64 m] w fun r w' => OutF2 w F r w' := by
  have kV := pvalid m w
  rw [hm] at kV
  have HF : Hid (F < 18446744073709551616 ∧ Rn .quo a b F) := ⟨hF, h⟩
  clear hF h
  go_enter Tryz.func43, Tryz.ntmps43
  go_wp2_with fail
  refine kV.mono ?_
  rintro r w' ⟨rfl, hw⟩
  rw [hw]
  clear hw kV w'
  have kN := hfa w
  go_wp2_with fail
  refine kN.mono ?_
  rintro r w' ⟨rfl, hw⟩
  rw [hw]
  clear hw kN hfa w'
  have kN := hfb w
  go_wp2_with fail
  refine kN.mono ?_
  rintro r w1 ⟨rfl, hb1⟩
  have HB : Hid (Below w.heap.size w w1 ∧ Below w.heap.size w w1.drew) := ⟨hb1, hb1.drew⟩
  clear hb1 kN hfb
  rcases HF.out.2 with h | h
  · have hr := h w1
    clear h
    go_wp2_with fail
    go_ret
    exact ⟨_, rfl, lk.refl HF.out.1, HB.out.1⟩
  · obtain ⟨n, hn, hr⟩ := h w1
    have HN : Hid (lk n F) := hn
    clear hn h
    go_wp2_with fail
    go_ret
    exact ⟨_, rfl, HN.out, HB.out.2⟩
set_option maxRecDepth 200000 in
theorem pmul_r (a b F : Nat) (m : Int) (ta tb t3 : Bool × Nat × Int) (w : World) (hm : isM m = true)
    (hfa : ∀ W, Calls Tryz.prog 82 #[.float .f64 a] W fun r w' => r = .returned (.bool true) ∧ w' = W)
    (hfb : ∀ W, Calls Tryz.prog 82 #[.float .f64 b] W fun r w' => r = .returned (.bool true) ∧ w' = W)
    (kA : Calls Tryz.prog 85 #[.float .f64 a] w fun r w' => OutA w ta r w')
    (kB : ∀ W, Below w.heap.size w W → Calls Tryz.prog 85 #[.float .f64 b] W fun r w' => OutA W tb r w')
    (kC : ∀ W X Y, Below w.heap.size w W → PN W X ta → PN W Y tb → Calls Tryz.prog 84 #[X, Y] W fun r w' => OutA W t3 r w')
    (kR : ∀ W X, Below w.heap.size w W → PN W X t3 → Calls Tryz.prog 83 #[X, .int .i64 m] W fun r w' => r = .returned (.float .f64 F) ∧ Below W.heap.size W w') :
    Calls Tryz.prog 36 #[.float .f64 a, .float .f64 b, .int .i64 m] w fun r w' => r = .returned (.float .f64 F) ∧ Below w.heap.size w w' := by
  have kV := pvalid m w
  rw [hm] at kV
  have HKB : Hid _ := kB
  have HKC : Hid _ := kC
  have HKR : Hid _ := kR
  clear kB kC kR
  go_enter Tryz.func36, Tryz.ntmps36
  go_wp2_with fail
  refine kV.mono ?_
  rintro r w' ⟨rfl, hw⟩
  rw [hw]
  clear hw kV
  have kN := hfa w
  go_wp2_with fail
  refine kN.mono ?_
  rintro r w' ⟨rfl, hw⟩
  rw [hw]
  clear hw kN hfa
  have kN := hfb w
  go_wp2_with fail
  refine kN.mono ?_
  rintro r w' ⟨rfl, hw⟩
  rw [hw]
  clear hw kN hfb
  go_wp2_with fail
  refine kA.mono ?_
  rintro r w1 ⟨s1, ao1, n1, cap1, ex1, rfl, hP1, hb1⟩
  have k2 := HKB.out w1 hb1
  clear kA
  go_wp2_with fail
  refine k2.mono ?_
  rintro r w2 ⟨s2, ao2, n2, cap2, ex2, rfl, hP2, hb2⟩
  have HB2 : Hid (Below w.heap.size w w2) := hb1.trans (hb2.mono hb1.size)
  have k3 := HKC.out w2 _ _ HB2.out (hP1.later hb2) hP2
  clear k2 hP1 hP2 hb1 hb2
  go_wp2_with fail
  refine k3.mono ?_
  rintro r w3 ⟨s3, ao3, n3, cap3, ex3, rfl, hP3, hb3⟩
  have HB3 : Hid (Below w.heap.size w w3) := HB2.out.trans (hb3.mono HB2.out.size)
  have k4 := HKR.out w3 _ HB3.out hP3
  clear k3 hb3 hP3
  go_wp2_with fail
  refine k4.mono ?_
  rintro r w4 ⟨rfl, hb4⟩
  have HB4 : Hid (Below w.heap.size w w4) := HB3.out.trans (hb4.mono HB3.out.size)
  clear k4 hb4
  go_wp2_with fail
  go_ret
  exact ⟨rfl, HB4.out⟩
theorem tM_okR (a b : Nat) : okR (!((tF a).1 == (tF b).1)) ((tF a).2.1 * (tF b).2.1) ((tF a).2.2 + (tF b).2.2) = true := (Fits.mul (tF_fits a) (tF_fits b)).ok (by omega) (by omega) (by omega)
theorem mulX_lt {a b : Nat} : mulX a b < 18446744073709551616 := by
  unfold mulX
  repeat' split
  all_goals first | decide | exact (by unfold sig; split <;> decide)
theorem divX_lt {a b : Nat} : divX a b < 18446744073709551616 := by
  unfold divX
  repeat' split
  all_goals first | decide | exact (by unfold sig; split <;> decide)
def fMul (a b : Nat) (m : Int) : Nat := if isM m = false then 9221120237041090560 else if pln a = false ∨ pln b = false then mulX a b else tfF (tM (tF a) (tF b)).1 true (tM (tF a) (tF b)).2.1 (tM (tF a) (tF b)).2.2 m
def fDiv (a b : Nat) (m : Int) : Nat := if isM m = false then 9221120237041090560 else if pln a = false ∨ pln b = false then divX a b else rtF (tF a) (tF b) m
theorem tfM_lt (ex : Bool) (x : Nat) : tfM ex x < 18446744073709551616 := by
  have h1 : x < 2 ^ (tfD x + 64) := Nat.lt_of_lt_of_le (lt_bl x) (Nat.pow_le_pow_right (by decide) (by unfold tfD; omega))
  rw [Nat.pow_add] at h1
  have h2 : x / 2 ^ tfD x < 2 ^ 64 := Nat.div_lt_of_lt_mul h1
  have h3 : x / 2 ^ tfD x ||| 1 < 2 ^ 64 := Nat.or_lt_two_pow h2 (by decide)
  unfold tfM
  split
  · exact h2
  · exact h3
theorem tfF_lt' {s ex : Bool} {x : Nat} {e m : Int} (hm : 1 ≤ m ∧ m ≤ 3) : tfF s ex x e m < 18446744073709551616 := by
  unfold tfF Ie.mk
  rw [if_pos (by omega)]
  refine sig_lt ?_
  split
  · omega
  · rename_i h0
    have := Ie.bod_bounds (tfM ex x) (e + (tfD x : Int)) (Ie.wy s m) (tfM_lt ex x) h0
    omega
theorem rtF_lt {t1 t2 : Bool × Nat × Int} {m : Int} (hm : 1 ≤ m ∧ m ≤ 3) : rtF t1 t2 m < 18446744073709551616 := tfF_lt' hm
theorem fMul_lt {a b : Nat} {m : Int} : fMul a b m < 18446744073709551616 := by
  unfold fMul
  split
  · decide
  · rename_i h
    split
    · exact mulX_lt
    · exact tfF_lt (isM_iff.1 (by simpa using h))
theorem fDiv_lt {a b : Nat} {m : Int} : fDiv a b m < 18446744073709551616 := by
  unfold fDiv
  split
  · decide
  · rename_i h
    split
    · exact divX_lt
    · exact rtF_lt (isM_iff.1 (by simpa using h))
theorem pmul_all (a b : Nat) (m : Int) (ha : a < 18446744073709551616) (hb : b < 18446744073709551616) (w : World) (hT : Tab32 w) (hI : Ie.Tab w) :
    Calls Tryz.prog 36 #[.float .f64 a, .float .f64 b, .int .i64 m] w fun r w' => OutF2 w (fMul a b m) r w' := by
  unfold fMul
  cases hm : isM m
  · rw [if_pos rfl]
    refine (pmul_no a b m w hm).mono ?_
    rintro r w' ⟨rfl, hb⟩
    exact ⟨_, rfl, lk.nan (by decide) (by decide) (by decide), hb⟩
  · rw [if_neg (by decide)]
    have hm' := isM_iff.1 hm
    by_cases hp : pln a = false ∨ pln b = false
    · rw [if_pos hp]
      have hr : Rn .mul a b (mulX a b) := rn_of (by simp) (mul_non ha hb hp)
      cases h : pln a
      · exact pmul_na a b _ m w hm (pplain_f a ha h) hr mulX_lt
      · exact pmul_nb a b _ m w hm (pplain_t a ha h) (pplain_f b hb (by rcases hp with h' | h'; rw [h] at h'; cases h'; exact h')) hr mulX_lt
    · rw [if_neg hp]
      have pa : pln a = true := by cases h : pln a; exact absurd (.inl h) hp; rfl
      have pb : pln b = true := by cases h : pln b; exact absurd (.inr h) hp; rfl
      have hok : Ok (tM (tF a) (tF b)) := tM_ok (tM_okR a b)
      refine (pmul_r a b _ m (tF a) (tF b) (tM (tF a) (tF b)) w hm (pplain_t a ha pa) (pplain_t b hb pb) (exact_ok a ha (pln_true.1 pa).1 w hT hI) (fun W h => exact_ok b hb (pln_true.1 pb).1 W (hT.later h) (Tab.later hI h)) (fun W X Y h h1 h2 => multiplied_op (mul_op (tF_ok a) (tF_ok b) (tM_okR a b)) (hT.later h) h1 h2) (fun W X h h1 => prounded (hT.later h) hok h1 hm')).mono ?_
      rintro r w' ⟨rfl, hb'⟩
      exact ⟨_, rfl, lk.refl (tfF_lt hm'), hb'⟩
theorem pdiv_all (a b : Nat) (m : Int) (ha : a < 18446744073709551616) (hb : b < 18446744073709551616) (w : World) (hT : Tab32 w) (hI : Ie.Tab w) :
    Calls Tryz.prog 43 #[.float .f64 a, .float .f64 b, .int .i64 m] w fun r w' => OutF2 w (fDiv a b m) r w' := by
  unfold fDiv
  cases hm : isM m
  · rw [if_pos rfl]
    refine (pdiv_no a b m w hm).mono ?_
    rintro r w' ⟨rfl, hb⟩
    exact ⟨_, rfl, lk.nan (by decide) (by decide) (by decide), hb⟩
  · rw [if_neg (by decide)]
    have hm' := isM_iff.1 hm
    by_cases hp : pln a = false ∨ pln b = false
    · rw [if_pos hp]
      have hr : Rn .quo a b (divX a b) := rn_of (by simp) (div_non ha hb hp)
      cases h : pln a
      · exact pdiv_na a b _ m w hm (pplain_f a ha h) hr divX_lt
      · exact pdiv_nb a b _ m w hm (pplain_t a ha h) (pplain_f b hb (by rcases hp with h' | h'; rw [h] at h'; cases h'; exact h')) hr divX_lt
    · rw [if_neg hp]
      have pa : pln a = true := by cases h : pln a; exact absurd (.inl h) hp; rfl
      have pb : pln b = true := by cases h : pln b; exact absurd (.inr h) hp; rfl
      refine (pdiv_ok a b m w hm hT hI ha hb (pln_true.1 pa).1 (pln_true.1 pb).1 (pln_true.1 pa).2 (pln_true.1 pb).2 (tF_ne (pln_true.1 pa).2) (tF_ne (pln_true.1 pb).2)).mono ?_
      rintro r w' ⟨rfl, hb'⟩
      exact ⟨_, rfl, lk.refl (rtF_lt hm'), hb'⟩
end Go.Proofs.YtcoclopllbfjcaaGreatDoor
namespace Go.Proofs.YtcoclopllbfjcaaGreatDoor
set_option linter.unusedVariables false
set_option linter.unusedSimpArgs false
open Go.RowKit Go.Fl64
open Ie
theorem bl_shl' {x k : Nat} (h : x ≠ 0) : bl (x * 2 ^ k) = bl x + k := by
  have h1 := lt_bl x
  have h2 := le_bl h
  have hb := bl_ne h
  have a : bl (x * 2 ^ k) ≤ bl x + k := (bl_le _ _).2 (by rw [Nat.pow_add]; exact Nat.mul_lt_mul_of_pos_right h1 (Nat.two_pow_pos k))
  have b : bl x + k - 1 + 1 ≤ bl (x * 2 ^ k) := bl_ge.2 (by rw [show bl x + k - 1 = bl x - 1 + k by omega, Nat.pow_add]; exact Nat.mul_le_mul_right _ h2)
  omega
theorem bl_one : bl 1 = 1 := by rfl
theorem rto_one {W : World} {g : Nat} {s : Bool} {e m : Int} (h : At W (some ⟨g, 0, none⟩) 1 1) (he1 : -4000000 ≤ e) (he2 : e ≤ 4000000) (hm : 1 ≤ m ∧ m ≤ 3) :
    Calls Tryz.prog 66 #[.agg #[.bool s, .slice (some ⟨g, 0, none⟩) 1 1, .int .i64 e], .int .i64 m] W fun r w' => r = .returned (.float .f64 (tfF s true 1 e m)) ∧ Below W.heap.size W w' := by
  have := rto (neg := s) (uc := 1) (x := 1) (ea := e) (m := m) (by rw [dlen_one]; exact h) (by rw [dlen_one]; exact Nat.le_refl _) rfl (by rw [dlen_one]; omega) he1 he2 hm
  rw [← tf_bdy hm, dlen_one] at this
  exact this
end Go.Proofs.YtcoclopllbfjcaaGreatDoor
namespace Go.Proofs.YtcoclopllbfjcaaGreatDoor
set_option linter.unusedVariables false
set_option linter.unusedSimpArgs false
open Go.RowKit Go.Fl64
set_option maxRecDepth 200000 in
theorem xtimes_1 (na nb sg : Bool) (ua va : Option Addr) (un uc vn vc x y : Nat) (ea eb : Int) (w : World) (h1 : Ir w (.slice ua un uc) x) (h2 : Ir w (.slice va vn vc) y) (hx : dlen x ≤ 400000) (hy : dlen y ≤ 400000) (he1 : -4000000 ≤ ea) (he2 : ea ≤ 4000000) (he3 : -4000000 ≤ eb) (he4 : eb ≤ 4000000) (hsg : (!(na == nb)) = sg) :
    Calls Tryz.prog 28 #[.agg #[.bool na, .slice ua un uc, .int .i64 ea], .agg #[.bool nb, .slice va vn vc, .int .i64 eb]] w fun r w' => ∃ a, r = .returned a ∧ NC w' w.heap.size a sg (x * y) (ea + eb) ∧ Below w.heap.size w w' := by
  obtain ⟨W, hW⟩ : ∃ W, W = ((w.alloc (.cells #[.bool na, .slice ua un uc, .int .i64 ea] 45)).alloc (.cells #[.bool nb, .slice va vn vc, .int .i64 eb] 45)).alloc (.cells #[.bool false, .slice none 0 0, .int .i64 0] 45) := ⟨_, rfl⟩
  obtain ⟨hA, hBb, hC, hsz, hBW⟩ := boxes3 _ _ _ hW
  have hxy : dlen (x * y) ≤ 1000000 := by
    have l1 := (dlen_le (dlen x) x).1 (Nat.le_refl _)
    have l2 := (dlen_le (dlen y) y).1 (Nat.le_refl _)
    have : dlen (x * y) ≤ dlen x + dlen y := (dlen_le _ _).2 (by
      rw [Nat.pow_add]
      rcases Nat.eq_zero_or_pos x with h | h
      · rw [h, Nat.zero_mul]; exact Nat.mul_pos (Bpow_pos _) (Bpow_pos _)
      · exact Nat.mul_lt_mul_of_lt_of_le l1 (Nat.le_of_lt l2) (Bpow_pos _))
    omega
  have HH : Hid (W.heap[w.heap.size + 1 + 1]? = some (.cells #[.bool false, .slice none 0 0, .int .i64 0] 45 (0, 0)) ∧ W.heap.size = w.heap.size + 1 + 1 + 1 ∧ Below w.heap.size w W) := ⟨hC, hsz, hBW⟩
  have k78 : ∀ w4, Below W.heap.size W w4 → Calls Tryz.prog 73 #[.slice ua un uc, .slice va vn vc] w4 fun r w' => ∃ v, r = .returned v ∧ Own w' W.heap.size v (x * y) ∧ Below W.heap.size W w' := fun w4 hb =>
    (rprod ((h1.later hBW).later hb) ((h2.later hBW).later hb) (by omega) (by omega)).mono fun r w' ⟨v, e1, o1, o2⟩ => ⟨v, e1, o1.mono hb.size, hb.trans (o2.mono hb.size)⟩
  have k31 : ∀ v5 w5, Own w5 W.heap.size v5 (x * y) → Below W.heap.size W w5 → Calls Tryz.prog 64 #[.bool sg, v5, .int .i64 (ea + eb)] w5 fun r w' => ∃ s ao n cap ex, r = .returned (.agg #[.bool s, .slice ao n cap, .int .i64 ex]) ∧
      Hid (NC w' w5.heap.size (.agg #[.bool s, .slice ao n cap, .int .i64 ex]) sg (x * y) (ea + eb) ∧ W.heap.size ≤ w5.heap.size) ∧ Below W.heap.size W w' ∧ Hid (w'.heap[w.heap.size + 1 + 1]? = some (.cells #[.bool false, .slice none 0 0, .int .i64 0] 45 (0, 0))) ∧
      (w'.cell? ⟨w.heap.size + 1 + 1, 0, none⟩ = some (.bool false) ∧ w'.cell? ⟨w.heap.size + 1 + 1, 1, none⟩ = some (.slice none 0 0) ∧ w'.cell? ⟨w.heap.size + 1 + 1, 2, none⟩ = some (.int .i64 0)) ∧ (w'.frozen? ⟨w.heap.size + 1 + 1, 0, none⟩ = false ∧ w'.frozen? ⟨w.heap.size + 1 + 1, 1, none⟩ = false ∧ w'.frozen? ⟨w.heap.size + 1 + 1, 2, none⟩ = false) := by
    intro v5 w5 ho hb
    obtain ⟨ao0, cap0, rfl, hl0, -, hat0⟩ := ho.is
    refine (rnormN hat0 (Nat.le_refl _) hl0 (by omega) (by omega)).mono ?_
    rintro r w6 ⟨a, rfl, hN, hb6⟩
    obtain ⟨s, ao, n, cap, ex, rfl⟩ := hN.shape
    have hb46 : Below W.heap.size W w6 := hb.trans (hb6.mono hb.size)
    have hblk := box_later HH.out.1 hb46 (by have := HH.out.2.1; omega)
    obtain ⟨f1, f2⟩ := box_cells29 hblk
    exact ⟨s, ao, n, cap, ex, rfl, ⟨hN, hb.size⟩, hb46, hblk, f1, f2⟩
  obtain ⟨⟨a0, a1, a2⟩, -⟩ := box_cells29 hA
  obtain ⟨⟨b0, b1, b2⟩, -⟩ := box_cells29 hBb
  have HK : Hid (∀ w', Below W.heap.size W w' → ((w'.cell? ⟨w.heap.size, 0, none⟩ = some (.bool na) ∧ w'.cell? ⟨w.heap.size, 1, none⟩ = some (.slice ua un uc) ∧ w'.cell? ⟨w.heap.size, 2, none⟩ = some (.int .i64 ea)) ∧ (w'.cell? ⟨w.heap.size + 1, 0, none⟩ = some (.bool nb) ∧ w'.cell? ⟨w.heap.size + 1, 1, none⟩ = some (.slice va vn vc) ∧ w'.cell? ⟨w.heap.size + 1, 2, none⟩ = some (.int .i64 eb)))) := fun w' hb => ⟨(box_cells29 (box_later hA hb (by omega))).1, (box_cells29 (box_later hBb hb (by omega))).1⟩
  have HK2 : Hid (∀ w', Below (w.heap.size + 1 + 1) W w' → ((w'.cell? ⟨w.heap.size, 0, none⟩ = some (.bool na) ∧ w'.cell? ⟨w.heap.size, 1, none⟩ = some (.slice ua un uc) ∧ w'.cell? ⟨w.heap.size, 2, none⟩ = some (.int .i64 ea)) ∧ (w'.cell? ⟨w.heap.size + 1, 0, none⟩ = some (.bool nb) ∧ w'.cell? ⟨w.heap.size + 1, 1, none⟩ = some (.slice va vn vc) ∧ w'.cell? ⟨w.heap.size + 1, 2, none⟩ = some (.int .i64 eb)))) := fun w' hb => ⟨(box_cells29 (box_later hA hb (by omega))).1, (box_cells29 (box_later hBb hb (by omega))).1⟩
  have HS2 : Hid (w.heap.size + 1 + 1 ≤ W.heap.size) := (by omega : w.heap.size + 1 + 1 ≤ W.heap.size)
  have hBR : Below W.heap.size W W.drew := (Below.refl _ _).drew
  have wz : IntKind.i64.wrap (ea + eb) = ea + eb := by rw [IntKind.wrap_i64]; omega
  clear hA hBb hC hsz hBW h1 h2 hx hy hxy
  go_enter Tryz.func28, Tryz.ntmps28
  go_upto_region 1 with fail
  rw [← hW]
  clear hW
  go_region_held3 (fun w' => ((w'.cell? ⟨w.heap.size, 0, none⟩ = some (.bool na) ∧ w'.cell? ⟨w.heap.size, 1, none⟩ = some (.slice ua un uc) ∧ w'.cell? ⟨w.heap.size, 2, none⟩ = some (.int .i64 ea)) ∧ (w'.cell? ⟨w.heap.size + 1, 0, none⟩ = some (.bool nb) ∧ w'.cell? ⟨w.heap.size + 1, 1, none⟩ = some (.slice va vn vc) ∧ w'.cell? ⟨w.heap.size + 1, 2, none⟩ = some (.int .i64 eb)))) (first | (with_reducible assumption) | exact ⟨⟨a0, a1, a2⟩, b0, b1, b2⟩ | (refine HK.out _ ?_; with_reducible assumption) | (refine HK2.out _ (below_store3 (Below.mono hb6 HS2.out) (Nat.le_refl _) _ _ _)) | go_keep)
    (first | (go_at_call 73; refine (k78 _ (by first | (with_reducible assumption) | exact hBR)).mono ?_; rintro r w5 ⟨v5, rfl, ho5, hb5⟩) | (go_at_call 64; (try simp only [hsg, wz]); refine (k31 _ _ ho5 hb5).mono ?_; rintro r w6 ⟨s6, ao6, n6, cap6, ex6, rfl, hN6, hb6, hblk6, ⟨x1, x2, x3⟩, x4, x5, x6⟩))
  have HF : Hid (Below W.heap.size W w6) := hb6
  clear ho5 hb5 hb6 k31 k78 x1 x2 x3 x4 x5 x6 a0 a1 a2 b0 b1 b2 HK HK2
  go_wp2
  refine bodyPost_ret (results_cell_row rfl _ _ (w.heap.size + 1 + 1) 45 #[.bool s6, .slice ao6 n6 cap6, .int .i64 ex6] (0, 0) _ rfl (store3_29 _ _ _ hblk6.out) Tryz.underlying45 rfl Tryz.info45) rfl ?_
  obtain ⟨-, hs, hBW⟩ := HH.out
  have hs5 := hN6.out.2
  exact ⟨_, rfl, (hN6.out.1.store (by omega) _ _ _).mono (by omega), below_store3 (hBW.trans (HF.out.mono hBW.size)) (by omega) _ _ _⟩
end Go.Proofs.YtcoclopllbfjcaaGreatDoor
namespace Go.Proofs.YtcoclopllbfjcaaGreatDoor
set_option linter.unusedVariables false
set_option linter.unusedSimpArgs false
open Go.RowKit Go.Fl64
theorem bl_root_lo {N q : Nat} (h : N < (q + 1) * (q + 1)) : bl N ≤ 2 * bl q := by
  refine (bl_le _ _).2 (Nat.lt_of_lt_of_le h ?_)
  rw [four_two]
  exact Nat.mul_le_mul (lt_bl q) (lt_bl q)
theorem bl_root_hi {N q : Nat} (h : q * q ≤ N) (hq : q ≠ 0) : 2 * bl q ≤ bl N + 1 := by
  have h1 := le_bl hq
  have b1 := bl_ne hq
  have h2 : 2 ^ (2 * (bl q - 1)) ≤ N := by
    rw [four_two]
    exact Nat.le_trans (Nat.mul_le_mul h1 h1) h
  have h3 := (Nat.pow_lt_pow_iff_right (by omega : 1 < 2)).1 (Nat.lt_of_le_of_lt h2 (lt_bl N))
  omega
theorem bl_rtQ {x : Nat} {ea P : Int} (hx : x ≠ 0) (h : 0 ≤ (bl x : Int) + ea + 2 * P) : (bl (rtQ x ea P) : Int) = bl x + ea + 2 * P := by
  have hb := bl_ne hx
  unfold rtQ
  by_cases hn : 0 ≤ ea + 2 * P
  · rw [if_pos hn, bl_shl' hx]; omega
  · rw [if_neg hn]
    by_cases he : (bl x : Int) + ea + 2 * P = 0
    · have : x / 2 ^ (-(ea + 2 * P)).toNat = 0 := by
        refine Nat.div_eq_of_lt ?_
        have := lt_bl x
        rw [show (-(ea + 2 * P)).toNat = bl x by omega]
        exact this
      rw [this, he]; rfl
    · rw [bl_div (by omega)]; omega
theorem rt_ne {x s : Nat} {ea P : Int} (hx : x ≠ 0) (h : (decide (s * s = rtQ x ea P) && rtW x ea P) = true) : s ≠ 0 := by
  rintro rfl
  simp only [Bool.and_eq_true, decide_eq_true_eq, Nat.mul_zero] at h
  obtain ⟨h1, h2⟩ := h
  unfold rtQ at h1
  unfold rtW at h2
  by_cases hn : 0 ≤ ea + 2 * P
  · rw [if_pos hn] at h1
    exact Nat.mul_ne_zero hx (Nat.pos_iff_ne_zero.1 (Nat.two_pow_pos _)) h1.symm
  · rw [if_neg hn] at h1
    rw [decide_eq_false hn, Bool.false_or] at h2
    have h3 := of_decide_eq_true h2
    have := Nat.div_add_mod x (2 ^ (-(ea + 2 * P)).toNat)
    rw [h3, ← h1] at this
    omega
theorem rt_len {x s : Nat} {ea P : Int} (hx : dlen x ≤ 2048) (h : s * s ≤ rtQ x ea P) (h1 : ea + 2 * P ≤ 70000) : dlen s ≤ 20000 := by
  have h2 : rtQ x ea P ≤ x * 2 ^ (ea + 2 * P).toNat := by
    unfold rtQ
    split
    · exact Nat.le_refl _
    · exact Nat.le_trans (Nat.div_le_self _ _) (Nat.le_mul_of_pos_right x (Nat.two_pow_pos _))
  have h3 : s ≤ s * s := by
    rcases Nat.eq_zero_or_pos s with rfl | h
    · exact Nat.le_refl _
    · exact Nat.le_mul_of_pos_right s h
  have h4 := dlen_mono (Nat.le_trans h3 (Nat.le_trans h h2))
  have := shl_len (x := x) (k := (ea + 2 * P).toNat) rfl
  omega
theorem rt_key {x k q s : Nat} {ea P h2 m t : Int} (hm : 1 ≤ m ∧ m ≤ 3) (hx0 : x ≠ 0) (hk : ea - k = 2 * h2) (a1 : q * q ≤ x * 2 ^ k) (a2 : x * 2 ^ k < (q + 1) * (q + 1)) (hN : 128 ≤ bl x + k) (ht : (bl x : Int) + ea = t) (hP : (P = 120 ∧ 0 < t) ∨ (P = 1200 ∧ -2400 ≤ t ∧ t ≤ 0)) (b1 : s * s ≤ rtQ x ea P) (b2 : rtQ x ea P < (s + 1) * (s + 1)) :
    (if (decide (s * s = rtQ x ea P) && rtW x ea P) then tfF false true s (-P) m else tfF false true (2 * s + 1) (-(P + 1)) m) = tfF false (decide (q * q = x * 2 ^ k)) q h2 m := by
  have hB : bl (x * 2 ^ k) = bl x + k := bl_shl' hx0
  have q1 := bl_root_lo a2
  have h64 : 64 ≤ bl q := by omega
  have hq0 : q ≠ 0 := fun e => by rw [e] at h64; simp [bl] at h64
  have q2 := bl_root_hi a1 hq0
  have hR := bl_rtQ (x := x) (ea := ea) (P := P) hx0 (by omega)
  have s1 := bl_root_lo b2
  by_cases hs : 64 ≤ bl s
  · rw [sqrt_eq hm hk a1 a2 b1 b2 h64 hs]
    cases (decide (s * s = rtQ x ea P) && rtW x ea P)
    · rw [if_neg (by decide), tf_sticky hs, show -P - 1 = -(P + 1) by omega]
    · rw [if_pos rfl]
  · cases hdc : (decide (s * s = rtQ x ea P) && rtW x ea P)
    · rw [if_neg (by decide)]
      refine (tf_tiny hm (.inl h64) (by omega) (by omega) ?_).symm
      by_cases hz : s = 0
      · rw [hz, Nat.mul_zero, Nat.zero_add, bl_one]; omega
      · rw [bl_two hz]; omega
    · rw [if_pos rfl]
      exact (tf_tiny hm (.inl h64) (rt_ne hx0 hdc) (by omega) (by omega)).symm
theorem rsqrtto {na : Bool} {ua : Option Addr} {uc x k q : Nat} {ea m h2 : Int} {w : World} (h1 : Arg w ua (dlen x) uc x) (hx : dlen x ≤ 2048) (ha : -65536 ≤ ea ∧ ea ≤ 65536) (hx0 : x ≠ 0) (hm : 1 ≤ m ∧ m ≤ 3) (hk : ea - k = 2 * h2) (a1 : q * q ≤ x * 2 ^ k) (a2 : x * 2 ^ k < (q + 1) * (q + 1)) (hN : 128 ≤ bl x + k) :
    Calls Tryz.prog 59 #[.agg #[.bool na, .slice ua (dlen x) uc, .int .i64 ea], .int .i64 m] w fun r w' => r = .returned (.float .f64 (tfF false (decide (q * q = x * 2 ^ k)) q h2 m)) ∧ Below w.heap.size w w' := by
  have hB : bl (x * 2 ^ k) = bl x + k := bl_shl' hx0
  have q1 := bl_root_lo a2
  have h64 : 64 ≤ bl q := by omega
  have hq0 : q ≠ 0 := fun e => by rw [e] at h64; simp [bl] at h64
  have q2 := bl_root_hi a1 hq0
  have hn0 : ((dlen x : Int) == 0) = false := len_ne (n := 0) hx0
  have kH := fun W (hW : Below w.heap.size w W) => rhigh (neg := na) (cap := uc) (e := ea) (h1.later hW).at_ hx0 (by omega) ⟨by omega, by omega⟩
  by_cases hb1 : 2200 < (bl x : Int) + ea
  · rw [tf_big (s := false) (y := 1) (f := 1100) hm (.inl h64) (by omega) (by omega) (by rw [bl_one]; omega)]
    exact rsqrtto_b na ua _ uc _ ea m _ w hn0 hb1 kH (fun g W hW hA => rto_one hA (by omega) (by omega) hm)
  · by_cases hb2 : (bl x : Int) + ea < -2400
    · rw [tf_tiny (s := false) (y := 1) (f := -1200) hm (.inl h64) (by omega) (by omega) (by rw [bl_one]; omega)]
      exact rsqrtto_t na ua _ uc _ ea m _ w hn0 hb2 kH (fun g W hW hA => rto_one hA (by omega) (by omega) hm)
    · by_cases hp : 0 < (bl x : Int) + ea
      · refine rsqrtto_p na ua _ uc _ ea m _ (fun s => decide (s * s = rtQ x ea 120) && rtW x ea 120) (fun s => s * s ≤ rtQ x ea 120 ∧ rtQ x ea 120 < (s + 1) * (s + 1)) w hn0 (by omega) (by omega) hp kH (fun W hW => ?_) (fun W A s hW hC hs => ?_)
        · exact (rrootof (na := na) (h1.later hW).at_ h1.le (by omega) ⟨by omega, by omega⟩ ⟨by omega, by omega⟩).mono fun r w' ⟨A, s, e1, e2, e3, e4, e5⟩ => ⟨A, s, e1, e2, ⟨e3, e4⟩, e5⟩
        · rw [← rt_key (P := 120) hm hx0 hk a1 a2 hN rfl (.inl ⟨rfl, hp⟩) hs.1 hs.2]
          exact rbetween (s := false) (P := 120) hC (rt_ne hx0) (rt_len hx hs.1 (by omega)) (by omega) (by omega) hm
      · refine rsqrtto_n na ua _ uc _ ea m _ (fun s => decide (s * s = rtQ x ea 1200) && rtW x ea 1200) (fun s => s * s ≤ rtQ x ea 1200 ∧ rtQ x ea 1200 < (s + 1) * (s + 1)) w hn0 (by omega) (by omega) (by omega) kH (fun W hW => ?_) (fun W A s hW hC hs => ?_)
        · exact (rrootof (na := na) (h1.later hW).at_ h1.le (by omega) ⟨by omega, by omega⟩ ⟨by omega, by omega⟩).mono fun r w' ⟨A, s, e1, e2, e3, e4, e5⟩ => ⟨A, s, e1, e2, ⟨e3, e4⟩, e5⟩
        · rw [← rt_key (P := 1200) hm hx0 hk a1 a2 hN rfl (.inr ⟨rfl, by omega, by omega⟩) hs.1 hs.2]
          exact rbetween (s := false) (P := 1200) hC (rt_ne hx0) (rt_len hx hs.1 (by omega)) (by omega) (by omega) hm
theorem rootEx (a : Nat) : ∃ s, s * s ≤ a ∧ a < (s + 1) * (s + 1) := by
  induction a with
  | zero => exact ⟨0, by omega, by omega⟩
  | succ n ih =>
    obtain ⟨s, h1, h2⟩ := ih
    by_cases h : n + 1 < (s + 1) * (s + 1)
    · exact ⟨s, by omega, h⟩
    · refine ⟨s + 1, by omega, ?_⟩
      have : (s + 1 + 1) * (s + 1 + 1) = (s + 1) * (s + 1) + 2 * (s + 1) + 1 := by grind
      omega
theorem sqK_even (t : Bool × Nat × Int) : t.2.2 - (sqK t : Int) = 2 * (t.2.2 - (sqK t : Int)).tdiv 2 := by
  unfold sqK
  generalize (max 0 (128 - (bl t.2.1 : Int))).toNat = k
  by_cases hod : ((t.2.2 - (k : Int)).tmod 2 != 0) = true
  · rw [if_pos hod]
    have hod' : (t.2.2 - (k : Int)).tmod 2 ≠ 0 := by simpa using hod
    have h3 := Int.mul_tdiv_add_tmod (t.2.2 - ((k + 1 : Nat) : Int)) 2
    have h5 : ¬ (2 ∣ t.2.2 - (k : Int)) := fun d => hod' (Int.tmod_eq_zero_of_dvd d)
    have h4 : (t.2.2 - ((k + 1 : Nat) : Int)).tmod 2 = 0 := Int.tmod_eq_zero_of_dvd (by omega)
    omega
  · rw [if_neg hod]
    have hod' : (t.2.2 - (k : Int)).tmod 2 = 0 := by simpa using hod
    have h3 := Int.mul_tdiv_add_tmod (t.2.2 - (k : Int)) 2
    omega
theorem sqK_big (t : Bool × Nat × Int) : 128 ≤ bl t.2.1 + sqK t := by
  unfold sqK
  split <;> omega
theorem tf_zero {e m : Int} (hm : 1 ≤ m ∧ m ≤ 3) : tfF false true 0 e m = 0 := by
  rw [tf_bdy hm]; unfold bdy; rw [if_pos rfl]; rfl
theorem lt_nought {a : Nat} (ha : a < 18446744073709551616) : (FloatKind.f64.format.order a 0 == some Ordering.lt) = (!isNaN a && neg a && decide (mag a ≠ 0)) := by
  rw [ord_lt a 0 ha (by decide)]
  unfold lt
  have nb : isNaN 0 = false := by decide
  have e0 : stp 0 = 0 := by decide
  rw [nb, e0]
  cases isNaN a
  · have : decide (stp a < 0) = (neg a && decide (mag a ≠ 0)) := by
      unfold stp sgn
      cases neg a
      · show decide ((mag a : Int) < 0) = (false && _)
        rw [decide_eq_false (by omega)]; rfl
      · show decide (-(mag a : Int) < 0) = (true && decide (mag a ≠ 0))
        by_cases h : mag a = 0
        · simp [h]
        · rw [decide_eq_true (by omega), decide_eq_true h]; rfl
    rw [this]; simp
  · rfl
theorem psq_np (a : Nat) (m : Int) (w : World) (hm : isM m = true) (hl : (FloatKind.f64.format.order a 0 == some Ordering.lt) = false) (hf : ∀ W, Calls Tryz.prog 82 #[.float .f64 a] W fun r w' => r = .returned (.bool false) ∧ Below W.heap.size W w') : Calls Tryz.prog 58 #[.float .f64 a, .int .i64 m] w fun r w' => r = .returned (.float .f64 a) ∧ Below w.heap.size w w' := by
  have kV := pvalid m w
  rw [hm] at kV
  go_enter Tryz.func58, Tryz.ntmps58
  go_wp2_with fail
  refine kV.mono ?_
  rintro r w' ⟨rfl, hw⟩
  rw [hw]
  clear hw kV w'
  have kN := hf w
  go_wp2_with fail
  refine kN.mono ?_
  rintro r w1 ⟨rfl, hb1⟩
  have HB : Hid (Below w.heap.size w w1) := hb1
  clear hb1 kN hf
  go_wp2_with fail
  go_ret
  exact ⟨rfl, HB.out⟩
theorem psq_r (a F : Nat) (m : Int) (ta : Bool × Nat × Int) (w : World) (hm : isM m = true) (hl : (FloatKind.f64.format.order a 0 == some Ordering.lt) = false) (hf : ∀ W, Calls Tryz.prog 82 #[.float .f64 a] W fun r w' => r = .returned (.bool true) ∧ w' = W)
    (kA : Calls Tryz.prog 85 #[.float .f64 a] w fun r w' => OutA w ta r w')
    (kR : ∀ W X, Below w.heap.size w W → PN W X ta → Calls Tryz.prog 105 #[X, .int .i64 m] W fun r w' => r = .returned (.tuple #[.float .f64 F, .int .i64 0]) ∧ Below W.heap.size W w') : Calls Tryz.prog 58 #[.float .f64 a, .int .i64 m] w fun r w' => r = .returned (.float .f64 F) ∧ Below w.heap.size w w' := by
  have kV := pvalid m w
  rw [hm] at kV
  have HKR : Hid _ := kR
  clear kR
  go_enter Tryz.func58, Tryz.ntmps58
  go_wp2_with fail
  refine kV.mono ?_
  rintro r w' ⟨rfl, hw⟩
  rw [hw]
  clear hw kV w'
  have kN := hf w
  go_wp2_with fail
  refine kN.mono ?_
  rintro r w' ⟨rfl, hw⟩
  rw [hw]
  clear hw kN hf w'
  go_wp2_with fail
  refine kA.mono ?_
  rintro r w1 ⟨s1, ao1, n1, cap1, ex1, rfl, hP1, hb1⟩
  have HB1 : Hid (Below w.heap.size w w1) := hb1
  have k2 := HKR.out w1 _ hb1 hP1
  clear kA hb1 hP1
  go_wp2_with fail
  refine k2.mono ?_
  rintro r w2 ⟨rfl, hb2⟩
  have HB2 : Hid (Below w.heap.size w w2) := HB1.out.trans (hb2.mono HB1.out.size)
  clear k2 hb2
  go_wp2_with fail
  go_ret
  exact ⟨rfl, HB2.out⟩
theorem tF_pos {a : Nat} (h : neg a = false) : (tF a).1 = false := by
  unfold tF cn
  split
  · rfl
  · exact h
end Go.Proofs.YtcoclopllbfjcaaGreatDoor
namespace Go.Proofs.YtcoclopllbfjcaaGreatDoor
set_option linter.unusedVariables false
set_option linter.unusedSimpArgs false
open Go.RowKit
set_option maxRecDepth 200000 in
theorem rmag_1 (na nb : Bool) (ua va : Option Addr) (un uc vn vc : Nat) (ea eb ha hb : Int) (w : World) (hn1 : ((un : Int) == 0) = false) (hn2 : ((vn : Int) == 0) = false)
    (hh1 : -64000000000 ≤ ha) (hh2 : ha ≤ 64000000000) (hh3 : -64000000000 ≤ hb) (hh4 : hb ≤ 64000000000) (hne : ha ≠ hb)
    (kA : ∀ W, Below w.heap.size w W → Calls Tryz.prog 106 #[.agg #[.bool na, .slice ua un uc, .int .i64 ea]] W fun r w' => r = .returned (.int .i64 ha) ∧ Below W.heap.size W w')
    (kB : ∀ W, Below w.heap.size w W → Calls Tryz.prog 106 #[.agg #[.bool nb, .slice va vn vc, .int .i64 eb]] W fun r w' => r = .returned (.int .i64 hb) ∧ Below W.heap.size W w') :
    Calls Tryz.prog 78 #[.agg #[.bool na, .slice ua un uc, .int .i64 ea], .agg #[.bool nb, .slice va vn vc, .int .i64 eb]] w fun r w' => r = .returned (.int .i64 (ha - hb)) ∧ Below w.heap.size w w' := by
  obtain ⟨W, hW⟩ : ∃ W, W = (w.alloc (.cells #[.bool na, .slice ua un uc, .int .i64 ea] 45)).alloc (.cells #[.bool nb, .slice va vn vc, .int .i64 eb] 45) := ⟨_, rfl⟩
  obtain ⟨hA, hBb, hsz, hBW⟩ := two29 _ _ hW
  have HX : Hid (Below w.heap.size w W) := hBW
  have kA' : ∀ w4, Below W.heap.size W w4 → Calls Tryz.prog 106 #[.agg #[.bool na, .slice ua un uc, .int .i64 ea]] w4 fun r w' => r = .returned (.int .i64 ha) ∧ Below W.heap.size W w' := fun w4 h4 => (kA w4 (hBW.trans (h4.mono hBW.size))).mono fun r w' ⟨e1, o2⟩ => ⟨e1, h4.trans (o2.mono h4.size)⟩
  have kB' : ∀ w4, Below W.heap.size W w4 → Calls Tryz.prog 106 #[.agg #[.bool nb, .slice va vn vc, .int .i64 eb]] w4 fun r w' => r = .returned (.int .i64 hb) ∧ Below W.heap.size W w' := fun w4 h4 => (kB w4 (hBW.trans (h4.mono hBW.size))).mono fun r w' ⟨e1, o2⟩ => ⟨e1, h4.trans (o2.mono h4.size)⟩
  have HKA : Hid (∀ w4, Below W.heap.size W w4 → Calls Tryz.prog 106 #[.agg #[.bool na, .slice ua un uc, .int .i64 ea]] w4 fun r w' => r = .returned (.int .i64 ha) ∧ Below W.heap.size W w') := kA'
  have HKB : Hid (∀ w4, Below W.heap.size W w4 → Calls Tryz.prog 106 #[.agg #[.bool nb, .slice va vn vc, .int .i64 eb]] w4 fun r w' => r = .returned (.int .i64 hb) ∧ Below W.heap.size W w') := kB'
  obtain ⟨⟨a0, a1, a2⟩, -⟩ := box_cells29 hA
  obtain ⟨⟨b0, b1, b2⟩, -⟩ := box_cells29 hBb
  have HK : Hid (∀ w', Below W.heap.size W w' → ((w'.cell? ⟨w.heap.size, 0, none⟩ = some (.bool na) ∧ w'.cell? ⟨w.heap.size, 1, none⟩ = some (.slice ua un uc) ∧ w'.cell? ⟨w.heap.size, 2, none⟩ = some (.int .i64 ea)) ∧ (w'.cell? ⟨w.heap.size + 1, 0, none⟩ = some (.bool nb) ∧ w'.cell? ⟨w.heap.size + 1, 1, none⟩ = some (.slice va vn vc) ∧ w'.cell? ⟨w.heap.size + 1, 2, none⟩ = some (.int .i64 eb)))) := fun w' hb => ⟨(box_cells29 (box_later hA hb (by omega))).1, (box_cells29 (box_later hBb hb (by omega))).1⟩
  have HRD : Hid (∀ w', Below W.heap.size W w' → Below W.heap.size W w'.drew) := fun w' h => h.trans ⟨rfl, rfl, rfl, Nat.le_refl _, fun _ _ => rfl⟩
  have hBR : Below W.heap.size W W.drew := (Below.refl _ _).drew
  have HZ : Hid (IntKind.i64.wrap (ha - hb) = ha - hb) := (by rw [IntKind.wrap_i64]; omega : IntKind.i64.wrap (ha - hb) = ha - hb)
  have hne' : (ha == hb) = false := by simpa using hne
  clear kA kB hA hBb hsz hBW hne hh1 hh2 hh3 hh4
  go_enter Tryz.func78, Tryz.ntmps78
  go_upto_region 3 with fail
  rw [← hW]
  clear hW
  go_cut [24] from 25 to 29 (fun v w' => v = .bool true ∧ Hid (Below W.heap.size W w'))
  case first =>
    go_region_held3 (fun w' => ((w'.cell? ⟨w.heap.size, 0, none⟩ = some (.bool na) ∧ w'.cell? ⟨w.heap.size, 1, none⟩ = some (.slice ua un uc) ∧ w'.cell? ⟨w.heap.size, 2, none⟩ = some (.int .i64 ea)) ∧ (w'.cell? ⟨w.heap.size + 1, 0, none⟩ = some (.bool nb) ∧ w'.cell? ⟨w.heap.size + 1, 1, none⟩ = some (.slice va vn vc) ∧ w'.cell? ⟨w.heap.size + 1, 2, none⟩ = some (.int .i64 eb)))) (first | (with_reducible assumption) | exact ⟨⟨a0, a1, a2⟩, b0, b1, b2⟩ | (refine HK.out _ ?_; with_reducible assumption) | go_keep)
      (first | (go_at_call 106; first | (with_reducible refine (kA' _ (by first | (with_reducible assumption) | exact hBR)).mono ?_; rintro r w5 ⟨rfl, hb5⟩) | (with_reducible refine (kB' _ (by first | (with_reducible assumption) | exact hBR)).mono ?_; rintro r w6 ⟨rfl, hb6⟩)))
    all_goals go_wp2_with fail
    all_goals go_meet
    all_goals exact ⟨by rw [bne, hne']; rfl, by first | exact hb6 | exact hb5⟩
  case rest =>
    obtain ⟨rfl, hc⟩ := hcut
    obtain ⟨W2, rfl⟩ : ∃ W2 : World, W2 = wc := ⟨_, rfl⟩
    clear a0 a1 a2 b0 b1 b2 kA' kB' hBR
    obtain ⟨⟨a0, a1, a2⟩, b0, b1, b2⟩ := HK.out W2 hc.out
    have hBR : Below W.heap.size W W2.drew := HRD.out _ hc.out
    have kA' := HKA.out
    have kB' := HKB.out
    go_upto_region 4 with fail
    go_region_held3 (fun w' => ((w'.cell? ⟨w.heap.size, 0, none⟩ = some (.bool na) ∧ w'.cell? ⟨w.heap.size, 1, none⟩ = some (.slice ua un uc) ∧ w'.cell? ⟨w.heap.size, 2, none⟩ = some (.int .i64 ea)) ∧ (w'.cell? ⟨w.heap.size + 1, 0, none⟩ = some (.bool nb) ∧ w'.cell? ⟨w.heap.size + 1, 1, none⟩ = some (.slice va vn vc) ∧ w'.cell? ⟨w.heap.size + 1, 2, none⟩ = some (.int .i64 eb)))) (first | (with_reducible assumption) | exact ⟨⟨a0, a1, a2⟩, b0, b1, b2⟩ | (refine HK.out _ ?_; with_reducible assumption) | go_keep)
      (first | (go_at_call 106; first | (with_reducible refine (kA' _ (by first | (with_reducible assumption) | exact hBR)).mono ?_; rintro r w5 ⟨rfl, hb5⟩) | (with_reducible refine (kB' _ (by first | (with_reducible assumption) | exact hBR)).mono ?_; rintro r w6 ⟨rfl, hb6⟩)))
    all_goals (have HL5 : Hid (Below W.heap.size W w5) := hb5; have HL6 : Hid (Below W.heap.size W w6) := hb6; clear kA' kB' HK HKA HKB a0 a1 a2 b0 b1 b2 hBR hb5 hb6; go_wp2; go_ret; first | exact ⟨by rw [HZ.out]; rfl, HX.out.trans (HL6.out.mono HX.out.size)⟩ | exact ⟨by rw [HZ.out]; rfl, HX.out.trans (HL5.out.mono HX.out.size)⟩)
set_option maxRecDepth 200000 in
theorem rmag_2 (na nb : Bool) (ua va : Option Addr) (un uc vn vc X Y : Nat) (ea eb ha : Int) (w : World) (hn1 : ((un : Int) == 0) = false) (hn2 : ((vn : Int) == 0) = false) (hX : dlen X ≤ 1000000) (hY : dlen Y ≤ 1000000)
    (he1 : -4000000 ≤ ea) (he2 : ea ≤ 4000000) (he3 : -4000000 ≤ eb) (he4 : eb ≤ 4000000)
    (kA : ∀ W, Below w.heap.size w W → Calls Tryz.prog 106 #[.agg #[.bool na, .slice ua un uc, .int .i64 ea]] W fun r w' => r = .returned (.int .i64 ha) ∧ Below W.heap.size W w')
    (kB : ∀ W, Below w.heap.size w W → Calls Tryz.prog 106 #[.agg #[.bool nb, .slice va vn vc, .int .i64 eb]] W fun r w' => r = .returned (.int .i64 ha) ∧ Below W.heap.size W w')
    (ku : ∀ W i, Below w.heap.size w W → i = ea - min ea eb → Calls Tryz.prog 68 #[.slice ua un uc, .int .i64 i] W fun r w' => ∃ v, r = .returned v ∧ Ir w' v X ∧ Below W.heap.size W w')
    (kv : ∀ W i, Below w.heap.size w W → i = eb - min ea eb → Calls Tryz.prog 68 #[.slice va vn vc, .int .i64 i] W fun r w' => ∃ v, r = .returned v ∧ Ir w' v Y ∧ Below W.heap.size W w') :
    Calls Tryz.prog 78 #[.agg #[.bool na, .slice ua un uc, .int .i64 ea], .agg #[.bool nb, .slice va vn vc, .int .i64 eb]] w fun r w' => r = .returned (.int .i64 (cmpI X Y)) ∧ Below w.heap.size w w' := by
  obtain ⟨W, hW⟩ : ∃ W, W = (w.alloc (.cells #[.bool na, .slice ua un uc, .int .i64 ea] 45)).alloc (.cells #[.bool nb, .slice va vn vc, .int .i64 eb] 45) := ⟨_, rfl⟩
  obtain ⟨hA, hBb, hsz, hBW⟩ := two29 _ _ hW
  have HX : Hid (Below w.heap.size w W) := hBW
  have kA' : ∀ w4, Below W.heap.size W w4 → Calls Tryz.prog 106 #[.agg #[.bool na, .slice ua un uc, .int .i64 ea]] w4 fun r w' => r = .returned (.int .i64 ha) ∧ Below W.heap.size W w' := fun w4 h4 => (kA w4 (hBW.trans (h4.mono hBW.size))).mono fun r w' ⟨e1, o2⟩ => ⟨e1, h4.trans (o2.mono h4.size)⟩
  have kB' : ∀ w4, Below W.heap.size W w4 → Calls Tryz.prog 106 #[.agg #[.bool nb, .slice va vn vc, .int .i64 eb]] w4 fun r w' => r = .returned (.int .i64 ha) ∧ Below W.heap.size W w' := fun w4 h4 => (kB w4 (hBW.trans (h4.mono hBW.size))).mono fun r w' ⟨e1, o2⟩ => ⟨e1, h4.trans (o2.mono h4.size)⟩
  obtain ⟨i1, hi1⟩ : ∃ i1, i1 = ea - min ea eb := ⟨_, rfl⟩
  obtain ⟨i2, hi2⟩ : ∃ i2, i2 = eb - min ea eb := ⟨_, rfl⟩
  have HKU : Hid (∀ w4, Below W.heap.size W w4 → Calls Tryz.prog 68 #[.slice ua un uc, .int .i64 i1] w4 fun r w' => ∃ v, r = .returned v ∧ Ir w' v X ∧ Below W.heap.size W w' ∧ Below w4.heap.size w4 w') := (fun w4 h4 => (ku w4 i1 (hBW.trans (h4.mono hBW.size)) hi1).mono fun r w' ⟨v, e1, o1, o2⟩ => ⟨v, e1, o1, h4.trans (o2.mono h4.size), o2⟩ : ∀ w4, Below W.heap.size W w4 → Calls Tryz.prog 68 #[.slice ua un uc, .int .i64 i1] w4 fun r w' => ∃ v, r = .returned v ∧ Ir w' v X ∧ Below W.heap.size W w' ∧ Below w4.heap.size w4 w')
  have HKV : Hid (∀ w4, Below W.heap.size W w4 → Calls Tryz.prog 68 #[.slice va vn vc, .int .i64 i2] w4 fun r w' => ∃ v, r = .returned v ∧ Ir w' v Y ∧ Below W.heap.size W w' ∧ Below w4.heap.size w4 w') := (fun w4 h4 => (kv w4 i2 (hBW.trans (h4.mono hBW.size)) hi2).mono fun r w' ⟨v, e1, o1, o2⟩ => ⟨v, e1, o1, h4.trans (o2.mono h4.size), o2⟩ : ∀ w4, Below W.heap.size W w4 → Calls Tryz.prog 68 #[.slice va vn vc, .int .i64 i2] w4 fun r w' => ∃ v, r = .returned v ∧ Ir w' v Y ∧ Below W.heap.size W w' ∧ Below w4.heap.size w4 w')
  have kO : ∀ w4 p q, Ir w4 p X → Ir w4 q Y → Below W.heap.size W w4 → Calls Tryz.prog 70 #[p, q] w4 fun r w' => r = .returned (.int .i64 (cmpI X Y)) ∧ Below W.heap.size W w' := fun w4 p q hp hq h4 => (rord hp hq (by omega) (by omega)).mono fun r w' ⟨e1, d, e2⟩ => ⟨e1, by rw [e2]; exact h4.trans ⟨rfl, rfl, rfl, Nat.le_refl _, fun _ _ => rfl⟩⟩
  have HKO : Hid _ := kO
  obtain ⟨⟨a0, a1, a2⟩, -⟩ := box_cells29 hA
  obtain ⟨⟨b0, b1, b2⟩, -⟩ := box_cells29 hBb
  have HK : Hid (∀ w', Below W.heap.size W w' → ((w'.cell? ⟨w.heap.size, 0, none⟩ = some (.bool na) ∧ w'.cell? ⟨w.heap.size, 1, none⟩ = some (.slice ua un uc) ∧ w'.cell? ⟨w.heap.size, 2, none⟩ = some (.int .i64 ea)) ∧ (w'.cell? ⟨w.heap.size + 1, 0, none⟩ = some (.bool nb) ∧ w'.cell? ⟨w.heap.size + 1, 1, none⟩ = some (.slice va vn vc) ∧ w'.cell? ⟨w.heap.size + 1, 2, none⟩ = some (.int .i64 eb)))) := fun w' hb => ⟨(box_cells29 (box_later hA hb (by omega))).1, (box_cells29 (box_later hBb hb (by omega))).1⟩
  have HRD : Hid (∀ w', Below W.heap.size W w' → Below W.heap.size W w'.drew) := fun w' h => h.trans ⟨rfl, rfl, rfl, Nat.le_refl _, fun _ _ => rfl⟩
  have hBR : Below W.heap.size W W.drew := (Below.refl _ _).drew
  have HI : Hid (∀ i, (i = ea - min ea eb ∨ i = IntKind.i64.wrap (ea - min ea eb)) → i = i1) := (fun i h => by rw [IntKind.wrap_i64] at h; omega : ∀ i, (i = ea - min ea eb ∨ i = IntKind.i64.wrap (ea - min ea eb)) → i = i1)
  have HJ : Hid (∀ i, (i = eb - min ea eb ∨ i = IntKind.i64.wrap (eb - min ea eb)) → i = i2) := (fun i h => by rw [IntKind.wrap_i64] at h; omega : ∀ i, (i = eb - min ea eb ∨ i = IntKind.i64.wrap (eb - min ea eb)) → i = i2)
  obtain ⟨c, hc⟩ : ∃ c, c = cmpI X Y := ⟨_, rfl⟩
  rw [← hc] at HKO ⊢
  clear kA kB ku kv kO hA hBb hsz hBW hX hY hi1 hi2 hc
  go_enter Tryz.func78, Tryz.ntmps78
  go_upto_region 3 with fail
  rw [← hW]
  clear hW
  go_cut [24] from 25 to 29 (fun v w' => v = .bool false ∧ Hid (Below W.heap.size W w'))
  case first =>
    go_region_held3 (fun w' => ((w'.cell? ⟨w.heap.size, 0, none⟩ = some (.bool na) ∧ w'.cell? ⟨w.heap.size, 1, none⟩ = some (.slice ua un uc) ∧ w'.cell? ⟨w.heap.size, 2, none⟩ = some (.int .i64 ea)) ∧ (w'.cell? ⟨w.heap.size + 1, 0, none⟩ = some (.bool nb) ∧ w'.cell? ⟨w.heap.size + 1, 1, none⟩ = some (.slice va vn vc) ∧ w'.cell? ⟨w.heap.size + 1, 2, none⟩ = some (.int .i64 eb)))) (first | (with_reducible assumption) | exact ⟨⟨a0, a1, a2⟩, b0, b1, b2⟩ | (refine HK.out _ ?_; with_reducible assumption) | go_keep)
      (first | (go_at_call 106; first | (with_reducible refine (kA' _ (by first | (with_reducible assumption) | exact hBR)).mono ?_; rintro r w5 ⟨rfl, hb5⟩) | (with_reducible refine (kB' _ (by first | (with_reducible assumption) | exact hBR)).mono ?_; rintro r w6 ⟨rfl, hb6⟩)))
    all_goals go_wp2_with fail
    all_goals go_meet
    all_goals exact ⟨by first | rfl | simp, by first | exact hb6 | exact hb5⟩
  case rest =>
    obtain ⟨rfl, hc⟩ := hcut
    obtain ⟨W2, rfl⟩ : ∃ W2 : World, W2 = wc := ⟨_, rfl⟩
    clear a0 a1 a2 b0 b1 b2 kA' kB' hBR
    obtain ⟨⟨a0, a1, a2⟩, b0, b1, b2⟩ := HK.out W2 hc.out
    have hBR : Below W.heap.size W W2.drew := HRD.out _ hc.out
    have kU : ∀ i w4, (i = ea - min ea eb ∨ i = IntKind.i64.wrap (ea - min ea eb)) → Below W.heap.size W w4 → Calls Tryz.prog 68 #[.slice ua un uc, .int .i64 i] w4 fun r w' => ∃ v, r = .returned v ∧ Ir w' v X ∧ Below W.heap.size W w' ∧ Below w4.heap.size w4 w' := fun i w4 hi => by rw [HI.out i hi]; exact HKU.out w4
    have kV : ∀ i w4, (i = eb - min ea eb ∨ i = IntKind.i64.wrap (eb - min ea eb)) → Below W.heap.size W w4 → Calls Tryz.prog 68 #[.slice va vn vc, .int .i64 i] w4 fun r w' => ∃ v, r = .returned v ∧ Ir w' v Y ∧ Below W.heap.size W w' ∧ Below w4.heap.size w4 w' := fun i w4 hi => by rw [HJ.out i hi]; exact HKV.out w4
    have kO := HKO.out
    go_upto_region 6 with fail
    go_region_held3 (fun w' => ((w'.cell? ⟨w.heap.size, 0, none⟩ = some (.bool na) ∧ w'.cell? ⟨w.heap.size, 1, none⟩ = some (.slice ua un uc) ∧ w'.cell? ⟨w.heap.size, 2, none⟩ = some (.int .i64 ea)) ∧ (w'.cell? ⟨w.heap.size + 1, 0, none⟩ = some (.bool nb) ∧ w'.cell? ⟨w.heap.size + 1, 1, none⟩ = some (.slice va vn vc) ∧ w'.cell? ⟨w.heap.size + 1, 2, none⟩ = some (.int .i64 eb)))) (first | (with_reducible assumption) | exact ⟨⟨a0, a1, a2⟩, b0, b1, b2⟩ | (refine HK.out _ ?_; with_reducible assumption) | go_keep)
      (first | (go_at_call 68; first | (with_reducible refine (kU _ _ (by first | exact .inl rfl | exact .inr rfl) (by first | (with_reducible assumption) | exact hBR)).mono ?_; rintro r w5 ⟨p5, rfl, hp5, hb5, hc5⟩) | (with_reducible refine (kV _ _ (by first | exact .inl rfl | exact .inr rfl) (by first | (with_reducible assumption) | exact hBR)).mono ?_; rintro r w6 ⟨p6, rfl, hp6, hb6, hc6⟩)) | (go_at_call 70; first | (with_reducible refine (kO _ _ _ (hp5.later hc6) hp6 hb6).mono ?_; rintro r w7 ⟨rfl, hb7⟩) | (with_reducible refine (kO _ _ _ hp5 (hp6.later hc5) hb5).mono ?_; rintro r w7 ⟨rfl, hb7⟩)))
    all_goals (have HL7 : Hid (Below W.heap.size W w7) := hb7; clear kU kV kO HK HKU HKV HKO a0 a1 a2 b0 b1 b2 hBR hb5 hb6 hb7 hp5 hp6 hc5 hc6; go_wp2; go_ret; exact ⟨rfl, HX.out.trans (HL7.out.mono HX.out.size)⟩)
set_option maxRecDepth 200000 in
theorem rmag_0 (na nb : Bool) (ua va : Option Addr) (un uc vn vc : Nat) (ea eb : Int) (w : World) (h0 : un = 0 ∨ vn = 0) (hn1 : un ≤ 35184372088832) (hn2 : vn ≤ 35184372088832) :
    Calls Tryz.prog 78 #[.agg #[.bool na, .slice ua un uc, .int .i64 ea], .agg #[.bool nb, .slice va vn vc, .int .i64 eb]] w fun r w' => r = .returned (.int .i64 ((un : Int) - vn)) ∧ Below w.heap.size w w' := by
  obtain ⟨W, hW⟩ : ∃ W, W = (w.alloc (.cells #[.bool na, .slice ua un uc, .int .i64 ea] 45)).alloc (.cells #[.bool nb, .slice va vn vc, .int .i64 eb] 45) := ⟨_, rfl⟩
  obtain ⟨hA, hBb, hsz, hBW⟩ := two29 _ _ hW
  have HX : Hid (Below w.heap.size w W) := hBW
  obtain ⟨⟨a0, a1, a2⟩, -⟩ := box_cells29 hA
  obtain ⟨⟨b0, b1, b2⟩, -⟩ := box_cells29 hBb
  rw [hW] at a0 a1 a2 b0 b1 b2
  have hw : IntKind.i64.wrap ((un : Int) - vn) = (un : Int) - vn := by rw [IntKind.wrap_i64]; omega
  have HD : Hid ((un : Int) - vn = (un : Int) - vn) := rfl
  clear hA hBb hsz hBW
  by_cases hu : un = 0
  · subst hu
    clear h0
    go_enter Tryz.func78, Tryz.ntmps78
    go_wp2
    go_ret
    exact ⟨by simp, hW ▸ HX.out⟩
  · obtain rfl : vn = 0 := by omega
    have hu1 : ((un : Int) == 0) = false := by simp; omega
    clear h0 hu
    go_enter Tryz.func78, Tryz.ntmps78
    go_wp2
    go_ret
    exact ⟨by simp, hW ▸ HX.out⟩
end Go.Proofs.YtcoclopllbfjcaaGreatDoor
