/- Own work: contracts of the program's functions, part 14: FR6 FL2 SA2 SA1 SA4 SA5 SA6 L9 RW7 RW8 RW9 RX1 W49 RX2 RX3 W50 L16 L10 L17 L14 W51 W52 FM FM2 F1 F6 F7. -/
import Derived.Test.YtcdkkpjilgmncaaGreatDoorA13
import Derived.Test.YtcdkkpjilgmncaaGreatDoorA9
import Derived.Test.YtcdkkpjilgmncaaGreatDoorA7
import Derived.Test.YtcdkkpjilgmncaaGreatDoorA4
import Derived.Test.YtcdkkpjilgmncaaGreatDoorA5
import Derived.Test.YtcdkkpjilgmncaaGreatDoorA11
import Derived.Test.YtcdkkpjilgmncaaGreatDoorA10
import Derived.Test.YtcdkkpjilgmncaaGreatDoorA12
import Derived.Test.YtcdkkpjilgmncaaGreatDoorA3
import Derived.Test.YtcdkkpjilgmncaaGreatDoorA8
import Derived.Test.YtcdkkpjilgmncaaGreatDoorA1

set_option maxHeartbeats 16000000
namespace Go.Proofs.YtcdkkpjilgmncaaGreatDoor
set_option linter.unusedVariables false
set_option linter.unusedSimpArgs false
open Go.RowKit Go.Fl64
theorem nabs {A k : Nat} (h : A < 2 ^ k) : ((A : Nat) : Int).natAbs < 2 ^ k := by rw [Int.natAbs_natCast]; exact h
theorem CN2.of {f : FuncId} {t1 t2 t3 : Bool × Nat × Int} (h : Op2 f t1 t2 t3) {w : World} {X Y : Value} (hT : Tab32 w) (hX : PN w X t1) (hY : PN w Y t2) : CN2 w f X Y t3 := fun W hW => h W X Y (hT.later hW) (hX.later hW) (hY.later hW)
theorem mul_lt2 {a b k l : Nat} (h1 : a < 2 ^ k) (h2 : b < 2 ^ l) : a * b < 2 ^ (k + l) := by rw [Nat.pow_add]; exact Nat.mul_lt_mul'' h1 h2
theorem pmulN {a b p k l : Nat} (h1 : a < 2 ^ k) (h2 : b < 2 ^ l) (hk : k + l ≤ 60000) (hp : p ≤ 60000) : Op2 84 (un (a : Int) 0) (un (b : Int) p) (un ((a * b : Nat) : Int) p) := by
  have := pmul_un (p := 0) (q := p) (nabs h1) (nabs h2) hk (by omega)
  rw [Nat.zero_add, ← Int.natCast_mul] at this
  exact this
theorem paddN {a b p k : Nat} (h1 : a < 2 ^ k) (h2 : b < 2 ^ k) (hk : k < 60000) (hp : p ≤ 60000) : Op2 39 (un (a : Int) p) (un (b : Int) p) (un ((a + b : Nat) : Int) p) := by
  have := padd_un (p := p) (nabs h1) (nabs h2) hk hp
  rw [← Int.natCast_add] at this
  exact this
theorem psubN {a b p k : Nat} (h1 : a < 2 ^ k) (hle : b ≤ a) (hk : k < 60000) (hp : p ≤ 60000) : Op2 87 (un (a : Int) p) (un (b : Int) p) (un ((a - b : Nat) : Int) p) := by
  have := psub_un (p := p) (nabs h1) (nabs (Nat.lt_of_le_of_lt hle h1)) hk hp
  rw [← Int.natCast_sub hle] at this
  exact this
theorem cmpI_nat {a b : Nat} : decide (cmpI (a : Int) (b : Int) < 0) = decide (a < b) := by
  rcases cmpI_cases (a : Int) (b : Int) with h | h | h
  · rw [h.2, decide_eq_true (show a < b by omega)]; rfl
  · rw [h.2, decide_eq_false (show ¬ a < b by omega)]; rfl
  · rw [h.2, decide_eq_false (show ¬ a < b by omega)]; rfl
theorem floor_un {A B k : Nat} {W : World} {U : Value} (hT : Tab32 W) (h : Fv W U (un (A : Int) 1074) (un (B : Int) 1074)) (h1 : A < 2 ^ k) (h2 : B < 2 ^ k) (h0 : 0 < B) (hk : k ≤ 20000) :
    Calls Tryz.prog 38 #[U] W fun r w' => ∃ s ao n cap e, r = .returned (.tuple #[.agg #[.bool s, .slice ao n cap, .int .i64 e], .bool (decide (A % B = 0))]) ∧ PN w' (.agg #[.bool s, .slice ao n cap, .int .i64 e]) (un ((A / B : Nat) : Int) 0) ∧ Below W.heap.size W w' := by
  obtain ⟨s1, ao1, n1, cp1, e1, s2, ao2, n2, cp2, e2, rfl, p1, p2⟩ := h
  exact ffloor_1 s1 ao1 n1 cp1 e1 s2 ao2 n2 cp2 e2 _ _ W fun V hV => pquo_un h1 h2 h0 (by omega) (by omega) (hT.later hV) (p1.later hV) (p2.later hV)
theorem below_un {C D n k : Nat} {W : World} {U N : Value} (hT : Tab32 W) (h : Fv W U (un (C : Int) 1074) (un (D : Int) 1074)) (hN : PN W N (un (n : Int) 0)) (h1 : C < 2 ^ k) (h2 : D < 2 ^ k) (h3 : n < 2 ^ k) (hk : k ≤ 20000) :
    Calls Tryz.prog 40 #[U, N] W fun r w' => r = .returned (.bool (decide (C < n * D))) ∧ Below W.heap.size W w' := by
  obtain ⟨s1, ao1, n1, cp1, e1, s2, ao2, n2, cp2, e2, rfl, p1, p2⟩ := h
  obtain ⟨s3, ao3, n3, cp3, e3, rfl⟩ := hN.shape
  have := fbelow_1 s1 ao1 n1 cp1 e1 s2 ao2 n2 cp2 e2 s3 ao3 n3 cp3 e3 (cmpI (C : Int) ((n * D : Nat) : Int)) (un ((n * D : Nat) : Int) 1074) W (CN2.of (pmulN h3 h2 (by omega) (by omega)) hT hN p2) fun V Y hV hY => pcmp_un (k := k + k) (nabs (pow_grow k h1)) (nabs (mul_lt2 h3 h2)) (by omega) (by omega) (p1.later hV) hY
  rw [cmpI_nat] at this
  exact this
theorem rest_un {C D n k : Nat} {W : World} {U N : Value} (hT : Tab32 W) (h : Fv W U (un (C : Int) 1074) (un (D : Int) 1074)) (hN : PN W N (un (n : Int) 0)) (h1 : C < 2 ^ k) (h2 : D < 2 ^ k) (h3 : n < 2 ^ k) (hle : n * D ≤ C) (hk : k ≤ 20000) :
    Calls Tryz.prog 42 #[U, N] W fun r w' => OutFv W (un (D : Int) 1074) (un ((C - n * D : Nat) : Int) 1074) r w' := by
  obtain ⟨s1, ao1, n1, cp1, e1, s2, ao2, n2, cp2, e2, rfl, p1, p2⟩ := h
  obtain ⟨s3, ao3, n3, cp3, e3, rfl⟩ := hN.shape
  exact frest_1 s1 ao1 n1 cp1 e1 s2 ao2 n2 cp2 e2 s3 ao3 n3 cp3 e3 _ (un ((n * D : Nat) : Int) 1074) _ W p2 (CN2.of (pmulN h3 h2 (by omega) (by omega)) hT hN p2) fun V Y hV hY => psubN h1 hle (by omega) (by omega) V _ _ (hT.later hV) (p1.later hV) hY
theorem andtimes_un {a b n k : Nat} {W : World} {X Y N : Value} (hT : Tab32 W) (hX : PN W X (un (a : Int) 0)) (hY : PN W Y (un (b : Int) 0)) (hN : PN W N (un (n : Int) 0)) (h1 : a < 2 ^ k) (h2 : b < 2 ^ k) (h3 : n < 2 ^ k) (hk : k ≤ 20000) :
    Calls Tryz.prog 86 #[X, Y, N] W fun r w' => OutP W (un ((a + b * n : Nat) : Int) 0) r w' := by
  obtain ⟨s1, ao1, n1, cp1, e1, rfl⟩ := hX.shape
  obtain ⟨s2, ao2, n2, cp2, e2, rfl⟩ := hY.shape
  obtain ⟨s3, ao3, n3, cp3, e3, rfl⟩ := hN.shape
  exact andtimes_1 s1 ao1 n1 cp1 e1 s2 ao2 n2 cp2 e2 s3 ao3 n3 cp3 e3 (un ((b * n : Nat) : Int) 0) _ W (CN2.of (pmulN h2 h3 (by omega) (by omega)) hT hY hN) fun V Z hV hZ => paddN (k := k + k) (pow_grow k h1) (mul_lt2 h2 h3) (by omega) (by omega) V _ _ (hT.later hV) (hX.later hV) hZ
theorem cont_un {bp bq lp lq n k : Nat} {W : World} {U V N : Value} (hT : Tab32 W) (hU : Fv W U (un (bp : Int) 0) (un (bq : Int) 0)) (hV : Fv W V (un (lp : Int) 0) (un (lq : Int) 0)) (hN : PN W N (un (n : Int) 0)) (h1 : bp < 2 ^ k) (h2 : bq < 2 ^ k) (h3 : lp < 2 ^ k) (h4 : lq < 2 ^ k) (h5 : n < 2 ^ k) (hk : k ≤ 20000) :
    Calls Tryz.prog 41 #[U, V, N] W fun r w' => OutFv W (un ((bp + lp * n : Nat) : Int) 0) (un ((bq + lq * n : Nat) : Int) 0) r w' := by
  obtain ⟨s1, ao1, n1, cp1, e1, s2, ao2, n2, cp2, e2, rfl, p1, p2⟩ := hU
  obtain ⟨s3, ao3, n3, cp3, e3, s4, ao4, n4, cp4, e4, rfl, p3, p4⟩ := hV
  obtain ⟨s5, ao5, n5, cp5, e5, rfl⟩ := hN.shape
  exact cont_1 s1 ao1 n1 cp1 e1 s2 ao2 n2 cp2 e2 s3 ao3 n3 cp3 e3 s4 ao4 n4 cp4 e4 s5 ao5 n5 cp5 e5 _ _ W
    (fun X hX => andtimes_un (hT.later hX) (p1.later hX) (p3.later hX) (hN.later hX) h1 h3 h5 hk)
    (fun X hX => andtimes_un (hT.later hX) (p2.later hX) (p4.later hX) (hN.later hX) h2 h4 h5 hk)
end Go.Proofs.YtcdkkpjilgmncaaGreatDoor
/- Products and quotients of floats of which one is nought or not finite. -/
namespace Go.Fl64
set_option linter.unusedVariables false
set_option linter.unusedSimpArgs false
def pln (a : Nat) : Bool := decide (mag a < 9218868437227405312) && decide (mag a ≠ 0)
theorem pln_false {a : Nat} : pln a = false ↔ (¬ mag a < 9218868437227405312 ∨ mag a = 0) := by
  unfold pln
  by_cases h1 : mag a < 9218868437227405312 <;> by_cases h2 : mag a = 0 <;> simp [h1, h2]
theorem pln_true {a : Nat} : pln a = true ↔ (mag a < 9218868437227405312 ∧ mag a ≠ 0) := by
  unfold pln
  by_cases h1 : mag a < 9218868437227405312 <;> by_cases h2 : mag a = 0 <;> simp [h1, h2]
theorem write_inf (s : Bool) : Ieee.double.write (.infinity s) = sig s 9218868437227405312 := by cases s <;> decide +kernel
theorem write_nought (s : Bool) (e : Int) : Ieee.double.write (.number s 0 e) = sig s 0 := by
  have : Ieee.double.write (.number s 0 e) = Ieee.double.word s 0 := by
    show Ieee.double.nearest s 0 e = _
    unfold Ieee.Format.nearest
    rw [if_pos rfl]
  rw [this]
  cases s <;> decide +kernel
theorem prod_nan_left (d : Ieee.Datum) (s : Bool) (f : Nat) : Ieee.Datum.product (.nan s f) d = none := by cases d <;> rfl
theorem prod_nan_right (d : Ieee.Datum) (s : Bool) (f : Nat) : Ieee.Datum.product d (.nan s f) = none := by cases d <;> rfl
theorem quot_nan_left (n : Nat) (d : Ieee.Datum) (s : Bool) (f : Nat) : Ieee.Datum.quotient n (.nan s f) d = none := by cases d <;> rfl
theorem quot_nan_right (n : Nat) (d : Ieee.Datum) (s : Bool) (f : Nat) : Ieee.Datum.quotient n d (.nan s f) = none := by cases d <;> rfl
def mulX (a b : Nat) : Nat :=
  if isNaN a || isNaN b then 9221120237041090560
  else if mag a = 9218868437227405312 ∨ mag b = 9218868437227405312 then (if mag a = 0 ∨ mag b = 0 then 9221120237041090560 else sig (neg a != neg b) 9218868437227405312)
  else sig (neg a != neg b) 0
def divX (a b : Nat) : Nat :=
  if isNaN a || isNaN b || (decide (mag a = 9218868437227405312) && decide (mag b = 9218868437227405312)) || (decide (mag a = 0) && decide (mag b = 0)) then 9221120237041090560
  else if mag a = 9218868437227405312 ∨ mag b = 0 then sig (neg a != neg b) 9218868437227405312
  else sig (neg a != neg b) 0
theorem xor_bne (s t : Bool) : (s ^^ t) = (s != t) := by cases s <;> cases t <;> rfl
theorem nan_of {a : Nat} (h : 9218868437227405312 < mag a) : isNaN a = true := by unfold isNaN; simp; omega
theorem nan_no {a : Nat} (h : mag a ≤ 9218868437227405312) : isNaN a = false := by unfold isNaN; simp; omega
theorem num_nought {a m k : Nat} (e : m * 2 ^ k = val (mag a)) : m = 0 ↔ mag a = 0 := by
  have hp := Nat.two_pow_pos k
  constructor
  · intro h
    rw [h, Nat.zero_mul] at e
    exact (val_eq_zero _).1 e.symm
  · intro h
    rw [h, val_zero] at e
    rcases Nat.mul_eq_zero.1 e with h | h
    · exact h
    · omega
theorem mul_non {a b : Nat} (ha : a < 18446744073709551616) (hb : b < 18446744073709551616) (h : pln a = false ∨ pln b = false) :
    (FloatKind.f64.format.mul a b = none ∧ isNaN (mulX a b) = true) ∨ FloatKind.f64.format.mul a b = some (mulX a b) := by
  rw [f64]
  unfold Ieee.Format.mul mulX
  rcases cases3 a with h1 | h1 | h1
  · obtain ⟨m, k, e1, e2⟩ := read_number a ha h1
    have n1 := nan_no (a := a) (by omega)
    rw [e1, n1]
    rcases cases3 b with g1 | g1 | g1
    · obtain ⟨n, j, e3, e4⟩ := read_number b hb g1
      have n2 := nan_no (a := b) (by omega)
      rw [e3, n2, if_neg (by decide), if_neg (by omega)]
      refine .inr ?_
      simp only [Ieee.Datum.product, Option.map_some]
      have hz : m * n = 0 := by
        rcases h with h | h
        · rcases pln_false.1 h with h | h
          · omega
          · rw [(num_nought e2).2 h, Nat.zero_mul]
        · rcases pln_false.1 h with h | h
          · omega
          · rw [(num_nought e4).2 h, Nat.mul_zero]
      rw [hz, write_nought, xor_bne]
    · have n2 := nan_no (a := b) (by omega)
      rw [read_infinity b hb g1, n2, if_neg (by decide), if_pos (.inr g1)]
      simp only [Ieee.Datum.product]
      by_cases hz : mag a = 0
      · rw [if_pos ((num_nought e2).2 hz), if_pos (.inl hz)]
        exact .inl ⟨rfl, nan_x⟩
      · rw [if_neg (fun h => hz ((num_nought e2).1 h)), if_neg (by omega)]
        refine .inr ?_
        simp only [Option.map_some, write_inf, xor_bne]
        cases neg a <;> cases neg b <;> rfl
    · obtain ⟨s, f, e⟩ := read_nan b g1
      rw [e, nan_of g1, prod_nan_right]
      exact .inl ⟨rfl, by rw [Bool.or_true, if_pos rfl]; exact nan_x⟩
  · have n1 := nan_no (a := a) (by omega)
    rw [read_infinity a ha h1, n1]
    rcases cases3 b with g1 | g1 | g1
    · obtain ⟨n, j, e3, e4⟩ := read_number b hb g1
      have n2 := nan_no (a := b) (by omega)
      rw [e3, n2, if_neg (by decide), if_pos (.inl h1)]
      simp only [Ieee.Datum.product]
      by_cases hz : mag b = 0
      · rw [if_pos ((num_nought e4).2 hz), if_pos (.inr hz)]
        exact .inl ⟨rfl, nan_x⟩
      · rw [if_neg (fun h => hz ((num_nought e4).1 h)), if_neg (by omega)]
        refine .inr ?_
        simp only [Option.map_some, write_inf, xor_bne]
    · have n2 := nan_no (a := b) (by omega)
      rw [read_infinity b hb g1, n2, if_neg (by decide), if_pos (.inl h1), if_neg (by omega)]
      refine .inr ?_
      simp only [Ieee.Datum.product, Option.map_some, write_inf, xor_bne]
    · obtain ⟨s, f, e⟩ := read_nan b g1
      rw [e, nan_of g1, prod_nan_right]
      exact .inl ⟨rfl, by rw [Bool.or_true, if_pos rfl]; exact nan_x⟩
  · obtain ⟨s, f, e⟩ := read_nan a h1
    rw [e, nan_of h1, prod_nan_left]
    exact .inl ⟨rfl, by rw [Bool.true_or, if_pos rfl]; exact nan_x⟩
theorem div_non {a b : Nat} (ha : a < 18446744073709551616) (hb : b < 18446744073709551616) (h : pln a = false ∨ pln b = false) :
    (FloatKind.f64.format.div a b = none ∧ isNaN (divX a b) = true) ∨ FloatKind.f64.format.div a b = some (divX a b) := by
  rw [f64]
  unfold Ieee.Format.div divX
  rcases cases3 a with h1 | h1 | h1
  · obtain ⟨m, k, e1, e2⟩ := read_number a ha h1
    have n1 := nan_no (a := a) (by omega)
    rw [e1, n1, decide_eq_false (show ¬ mag a = 9218868437227405312 by omega)]
    rcases cases3 b with g1 | g1 | g1
    · obtain ⟨n, j, e3, e4⟩ := read_number b hb g1
      have n2 := nan_no (a := b) (by omega)
      rw [e3, n2]
      simp only [Ieee.Datum.quotient]
      by_cases hb0 : mag b = 0
      · rw [if_pos ((num_nought e4).2 hb0)]
        by_cases ha0 : mag a = 0
        · rw [if_pos ((num_nought e2).2 ha0), decide_eq_true ha0, decide_eq_true hb0]
          exact .inl ⟨rfl, nan_x⟩
        · rw [if_neg (fun h => ha0 ((num_nought e2).1 h)), decide_eq_false ha0]
          refine .inr ?_
          simp only [Option.map_some, write_inf, xor_bne]
          rw [if_neg (by simp), if_pos (.inr hb0)]
      · rw [if_neg (fun h => hb0 ((num_nought e4).1 h)), decide_eq_false hb0]
        have ha0 : mag a = 0 := by
          rcases h with h | h
          · rcases pln_false.1 h with h | h
            · omega
            · exact h
          · rcases pln_false.1 h with h | h
            · omega
            · exact absurd h hb0
        have hm0 := (num_nought e2).2 ha0
        refine .inr ?_
        rw [hm0]
        simp only [Nat.zero_shiftLeft, Nat.zero_div, Nat.zero_mod, Option.map_some]
        rw [if_neg (by simp), if_neg (by omega)]
        simp only [bne_self_eq_false, Bool.toNat_false, Nat.mul_zero, Nat.add_zero, write_nought, xor_bne]
    · have n2 := nan_no (a := b) (by omega)
      rw [read_infinity b hb g1, n2, if_neg (by simp; omega), if_neg (by omega)]
      refine .inr ?_
      simp only [Ieee.Datum.quotient, Option.map_some, write_nought, xor_bne]
    · obtain ⟨s, f, e⟩ := read_nan b g1
      rw [e, nan_of g1, quot_nan_right]
      exact .inl ⟨rfl, by rw [if_pos (by simp)]; exact nan_x⟩
  · have n1 := nan_no (a := a) (by omega)
    rw [read_infinity a ha h1, n1, decide_eq_true h1, decide_eq_false (show ¬ mag a = 0 by omega)]
    rcases cases3 b with g1 | g1 | g1
    · obtain ⟨n, j, e3, e4⟩ := read_number b hb g1
      have n2 := nan_no (a := b) (by omega)
      rw [e3, n2, if_neg (by simp; omega), if_pos (.inl h1)]
      refine .inr ?_
      simp only [Ieee.Datum.quotient, Option.map_some, write_inf, xor_bne]
    · have n2 := nan_no (a := b) (by omega)
      rw [read_infinity b hb g1, n2, if_pos (by simp [g1])]
      exact .inl ⟨rfl, nan_x⟩
    · obtain ⟨s, f, e⟩ := read_nan b g1
      rw [e, nan_of g1, quot_nan_right]
      exact .inl ⟨rfl, by rw [if_pos (by simp)]; exact nan_x⟩
  · obtain ⟨s, f, e⟩ := read_nan a h1
    rw [e, nan_of h1, quot_nan_left]
    exact .inl ⟨rfl, by rw [if_pos (by simp)]; exact nan_x⟩
end Go.Fl64
namespace Go.Proofs.YtcdkkpjilgmncaaGreatDoor
set_option linter.unusedVariables false
set_option linter.unusedSimpArgs false
open Go.RowKit Go.Fl64
def OutA (W : World) (t : Bool × Nat × Int) (r : Ending) (w' : World) : Prop := ∃ s ao n cap e, r = .returned (.agg #[.bool s, .slice ao n cap, .int .i64 e]) ∧ PN w' (.agg #[.bool s, .slice ao n cap, .int .i64 e]) t ∧ Below W.heap.size W w'
theorem at_boxP {w : World} {ao : Option Addr} {n z g : Nat} {p q r : Value} (h : At w ao n z) (hg : w.heap[g]? = some (.cells #[p, q, r] 28 (0, 0))) (hp : ∀ k, p ≠ .int .u32 k) (hq : ∀ k, q ≠ .int .u32 k) (hr : ∀ k, r ≠ .int .u32 k) (a b c : Value) : At (((w.setCell ⟨g, 0, none⟩ a).setCell ⟨g, 1, none⟩ b).setCell ⟨g, 2, none⟩ c) ao n z := by
  obtain ⟨bb, o, h1, h2⟩ := h
  refine ⟨bb, o, h1, fun i hi => ?_⟩
  by_cases hb : bb = g
  · subst hb
    have := h2 i hi
    simp only [World.cell?, hg] at this
    exfalso
    have hlt : o + i < 3 := by
      rcases Nat.lt_or_ge (o + i) 3 with h | h
      · exact h
      · rw [Array.getElem?_eq_none (by simpa using h)] at this; simp at this
    rcases (show o + i = 0 ∨ o + i = 1 ∨ o + i = 2 by omega) with h | h | h
    · rw [h] at this; simp at this; exact hp _ this
    · rw [h] at this; simp at this; exact hq _ this
    · rw [h] at this; simp at this; exact hr _ this
  · rw [World.cell?_setCell_other _ _ _ _ (by intro e; simp at e <;> omega), World.cell?_setCell_other _ _ _ _ (by intro e; simp at e <;> omega), World.cell?_setCell_other _ _ _ _ (by intro e; simp at e <;> omega)]
    exact h2 i hi
theorem pn_store {w : World} {A : Value} {t : Bool × Nat × Int} {g : Nat} (h : PN w A t) (hg : w.heap[g]? = some (.cells #[.bool false, .slice none 0 0, .int .i64 0] 28 (0, 0))) (a b c : Value) : PN (((w.setCell ⟨g, 0, none⟩ a).setCell ⟨g, 1, none⟩ b).setCell ⟨g, 2, none⟩ c) A t := by
  obtain ⟨ao, cap, h1, ao', cap', e', h2, h3, h4⟩ := h
  exact ⟨ao, cap, h1, ao', cap', e', h2, h3, at_boxP h4 hg (by simp) (by simp) (by simp) a b c⟩
set_option maxRecDepth 200000 in
theorem exact_1 (a : Nat) (t : Bool × Nat × Int) (w : World)
    (k : ∀ W, Below w.heap.size w W → Calls Tryz.prog 78 #[.float .f64 a] W fun r w' => ∃ s ao n cap e, r = .returned (.tuple #[.agg #[.bool s, .slice ao n cap, .int .i64 e], .int .i64 0]) ∧ PN w' (.agg #[.bool s, .slice ao n cap, .int .i64 e]) t ∧ Below W.heap.size W w') :
    Calls Tryz.prog 120 #[.float .f64 a] w fun r w' => OutA w t r w' := by
  obtain ⟨W, hW⟩ : ∃ W, W = w.alloc (.cells #[.bool false, .slice none 0 0, .int .i64 0] 28) := ⟨_, rfl⟩
  have HX : Hid (Below w.heap.size w W ∧ W.heap[w.heap.size]? = some (.cells #[.bool false, .slice none 0 0, .int .i64 0] 28 (0, 0))) := ⟨by rw [hW]; exact (Below.refl _ _).alloc (Nat.le_refl _) _, by rw [hW]; exact heap_alloc_new _ _⟩
  have k1 := k W HX.out.1
  clear k
  go_enter Tryz.func120, Tryz.ntmps120
  go_wp2_with fail
  rw [← hW]
  clear hW
  refine k1.mono ?_
  rintro r w1 ⟨s1, ao1, n1, cap1, ex1, rfl, hA, hb1⟩
  obtain ⟨W1, hW1⟩ : ∃ W1, W1 = w1.alloc (.cells #[.bool s1, .slice ao1 n1 cap1, .int .i64 ex1] 28) := ⟨_, rfl⟩
  have hb2 : Below W.heap.size W W1 := by rw [hW1]; exact hb1.alloc hb1.size _
  have HY : Hid (PN W1 (.agg #[.bool s1, .slice ao1 n1 cap1, .int .i64 ex1]) t ∧ Below w.heap.size w W1 ∧ W1.heap[w1.heap.size]? = some (.cells #[.bool s1, .slice ao1 n1 cap1, .int .i64 ex1] 28 (0, 0)) ∧ W1.heap[w.heap.size]? = some (.cells #[.bool false, .slice none 0 0, .int .i64 0] 28 (0, 0))) :=
    ⟨by rw [hW1]; exact hA.later ((Below.refl _ _).alloc (Nat.le_refl _) _), HX.out.1.trans (hb2.mono HX.out.1.size), by rw [hW1]; exact heap_alloc_new _ _, box_later HX.out.2 hb2 (lt_of_box HX.out.2)⟩
  clear k1 hA hb1 hb2
  go_upto_region 2 with fail
  rw [← hW1]
  clear hW1
  generalize w1.heap.size = g1 at *
  obtain ⟨⟨a0, a1, a2⟩, -⟩ := box_cells HY.out.2.2.1
  obtain ⟨⟨x1, x2, x3⟩, x4, x5, x6⟩ := box_cells HY.out.2.2.2
  go_wp2
  refine bodyPost_ret (results_cell_row rfl _ _ w.heap.size 28 #[.bool s1, .slice ao1 n1 cap1, .int .i64 ex1] (0, 0) _ rfl (store3 _ _ _ HY.out.2.2.2) Tryz.underlying28 rfl Tryz.info28) rfl ?_
  exact ⟨_, _, _, _, _, rfl, pn_store HY.out.1 HY.out.2.2.2 _ _ _, below_store3 HY.out.2.1 (Nat.le_refl _) _ _ _⟩
-- GEN: one call of two numbers each, the error let go
set_option maxRecDepth 200000 in
theorem added_1 (na nb : Bool) (ua va : Option Addr) (un uc vn vc : Nat) (ea eb : Int) (t : Bool × Nat × Int) (w : World)
    (k : ∀ W, Below w.heap.size w W → Calls Tryz.prog 39 #[.agg #[.bool na, .slice ua un uc, .int .i64 ea], .agg #[.bool nb, .slice va vn vc, .int .i64 eb]] W fun r w' => ∃ s ao n cap e, r = .returned (.tuple #[.agg #[.bool s, .slice ao n cap, .int .i64 e], .int .i64 0]) ∧ PN w' (.agg #[.bool s, .slice ao n cap, .int .i64 e]) t ∧ Below W.heap.size W w') :
    Calls Tryz.prog 142 #[.agg #[.bool na, .slice ua un uc, .int .i64 ea], .agg #[.bool nb, .slice va vn vc, .int .i64 eb]] w fun r w' => OutA w t r w' := by
  obtain ⟨W, hW⟩ : ∃ W, W = ((w.alloc (.cells #[.bool na, .slice ua un uc, .int .i64 ea] 28)).alloc (.cells #[.bool nb, .slice va vn vc, .int .i64 eb] 28)).alloc (.cells #[.bool false, .slice none 0 0, .int .i64 0] 28) := ⟨_, rfl⟩
  obtain ⟨hA, hB, hC, hsz, hBW⟩ := boxes3 _ _ _ hW
  obtain ⟨⟨a0, a1, a2⟩, -⟩ := box_cells hA
  obtain ⟨⟨b0, b1, b2⟩, -⟩ := box_cells hB
  have HX : Hid (Below w.heap.size w W ∧ W.heap[w.heap.size + 1 + 1]? = some (.cells #[.bool false, .slice none 0 0, .int .i64 0] 28 (0, 0))) := ⟨hBW, hC⟩
  have k1 := k W HX.out.1
  clear k hA hB hC hBW hsz
  rw [hW] at a0 a1 a2 b0 b1 b2
  go_enter Tryz.func142, Tryz.ntmps142
  go_wp2_with fail
  rw [← hW]
  clear hW a0 a1 a2 b0 b1 b2
  refine k1.mono ?_
  rintro r w1 ⟨s1, ao1, n1, cap1, ex1, rfl, hA, hb1⟩
  obtain ⟨W1, hW1⟩ : ∃ W1, W1 = w1.alloc (.cells #[.bool s1, .slice ao1 n1 cap1, .int .i64 ex1] 28) := ⟨_, rfl⟩
  have hb2 : Below W.heap.size W W1 := by rw [hW1]; exact hb1.alloc hb1.size _
  have HY : Hid (PN W1 (.agg #[.bool s1, .slice ao1 n1 cap1, .int .i64 ex1]) t ∧ Below w.heap.size w W1 ∧ W1.heap[w1.heap.size]? = some (.cells #[.bool s1, .slice ao1 n1 cap1, .int .i64 ex1] 28 (0, 0)) ∧ W1.heap[w.heap.size + 1 + 1]? = some (.cells #[.bool false, .slice none 0 0, .int .i64 0] 28 (0, 0))) :=
    ⟨by rw [hW1]; exact hA.later ((Below.refl _ _).alloc (Nat.le_refl _) _), HX.out.1.trans (hb2.mono HX.out.1.size), by rw [hW1]; exact heap_alloc_new _ _, box_later HX.out.2 hb2 (lt_of_box HX.out.2)⟩
  clear k1 hA hb1 hb2
  go_upto_region 2 with fail
  rw [← hW1]
  clear hW1
  generalize w1.heap.size = g1 at *
  obtain ⟨⟨c0, c1, c2⟩, -⟩ := box_cells HY.out.2.2.1
  obtain ⟨⟨x1, x2, x3⟩, x4, x5, x6⟩ := box_cells HY.out.2.2.2
  go_wp2
  refine bodyPost_ret (results_cell_row rfl _ _ (w.heap.size + 1 + 1) 28 #[.bool s1, .slice ao1 n1 cap1, .int .i64 ex1] (0, 0) _ rfl (store3 _ _ _ HY.out.2.2.2) Tryz.underlying28 rfl Tryz.info28) rfl ?_
  exact ⟨_, _, _, _, _, rfl, pn_store HY.out.1 HY.out.2.2.2 _ _ _, below_store3 HY.out.2.1 (by omega) _ _ _⟩
set_option maxRecDepth 200000 in
theorem multiplied_1 (na nb : Bool) (ua va : Option Addr) (un uc vn vc : Nat) (ea eb : Int) (t : Bool × Nat × Int) (w : World)
    (k : ∀ W, Below w.heap.size w W → Calls Tryz.prog 84 #[.agg #[.bool na, .slice ua un uc, .int .i64 ea], .agg #[.bool nb, .slice va vn vc, .int .i64 eb]] W fun r w' => ∃ s ao n cap e, r = .returned (.tuple #[.agg #[.bool s, .slice ao n cap, .int .i64 e], .int .i64 0]) ∧ PN w' (.agg #[.bool s, .slice ao n cap, .int .i64 e]) t ∧ Below W.heap.size W w') :
    Calls Tryz.prog 119 #[.agg #[.bool na, .slice ua un uc, .int .i64 ea], .agg #[.bool nb, .slice va vn vc, .int .i64 eb]] w fun r w' => OutA w t r w' := by
  obtain ⟨W, hW⟩ : ∃ W, W = ((w.alloc (.cells #[.bool na, .slice ua un uc, .int .i64 ea] 28)).alloc (.cells #[.bool nb, .slice va vn vc, .int .i64 eb] 28)).alloc (.cells #[.bool false, .slice none 0 0, .int .i64 0] 28) := ⟨_, rfl⟩
  obtain ⟨hA, hB, hC, hsz, hBW⟩ := boxes3 _ _ _ hW
  obtain ⟨⟨a0, a1, a2⟩, -⟩ := box_cells hA
  obtain ⟨⟨b0, b1, b2⟩, -⟩ := box_cells hB
  have HX : Hid (Below w.heap.size w W ∧ W.heap[w.heap.size + 1 + 1]? = some (.cells #[.bool false, .slice none 0 0, .int .i64 0] 28 (0, 0))) := ⟨hBW, hC⟩
  have k1 := k W HX.out.1
  clear k hA hB hC hBW hsz
  rw [hW] at a0 a1 a2 b0 b1 b2
  go_enter Tryz.func119, Tryz.ntmps119
  go_wp2_with fail
  rw [← hW]
  clear hW a0 a1 a2 b0 b1 b2
  refine k1.mono ?_
  rintro r w1 ⟨s1, ao1, n1, cap1, ex1, rfl, hA, hb1⟩
  obtain ⟨W1, hW1⟩ : ∃ W1, W1 = w1.alloc (.cells #[.bool s1, .slice ao1 n1 cap1, .int .i64 ex1] 28) := ⟨_, rfl⟩
  have hb2 : Below W.heap.size W W1 := by rw [hW1]; exact hb1.alloc hb1.size _
  have HY : Hid (PN W1 (.agg #[.bool s1, .slice ao1 n1 cap1, .int .i64 ex1]) t ∧ Below w.heap.size w W1 ∧ W1.heap[w1.heap.size]? = some (.cells #[.bool s1, .slice ao1 n1 cap1, .int .i64 ex1] 28 (0, 0)) ∧ W1.heap[w.heap.size + 1 + 1]? = some (.cells #[.bool false, .slice none 0 0, .int .i64 0] 28 (0, 0))) :=
    ⟨by rw [hW1]; exact hA.later ((Below.refl _ _).alloc (Nat.le_refl _) _), HX.out.1.trans (hb2.mono HX.out.1.size), by rw [hW1]; exact heap_alloc_new _ _, box_later HX.out.2 hb2 (lt_of_box HX.out.2)⟩
  clear k1 hA hb1 hb2
  go_upto_region 2 with fail
  rw [← hW1]
  clear hW1
  generalize w1.heap.size = g1 at *
  obtain ⟨⟨c0, c1, c2⟩, -⟩ := box_cells HY.out.2.2.1
  obtain ⟨⟨x1, x2, x3⟩, x4, x5, x6⟩ := box_cells HY.out.2.2.2
  go_wp2
  refine bodyPost_ret (results_cell_row rfl _ _ (w.heap.size + 1 + 1) 28 #[.bool s1, .slice ao1 n1 cap1, .int .i64 ex1] (0, 0) _ rfl (store3 _ _ _ HY.out.2.2.2) Tryz.underlying28 rfl Tryz.info28) rfl ?_
  exact ⟨_, _, _, _, _, rfl, pn_store HY.out.1 HY.out.2.2.2 _ _ _, below_store3 HY.out.2.1 (by omega) _ _ _⟩
set_option maxRecDepth 200000 in
theorem prounded_1 (na : Bool) (ua : Option Addr) (un uc F : Nat) (ea m : Int) (w : World)
    (k : ∀ W, Below w.heap.size w W → Calls Tryz.prog 140 #[.agg #[.bool na, .slice ua un uc, .int .i64 ea], .int .i64 m] W fun r w' => r = .returned (.tuple #[.float .f64 F, .int .i64 0]) ∧ Below W.heap.size W w') :
    Calls Tryz.prog 118 #[.agg #[.bool na, .slice ua un uc, .int .i64 ea], .int .i64 m] w fun r w' => r = .returned (.float .f64 F) ∧ Below w.heap.size w w' := by
  obtain ⟨W, hW⟩ : ∃ W, W = w.alloc (.cells #[.bool na, .slice ua un uc, .int .i64 ea] 28) := ⟨_, rfl⟩
  have HX : Hid (Below w.heap.size w W) := (by rw [hW]; exact (Below.refl _ _).alloc (Nat.le_refl _) _ : Below w.heap.size w W)
  have hA : W.heap[w.heap.size]? = some (.cells #[.bool na, .slice ua un uc, .int .i64 ea] 28 (0, 0)) := by rw [hW]; exact heap_alloc_new _ _
  obtain ⟨⟨a0, a1, a2⟩, -⟩ := box_cells hA
  have k1 := k W HX.out
  clear k hA
  rw [hW] at a0 a1 a2
  go_enter Tryz.func118, Tryz.ntmps118
  go_wp2_with fail
  rw [← hW]
  clear hW a0 a1 a2
  refine k1.mono ?_
  rintro r w1 ⟨rfl, hb1⟩
  have HY : Hid (Below w.heap.size w w1) := HX.out.trans (hb1.mono HX.out.size)
  clear k1 hb1
  go_wp2
  go_ret
  exact ⟨rfl, HY.out⟩
theorem pround {t : Bool × Nat × Int} {A : Value} {m : Int} {w : World} (hT : Tab32 w) (ok : Ok t) (h : PN w A t) (hm : 1 ≤ m ∧ m ≤ 3) :
    Calls Tryz.prog 140 #[A, .int .i64 m] w fun r w' => r = .returned (.tuple #[.float .f64 (tfF t.1 true t.2.1 t.2.2 m), .int .i64 0]) ∧ Below w.heap.size w w' := by
  obtain ⟨pa, pc, rfl, i1⟩ := h
  obtain ⟨f1, f2, f3, -, -⟩ := ok.facts
  refine c24_1 t.1 pa _ pc _ t.2.2 m w (fun W' g hW' hg => ?_) (fun W' => c48 m (by omega) W') (fun W' hW' => ?_)
  · have := maybe1 hg (i1.later hW') (by omega)
    rw [show okN t.1 (dlen t.2.1) t.2.1 t.2.2 = true from ok] at this
    exact this
  · exact c106 (neg := t.1) (e := t.2.2) (mode := m) (hT.later hW') (i1.later hW') (by omega) (by omega) (by omega)
theorem prounded {t : Bool × Nat × Int} {A : Value} {m : Int} {w : World} (hT : Tab32 w) (ok : Ok t) (h : PN w A t) (hm : 1 ≤ m ∧ m ≤ 3) :
    Calls Tryz.prog 118 #[A, .int .i64 m] w fun r w' => r = .returned (.float .f64 (tfF t.1 true t.2.1 t.2.2 m)) ∧ Below w.heap.size w w' := by
  obtain ⟨s, ao, n, cap, e, rfl⟩ := h.shape
  exact prounded_1 s ao n cap _ e m w fun W hW => pround (hT.later hW) ok (h.later hW) hm
theorem added_op {t1 t2 t3 : Bool × Nat × Int} (h : Op2 39 t1 t2 t3) {X Y : Value} {w : World} (hT : Tab32 w) (h1 : PN w X t1) (h2 : PN w Y t2) : Calls Tryz.prog 142 #[X, Y] w fun r w' => OutA w t3 r w' := by
  obtain ⟨s, ao, n, cap, e, rfl⟩ := h1.shape
  obtain ⟨s', ao', n', cap', e', rfl⟩ := h2.shape
  exact added_1 s s' ao ao' n cap n' cap' e e' t3 w fun W hW => h W _ _ (hT.later hW) (h1.later hW) (h2.later hW)
theorem multiplied_op {t1 t2 t3 : Bool × Nat × Int} (h : Op2 84 t1 t2 t3) {X Y : Value} {w : World} (hT : Tab32 w) (h1 : PN w X t1) (h2 : PN w Y t2) : Calls Tryz.prog 119 #[X, Y] w fun r w' => OutA w t3 r w' := by
  obtain ⟨s, ao, n, cap, e, rfl⟩ := h1.shape
  obtain ⟨s', ao', n', cap', e', rfl⟩ := h2.shape
  exact multiplied_1 s s' ao ao' n cap n' cap' e e' t3 w fun W hW => h W _ _ (hT.later hW) (h1.later hW) (h2.later hW)
end Go.Proofs.YtcdkkpjilgmncaaGreatDoor
/- The document's small functions on floats, call by call. -/
namespace Go.Proofs.YtcdkkpjilgmncaaGreatDoor.Ie
set_option linter.unusedVariables false
set_option linter.unusedSimpArgs false
open Go.RowKit Go.Fl64
end Go.Proofs.YtcdkkpjilgmncaaGreatDoor.Ie
namespace Go.Proofs.YtcdkkpjilgmncaaGreatDoor
set_option linter.unusedVariables false
set_option linter.unusedSimpArgs false
open Go.RowKit Go.Fl64
def isM (m : Int) : Bool := (m == 1) || (m == 2) || (m == 3)
theorem isM_iff {m : Int} : isM m = true ↔ (1 ≤ m ∧ m ≤ 3) := by
  unfold isM; simp only [Bool.or_eq_true, beq_iff_eq]; omega
theorem pvalid (m : Int) (w : World) : Calls Tryz.prog 115 #[.int .i64 m] w fun r w' => r = .returned (.int .i64 (if isM m then 0 else 1)) ∧ w' = w := by
  unfold isM
  by_cases h1 : m = 1
  · subst h1
    go_enter Tryz.func115, Tryz.ntmps115
    go_wp2
    go_ret
    exact ⟨rfl, rfl⟩
  · have e1 : (m == 1) = false := by simpa using h1
    by_cases h2 : m = 2
    · subst h2
      go_enter Tryz.func115, Tryz.ntmps115
      go_wp2
      go_ret
      exact ⟨rfl, rfl⟩
    · have e2 : (m == 2) = false := by simpa using h2
      by_cases h3 : m = 3
      · subst h3
        go_enter Tryz.func115, Tryz.ntmps115
        go_wp2
        go_ret
        exact ⟨rfl, rfl⟩
      · have e3 : (m == 3) = false := by simpa using h3
        rw [show ((m == 1) || (m == 2) || (m == 3)) = false by rw [e1, e2, e3]; rfl]
        go_enter Tryz.func115, Tryz.ntmps115
        go_wp2
        go_ret
        exact ⟨rfl, rfl⟩
theorem eq_nought0 : (FloatKind.f64.format.order 0 0 == some Ordering.eq) = true := by decide +kernel
theorem pfin_y (a : Nat) (ha : a < 18446744073709551616) (hf : mag a < 9218868437227405312) (w : World) : Calls Tryz.prog 139 #[.float .f64 a] w fun r w' => r = .returned (.bool true) ∧ w' = w := by
  have hs : ∀ w, (binOp .sub 22 (.float .f64 a) (.float .f64 a)).run Tryz.prog w = .ok (.float .f64 0) w := fun w => run_float_arith w .sub 22 .f64 a a _ (sub_fin ha hf)
  have he := eq_nought0
  go_enter Tryz.func139, Tryz.ntmps139
  go_wp2
  go_ret
  exact ⟨rfl, rfl⟩
theorem pfin_n (a : Nat) (ha : a < 18446744073709551616) (hf : ¬ mag a < 9218868437227405312) (w : World) : Calls Tryz.prog 139 #[.float .f64 a] w fun r w' => r = .returned (.bool false) ∧ w' = w.drew := by
  obtain ⟨n, n1, n2, hs⟩ := run_nan (P := Tryz.prog) w .sub 22 a a (by simp) (sub_non ha (by omega))
  have he := ord_eq n 0 n1 (by decide)
  have hq : eq n 0 = false := by unfold Fl64.eq; rw [n2]; rfl
  rw [hq] at he
  go_enter Tryz.func139, Tryz.ntmps139
  go_wp2
  go_ret
  exact ⟨rfl, rfl⟩
def z0 (na nb : Bool) (m : Int) : Bool := if na = nb then na else (m == 1)
theorem mk_nought {s : Bool} {m : Int} (hm : 1 ≤ m ∧ m ≤ 3) : Ie.mk s 0 0 m 9221120237041090561 = sig s 0 := by
  unfold Ie.mk
  rw [if_pos (by omega), if_pos rfl]
theorem pnought (na nb : Bool) (m : Int) (hm : 1 ≤ m ∧ m ≤ 3) (w : World) : Calls Tryz.prog 144 #[.bool na, .bool nb, .int .i64 m] w fun r w' => r = .returned (.float .f64 (sig (z0 na nb m) 0)) ∧ w' = w := by
  have k : ∀ s W, Calls Tryz.prog 108 #[.bool s, .int .u64 0, .int .i64 0, .int .i64 m] W fun r w' => r = .returned (.float .f64 (sig s 0)) ∧ w' = W := fun s W => by
    have := Ie.c24 s 0 0 m (by omega) W
    rw [mk_nought hm] at this
    exact this
  cases na <;> cases nb
  all_goals
    go_enter Tryz.func144, Tryz.ntmps144
    go_wp2_with (go_at_call 108; refine (k _ _).mono ?_; rintro e w' ⟨rfl, rfl⟩)
    go_ret
    exact ⟨rfl, rfl⟩
end Go.Proofs.YtcdkkpjilgmncaaGreatDoor
namespace Go.Proofs.YtcdkkpjilgmncaaGreatDoor
set_option linter.unusedVariables false
set_option linter.unusedSimpArgs false
open Go.RowKit Go.Fl64
set_option maxRecDepth 200000 in
theorem padd_a (a b F : Nat) (m : Int) (w : World) (hm : isM m = true) (hfa : ∀ W, Calls Tryz.prog 139 #[.float .f64 a] W fun r w' => r = .returned (.bool false) ∧ w' = W.drew)
    (h : (∀ W, (binOp .add 22 (.float .f64 a) (.float .f64 b)).run Tryz.prog W = .ok (.float .f64 F) W) ∨ ∀ W, ∃ n, lk n F ∧ (binOp .add 22 (.float .f64 a) (.float .f64 b)).run Tryz.prog W = .ok (.float .f64 n) W.drew) (hF : F < 18446744073709551616) :
    Calls Tryz.prog 122 #[.float .f64 a, .float .f64 b, .int .i64 m] w fun r w' => ∃ n, r = .returned (.float .f64 n) ∧ lk n F ∧ Below w.heap.size w w' := by
  have kV := pvalid m w
  rw [hm] at kV
  have HB : Hid (Below w.heap.size w w.drew) := (Below.refl _ _).drew
  have HB2 : Hid (Below w.heap.size w w.drew.drew) := (Below.refl _ _).drew.drew
  have HF : Hid (F < 18446744073709551616) := hF
  clear hF
  rcases h with h | h
  · go_enter Tryz.func122, Tryz.ntmps122
    go_wp2_with fail
    refine kV.mono ?_
    rintro r w' ⟨rfl, hw⟩
    rw [hw]
    clear hw kV
    have kN := hfa w
    go_wp2_with fail
    refine kN.mono ?_
    rintro r w' ⟨rfl, hw⟩
    rw [hw]
    clear hw kN hfa
    go_wp2_with fail
    go_ret
    exact ⟨_, rfl, lk.refl HF.out, HB.out⟩
  · obtain ⟨n, hn, hr⟩ := h w.drew
    have HN : Hid (lk n F) := hn
    clear hn h
    go_enter Tryz.func122, Tryz.ntmps122
    go_wp2_with fail
    refine kV.mono ?_
    rintro r w' ⟨rfl, hw⟩
    rw [hw]
    clear hw kV
    have kN := hfa w
    go_wp2_with fail
    refine kN.mono ?_
    rintro r w' ⟨rfl, hw⟩
    rw [hw]
    clear hw kN hfa
    go_wp2_with fail
    go_ret
    exact ⟨_, rfl, HN.out, HB2.out⟩
set_option maxRecDepth 200000 in
theorem padd_b (a b F : Nat) (m : Int) (w : World) (hm : isM m = true) (hfa : ∀ W, Calls Tryz.prog 139 #[.float .f64 a] W fun r w' => r = .returned (.bool true) ∧ w' = W) (hfb : ∀ W, Calls Tryz.prog 139 #[.float .f64 b] W fun r w' => r = .returned (.bool false) ∧ w' = W.drew)
    (h : (∀ W, (binOp .add 22 (.float .f64 a) (.float .f64 b)).run Tryz.prog W = .ok (.float .f64 F) W) ∨ ∀ W, ∃ n, lk n F ∧ (binOp .add 22 (.float .f64 a) (.float .f64 b)).run Tryz.prog W = .ok (.float .f64 n) W.drew) (hF : F < 18446744073709551616) :
    Calls Tryz.prog 122 #[.float .f64 a, .float .f64 b, .int .i64 m] w fun r w' => ∃ n, r = .returned (.float .f64 n) ∧ lk n F ∧ Below w.heap.size w w' := by
  have kV := pvalid m w
  rw [hm] at kV
  have HB : Hid (Below w.heap.size w w.drew) := (Below.refl _ _).drew
  have HB2 : Hid (Below w.heap.size w w.drew.drew) := (Below.refl _ _).drew.drew
  have HF : Hid (F < 18446744073709551616) := hF
  clear hF
  rcases h with h | h
  · go_enter Tryz.func122, Tryz.ntmps122
    go_wp2_with fail
    refine kV.mono ?_
    rintro r w' ⟨rfl, hw⟩
    rw [hw]
    clear hw kV
    have kN := hfa w
    go_wp2_with fail
    refine kN.mono ?_
    rintro r w' ⟨rfl, hw⟩
    rw [hw]
    clear hw kN hfa
    have kN := hfb w
    go_wp2_with fail
    refine kN.mono ?_
    rintro r w' ⟨rfl, hw⟩
    rw [hw]
    clear hw kN hfb
    go_wp2_with fail
    go_ret
    exact ⟨_, rfl, lk.refl HF.out, HB.out⟩
  · obtain ⟨n, hn, hr⟩ := h w.drew
    have HN : Hid (lk n F) := hn
    clear hn h
    go_enter Tryz.func122, Tryz.ntmps122
    go_wp2_with fail
    refine kV.mono ?_
    rintro r w' ⟨rfl, hw⟩
    rw [hw]
    clear hw kV
    have kN := hfa w
    go_wp2_with fail
    refine kN.mono ?_
    rintro r w' ⟨rfl, hw⟩
    rw [hw]
    clear hw kN hfa
    have kN := hfb w
    go_wp2_with fail
    refine kN.mono ?_
    rintro r w' ⟨rfl, hw⟩
    rw [hw]
    clear hw kN hfb
    go_wp2_with fail
    go_ret
    exact ⟨_, rfl, HN.out, HB2.out⟩
set_option maxRecDepth 200000 in
theorem padd_z (a b F : Nat) (m sg : Int) (ta tb t3 : Bool × Nat × Int) (w : World) (hm : isM m = true) (ha : a < 18446744073709551616) (hb : b < 18446744073709551616)
    (hfa : ∀ W, Calls Tryz.prog 139 #[.float .f64 a] W fun r w' => r = .returned (.bool true) ∧ w' = W)
    (hfb : ∀ W, Calls Tryz.prog 139 #[.float .f64 b] W fun r w' => r = .returned (.bool true) ∧ w' = W)
    (kA : Calls Tryz.prog 120 #[.float .f64 a] w fun r w' => OutA w ta r w')
    (kB : ∀ W, Below w.heap.size w W → Calls Tryz.prog 120 #[.float .f64 b] W fun r w' => OutA W tb r w')
    (kC : ∀ W X Y, Below w.heap.size w W → PN W X ta → PN W Y tb → Calls Tryz.prog 142 #[X, Y] W fun r w' => OutA W t3 r w')
    (kS : ∀ W X, PN W X t3 → Calls Tryz.prog 143 #[X] W fun r w' => r = .returned (.int .i64 sg) ∧ Below W.heap.size W w')
    (hs : (sg == 0) = true) (kZ : ∀ W, Calls Tryz.prog 144 #[.bool (neg a), .bool (neg b), .int .i64 m] W fun r w' => r = .returned (.float .f64 F) ∧ w' = W) :
    Calls Tryz.prog 122 #[.float .f64 a, .float .f64 b, .int .i64 m] w fun r w' => r = .returned (.float .f64 F) ∧ Below w.heap.size w w' := by
  have kV := pvalid m w
  rw [hm] at kV
  have HAB : Hid (a < 18446744073709551616 ∧ b < 18446744073709551616) := ⟨ha, hb⟩
  have HKB : Hid _ := kB
  have HKC : Hid _ := kC
  have HKS : Hid _ := kS
  clear ha hb kB kC kS
  go_enter Tryz.func122, Tryz.ntmps122
  go_wp2_with fail
  refine kV.mono ?_
  rintro r w' ⟨rfl, hw⟩
  rw [hw]
  clear hw kV
  have kN := hfa w
  go_wp2_with fail
  refine kN.mono ?_
  rintro r w' ⟨rfl, hw⟩
  rw [hw]
  clear hw kN hfa
  have kN := hfb w
  go_wp2_with fail
  refine kN.mono ?_
  rintro r w' ⟨rfl, hw⟩
  rw [hw]
  clear hw kN hfb
  go_wp2_with fail
  refine kA.mono ?_
  rintro r w1 ⟨s1, ao1, n1, cap1, ex1, rfl, hP1, hb1⟩
  have k2 := HKB.out w1 hb1
  clear kA
  go_wp2_with fail
  refine k2.mono ?_
  rintro r w2 ⟨s2, ao2, n2, cap2, ex2, rfl, hP2, hb2⟩
  have HB2 : Hid (Below w.heap.size w w2) := hb1.trans (hb2.mono hb1.size)
  have k3 := HKC.out w2 _ _ HB2.out (hP1.later hb2) hP2
  clear k2 hP1 hP2 hb1 hb2
  go_wp2_with fail
  refine k3.mono ?_
  rintro r w3 ⟨s3, ao3, n3, cap3, ex3, rfl, hP3, hb3⟩
  clear k3
  obtain ⟨W3, hW3⟩ : ∃ W3, W3 = w3.alloc (.cells #[.bool s3, .slice ao3 n3 cap3, .int .i64 ex3] 28) := ⟨_, rfl⟩
  have HX : Hid (PN W3 (.agg #[.bool s3, .slice ao3 n3 cap3, .int .i64 ex3]) t3 ∧ Below w.heap.size w W3 ∧ W3.heap[w3.heap.size]? = some (.cells #[.bool s3, .slice ao3 n3 cap3, .int .i64 ex3] 28 (0, 0))) :=
    ⟨by rw [hW3]; exact hP3.later ((Below.refl _ _).alloc (Nat.le_refl _) _), by rw [hW3]; exact HB2.out.trans ((hb3.alloc hb3.size _).mono HB2.out.size), by rw [hW3]; exact heap_alloc_new _ _⟩
  clear hP3 hb3
  go_upto_region 6 with fail
  rw [← hW3]
  clear hW3
  generalize w3.heap.size = g3 at *
  obtain ⟨⟨a0, a1, a2⟩, -⟩ := box_cells HX.out.2.2
  have k4 := HKS.out W3 _ HX.out.1
  go_wp2_with fail
  refine k4.mono ?_
  rintro r w5 ⟨rfl, hb5⟩
  have HB5 : Hid (Below w.heap.size w w5) := HX.out.2.1.trans (hb5.mono HX.out.2.1.size)
  have HP5 : Hid (PN w5 (.agg #[.bool s3, .slice ao3 n3 cap3, .int .i64 ex3]) t3) := HX.out.1.later hb5
  obtain ⟨⟨a0, a1, a2⟩, -⟩ := box_cells (box_later HX.out.2.2 hb5 (lt_of_box HX.out.2.2))
  clear k4 hb5
  have kz := kZ w5
  have sa := Ie.c33 a HAB.out.1 w5
  have sb := Ie.c33 b HAB.out.2 w5
  clear kZ a0 a1 a2
  go_wp2_with fail
  refine sa.mono ?_
  rintro r w6 ⟨rfl, hw⟩
  rw [hw]
  clear hw sa
  go_wp2_with fail
  refine sb.mono ?_
  rintro r w6 ⟨rfl, hw⟩
  rw [hw]
  clear hw sb
  go_wp2_with fail
  refine kz.mono ?_
  rintro r w6 ⟨rfl, hw⟩
  rw [hw]
  clear hw kz
  go_wp2_with fail
  go_ret
  exact ⟨rfl, HB5.out⟩
set_option maxRecDepth 200000 in
theorem padd_r (a b F : Nat) (m sg : Int) (ta tb t3 : Bool × Nat × Int) (w : World) (hm : isM m = true) (ha : a < 18446744073709551616) (hb : b < 18446744073709551616)
    (hfa : ∀ W, Calls Tryz.prog 139 #[.float .f64 a] W fun r w' => r = .returned (.bool true) ∧ w' = W)
    (hfb : ∀ W, Calls Tryz.prog 139 #[.float .f64 b] W fun r w' => r = .returned (.bool true) ∧ w' = W)
    (kA : Calls Tryz.prog 120 #[.float .f64 a] w fun r w' => OutA w ta r w')
    (kB : ∀ W, Below w.heap.size w W → Calls Tryz.prog 120 #[.float .f64 b] W fun r w' => OutA W tb r w')
    (kC : ∀ W X Y, Below w.heap.size w W → PN W X ta → PN W Y tb → Calls Tryz.prog 142 #[X, Y] W fun r w' => OutA W t3 r w')
    (kS : ∀ W X, PN W X t3 → Calls Tryz.prog 143 #[X] W fun r w' => r = .returned (.int .i64 sg) ∧ Below W.heap.size W w')
    (hs : (sg == 0) = false) (kR : ∀ W X, Below w.heap.size w W → PN W X t3 → Calls Tryz.prog 118 #[X, .int .i64 m] W fun r w' => r = .returned (.float .f64 F) ∧ Below W.heap.size W w') :
    Calls Tryz.prog 122 #[.float .f64 a, .float .f64 b, .int .i64 m] w fun r w' => r = .returned (.float .f64 F) ∧ Below w.heap.size w w' := by
  have kV := pvalid m w
  rw [hm] at kV
  have HAB : Hid (a < 18446744073709551616 ∧ b < 18446744073709551616) := ⟨ha, hb⟩
  have HKB : Hid _ := kB
  have HKC : Hid _ := kC
  have HKS : Hid _ := kS
  clear ha hb kB kC kS
  have HR : Hid _ := kR
  clear kR
  go_enter Tryz.func122, Tryz.ntmps122
  go_wp2_with fail
  refine kV.mono ?_
  rintro r w' ⟨rfl, hw⟩
  rw [hw]
  clear hw kV
  have kN := hfa w
  go_wp2_with fail
  refine kN.mono ?_
  rintro r w' ⟨rfl, hw⟩
  rw [hw]
  clear hw kN hfa
  have kN := hfb w
  go_wp2_with fail
  refine kN.mono ?_
  rintro r w' ⟨rfl, hw⟩
  rw [hw]
  clear hw kN hfb
  go_wp2_with fail
  refine kA.mono ?_
  rintro r w1 ⟨s1, ao1, n1, cap1, ex1, rfl, hP1, hb1⟩
  have k2 := HKB.out w1 hb1
  clear kA
  go_wp2_with fail
  refine k2.mono ?_
  rintro r w2 ⟨s2, ao2, n2, cap2, ex2, rfl, hP2, hb2⟩
  have HB2 : Hid (Below w.heap.size w w2) := hb1.trans (hb2.mono hb1.size)
  have k3 := HKC.out w2 _ _ HB2.out (hP1.later hb2) hP2
  clear k2 hP1 hP2 hb1 hb2
  go_wp2_with fail
  refine k3.mono ?_
  rintro r w3 ⟨s3, ao3, n3, cap3, ex3, rfl, hP3, hb3⟩
  clear k3
  obtain ⟨W3, hW3⟩ : ∃ W3, W3 = w3.alloc (.cells #[.bool s3, .slice ao3 n3 cap3, .int .i64 ex3] 28) := ⟨_, rfl⟩
  have HX : Hid (PN W3 (.agg #[.bool s3, .slice ao3 n3 cap3, .int .i64 ex3]) t3 ∧ Below w.heap.size w W3 ∧ W3.heap[w3.heap.size]? = some (.cells #[.bool s3, .slice ao3 n3 cap3, .int .i64 ex3] 28 (0, 0))) :=
    ⟨by rw [hW3]; exact hP3.later ((Below.refl _ _).alloc (Nat.le_refl _) _), by rw [hW3]; exact HB2.out.trans ((hb3.alloc hb3.size _).mono HB2.out.size), by rw [hW3]; exact heap_alloc_new _ _⟩
  clear hP3 hb3
  go_upto_region 6 with fail
  rw [← hW3]
  clear hW3
  generalize w3.heap.size = g3 at *
  obtain ⟨⟨a0, a1, a2⟩, -⟩ := box_cells HX.out.2.2
  have k4 := HKS.out W3 _ HX.out.1
  go_wp2_with fail
  refine k4.mono ?_
  rintro r w5 ⟨rfl, hb5⟩
  have HB5 : Hid (Below w.heap.size w w5) := HX.out.2.1.trans (hb5.mono HX.out.2.1.size)
  have HP5 : Hid (PN w5 (.agg #[.bool s3, .slice ao3 n3 cap3, .int .i64 ex3]) t3) := HX.out.1.later hb5
  obtain ⟨⟨a0, a1, a2⟩, -⟩ := box_cells (box_later HX.out.2.2 hb5 (lt_of_box HX.out.2.2))
  clear k4 hb5
  have kr := HR.out w5 _ HB5.out HP5.out
  go_wp2_with fail
  refine kr.mono ?_
  rintro r w6 ⟨rfl, hb6⟩
  have HB6 : Hid (Below w.heap.size w w6) := HB5.out.trans (hb6.mono HB5.out.size)
  clear kr hb6 a0 a1 a2
  go_wp2_with fail
  go_ret
  exact ⟨rfl, HB6.out⟩
end Go.Proofs.YtcdkkpjilgmncaaGreatDoor
namespace Go.Proofs.YtcdkkpjilgmncaaGreatDoor
set_option linter.unusedVariables false
set_option linter.unusedSimpArgs false
open Go.RowKit Go.Fl64
end Go.Proofs.YtcdkkpjilgmncaaGreatDoor
namespace Go.Proofs.YtcdkkpjilgmncaaGreatDoor
set_option linter.unusedVariables false
set_option linter.unusedSimpArgs false
open Go.RowKit
def BB (ty : TypeId) (P : World → Value → Prop) (w : World) (g : Nat) (s : Bool) (ao : Option Addr) (n cap : Nat) (e : Int) : Prop :=
  w.heap[g]? = some (.cells #[.bool s, .slice ao n cap, .int .i64 e] ty (0, 0)) ∧ P w (.agg #[.bool s, .slice ao n cap, .int .i64 e])
def Lasts (P : World → Value → Prop) : Prop := ∀ W W' A, Below W.heap.size W W' → P W A → P W' A
theorem BB.later {ty : TypeId} {P : World → Value → Prop} (hP : Lasts P) {w w' : World} {g : Nat} {s : Bool} {ao : Option Addr} {n cap : Nat} {e : Int} (h : BB ty P w g s ao n cap e) (hb : Below w.heap.size w w') : BB ty P w' g s ao n cap e :=
  ⟨box_later h.1 hb (Array.getElem?_eq_some_iff.1 h.1).1, hP _ _ _ hb h.2⟩
theorem BB.new {ty : TypeId} {P : World → Value → Prop} (hP : Lasts P) {w : World} {s : Bool} {ao : Option Addr} {n cap : Nat} {e : Int} (h : P w (.agg #[.bool s, .slice ao n cap, .int .i64 e])) : BB ty P (w.alloc (.cells #[.bool s, .slice ao n cap, .int .i64 e] ty)) w.heap.size s ao n cap e :=
  ⟨heap_alloc_new _ _, hP _ _ _ ((Below.refl _ _).alloc (Nat.le_refl _) _) h⟩
def Any (w : World) (A : Value) : Prop := True
theorem Any.lasts : Lasts Any := fun _ _ _ _ h => h
theorem cn_dlen {s : Bool} {z : Nat} {e : Int} : dlen (cn s z e).2.1 ≤ dlen z := by
  unfold cn
  by_cases h : z = 0
  · rw [if_pos h, dlen_zero]; exact Nat.zero_le _
  · rw [if_neg h]; exact dlen_mono (Nat.div_le_self _ _)
theorem maybe2_at {na nb : Bool} {ua va : Option Addr} {un uc vn vc x y g : Nat} {ea eb : Int} {W : World} (hg : W.heap[g]? = some (.cells #[.bool na, .slice ua un uc, .int .i64 ea, .bool nb, .slice va vn vc, .int .i64 eb] 28 (0, 0)))
    (h1 : At W ua un x) (h2 : At W va vn y) (hx : un ≤ 35184372088832) (hy : vn ≤ 35184372088832) :
    Calls Tryz.prog 44 #[.slice (some ⟨g, 0, none⟩) 2 2] W fun r w' => r = .returned (.bool (okN na un x ea && okN nb vn y eb)) ∧ Below W.heap.size W w' := by
  have k := c67 g 2 (fun i => if i = 0 then na else nb) (fun i => if i = 0 then ua else va) (fun i => if i = 0 then un else vn) (fun i => if i = 0 then uc else vc) (fun i => if i = 0 then x else y) (fun i => if i = 0 then ea else eb) W (by omega)
    (fun i hi => by rcases (show i = 0 ∨ i = 1 by omega) with rfl | rfl <;> simp [World.cell?, hg])
    (fun i hi => by rcases (show i = 0 ∨ i = 1 by omega) with rfl | rfl <;> simp [World.cell?, hg])
    (fun i hi => by rcases (show i = 0 ∨ i = 1 by omega) with rfl | rfl <;> simp [World.cell?, hg])
    (fun i hi => by rcases (show i = 0 ∨ i = 1 by omega) with rfl | rfl <;> simp <;> assumption)
    (fun i hi => by rcases (show i = 0 ∨ i = 1 by omega) with rfl | rfl <;> simp <;> omega)
  refine k.mono ?_
  rintro r w' ⟨rfl, hb⟩
  refine ⟨congrArg Ending.returned (congrArg Value.bool ?_), hb⟩
  rw [Bool.eq_iff_iff]
  simp only [decide_eq_true_eq, Bool.and_eq_true]
  constructor
  · intro h
    have h0 := h 0 (by omega)
    have h1 := h 1 (by omega)
    simp at h0 h1
    exact ⟨h0, h1⟩
  · rintro ⟨h0, h1⟩ i hi
    rcases (show i = 0 ∨ i = 1 by omega) with rfl | rfl
    · simpa using h0
    · simpa using h1
def PI (s : Bool) (n z : Nat) (e : Int) (W : World) (A : Value) : Prop := ∃ v b, A = .agg #[.bool s, v, .int .i64 e] ∧ Dn W b v n z
theorem PI.lasts (s : Bool) (n z : Nat) (e : Int) : Lasts (PI s n z e) := fun W W' A hb ⟨v, b, h1, h2⟩ => ⟨v, b, h1, h2.later hb⟩
theorem PN.lasts (t : Bool × Nat × Int) : Lasts (fun W A => PN W A t) := fun W W' A hb h => h.later hb
theorem RN.lasts (t : Bool × Nat × Int) : Lasts (fun W A => ∃ b, RN W b A t) := fun W W' A hb ⟨b, h⟩ => ⟨b, h.later hb⟩
theorem Ans.len {V : Bool} {t : Bool × Nat × Int} (h : V = true → dlen t.2.1 ≤ 35184372088832) : dlen (Ans V t).2.1 ≤ 35184372088832 := by
  unfold Ans
  cases V
  · rw [if_neg (by simp)]; show dlen 0 ≤ _; rw [dlen_zero]; omega
  · rw [if_pos rfl]; exact h rfl
end Go.Proofs.YtcdkkpjilgmncaaGreatDoor
namespace Go.Proofs.YtcdkkpjilgmncaaGreatDoor
set_option linter.unusedVariables false
set_option linter.unusedSimpArgs false
open Go.RowKit
set_option maxRecDepth 200000 in
theorem pratio_1 (na nb : Bool) (ua va : Option Addr) (un uc vn vc x y k bx by' : Nat) (ea eb mode : Int) (sg : Bool) (w : World) (hsg : Hid ((!(na == nb)) = sg)) (hT : Tab32 w) (h1 : Is w (.slice ua un uc) x) (h2 : Is w (.slice va vn vc) y) (hx : dlen x ≤ 3000) (hy : dlen y ≤ 3000) (hy0 : y ≠ 0) (he1 : -65536 ≤ ea) (he2 : ea ≤ 65536) (he3 : -65536 ≤ eb) (he4 : eb ≤ 65536) (hm : mode = 1 ∨ mode = 2 ∨ mode = 3)
    (hbx : bl x = bx) (hby : bl y = by') (hbx2 : bx ≤ 96000) (hby2 : by' ≤ 96000) (hk : max 0 (64 + (by' : Int) - (bx : Int)) = (k : Int)) (hk2 : k ≤ 100000) (hn0 : ((un : Int) == 0) = false) (hn1 : ((vn : Int) == 0) = false)
    (k67 : ∀ W g, Below w.heap.size w W → W.heap[g]? = some (.cells #[.bool na, .slice ua un uc, .int .i64 ea, .bool nb, .slice va vn vc, .int .i64 eb] 28 (0, 0)) → Calls Tryz.prog 44 #[.slice (some ⟨g, 0, none⟩) 2 2] W fun r w' => r = .returned (.bool true) ∧ Below W.heap.size W w') :
    Calls Tryz.prog 21 #[.agg #[.bool na, .slice ua un uc, .int .i64 ea], .agg #[.bool nb, .slice va vn vc, .int .i64 eb], .int .i64 mode] w fun r w' => r = .returned (.tuple #[.float .f64 (tfF sg (decide (x * 2 ^ k % y = 0)) (x * 2 ^ k / y) (ea - eb - k) mode), .int .i64 0]) ∧ Below w.heap.size w w' := by
  obtain ⟨W, hW⟩ : ∃ W, W = (w.alloc (.cells #[.bool na, .slice ua un uc, .int .i64 ea] 28)).alloc (.cells #[.bool nb, .slice va vn vc, .int .i64 eb] 28) := ⟨_, rfl⟩
  have hBW : Below w.heap.size w W := by rw [hW]; exact ((Below.refl _ _).alloc (Nat.le_refl _) _).alloc (by simp) _
  have hbA : W.heap[w.heap.size]? = some (.cells #[.bool na, .slice ua un uc, .int .i64 ea] 28 (0, 0)) := by
    rw [hW, Below.heap_alloc _ _ _ (by simp)]; exact heap_alloc_new _ _
  have hbB : W.heap[w.heap.size + 1]? = some (.cells #[.bool nb, .slice va vn vc, .int .i64 eb] 28 (0, 0)) := by
    have := heap_alloc_new (w.alloc (.cells #[.bool na, .slice ua un uc, .int .i64 ea] 28)) (.cells #[.bool nb, .slice va vn vc, .int .i64 eb] 28)
    rw [hW]; simpa using this
  have hsz : W.heap.size = w.heap.size + 1 + 1 := by rw [hW]; simp
  have k1 := k67 (W.alloc (.cells #[.bool na, .slice ua un uc, .int .i64 ea, .bool nb, .slice va vn vc, .int .i64 eb] 28)) (w.heap.size + 1 + 1) (hBW.alloc hBW.size _) (by rw [← hsz]; exact heap_alloc_new _ _)
  have HX : Hid (Below w.heap.size w W ∧ W.heap.size = w.heap.size + 1 + 1 ∧ W.heap[w.heap.size]? = some (.cells #[.bool na, .slice ua un uc, .int .i64 ea] 28 (0, 0)) ∧ W.heap[w.heap.size + 1]? = some (.cells #[.bool nb, .slice va vn vc, .int .i64 eb] 28 (0, 0))) := ⟨hBW, hsz, hbA, hbB⟩
  have HT : Hid (Tab32 w ∧ Is w (.slice ua un uc) x ∧ dlen x ≤ 3000 ∧ Is w (.slice va vn vc) y ∧ dlen y ≤ 3000 ∧ y ≠ 0) := ⟨hT, h1, hx, h2, hy, hy0⟩
  have k48 := fun W => c48 mode hm W
  clear hBW hsz hbA hbB k67 hT h1 hx h2 hy hy0
  go_enter Tryz.func21, Tryz.ntmps21
  go_wp2_with fail
  rw [← hW]
  clear hW
  refine k1.mono ?_
  rintro r w1 ⟨rfl, hb1⟩
  have HB1 : Hid (Below W.heap.size W w1) := ((Below.refl W.heap.size W).alloc (Nat.le_refl _) _).trans (hb1.mono (by simp))
  have HW1 : Hid (Below w.heap.size w w1) := HX.out.1.trans (HB1.out.mono HX.out.1.size)
  obtain ⟨⟨a0, a1, a2⟩, -⟩ := box_cells (box_later HX.out.2.2.1 HB1.out (by have := HX.out.2.1; omega))
  obtain ⟨⟨b0, b1, b2⟩, -⟩ := box_cells (box_later HX.out.2.2.2 HB1.out (by have := HX.out.2.1; omega))
  clear k1 hb1
  go_wp2_with fail
  refine (k48 w1).mono ?_
  rintro r w1' ⟨rfl, hw⟩
  replace hw := hw.symm
  subst hw
  clear k48
  have kla : ∀ d, Calls Tryz.prog 57 #[.slice ua un uc] (w1.drewN d) fun e w' => e = .returned (.int .i64 (bx : Nat)) ∧ w' = w1.drewN d := fun d => by
    have := c74 (w := w1.drewN d) (HT.out.2.1.later (HW1.out.trans ⟨rfl, rfl, rfl, Nat.le_refl _, fun _ _ => rfl⟩)) (by have := HT.out.2.2; omega)
    rw [hbx] at this; exact this
  have klb : ∀ d, Calls Tryz.prog 57 #[.slice va vn vc] (w1.drewN d) fun e w' => e = .returned (.int .i64 (by' : Nat)) ∧ w' = w1.drewN d := fun d => by
    have := c74 (w := w1.drewN d) (HT.out.2.2.2.1.later (HW1.out.trans ⟨rfl, rfl, rfl, Nat.le_refl _, fun _ _ => rfl⟩)) (by have := HT.out.2.2; omega)
    rw [hby] at this; exact this
  go_wp2
  go_quiet (first | (go_at_call 57; first | (with_reducible refine Calls.quiet_of_same (klb _)) | (with_reducible refine Calls.quiet_of_same (kla _))))
  have HB2 : Hid (Below W.heap.size W (w1.drewN nq)) := HB1.out.trans ⟨rfl, rfl, rfl, Nat.le_refl _, fun _ _ => rfl⟩
  obtain ⟨w2, hw2⟩ : ∃ w2, w2 = w1.drewN nq := ⟨_, rfl⟩
  rw [← hw2] at HB2 ⊢
  clear hw2 kla klb a0 a1 a2 b0 b1 b2
  have HK : Hid (∀ w', Below w2.heap.size w2 w' → ((w'.cell? ⟨w.heap.size, 0, none⟩ = some (.bool na) ∧ w'.cell? ⟨w.heap.size, 1, none⟩ = some (.slice ua un uc) ∧ w'.cell? ⟨w.heap.size, 2, none⟩ = some (.int .i64 ea)) ∧ (w'.cell? ⟨w.heap.size + 1, 0, none⟩ = some (.bool nb) ∧ w'.cell? ⟨w.heap.size + 1, 1, none⟩ = some (.slice va vn vc) ∧ w'.cell? ⟨w.heap.size + 1, 2, none⟩ = some (.int .i64 eb)))) := fun w' hb => ⟨(box_cells (box_later HX.out.2.2.1 (HB2.out.trans (hb.mono HB2.out.size)) (by have := HX.out.2.1; omega))).1, (box_cells (box_later HX.out.2.2.2 (HB2.out.trans (hb.mono HB2.out.size)) (by have := HX.out.2.1; omega))).1⟩
  obtain ⟨⟨a0, a1, a2⟩, b0, b1, b2⟩ := HK.out w2 (Below.refl _ _)
  have hBR : Below w2.heap.size w2 w2.drew := (Below.refl _ _).drew
  have hl : dlen (x * 2 ^ k) ≤ 7000 := by have := shl_len (x := x) (k := k) rfl; have := HT.out.2.2; omega
  have HL : Hid (dlen (x * 2 ^ k) ≤ 7000) := hl
  have kS : ∀ w', Below w2.heap.size w2 w' → Calls Tryz.prog 59 #[.slice ua un uc, .int .i64 (k : Int)] w' fun e w'' => ∃ v, e = .returned v ∧ Hid (Is w'' v (x * 2 ^ k)) ∧ Below w2.heap.size w2 w'' := fun w' hb => (c109 (HT.out.2.1.later (HX.out.1.trans ((HB2.out.trans (hb.mono HB2.out.size)).mono HX.out.1.size))) k (by have := HT.out.2.2; omega) (by omega)).mono fun r w'' ⟨v, e1, e2, e3⟩ => ⟨v, e1, e2.is, hb.trans (e3.mono hb.size)⟩
  have kD : ∀ v w', Hid (Is w' v (x * 2 ^ k)) → Below w2.heap.size w2 w' → Calls Tryz.prog 58 #[v, .slice va vn vc] w' fun e w'' => ∃ q, e = .returned (.tuple #[q, .bool (decide (x * 2 ^ k % y = 0))]) ∧ Hid (Is w'' q (x * 2 ^ k / y)) ∧ Below w2.heap.size w2 w'' := fun v w' hI hb => (c100 hI.out (HT.out.2.2.2.1.later (HX.out.1.trans ((HB2.out.trans (hb.mono HB2.out.size)).mono HX.out.1.size))) (by have := HL.out; omega) (by have := HT.out.2.2.2.2; omega) HT.out.2.2.2.2.2).mono fun r w'' ⟨q, e1, e2, e3⟩ => ⟨q, e1, e2.is, hb.trans (e3.mono hb.size)⟩
  obtain ⟨xb, hxb⟩ : ∃ xb : Bool, xb = decide (x * 2 ^ k % y = 0) := ⟨_, rfl⟩
  rw [← hxb] at kD
  have HXB : Hid (xb = decide (x * 2 ^ k % y = 0)) := hxb
  clear hxb hl
  go_upto_region 8 with fail
  go_cut [9, 10] from 42 to 50 (fun q b wx => b = .bool xb ∧ Hid (Is wx q (x * 2 ^ k / y)) ∧ Hid (Below w2.heap.size w2 wx))
  case first =>
    go_region_held3 (fun w' => ((w'.cell? ⟨w.heap.size, 0, none⟩ = some (.bool na) ∧ w'.cell? ⟨w.heap.size, 1, none⟩ = some (.slice ua un uc) ∧ w'.cell? ⟨w.heap.size, 2, none⟩ = some (.int .i64 ea)) ∧ (w'.cell? ⟨w.heap.size + 1, 0, none⟩ = some (.bool nb) ∧ w'.cell? ⟨w.heap.size + 1, 1, none⟩ = some (.slice va vn vc) ∧ w'.cell? ⟨w.heap.size + 1, 2, none⟩ = some (.int .i64 eb)))) (first | (with_reducible assumption) | exact ⟨⟨a0, a1, a2⟩, b0, b1, b2⟩ | (refine HK.out _ ?_; with_reducible assumption) | go_keep)
      (first | (go_at_call 59; refine (kS _ (by first | (with_reducible assumption) | exact hBR)).mono ?_; rintro r w5 ⟨v5, rfl, hI5, hb5⟩) | (go_at_call 58; refine (kD _ _ hI5 (by with_reducible assumption)).mono ?_; rintro r w6 ⟨v6, rfl, hI6, hb6⟩))
    all_goals go_wp2_with fail
    all_goals go_meet
    all_goals exact ⟨rfl, hI6, hb6⟩
  case rest =>
    obtain ⟨rfl, hI, hB⟩ := hcut
    obtain ⟨w3, rfl⟩ : ∃ w3 : World, w3 = wc := ⟨_, rfl⟩
    have HB3 : Hid (Below W.heap.size W w3) := HB2.out.trans (hB.out.mono HB2.out.size)
    clear a0 a1 a2 b0 b1 b2 kS kD hBR
    obtain ⟨⟨a0, a1, a2⟩, b0, b1, b2⟩ := HK.out w3 hB.out
    have kt := c110 (neg := sg) (exact := xb) (e := ea - eb - k) (mode := mode) (HT.out.1.later (HX.out.1.trans (HB3.out.mono HX.out.1.size))) hI.out (Nat.le_trans (dlen_mono (Nat.div_le_self _ _)) (by have := HL.out; omega)) (by omega) (by omega)
    go_wp2_with fail
    rw [hsg.out]
    refine kt.mono ?_
    rintro r w4 ⟨rfl, hb4⟩
    have HB4 : Hid (Below W.heap.size W w4) := HB3.out.trans (hb4.mono HB3.out.size)
    clear kt hb4
    go_wp2
    refine bodyPost_ret (results_tmp2 rfl _ _ _) rfl ?_
    exact ⟨congrArg (fun b => Ending.returned (Value.tuple #[.float .f64 (tfF sg b (x * 2 ^ k / y) (ea - eb - k) mode), .int .i64 0])) HXB.out, HX.out.1.trans (HB4.out.mono HX.out.1.size)⟩
end Go.Proofs.YtcdkkpjilgmncaaGreatDoor
namespace Go.Proofs.YtcdkkpjilgmncaaGreatDoor
set_option linter.unusedVariables false
set_option linter.unusedSimpArgs false
def bv (b : Nat) : Nat := if b < 4503599627370496 then b else (4503599627370496 + b % 4503599627370496) * 2 ^ (b / 4503599627370496 - 1)
theorem bv_at {j q : Nat} (h : (j = 0 ∧ q ≤ 9007199254740992) ∨ (4503599627370496 ≤ q ∧ q ≤ 9007199254740992)) : bv (j * 4503599627370496 + q) = q * 2 ^ j := by
  unfold bv
  by_cases h1 : j * 4503599627370496 + q < 4503599627370496
  · have hj : j = 0 := by omega
    subst hj
    rw [if_pos h1]; simp
  · rw [if_neg h1]
    by_cases h2 : q = 9007199254740992
    · subst h2
      rw [show (j * 4503599627370496 + 9007199254740992) % 4503599627370496 = 0 by omega, show (j * 4503599627370496 + 9007199254740992) / 4503599627370496 - 1 = j + 1 by omega, Nat.pow_succ]
      omega
    · have h3 : 4503599627370496 ≤ q := by omega
      rw [show (j * 4503599627370496 + q) % 4503599627370496 = q - 4503599627370496 by omega, show (j * 4503599627370496 + q) / 4503599627370496 - 1 = j by omega]
      rw [show 4503599627370496 + (q - 4503599627370496) = q by omega]
theorem bv_form (b : Nat) : ∃ j q, b = j * 4503599627370496 + q ∧ bv b = q * 2 ^ j ∧ bv (b + 1) = (q + 1) * 2 ^ j := by
  by_cases h : b < 4503599627370496
  · refine ⟨0, b, by omega, ?_, ?_⟩
    · have := bv_at (j := 0) (q := b) (.inl ⟨rfl, by omega⟩); simpa using this
    · have := bv_at (j := 0) (q := b + 1) (.inl ⟨rfl, by omega⟩); simpa using this
  · have e : b = (b / 4503599627370496 - 1) * 4503599627370496 + (4503599627370496 + b % 4503599627370496) := by omega
    refine ⟨_, _, e, ?_, ?_⟩
    · have := bv_at (j := b / 4503599627370496 - 1) (q := 4503599627370496 + b % 4503599627370496) (.inr ⟨by omega, by omega⟩)
      rw [← e] at this; exact this
    · have := bv_at (j := b / 4503599627370496 - 1) (q := 4503599627370496 + b % 4503599627370496 + 1) (.inr ⟨by omega, by omega⟩)
      rw [← Nat.add_assoc, ← e] at this; exact this
theorem bv_succ (b : Nat) : bv b < bv (b + 1) := by
  obtain ⟨j, q, -, h1, h2⟩ := bv_form b
  rw [h1, h2]
  exact Nat.mul_lt_mul_of_pos_right (by omega) (Nat.two_pow_pos j)
theorem bv_lt {a b : Nat} (h : a < b) : bv a < bv b := by
  induction b with
  | zero => omega
  | succ b ih =>
    by_cases h1 : a < b
    · exact Nat.lt_trans (ih h1) (bv_succ b)
    · obtain rfl : a = b := by omega
      exact bv_succ a
theorem bv_le {a b : Nat} (h : a ≤ b) : bv a ≤ bv b := by
  by_cases h1 : a = b
  · rw [h1]; exact Nat.le_refl _
  · exact Nat.le_of_lt (bv_lt (by omega))
theorem bv_inj_lt {a b : Nat} (h : bv a < bv b) : a < b := by
  apply Decidable.byContradiction
  intro h1
  have := bv_le (a := b) (b := a) (by omega)
  omega
structure IsR (x : Nat) (e : Int) (j X k : Nat) : Prop where
  eq : ∀ K : Nat, 0 ≤ e + K → 0 ≤ (j : Int) - 1074 - k + K → X * 2 ^ ((j : Int) - 1074 - k + K).toNat = x * 2 ^ (e + K).toNat
  lt : X / 2 ^ k < 9007199254740992
  ge : j = 0 ∨ 4503599627370496 ≤ X / 2 ^ k
structure Lies (A u b : Nat) (r m : Nat) : Prop where
  lo : bv b * u ≤ A
  hi : A < bv (b + 1) * u
  ex : r = 0 ↔ A = bv b * u
  half_lt : 2 * r < m ↔ 2 * A < (bv b + bv (b + 1)) * u
  half_eq : 2 * r = m ↔ 2 * A = (bv b + bv (b + 1)) * u
theorem IsR.lies {x : Nat} {e : Int} {j X k : Nat} (h : IsR x e j X k) {K : Nat} (hK : 1074 ≤ K) (h1 : 0 ≤ e + K) (h2 : 0 ≤ (j : Int) - 1074 - k + K) :
    Lies (x * 2 ^ (e + K).toNat) (2 ^ (K - 1074)) (j * 4503599627370496 + X / 2 ^ k) (X % 2 ^ k) (2 ^ k) := by
  have eq := h.eq K h1 h2
  have hl := h.lt
  have hg := h.ge
  have b0 : bv (j * 4503599627370496 + X / 2 ^ k) = X / 2 ^ k * 2 ^ j := bv_at (j := j) (q := X / 2 ^ k) (by
    generalize X / 2 ^ k = q at *
    rcases hg with g | g
    · exact .inl ⟨g, by omega⟩
    · exact .inr ⟨g, by omega⟩)
  have b1 : bv (j * 4503599627370496 + X / 2 ^ k + 1) = (X / 2 ^ k + 1) * 2 ^ j := by
    have := bv_at (j := j) (q := X / 2 ^ k + 1) (by
      generalize X / 2 ^ k = q at *
      rcases hg with g | g
      · exact .inl ⟨g, by omega⟩
      · exact .inr ⟨by omega, by omega⟩)
    rw [← Nat.add_assoc] at this
    exact this
  have hu : 2 ^ j * 2 ^ (K - 1074) = 2 ^ k * 2 ^ ((j : Int) - 1074 - k + K).toNat := by
    rw [← Nat.pow_add, ← Nat.pow_add, show j + (K - 1074) = k + ((j : Int) - 1074 - k + K).toNat by omega]
  have hX : X = 2 ^ k * (X / 2 ^ k) + X % 2 ^ k := (Nat.div_add_mod X (2 ^ k)).symm
  have hr : X % 2 ^ k < 2 ^ k := Nat.mod_lt _ (Nat.two_pow_pos k)
  have hU : 0 < 2 ^ ((j : Int) - 1074 - k + K).toNat := Nat.two_pow_pos _
  rw [← eq]
  generalize 2 ^ ((j : Int) - 1074 - k + K).toNat = U at *
  generalize X / 2 ^ k = q at *
  generalize X % 2 ^ k = r at *
  generalize 2 ^ k = M at *
  generalize 2 ^ j = J at *
  generalize 2 ^ (K - 1074) = u at *
  have e0 : bv (j * 4503599627370496 + q) * u = q * (M * U) := by rw [b0, Nat.mul_assoc, hu]
  have e1 : bv (j * 4503599627370496 + q + 1) * u = (q + 1) * (M * U) := by rw [b1, Nat.mul_assoc, hu]
  have eA : X * U = q * (M * U) + r * U := by rw [hX, Nat.add_mul]; congr 1; rw [← Nat.mul_assoc, Nat.mul_comm q M]
  have e1' : (q + 1) * (M * U) = q * (M * U) + M * U := by rw [Nat.add_mul, Nat.one_mul]
  have hrU : r * U < M * U := Nat.mul_lt_mul_of_pos_right hr hU
  have hr0 : r = 0 ↔ r * U = 0 := by
    constructor
    · rintro rfl; simp
    · intro h; rcases Nat.mul_eq_zero.1 h with h | h
      · exact h
      · omega
  have hh1 : 2 * r < M ↔ 2 * (r * U) < M * U := by
    rw [← Nat.mul_assoc]
    exact (Nat.mul_lt_mul_right hU).symm
  have hh2 : 2 * r = M ↔ 2 * (r * U) = M * U := by
    rw [← Nat.mul_assoc]
    exact (Nat.mul_left_inj (by omega)).symm
  refine ⟨?_, ?_, ?_, ?_, ?_⟩
  · rw [e0, eA]; omega
  · rw [e1, eA, e1']; omega
  · rw [hr0, e0, eA]; omega
  · rw [hh1, Nat.add_mul, e0, e1, eA, e1']; omega
  · rw [hh2, Nat.add_mul, e0, e1, eA, e1']; omega
structure Rounds (A u b way : Nat) : Prop where
  fl : ∃ b0, (bv b0 * u ≤ A ∧ A < bv (b0 + 1) * u) ∧ (way = 0 → b = b0) ∧ (way = 2 → b = if A = bv b0 * u then b0 else b0 + 1) ∧ (way = 1 → b = if 2 * A < (bv b0 + bv (b0 + 1)) * u then b0 else if 2 * A = (bv b0 + bv (b0 + 1)) * u then b0 + b0 % 2 else b0 + 1)
theorem floor_mono {A A' u b b' : Nat} (h : A ≤ A') (h1 : bv b * u ≤ A) (h2 : A' < bv (b' + 1) * u) : b ≤ b' := by
  have h3 : bv b * u < bv (b' + 1) * u := by omega
  have h4 : bv b < bv (b' + 1) := Nat.lt_of_mul_lt_mul_right h3
  have := bv_inj_lt h4
  omega
theorem Rounds.mono {A A' u b b' way : Nat} (hw : way = 0 ∨ way = 1 ∨ way = 2) (h : Rounds A u b way) (h' : Rounds A' u b' way) (hle : A ≤ A') : b ≤ b' := by
  obtain ⟨b0, ⟨l, g⟩, w0, w2, w1⟩ := h.fl
  obtain ⟨b1, ⟨l', g'⟩, w0', w2', w1'⟩ := h'.fl
  have hb := floor_mono hle l g'
  rcases hw with hw | hw | hw
  · rw [w0 hw, w0' hw]; exact hb
  · rw [w1 hw, w1' hw]
    by_cases he : b0 = b1
    · subst he
      split
      · split
        · exact Nat.le_refl _
        · split <;> omega
      · split
        · split
          · omega
          · split
            · exact Nat.le_refl _
            · have : b0 % 2 < 2 := Nat.mod_lt _ (by omega)
              omega
        · rw [if_neg (by omega), if_neg (by omega)]; exact Nat.le_refl _
    · have hlt : b0 < b1 := by omega
      have h1 : (if 2 * A < (bv b0 + bv (b0 + 1)) * u then b0 else if 2 * A = (bv b0 + bv (b0 + 1)) * u then b0 + b0 % 2 else b0 + 1) ≤ b0 + 1 := by
        split
        · omega
        · split <;> omega
      have h2 : b1 ≤ (if 2 * A' < (bv b1 + bv (b1 + 1)) * u then b1 else if 2 * A' = (bv b1 + bv (b1 + 1)) * u then b1 + b1 % 2 else b1 + 1) := by
        split
        · omega
        · split <;> omega
      omega
  · rw [w2 hw, w2' hw]
    by_cases he : b0 = b1
    · subst he
      split
      · split <;> omega
      · rw [if_neg (by omega)]; exact Nat.le_refl _
    · split
      · split <;> omega
      · split <;> omega
theorem Rounds.order {A u b0 b1 b2 : Nat} (h0 : Rounds A u b0 0) (h1 : Rounds A u b1 1) (h2 : Rounds A u b2 2) : b0 ≤ b1 ∧ b1 ≤ b2 ∧ bv b0 * u ≤ A ∧ A ≤ bv b2 * u ∧ (b0 = b2 → A = bv b0 * u) := by
  obtain ⟨c0, ⟨l0, g0⟩, w0, -, -⟩ := h0.fl
  obtain ⟨c1, ⟨l1, g1⟩, -, -, w1⟩ := h1.fl
  obtain ⟨c2, ⟨l2, g2⟩, -, w2, -⟩ := h2.fl
  have e1 : c1 = c0 := by
    have := floor_mono (Nat.le_refl A) l1 g0
    have := floor_mono (Nat.le_refl A) l0 g1
    omega
  have e2 : c2 = c0 := by
    have := floor_mono (Nat.le_refl A) l2 g0
    have := floor_mono (Nat.le_refl A) l0 g2
    omega
  subst e1; subst e2
  have r0 := w0 rfl
  have r1 := w1 rfl
  have r2 := w2 rfl
  subst r0
  have hu : 0 < u := by
    apply Decidable.byContradiction
    intro h
    have : u = 0 := by omega
    subst this
    simp at g0
  have hs : bv b0 * u < bv (b0 + 1) * u := Nat.mul_lt_mul_of_pos_right (bv_succ b0) hu
  have hm : (bv b0 + bv (b0 + 1)) * u = bv b0 * u + bv (b0 + 1) * u := Nat.add_mul ..
  have hp : b0 % 2 < 2 := Nat.mod_lt _ (by omega)
  refine ⟨?_, ?_, l0, ?_, ?_⟩
  · rw [r1]
    split
    · omega
    · split <;> omega
  · rw [r1, r2]
    by_cases he : A = bv b0 * u
    · rw [if_pos he, if_pos (by omega)]; exact Nat.le_refl _
    · rw [if_neg he]
      split
      · omega
      · split <;> omega
  · rw [r2]
    split
    · omega
    · omega
  · intro h
    rw [r2] at h
    split at h
    · assumption
    · omega
end Go.Proofs.YtcdkkpjilgmncaaGreatDoor
namespace Go.Proofs.YtcdkkpjilgmncaaGreatDoor
set_option linter.unusedVariables false
set_option linter.unusedSimpArgs false
open Go.RowKit Go.Fl64
open Ie
theorem or_one_half (y : Nat) : (y ||| 1) / 2 = y / 2 := by rw [Nat.or_div_two]; simp
theorem or_one_odd (y : Nat) : (y ||| 1) % 2 = 1 := Nat.or_mod_two_eq_one.2 (.inr rfl)
theorem or_one_eq (y : Nat) : y ||| 1 = 2 * (y / 2) + 1 := by
  have h1 := or_one_half y
  have h2 := or_one_odd y
  omega
theorem rnd_sticky {x D k y m : Nat} {way : Int} (hk : 2 ≤ k) (hy : y = x / 2 ^ D) (hm : (x % 2 ^ D = 0 ∧ m = y) ∨ (x % 2 ^ D ≠ 0 ∧ m = 2 * (y / 2) + 1)) : rnd m k way = rnd x (D + k) way := by
  obtain ⟨h, rfl⟩ : ∃ h, k = h + 2 := ⟨k - 2, by omega⟩
  have e2 : (2 : Nat) ^ (h + 2) = 2 * (2 * 2 ^ h) := by rw [Nat.pow_succ, Nat.pow_succ]; omega
  have eD : (2 : Nat) ^ (D + (h + 2)) = 2 ^ D * 2 ^ (h + 2) := Nat.pow_add ..
  have hq : m / 2 ^ (h + 2) = x / 2 ^ (D + (h + 2)) := by
    rw [eD, ← Nat.div_div_eq_div_mul, ← hy]
    rcases hm with ⟨-, hm⟩ | ⟨-, hm⟩
    · rw [hm]
    · have hd : ∀ z, z / (2 * (2 * 2 ^ h)) = z / 2 / (2 * 2 ^ h) := fun z => (Nat.div_div_eq_div_mul ..).symm
      rw [e2, hd, hd, hm, show (2 * (y / 2) + 1) / 2 = y / 2 by omega]
  have hR : x % 2 ^ (D + (h + 2)) = (y % 2 ^ (h + 2)) * 2 ^ D + x % 2 ^ D := by
    rw [eD, Nat.mod_mul, hy, Nat.mul_comm]; omega
  have hM : (x % 2 ^ D = 0 ∧ m % 2 ^ (h + 2) = y % 2 ^ (h + 2)) ∨ (x % 2 ^ D ≠ 0 ∧ m % 2 ^ (h + 2) = 2 * (y % 2 ^ (h + 2) / 2) + 1) := by
    rcases hm with ⟨h1, hm⟩ | ⟨h1, hm⟩
    · exact .inl ⟨h1, by rw [hm]⟩
    · refine .inr ⟨h1, ?_⟩
      rw [hm, e2]
      generalize 2 ^ h = H
      rw [Nat.mod_mul, Nat.mod_mul (x := y), show (2 * (y / 2) + 1) % 2 = 1 by omega, show (2 * (y / 2) + 1) / 2 = y / 2 by omega]
      generalize y / 2 % (2 * H) = t
      omega
  have hrx : x % 2 ^ D < 2 ^ D := Nat.mod_lt _ (Nat.two_pow_pos D)
  have hp : 0 < 2 ^ D := Nat.two_pow_pos D
  have i0 : m % 2 ^ (h + 2) = 0 ↔ x % 2 ^ (D + (h + 2)) = 0 := by
    rw [hR]
    rcases hM with ⟨h1, h2⟩ | ⟨h1, h2⟩
    · rw [h1, h2, Nat.add_zero]
      constructor
      · intro e; rw [e, Nat.zero_mul]
      · intro e; rcases Nat.mul_eq_zero.1 e with e | e
        · exact e
        · omega
    · rw [h2]; omega
  have key : ∀ c : Nat, c = 2 * 2 ^ h → (2 ^ (h + 2) < 2 * (m % 2 ^ (h + 2)) ↔ 2 ^ (D + (h + 2)) < 2 * (x % 2 ^ (D + (h + 2)))) ∧ (2 * (m % 2 ^ (h + 2)) = 2 ^ (h + 2) ↔ 2 * (x % 2 ^ (D + (h + 2))) = 2 ^ (D + (h + 2))) := by
    intro c hc
    rw [hR, eD]
    have e3 : (2 : Nat) ^ (h + 2) = 2 * c := by rw [e2, hc]
    rw [e3] at hM ⊢
    have hc2 : c % 2 = 0 := by omega
    generalize y % (2 * c) = ry at *
    generalize m % (2 * c) = rm at *
    generalize x % 2 ^ D = rx at *
    generalize 2 ^ D = T at *
    have a1 : T * (2 * c) = 2 * (c * T) := by rw [Nat.mul_comm T, Nat.mul_assoc]
    rw [a1]
    rcases hM with ⟨h1, h2⟩ | ⟨h1, h2⟩
    · subst h1
      rw [h2, Nat.add_zero]
      constructor
      · constructor
        · intro g; have := Nat.mul_lt_mul_of_pos_right (show c < ry by omega) hp; omega
        · intro g; have : c * T < ry * T := by omega
          have := Nat.lt_of_mul_lt_mul_right this; omega
      · constructor
        · intro g; rw [show ry = c by omega]
        · intro g; have := Nat.eq_of_mul_eq_mul_right hp (show ry * T = c * T by omega); omega
    · have hlt : ry < c → ry * T + rx < c * T := by
        intro g
        have := Nat.mul_le_mul_right T (show ry + 1 ≤ c by omega)
        rw [Nat.add_mul, Nat.one_mul] at this
        omega
      have hge : c ≤ ry → c * T < ry * T + rx := by
        intro g
        have := Nat.mul_le_mul_right T g
        omega
      by_cases g : ry < c
      · have a2 := hlt g
        have a3 : rm < c := by omega
        clear hlt hge
        refine ⟨⟨fun g2 => ?_, fun g2 => ?_⟩, ⟨fun g2 => ?_, fun g2 => ?_⟩⟩
        · omega
        · omega
        · omega
        · omega
      · have a2 := hge (by omega)
        have a3 : c < rm := by omega
        clear hlt hge
        refine ⟨⟨fun g2 => ?_, fun g2 => ?_⟩, ⟨fun g2 => ?_, fun g2 => ?_⟩⟩
        · omega
        · omega
        · omega
        · omega
  have k1 := key _ rfl
  unfold rnd
  have hrup : Ie.rup m (h + 2) way = Ie.rup x (D + (h + 2)) way := by
    unfold Ie.rup
    rw [hq]
    simp only [k1.1, k1.2, ne_eq, i0]
  rw [hrup, hq]
theorem tz_iff {x n : Nat} (h0 : x ≠ 0) : tz x < n ↔ x % 2 ^ n ≠ 0 := by
  obtain ⟨h1, h2⟩ := tz_spec x x (Nat.le_refl _) h0
  constructor
  · intro hlt he
    have hd : 2 ^ (tz x + 1) ∣ x := Nat.dvd_trans (Nat.pow_dvd_pow 2 (by omega)) (Nat.dvd_of_mod_eq_zero he)
    obtain ⟨c, hc⟩ := hd
    have h3 : x / 2 ^ tz x = 2 * c := by
      rw [Nat.pow_succ, Nat.mul_assoc] at hc
      exact Nat.div_eq_of_eq_mul_right (Nat.two_pow_pos _) hc
    omega
  · intro hne
    apply Decidable.byContradiction
    intro hge
    apply hne
    have : 2 ^ n ∣ x := by rw [← h1]; exact Nat.dvd_trans (Nat.pow_dvd_pow 2 (by omega)) (Nat.dvd_mul_right _ _)
    exact Nat.mod_eq_zero_of_dvd this
theorem raw_of {x : Nat} {e : Int} {X m j k k1 : Nat} {s P : Int} {e' : Int} (hs : s = e' - (nz m : Int)) (hP : P = pl m e') (hk1 : (k1 : Int) = P - s) (hj : (j : Int) = P + 1074) (hr : ∀ way, rnd (tp m) k1 way = rnd X k way) (way : Int) : raw m e' way = ((j * 4503599627370496 + rnd X k way : Nat) : Int) := by
  unfold raw
  rw [← hP, ← hs, show (P - s).toNat = k1 by omega, hr]
  omega
theorem raw_is {x : Nat} {e : Int} (h0 : x ≠ 0) : ∃ j X k, IsR x e j X k ∧ (∀ way, raw (tfM true x) (e + (tfD x : Int)) way = ((j * 4503599627370496 + rnd X k way : Nat) : Int)) ∧ (k : Int) ≤ j + 1074 + (if e < 0 then -e else 0) + 64 ∧ -64 + min e (-1074) ≤ (j : Int) - 1074 - k := by
  by_cases hD : bl x ≤ 64
  · have eD : tfD x = 0 := by unfold tfD; omega
    have eM : tfM true x = x := by unfold tfM; rw [eD]; simp
    rw [eM, eD]
    have hx64 : x < 18446744073709551616 := (bl_le x 64).1 hD
    obtain ⟨n1, n2, n3⟩ := nz_facts x hx64 h0
    obtain ⟨P, hP⟩ : ∃ P, P = pl x (e + ((0 : Nat) : Int)) := ⟨_, rfl⟩
    have hPl := hP
    unfold pl at hPl
    have hPc : (P = -1074 ∧ e - nz x + 11 < -1074) ∨ (P = e - nz x + 11 ∧ -1074 ≤ P) := by
      split at hPl
      · exact .inl ⟨hPl, by omega⟩
      · exact .inr ⟨by omega, by omega⟩
    refine ⟨(P + 1074).toNat, tp x, (P - (e - nz x)).toNat, ⟨?_, ?_, ?_⟩, fun way => raw_of (x := x) (e := e) (m := x) (s := e - nz x) (P := P) (k1 := (P - (e - nz x)).toNat) (by omega) hP (by omega) (by omega) (fun _ => rfl) way, ?_, ?_⟩
    · intro K hK1 hK2
      unfold tp
      rw [Nat.mul_assoc, ← Nat.pow_add]
      congr 2
      omega
    · have : 2 ^ 11 ≤ 2 ^ (P - (e - nz x)).toNat := Nat.pow_le_pow_right (by omega) (by omega)
      refine Nat.div_lt_of_lt_mul ?_
      have : 2 ^ 11 * 9007199254740992 ≤ 2 ^ (P - (e - nz x)).toNat * 9007199254740992 := Nat.mul_le_mul_right _ this
      omega
    · rcases hPc with h | h
      · exact .inl (by omega)
      · refine .inr ?_
        rw [show (P - (e - nz x)).toNat = 11 by omega]
        omega
    · split <;> omega
    · omega
  · have eD : bl x = tfD x + 64 := by unfold tfD; omega
    obtain ⟨D, hDD⟩ : ∃ D, D = tfD x := ⟨_, rfl⟩
    rw [← hDD] at eD ⊢
    have hx1 : x < 2 ^ (D + 64) := by rw [← eD]; exact lt_bl x
    have hx2 : 2 ^ (D + 63) ≤ x := by have := le_bl h0; rw [eD] at this; exact this
    have hp : 0 < 2 ^ D := Nat.two_pow_pos D
    obtain ⟨y, hy⟩ : ∃ y, y = x / 2 ^ D := ⟨_, rfl⟩
    have hy1 : y < 18446744073709551616 := by rw [hy]; refine Nat.div_lt_of_lt_mul ?_; rw [Nat.pow_add] at hx1; exact hx1
    have hy2 : 9223372036854775808 ≤ y := by rw [hy, Nat.le_div_iff_mul_le hp, Nat.mul_comm]; rw [Nat.pow_add] at hx2; exact hx2
    have hm : (x % 2 ^ D = 0 ∧ tfM true x = y) ∨ (x % 2 ^ D ≠ 0 ∧ tfM true x = 2 * (y / 2) + 1) := by
      unfold tfM
      rw [← hDD, ← hy]
      by_cases hz : tz x < D
      · exact .inr ⟨(tz_iff h0).1 hz, by rw [decide_eq_true hz]; exact or_one_eq y⟩
      · refine .inl ⟨?_, by rw [decide_eq_false hz]; rfl⟩
        apply Decidable.byContradiction
        intro h
        exact hz ((tz_iff h0).2 h)
    obtain ⟨m, hmm⟩ : ∃ m, m = tfM true x := ⟨_, rfl⟩
    rw [← hmm] at hm ⊢
    have hm1 : m < 18446744073709551616 := by rcases hm with h | h <;> omega
    have hm2 : 9223372036854775808 ≤ m := by rcases hm with h | h <;> omega
    have hbm : bl m = 64 := bl_eq (n := 64) hm1 (.inr hm2)
    have hnz : nz m = 0 := by unfold nz; rw [← bl_bitLen, hbm]
    have htp : tp m = m := by unfold tp; rw [hnz]; simp
    obtain ⟨P, hP⟩ : ∃ P, P = pl m (e + (D : Int)) := ⟨_, rfl⟩
    have hPl := hP
    unfold pl at hPl
    rw [hnz] at hPl
    have hPc : (P = -1074 ∧ e + D + 11 < -1074) ∨ (P = e + D + 11 ∧ -1074 ≤ P) := by
      split at hPl
      · exact .inl ⟨hPl, by omega⟩
      · exact .inr ⟨by omega, by omega⟩
    have hq : ∀ k1, 11 ≤ k1 → x / 2 ^ (D + k1) = y / 2 ^ k1 := fun k1 _ => by rw [Nat.pow_add, ← Nat.div_div_eq_div_mul, hy]
    refine ⟨(P + 1074).toNat, x, D + (P - (e + D)).toNat, ⟨?_, ?_, ?_⟩, fun way => raw_of (x := x) (e := e) (m := m) (s := e + D) (P := P) (k1 := (P - (e + D)).toNat) (by rw [hnz]; omega) hP (by omega) (by omega) (fun way => by rw [htp]; exact rnd_sticky (by omega) hy hm) way, ?_, ?_⟩
    · intro K hK1 hK2
      congr 2
      omega
    · rw [hq _ (by omega)]
      have : 2 ^ 11 ≤ 2 ^ (P - (e + D)).toNat := Nat.pow_le_pow_right (by omega) (by omega)
      refine Nat.div_lt_of_lt_mul ?_
      have : 2 ^ 11 * 9007199254740992 ≤ 2 ^ (P - (e + D)).toNat * 9007199254740992 := Nat.mul_le_mul_right _ this
      omega
    · rcases hPc with h | h
      · exact .inl (by omega)
      · refine .inr ?_
        rw [hq _ (by omega), show (P - (e + D)).toNat = 11 by omega]
        omega
    · split <;> omega
    · omega
end Go.Proofs.YtcdkkpjilgmncaaGreatDoor
/- A float is made anew of its odd part and its exponent, whatever the way of rounding. -/
namespace Go.Proofs.YtcdkkpjilgmncaaGreatDoor.Ie
set_option linter.unusedVariables false
set_option linter.unusedSimpArgs false
open Go.RowKit Go.Fl64
end Go.Proofs.YtcdkkpjilgmncaaGreatDoor.Ie
namespace Go.Proofs.YtcdkkpjilgmncaaGreatDoor
set_option linter.unusedVariables false
set_option linter.unusedSimpArgs false
open Go.RowKit Go.Fl64
def nN (a : Nat) : Bool := if mag a = 0 then false else neg a
def nM (a : Nat) : Nat := (Ie.sM a).toNat
theorem val_mant (a : Nat) (hf : mag a < 9218868437227405312) : val (mag a) = Ie.mant a * 2 ^ (Ie.lp a + 1074).toNat ∧ -1074 ≤ Ie.lp a ∧ Ie.lp a ≤ 972 := by
  unfold val Ie.mant Ie.lp
  by_cases h : mag a < 4503599627370496
  · rw [if_pos h, if_pos h]
    have : (-1075 + max 1 ((mag a / 4503599627370496 : Nat) : Int) + 1074).toNat = 0 := by omega
    rw [this, Nat.pow_zero, Nat.mul_one]
    exact ⟨rfl, by omega, by omega⟩
  · rw [if_neg h, if_neg h]
    have : (-1075 + max 1 ((mag a / 4503599627370496 : Nat) : Int) + 1074).toNat = mag a / 4503599627370496 - 1 := by omega
    rw [this]
    exact ⟨rfl, by omega, by omega⟩
theorem num_zero {a : Nat} (h0 : mag a = 0) : nM a = 0 ∧ Ie.sE a = 0 := by
  constructor
  · unfold nM Ie.sM
    rw [if_neg (by omega), if_pos h0]
    rfl
  · unfold Ie.sE
    rw [if_neg (by omega), if_pos h0]
theorem num_parts {a : Nat} (hf : mag a < 9218868437227405312) (h0 : mag a ≠ 0) :
    nM a % 2 = 1 ∧ nM a < 9007199254740992 ∧ -1074 ≤ Ie.sE a ∧ Ie.sE a ≤ 1100 ∧ nM a * 2 ^ (Ie.sE a + 1074).toNat = val (mag a) := by
  obtain ⟨v1, v2, v3⟩ := val_mant a hf
  have hb := Ie.mant_bound a
  have hne := Ie.mant_ne h0
  have hct : Lib.ctz 64 (Ie.mant a) = tz (Ie.mant a) := tz_ctz hne (by omega)
  obtain ⟨h1, h2⟩ := tz_spec _ (Ie.mant a) (Nat.le_refl _) hne
  have e1 : nM a = Ie.mant a / 2 ^ tz (Ie.mant a) := by
    unfold nM Ie.sM
    rw [if_neg (by omega), if_neg h0, hct]
    have : (Ie.mant a : Int) / 2 ^ tz (Ie.mant a) = ((Ie.mant a / 2 ^ tz (Ie.mant a) : Nat) : Int) := by simp
    rw [this, Int.toNat_natCast]
  have e2 : Ie.sE a = Ie.lp a + (tz (Ie.mant a) : Int) := by
    unfold Ie.sE
    rw [if_neg (by omega), if_neg h0, hct]
  rw [v1]
  generalize Ie.mant a = M at *
  generalize tz M = t at *
  generalize Ie.lp a = p at *
  have hq : M / 2 ^ t ≤ M := Nat.div_le_self ..
  have ht : t ≤ 53 := by
    apply Nat.le_of_not_lt
    intro h
    have h3 : 1 ≤ M / 2 ^ t := Nat.pos_of_ne_zero fun e0 => by rw [e0] at h2; simp at h2
    have h4 := Nat.mul_le_mul_left (2 ^ t) h3
    have h5 : 2 ^ 53 ≤ 2 ^ t := Nat.pow_le_pow_right (by omega) (by omega)
    have h6 : (2 : Nat) ^ 53 = 9007199254740992 := by decide
    omega
  refine ⟨by rw [e1]; exact h2, by rw [e1]; omega, by omega, by omega, ?_⟩
  rw [e1, e2, show (p + (t : Int) + 1074).toNat = t + (p + 1074).toNat by omega, Nat.pow_add, ← Nat.mul_assoc, Nat.mul_comm (M / 2 ^ t), h1]
theorem cmp_scale {X Y : Nat} (k : Nat) {p q : Nat} (h1 : X * 2 ^ k = p) (h2 : Y * 2 ^ k = q) : cmpI X Y = cmpI p q := by
  have hp := Nat.two_pow_pos k
  rcases cmpI_cases (X : Int) (Y : Int) with h | h | h
  · have : X * 2 ^ k < Y * 2 ^ k := Nat.mul_lt_mul_of_pos_right (by omega) hp
    rw [h.2]; unfold cmpI; rw [if_pos (by omega)]
  · have : Y * 2 ^ k < X * 2 ^ k := Nat.mul_lt_mul_of_pos_right (by omega) hp
    rw [h.2]; unfold cmpI; rw [if_neg (by omega), if_pos (by omega)]
  · have e : X = Y := by omega
    subst e
    rw [h.2]; unfold cmpI; rw [if_neg (by omega), if_neg (by omega)]
theorem ord_num {a b : Nat} (ha : mag a < 9218868437227405312) (hb : mag b < 9218868437227405312) : ordN (nN a) (nM a) (Ie.sE a) (nN b) (nM b) (Ie.sE b) = cmpI (stp a) (stp b) := by
  have sa := sgn_mag a
  have sb := sgn_mag b
  unfold ordN nN
  by_cases a0 : mag a = 0
  · obtain ⟨a1, a2⟩ := num_zero a0
    have ea : stp a = 0 := by omega
    rw [if_pos a0, a1, a2, dlen_zero, sgI_zero, ea]
    by_cases b0 : mag b = 0
    · obtain ⟨b1, b2⟩ := num_zero b0
      have eb : stp b = 0 := by omega
      rw [if_pos b0, b1, dlen_zero, sgI_zero, if_pos rfl, eb, Int.zero_mul]
      decide
    · obtain ⟨b1, -⟩ := num_parts hb b0
      have hd : dlen (nM b) ≠ 0 := fun e => by rw [dlen_eq_zero.1 e] at b1; simp at b1
      rw [if_neg b0, sgI_pos hd]
      rcases sb with ⟨s1, s2⟩ | ⟨s1, s2⟩
      · rw [s2, s1]
        simp only [Bool.false_eq_true, if_false]
        unfold cmpI
        rw [if_neg (by omega), if_pos (by omega), if_pos (by omega)]
      · rw [s2, s1]
        simp only [if_true]
        unfold cmpI
        rw [if_neg (by omega), if_neg (by omega), if_pos (by omega), if_neg (by omega), if_pos (by omega)]
  · obtain ⟨a1, a2, a3, a4, a5⟩ := num_parts ha a0
    have hda : dlen (nM a) ≠ 0 := fun e => by rw [dlen_eq_zero.1 e] at a1; simp at a1
    rw [if_neg a0, sgI_pos hda]
    by_cases b0 : mag b = 0
    · obtain ⟨b1, b2⟩ := num_zero b0
      have eb : stp b = 0 := by omega
      rw [if_pos b0, b1, dlen_zero, sgI_zero, eb]
      rcases sa with ⟨s1, s2⟩ | ⟨s1, s2⟩
      · rw [s2, s1]
        simp only [Bool.false_eq_true, if_false]
        unfold cmpI
        rw [if_neg (by omega), if_neg (by omega), if_pos (by omega), if_neg (by omega), if_pos (by omega)]
      · rw [s2, s1]
        simp only [if_true]
        unfold cmpI
        rw [if_neg (by omega), if_pos (by omega), if_pos (by omega)]
    · obtain ⟨b1, b2, b3, b4, b5⟩ := num_parts hb b0
      have hdb : dlen (nM b) ≠ 0 := fun e => by rw [dlen_eq_zero.1 e] at b1; simp at b1
      rw [if_neg b0, sgI_pos hdb]
      have key : cmpI (nM a * 2 ^ (Ie.sE a - min (Ie.sE a) (Ie.sE b)).toNat : Nat) (nM b * 2 ^ (Ie.sE b - min (Ie.sE a) (Ie.sE b)).toNat : Nat) = cmpI (mag a) (mag b) := by
        have k1 := cmp_scale (X := nM a * 2 ^ (Ie.sE a - min (Ie.sE a) (Ie.sE b)).toNat) (Y := nM b * 2 ^ (Ie.sE b - min (Ie.sE a) (Ie.sE b)).toNat) (min (Ie.sE a) (Ie.sE b) + 1074).toNat (p := val (mag a)) (q := val (mag b))
          (by rw [Nat.mul_assoc, ← Nat.pow_add, ← a5]; congr 2; omega) (by rw [Nat.mul_assoc, ← Nat.pow_add, ← b5]; congr 2; omega)
        rw [k1]
        have g1 := val_lt (mag a) (mag b)
        have g2 := val_lt (mag b) (mag a)
        rcases cmpI_cases (mag a : Int) (mag b : Int) with h | h | h
        · rw [h.2]; unfold cmpI; rw [if_pos (by omega)]
        · rw [h.2]; unfold cmpI; rw [if_neg (by omega), if_pos (by omega)]
        · rw [h.2]; unfold cmpI; rw [if_neg (by omega), if_neg (by omega)]
      rw [key]
      rcases sa with ⟨s1, s2⟩ | ⟨s1, s2⟩ <;> rcases sb with ⟨t1, t2⟩ | ⟨t1, t2⟩ <;> rw [s1, s2, t1, t2]
      · simp only [Bool.false_eq_true, if_false, if_true]
        omega
      · simp only [Bool.false_eq_true, if_false, if_true]
        rw [if_neg (by omega)]
        unfold cmpI
        rw [if_neg (by omega), if_pos (by omega), if_neg (by omega), if_pos (by omega)]
      · simp only [Bool.false_eq_true, if_false, if_true]
        rw [if_neg (by omega)]
        unfold cmpI
        rw [if_pos (by omega), if_pos (by omega)]
      · simp only [if_true]
        rcases cmpI_cases (mag a : Int) (mag b : Int) with h | h | h
        · rw [h.2]; unfold cmpI; rw [if_neg (by omega), if_pos (by omega)]; rfl
        · rw [h.2]; unfold cmpI; rw [if_pos (by omega)]; rfl
        · rw [h.2]; unfold cmpI; rw [if_neg (by omega), if_neg (by omega)]; rfl
end Go.Proofs.YtcdkkpjilgmncaaGreatDoor
