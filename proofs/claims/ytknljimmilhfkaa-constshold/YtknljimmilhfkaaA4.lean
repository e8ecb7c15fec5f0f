/- Own work: contracts of the program's functions, part 4: CNA CNB CNC. -/
import Derived.Test.YtknljimmilhfkaaA3

/- Pi, and every constant, as bounds. -/
namespace Go.Proofs.Ytknljimmilhfkaa
set_option linter.unusedVariables false
set_option linter.unusedSimpArgs false
open Go.RowKit

/-- small enough: a number, and what may be between its bounds -/
def Sm (M G : Nat) : Prop := M < B ^ 130 ∧ G < B
theorem OutK.arg {Z p M G : Nat} {W w' : World} {q : Int} {r : Ending} (h : OutK Z p M G W q r w') : ∃ a1 n1 c1 a2 n2 c2, r = .returned (.agg #[.slice a1 n1 c1, .slice a2 n2 c2, .int .i64 q]) ∧ ArgK Z p M G w' (.agg #[.slice a1 n1 c1, .slice a2 n2 c2, .int .i64 q]) q ∧ Below W.heap.size W w' := by
  obtain ⟨lo, hi, hk, a1, n1, c1, a2, n2, c2, e, i1, i2, hb⟩ := h
  exact ⟨a1, n1, c1, a2, n2, c2, e, ⟨lo, hi, hk, a1, n1, c1, a2, n2, c2, rfl, i1, i2⟩, hb⟩
theorem ktimes {Z p M G n : Nat} {w : World} {A : Value} {q : Int} (h : ArgK Z p M G w A q) (s : Sm M G) (hn : n < 18446744073709551616) : Calls Try.prog 32 #[A, .int .u64 n] w fun r w' => OutK Z p (M * n) (G * n) w q r w' := by
  obtain ⟨lo, hi, hk, hB⟩ := h
  obtain ⟨d1, d2⟩ := hk.dl s.1 s.2 (by decide)
  exact (btimes hB (by omega) (by omega) hn).mono fun r w' h => ⟨_, _, hk.times n, h⟩
theorem kplus {Z p M G N H : Nat} {w : World} {A C : Value} {q q' : Int} (h1 : ArgK Z p M G w A q) (h2 : ArgK Z p N H w C q') (s1 : Sm M G) (s2 : Sm N H) : Calls Try.prog 53 #[A, C] w fun r w' => OutK Z p (M + N) (G + H) w q r w' := by
  obtain ⟨lo, hi, hk, hB⟩ := h1
  obtain ⟨lo', hi', hk', hB'⟩ := h2
  obtain ⟨d1, d2⟩ := hk.dl s1.1 s1.2 (by decide)
  obtain ⟨d3, d4⟩ := hk'.dl s2.1 s2.2 (by decide)
  exact (bplus hB hB' (by omega) (by omega) (by omega) (by omega)).mono fun r w' h => ⟨_, _, hk.plus hk', h⟩
theorem kminus {Z p M G N H : Nat} {w : World} {A C : Value} {q q' : Int} (h1 : ArgK Z p M G w A q) (h2 : ArgK Z p N H w C q') (s1 : Sm M G) (s2 : Sm N H) (ha : N + (G + H) * 2 ^ (Z - p) ≤ M) : Calls Try.prog 69 #[A, C] w fun r w' => OutK Z p (M - N) (G + H) w q r w' := by
  obtain ⟨lo, hi, hk, hB⟩ := h1
  obtain ⟨lo', hi', hk', hB'⟩ := h2
  obtain ⟨d1, d2⟩ := hk.dl s1.1 s1.2 (by decide)
  obtain ⟨d3, d4⟩ := hk'.dl s2.1 s2.2 (by decide)
  have hle := hk.apart hk' ha
  exact (bminus hB hB' (by omega) (by omega) (by omega) (by omega) hle (by have := hk.le; have := hk'.le; omega)).mono fun r w' h => ⟨_, _, hk.minus hk' hle, h⟩
theorem khalved {Z p M G : Nat} {w : World} {A : Value} {q : Int} (h : ArgK Z p M G w A q) (h1 : -1000000000 ≤ q) (h2 : q ≤ 1000000000) : Calls Try.prog 50 #[A] w fun r w' => OutK Z p M G w (q + 1) r w' := by
  obtain ⟨lo, hi, hk, hB⟩ := h
  exact (bhalved hB h1 h2).mono fun r w' h => ⟨_, _, hk, h⟩
theorem kwhole {Z n p : Nat} {w : World} (hn : n < 18446744073709551616) (hp : p ≤ Z) (hZ : Z ≤ 4000) : Calls Try.prog 55 #[.int .u64 n, .int .i64 p] w fun r w' => OutK Z p (n * 2 ^ Z) 0 w p r w' := by
  refine (bwhole hn (show p ≤ 1000000 by omega)).mono fun r w' h => ⟨_, _, ⟨?_, ?_, Nat.le_refl _, Nat.le_refl _⟩, h⟩ <;> rw [Nat.mul_assoc, ← Nat.pow_add, show p + (Z - p) = Z by omega] <;> exact Nat.le_refl _
theorem root_ex (x : Nat) : ∃ q, q * q ≤ x ∧ x < (q + 1) * (q + 1) := by
  induction x with
  | zero => exact ⟨0, by decide, by decide⟩
  | succ x ih =>
    obtain ⟨q, h1, h2⟩ := ih
    by_cases h : x + 1 < (q + 1) * (q + 1)
    · exact ⟨q, by omega, h⟩
    · refine ⟨q + 1, by omega, ?_⟩
      have : (q + 1) * (q + 1) < (q + 1 + 1) * (q + 1 + 1) := Nat.mul_lt_mul_of_lt_of_le (by omega) (by omega) (by omega)
      omega
theorem kroot {Z n p Q : Nat} {w : World} (hn : n < 18446744073709551616) (hp : p ≤ Z) (hZ : Z ≤ 4000) (h3 : Q * Q ≤ n * 2 ^ (2 * Z)) (h4 : n * 2 ^ (2 * Z) < (Q + 1) * (Q + 1)) : Calls Try.prog 54 #[.int .u64 n, .int .i64 p] w fun r w' => OutK Z p Q 1 w p r w' := by
  obtain ⟨q, h1, h2⟩ : ∃ q, q * q ≤ n * 2 ^ (2 * p) ∧ n * 2 ^ (2 * p) < (q + 1) * (q + 1) := root_ex _
  exact (broot hn (show p ≤ 1000000 by omega) h1 h2).mono fun r w' h => ⟨_, _, brk_root hp h1 h2 h3 h4, h⟩
/-- pi at many places -/
def MPI (Z : Nat) : Nat := (MA Z 5 - MO Z 5) * 16 - (MA Z 239 - MO Z 239) * 4
/-- what must hold of the series at many places for the bounds at p -/
structure PiOk (Z p : Nat) : Prop where
  h5 : MO Z 5 + 8100 * 2 ^ (Z - p) ≤ MA Z 5
  h239 : MO Z 239 + 8100 * 2 ^ (Z - p) ≤ MA Z 239
  hd : (MA Z 239 - MO Z 239) * 4 + (8100 * 16 + 8100 * 4) * 2 ^ (Z - p) ≤ (MA Z 5 - MO Z 5) * 16
  s1 : Sm (MA Z 5 - MO Z 5) 8100
  s2 : Sm (MA Z 239 - MO Z 239) 8100
  s3 : Sm ((MA Z 5 - MO Z 5) * 16) (8100 * 16)
  s4 : Sm ((MA Z 239 - MO Z 239) * 4) (8100 * 4)
set_option maxHeartbeats 4000000 in
set_option maxRecDepth 200000 in
theorem kpi {Z p : Nat} {w : World} (hp : p ≤ Z) (hZ : Z ≤ 4000) (ok : PiOk Z p) :
    Calls Try.prog 49 #[.int .i64 p] w fun r w' => OutK Z p (MPI Z) (8100 * 16 + 8100 * 4) w (p) r w' := by
  obtain ⟨W, hW, hBW, hR⟩ := zeroB w
  have HX : Hid (Below w.heap.size w W ∧ BdB W w.heap.size none 0 0 none 0 0 0) := ⟨hBW, hR⟩
  clear hBW hR
  go_enter Try.func49, Try.ntmps49
  have kk := batan (n := 5) (w := W) (by omega) (by omega) hp hZ ok.h5
  go_wp2_with fail
  rw [← hW]
  clear hW
  refine kk.mono ?_
  rintro r w1 h1
  obtain ⟨a1, n1, c1, p1, l1, d1, rfl, E1, hb⟩ := h1.arg
  have B1 : Hid (Below W.heap.size W w1) := hb
  clear kk hb h1
  have kk := ktimes (n := 16) E1 ok.s1 (by omega)
  go_wp2_with fail
  refine kk.mono ?_
  rintro r w2 h2
  obtain ⟨a2, n2, c2, p2, l2, d2, rfl, E2, hb⟩ := h2.arg
  have B2 : Hid (Below W.heap.size W w2) := B1.out.trans (hb.mono B1.out.size)
  replace E1 := E1.later hb
  clear kk hb h2
  have kk := batan (n := 239) (w := w2) (by omega) (by omega) hp hZ ok.h239
  go_wp2_with fail
  refine kk.mono ?_
  rintro r w3 h3
  obtain ⟨a3, n3, c3, p3, l3, d3, rfl, E3, hb⟩ := h3.arg
  have B3 : Hid (Below W.heap.size W w3) := B2.out.trans (hb.mono B2.out.size)
  replace E2 := E2.later hb
  clear kk hb h3
  have kk := ktimes (n := 4) E3 ok.s2 (by omega)
  go_wp2_with fail
  refine kk.mono ?_
  rintro r w4 h4
  obtain ⟨a4, n4, c4, p4, l4, d4, rfl, E4, hb⟩ := h4.arg
  have B4 : Hid (Below W.heap.size W w4) := B3.out.trans (hb.mono B3.out.size)
  replace E2 := E2.later hb
  replace E3 := E3.later hb
  clear kk hb h4
  have kk := kminus E2 E4 ok.s3 ok.s4 ok.hd
  go_wp2_with fail
  refine kk.mono ?_
  rintro r w5 h5
  obtain ⟨a5, n5, c5, p5, l5, d5, rfl, E5, hb⟩ := h5.arg
  have B5 : Hid (Below W.heap.size W w5) := B4.out.trans (hb.mono B4.out.size)
  replace E2 := E2.later hb
  replace E4 := E4.later hb
  clear kk hb h5
  have HR : Hid (BdB w5 w.heap.size none 0 0 none 0 0 0) := HX.out.2.box B5.out
  obtain ⟨⟨x0, x1, x2⟩, f0, f1, f2⟩ := HR.out.facts
  have HO : Hid (ArgK Z p (MPI Z) (8100 * 16 + 8100 * 4) w5 (.agg #[.slice a5 n5 c5, .slice p5 l5 d5, .int .i64 (p)]) (p) ∧ Below w.heap.size w w5) := ⟨E5, HX.out.1.trans (B5.out.mono HX.out.1.size)⟩
  clear E5 HX B5
  go_wp2_with fail
  refine bodyPost_ret (results_cell_row rfl _ _ w.heap.size 56 #[.slice a5 n5 c5, .slice p5 l5 d5, .int .i64 (p)] (0, 0) _ rfl (HR.out.set _ _ _ _ _ _ _) Try.underlying56 rfl bd_info) rfl ?_
  obtain ⟨lo, hi, hk, u1, u2, u3, u4, u5, u6, eq, i1, i2⟩ := HO.out.1
  injection eq with eq
  have e0 := congrArg (fun z => z[0]?) eq
  have e1 := congrArg (fun z => z[1]?) eq
  simp at e0 e1
  obtain ⟨rfl, rfl, rfl⟩ := e0
  obtain ⟨rfl, rfl, rfl⟩ := e1
  exact ⟨lo, hi, hk, _, _, _, _, _, _, rfl, is_storeB i1 HR.out _ _ _, is_storeB i2 HR.out _ _ _, below3 HO.out.2 (Nat.le_refl _) _ _ _⟩
end Go.Proofs.Ytknljimmilhfkaa
/- Every constant as bounds. -/
namespace Go.Proofs.Ytknljimmilhfkaa
set_option linter.unusedVariables false
set_option linter.unusedSimpArgs false
open Go.RowKit

theorem keuler {Z p : Nat} {w : World} (hp : p ≤ Z) (hZ : Z ≤ 4000) : Calls Try.prog 51 #[.int .i64 p] w fun r w' => OutK Z p (ME Z) 8100 w p r w' := by
  refine (beuler (show p ≤ 1000000 by omega)).mono ?_
  rintro r w' ⟨j, h0, hj, h⟩
  exact ⟨_, _, (eu_brk hp hj h0).wide (by omega), h⟩
set_option maxHeartbeats 4000000 in
set_option maxRecDepth 200000 in
theorem near_1 {Z p : Nat} {w : World} (hp : p ≤ Z) (hZ : Z ≤ 4000) (ok : PiOk Z p) :
    Calls Try.prog 31 #[.int .i64 1, .int .i64 p] w fun r w' => OutK Z p (MPI Z) (8100 * 16 + 8100 * 4) w (p) r w' := by
  obtain ⟨W, hW, hBW, hR⟩ := zeroB w
  have HX : Hid (Below w.heap.size w W ∧ BdB W w.heap.size none 0 0 none 0 0 0) := ⟨hBW, hR⟩
  clear hBW hR
  go_enter Try.func31, Try.ntmps31
  have kk := kpi (w := W) hp hZ ok
  go_wp2_with fail
  rw [← hW]
  clear hW
  refine kk.mono ?_
  rintro r w1 h1
  obtain ⟨a1, n1, c1, p1, l1, d1, rfl, E1, hb⟩ := h1.arg
  have B1 : Hid (Below W.heap.size W w1) := hb
  clear kk hb h1
  have HR : Hid (BdB w1 w.heap.size none 0 0 none 0 0 0) := HX.out.2.box B1.out
  obtain ⟨⟨x0, x1, x2⟩, f0, f1, f2⟩ := HR.out.facts
  have HO : Hid (ArgK Z p (MPI Z) (8100 * 16 + 8100 * 4) w1 (.agg #[.slice a1 n1 c1, .slice p1 l1 d1, .int .i64 (p)]) (p) ∧ Below w.heap.size w w1) := ⟨E1, HX.out.1.trans (B1.out.mono HX.out.1.size)⟩
  clear E1 HX B1
  go_wp2_with fail
  refine bodyPost_ret (results_cell_row rfl _ _ w.heap.size 56 #[.slice a1 n1 c1, .slice p1 l1 d1, .int .i64 (p)] (0, 0) _ rfl (HR.out.set _ _ _ _ _ _ _) Try.underlying56 rfl bd_info) rfl ?_
  obtain ⟨lo, hi, hk, u1, u2, u3, u4, u5, u6, eq, i1, i2⟩ := HO.out.1
  injection eq with eq
  have e0 := congrArg (fun z => z[0]?) eq
  have e1 := congrArg (fun z => z[1]?) eq
  simp at e0 e1
  obtain ⟨rfl, rfl, rfl⟩ := e0
  obtain ⟨rfl, rfl, rfl⟩ := e1
  exact ⟨lo, hi, hk, _, _, _, _, _, _, rfl, is_storeB i1 HR.out _ _ _, is_storeB i2 HR.out _ _ _, below3 HO.out.2 (Nat.le_refl _) _ _ _⟩
set_option maxHeartbeats 4000000 in
set_option maxRecDepth 200000 in
theorem near_2 {Z p : Nat} {w : World} (hp : p ≤ Z) (hZ : Z ≤ 4000) (ok : PiOk Z p) :
    Calls Try.prog 31 #[.int .i64 2, .int .i64 p] w fun r w' => OutK Z p (MPI Z) (8100 * 16 + 8100 * 4) w (p + 1) r w' := by
  obtain ⟨W, hW, hBW, hR⟩ := zeroB w
  have HX : Hid (Below w.heap.size w W ∧ BdB W w.heap.size none 0 0 none 0 0 0) := ⟨hBW, hR⟩
  clear hBW hR
  go_enter Try.func31, Try.ntmps31
  have kk := kpi (w := W) hp hZ ok
  go_wp2_with fail
  rw [← hW]
  clear hW
  refine kk.mono ?_
  rintro r w1 h1
  obtain ⟨a1, n1, c1, p1, l1, d1, rfl, E1, hb⟩ := h1.arg
  have B1 : Hid (Below W.heap.size W w1) := hb
  clear kk hb h1
  have kk := khalved E1 (by omega) (by omega)
  go_wp2_with fail
  refine kk.mono ?_
  rintro r w2 h2
  obtain ⟨a2, n2, c2, p2, l2, d2, rfl, E2, hb⟩ := h2.arg
  have B2 : Hid (Below W.heap.size W w2) := B1.out.trans (hb.mono B1.out.size)
  replace E1 := E1.later hb
  clear kk hb h2
  have HR : Hid (BdB w2 w.heap.size none 0 0 none 0 0 0) := HX.out.2.box B2.out
  obtain ⟨⟨x0, x1, x2⟩, f0, f1, f2⟩ := HR.out.facts
  have HO : Hid (ArgK Z p (MPI Z) (8100 * 16 + 8100 * 4) w2 (.agg #[.slice a2 n2 c2, .slice p2 l2 d2, .int .i64 (p + 1)]) (p + 1) ∧ Below w.heap.size w w2) := ⟨E2, HX.out.1.trans (B2.out.mono HX.out.1.size)⟩
  clear E2 HX B2
  go_wp2_with fail
  refine bodyPost_ret (results_cell_row rfl _ _ w.heap.size 56 #[.slice a2 n2 c2, .slice p2 l2 d2, .int .i64 (p + 1)] (0, 0) _ rfl (HR.out.set _ _ _ _ _ _ _) Try.underlying56 rfl bd_info) rfl ?_
  obtain ⟨lo, hi, hk, u1, u2, u3, u4, u5, u6, eq, i1, i2⟩ := HO.out.1
  injection eq with eq
  have e0 := congrArg (fun z => z[0]?) eq
  have e1 := congrArg (fun z => z[1]?) eq
  simp at e0 e1
  obtain ⟨rfl, rfl, rfl⟩ := e0
  obtain ⟨rfl, rfl, rfl⟩ := e1
  exact ⟨lo, hi, hk, _, _, _, _, _, _, rfl, is_storeB i1 HR.out _ _ _, is_storeB i2 HR.out _ _ _, below3 HO.out.2 (Nat.le_refl _) _ _ _⟩
set_option maxHeartbeats 4000000 in
set_option maxRecDepth 200000 in
theorem near_3 {Z p : Nat} {w : World} (hp : p ≤ Z) (hZ : Z ≤ 4000) (ok : PiOk Z p) (s : Sm (MPI Z) (8100 * 16 + 8100 * 4)) :
    Calls Try.prog 31 #[.int .i64 3, .int .i64 p] w fun r w' => OutK Z p (MPI Z * 2) ((8100 * 16 + 8100 * 4) * 2) w (p) r w' := by
  obtain ⟨W, hW, hBW, hR⟩ := zeroB w
  have HX : Hid (Below w.heap.size w W ∧ BdB W w.heap.size none 0 0 none 0 0 0) := ⟨hBW, hR⟩
  clear hBW hR
  go_enter Try.func31, Try.ntmps31
  have kk := kpi (w := W) hp hZ ok
  go_wp2_with fail
  rw [← hW]
  clear hW
  refine kk.mono ?_
  rintro r w1 h1
  obtain ⟨a1, n1, c1, p1, l1, d1, rfl, E1, hb⟩ := h1.arg
  have B1 : Hid (Below W.heap.size W w1) := hb
  clear kk hb h1
  have kk := ktimes (n := 2) E1 s (by omega)
  go_wp2_with fail
  refine kk.mono ?_
  rintro r w2 h2
  obtain ⟨a2, n2, c2, p2, l2, d2, rfl, E2, hb⟩ := h2.arg
  have B2 : Hid (Below W.heap.size W w2) := B1.out.trans (hb.mono B1.out.size)
  replace E1 := E1.later hb
  clear kk hb h2
  have HR : Hid (BdB w2 w.heap.size none 0 0 none 0 0 0) := HX.out.2.box B2.out
  obtain ⟨⟨x0, x1, x2⟩, f0, f1, f2⟩ := HR.out.facts
  have HO : Hid (ArgK Z p (MPI Z * 2) ((8100 * 16 + 8100 * 4) * 2) w2 (.agg #[.slice a2 n2 c2, .slice p2 l2 d2, .int .i64 (p)]) (p) ∧ Below w.heap.size w w2) := ⟨E2, HX.out.1.trans (B2.out.mono HX.out.1.size)⟩
  clear E2 HX B2
  go_wp2_with fail
  refine bodyPost_ret (results_cell_row rfl _ _ w.heap.size 56 #[.slice a2 n2 c2, .slice p2 l2 d2, .int .i64 (p)] (0, 0) _ rfl (HR.out.set _ _ _ _ _ _ _) Try.underlying56 rfl bd_info) rfl ?_
  obtain ⟨lo, hi, hk, u1, u2, u3, u4, u5, u6, eq, i1, i2⟩ := HO.out.1
  injection eq with eq
  have e0 := congrArg (fun z => z[0]?) eq
  have e1 := congrArg (fun z => z[1]?) eq
  simp at e0 e1
  obtain ⟨rfl, rfl, rfl⟩ := e0
  obtain ⟨rfl, rfl, rfl⟩ := e1
  exact ⟨lo, hi, hk, _, _, _, _, _, _, rfl, is_storeB i1 HR.out _ _ _, is_storeB i2 HR.out _ _ _, below3 HO.out.2 (Nat.le_refl _) _ _ _⟩
set_option maxHeartbeats 4000000 in
set_option maxRecDepth 200000 in
theorem near_4 {Z p : Nat} {w : World} (hp : p ≤ Z) (hZ : Z ≤ 4000) :
    Calls Try.prog 31 #[.int .i64 4, .int .i64 p] w fun r w' => OutK Z p (ME Z) (8100) w (p) r w' := by
  obtain ⟨W, hW, hBW, hR⟩ := zeroB w
  have HX : Hid (Below w.heap.size w W ∧ BdB W w.heap.size none 0 0 none 0 0 0) := ⟨hBW, hR⟩
  clear hBW hR
  go_enter Try.func31, Try.ntmps31
  have kk := keuler (w := W) hp hZ
  go_wp2_with fail
  rw [← hW]
  clear hW
  refine kk.mono ?_
  rintro r w1 h1
  obtain ⟨a1, n1, c1, p1, l1, d1, rfl, E1, hb⟩ := h1.arg
  have B1 : Hid (Below W.heap.size W w1) := hb
  clear kk hb h1
  have HR : Hid (BdB w1 w.heap.size none 0 0 none 0 0 0) := HX.out.2.box B1.out
  obtain ⟨⟨x0, x1, x2⟩, f0, f1, f2⟩ := HR.out.facts
  have HO : Hid (ArgK Z p (ME Z) (8100) w1 (.agg #[.slice a1 n1 c1, .slice p1 l1 d1, .int .i64 (p)]) (p) ∧ Below w.heap.size w w1) := ⟨E1, HX.out.1.trans (B1.out.mono HX.out.1.size)⟩
  clear E1 HX B1
  go_wp2_with fail
  refine bodyPost_ret (results_cell_row rfl _ _ w.heap.size 56 #[.slice a1 n1 c1, .slice p1 l1 d1, .int .i64 (p)] (0, 0) _ rfl (HR.out.set _ _ _ _ _ _ _) Try.underlying56 rfl bd_info) rfl ?_
  obtain ⟨lo, hi, hk, u1, u2, u3, u4, u5, u6, eq, i1, i2⟩ := HO.out.1
  injection eq with eq
  have e0 := congrArg (fun z => z[0]?) eq
  have e1 := congrArg (fun z => z[1]?) eq
  simp at e0 e1
  obtain ⟨rfl, rfl, rfl⟩ := e0
  obtain ⟨rfl, rfl, rfl⟩ := e1
  exact ⟨lo, hi, hk, _, _, _, _, _, _, rfl, is_storeB i1 HR.out _ _ _, is_storeB i2 HR.out _ _ _, below3 HO.out.2 (Nat.le_refl _) _ _ _⟩
set_option maxHeartbeats 4000000 in
set_option maxRecDepth 200000 in
theorem near_5 {Z p : Nat} {w : World} (hp : p ≤ Z) (hZ : Z ≤ 4000) (s : Sm (MA Z 3 + MO Z 3) 8100) :
    Calls Try.prog 31 #[.int .i64 5, .int .i64 p] w fun r w' => OutK Z p ((MA Z 3 + MO Z 3) * 2) (8100 * 2) w (p) r w' := by
  obtain ⟨W, hW, hBW, hR⟩ := zeroB w
  have HX : Hid (Below w.heap.size w W ∧ BdB W w.heap.size none 0 0 none 0 0 0) := ⟨hBW, hR⟩
  clear hBW hR
  go_enter Try.func31, Try.ntmps31
  have kk := batanh (n := 3) (w := W) (by omega) (by omega) hp hZ
  go_wp2_with fail
  rw [← hW]
  clear hW
  refine kk.mono ?_
  rintro r w1 h1
  obtain ⟨a1, n1, c1, p1, l1, d1, rfl, E1, hb⟩ := h1.arg
  have B1 : Hid (Below W.heap.size W w1) := hb
  clear kk hb h1
  have kk := ktimes (n := 2) E1 s (by omega)
  go_wp2_with fail
  refine kk.mono ?_
  rintro r w2 h2
  obtain ⟨a2, n2, c2, p2, l2, d2, rfl, E2, hb⟩ := h2.arg
  have B2 : Hid (Below W.heap.size W w2) := B1.out.trans (hb.mono B1.out.size)
  replace E1 := E1.later hb
  clear kk hb h2
  have HR : Hid (BdB w2 w.heap.size none 0 0 none 0 0 0) := HX.out.2.box B2.out
  obtain ⟨⟨x0, x1, x2⟩, f0, f1, f2⟩ := HR.out.facts
  have HO : Hid (ArgK Z p ((MA Z 3 + MO Z 3) * 2) (8100 * 2) w2 (.agg #[.slice a2 n2 c2, .slice p2 l2 d2, .int .i64 (p)]) (p) ∧ Below w.heap.size w w2) := ⟨E2, HX.out.1.trans (B2.out.mono HX.out.1.size)⟩
  clear E2 HX B2
  go_wp2_with fail
  refine bodyPost_ret (results_cell_row rfl _ _ w.heap.size 56 #[.slice a2 n2 c2, .slice p2 l2 d2, .int .i64 (p)] (0, 0) _ rfl (HR.out.set _ _ _ _ _ _ _) Try.underlying56 rfl bd_info) rfl ?_
  obtain ⟨lo, hi, hk, u1, u2, u3, u4, u5, u6, eq, i1, i2⟩ := HO.out.1
  injection eq with eq
  have e0 := congrArg (fun z => z[0]?) eq
  have e1 := congrArg (fun z => z[1]?) eq
  simp at e0 e1
  obtain ⟨rfl, rfl, rfl⟩ := e0
  obtain ⟨rfl, rfl, rfl⟩ := e1
  exact ⟨lo, hi, hk, _, _, _, _, _, _, rfl, is_storeB i1 HR.out _ _ _, is_storeB i2 HR.out _ _ _, below3 HO.out.2 (Nat.le_refl _) _ _ _⟩
set_option maxHeartbeats 4000000 in
set_option maxRecDepth 200000 in
theorem near_6 {Z p : Nat} {w : World} (hp : p ≤ Z) (hZ : Z ≤ 4000) (s : Sm (MA Z 3 + MO Z 3) 8100) (t : Sm (MA Z 9 + MO Z 9) 8100) (s6 : Sm ((MA Z 3 + MO Z 3) * 6) (8100 * 6)) (t2 : Sm ((MA Z 9 + MO Z 9) * 2) (8100 * 2)) :
    Calls Try.prog 31 #[.int .i64 6, .int .i64 p] w fun r w' => OutK Z p ((MA Z 3 + MO Z 3) * 6 + (MA Z 9 + MO Z 9) * 2) (8100 * 6 + 8100 * 2) w (p) r w' := by
  obtain ⟨W, hW, hBW, hR⟩ := zeroB w
  have HX : Hid (Below w.heap.size w W ∧ BdB W w.heap.size none 0 0 none 0 0 0) := ⟨hBW, hR⟩
  clear hBW hR
  go_enter Try.func31, Try.ntmps31
  have kk := batanh (n := 3) (w := W) (by omega) (by omega) hp hZ
  go_wp2_with fail
  rw [← hW]
  clear hW
  refine kk.mono ?_
  rintro r w1 h1
  obtain ⟨a1, n1, c1, p1, l1, d1, rfl, E1, hb⟩ := h1.arg
  have B1 : Hid (Below W.heap.size W w1) := hb
  clear kk hb h1
  have kk := ktimes (n := 6) E1 s (by omega)
  go_wp2_with fail
  refine kk.mono ?_
  rintro r w2 h2
  obtain ⟨a2, n2, c2, p2, l2, d2, rfl, E2, hb⟩ := h2.arg
  have B2 : Hid (Below W.heap.size W w2) := B1.out.trans (hb.mono B1.out.size)
  replace E1 := E1.later hb
  clear kk hb h2
  have kk := batanh (n := 9) (w := w2) (by omega) (by omega) hp hZ
  go_wp2_with fail
  refine kk.mono ?_
  rintro r w3 h3
  obtain ⟨a3, n3, c3, p3, l3, d3, rfl, E3, hb⟩ := h3.arg
  have B3 : Hid (Below W.heap.size W w3) := B2.out.trans (hb.mono B2.out.size)
  replace E2 := E2.later hb
  clear kk hb h3
  have kk := ktimes (n := 2) E3 t (by omega)
  go_wp2_with fail
  refine kk.mono ?_
  rintro r w4 h4
  obtain ⟨a4, n4, c4, p4, l4, d4, rfl, E4, hb⟩ := h4.arg
  have B4 : Hid (Below W.heap.size W w4) := B3.out.trans (hb.mono B3.out.size)
  replace E2 := E2.later hb
  replace E3 := E3.later hb
  clear kk hb h4
  have kk := kplus E2 E4 s6 t2
  go_wp2_with fail
  refine kk.mono ?_
  rintro r w5 h5
  obtain ⟨a5, n5, c5, p5, l5, d5, rfl, E5, hb⟩ := h5.arg
  have B5 : Hid (Below W.heap.size W w5) := B4.out.trans (hb.mono B4.out.size)
  replace E2 := E2.later hb
  replace E4 := E4.later hb
  clear kk hb h5
  have HR : Hid (BdB w5 w.heap.size none 0 0 none 0 0 0) := HX.out.2.box B5.out
  obtain ⟨⟨x0, x1, x2⟩, f0, f1, f2⟩ := HR.out.facts
  have HO : Hid (ArgK Z p ((MA Z 3 + MO Z 3) * 6 + (MA Z 9 + MO Z 9) * 2) (8100 * 6 + 8100 * 2) w5 (.agg #[.slice a5 n5 c5, .slice p5 l5 d5, .int .i64 (p)]) (p) ∧ Below w.heap.size w w5) := ⟨E5, HX.out.1.trans (B5.out.mono HX.out.1.size)⟩
  clear E5 HX B5
  go_wp2_with fail
  refine bodyPost_ret (results_cell_row rfl _ _ w.heap.size 56 #[.slice a5 n5 c5, .slice p5 l5 d5, .int .i64 (p)] (0, 0) _ rfl (HR.out.set _ _ _ _ _ _ _) Try.underlying56 rfl bd_info) rfl ?_
  obtain ⟨lo, hi, hk, u1, u2, u3, u4, u5, u6, eq, i1, i2⟩ := HO.out.1
  injection eq with eq
  have e0 := congrArg (fun z => z[0]?) eq
  have e1 := congrArg (fun z => z[1]?) eq
  simp at e0 e1
  obtain ⟨rfl, rfl, rfl⟩ := e0
  obtain ⟨rfl, rfl, rfl⟩ := e1
  exact ⟨lo, hi, hk, _, _, _, _, _, _, rfl, is_storeB i1 HR.out _ _ _, is_storeB i2 HR.out _ _ _, below3 HO.out.2 (Nat.le_refl _) _ _ _⟩
set_option maxHeartbeats 4000000 in
set_option maxRecDepth 200000 in
theorem near_7 {Z p Q : Nat} {w : World} (hp : p ≤ Z) (hZ : Z ≤ 4000) (h3 : Q * Q ≤ 2 * 2 ^ (2 * Z)) (h4 : 2 * 2 ^ (2 * Z) < (Q + 1) * (Q + 1)) :
    Calls Try.prog 31 #[.int .i64 7, .int .i64 p] w fun r w' => OutK Z p (Q) (1) w (p) r w' := by
  obtain ⟨W, hW, hBW, hR⟩ := zeroB w
  have HX : Hid (Below w.heap.size w W ∧ BdB W w.heap.size none 0 0 none 0 0 0) := ⟨hBW, hR⟩
  clear hBW hR
  go_enter Try.func31, Try.ntmps31
  have kk := kroot (n := 2) (w := W) (by omega) hp hZ h3 h4
  go_wp2_with fail
  rw [← hW]
  clear hW
  refine kk.mono ?_
  rintro r w1 h1
  obtain ⟨a1, n1, c1, p1, l1, d1, rfl, E1, hb⟩ := h1.arg
  have B1 : Hid (Below W.heap.size W w1) := hb
  clear kk hb h1
  have HR : Hid (BdB w1 w.heap.size none 0 0 none 0 0 0) := HX.out.2.box B1.out
  obtain ⟨⟨x0, x1, x2⟩, f0, f1, f2⟩ := HR.out.facts
  have HO : Hid (ArgK Z p (Q) (1) w1 (.agg #[.slice a1 n1 c1, .slice p1 l1 d1, .int .i64 (p)]) (p) ∧ Below w.heap.size w w1) := ⟨E1, HX.out.1.trans (B1.out.mono HX.out.1.size)⟩
  clear E1 HX B1
  go_wp2_with fail
  refine bodyPost_ret (results_cell_row rfl _ _ w.heap.size 56 #[.slice a1 n1 c1, .slice p1 l1 d1, .int .i64 (p)] (0, 0) _ rfl (HR.out.set _ _ _ _ _ _ _) Try.underlying56 rfl bd_info) rfl ?_
  obtain ⟨lo, hi, hk, u1, u2, u3, u4, u5, u6, eq, i1, i2⟩ := HO.out.1
  injection eq with eq
  have e0 := congrArg (fun z => z[0]?) eq
  have e1 := congrArg (fun z => z[1]?) eq
  simp at e0 e1
  obtain ⟨rfl, rfl, rfl⟩ := e0
  obtain ⟨rfl, rfl, rfl⟩ := e1
  exact ⟨lo, hi, hk, _, _, _, _, _, _, rfl, is_storeB i1 HR.out _ _ _, is_storeB i2 HR.out _ _ _, below3 HO.out.2 (Nat.le_refl _) _ _ _⟩
set_option maxHeartbeats 4000000 in
set_option maxRecDepth 200000 in
theorem near_8 {Z p Q : Nat} {w : World} (hp : p ≤ Z) (hZ : Z ≤ 4000) (h3 : Q * Q ≤ 5 * 2 ^ (2 * Z)) (h4 : 5 * 2 ^ (2 * Z) < (Q + 1) * (Q + 1)) (s : Sm Q 1) (t : Sm (1 * 2 ^ Z) 0) :
    Calls Try.prog 31 #[.int .i64 8, .int .i64 p] w fun r w' => OutK Z p (Q + 1 * 2 ^ Z) (1 + 0) w (p + 1) r w' := by
  obtain ⟨W, hW, hBW, hR⟩ := zeroB w
  have HX : Hid (Below w.heap.size w W ∧ BdB W w.heap.size none 0 0 none 0 0 0) := ⟨hBW, hR⟩
  clear hBW hR
  go_enter Try.func31, Try.ntmps31
  have kk := kroot (n := 5) (w := W) (by omega) hp hZ h3 h4
  go_wp2_with fail
  rw [← hW]
  clear hW
  refine kk.mono ?_
  rintro r w1 h1
  obtain ⟨a1, n1, c1, p1, l1, d1, rfl, E1, hb⟩ := h1.arg
  have B1 : Hid (Below W.heap.size W w1) := hb
  clear kk hb h1
  have kk := kwhole (n := 1) (w := w1) (by omega) hp hZ
  go_wp2_with fail
  refine kk.mono ?_
  rintro r w2 h2
  obtain ⟨a2, n2, c2, p2, l2, d2, rfl, E2, hb⟩ := h2.arg
  have B2 : Hid (Below W.heap.size W w2) := B1.out.trans (hb.mono B1.out.size)
  replace E1 := E1.later hb
  clear kk hb h2
  have kk := kplus E1 E2 s t
  go_wp2_with fail
  refine kk.mono ?_
  rintro r w3 h3
  obtain ⟨a3, n3, c3, p3, l3, d3, rfl, E3, hb⟩ := h3.arg
  have B3 : Hid (Below W.heap.size W w3) := B2.out.trans (hb.mono B2.out.size)
  replace E1 := E1.later hb
  replace E2 := E2.later hb
  clear kk hb h3
  have kk := khalved E3 (by omega) (by omega)
  go_wp2_with fail
  refine kk.mono ?_
  rintro r w4 h4
  obtain ⟨a4, n4, c4, p4, l4, d4, rfl, E4, hb⟩ := h4.arg
  have B4 : Hid (Below W.heap.size W w4) := B3.out.trans (hb.mono B3.out.size)
  replace E3 := E3.later hb
  clear kk hb h4
  have HR : Hid (BdB w4 w.heap.size none 0 0 none 0 0 0) := HX.out.2.box B4.out
  obtain ⟨⟨x0, x1, x2⟩, f0, f1, f2⟩ := HR.out.facts
  have HO : Hid (ArgK Z p (Q + 1 * 2 ^ Z) (1 + 0) w4 (.agg #[.slice a4 n4 c4, .slice p4 l4 d4, .int .i64 (p + 1)]) (p + 1) ∧ Below w.heap.size w w4) := ⟨E4, HX.out.1.trans (B4.out.mono HX.out.1.size)⟩
  clear E4 HX B4
  go_wp2_with fail
  refine bodyPost_ret (results_cell_row rfl _ _ w.heap.size 56 #[.slice a4 n4 c4, .slice p4 l4 d4, .int .i64 (p + 1)] (0, 0) _ rfl (HR.out.set _ _ _ _ _ _ _) Try.underlying56 rfl bd_info) rfl ?_
  obtain ⟨lo, hi, hk, u1, u2, u3, u4, u5, u6, eq, i1, i2⟩ := HO.out.1
  injection eq with eq
  have e0 := congrArg (fun z => z[0]?) eq
  have e1 := congrArg (fun z => z[1]?) eq
  simp at e0 e1
  obtain ⟨rfl, rfl, rfl⟩ := e0
  obtain ⟨rfl, rfl, rfl⟩ := e1
  exact ⟨lo, hi, hk, _, _, _, _, _, _, rfl, is_storeB i1 HR.out _ _ _, is_storeB i2 HR.out _ _ _, below3 HO.out.2 (Nat.le_refl _) _ _ _⟩
end Go.Proofs.Ytknljimmilhfkaa
/- Powers of ten; the whole part of a number between bounds. -/
namespace Go.Proofs.Ytknljimmilhfkaa
set_option linter.unusedVariables false
set_option linter.unusedSimpArgs false
open Go.RowKit

theorem dl_ten : ∀ n, dlen (10 ^ n) ≤ n + 1
  | 0 => by rw [Nat.pow_zero]; exact Nat.le_trans ((dlen_le 1 1).2 (by decide)) (by omega)
  | n + 1 => by
    have h := (dlen_le _ _).1 (dl_ten n)
    refine (dlen_le _ _).2 ?_
    rw [Nat.pow_succ, Nat.pow_succ B (n + 1)]
    exact Nat.mul_lt_mul_of_lt_of_le h (by decide) (by decide)
theorem cmp0 (s t : Nat) : (cmpI (s : Int) (t : Int) == 0) = decide (s = t) := by
  unfold cmpI
  by_cases h : s = t
  · subst h; simp
  · rw [decide_eq_false h]
    rcases Nat.lt_or_gt_of_ne h with h' | h'
    · rw [if_pos (by omega)]; rfl
    · rw [if_neg (by omega), if_pos (by omega)]; rfl
theorem dl_mul {s t m n : Nat} (hs : dlen s ≤ m) (ht : dlen t ≤ n) : dlen (s * t) ≤ m + n := by
  have h1 := (dlen_le _ _).1 hs
  have h2 := (dlen_le _ _).1 ht
  refine (dlen_le _ _).2 ?_
  rw [Nat.pow_add]
  exact Nat.mul_lt_mul_of_lt_of_le h1 (Nat.le_of_lt h2) (Nat.pow_pos (by decide))
set_option maxHeartbeats 4000000 in
set_option maxRecDepth 200000 in
theorem bten {n : Nat} {w : World} (hn : n ≤ 1000) : Calls Try.prog 46 #[.int .i64 n] w fun r w' => ∃ ao l cap, r = .returned (.slice ao l cap) ∧ Is w' (.slice ao l cap) (10 ^ n) ∧ Below w.heap.size w w' := by
  have k1 := c57 1 w (by omega)
  go_enter Try.func46, Try.ntmps46
  go_wp2_with fail
  refine k1.mono ?_
  rintro r w1 ⟨v1, rfl, hO, hb1⟩
  obtain ⟨b1, m1, d1, rfl⟩ := hO.is.shape
  have H1 : Hid (Is w1 (.slice b1 m1 d1) (10 ^ 0) ∧ Below w.heap.size w w1) := ⟨hO.is, hb1⟩
  clear k1 hO hb1
  go_upto_block 0 with fail
  go_wp2_with fail
  go_loopw [3, 6] (fun sl ct wr => ∃ (j : Nat) (a1 : Option Addr) (l1 c1 : Nat), sl = .slice a1 l1 c1 ∧ ct = .int .i64 j ∧ j ≤ n ∧ Hid (Is wr (.slice a1 l1 c1) (10 ^ j) ∧ Below w.heap.size w wr)) (fun _ ct _ => n - (intOf ct).toNat)
  case atStart => exact ⟨0, b1, m1, d1, rfl, rfl, by omega, H1⟩
  case round =>
    obtain ⟨j, a1, l1, c1, rfl, rfl, hj, HJ⟩ := hrel
    clear H1
    by_cases hlt : j < n
    · have hlt' : (j : Int) < (n : Int) := by omega
      have k2 := c57 10 wr (by omega)
      go_wp2_with fail
      refine k2.mono ?_
      rintro r w2 ⟨v2, rfl, hO, hb2⟩
      obtain ⟨b2, m2, d2, rfl⟩ := hO.is.shape
      have hd := dl_ten j
      have h10 : dlen 10 ≤ 1 := (dlen_le 1 10).2 (by decide)
      have k3 := c143 (HJ.out.1.later hb2) hO.is (by omega) (by omega)
      have HB : Hid (Below w.heap.size w w2) := HJ.out.2.trans (hb2.mono HJ.out.2.size)
      clear k2 hO hb2 HJ hd h10
      go_wp2_with fail
      refine k3.mono ?_
      rintro r w3 ⟨v3, rfl, hO, hb3⟩
      obtain ⟨b3, m3, d3, rfl⟩ := hO.is.shape
      have H3 : Hid (Is w3 (.slice b3 m3 d3) (10 ^ (j + 1)) ∧ Below w.heap.size w w3) := ⟨by rw [Nat.pow_succ]; exact hO.is, HB.out.trans (hb3.mono HB.out.size)⟩
      clear k3 hO hb3 HB
      go_wp2_with fail
      exact ⟨⟨j + 1, b3, m3, d3, rfl, rfl, by omega, H3⟩, by simp [intOf]; omega⟩
    · obtain rfl : j = n := by omega
      have hlt' : ¬ (j : Int) < (j : Int) := by omega
      go_wp2_with fail
      go_ret
      exact ⟨_, _, _, rfl, HJ.out.1, HJ.out.2⟩
set_option maxHeartbeats 4000000 in
set_option maxRecDepth 200000 in
theorem bfloor {A U : Value} {x y u q : Nat} {w : World} (h1 : Bd w A x y q) (h2 : Is w U u) (hx : dlen x ≤ 1000000) (hy : dlen y ≤ 1000000) (hu : dlen u ≤ 1000000) (hq : q ≤ 1000000) :
    Calls Try.prog 47 #[A, U] w fun r w' => ∃ ao l cap, r = .returned (.tuple #[.slice ao l cap, .bool (decide (x * u / 2 ^ q = y * u / 2 ^ q))]) ∧ Is w' (.slice ao l cap) (x * u / 2 ^ q) ∧ Below w.heap.size w w' := by
  obtain ⟨s, hs⟩ : ∃ s, s = x * u / 2 ^ q := ⟨_, rfl⟩
  obtain ⟨t, ht⟩ : ∃ t, t = y * u / 2 ^ q := ⟨_, rfl⟩
  rw [← hs, ← ht, ← cmp0]
  obtain ⟨a1, n1, c1, a2, n2, c2, rfl, i1, i2⟩ := h1
  obtain ⟨b1, m1, d1, rfl⟩ := h2.shape
  obtain ⟨W, hW⟩ : ∃ W, W = w.alloc (.cells #[.slice a1 n1 c1, .slice a2 n2 c2, .int .i64 q] 56) := ⟨_, rfl⟩
  have hBW : Below w.heap.size w W := by rw [hW]; exact (Below.refl _ _).alloc (Nat.le_refl _) _
  have hA : BdB W w.heap.size a1 n1 c1 a2 n2 c2 q := by rw [hW]; exact BdB.new _ _ _ _ _ _ _ _
  have HX : Hid (Below w.heap.size w W ∧ BdB W w.heap.size a1 n1 c1 a2 n2 c2 q) := ⟨hBW, hA⟩
  have HI : Hid (Is W (.slice a1 n1 c1) x ∧ Is W (.slice a2 n2 c2) y ∧ Is W (.slice b1 m1 d1) u) := ⟨i1.later hBW, i2.later hBW, h2.later hBW⟩
  have dm : ∀ {s t : Nat}, dlen s ≤ 1000000 → dlen t ≤ 1000000 → dlen (s * t) ≤ 2000000 := fun hs ht => Nat.le_trans (dl_mul hs ht) (by omega)
  have HK : Hid (∀ w', Below W.heap.size W w' → w'.cell? ⟨w.heap.size, 0, none⟩ = some (.slice a1 n1 c1) ∧ w'.cell? ⟨w.heap.size, 1, none⟩ = some (.slice a2 n2 c2) ∧ w'.cell? ⟨w.heap.size, 2, none⟩ = some (.int .i64 q)) := fun w' hb => (hA.box hb).facts.1
  have q1 : ∀ W', Below W.heap.size W W' → Calls Try.prog 57 #[.slice a1 n1 c1, .slice b1 m1 d1] W' fun r w' => ∃ ao l cap, r = .returned (.slice ao l cap) ∧ Hid (Is w' (.slice ao l cap) (x * u)) ∧ Below W.heap.size W w' := fun W' h => (c143 (HI.out.1.later h) (HI.out.2.2.later h) (by omega) (by omega)).mono fun r w' ⟨v, e1, e2, e3⟩ => by
    obtain ⟨ao, l, cap, rfl⟩ := e2.is.shape
    exact ⟨ao, l, cap, e1, e2.is, h.trans (e3.mono h.size)⟩
  have q2 : ∀ W' X, Below W.heap.size W W' → Is W' X (x * u) → Calls Try.prog 64 #[X, .int .i64 q] W' fun r w' => ∃ ao l cap, r = .returned (.slice ao l cap) ∧ Hid (Is w' (.slice ao l cap) s) ∧ Below W.heap.size W w' := fun W' X h hX => (c120 hX q (by have := dm hx hu; omega) (by omega)).mono fun r w' ⟨v, e1, e2, e3⟩ => by
    rw [hs]
    obtain ⟨ao, l, cap, rfl⟩ := e2.is.shape
    exact ⟨ao, l, cap, e1, e2.is, h.trans (e3.mono h.size)⟩
  have hRr : Below W.heap.size W W.drew := (Below.refl _ _).drew
  obtain ⟨k0, k1, k2⟩ := HK.out W (Below.refl _ _)
  clear hA hBW i1 i2 h2
  go_enter Try.func47, Try.ntmps47
  go_upto_region 1 with fail
  rw [← hW]
  clear hW
  go_region_held3 (fun w' => w'.cell? ⟨w.heap.size, 0, none⟩ = some (.slice a1 n1 c1) ∧ w'.cell? ⟨w.heap.size, 1, none⟩ = some (.slice a2 n2 c2) ∧ w'.cell? ⟨w.heap.size, 2, none⟩ = some (.int .i64 q)) (first | (with_reducible assumption) | exact HK.out _ hRr | (refine HK.out _ ?_; with_reducible assumption))
    (first | (go_at_call 57; with_reducible refine (q1 _ hRr).mono ?_; rintro r w3 ⟨e1, l1, g1, rfl, E1, hb3⟩)
           | (go_at_call 64; with_reducible refine (q2 _ _ hb3 E1.out).mono ?_; rintro r w4 ⟨e2, l2, g2, rfl, E2, hb4⟩))
  have H4 : Hid (Below W.heap.size W w4) := hb4
  have p1 : ∀ W', Below w4.heap.size w4 W' → Calls Try.prog 57 #[.slice a2 n2 c2, .slice b1 m1 d1] W' fun r w' => ∃ ao l cap, r = .returned (.slice ao l cap) ∧ Hid (Is w' (.slice ao l cap) (y * u)) ∧ Below w4.heap.size w4 w' := fun W' h => (c143 ((HI.out.2.1.later H4.out).later h) ((HI.out.2.2.later H4.out).later h) (by omega) (by omega)).mono fun r w' ⟨v, e1, e2, e3⟩ => by
    obtain ⟨ao, l, cap, rfl⟩ := e2.is.shape
    exact ⟨ao, l, cap, e1, e2.is, h.trans (e3.mono h.size)⟩
  have p2 : ∀ W' X, Below w4.heap.size w4 W' → Is W' X (y * u) → Calls Try.prog 64 #[X, .int .i64 q] W' fun r w' => ∃ ao l cap, r = .returned (.slice ao l cap) ∧ Hid (Is w' (.slice ao l cap) t) ∧ Below w4.heap.size w4 w' := fun W' X h hX => (c120 hX q (by have := dm hy hu; omega) (by omega)).mono fun r w' ⟨v, e1, e2, e3⟩ => by
    rw [ht]
    obtain ⟨ao, l, cap, rfl⟩ := e2.is.shape
    exact ⟨ao, l, cap, e1, e2.is, h.trans (e3.mono h.size)⟩
  have HK4 : Hid (∀ w', Below w4.heap.size w4 w' → w'.cell? ⟨w.heap.size, 0, none⟩ = some (.slice a1 n1 c1) ∧ w'.cell? ⟨w.heap.size, 1, none⟩ = some (.slice a2 n2 c2) ∧ w'.cell? ⟨w.heap.size, 2, none⟩ = some (.int .i64 q)) := fun w' hb => HK.out w' (H4.out.trans (hb.mono H4.out.size))
  clear q1 q2 hRr k0 k1 k2 E1 hb3 hb4 HK
  have hRr : Below w4.heap.size w4 w4.drew := (Below.refl _ _).drew
  obtain ⟨k0, k1, k2⟩ := HK4.out w4 (Below.refl _ _)
  go_upto_region 2 with fail
  go_region_held3 (fun w' => w'.cell? ⟨w.heap.size, 0, none⟩ = some (.slice a1 n1 c1) ∧ w'.cell? ⟨w.heap.size, 1, none⟩ = some (.slice a2 n2 c2) ∧ w'.cell? ⟨w.heap.size, 2, none⟩ = some (.int .i64 q)) (first | (with_reducible assumption) | exact HK4.out _ hRr | (refine HK4.out _ ?_; with_reducible assumption))
    (first | (go_at_call 57; with_reducible refine (p1 _ hRr).mono ?_; rintro r w5 ⟨e3, l3, g3, rfl, E3, hb5⟩)
           | (go_at_call 64; with_reducible refine (p2 _ _ hb5 E3.out).mono ?_; rintro r w6 ⟨e4, l4, g4, rfl, E4, hb6⟩))
  have k6 := c129 (E2.out.later hb6) E4.out (by have := dlen_mono (Nat.div_le_self (x * u) (2 ^ q)); have := dm hx hu; rw [← hs] at *; omega) (by have := dlen_mono (Nat.div_le_self (y * u) (2 ^ q)); have := dm hy hu; rw [← ht] at *; omega)
  have HO : Hid (Is w6 (.slice e2 l2 g2) s ∧ Below w.heap.size w w6) := ⟨E2.out.later hb6, (HX.out.1.trans (H4.out.mono HX.out.1.size)).trans (hb6.mono (HX.out.1.trans (H4.out.mono HX.out.1.size)).size)⟩
  clear p1 p2 HK4 hRr k0 k1 k2 hb5 hb6 E2 E3 E4 H4 HX HI dm
  clear hs ht
  go_wp2_with fail
  refine k6.mono ?_
  rintro r w7 ⟨rfl, d, rfl⟩
  clear k6
  go_wp2_with fail
  refine bodyPost_ret (results_tmp2 rfl _ _ _) rfl ?_
  exact ⟨_, _, _, rfl, HO.out.1.later ⟨rfl, rfl, rfl, Nat.le_refl _, fun _ _ => rfl⟩, HO.out.2.trans ⟨rfl, rfl, rfl, Nat.le_refl _, fun _ _ => rfl⟩⟩
end Go.Proofs.Ytknljimmilhfkaa
