/- Own work: contracts of the program's functions, part 17: SNI SNJ SNL SNP SNQ SNR SNN SNS SNK SNT SNU SNV SNW SNX SNY SNZ SO1 SO2 SO3. -/
import Derived.Test.YtcoclopllbfjcaaGreatDoorA16
import Derived.Test.YtcoclopllbfjcaaGreatDoorA8
import Derived.Test.YtcoclopllbfjcaaGreatDoorA9
import Derived.Test.YtcoclopllbfjcaaGreatDoorA12
import Derived.Test.YtcoclopllbfjcaaGreatDoorA13
import Derived.Test.YtcoclopllbfjcaaGreatDoorA4
import Derived.Test.YtcoclopllbfjcaaGreatDoorA6
import Derived.Test.YtcoclopllbfjcaaGreatDoorA14
import Derived.Test.YtcoclopllbfjcaaGreatDoorA10
import Derived.Test.YtcoclopllbfjcaaGreatDoorA15

/- The document's ends. -/
namespace Go.Proofs.YtcoclopllbfjcaaGreatDoor
set_option linter.unusedVariables false
set_option linter.unusedSimpArgs false
open Go.RowKit Go.Fl64
attribute [local go_sem] run_store_flt

/-- a box of an end: its cells, and that they can be written -/
def EnB (W : World) (g : Nat) (a b c d : Value) : Prop := W.heap[g]? = some (.cells #[a, b, c, d] 61 (0, 0))
theorem EnB.facts {W : World} {g : Nat} {a b c d : Value} (h : EnB W g a b c d) : (W.cell? ⟨g, 0, none⟩ = some a ∧ W.cell? ⟨g, 1, none⟩ = some b ∧ W.cell? ⟨g, 2, none⟩ = some c ∧ W.cell? ⟨g, 3, none⟩ = some d) ∧ (W.frozen? ⟨g, 0, none⟩ = false ∧ W.frozen? ⟨g, 1, none⟩ = false ∧ W.frozen? ⟨g, 2, none⟩ = false ∧ W.frozen? ⟨g, 3, none⟩ = false) := by
  unfold EnB at h
  simp [World.cell?, World.frozen?, h]
theorem EnB.lt {W : World} {g : Nat} {a b c d : Value} (h : EnB W g a b c d) : g < W.heap.size := lt_of_box h
theorem EnB.box {W w' : World} {g : Nat} {a b c d : Value} (h : EnB W g a b c d) (hb : Below W.heap.size W w') : EnB w' g a b c d := box_later h hb h.lt
theorem EnB.new (w : World) (a b c d : Value) : EnB (w.alloc (.cells #[a, b, c, d] 61)) w.heap.size a b c d := heap_alloc_new _ _
theorem EnB.alloc {W : World} {g : Nat} {a b c d : Value} (h : EnB W g a b c d) (o : Obj) : EnB (W.alloc o) g a b c d := h.box ((Below.refl _ _).alloc (Nat.le_refl _) _)
theorem EnB.set {W : World} {g : Nat} {a b c d : Value} (h : EnB W g a b c d) (a' b' c' d' : Value) : EnB ((((W.setCell ⟨g, 0, none⟩ a').setCell ⟨g, 1, none⟩ b').setCell ⟨g, 2, none⟩ c').setCell ⟨g, 3, none⟩ d') g a' b' c' d' := by
  unfold EnB at *
  simp [World.setCell, Array.getElem?_modify, h]
theorem below_store4 {B : Nat} {w w' : World} {g : Nat} (h : Below B w w') (hg : B ≤ g) (a b c d : Value) : Below B w ((((w'.setCell ⟨g, 0, none⟩ a).setCell ⟨g, 1, none⟩ b).setCell ⟨g, 2, none⟩ c).setCell ⟨g, 3, none⟩ d) :=
  (((h.setCell hg _).setCell hg _).setCell hg _).setCell hg _
theorem en_info : (Tryz.prog.info? 61).map (·.size) = some 4 := by kernel_rfl
/-- an end in memory: an infinity by its sign, or a number -/
def EN (w : World) (A : Value) (i : Int) (t : Bool × Nat × Int) : Prop := ∃ s ao n cap e, A = .agg #[.int .i64 i, .bool s, .slice ao n cap, .int .i64 e] ∧ DN w (.agg #[.bool s, .slice ao n cap, .int .i64 e]) t
theorem EN.later {w w' : World} {A : Value} {i : Int} {t : Bool × Nat × Int} (h : EN w A i t) (hb : Below w.heap.size w w') : EN w' A i t := by
  obtain ⟨s, ao, n, cap, e, h1, h2⟩ := h
  exact ⟨s, ao, n, cap, e, h1, h2.later hb⟩
theorem at_store4 {W : World} {ao : Option Addr} {n z g : Nat} (h : At W ao n z) (hE : EnB W g (.int .i64 0) (.bool false) (.slice none 0 0) (.int .i64 0)) (a' b' c' d' : Value) : At ((((W.setCell ⟨g, 0, none⟩ a').setCell ⟨g, 1, none⟩ b').setCell ⟨g, 2, none⟩ c').setCell ⟨g, 3, none⟩ d') ao n z := by
  obtain ⟨bb, o, h1, h2⟩ := h
  refine ⟨bb, o, h1, fun i hi => ?_⟩
  have hc := h2 i hi
  have hne : bb ≠ g := by
    rintro rfl
    unfold EnB at hE
    simp only [World.cell?, hE] at hc
    rcases (show o + i = 0 ∨ o + i = 1 ∨ o + i = 2 ∨ o + i = 3 ∨ 4 ≤ o + i by omega) with e | e | e | e | e
    · rw [e] at hc; simp at hc
    · rw [e] at hc; simp at hc
    · rw [e] at hc; simp at hc
    · rw [e] at hc; simp at hc
    · rw [Array.getElem?_eq_none (by simpa using e)] at hc; cases hc
  rw [World.cell?_setCell_other _ _ _ _ (by first | (simp; done) | (simp; omega)), World.cell?_setCell_other _ _ _ _ (by first | (simp; done) | (simp; omega)), World.cell?_setCell_other _ _ _ _ (by first | (simp; done) | (simp; omega)), World.cell?_setCell_other _ _ _ _ (by first | (simp; done) | (simp; omega))]
  exact hc
theorem dn_store48 {W : World} {A : Value} {t : Bool × Nat × Int} {g : Nat} (h : DN W A t) (hE : EnB W g (.int .i64 0) (.bool false) (.slice none 0 0) (.int .i64 0)) (a' b' c' d' : Value) : DN ((((W.setCell ⟨g, 0, none⟩ a').setCell ⟨g, 1, none⟩ b').setCell ⟨g, 2, none⟩ c').setCell ⟨g, 3, none⟩ d') A t := by
  obtain ⟨ao, cap, h1, h2⟩ := h
  exact ⟨ao, cap, h1, h2.nil, at_store4 h2.at_ hE _ _ _ _, h2.le, h2.small⟩
theorem dn_nil (w : World) : DN w (.agg #[.bool false, .slice none 0 0, .int .i64 0]) (false, 0, 0) :=
  ⟨none, 0, by rw [dlen_zero], ⟨fun _ => .inr ⟨rfl, rfl⟩, ⟨0, 0, fun h => by rw [dlen_zero] at h; omega, fun i hi => by rw [dlen_zero] at hi; omega⟩, by rw [dlen_zero]; omega, by rw [dlen_zero]; omega⟩⟩
/-- which infinity an end is; its number -/
def eI (f : Nat) : Int := if f = 9218868437227405312 then 1 else if f = 18442240474082181120 then -1 else 0
def eT (f : Nat) : Bool × Nat × Int := if eI f = 0 then tF f else (false, 0, 0)
set_option maxHeartbeats 2000000 in
theorem dend_inf (f : Nat) (w : World) (h1 : (FloatKind.f64.format.order f 9218868437227405311 == some Ordering.gt) = true) :
    Calls Tryz.prog 37 #[.float .f64 f] w fun r w' => r = .returned (.agg #[.int .i64 1, .bool false, .slice none 0 0, .int .i64 0]) ∧ Below w.heap.size w w' := by
  go_enter Tryz.func37, Tryz.ntmps37
  go_wp2
  refine bodyPost_ret (results_cell_row rfl _ _ (w.heap.size) 61 #[.int .i64 1, .bool false, .slice none 0 0, .int .i64 0] (0, 0) _ rfl (heap_alloc_new _ _) Tryz.underlying61 rfl en_info) rfl ?_
  exact ⟨rfl, (Below.refl _ _).alloc (Nat.le_refl _) _⟩
set_option maxHeartbeats 2000000 in
theorem dend_ninf (f : Nat) (w : World) (h1 : (FloatKind.f64.format.order f 9218868437227405311 == some Ordering.gt) = false) (h2 : (FloatKind.f64.format.order f 18442240474082181119 == some Ordering.lt) = true) :
    Calls Tryz.prog 37 #[.float .f64 f] w fun r w' => r = .returned (.agg #[.int .i64 (-1), .bool false, .slice none 0 0, .int .i64 0]) ∧ Below w.heap.size w w' := by
  go_enter Tryz.func37, Tryz.ntmps37
  go_wp2
  refine bodyPost_ret (results_cell_row rfl _ _ (w.heap.size) 61 #[.int .i64 (-1), .bool false, .slice none 0 0, .int .i64 0] (0, 0) _ rfl (heap_alloc_new _ _) Tryz.underlying61 rfl en_info) rfl ?_
  exact ⟨rfl, (Below.refl _ _).alloc (Nat.le_refl _) _⟩
set_option maxHeartbeats 2000000 in
theorem dend_fin (f : Nat) (t : Bool × Nat × Int) (w : World) (h1 : (FloatKind.f64.format.order f 9218868437227405311 == some Ordering.gt) = false) (h2 : (FloatKind.f64.format.order f 18442240474082181119 == some Ordering.lt) = false) (k : ∀ W, Calls Tryz.prog 23 #[.float .f64 f] W fun r w' => ∃ A, r = .returned A ∧ DN w' A t ∧ Below W.heap.size W w') :
    Calls Tryz.prog 37 #[.float .f64 f] w fun r w' => ∃ A, r = .returned A ∧ EN w' A 0 t ∧ Below w.heap.size w w' := by
  obtain ⟨W, hW⟩ : ∃ W, W = w.alloc (.cells #[.int .i64 0, .bool false, .slice none 0 0, .int .i64 0] 61) := ⟨_, rfl⟩
  have HX : Hid (Below w.heap.size w W ∧ EnB W w.heap.size (.int .i64 0) (.bool false) (.slice none 0 0) (.int .i64 0)) := by
    rw [hW]; exact ⟨(Below.refl _ _).alloc (Nat.le_refl _) _, EnB.new _ _ _ _ _⟩
  have kk := k W
  clear k
  go_enter Tryz.func37, Tryz.ntmps37
  go_wp2_with fail
  rw [← hW]
  clear hW
  refine kk.mono ?_
  rintro r w1 ⟨A, rfl, hA, hb⟩
  obtain ⟨s, ao, n, cap, e, rfl⟩ := hA.shape
  have hE := HX.out.2.box hb
  obtain ⟨⟨a0, a1, a2, a3⟩, z0, z1, z2, z3⟩ := hE.facts
  have HF : Hid (DN w1 (.agg #[.bool s, .slice ao n cap, .int .i64 e]) t ∧ Below w.heap.size w w1 ∧ EnB w1 w.heap.size (.int .i64 0) (.bool false) (.slice none 0 0) (.int .i64 0)) := ⟨hA, HX.out.1.trans (hb.mono HX.out.1.size), hE⟩
  clear kk hA hb hE HX
  go_wp2_with fail
  refine bodyPost_ret (results_cell_row rfl _ _ (w.heap.size) 61 #[.int .i64 0, .bool s, .slice ao n cap, .int .i64 e] (0, 0) _ rfl (HF.out.2.2.set _ _ _ _) Tryz.underlying61 rfl en_info) rfl ?_
  exact ⟨_, rfl, ⟨s, ao, n, cap, e, rfl, dn_store48 HF.out.1 HF.out.2.2 _ _ _ _⟩, below_store4 HF.out.2.1 (Nat.le_refl _) _ _ _ _⟩
end Go.Proofs.YtcoclopllbfjcaaGreatDoor
/- The document's ends: rounded, signed, turned, added. -/
namespace Go.Proofs.YtcoclopllbfjcaaGreatDoor
set_option linter.unusedVariables false
set_option linter.unusedSimpArgs false
open Go.RowKit Go.Fl64
attribute [local go_sem] run_store_flt

set_option maxHeartbeats 2000000 in
theorem dfloat_i (i m e : Int) (s : Bool) (ao : Option Addr) (n cap X : Nat) (w : World) (hi : (i != 0) = true) (k : ∀ W, Calls Tryz.prog 44 #[.int .i64 i] W fun r w' => r = .returned (.float .f64 X) ∧ w' = W) :
    Calls Tryz.prog 87 #[.agg #[.int .i64 i, .bool s, .slice ao n cap, .int .i64 e], .int .i64 m] w fun r w' => r = .returned (.float .f64 X) ∧ Below w.heap.size w w' := by
  obtain ⟨W, hW⟩ : ∃ W, W = w.alloc (.cells #[.int .i64 i, .bool s, .slice ao n cap, .int .i64 e] 61) := ⟨_, rfl⟩
  have HX : Hid (Below w.heap.size w W ∧ EnB W w.heap.size (.int .i64 i) (.bool s) (.slice ao n cap) (.int .i64 e)) := by
    rw [hW]; exact ⟨(Below.refl _ _).alloc (Nat.le_refl _) _, EnB.new _ _ _ _ _⟩
  obtain ⟨⟨a0, a1, a2, a3⟩, -⟩ := HX.out.2.facts
  go_enter Tryz.func87, Tryz.ntmps87
  go_upto_region 1 with fail
  rw [← hW]
  clear hW
  go_wp2_with (first | (go_at_call 44; refine (k _).mono ?_; rintro r w' ⟨rfl, hw⟩; replace hw := hw.symm; subst hw))
  go_ret
  exact ⟨rfl, HX.out.1⟩
set_option maxHeartbeats 2000000 in
theorem dfloat_0 (m e : Int) (s : Bool) (ao : Option Addr) (n cap X Y : Nat) (w : World) (k1 : ∀ W, Below w.heap.size w W → Calls Tryz.prog 66 #[.agg #[.bool s, .slice ao n cap, .int .i64 e], .int .i64 m] W fun r w' => r = .returned (.float .f64 X) ∧ Below W.heap.size W w') (k2 : ∀ W, Calls Tryz.prog 48 #[.float .f64 X] W fun r w' => r = .returned (.float .f64 Y) ∧ w' = W) :
    Calls Tryz.prog 87 #[.agg #[.int .i64 0, .bool s, .slice ao n cap, .int .i64 e], .int .i64 m] w fun r w' => r = .returned (.float .f64 Y) ∧ Below w.heap.size w w' := by
  obtain ⟨W, hW⟩ : ∃ W, W = w.alloc (.cells #[.int .i64 0, .bool s, .slice ao n cap, .int .i64 e] 61) := ⟨_, rfl⟩
  have HX : Hid (Below w.heap.size w W ∧ EnB W w.heap.size (.int .i64 0) (.bool s) (.slice ao n cap) (.int .i64 e)) := by
    rw [hW]; exact ⟨(Below.refl _ _).alloc (Nat.le_refl _) _, EnB.new _ _ _ _ _⟩
  obtain ⟨⟨a0, a1, a2, a3⟩, -⟩ := HX.out.2.facts
  have kk := k1 W HX.out.1
  clear k1
  go_enter Tryz.func87, Tryz.ntmps87
  go_upto_region 1 with fail
  rw [← hW]
  clear hW
  go_wp2_with fail
  refine kk.mono ?_
  rintro r w1 ⟨rfl, hb⟩
  have HB : Hid (Below w.heap.size w w1) := HX.out.1.trans (hb.mono HX.out.1.size)
  clear kk hb HX a0 a1 a2 a3
  go_wp2_with (first | (go_at_call 48; refine (k2 _).mono ?_; rintro r w' ⟨rfl, hw⟩; replace hw := hw.symm; subst hw))
  go_ret
  exact ⟨rfl, HB.out⟩
set_option maxHeartbeats 2000000 in
theorem dsign_i (i e : Int) (s : Bool) (ao : Option Addr) (n cap : Nat) (w : World) (hi : (i != 0) = true) :
    Calls Tryz.prog 86 #[.agg #[.int .i64 i, .bool s, .slice ao n cap, .int .i64 e]] w fun r w' => r = .returned (.int .i64 i) ∧ Below w.heap.size w w' := by
  obtain ⟨W, hW⟩ : ∃ W, W = w.alloc (.cells #[.int .i64 i, .bool s, .slice ao n cap, .int .i64 e] 61) := ⟨_, rfl⟩
  have HX : Hid (Below w.heap.size w W ∧ EnB W w.heap.size (.int .i64 i) (.bool s) (.slice ao n cap) (.int .i64 e)) := by
    rw [hW]; exact ⟨(Below.refl _ _).alloc (Nat.le_refl _) _, EnB.new _ _ _ _ _⟩
  obtain ⟨⟨a0, a1, a2, a3⟩, -⟩ := HX.out.2.facts
  go_enter Tryz.func86, Tryz.ntmps86
  go_upto_region 1 with fail
  rw [← hW]
  clear hW
  go_wp2
  go_ret
  exact ⟨rfl, HX.out.1⟩
set_option maxHeartbeats 2000000 in
theorem dsign_0 (e c : Int) (s : Bool) (ao : Option Addr) (n cap : Nat) (w : World) (k1 : ∀ W, Below w.heap.size w W → Calls Tryz.prog 77 #[.agg #[.bool s, .slice ao n cap, .int .i64 e]] W fun r w' => r = .returned (.int .i64 c) ∧ Below W.heap.size W w') :
    Calls Tryz.prog 86 #[.agg #[.int .i64 0, .bool s, .slice ao n cap, .int .i64 e]] w fun r w' => r = .returned (.int .i64 c) ∧ Below w.heap.size w w' := by
  obtain ⟨W, hW⟩ : ∃ W, W = w.alloc (.cells #[.int .i64 0, .bool s, .slice ao n cap, .int .i64 e] 61) := ⟨_, rfl⟩
  have HX : Hid (Below w.heap.size w W ∧ EnB W w.heap.size (.int .i64 0) (.bool s) (.slice ao n cap) (.int .i64 e)) := by
    rw [hW]; exact ⟨(Below.refl _ _).alloc (Nat.le_refl _) _, EnB.new _ _ _ _ _⟩
  obtain ⟨⟨a0, a1, a2, a3⟩, -⟩ := HX.out.2.facts
  have kk := k1 W HX.out.1
  clear k1
  go_enter Tryz.func86, Tryz.ntmps86
  go_upto_region 1 with fail
  rw [← hW]
  clear hW
  go_wp2_with fail
  refine kk.mono ?_
  rintro r w1 ⟨rfl, hb⟩
  have HB : Hid (Below w.heap.size w w1) := HX.out.1.trans (hb.mono HX.out.1.size)
  clear kk hb HX a0 a1 a2 a3
  go_wp2_with fail
  go_ret
  exact ⟨rfl, HB.out⟩
/-- an end rounded -/
def toD (t : Bool × Nat × Int) (m : Int) : Nat := if t.2.1 = 0 then 0 else tfF t.1 true t.2.1 t.2.2 m
def enF (i : Int) (t : Bool × Nat × Int) (m : Int) : Nat := if i = 0 then pl (toD t m) else if 0 < i then 9218868437227405312 else 18442240474082181120
theorem toD_lt {t : Bool × Nat × Int} {m : Int} (hm : 1 ≤ m ∧ m ≤ 3) : toD t m < 18446744073709551616 := by
  unfold toD
  split
  · omega
  · exact tfF_lt hm
theorem dto8 {t : Bool × Nat × Int} {m : Int} (o : Ok t) (hm : 1 ≤ m ∧ m ≤ 3) {W : World} {A : Value} (h : DN W A t) : Calls Tryz.prog 66 #[A, .int .i64 m] W fun r w' => r = .returned (.float .f64 (toD t m)) ∧ Below W.heap.size W w' := by
  obtain ⟨f1, f2, f3, -, f5⟩ := o.facts
  obtain ⟨ao, cap, rfl, hA⟩ := h
  unfold toD
  by_cases h0 : t.2.1 = 0
  · rw [if_pos h0, dlen_eq_zero.2 h0]
    exact rto_0 _ _ _ _ _ _
  · rw [if_neg h0, tf_bdy hm]
    exact rto hA.at_ hA.le (f5 h0) (by omega) (by omega) (by omega) hm
theorem cinf_ge (i : Int) (w : World) (h : 0 < i) : Calls Tryz.prog 44 #[.int .i64 i] w fun r w' => r = .returned (.float .f64 9218868437227405312) ∧ w' = w := by
  have hb := Ie.run_frombits
  have h0 : decide (0 ≤ i) = true := decide_eq_true (by omega)
  have h1 : 0 ≤ i := by omega
  go_enter Tryz.func44, Tryz.ntmps44
  go_wp2
  go_ret
  exact ⟨rfl, rfl⟩
theorem cinf_le (i : Int) (w : World) (h : i < 0) : Calls Tryz.prog 44 #[.int .i64 i] w fun r w' => r = .returned (.float .f64 18442240474082181120) ∧ w' = w := by
  have hb := Ie.run_frombits
  have h0 : decide (0 ≤ i) = false := decide_eq_false (by omega)
  have h1 : ¬ 0 ≤ i := by omega
  go_enter Tryz.func44, Tryz.ntmps44
  go_wp2
  go_ret
  exact ⟨rfl, rfl⟩
theorem dfloat {i m : Int} {t : Bool × Nat × Int} {A : Value} {w : World} (o : Ok t) (hm : 1 ≤ m ∧ m ≤ 3) (h : EN w A i t) : Calls Tryz.prog 87 #[A, .int .i64 m] w fun r w' => r = .returned (.float .f64 (enF i t m)) ∧ Below w.heap.size w w' := by
  obtain ⟨s, ao, n, cap, e, rfl, hD⟩ := h
  unfold enF
  by_cases h0 : i = 0
  · subst h0
    rw [if_pos rfl]
    exact dfloat_0 m e s ao n cap _ _ w (fun W hW => dto8 o hm (hD.later hW)) (fun W => dpl _ (toD_lt hm) W)
  · rw [if_neg h0]
    by_cases h1 : 0 < i
    · rw [if_pos h1]
      exact dfloat_i i m e s ao n cap _ w (by simp [h0]) (fun W => cinf_ge i W h1)
    · rw [if_neg h1]
      exact dfloat_i i m e s ao n cap _ w (by simp [h0]) (fun W => cinf_le i W (by omega))
theorem eI_cases (f : Nat) : eI f = -1 ∨ eI f = 0 ∨ eI f = 1 := by
  unfold eI
  split
  · exact .inr (.inr rfl)
  · split
    · exact .inl rfl
    · exact .inr (.inl rfl)
theorem eT_ok (f : Nat) : Ok (eT f) := by
  unfold eT
  split
  · exact tF_ok f
  · unfold Ok; rw [dlen_zero]; rfl
theorem dend (f : Nat) (hf : f < 18446744073709551616) (hn : isNaN f = false) (w : World) : Calls Tryz.prog 37 #[.float .f64 f] w fun r w' => ∃ A, r = .returned A ∧ EN w' A (eI f) (eT f) ∧ Below w.heap.size w w' := by
  have o1 := ord_gt f 9218868437227405311 hf (by omega)
  have o2 := ord_lt f 18442240474082181119 hf (by omega)
  have b := nan_stp hn
  unfold lt at o1 o2
  rw [hn, show isNaN 9218868437227405311 = false by decide, show isNaN 18442240474082181119 = false by decide, show stp 9218868437227405311 = 9218868437227405311 by decide, show stp 18442240474082181119 = -9218868437227405311 by decide] at *
  simp only [Bool.not_false, Bool.true_and] at o1 o2
  by_cases h1 : f = 9218868437227405312
  · have e : eI f = 1 := by unfold eI; rw [if_pos h1]
    have e2 : eT f = (false, 0, 0) := by unfold eT; rw [e]; rfl
    rw [e, e2]
    rw [decide_eq_true (by rw [h1]; decide)] at o1
    refine (dend_inf f w o1).mono ?_
    rintro r w' ⟨rfl, hb⟩
    exact ⟨_, rfl, ⟨_, _, _, _, _, rfl, dn_nil _⟩, hb⟩
  · have s1 : ¬ 9218868437227405311 < stp f := by
      intro h
      exact h1 (stp_eq hf (by omega) (by rw [show stp 9218868437227405312 = 9218868437227405312 by decide]; omega) (by omega))
    rw [decide_eq_false s1] at o1
    by_cases h2 : f = 18442240474082181120
    · have e : eI f = -1 := by unfold eI; rw [if_neg h1, if_pos h2]
      have e2 : eT f = (false, 0, 0) := by unfold eT; rw [e]; rfl
      rw [e, e2]
      rw [decide_eq_true (by rw [h2]; decide)] at o2
      refine (dend_ninf f w o1 o2).mono ?_
      rintro r w' ⟨rfl, hb⟩
      exact ⟨_, rfl, ⟨_, _, _, _, _, rfl, dn_nil _⟩, hb⟩
    · have s2 : ¬ stp f < -9218868437227405311 := by
        intro h
        exact h2 (stp_eq hf (by omega) (by rw [show stp 18442240474082181120 = -9218868437227405312 by decide]; omega) (by omega))
      rw [decide_eq_false s2] at o2
      have e : eI f = 0 := by unfold eI; rw [if_neg h1, if_neg h2]
      have e2 : eT f = tF f := by unfold eT; rw [e]; rfl
      rw [e, e2]
      exact dend_fin f _ w o1 o2 (fun W => float_dn f hf W)
end Go.Proofs.YtcoclopllbfjcaaGreatDoor
/- The document's ends added; the tightest interval; Neg, Add, Sub. -/
namespace Go.Proofs.YtcoclopllbfjcaaGreatDoor
set_option linter.unusedVariables false
set_option linter.unusedSimpArgs false
open Go.RowKit Go.Fl64
attribute [local go_sem] run_store_flt

set_option maxHeartbeats 4000000 in
set_option maxRecDepth 200000 in
theorem dTight_1 (i j eA eB : Int) (sA sB : Bool) (aoA aoB : Option Addr) (nA capA nB capB : Nat) (x y : Nat) (w : World)
    (k1 : ∀ W, Below w.heap.size w W → Calls Tryz.prog 87 #[.agg #[.int .i64 i, .bool sA, .slice aoA nA capA, .int .i64 eA], .int .i64 1] W fun r w' => r = .returned (.float .f64 x) ∧ Below W.heap.size W w')
    (k2 : ∀ W, Below w.heap.size w W → Calls Tryz.prog 87 #[.agg #[.int .i64 j, .bool sB, .slice aoB nB capB, .int .i64 eB], .int .i64 3] W fun r w' => r = .returned (.float .f64 y) ∧ Below W.heap.size W w') :
    Calls Tryz.prog 39 #[.agg #[.int .i64 i, .bool sA, .slice aoA nA capA, .int .i64 eA], .agg #[.int .i64 j, .bool sB, .slice aoB nB capB, .int .i64 eB]] w fun r w' => r = .returned (.agg #[.float .f64 x, .float .f64 y]) ∧ Below w.heap.size w w' := by
  obtain ⟨W, hW⟩ : ∃ W, W = ((w.alloc (.cells #[.int .i64 i, .bool sA, .slice aoA nA capA, .int .i64 eA] 61)).alloc (.cells #[.int .i64 j, .bool sB, .slice aoB nB capB, .int .i64 eB] 61)).alloc (.cells #[.float .f64 0, .float .f64 0] 24) := ⟨_, rfl⟩
  have HX : Hid (Below w.heap.size w W ∧ EnB W (w.heap.size) (.int .i64 i) (.bool sA) (.slice aoA nA capA) (.int .i64 eA) ∧ EnB W (w.heap.size + 1) (.int .i64 j) (.bool sB) (.slice aoB nB capB) (.int .i64 eB) ∧ IvB W (w.heap.size + 1 + 1) 0 0) := by
    rw [hW]
    refine ⟨(((Below.refl _ _).alloc (Nat.le_refl _) _).alloc (by simp) _).alloc (by simp; omega) _, ((EnB.new _ _ _ _ _).alloc _).alloc _, ?_, ?_⟩
    · have := (EnB.new (w.alloc (.cells #[.int .i64 i, .bool sA, .slice aoA nA capA, .int .i64 eA] 61)) (.int .i64 j) (.bool sB) (.slice aoB nB capB) (.int .i64 eB)).alloc (.cells #[.float .f64 0, .float .f64 0] 24)
      simpa using this
    · have := IvB.new ((w.alloc (.cells #[.int .i64 i, .bool sA, .slice aoA nA capA, .int .i64 eA] 61)).alloc (.cells #[.int .i64 j, .bool sB, .slice aoB nB capB, .int .i64 eB] 61)) 0 0
      simpa using this
  have HKK : Hid (∀ w', Below W.heap.size W w' → (w'.cell? ⟨w.heap.size, 0, none⟩ = some (.int .i64 i) ∧ w'.cell? ⟨w.heap.size, 1, none⟩ = some (.bool sA) ∧ w'.cell? ⟨w.heap.size, 2, none⟩ = some (.slice aoA nA capA) ∧ w'.cell? ⟨w.heap.size, 3, none⟩ = some (.int .i64 eA)) ∧ (w'.cell? ⟨w.heap.size + 1, 0, none⟩ = some (.int .i64 j) ∧ w'.cell? ⟨w.heap.size + 1, 1, none⟩ = some (.bool sB) ∧ w'.cell? ⟨w.heap.size + 1, 2, none⟩ = some (.slice aoB nB capB) ∧ w'.cell? ⟨w.heap.size + 1, 3, none⟩ = some (.int .i64 eB))) := fun w' hb => ⟨(HX.out.2.1.box hb).facts.1, (HX.out.2.2.1.box hb).facts.1⟩
  have hR : Below W.heap.size W W.drew := (Below.refl _ _).drew
  have q1 : ∀ W', Below W.heap.size W W' → Calls Tryz.prog 87 #[.agg #[.int .i64 i, .bool sA, .slice aoA nA capA, .int .i64 eA], .int .i64 1] W' fun r w' => r = .returned (.float .f64 x) ∧ Below W.heap.size W w' := fun W' h => (k1 W' (HX.out.1.trans (h.mono HX.out.1.size))).mono fun r w' ⟨e1, e2⟩ => ⟨e1, h.trans (e2.mono h.size)⟩
  have q2 : ∀ W', Below W.heap.size W W' → Calls Tryz.prog 87 #[.agg #[.int .i64 j, .bool sB, .slice aoB nB capB, .int .i64 eB], .int .i64 3] W' fun r w' => r = .returned (.float .f64 y) ∧ Below W.heap.size W w' ∧ (w'.cell? ⟨w.heap.size + 1 + 1, 0, none⟩ = some (.float .f64 0) ∧ w'.cell? ⟨w.heap.size + 1 + 1, 1, none⟩ = some (.float .f64 0) ∧ w'.frozen? ⟨w.heap.size + 1 + 1, 0, none⟩ = false ∧ w'.frozen? ⟨w.heap.size + 1 + 1, 1, none⟩ = false) := fun W' h => (k2 W' (HX.out.1.trans (h.mono HX.out.1.size))).mono fun r w' ⟨e1, e2⟩ => ⟨e1, h.trans (e2.mono h.size), HX.out.2.2.2.later (h.trans (e2.mono h.size))⟩
  obtain ⟨⟨a0, a1, a2, a3⟩, b0, b1, b2, b3⟩ := HKK.out W (Below.refl _ _)
  clear k1 k2
  go_enter Tryz.func39, Tryz.ntmps39
  go_upto_region 1 with fail
  rw [← hW]
  clear hW
  go_region_held3 (fun w' => (w'.cell? ⟨w.heap.size, 0, none⟩ = some (.int .i64 i) ∧ w'.cell? ⟨w.heap.size, 1, none⟩ = some (.bool sA) ∧ w'.cell? ⟨w.heap.size, 2, none⟩ = some (.slice aoA nA capA) ∧ w'.cell? ⟨w.heap.size, 3, none⟩ = some (.int .i64 eA)) ∧ (w'.cell? ⟨w.heap.size + 1, 0, none⟩ = some (.int .i64 j) ∧ w'.cell? ⟨w.heap.size + 1, 1, none⟩ = some (.bool sB) ∧ w'.cell? ⟨w.heap.size + 1, 2, none⟩ = some (.slice aoB nB capB) ∧ w'.cell? ⟨w.heap.size + 1, 3, none⟩ = some (.int .i64 eB))) (first | (with_reducible assumption) | (with_reducible exact HKK.out _ hR) | (with_reducible refine HKK.out _ ?_; with_reducible assumption) | (refine ⟨⟨?_, ?_, ?_, ?_⟩, ?_, ?_, ?_, ?_⟩ <;> (change World.cell? (World.setCell (World.setCell _ _ _) _ _) _ = _; rw [World.cell?_setCell_other _ _ _ _ (by first | (simp; done) | (simp; omega)), World.cell?_setCell_other _ _ _ _ (by first | (simp; done) | (simp; omega))]; first | exact (HKK.out _ hb7).1.1 | exact (HKK.out _ hb7).1.2.1 | exact (HKK.out _ hb7).1.2.2.1 | exact (HKK.out _ hb7).1.2.2.2 | exact (HKK.out _ hb7).2.1 | exact (HKK.out _ hb7).2.2.1 | exact (HKK.out _ hb7).2.2.2.1 | exact (HKK.out _ hb7).2.2.2.2)) | go_keep)
    (first | (go_at_call 87; with_reducible refine (q1 _ hR).mono ?_; rintro r w6 ⟨rfl, hb6⟩)
           | (go_at_call 87; with_reducible refine (q2 _ hb6).mono ?_; rintro r w7 ⟨rfl, hb7, x0, x1, x2, x3⟩))
  have HB : Hid (Below w.heap.size w w7) := HX.out.1.trans (hb7.mono HX.out.1.size)
  have HR : Hid (IvB w7 (w.heap.size + 1 + 1) 0 0) := HX.out.2.2.2.box hb7
  clear q1 q2 HKK HX hR hb7 x0 x1 x2 x3 a0 a1 a2 a3 b0 b1 b2 b3
  go_wp2_with fail
  refine bodyPost_ret (results_cell_row rfl _ _ (w.heap.size + 1 + 1) 24 #[.float .f64 x, .float .f64 y] (0, 0) _ rfl (HR.out.set _ _) Tryz.underlying24 rfl iv_info) rfl ?_
  first | exact ⟨rfl, below_store2 HB.out (by omega) _ _⟩ | exact ⟨rfl, (below_store2 HB.out (by omega) _ _).drew⟩
theorem dTight {i j : Int} {t u : Bool × Nat × Int} {A B : Value} {w : World} (o1 : Ok t) (o2 : Ok u) (h1 : EN w A i t) (h2 : EN w B j u) :
    Calls Tryz.prog 39 #[A, B] w fun r w' => r = .returned (.agg #[.float .f64 (enF i t 1), .float .f64 (enF j u 3)]) ∧ Below w.heap.size w w' := by
  have h1' := h1
  have h2' := h2
  obtain ⟨sA, aoA, nA, capA, eA, rfl, d1⟩ := h1
  obtain ⟨sB, aoB, nB, capB, eB, rfl, d2⟩ := h2
  exact dTight_1 i j eA eB sA sB aoA aoB nA capA nB capB _ _ w (fun W hW => dfloat o1 (by omega) (h1'.later hW)) (fun W hW => dfloat o2 (by omega) (h2'.later hW))
end Go.Proofs.YtcoclopllbfjcaaGreatDoor
/- Several values made at once and put into boxes, which hold their zero value till then. -/
namespace Go.Proofs.YtcoclopllbfjcaaGreatDoor
set_option linter.unusedVariables false
set_option linter.unusedSimpArgs false
open Go.RowKit

/-- What holds while such a region runs: the operations ahead of m make values (number j in slot 'slot j', of which V j holds), the next n lay boxes of type T, the last n store number 'vs k' into box k. -/
structure ParZ (W0 : World) (a0 : Act) (m n : Nat) (slot bx : Nat → Tmp) (vs : Nat → Nat) (T : TypeId) (zs : Array Value) (V : Nat → World → Value → Prop) (listed : Array Bool) (a : Act) (w : World) : Prop where
  below : Below W0.heap.size W0 w
  size : a.tmps.size = a0.tmps.size
  defers : a.defers = a0.defers
  other : ∀ s, (∀ j, j < m → s ≠ slot j) → (∀ k, k < n → s ≠ bx k) → a.tmps[s]? = a0.tmps[s]?
  val : ∀ j, j < m → listed.getD j false = true → ∃ u, a.tmps[slot j]? = some u ∧ V j w u
  box : ∀ k, k < n → listed.getD (m + k) false = true → ∃ g cs, a.tmps[bx k]? = some (.pointer (some ⟨g, 0, none⟩)) ∧ W0.heap.size ≤ g ∧ w.heap[g]? = some (.cells cs T (0, 0)) ∧ cs.size = zs.size ∧
    (listed.getD (m + n + k) false = true → a.tmps[slot (vs k)]? = some (.agg cs)) ∧ (listed.getD (m + n + k) false = false → cs = zs)
  apart : ∀ k k', k < n → k' < n → k ≠ k' → listed.getD (m + k) false = true → listed.getD (m + k') false = true → a.tmps[bx k]? ≠ a.tmps[bx k']?
  stored : ∀ k, k < n → listed.getD (m + n + k) false = true → listed.getD (m + k) false = true ∧ listed.getD (vs k) false = true

theorem parz_region {P : Program} {ops : Array Oper} {Q : Exit → Act → World → Prop} {id : Nat} (hm : P.follows .mixedOrders = true) (m n : Nat) (slot bx : Nat → Tmp) (vs : Nat → Nat) (dep : Nat → List Nat) (T : TypeId) (zs : Array Value)
    (W0 : World) (a0 : Act) (V : Nat → World → Value → Prop) (hsz : ops.size = m + n + n)
    (hord : ∀ (i : Nat) (o : Oper), ops[i]? = some o → ∀ e ∈ o.after, e.on < i)
    (hV1 : ∀ j w w' u, Below w.heap.size w w' → V j w u → V j w' u)
    (hV2 : ∀ j w u g cs', w.heap[g]? = some (.cells zs T (0, 0)) → V j w u → V j (w.setRow g cs') u)
    (hVs : ∀ k, k < n → ∀ w u, V (vs k) w u → ∃ cs : Array Value, u = .agg cs ∧ cs.size = zs.size ∧ cs.all (·.oneCell') = true)
    (hdep : ∀ j, j < m → ∀ j' ∈ dep j, j' < m ∧ ∀ o, ops[j]? = some o → ∃ e ∈ o.after, e.on = j' ∧ Region.binds .any e = true)
    (hA : ∀ j, j < m → ∀ (a : Act) (w : World), Below W0.heap.size W0 w → (∀ s, (∀ j, j < m → s ≠ slot j) → (∀ k, k < n → s ≠ bx k) → a.tmps[s]? = a0.tmps[s]?) →
      (∀ j' ∈ dep j, ∃ u, a.tmps[slot j']? = some u ∧ V j' w u) → wpOp P ops Q j (fun a' w' => ∃ u, a' = a.put (some (slot j)) u ∧ V j w' u ∧ Below w.heap.size w w') a w)
    (hal : ∀ k, k < n → ∃ o, ops[m + k]? = some o ∧ o.guard = none ∧ o.op = .alloc T ∧ o.dst = some (bx k))
    (hz : ∀ w, (zeroValue T).run P w = .ok (.agg zs) w) (hi : (P.info? T).map (·.size) = some zs.size)
    (hst : ∀ k, k < n → vs k < m ∧ ∃ o, ops[m + n + k]? = some o ∧ o.guard = none ∧ o.op = .store T (.tmp (bx k)) (.tmp (slot (vs k))) ∧ o.dst = none ∧ (∃ e ∈ o.after, e.on = m + k ∧ Region.binds .any e = true) ∧ (∃ e ∈ o.after, e.on = vs k ∧ Region.binds .any e = true))
    (hin : ∀ j, j < m → slot j < a0.tmps.size) (hbin : ∀ k, k < n → bx k < a0.tmps.size)
    (hinj : ∀ j j', j < m → j' < m → slot j = slot j' → j = j') (hbinj : ∀ k k', k < n → k' < n → bx k = bx k' → k = k') (hsb : ∀ j k, j < m → k < n → slot j ≠ bx k)
    (hQ : ∀ (u : Nat → Value) (g : Nat → Nat) (a : Act) (w : World), Below W0.heap.size W0 w → (∀ j, j < m → a.tmps[slot j]? = some (u j) ∧ V j w (u j)) →
      (∀ k, k < n → a.tmps[bx k]? = some (.pointer (some ⟨g k, 0, none⟩)) ∧ W0.heap.size ≤ g k ∧ ∃ cs, u (vs k) = .agg cs ∧ w.heap[g k]? = some (.cells cs T (0, 0))) →
      a.tmps.size = a0.tmps.size → a.defers = a0.defers → (∀ s, (∀ j, j < m → s ≠ slot j) → (∀ k, k < n → s ≠ bx k) → a.tmps[s]? = a0.tmps[s]?) → Q .normal a w) :
    (Code.region id ops true).wp P Q a0 W0 := by
  refine wp_region_any hm ?_
  refine wpAny_inv (ParZ W0 a0 m n slot bx vs T zs V) ?_ ?_ ops.size _ a0 _ (by simp) ?_ (by simp)
  · -- a step
    intro listed a w i hl hI hr
    obtain ⟨hun, o, ho, hall⟩ := mem_ready.1 hr
    have hunf := not_listed hun
    have hio : i < ops.size := (Array.getElem?_eq_some_iff.1 ho).1
    have hil : i < listed.size := by omega
    have hset := listed_set hil
    have hne : ∀ x, x ≠ i → (listed.setIfInBounds i true).getD x false = listed.getD x false := fun x hx => getD_set_ne false (Ne.symm hx)
    have hpart : i < m ∨ (∃ k, k < n ∧ i = m + k) ∨ ∃ k, k < n ∧ i = m + n + k := by
      by_cases h1 : i < m
      · exact .inl h1
      · by_cases h2 : i < m + n
        · exact .inr (.inl ⟨i - m, by omega, by omega⟩)
        · exact .inr (.inr ⟨i - m - n, by omega, by omega⟩)
    rcases hpart with him | ⟨k, hk, rfl⟩ | ⟨k, hk, rfl⟩
    · refine wpOp_mono ?_ (hA i him a w hI.below hI.other fun j' hj' => ?_)
      · rintro a' w' ⟨u, rfl, hu, hb⟩
        have hlt : slot i < a.tmps.size := by rw [hI.size]; exact hin i him
        refine ⟨hI.below.trans (hb.mono hI.below.size), by rw [put_size]; exact hI.size, by rw [put_defers]; exact hI.defers, fun s h1 h2 => ?_, fun j hj h1 => ?_, fun k hk h1 => ?_, fun k k' hk hk' hkk h1 h2 => ?_, fun k hk h1 => ?_⟩
        · rw [put_get_ne (h1 i him)]; exact hI.other s h1 h2
        · by_cases e : j = i
          · subst e; exact ⟨u, put_get hlt, hu⟩
          · rw [hne j e] at h1
            obtain ⟨u', g1, g2⟩ := hI.val j hj h1
            exact ⟨u', by rw [put_get_ne (fun e2 => e (hinj j i hj him e2))]; exact g1, hV1 _ _ _ _ hb g2⟩
        · rw [hne _ (by omega)] at h1
          obtain ⟨g, cs, g1, g2, g3, g4, g5, g6⟩ := hI.box k hk h1
          refine ⟨g, cs, by rw [put_get_ne (Ne.symm (hsb i k him hk))]; exact g1, g2, (hb.block g (Array.getElem?_eq_some_iff.1 g3).1).trans g3, g4, fun h2 => ?_, fun h2 => g6 (by rw [← hne (m + n + k) (by omega)]; exact h2)⟩
          rw [hne _ (by omega)] at h2
          have h3 := (hI.stored k hk h2).2
          have h4 : vs k ≠ i := fun e => by rw [e, hunf] at h3; cases h3
          rw [put_get_ne (fun e2 => h4 (hinj _ _ (hst k hk).1 him e2))]
          exact g5 h2
        · rw [hne _ (by omega)] at h1 h2
          rw [put_get_ne (Ne.symm (hsb i k him hk)), put_get_ne (Ne.symm (hsb i k' him hk'))]
          exact hI.apart k k' hk hk' hkk h1 h2
        · rw [hne _ (by omega)] at h1
          obtain ⟨h2, h3⟩ := hI.stored k hk h1
          exact ⟨by rw [hne _ (by omega)]; exact h2, getD_set_true h3⟩
      · obtain ⟨h1, h2⟩ := hdep i him j' hj'
        obtain ⟨e, he, rfl, hbd⟩ := h2 o ho
        exact hI.val _ h1 (hall e he hbd)
    · obtain ⟨o', ho', hg, hop, hd⟩ := hal k hk
      refine step_alloc ho' hg hop hz ?_
      rw [hd]
      have hlt : bx k < a.tmps.size := by rw [hI.size]; exact hbin k hk
      have hbw : Below w.heap.size w (w.alloc (.cells zs T)) := (Below.refl _ _).alloc (Nat.le_refl _) _
      refine ⟨hI.below.trans (hbw.mono hI.below.size), by rw [put_size]; exact hI.size, by rw [put_defers]; exact hI.defers, fun s h1 h2 => ?_, fun j hj h1 => ?_, fun k1 hk1 h1 => ?_, fun k1 k2 hk1 hk2 hkk h1 h2 => ?_, fun k1 hk1 h1 => ?_⟩
      · rw [put_get_ne (h2 k hk)]; exact hI.other s h1 h2
      · rw [hne j (by omega)] at h1
        obtain ⟨u', g1, g2⟩ := hI.val j hj h1
        exact ⟨u', by rw [put_get_ne (hsb j k hj hk)]; exact g1, hV1 _ _ _ _ hbw g2⟩
      · by_cases e : k1 = k
        · subst e
          refine ⟨w.heap.size, zs, put_get hlt, hI.below.size, heap_alloc_new _ _, rfl, fun h2 => ?_, fun _ => rfl⟩
          rw [hne _ (by omega)] at h2
          have := (hI.stored k1 hk h2).1
          rw [hunf] at this
          cases this
        · rw [hne _ (by omega)] at h1
          obtain ⟨g, cs, g1, g2, g3, g4, g5, g6⟩ := hI.box k1 hk1 h1
          refine ⟨g, cs, by rw [put_get_ne (fun e2 => e (hbinj _ _ hk1 hk e2))]; exact g1, g2, (hbw.block g (Array.getElem?_eq_some_iff.1 g3).1).trans g3, g4, fun h2 => ?_, fun h2 => g6 (by rw [← hne (m + n + k1) (by omega)]; exact h2)⟩
          rw [hne _ (by omega)] at h2
          rw [put_get_ne (hsb _ k (hst k1 hk1).1 hk)]
          exact g5 h2
      · have old : ∀ k1, k1 < n → k1 ≠ k → listed.getD (m + k1) false = true → a.tmps[bx k1]? ≠ some (.pointer (some ⟨w.heap.size, 0, none⟩)) := fun k1 hk1 e h1 h2 => by
          obtain ⟨g, cs, g1, g2, g3, g4, g5, g6⟩ := hI.box k1 hk1 h1
          have hlt := (Array.getElem?_eq_some_iff.1 g3).1
          rw [g1] at h2
          simp only [Option.some.injEq, Value.pointer.injEq, Addr.mk.injEq] at h2
          omega
        by_cases e1 : k1 = k
        · subst e1
          rw [hne _ (by omega)] at h2
          rw [put_get hlt, put_get_ne (fun e2 => hkk (hbinj _ _ hk hk2 e2.symm))]
          exact Ne.symm (old k2 hk2 (Ne.symm hkk) h2)
        · rw [hne _ (by omega)] at h1
          by_cases e2 : k2 = k
          · subst e2
            rw [put_get hlt, put_get_ne (fun e2 => e1 (hbinj _ _ hk1 hk e2))]
            exact old k1 hk1 e1 h1
          · rw [hne _ (by omega)] at h2
            rw [put_get_ne (fun e3 => e1 (hbinj _ _ hk1 hk e3)), put_get_ne (fun e3 => e2 (hbinj _ _ hk2 hk e3))]
            exact hI.apart k1 k2 hk1 hk2 hkk h1 h2
      · rw [hne _ (by omega)] at h1
        obtain ⟨h2, h3⟩ := hI.stored k1 hk1 h1
        exact ⟨getD_set_true h2, getD_set_true h3⟩
    · obtain ⟨hvm, o', ho', hg, hop, hd, ⟨e1, he1, hon1, hb1⟩, e2, he2, hon2, hb2⟩ := hst k hk
      obtain rfl : o' = o := Option.some.inj (ho'.symm.trans ho)
      have l1 := hall e1 he1 hb1
      have l2 := hall e2 he2 hb2
      rw [hon1] at l1
      rw [hon2] at l2
      obtain ⟨u, hu1, hu2⟩ := hI.val _ hvm l2
      obtain ⟨cs, rfl, hc1, hc2⟩ := hVs k hk w u hu2
      obtain ⟨g, old, g1, g2, g3, g4, g5, g6⟩ := hI.box k hk l1
      rw [g6 hunf] at g3 g4
      refine step_store ho' hg hop g1 hu1 g3 (by rw [hc1]; exact hi) (by omega) hc2 ?_
      rw [hd]
      show ParZ W0 a0 m n slot bx vs T zs V _ a _
      refine ⟨below_row hI.below g2 _, hI.size, hI.defers, hI.other, fun j hj h1 => ?_, fun k1 hk1 h1 => ?_, fun k1 k2 hk1 hk2 hkk h1 h2 => ?_, fun k1 hk1 h1 => ?_⟩
      · rw [hne j (by omega)] at h1
        obtain ⟨u', q1, q2⟩ := hI.val j hj h1
        exact ⟨u', q1, hV2 _ _ _ _ _ g3 q2⟩
      · rw [hne _ (by omega)] at h1
        by_cases e : k1 = k
        · subst e
          exact ⟨g, cs, g1, g2, setRow_heap w g _ cs T _ g3, hc1, fun _ => hu1, fun h2 => by rw [hset] at h2; cases h2⟩
        · obtain ⟨g', cs', q1, q2, q3, q4, q5, q6⟩ := hI.box k1 hk1 h1
          have hgg : g' ≠ g := fun e2 => by
            subst e2
            exact hI.apart k1 k hk1 hk e h1 l1 (q1.trans g1.symm)
          refine ⟨g', cs', q1, q2, (setRow_other w g g' cs hgg).trans q3, q4, fun h2 => ?_, fun h2 => q6 (by rw [← hne (m + n + k1) (by omega)]; exact h2)⟩
          rw [hne _ (by omega)] at h2
          exact q5 h2
      · rw [hne _ (by omega)] at h1 h2
        exact hI.apart k1 k2 hk1 hk2 hkk h1 h2
      · by_cases e : k1 = k
        · subst e
          exact ⟨getD_set_true l1, getD_set_true l2⟩
        · rw [hne _ (by omega)] at h1
          obtain ⟨h2, h3⟩ := hI.stored k1 hk1 h1
          exact ⟨getD_set_true h2, getD_set_true h3⟩
  · -- the end: all have come up
    intro listed a w hl hI hr
    have hfull : ∀ i, i < ops.size → listed.getD i false = true := by
      intro i
      induction i using Nat.strongRecOn with
      | _ i ih =>
        intro hi
        cases hx : listed.getD i false with
        | true => rfl
        | false =>
          exfalso
          have ho : ops[i]? = some ops[i] := Array.getElem?_eq_getElem hi
          have : i ∈ Region.ready .any ops listed := by
            refine mem_ready.2 ⟨?_, ops[i], ho, fun e he _ => ih e.on (hord i _ ho e he) (Nat.lt_trans (hord i _ ho e he) hi)⟩
            have hil : i < listed.size := by omega
            simp only [Array.getD_eq_getD_getElem?, Array.getElem?_eq_getElem hil, Option.getD_some] at hx ⊢
            exact hx
          rw [hr] at this
          cases this
    have hval : ∀ j, ∃ u, j < m → a.tmps[slot j]? = some u ∧ V j w u := fun j => by
      by_cases hj : j < m
      · obtain ⟨u, h1, h2⟩ := hI.val j hj (hfull j (by omega))
        exact ⟨u, fun _ => ⟨h1, h2⟩⟩
      · exact ⟨undef, fun h => absurd h hj⟩
    obtain ⟨u, hu⟩ := Classical.axiomOfChoice hval
    have hbox : ∀ k, ∃ g, k < n → a.tmps[bx k]? = some (.pointer (some ⟨g, 0, none⟩)) ∧ W0.heap.size ≤ g ∧ ∃ cs, u (vs k) = .agg cs ∧ w.heap[g]? = some (.cells cs T (0, 0)) := fun k => by
      by_cases hk : k < n
      · obtain ⟨g, cs, h1, h2, h3, h4, h5, -⟩ := hI.box k hk (hfull _ (by omega))
        refine ⟨g, fun _ => ⟨h1, h2, cs, ?_, h3⟩⟩
        have h6 := h5 (hfull _ (by omega))
        rw [(hu _ (hst k hk).1).1] at h6
        exact Option.some.inj h6
      · exact ⟨0, fun h => absurd h hk⟩
    obtain ⟨g, hg⟩ := Classical.axiomOfChoice hbox
    exact hQ u g a w hI.below hu hg hI.size hI.defers hI.other
  · -- the start
    have h0 : ∀ x, (Array.replicate ops.size false).getD x false = true → False := fun x h => by
      simp [Array.getD_eq_getD_getElem?, Array.getElem?_replicate] at h
      split at h <;> simp at h
    exact ⟨(Below.refl _ _).drew, rfl, rfl, fun _ _ _ => rfl, fun j _ h => (h0 _ h).elim, fun k _ h => (h0 _ h).elim, fun k k' _ _ _ h => (h0 _ h).elim, fun k _ h => (h0 _ h).elim⟩
end Go.Proofs.YtcoclopllbfjcaaGreatDoor
/- The ends of several floats at once: x, y := end(a.Lo), end(a.Hi). -/
namespace Go.Proofs.YtcoclopllbfjcaaGreatDoor
set_option linter.unusedVariables false
set_option linter.unusedSimpArgs false
open Go.RowKit Go.Fl64

theorem run_fieldI0 (g : Nat) (w : World) : (Instr.fieldAt 24 (.pointer (some ⟨g, 0, none⟩)) 0).run Tryz.prog w = .ok (.pointer (some ⟨g, 0, none⟩)) w := by kernel_rfl
theorem run_fieldI1 (g : Nat) (w : World) : (Instr.fieldAt 24 (.pointer (some ⟨g, 0, none⟩)) 1).run Tryz.prog w = .ok (.pointer (some ⟨g, 1, none⟩)) w := by kernel_rfl
theorem run_loadF (g f x : Nat) (w : World) (h : w.cell? ⟨g, f, none⟩ = some (.float .f64 x)) : (Instr.loadAt 22 (.pointer (some ⟨g, f, none⟩))).run Tryz.prog w = .ok (.float .f64 x) w := by
  have u := Tryz.isAgg22
  simp [Instr.loadAt, Instr.sureAddr, loadVar, h, go_sem]
theorem step_fieldI {ops : Array Oper} {Q : Exit → Act → World → Prop} {i : Nat} {o : Oper} {K : Act → World → Prop} {a : Act} {w : World}
    (hi : ops[i]? = some o) (hg : o.guard = none) {s : Tmp} {f : Nat} (hop : o.op = .fieldAddr 24 (.tmp s) f) {g : Nat} (hf : f = 0 ∨ f = 1)
    (hs : a.tmps[s]? = some (.pointer (some ⟨g, 0, none⟩))) (h : K (a.put o.dst (.pointer (some ⟨g, f, none⟩))) w) : wpOp Tryz.prog ops Q i K a w := by
  refine step_wanted hi hg ?_
  unfold Oper.wp
  rcases hf with rfl | rfl
  · simp [execOp, hop, eval_get hs, run_fieldI0, Result.andThen, Oper.upon, h]
  · simp [execOp, hop, eval_get hs, run_fieldI1, Result.andThen, Oper.upon, h]
theorem step_loadF {ops : Array Oper} {Q : Exit → Act → World → Prop} {i : Nat} {o : Oper} {K : Act → World → Prop} {a : Act} {w : World}
    (hi : ops[i]? = some o) (hg : o.guard = none) {s : Tmp} (hop : o.op = .load 22 (.tmp s)) {g f x : Nat}
    (hs : a.tmps[s]? = some (.pointer (some ⟨g, f, none⟩))) (hc : w.cell? ⟨g, f, none⟩ = some (.float .f64 x)) (h : K (a.put o.dst (.float .f64 x)) w) : wpOp Tryz.prog ops Q i K a w := by
  refine step_wanted hi hg ?_
  unfold Oper.wp
  simp [execOp, hop, eval_get hs, run_loadF g f x w hc, Result.andThen, Oper.upon, h]
theorem zero_end (w : World) : (zeroValue 61).run Tryz.prog w = .ok (.agg #[.int .i64 0, .bool false, .slice none 0 0, .int .i64 0]) w := Tryz.zeroValue61 w

def eslot (fa ld cl : Nat → Tmp) (j : Nat) : Tmp := if j % 3 = 0 then fa (j / 3) else if j % 3 = 1 then ld (j / 3) else cl (j / 3)
def evalE (gs fld f : Nat → Nat) (j : Nat) (w : World) (u : Value) : Prop :=
  if j % 3 = 0 then u = .pointer (some ⟨gs (j / 3), fld (j / 3), none⟩) else if j % 3 = 1 then u = .float .f64 (f (j / 3)) else EN w u (eI (f (j / 3))) (eT (f (j / 3)))
theorem at_row {W : World} {ao : Option Addr} {n z g : Nat} (h : At W ao n z) (hE : EnB W g (.int .i64 0) (.bool false) (.slice none 0 0) (.int .i64 0)) (cs : Array Value) : At (W.setRow g cs) ao n z := by
  obtain ⟨bb, o, h1, h2⟩ := h
  refine ⟨bb, o, h1, fun i hi => ?_⟩
  have hc := h2 i hi
  have hne : bb ≠ g := by
    rintro rfl
    unfold EnB at hE
    simp only [World.cell?, hE] at hc
    rcases (show o + i = 0 ∨ o + i = 1 ∨ o + i = 2 ∨ o + i = 3 ∨ 4 ≤ o + i by omega) with e | e | e | e | e
    · rw [e] at hc; simp at hc
    · rw [e] at hc; simp at hc
    · rw [e] at hc; simp at hc
    · rw [e] at hc; simp at hc
    · rw [Array.getElem?_eq_none (by simpa using e)] at hc; cases hc
  have hs := setRow_other W g bb cs hne
  unfold World.cell? at hc ⊢
  rw [hs]
  exact hc
theorem EN.row {W : World} {A : Value} {i : Int} {t : Bool × Nat × Int} {g : Nat} (h : EN W A i t) (hE : EnB W g (.int .i64 0) (.bool false) (.slice none 0 0) (.int .i64 0)) (cs : Array Value) : EN (W.setRow g cs) A i t := by
  obtain ⟨s, ao, n, cap, e, h1, ao', cap', h2, h3⟩ := h
  exact ⟨s, ao, n, cap, e, h1, ao', cap', h2, h3.nil, at_row h3.at_ hE cs, h3.le, h3.small⟩
theorem one4 (i e : Int) (s : Bool) (ao : Option Addr) (n cap : Nat) : (#[.int .i64 i, .bool s, .slice ao n cap, .int .i64 e] : Array Value).all (·.oneCell') = true := by
  have h1 : (Value.int .i64 i).oneCell' = true := rfl
  have h2 : (Value.bool s).oneCell' = true := rfl
  have h3 : (Value.slice ao n cap).oneCell' = true := rfl
  have h4 : (Value.int .i64 e).oneCell' = true := rfl
  simp only [List.all_toArray, List.all_cons, List.all_nil, h1, h2, h3, h4, Bool.and_self]

theorem ends_region {ops : Array Oper} {Q : Exit → Act → World → Prop} {id : Nat} (n : Nat) (src fa ld cl bx : Nat → Tmp) (gs fld f : Nat → Nat) (W0 : World) (a0 : Act)
    (hsz : ops.size = 3 * n + n + n) (hord : ∀ (i : Nat) (o : Oper), ops[i]? = some o → ∀ e ∈ o.after, e.on < i)
    (hsrc : ∀ k, k < n → a0.tmps[src k]? = some (.pointer (some ⟨gs k, 0, none⟩)) ∧ (fld k = 0 ∨ fld k = 1) ∧ (∀ w, Below W0.heap.size W0 w → w.cell? ⟨gs k, fld k, none⟩ = some (.float .f64 (f k))) ∧ f k < 18446744073709551616 ∧ isNaN (f k) = false)
    (hfree : ∀ k, k < n → (∀ j, j < 3 * n → src k ≠ eslot fa ld cl j) ∧ ∀ j, j < n → src k ≠ bx j)
    (hfa : ∀ k, k < n → ∃ o, ops[3 * k]? = some o ∧ o.guard = none ∧ o.op = .fieldAddr 24 (.tmp (src k)) (fld k) ∧ o.dst = some (fa k))
    (hld : ∀ k, k < n → ∃ o, ops[3 * k + 1]? = some o ∧ o.guard = none ∧ o.op = .load 22 (.tmp (fa k)) ∧ o.dst = some (ld k) ∧ ∃ e ∈ o.after, e.on = 3 * k ∧ Region.binds .any e = true)
    (hcl : ∀ k, k < n → ∃ o, ops[3 * k + 2]? = some o ∧ o.guard = none ∧ (∃ ts, o.op = .call { callee := .value (.func 37), args := #[.tmp (ld k)], argTypes := ts }) ∧ o.dst = some (cl k) ∧ ∃ e ∈ o.after, e.on = 3 * k + 1 ∧ Region.binds .any e = true)
    (hal : ∀ k, k < n → ∃ o, ops[3 * n + k]? = some o ∧ o.guard = none ∧ o.op = .alloc 61 ∧ o.dst = some (bx k))
    (hst : ∀ k, k < n → ∃ o, ops[3 * n + n + k]? = some o ∧ o.guard = none ∧ o.op = .store 61 (.tmp (bx k)) (.tmp (cl k)) ∧ o.dst = none ∧ (∃ e ∈ o.after, e.on = 3 * n + k ∧ Region.binds .any e = true) ∧ (∃ e ∈ o.after, e.on = 3 * k + 2 ∧ Region.binds .any e = true))
    (hin : ∀ j, j < 3 * n → eslot fa ld cl j < a0.tmps.size) (hbin : ∀ k, k < n → bx k < a0.tmps.size)
    (hinj : ∀ j, j < 3 * n → ∀ j', j' < 3 * n → eslot fa ld cl j = eslot fa ld cl j' → j = j') (hbinj : ∀ k, k < n → ∀ k', k' < n → bx k = bx k' → k = k') (hsb : ∀ j, j < 3 * n → ∀ k, k < n → eslot fa ld cl j ≠ bx k)
    (hQ : ∀ (u : Nat → Value) (g : Nat → Nat) (w : World), Below W0.heap.size W0 w → (∀ k, k < n → EN w (u (3 * k + 2)) (eI (f k)) (eT (f k)) ∧ W0.heap.size ≤ g k ∧ ∃ cs, u (3 * k + 2) = .agg cs ∧ w.heap[g k]? = some (.cells cs 61 (0, 0))) →
      Q .normal (putL a0 ((List.range (3 * n)).map (fun j => (eslot fa ld cl j, u j)) ++ (List.range n).map (fun k => (bx k, .pointer (some ⟨g k, 0, none⟩))))) w) :
    (Code.region id ops true).wp Tryz.prog Q a0 W0 := by
  have sl0 : ∀ k, eslot fa ld cl (3 * k) = fa k := fun k => by unfold eslot; rw [if_pos (by omega), show 3 * k / 3 = k by omega]
  have sl1 : ∀ k, eslot fa ld cl (3 * k + 1) = ld k := fun k => by unfold eslot; rw [if_neg (by omega), if_pos (by omega), show (3 * k + 1) / 3 = k by omega]
  have sl2 : ∀ k, eslot fa ld cl (3 * k + 2) = cl k := fun k => by unfold eslot; rw [if_neg (by omega), if_neg (by omega), show (3 * k + 2) / 3 = k by omega]
  have va0 : ∀ k w u, evalE gs fld f (3 * k) w u = (u = .pointer (some ⟨gs k, fld k, none⟩)) := fun k w u => by unfold evalE; rw [if_pos (by omega), show 3 * k / 3 = k by omega]
  have va1 : ∀ k w u, evalE gs fld f (3 * k + 1) w u = (u = .float .f64 (f k)) := fun k w u => by unfold evalE; rw [if_neg (by omega), if_pos (by omega), show (3 * k + 1) / 3 = k by omega]
  have va2 : ∀ k w u, evalE gs fld f (3 * k + 2) w u = EN w u (eI (f k)) (eT (f k)) := fun k w u => by unfold evalE; rw [if_neg (by omega), if_neg (by omega), show (3 * k + 2) / 3 = k by omega]
  have hthree : ∀ j, ∃ k, j = 3 * k ∨ j = 3 * k + 1 ∨ j = 3 * k + 2 := fun j => ⟨j / 3, by omega⟩
  refine parz_region follows_mixed (3 * n) n (eslot fa ld cl) bx (fun k => 3 * k + 2) (fun j => if j % 3 = 0 then [] else [j - 1]) 61 #[.int .i64 0, .bool false, .slice none 0 0, .int .i64 0] W0 a0 (evalE gs fld f) hsz hord ?_ ?_ ?_ ?_ ?_ hal zero_end en_info ?_ hin hbin (fun j j' hj hj' h => hinj j hj j' hj' h) (fun k k' hk hk' h => hbinj k hk k' hk' h) (fun j k hj hk => hsb j hj k hk) ?_
  · intro j w w' u hb h
    obtain ⟨k, rfl | rfl | rfl⟩ := hthree j
    · rw [va0] at h ⊢; exact h
    · rw [va1] at h ⊢; exact h
    · rw [va2] at h ⊢; exact h.later hb
  · intro j w u g cs' hg h
    obtain ⟨k, rfl | rfl | rfl⟩ := hthree j
    · rw [va0] at h ⊢; exact h
    · rw [va1] at h ⊢; exact h
    · rw [va2] at h ⊢; exact h.row hg cs'
  · intro k hk w u h
    rw [va2] at h
    obtain ⟨s, ao, nn, cap, e, rfl, -⟩ := h
    exact ⟨_, rfl, rfl, one4 _ _ _ _ _ _⟩
  · intro j hj j' hj'
    obtain ⟨k, rfl | rfl | rfl⟩ := hthree j
    · rw [if_pos (by omega)] at hj'; cases hj'
    · rw [if_neg (by omega)] at hj'
      obtain rfl : j' = 3 * k + 1 - 1 := by simpa using hj'
      refine ⟨by omega, fun o ho => ?_⟩
      obtain ⟨o', ho', -, -, -, e, he, h1, h2⟩ := hld k (by omega)
      obtain rfl : o' = o := Option.some.inj (ho'.symm.trans ho)
      exact ⟨e, he, by omega, h2⟩
    · rw [if_neg (by omega)] at hj'
      obtain rfl : j' = 3 * k + 2 - 1 := by simpa using hj'
      refine ⟨by omega, fun o ho => ?_⟩
      obtain ⟨o', ho', -, -, -, e, he, h1, h2⟩ := hcl k (by omega)
      obtain rfl : o' = o := Option.some.inj (ho'.symm.trans ho)
      exact ⟨e, he, by omega, h2⟩
  · intro j hj a w hb hoth hdep
    obtain ⟨k, rfl | rfl | rfl⟩ := hthree j
    · obtain ⟨o, ho, hg, hop, hd⟩ := hfa k (by omega)
      obtain ⟨s1, s2, -⟩ := hsrc k (by omega)
      obtain ⟨f1, f2⟩ := hfree k (by omega)
      refine step_fieldI ho hg hop s2 (by rw [hoth _ f1 f2]; exact s1) ?_
      exact ⟨_, by rw [hd, sl0], by rw [va0], Below.refl _ _⟩
    · obtain ⟨o, ho, hg, hop, hd, -⟩ := hld k (by omega)
      obtain ⟨s1, s2, s3, -⟩ := hsrc k (by omega)
      obtain ⟨u, hu, hv⟩ := hdep (3 * k + 1 - 1) (by rw [if_neg (by omega)]; simp)
      rw [show 3 * k + 1 - 1 = 3 * k by omega] at hu hv
      rw [va0] at hv
      subst hv
      rw [sl0] at hu
      refine step_loadF ho hg hop hu (s3 w hb) ?_
      exact ⟨_, by rw [hd, sl1], by rw [va1], Below.refl _ _⟩
    · obtain ⟨o, ho, hg, ⟨ts, hop⟩, hd, -⟩ := hcl k (by omega)
      obtain ⟨s1, s2, s3, s4, s5⟩ := hsrc k (by omega)
      obtain ⟨u, hu, hv⟩ := hdep (3 * k + 2 - 1) (by rw [if_neg (by omega)]; simp)
      rw [show 3 * k + 2 - 1 = 3 * k + 1 by omega] at hu hv
      rw [va1] at hv
      subst hv
      rw [sl1] at hu
      refine step_call ho hg hop (enters Tryz.func37 (by kernel_rfl) (by kernel_rfl)) (vs := #[_]) (by simp only [List.map_toArray, List.map_cons, List.map_nil]; rw [eval_get hu]) ?_
      refine (dend (f k) s4 s5 w).mono ?_
      rintro r w' ⟨A, rfl, hE, hb'⟩
      refine ⟨_, rfl, _, by rw [hd, sl2], ?_, hb'⟩
      rw [va2]
      exact hE
  · intro k hk
    obtain ⟨o, h1, h2, h3, h4, h5, h6⟩ := hst k hk
    exact ⟨by omega, o, h1, h2, by rw [h3, sl2], h4, h5, h6⟩
  · intro u g a w hb hu hg hs hd hoth
    have hv : ∀ k, k < n → EN w (u (3 * k + 2)) (eI (f k)) (eT (f k)) ∧ W0.heap.size ≤ g k ∧ ∃ cs, u (3 * k + 2) = .agg cs ∧ w.heap[g k]? = some (.cells cs 61 (0, 0)) := fun k hk => by
      have h1 := (hu (3 * k + 2) (by omega)).2
      rw [va2] at h1
      exact ⟨h1, (hg k hk).2⟩
    have ha : a = putL a0 ((List.range (3 * n)).map (fun j => (eslot fa ld cl j, u j)) ++ (List.range n).map (fun k => (bx k, .pointer (some ⟨g k, 0, none⟩)))) := by
      have hkeys : ((List.range (3 * n)).map (fun j => (eslot fa ld cl j, u j)) ++ (List.range n).map (fun k => (bx k, Value.pointer (some ⟨g k, 0, none⟩)))).map (·.1) = (List.range (3 * n)).map (eslot fa ld cl) ++ (List.range n).map bx := by
        simp [Function.comp_def]
      refine act_putL ?_ hs hd ?_ ?_
      · rw [hkeys, List.nodup_append]
        refine ⟨?_, ?_, ?_⟩
        · refine List.pairwise_map.2 ((List.nodup_range (n := 3 * n)).imp_of_mem ?_)
          intro x y hx hy hne he
          exact hne (hinj x (List.mem_range.1 hx) y (List.mem_range.1 hy) he)
        · refine List.pairwise_map.2 ((List.nodup_range (n := n)).imp_of_mem ?_)
          intro x y hx hy hne he
          exact hne (hbinj x (List.mem_range.1 hx) y (List.mem_range.1 hy) he)
        · intro x hx y hy
          obtain ⟨j, hj, rfl⟩ := List.mem_map.1 hx
          obtain ⟨k, hk, rfl⟩ := List.mem_map.1 hy
          exact hsb j (List.mem_range.1 hj) k (List.mem_range.1 hk)
      · intro p hp
        rcases List.mem_append.1 hp with h | h
        · obtain ⟨j, hj, rfl⟩ := List.mem_map.1 h
          exact (hu j (List.mem_range.1 hj)).1
        · obtain ⟨k, hk, rfl⟩ := List.mem_map.1 h
          exact (hg k (List.mem_range.1 hk)).1
      · intro s hsn
        rw [hkeys] at hsn
        refine hoth s (fun j hj he => hsn ?_) (fun k hk he => hsn ?_)
        · exact List.mem_append_left _ (List.mem_map.2 ⟨j, List.mem_range.2 hj, he.symm⟩)
        · exact List.mem_append_right _ (List.mem_map.2 ⟨k, List.mem_range.2 hk, he.symm⟩)
    rw [ha]
    exact hQ u g w hb hv
end Go.Proofs.YtcoclopllbfjcaaGreatDoor
/- The document's order of ends, and Abs. -/
namespace Go.Proofs.YtcoclopllbfjcaaGreatDoor
set_option linter.unusedVariables false
set_option linter.unusedSimpArgs false
open Go.RowKit Go.Fl64
attribute [local go_sem] run_store_flt

/-- the order of two ends -/
def ordE (i j : Int) (t u : Bool × Nat × Int) : Int := if i = j then (if i = 0 then ordN t.1 t.2.1 t.2.2 u.1 u.2.1 u.2.2 else 0) else if i < j then -1 else 1
set_option maxHeartbeats 4000000 in
set_option maxRecDepth 200000 in
theorem dorder_ne (i j eA eB : Int) (sA sB : Bool) (aoA aoB : Option Addr) (nA capA nB capB : Nat) (w : World) (h : i ≠ j) :
    Calls Tryz.prog 88 #[.agg #[.int .i64 i, .bool sA, .slice aoA nA capA, .int .i64 eA], .agg #[.int .i64 j, .bool sB, .slice aoB nB capB, .int .i64 eB]] w fun r w' => r = .returned (.int .i64 (if i < j then -1 else 1)) ∧ Below w.heap.size w w' := by
  obtain ⟨W, hW⟩ : ∃ W, W = (w.alloc (.cells #[.int .i64 i, .bool sA, .slice aoA nA capA, .int .i64 eA] 61)).alloc (.cells #[.int .i64 j, .bool sB, .slice aoB nB capB, .int .i64 eB] 61) := ⟨_, rfl⟩
  have HX : Hid (Below w.heap.size w W ∧ EnB W (w.heap.size) (.int .i64 i) (.bool sA) (.slice aoA nA capA) (.int .i64 eA) ∧ EnB W (w.heap.size + 1) (.int .i64 j) (.bool sB) (.slice aoB nB capB) (.int .i64 eB)) := by
    rw [hW]
    refine ⟨((Below.refl _ _).alloc (Nat.le_refl _) _).alloc (by simp) _, (EnB.new _ _ _ _ _).alloc _, ?_⟩
    have := EnB.new (w.alloc (.cells #[.int .i64 i, .bool sA, .slice aoA nA capA, .int .i64 eA] 61)) (.int .i64 j) (.bool sB) (.slice aoB nB capB) (.int .i64 eB)
    simpa using this
  obtain ⟨⟨a0, a1, a2, a3⟩, -⟩ := HX.out.2.1.facts
  obtain ⟨⟨b0, b1, b2, b3⟩, -⟩ := HX.out.2.2.facts
  have h1 : (i != j) = true := by simp [h]
  by_cases hl : i < j
  · rw [if_pos hl]
    have h2 : decide (i < j) = true := decide_eq_true hl
    go_enter Tryz.func88, Tryz.ntmps88
    go_upto_region 1 with fail
    rw [← hW]
    clear hW
    go_wp2
    go_ret
    exact ⟨rfl, HX.out.1⟩
  · rw [if_neg hl]
    have h2 : decide (i < j) = false := decide_eq_false hl
    go_enter Tryz.func88, Tryz.ntmps88
    go_upto_region 1 with fail
    rw [← hW]
    clear hW
    go_wp2
    go_ret
    exact ⟨rfl, HX.out.1⟩
set_option maxHeartbeats 4000000 in
set_option maxRecDepth 200000 in
theorem dorder_eq (i eA eB : Int) (sA sB : Bool) (aoA aoB : Option Addr) (nA capA nB capB : Nat) (w : World) (h2 : (i != 0) = true) :
    Calls Tryz.prog 88 #[.agg #[.int .i64 i, .bool sA, .slice aoA nA capA, .int .i64 eA], .agg #[.int .i64 i, .bool sB, .slice aoB nB capB, .int .i64 eB]] w fun r w' => r = .returned (.int .i64 0) ∧ Below w.heap.size w w' := by
  obtain ⟨W, hW⟩ : ∃ W, W = (w.alloc (.cells #[.int .i64 i, .bool sA, .slice aoA nA capA, .int .i64 eA] 61)).alloc (.cells #[.int .i64 i, .bool sB, .slice aoB nB capB, .int .i64 eB] 61) := ⟨_, rfl⟩
  have HX : Hid (Below w.heap.size w W ∧ EnB W (w.heap.size) (.int .i64 i) (.bool sA) (.slice aoA nA capA) (.int .i64 eA) ∧ EnB W (w.heap.size + 1) (.int .i64 i) (.bool sB) (.slice aoB nB capB) (.int .i64 eB)) := by
    rw [hW]
    refine ⟨((Below.refl _ _).alloc (Nat.le_refl _) _).alloc (by simp) _, (EnB.new _ _ _ _ _).alloc _, ?_⟩
    have := EnB.new (w.alloc (.cells #[.int .i64 i, .bool sA, .slice aoA nA capA, .int .i64 eA] 61)) (.int .i64 i) (.bool sB) (.slice aoB nB capB) (.int .i64 eB)
    simpa using this
  obtain ⟨⟨a0, a1, a2, a3⟩, -⟩ := HX.out.2.1.facts
  obtain ⟨⟨b0, b1, b2, b3⟩, -⟩ := HX.out.2.2.facts
  have h1 : (i != i) = false := by simp
  go_enter Tryz.func88, Tryz.ntmps88
  go_upto_region 1 with fail
  rw [← hW]
  clear hW
  go_wp2
  go_ret
  exact ⟨rfl, HX.out.1⟩
set_option maxHeartbeats 4000000 in
set_option maxRecDepth 200000 in
theorem dorder_0 (eA eB : Int) (sA sB : Bool) (aoA aoB : Option Addr) (nA capA nB capB : Nat) (c : Int) (w : World)
    (k1 : ∀ W, Below w.heap.size w W → Calls Tryz.prog 32 #[.agg #[.bool sA, .slice aoA nA capA, .int .i64 eA], .agg #[.bool sB, .slice aoB nB capB, .int .i64 eB]] W fun r w' => r = .returned (.int .i64 c) ∧ Below W.heap.size W w') :
    Calls Tryz.prog 88 #[.agg #[.int .i64 0, .bool sA, .slice aoA nA capA, .int .i64 eA], .agg #[.int .i64 0, .bool sB, .slice aoB nB capB, .int .i64 eB]] w fun r w' => r = .returned (.int .i64 c) ∧ Below w.heap.size w w' := by
  obtain ⟨W, hW⟩ : ∃ W, W = (w.alloc (.cells #[.int .i64 0, .bool sA, .slice aoA nA capA, .int .i64 eA] 61)).alloc (.cells #[.int .i64 0, .bool sB, .slice aoB nB capB, .int .i64 eB] 61) := ⟨_, rfl⟩
  have HX : Hid (Below w.heap.size w W ∧ EnB W (w.heap.size) (.int .i64 0) (.bool sA) (.slice aoA nA capA) (.int .i64 eA) ∧ EnB W (w.heap.size + 1) (.int .i64 0) (.bool sB) (.slice aoB nB capB) (.int .i64 eB)) := by
    rw [hW]
    refine ⟨((Below.refl _ _).alloc (Nat.le_refl _) _).alloc (by simp) _, (EnB.new _ _ _ _ _).alloc _, ?_⟩
    have := EnB.new (w.alloc (.cells #[.int .i64 0, .bool sA, .slice aoA nA capA, .int .i64 eA] 61)) (.int .i64 0) (.bool sB) (.slice aoB nB capB) (.int .i64 eB)
    simpa using this
  obtain ⟨⟨a0, a1, a2, a3⟩, -⟩ := HX.out.2.1.facts
  obtain ⟨⟨b0, b1, b2, b3⟩, -⟩ := HX.out.2.2.facts
  have kk := k1 W HX.out.1
  clear k1
  go_enter Tryz.func88, Tryz.ntmps88
  go_upto_region 1 with fail
  rw [← hW]
  clear hW
  go_wp2_with fail
  refine kk.mono ?_
  rintro r w1 ⟨rfl, hb⟩
  have HB : Hid (Below w.heap.size w w1) := HX.out.1.trans (hb.mono HX.out.1.size)
  clear kk hb HX a0 a1 a2 a3 b0 b1 b2 b3
  go_wp2_with fail
  go_ret
  exact ⟨rfl, HB.out⟩
theorem dorderE {i j : Int} {t u : Bool × Nat × Int} {A B : Value} {w : World} (o1 : Ok t) (o2 : Ok u) (h1 : EN w A i t) (h2 : EN w B j u) :
    Calls Tryz.prog 88 #[A, B] w fun r w' => r = .returned (.int .i64 (ordE i j t u)) ∧ Below w.heap.size w w' := by
  obtain ⟨sA, aoA, nA, capA, eA, rfl, d1⟩ := h1
  obtain ⟨sB, aoB, nB, capB, eB, rfl, d2⟩ := h2
  unfold ordE
  by_cases h : i = j
  · rw [if_pos h]
    by_cases h0 : i = 0
    · rw [if_pos h0]
      subst h
      subst h0
      refine dorder_0 eA eB sA sB aoA aoB nA capA nB capB _ w (fun W hW => ?_)
      have d1' := d1.later hW
      have d2' := d2.later hW
      obtain ⟨ao, cap, e1, a1⟩ := d1'
      obtain ⟨ao', cap', e2, a2⟩ := d2'
      rw [e1, e2]
      (obtain ⟨f1, f2, f3, -, -⟩ := o1.facts; obtain ⟨g1, g2, g3, -, -⟩ := o2.facts; exact rorder a1 a2 (by omega) (by omega) (by omega) (by omega))
    · rw [if_neg h0]
      subst h
      exact dorder_eq i eA eB sA sB aoA aoB nA capA nB capB w (by simp [h0])
  · rw [if_neg h]
    exact dorder_ne i j eA eB sA sB aoA aoB nA capA nB capB w h
/-- the sign of an end -/
def sgE (i : Int) (t : Bool × Nat × Int) : Int := if i = 0 then (if t.2.1 = 0 then 0 else if t.1 then -1 else 1) else i
theorem dsignE {i : Int} {t : Bool × Nat × Int} {A : Value} {w : World} (h : EN w A i t) :
    Calls Tryz.prog 86 #[A] w fun r w' => r = .returned (.int .i64 (sgE i t)) ∧ Below w.heap.size w w' := by
  obtain ⟨s, ao, n, cap, e, rfl, d⟩ := h
  unfold sgE
  by_cases h0 : i = 0
  · rw [if_pos h0]
    subst h0
    refine dsign_0 e _ s ao n cap w (fun W hW => ?_)
    obtain ⟨ao', cap', e1, a1⟩ := d.later hW
    rw [e1]
    have k := rsgn (na := t.1) (ua := ao') (un := dlen t.2.1) (uc := cap') (ea := t.2.2) (w := W) a1.small
    have e2 : (if dlen t.2.1 = 0 then (0 : Int) else if t.1 then -1 else 1) = if t.2.1 = 0 then 0 else if t.1 then -1 else 1 := by
      by_cases hz : t.2.1 = 0
      · rw [if_pos hz, if_pos (dlen_eq_zero.2 hz)]
      · rw [if_neg hz, if_neg fun h => hz (dlen_eq_zero.1 h)]
    rw [e2] at k
    exact k
  · rw [if_neg h0]
    exact dsign_i i e s ao n cap w (by simp [h0])
end Go.Proofs.YtcoclopllbfjcaaGreatDoor
/- The document's Neg, Add, Sub. -/
namespace Go.Proofs.YtcoclopllbfjcaaGreatDoor
set_option linter.unusedVariables false
set_option linter.unusedSimpArgs false
open Go.RowKit Go.Fl64
attribute [local go_sem] run_store_flt

theorem eI_b (f : Nat) : -1 ≤ eI f ∧ eI f ≤ 1 := by
  rcases eI_cases f with h | h | h <;> rw [h] <;> omega
end Go.Proofs.YtcoclopllbfjcaaGreatDoor
/- The document's Abs. -/
namespace Go.Proofs.YtcoclopllbfjcaaGreatDoor
set_option linter.unusedVariables false
set_option linter.unusedSimpArgs false
open Go.RowKit Go.Fl64
attribute [local go_sem] run_store_flt

theorem lt28 {k : Nat} (h : k < 2) : k = 0 ∨ k = 1 := by omega
theorem enF_0 (m : Int) : enF 0 (false, 0, 0) m = 0 := by unfold enF toD; rfl
end Go.Proofs.YtcoclopllbfjcaaGreatDoor
/- The sums of span. -/
namespace Go.Proofs.YtcoclopllbfjcaaGreatDoor
set_option linter.unusedVariables false
set_option linter.unusedSimpArgs false
open Go.RowKit Go.Fl64
attribute [local go_sem] run_store_flt

end Go.Proofs.YtcoclopllbfjcaaGreatDoor
/- Ends that are floats: what they round to, their order, their sums. -/
namespace Go.Proofs.YtcoclopllbfjcaaGreatDoor
set_option linter.unusedVariables false
set_option linter.unusedSimpArgs false
open Go.RowKit Go.Fl64

theorem tF_zero8 {a : Nat} (h : mag a = 0) : tF a = (false, 0, 0) := by
  obtain ⟨-, -, -, f4, -⟩ := (tF_ok a).facts
  refine f4 ?_
  unfold tF cn
  have hm : Ie.mant a = 0 := by
    have e := (val_mant a (by omega)).1
    rw [h, val_zero] at e
    have hp := Nat.two_pow_pos (Ie.lp a + 1074).toNat
    rcases Nat.mul_eq_zero.1 e.symm with h | h
    · exact h
    · omega
  rw [if_pos hm]
theorem tF_val8 {a : Nat} (hf : mag a < 9218868437227405312) (h0 : mag a ≠ 0) : (tF a).1 = neg a ∧ val (mag a) = (tF a).2.1 * 2 ^ ((tF a).2.2 + 1074).toNat ∧ -1074 ≤ (tF a).2.2 := by
  obtain ⟨e1, e2, e3⟩ := val_mant a hf
  have hm : Ie.mant a ≠ 0 := by
    intro h
    rw [h, Nat.zero_mul] at e1
    exact h0 ((val_eq_zero _).1 e1)
  have hs := tz_spec (Ie.mant a) (Ie.mant a) (Nat.le_refl _) hm
  unfold tF cn
  rw [if_neg hm]
  refine ⟨rfl, ?_, by show -1074 ≤ Ie.lp a + (tz (Ie.mant a) : Int); omega⟩
  show val (mag a) = Ie.mant a / 2 ^ tz (Ie.mant a) * 2 ^ (Ie.lp a + (tz (Ie.mant a) : Int) + 1074).toNat
  rw [e1, show (Ie.lp a + (tz (Ie.mant a) : Int) + 1074).toNat = tz (Ie.mant a) + (Ie.lp a + 1074).toNat by omega, Nat.pow_add, ← Nat.mul_assoc, Nat.mul_comm (Ie.mant a / 2 ^ tz (Ie.mant a)), hs.1]
theorem val_sgn8 {x : Nat} (hx : x < 18446744073709551616) : x = if neg x then mag x + 9223372036854775808 else mag x := by
  unfold neg mag
  split <;> rename_i h <;> simp only [decide_eq_true_eq] at h <;> omega
theorem eI_zero_fin {f : Nat} (hf : f < 18446744073709551616) (hn : isNaN f = false) : (eI f = 0 ↔ mag f < 9218868437227405312) := by
  have n' : ¬ 9218868437227405312 < mag f := of_decide_eq_false hn
  have hv := val_sgn8 hf
  unfold eI
  constructor
  · intro h
    by_cases h1 : mag f < 9218868437227405312
    · exact h1
    · exfalso
      have e : mag f = 9218868437227405312 := by omega
      rw [e] at hv
      cases hs : neg f
      · rw [hs] at hv
        rw [if_pos (by simpa using hv)] at h
        omega
      · rw [hs] at hv
        have hv2 : f = 18442240474082181120 := by simpa using hv
        rw [if_neg (by omega), if_pos hv2] at h
        omega
  · intro h
    rw [if_neg ?_, if_neg ?_]
    · rintro rfl; revert h; decide
    · rintro rfl; revert h; decide
end Go.Proofs.YtcoclopllbfjcaaGreatDoor
/- Ends that are floats: their signs, their order, their sums. -/
namespace Go.Proofs.YtcoclopllbfjcaaGreatDoor
set_option linter.unusedVariables false
set_option linter.unusedSimpArgs false
open Go.RowKit Go.Fl64

theorem cmpI_neg_iff (x y : Int) : (cmpI x y < 0 ↔ x < y) ∧ (0 < cmpI x y ↔ y < x) := by
  unfold cmpI
  constructor
  · split
    · omega
    · split <;> omega
  · split
    · omega
    · split <;> omega
theorem inf_or {f : Nat} (hf : f < 18446744073709551616) (hn : isNaN f = false) : (mag f < 9218868437227405312 ∧ eI f = 0 ∧ eT f = tF f) ∨ (f = 9218868437227405312 ∧ eI f = 1) ∨ (f = 18442240474082181120 ∧ eI f = -1) := by
  by_cases h : eI f = 0
  · exact .inl ⟨(eI_zero_fin hf hn).1 h, h, by unfold eT; rw [if_pos h]⟩
  · by_cases h1 : f = 9218868437227405312
    · exact .inr (.inl ⟨h1, by rw [h1]; decide⟩)
    · by_cases h2 : f = 18442240474082181120
      · exact .inr (.inr ⟨h2, by rw [h2]; decide⟩)
      · exfalso
        apply h
        unfold eI
        rw [if_neg h1, if_neg h2]
end Go.Proofs.YtcoclopllbfjcaaGreatDoor
/- SpanSums. -/
namespace Go.Proofs.YtcoclopllbfjcaaGreatDoor
set_option linter.unusedVariables false
set_option linter.unusedSimpArgs false
open Go.RowKit Go.Fl64
attribute [local go_sem] run_store_flt

theorem toD_nn (t : Bool × Nat × Int) {m : Int} (hm : 1 ≤ m ∧ m ≤ 3) : isNaN (toD t m) = false := by
  unfold toD
  split
  · decide
  · rw [tf_bdy hm]
    have h := bdy_le t.2.1 t.2.2 (wyN t.1 m)
    unfold isNaN
    rw [(mag_sig h).1]
    exact decide_eq_false (by omega)
theorem enF_nn (i : Int) (t : Bool × Nat × Int) {m : Int} (hm : 1 ≤ m ∧ m ≤ 3) : isNaN (enF i t m) = false := by
  unfold enF
  split
  · rw [pl_nan]; exact toD_nn t hm
  · split <;> decide
theorem enF_lt (i : Int) (t : Bool × Nat × Int) {m : Int} (hm : 1 ≤ m ∧ m ≤ 3) : enF i t m < 18446744073709551616 := by
  unfold enF
  split
  · exact pl_lt (toD_lt hm)
  · split <;> omega
theorem orV_i8 (ok : Bool) (x y : Nat) : orV ok x y (.int .i64 0) (.int .i64 1) = .tuple #[.agg #[.float .f64 (if ok then x else 0), .float .f64 (if ok then y else 0)], .int .i64 (if ok then 0 else 1)] := by
  unfold orV; cases ok <;> rfl
theorem or_lt8 {ok : Bool} {x : Nat} (h : x < 18446744073709551616) : (if ok then x else 0) < 18446744073709551616 := by
  cases ok
  · rw [if_neg (by simp)]; omega
  · exact h
end Go.Proofs.YtcoclopllbfjcaaGreatDoor
/- The document's Mid. -/
namespace Go.Proofs.YtcoclopllbfjcaaGreatDoor
set_option linter.unusedVariables false
set_option linter.unusedSimpArgs false
open Go.RowKit Go.Fl64
attribute [local go_sem] run_store_flt

end Go.Proofs.YtcoclopllbfjcaaGreatDoor
/- The document's Half, its second region. -/
namespace Go.Proofs.YtcoclopllbfjcaaGreatDoor
set_option linter.unusedVariables false
set_option linter.unusedSimpArgs false
open Go.RowKit Go.Fl64
attribute [local go_sem] run_store_flt

end Go.Proofs.YtcoclopllbfjcaaGreatDoor
/- The document's Half. -/
namespace Go.Proofs.YtcoclopllbfjcaaGreatDoor
set_option linter.unusedVariables false
set_option linter.unusedSimpArgs false
open Go.RowKit Go.Fl64
attribute [local go_sem] run_store_flt

end Go.Proofs.YtcoclopllbfjcaaGreatDoor
/- The document's Rad. -/
namespace Go.Proofs.YtcoclopllbfjcaaGreatDoor
set_option linter.unusedVariables false
set_option linter.unusedSimpArgs false
open Go.RowKit Go.Fl64
attribute [local go_sem] run_store_flt

end Go.Proofs.YtcoclopllbfjcaaGreatDoor
/- Middles in numbers. -/
namespace Go.Proofs.YtcoclopllbfjcaaGreatDoor
set_option linter.unusedVariables false
set_option linter.unusedSimpArgs false
open Go.RowKit Go.Fl64
attribute [local go_sem] run_store_flt

/-- the value of a number -/
def V8 (t : Bool × Nat × Int) : Int := vz 5000000 t.1 t.2.1 t.2.2
theorem Ok.e8 {t : Bool × Nat × Int} (h : Ok t) : 0 ≤ t.2.2 + (5000000 : Nat) := by
  have := h.facts
  omega
theorem toD_tf {t : Bool × Nat × Int} (h : Ok t) {m : Int} (hm : 1 ≤ m ∧ m ≤ 3) : toD t m = tfF t.1 true t.2.1 t.2.2 m := by
  unfold toD
  by_cases h0 : t.2.1 = 0
  · rw [if_pos h0, h.facts.2.2.2.1 h0]
    rcases (show m = 1 ∨ m = 2 ∨ m = 3 by omega) with rfl | rfl | rfl <;> decide +kernel
  · rw [if_neg h0]
theorem toD_mono {t u : Bool × Nat × Int} (h1 : Ok t) (h2 : Ok u) {m : Int} (hm : 1 ≤ m ∧ m ≤ 3) (h : V8 t ≤ V8 u) : stp (toD t m) ≤ stp (toD u m) := by
  rw [toD_tf h1 hm, toD_tf h2 hm]
  exact ord_round (K := 5000000) (by omega) (s := t.1) (x := t.2.1) (e := t.2.2) (t := u.1) (y := u.2.1) (f := u.2.2) h1 h2 hm h
end Go.Proofs.YtcoclopllbfjcaaGreatDoor
/- Middles joined. -/
namespace Go.Proofs.YtcoclopllbfjcaaGreatDoor
set_option linter.unusedVariables false
set_option linter.unusedSimpArgs false
open Go.RowKit Go.Fl64
attribute [local go_sem] run_store_flt

end Go.Proofs.YtcoclopllbfjcaaGreatDoor
/- SpanMiddles. -/
namespace Go.Proofs.YtcoclopllbfjcaaGreatDoor
set_option linter.unusedVariables false
set_option linter.unusedSimpArgs false
open Go.RowKit Go.Fl64
attribute [local go_sem] run_store_flt

theorem nn_stp {x : Nat} (h : isNaN x = false) : stp x ≤ 9218868437227405312 := by
  have n' : ¬ 9218868437227405312 < mag x := of_decide_eq_false h
  unfold stp sgn
  split <;> omega
end Go.Proofs.YtcoclopllbfjcaaGreatDoor
