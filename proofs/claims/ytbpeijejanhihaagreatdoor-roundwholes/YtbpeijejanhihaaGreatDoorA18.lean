/- Own work: contracts of the program's functions, part 18: SI3 SI4 SI5 SI6 SI7 SI9 SJ1 FL3 SH1 SH2 SH3 SH4. -/
import Derived.Test.YtbpeijejanhihaaGreatDoorA17
import Derived.Test.YtbpeijejanhihaaGreatDoorA7
import Derived.Test.YtbpeijejanhihaaGreatDoorA10
import Derived.Test.YtbpeijejanhihaaGreatDoorA16
import Derived.Test.YtbpeijejanhihaaGreatDoorA11
import Derived.Test.YtbpeijejanhihaaGreatDoorA15

set_option maxHeartbeats 16000000
namespace Go.Proofs.YtbpeijejanhihaaGreatDoor
set_option linter.unusedVariables false
set_option linter.unusedSimpArgs false
open Go.RowKit Go.Fl64
theorem rrest_no (a b : Nat) (w : World) (na nb ia zb : Bool) (h : (na || nb || ia || zb) = true)
    (kA : ∀ W, Calls Tryz.prog 31 #[.float .f64 a] W fun r w' => r = .returned (.bool na) ∧ w' = W) (kB : ∀ W, Calls Tryz.prog 31 #[.float .f64 b] W fun r w' => r = .returned (.bool nb) ∧ w' = W) (kI : ∀ W, Calls Tryz.prog 32 #[.float .f64 a] W fun r w' => r = .returned (.bool ia) ∧ w' = W) (kZ : ∀ W, Calls Tryz.prog 33 #[.float .f64 b] W fun r w' => r = .returned (.bool zb) ∧ w' = W) :
    Calls Tryz.prog 8 #[.float .f64 a, .float .f64 b] w fun r w' => r = .returned (.float .f64 9221120237041090560) ∧ Below w.heap.size w w' := by
  have kN := Ie.dnot
  cases na <;> cases nb <;> cases ia <;> cases zb
  all_goals first
    | (exfalso; revert h; decide)
    | (clear h
       go_enter Tryz.func8, Tryz.ntmps8
       go_wp2_with (first | (go_at_call 31; first | (with_reducible refine (kA _).mono ?_; rintro r w' ⟨rfl, hw⟩; rw [hw]; clear hw w') | (with_reducible refine (kB _).mono ?_; rintro r w' ⟨rfl, hw⟩; rw [hw]; clear hw w')) | (go_at_call 32; first | (with_reducible refine (kI _).mono ?_; rintro r w' ⟨rfl, hw⟩; rw [hw]; clear hw w')) | (go_at_call 33; first | (with_reducible refine (kZ _).mono ?_; rintro r w' ⟨rfl, hw⟩; rw [hw]; clear hw w')) | (go_at_call 17; first | (with_reducible refine (kN _).mono ?_; rintro r w' ⟨rfl, hw⟩; rw [hw]; clear hw w')))
       go_ret
       exact ⟨rfl, Below.refl _ _⟩)
theorem rrest_inf (a b : Nat) (w : World)
    (kA : ∀ W, Calls Tryz.prog 31 #[.float .f64 a] W fun r w' => r = .returned (.bool false) ∧ w' = W) (kB : ∀ W, Calls Tryz.prog 31 #[.float .f64 b] W fun r w' => r = .returned (.bool false) ∧ w' = W) (kI : ∀ W, Calls Tryz.prog 32 #[.float .f64 a] W fun r w' => r = .returned (.bool false) ∧ w' = W) (kZ : ∀ W, Calls Tryz.prog 33 #[.float .f64 b] W fun r w' => r = .returned (.bool false) ∧ w' = W) (kJ : ∀ W, Calls Tryz.prog 32 #[.float .f64 b] W fun r w' => r = .returned (.bool true) ∧ w' = W) :
    Calls Tryz.prog 8 #[.float .f64 a, .float .f64 b] w fun r w' => r = .returned (.float .f64 a) ∧ Below w.heap.size w w' := by
  go_enter Tryz.func8, Tryz.ntmps8
  go_wp2_with (first | (go_at_call 31; first | (with_reducible refine (kA _).mono ?_; rintro r w' ⟨rfl, hw⟩; rw [hw]; clear hw w') | (with_reducible refine (kB _).mono ?_; rintro r w' ⟨rfl, hw⟩; rw [hw]; clear hw w')) | (go_at_call 32; first | (with_reducible refine (kI _).mono ?_; rintro r w' ⟨rfl, hw⟩; rw [hw]; clear hw w') | (with_reducible refine (kJ _).mono ?_; rintro r w' ⟨rfl, hw⟩; rw [hw]; clear hw w')) | (go_at_call 33; first | (with_reducible refine (kZ _).mono ?_; rintro r w' ⟨rfl, hw⟩; rw [hw]; clear hw w')))
  go_ret
  exact ⟨rfl, Below.refl _ _⟩
set_option maxRecDepth 200000 in
theorem rrest_fin (a b z F : Nat) (ng : Bool) (ta tb tn tm tl : Bool × Nat × Int) (w : World)
    (kA : ∀ W, Calls Tryz.prog 31 #[.float .f64 a] W fun r w' => r = .returned (.bool false) ∧ w' = W) (kB : ∀ W, Calls Tryz.prog 31 #[.float .f64 b] W fun r w' => r = .returned (.bool false) ∧ w' = W) (kI : ∀ W, Calls Tryz.prog 32 #[.float .f64 a] W fun r w' => r = .returned (.bool false) ∧ w' = W) (kZ : ∀ W, Calls Tryz.prog 33 #[.float .f64 b] W fun r w' => r = .returned (.bool false) ∧ w' = W) (kJ : ∀ W, Calls Tryz.prog 32 #[.float .f64 b] W fun r w' => r = .returned (.bool false) ∧ w' = W)
    (kfa : Calls Tryz.prog 19 #[.float .f64 a] w fun r w' => ∃ A, r = .returned A ∧ DN w' A ta ∧ Below w.heap.size w w')
    (kfb : ∀ W, Calls Tryz.prog 19 #[.float .f64 b] W fun r w' => ∃ A, r = .returned A ∧ DN w' A tb ∧ Below W.heap.size W w')
    (kN : ∀ W X Y, Below w.heap.size w W → DN W X ta → DN W Y tb → Calls Tryz.prog 21 #[X, Y] W fun r w' => ∃ A, r = .returned A ∧ DN w' A tn ∧ Below W.heap.size W w')
    (kT : ∀ W X Y, Below w.heap.size w W → DN W X tn → DN W Y tb → Calls Tryz.prog 35 #[X, Y] W fun r w' => ∃ A, r = .returned A ∧ DN w' A tm ∧ Below W.heap.size W w')
    (kL : ∀ W X Y, Below w.heap.size w W → DN W X ta → DN W Y tm → Calls Tryz.prog 34 #[X, Y] W fun r w' => ∃ A, r = .returned A ∧ DN w' A tl ∧ Below W.heap.size W w')
    (kG : ∀ W, Calls Tryz.prog 26 #[.float .f64 a] W fun r w' => r = .returned (.bool ng) ∧ w' = W)
    (kU : ∀ W, Calls Tryz.prog 25 #[.bool ng] W fun r w' => r = .returned (.float .f64 z) ∧ w' = W)
    (kR : ∀ W X, Below w.heap.size w W → DN W X tl → Calls Tryz.prog 24 #[X, .int .i64 2, .float .f64 z] W fun r w' => r = .returned (.float .f64 F) ∧ Below W.heap.size W w') :
    Calls Tryz.prog 8 #[.float .f64 a, .float .f64 b] w fun r w' => r = .returned (.float .f64 F) ∧ Below w.heap.size w w' := by
  have Hkfb : Hid _ := kfb
  have HkN : Hid _ := kN
  have HkT : Hid _ := kT
  have HkL : Hid _ := kL
  have HkG : Hid _ := kG
  have HkU : Hid _ := kU
  have HkR : Hid _ := kR
  clear kfb kN kT kL kG kU kR
  go_enter Tryz.func8, Tryz.ntmps8
  go_wp2_with (first | (go_at_call 31; first | (with_reducible refine (kA _).mono ?_; rintro r w' ⟨rfl, hw⟩; rw [hw]; clear hw w') | (with_reducible refine (kB _).mono ?_; rintro r w' ⟨rfl, hw⟩; rw [hw]; clear hw w')) | (go_at_call 32; first | (with_reducible refine (kI _).mono ?_; rintro r w' ⟨rfl, hw⟩; rw [hw]; clear hw w') | (with_reducible refine (kJ _).mono ?_; rintro r w' ⟨rfl, hw⟩; rw [hw]; clear hw w')) | (go_at_call 33; first | (with_reducible refine (kZ _).mono ?_; rintro r w' ⟨rfl, hw⟩; rw [hw]; clear hw w')))
  refine kfa.mono ?_
  rintro r w1 ⟨A1, rfl, hP1, hb1⟩
  obtain ⟨s1, ao1, n1, cap1, ex1, rfl⟩ := hP1.shape
  clear kfa kA kB kI kZ kJ
  have k2 := Hkfb.out w1
  go_wp2_with fail
  refine k2.mono ?_
  rintro r w2 ⟨A2, rfl, hP2, hb2⟩
  obtain ⟨s2, ao2, n2, cap2, ex2, rfl⟩ := hP2.shape
  obtain ⟨V, hV⟩ : ∃ V, V = (w2.alloc (.cells #[.bool s1, .slice ao1 n1 cap1, .int .i64 ex1] 34)).alloc (.cells #[.bool s2, .slice ao2 n2 cap2, .int .i64 ex2] 34) := ⟨_, rfl⟩
  have hh := two29 _ _ hV
  have HX : Hid (Below w.heap.size w V ∧ (V.heap[w2.heap.size]? = some (.cells #[.bool s1, .slice ao1 n1 cap1, .int .i64 ex1] 34 (0, 0)) ∧ DN V (.agg #[.bool s1, .slice ao1 n1 cap1, .int .i64 ex1]) ta) ∧ (V.heap[w2.heap.size + 1]? = some (.cells #[.bool s2, .slice ao2 n2 cap2, .int .i64 ex2] 34 (0, 0)) ∧ DN V (.agg #[.bool s2, .slice ao2 n2 cap2, .int .i64 ex2]) tb)) := ⟨(hb1.trans (hb2.mono hb1.size)).trans (hh.2.2.2.mono (hb1.trans (hb2.mono hb1.size)).size), ⟨hh.1, (hP1.later hb2).later hh.2.2.2⟩, ⟨hh.2.1, hP2.later hh.2.2.2⟩⟩
  clear k2 hb1 hb2 hh hP1 hP2
  go_upto_region 6 with fail
  rw [← hV]
  clear hV
  generalize w2.heap.size = g at *
  have HK : Hid (∀ w', Below V.heap.size V w' → ((w'.cell? ⟨g, 0, none⟩ = some (.bool s1) ∧ w'.cell? ⟨g, 1, none⟩ = some (.slice ao1 n1 cap1) ∧ w'.cell? ⟨g, 2, none⟩ = some (.int .i64 ex1)) ∧ (w'.cell? ⟨g + 1, 0, none⟩ = some (.bool s2) ∧ w'.cell? ⟨g + 1, 1, none⟩ = some (.slice ao2 n2 cap2) ∧ w'.cell? ⟨g + 1, 2, none⟩ = some (.int .i64 ex2))) ∧ Below V.heap.size V w') := fun w' hb => ⟨⟨(box_cells29 (box_later HX.out.2.1.1 hb (lt_of_box HX.out.2.1.1))).1, (box_cells29 (box_later HX.out.2.2.1 hb (lt_of_box HX.out.2.2.1))).1⟩, hb⟩
  have hBR : Below V.heap.size V V.drew := (Below.refl _ _).drew
  have HQ : Hid (∀ w', Below V.heap.size V w' → Below w.heap.size w w') := fun w' hb => HX.out.1.trans (hb.mono HX.out.1.size)
  have qn : ∀ w4, Below V.heap.size V w4 → Calls Tryz.prog 21 #[.agg #[.bool s1, .slice ao1 n1 cap1, .int .i64 ex1], .agg #[.bool s2, .slice ao2 n2 cap2, .int .i64 ex2]] w4 fun r w' => ∃ A, r = .returned A ∧ DN w' A tn ∧ Below V.heap.size V w' := fun w4 hb => (HkN.out w4 _ _ (HQ.out _ hb) (HX.out.2.1.2.later hb) (HX.out.2.2.2.later hb)).mono fun r w' ⟨A, e1, e2, e3⟩ => ⟨A, e1, e2, hb.trans (e3.mono hb.size)⟩
  have qt : ∀ w4 X, Below V.heap.size V w4 → DN w4 X tn → Calls Tryz.prog 35 #[X, .agg #[.bool s2, .slice ao2 n2 cap2, .int .i64 ex2]] w4 fun r w' => ∃ A, r = .returned A ∧ DN w' A tm ∧ Below V.heap.size V w' := fun w4 X hb h => (HkT.out w4 _ _ (HQ.out _ hb) h (HX.out.2.2.2.later hb)).mono fun r w' ⟨A, e1, e2, e3⟩ => ⟨A, e1, e2, hb.trans (e3.mono hb.size)⟩
  have ql : ∀ w4 X, Below V.heap.size V w4 → DN w4 X tm → Calls Tryz.prog 34 #[.agg #[.bool s1, .slice ao1 n1 cap1, .int .i64 ex1], X] w4 fun r w' => ∃ A, r = .returned A ∧ DN w' A tl ∧ Below V.heap.size V w' := fun w4 X hb h => (HkL.out w4 _ _ (HQ.out _ hb) (HX.out.2.1.2.later hb) h).mono fun r w' ⟨A, e1, e2, e3⟩ => ⟨A, e1, e2, hb.trans (e3.mono hb.size)⟩
  have qg : ∀ w4 X, Below V.heap.size V w4 → DN w4 X tl → Calls Tryz.prog 26 #[.float .f64 a] w4 fun r w' => r = .returned (.bool ng) ∧ DN w' X tl ∧ Below V.heap.size V w' := fun w4 X hb h => (HkG.out w4).mono fun r w' ⟨e1, e2⟩ => ⟨e1, by rw [e2]; exact h, by rw [e2]; exact hb⟩
  have qu : ∀ w4 X, Below V.heap.size V w4 → DN w4 X tl → Calls Tryz.prog 25 #[.bool ng] w4 fun r w' => r = .returned (.float .f64 z) ∧ DN w' X tl ∧ Below V.heap.size V w' := fun w4 X hb h => (HkU.out w4).mono fun r w' ⟨e1, e2⟩ => ⟨e1, by rw [e2]; exact h, by rw [e2]; exact hb⟩
  have qr : ∀ w4 X, Below V.heap.size V w4 → DN w4 X tl → Calls Tryz.prog 24 #[X, .int .i64 2, .float .f64 z] w4 fun r w' => r = .returned (.float .f64 F) ∧ Below V.heap.size V w' := fun w4 X hb h => (HkR.out w4 _ (HQ.out _ hb) h).mono fun r w' ⟨e1, e3⟩ => ⟨e1, hb.trans (e3.mono hb.size)⟩
  obtain ⟨⟨⟨a0, a1, a2⟩, ⟨b0, b1, b2⟩⟩, -⟩ := HK.out V (Below.refl _ _)
  clear HkN HkT HkL HkG HkU HkR Hkfb
  go_region_held3 (fun w' => ((w'.cell? ⟨g, 0, none⟩ = some (.bool s1) ∧ w'.cell? ⟨g, 1, none⟩ = some (.slice ao1 n1 cap1) ∧ w'.cell? ⟨g, 2, none⟩ = some (.int .i64 ex1)) ∧ (w'.cell? ⟨g + 1, 0, none⟩ = some (.bool s2) ∧ w'.cell? ⟨g + 1, 1, none⟩ = some (.slice ao2 n2 cap2) ∧ w'.cell? ⟨g + 1, 2, none⟩ = some (.int .i64 ex2))) ∧ Below V.heap.size V w') (first | (with_reducible assumption) | exact ⟨⟨⟨a0, a1, a2⟩, ⟨b0, b1, b2⟩⟩, hBR⟩ | (refine HK.out _ ?_; with_reducible assumption) | go_keep)
    (first | (go_at_call 21; refine (qn _ hBR).mono ?_; rintro r w3 ⟨A3, rfl, hP3, hb3⟩)
           | (go_at_call 35; refine (qt _ _ hb3 hP3).mono ?_; rintro r w4 ⟨A4, rfl, hP4, hb4⟩)
           | (go_at_call 34; refine (ql _ _ hb4 hP4).mono ?_; rintro r w5 ⟨A5, rfl, hP5, hb5⟩)
           | (go_at_call 26; refine (qg _ _ hb5 hP5).mono ?_; rintro r w6 ⟨rfl, hP6, hb6⟩)
           | (go_at_call 25; refine (qu _ _ hb6 hP6).mono ?_; rintro r w7 ⟨rfl, hP7, hb7⟩)
           | (go_at_call 24; refine (qr _ _ hb7 hP7).mono ?_; rintro r w8 ⟨rfl, hb8⟩))
  have HF : Hid (Below w.heap.size w w8) := HQ.out _ hb8
  clear hb3 hb4 hb5 hb6 hb7 hb8 hP3 hP4 hP5 hP6 hP7 qn qt ql qg qu qr HK HQ hBR a0 a1 a2 b0 b1 b2 HX
  go_wp2_with fail
  go_ret
  exact ⟨rfl, HF.out⟩
def tW (t : Bool × Nat × Int) : Bool × Nat × Int := if t.2.1 = 0 then (false, 0, 0) else (t.1, t.2.1, t.2.2 + 1)
set_option maxRecDepth 200000 in
theorem rscaled_0 (na : Bool) (ua : Option Addr) (uc : Nat) (ea k : Int) (w : World) :
    Calls Tryz.prog 55 #[.agg #[.bool na, .slice ua 0 uc, .int .i64 ea], .int .i64 k] w fun r w' => r = .returned (.agg #[.bool false, .slice none 0 0, .int .i64 0]) ∧ Below w.heap.size w w' := by
  obtain ⟨W, hW⟩ : ∃ W, W = (w.alloc (.cells #[.bool na, .slice ua 0 uc, .int .i64 ea] 34)).alloc (.cells #[.bool false, .slice none 0 0, .int .i64 0] 34) := ⟨_, rfl⟩
  obtain ⟨hA, hB, hsz, hBW⟩ := two29 _ _ hW
  obtain ⟨⟨a0, a1, a2⟩, -⟩ := box_cells29 hA
  obtain ⟨⟨b0, b1, b2⟩, b3, b4, b5⟩ := box_cells29 hB
  have HX : Hid (Below w.heap.size w W ∧ W.heap[w.heap.size + 1]? = some (.cells #[.bool false, .slice none 0 0, .int .i64 0] 34 (0, 0))) := ⟨hBW, hB⟩
  clear hA hB hsz hBW
  have HE : Hid (W = (w.alloc (.cells #[.bool na, .slice ua 0 uc, .int .i64 ea] 34)).alloc (.cells #[.bool false, .slice none 0 0, .int .i64 0] 34)) := hW
  rw [hW] at a0 a1 a2 b0 b1 b2 b3 b4 b5
  clear hW
  go_enter Tryz.func55, Tryz.ntmps55
  go_wp2
  refine bodyPost_ret (results_cell_row rfl _ _ (w.heap.size + 1) 34 #[.bool false, .slice none 0 0, .int .i64 0] (0, 0) _ rfl (two29 _ _ rfl).2.1 Tryz.underlying34 rfl Tryz.info34) rfl ?_
  exact ⟨rfl, (two29 _ _ rfl).2.2.2⟩
theorem arg_nought (w : World) : Arg w none 0 0 0 := ⟨fun _ => .inr ⟨rfl, rfl⟩, ⟨0, 0, fun h => absurd h (by omega), fun i hi => absurd hi (by omega)⟩, Nat.le_refl _, by omega⟩
theorem arg_noughtD (w : World) : Arg w none (dlen 0) 0 0 := by rw [dlen_zero]; exact arg_nought w
theorem dn_nought (w : World) : DN w (.agg #[.bool false, .slice none 0 0, .int .i64 0]) (false, 0, 0) := ⟨none, 0, by show _ = Value.agg #[.bool false, .slice none (dlen 0) 0, .int .i64 0]; rw [dlen_zero], arg_noughtD w⟩
theorem over_dn {t1 t2 : Bool × Nat × Int} {X Y : Value} {w : World} (l1 : dlen t1.2.1 ≤ 2048) (b1 : -65536 ≤ t1.2.2 ∧ t1.2.2 ≤ 65537) (o2 : Ok t2) (h0 : t2.2.1 ≠ 0) (h1 : DN w X t1) (h2 : DN w Y t2) :
    Calls Tryz.prog 54 #[X, Y, .int .i64 0] w fun r w' => ∃ A, r = .returned (.tuple #[A, .bool (decide (tX t1 t2 % tY t1 t2 = 0))]) ∧ DN w' A (tQ t1 t2) ∧ Below w.heap.size w w' := by
  obtain ⟨ao, cap, rfl, a1⟩ := h1
  obtain ⟨ao', cap', rfl, a2⟩ := h2
  obtain ⟨g1, g2, g3, -, -⟩ := o2.facts
  refine (rover (na := t1.1) (nb := t2.1) (ea := t1.2.2) (eb := t2.2.2) (place := 0) a1.at_ a1.le a2.at_ a2.le h0 (by omega) (by omega) (by omega) (by omega) (by omega) (X := tX t1 t2) (Y := tY t1 t2) (by unfold ovX; rw [Int.add_zero]; rfl) (by unfold ovY; rw [Int.add_zero]; rfl)).mono ?_
  rintro r w' ⟨A, rfl, hn, hb⟩
  exact ⟨A, rfl, hn.dn, hb⟩
theorem scaled_dn {t : Bool × Nat × Int} {X : Value} {w : World} (o : Ok t) (h : DN w X t) : Calls Tryz.prog 55 #[X, .int .i64 1] w fun r w' => ∃ A, r = .returned A ∧ DN w' A (tW t) ∧ Below w.heap.size w w' := by
  obtain ⟨ao, cap, rfl, a1⟩ := h
  obtain ⟨f1, f2, f3, -, -⟩ := o.facts
  unfold tW
  by_cases h0 : t.2.1 = 0
  · rw [if_pos h0, h0, dlen_zero]
    refine (rscaled_0 t.1 ao cap t.2.2 1 w).mono ?_
    rintro r w' ⟨rfl, hb⟩
    exact ⟨_, rfl, dn_nought w', hb⟩
  · rw [if_neg h0]
    have hl : 0 < dlen t.2.1 := by have := dlen_pos h0; omega
    refine (rscaled_1 t.1 ao (dlen t.2.1) cap t.2.2 1 w (by omega) (by rw [beq_eq_false_iff_ne]; omega) (by omega) (by omega)).mono ?_
    rintro r w' ⟨rfl, hb⟩
    exact ⟨_, rfl, ⟨ao, cap, rfl, a1.later hb⟩, hb⟩
theorem less_dn {t1 t2 : Bool × Nat × Int} {X Y : Value} {w : World} (o1 : Ok t1) (o2 : Ok t2) (h1 : DN w X t1) (h2 : DN w Y t2) : Calls Tryz.prog 34 #[X, Y] w fun r w' => ∃ A, r = .returned A ∧ DN w' A (tD t1 t2) ∧ Below w.heap.size w w' := by
  obtain ⟨ao, cap, rfl, a1⟩ := h1
  obtain ⟨ao', cap', rfl, a2⟩ := h2
  obtain ⟨f1, f2, f3, -, -⟩ := o1.facts
  obtain ⟨g1, g2, g3, g4, -⟩ := o2.facts
  unfold tD
  by_cases h0 : t2.2.1 = 0
  · have e2 := g4 h0
    have e3 : t2.1 = false := by rw [e2]
    have e4 : t2.2.2 = 0 := by rw [e2]
    rw [h0, e3, e4, dlen_zero]
    refine (rlessN_1 t1.1 false ao ao' (dlen t1.2.1) cap 0 cap' t1.2.2 0 false none 0 0 0 _ _ _ w (fun W => rminus_0 false ao' cap' 0 W) (fun W hW => ?_)).mono fun r w' ⟨A, e, h, hb⟩ => ⟨A, e, h.dn, hb⟩
    have k := rplusG (nb := false) (y := 0) (eb := 0) (a1.later hW) (arg_noughtD W) (cn_ok o1) rfl (by omega) (by omega) (by omega) (by omega) (by omega) (by rw [dlen_zero]; omega)
    rw [dlen_zero] at k
    exact k
  · have hl : 0 < dlen t2.2.1 := by have := dlen_pos h0; omega
    rw [decide_eq_true hl, Bool.and_true]
    have ho : cn (!t2.1) t2.2.1 t2.2.2 = (!t2.1, t2.2.1, t2.2.2) := by
      have := cn_ok o2
      unfold cn at this ⊢
      rw [if_neg h0] at this ⊢
      rw [Prod.ext_iff] at this
      exact Prod.ext rfl this.2
    exact (rlessN_1 t1.1 t2.1 ao ao' (dlen t1.2.1) cap (dlen t2.2.1) cap' t1.2.2 t2.2.2 (!t2.1) ao' (dlen t2.2.1) cap' t2.2.2 _ _ _ w (fun W => rminus_1 t2.1 ao' (dlen t2.2.1) cap' t2.2.2 W (by omega) (by rw [beq_eq_false_iff_ne]; omega)) (fun W hW => rplusG (a1.later hW) (a2.later hW) (cn_ok o1) ho (by omega) (by omega) (by omega) (by omega) (by omega) (by omega))).mono fun r w' ⟨A, e, h, hb⟩ => ⟨A, e, h.dn, hb⟩
theorem ok_eq {K : Nat} {t t' : Bool × Nat × Int} (h : Ok t) (h' : Ok t') (hK : 200000 ≤ K) (e : vz K t.1 t.2.1 t.2.2 = vz K t'.1 t'.2.1 t'.2.2) : t = t' := by
  obtain ⟨-, f2, f3, -, -⟩ := h.facts
  obtain ⟨-, g2, g3, -, -⟩ := h'.facts
  rw [← cn_ok h, ← cn_ok h']
  exact cn_eq (K := K) (by omega) (by omega) e
def tNr (t1 t2 : Bool × Nat × Int) : Bool × Nat × Int := if nxN (t1.1 != t2.1) (tX t1 t2) (tY t1 t2) then tS (tQ t1 t2) (false, 1, 0) else tQ t1 t2
theorem one_fits : Fits 0 2100 1 0 := Or.inr ⟨by omega, by omega, by have := Nat.pow_le_pow_right (n := 2) (by omega) (show 1 ≤ ((2100 : Int) - 0).toNat by omega); omega⟩
theorem tQ1_fits {ta tb : Bool × Nat × Int} (oa : Ok ta) (ob : Ok tb) (fa : Fits (-1074) 1025 ta.2.1 ta.2.2) (fb : Fits (-1074) 1025 tb.2.1 tb.2.2) (h0 : tb.2.1 ≠ 0) : Fits 0 2101 (tS (tQ ta tb) (false, 1, 0)).2.1 (tS (tQ ta tb) (false, 1, 0)).2.2 :=
  tS_fits (tQ_fits' oa ob fa fb h0) one_fits
theorem tQ1_ok {ta tb : Bool × Nat × Int} (oa : Ok ta) (ob : Ok tb) (fa : Fits (-1074) 1025 ta.2.1 ta.2.2) (fb : Fits (-1074) 1025 tb.2.1 tb.2.2) (h0 : tb.2.1 ≠ 0) : Ok (tS (tQ ta tb) (false, 1, 0)) :=
  ok_cn (tS_okR (tQ_fits' oa ob fa fb h0) (one_fits : Fits 0 2100 ((false, 1, 0) : Bool × Nat × Int).2.1 ((false, 1, 0) : Bool × Nat × Int).2.2) (by omega) (by omega) (by omega))
theorem tS_low {t1 t2 : Bool × Nat × Int} {hi : Int} (h : Fits 0 hi (tS t1 t2).2.1 (tS t1 t2).2.2) (o : Ok (tS t1 t2)) : 0 ≤ (tS t1 t2).2.2 := by
  rcases h with h | ⟨h, -, -⟩
  · obtain ⟨-, -, -, f, -⟩ := o.facts
    rw [f h]; exact Int.le_refl _
  · exact h
theorem vz_Q1 {ta tb : Bool × Nat × Int} (oa : Ok ta) (ob : Ok tb) (fa : Fits (-1074) 1025 ta.2.1 ta.2.2) (fb : Fits (-1074) 1025 tb.2.1 tb.2.2) (h0 : tb.2.1 ≠ 0) :
    vz 0 (tS (tQ ta tb) (false, 1, 0)).1 (tS (tQ ta tb) (false, 1, 0)).2.1 (tS (tQ ta tb) (false, 1, 0)).2.2 = sv (ta.1 != tb.1) (qN (ta.1 != tb.1) (tX ta tb) (tY ta tb)) + 1 := by
  have hl := tQ_low ta tb
  unfold tS
  rw [vz_cnF (Fits.sum (tQ_fits' oa ob fa fb h0) one_fits) (by omega), vz_sumN (by omega) (by show (0 : Int) ≤ 0 + ((0 : Nat) : Int); omega), vz_Q oa ob fa fb h0]
  rfl
theorem nr_left {ta tb : Bool × Nat × Int} (oa : Ok ta) (ob : Ok tb) (fa : Fits (-1074) 1025 ta.2.1 ta.2.2) (fb : Fits (-1074) 1025 tb.2.1 tb.2.2) (h0 : tb.2.1 ≠ 0) : tD ta (tP (tNr ta tb) tb) = tL ta tb := by
  unfold tNr tL
  split
  · obtain ⟨K, hK⟩ : ∃ K : Nat, 200000 ≤ K := ⟨200000, Nat.le_refl _⟩
    have f1 := tQ1_fits oa ob fa fb h0
    have o1 := tQ1_ok oa ob fa fb h0
    have fp : Fits (-1074) 3126 (tP (tS (tQ ta tb) (false, 1, 0)) tb).2.1 (tP (tS (tQ ta tb) (false, 1, 0)) tb).2.2 := (tP_fits f1 fb).mono (by omega) (by omega)
    have op : Ok (tP (tS (tQ ta tb) (false, 1, 0)) tb) := ok_cn ((Fits.mul f1 fb).ok (by omega) (by omega) (by omega))
    have fa' : Fits (-1074) 3126 ta.2.1 ta.2.2 := fa.mono (Int.le_refl _) (by omega)
    have od : Ok (tD ta (tP (tS (tQ ta tb) (false, 1, 0)) tb)) := ok_cn ((Fits.sum fa' fp).ok (by omega) (by omega) (by omega))
    refine ok_eq od (tN_ok oa ob fa fb h0) hK ?_
    obtain ⟨-, f2, f3, -, -⟩ := oa.facts
    obtain ⟨-, g2, g3, -, -⟩ := ob.facts
    obtain ⟨-, p2, p3, -, -⟩ := op.facts
    rw [vz_N oa ob fa fb h0 hK, vz_tD fa' fp (by omega) (by omega) (by omega), vz_tP f1 fb (tS_low f1 o1) (by omega) (by omega), vz_Q1 oa ob fa fb h0, Int.add_mul, Int.one_mul]
    omega
  · rfl
theorem two_same (t1 t2 : Bool × Nat × Int) (h1 : t1.2.1 ≠ 0) : (tX (tW t1) t2 = 2 * tX t1 t2 ∧ tY (tW t1) t2 = tY t1 t2) ∨ (2 * tX (tW t1) t2 = 2 * tX t1 t2 ∧ 2 * tY (tW t1) t2 = tY t1 t2) := by
  unfold tX tY tW
  rw [if_neg h1]
  show (t1.2.1 * 2 ^ (t1.2.2 + 1 - min (t1.2.2 + 1) t2.2.2).toNat = _ ∧ t2.2.1 * 2 ^ (t2.2.2 - min (t1.2.2 + 1) t2.2.2).toNat = _) ∨ (2 * (t1.2.1 * 2 ^ (t1.2.2 + 1 - min (t1.2.2 + 1) t2.2.2).toNat) = _ ∧ 2 * (t2.2.1 * 2 ^ (t2.2.2 - min (t1.2.2 + 1) t2.2.2).toNat) = _)
  by_cases h : t2.2.2 ≤ t1.2.2
  · refine .inl ⟨?_, ?_⟩
    · rw [show (t1.2.2 + 1 - min (t1.2.2 + 1) t2.2.2).toNat = (t1.2.2 - min t1.2.2 t2.2.2).toNat + 1 by omega, Nat.pow_succ]; grind
    · rw [show min (t1.2.2 + 1) t2.2.2 = min t1.2.2 t2.2.2 by omega]
  · refine .inr ⟨?_, ?_⟩
    · rw [show (t1.2.2 + 1 - min (t1.2.2 + 1) t2.2.2).toNat = (t1.2.2 - min t1.2.2 t2.2.2).toNat by omega]
    · rw [show (t2.2.2 - min t1.2.2 t2.2.2).toNat = (t2.2.2 - min (t1.2.2 + 1) t2.2.2).toNat + 1 by omega, Nat.pow_succ]; grind
theorem two_q (t1 t2 : Bool × Nat × Int) (h1 : t1.2.1 ≠ 0) : qN (t1.1 != t2.1) (tX (tW t1) t2) (tY (tW t1) t2) = qN (t1.1 != t2.1) (2 * tX t1 t2) (tY t1 t2) ∧ (tX (tW t1) t2 % tY (tW t1) t2 = 0 ↔ 2 * tX t1 t2 % tY t1 t2 = 0) := by
  rcases two_same t1 t2 h1 with ⟨e1, e2⟩ | ⟨e1, e2⟩
  · rw [e1, e2]; exact ⟨rfl, Iff.rfl⟩
  · have := qN_mul (d := t1.1 != t2.1) (k := 2) (X := tX (tW t1) t2) (Y := tY (tW t1) t2) (by omega)
    rw [e1, e2] at this
    exact ⟨this.1.symm, this.2.symm⟩
end Go.Proofs.YtbpeijejanhihaaGreatDoor
namespace Go.Proofs.YtbpeijejanhihaaGreatDoor
set_option linter.unusedVariables false
set_option linter.unusedSimpArgs false
open Go.RowKit Go.Fl64
set_option maxRecDepth 200000 in
theorem near_e (s1 s2 : Bool) (ao1 ao2 : Option Addr) (n1 cap1 n2 cap2 : Nat) (ex1 ex2 : Int) (tq : Bool × Nat × Int) (w : World)
    (kO : ∀ W, Below w.heap.size w W → Calls Tryz.prog 54 #[.agg #[.bool s1, .slice ao1 n1 cap1, .int .i64 ex1], .agg #[.bool s2, .slice ao2 n2 cap2, .int .i64 ex2], .int .i64 0] W fun r w' => ∃ s ao n cap e, r = .returned (.tuple #[.agg #[.bool s, .slice ao n cap, .int .i64 e], .bool true]) ∧ DN w' (.agg #[.bool s, .slice ao n cap, .int .i64 e]) tq ∧ Below W.heap.size W w') :
    Calls Tryz.prog 21 #[.agg #[.bool s1, .slice ao1 n1 cap1, .int .i64 ex1], .agg #[.bool s2, .slice ao2 n2 cap2, .int .i64 ex2]] w fun r w' => ∃ A, r = .returned A ∧ DN w' A tq ∧ Below w.heap.size w w' := by
  obtain ⟨W, hW⟩ : ∃ W, W = ((w.alloc (.cells #[.bool s1, .slice ao1 n1 cap1, .int .i64 ex1] 34)).alloc (.cells #[.bool s2, .slice ao2 n2 cap2, .int .i64 ex2] 34)).alloc (.cells #[.bool false, .slice none 0 0, .int .i64 0] 34) := ⟨_, rfl⟩
  obtain ⟨gA, gB, gZ, hsz, hBW⟩ := boxes3 _ _ _ hW
  have HX : Hid (Below w.heap.size w W ∧ W.heap[w.heap.size + 1 + 1]? = some (.cells #[.bool false, .slice none 0 0, .int .i64 0] 34 (0, 0))) := ⟨hBW, gZ⟩
  obtain ⟨⟨a0, a1, a2⟩, -⟩ := box_cells29 gA
  obtain ⟨⟨b0, b1, b2⟩, -⟩ := box_cells29 gB
  have k1 := kO W hBW
  clear kO gA gB gZ hsz hBW
  go_enter Tryz.func21, Tryz.ntmps21
  go_upto_region 1 with fail
  rw [← hW]
  clear hW
  go_wp2_with fail
  refine k1.mono ?_
  rintro r w1 ⟨s3, ao3, n3, cap3, ex3, rfl, hP3, hb3⟩
  obtain ⟨V, hV⟩ : ∃ V, V = w1.alloc (.cells #[.bool s3, .slice ao3 n3 cap3, .int .i64 ex3] 34) := ⟨_, rfl⟩
  have hbV : Below W.heap.size W V := by rw [hV]; exact hb3.alloc hb3.size _
  have hb1 : Below w1.heap.size w1 V := by rw [hV]; exact (Below.refl _ _).alloc (Nat.le_refl _) _
  have hn : V.heap[w1.heap.size]? = some (.cells #[.bool s3, .slice ao3 n3 cap3, .int .i64 ex3] 34 (0, 0)) := by rw [hV]; exact heap_alloc_new _ _
  have HY : Hid (Below w.heap.size w V ∧ V.heap[w.heap.size + 1 + 1]? = some (.cells #[.bool false, .slice none 0 0, .int .i64 0] 34 (0, 0)) ∧ DN V (.agg #[.bool s3, .slice ao3 n3 cap3, .int .i64 ex3]) tq ∧ V.heap[w1.heap.size]? = some (.cells #[.bool s3, .slice ao3 n3 cap3, .int .i64 ex3] 34 (0, 0))) := ⟨HX.out.1.trans (hbV.mono HX.out.1.size), box_later HX.out.2 hbV (lt_of_box HX.out.2), hP3.later hb1, hn⟩
  clear k1 hb3 hP3 HX a0 a1 a2 b0 b1 b2 hbV hb1 hn
  go_upto_region 2 with fail
  rw [← hV]
  clear hV
  generalize w1.heap.size = g3 at *
  obtain ⟨⟨e0, e1, e2⟩, -⟩ := box_cells29 HY.out.2.2.2
  obtain ⟨⟨z0, z1, z2⟩, z3, z4, z5⟩ := box_cells29 HY.out.2.1
  go_wp2_with fail
  refine bodyPost_ret (results_cell_row rfl _ _ (w.heap.size + 1 + 1) 34 #[.bool s3, .slice ao3 n3 cap3, .int .i64 ex3] (0, 0) _ rfl (store3_29 _ _ _ HY.out.2.1) Tryz.underlying34 rfl Tryz.info34) rfl ?_
  exact ⟨_, rfl, dn_store HY.out.2.2.1 HY.out.2.1 _ _ _, below_store3 HY.out.1 (by omega) _ _ _⟩
theorem first_end {w V w5 : World} {s1 s2 s3 s4 : Bool} {ao1 ao2 ao3 ao4 : Option Addr} {n1 cap1 n2 cap2 n3 cap3 n4 cap4 g3 g7 : Nat} {ex1 ex2 ex3 ex4 : Int} {tq t2 : Bool × Nat × Int}
    (HY : Below w.heap.size w V ∧ V.heap[w.heap.size]? = some (.cells #[.bool s1, .slice ao1 n1 cap1, .int .i64 ex1] 34 (0, 0)) ∧ V.heap[w.heap.size + 1]? = some (.cells #[.bool s2, .slice ao2 n2 cap2, .int .i64 ex2] 34 (0, 0)) ∧ V.heap[w.heap.size + 1 + 1]? = some (.cells #[.bool false, .slice none 0 0, .int .i64 0] 34 (0, 0)) ∧ DN V (.agg #[.bool s3, .slice ao3 n3 cap3, .int .i64 ex3]) tq ∧ V.heap[g3]? = some (.cells #[.bool s3, .slice ao3 n3 cap3, .int .i64 ex3] 34 (0, 0)))
    (hP5 : DN w5 (.agg #[.bool s4, .slice ao4 n4 cap4, .int .i64 ex4]) t2) (hz5 : w5.heap[g7]? = some (.cells #[.bool false, .slice none 0 0, .int .i64 0] 34 (0, 0))) (hx : Below V.heap.size V (((w5.setCell ⟨g7, 0, none⟩ (.bool s4)).setCell ⟨g7, 1, none⟩ (.slice ao4 n4 cap4)).setCell ⟨g7, 2, none⟩ (.int .i64 ex4))) :
    Below w.heap.size w (((w5.setCell ⟨g7, 0, none⟩ (.bool s4)).setCell ⟨g7, 1, none⟩ (.slice ao4 n4 cap4)).setCell ⟨g7, 2, none⟩ (.int .i64 ex4)) ∧ (((w5.setCell ⟨g7, 0, none⟩ (.bool s4)).setCell ⟨g7, 1, none⟩ (.slice ao4 n4 cap4)).setCell ⟨g7, 2, none⟩ (.int .i64 ex4)).heap[w.heap.size + 1 + 1]? = some (.cells #[.bool false, .slice none 0 0, .int .i64 0] 34 (0, 0)) ∧ DN (((w5.setCell ⟨g7, 0, none⟩ (.bool s4)).setCell ⟨g7, 1, none⟩ (.slice ao4 n4 cap4)).setCell ⟨g7, 2, none⟩ (.int .i64 ex4)) (.agg #[.bool s3, .slice ao3 n3 cap3, .int .i64 ex3]) tq ∧ (((w5.setCell ⟨g7, 0, none⟩ (.bool s4)).setCell ⟨g7, 1, none⟩ (.slice ao4 n4 cap4)).setCell ⟨g7, 2, none⟩ (.int .i64 ex4)).heap[g3]? = some (.cells #[.bool s3, .slice ao3 n3 cap3, .int .i64 ex3] 34 (0, 0)) ∧ (((w5.setCell ⟨g7, 0, none⟩ (.bool s4)).setCell ⟨g7, 1, none⟩ (.slice ao4 n4 cap4)).setCell ⟨g7, 2, none⟩ (.int .i64 ex4)).heap[g7]? = some (.cells #[.bool s4, .slice ao4 n4 cap4, .int .i64 ex4] 34 (0, 0)) ∧ DN (((w5.setCell ⟨g7, 0, none⟩ (.bool s4)).setCell ⟨g7, 1, none⟩ (.slice ao4 n4 cap4)).setCell ⟨g7, 2, none⟩ (.int .i64 ex4)) (.agg #[.bool s4, .slice ao4 n4 cap4, .int .i64 ex4]) t2 :=
  ⟨HY.1.trans (hx.mono HY.1.size), box_later HY.2.2.2.1 hx (lt_of_box HY.2.2.2.1), HY.2.2.2.2.1.later hx, box_later HY.2.2.2.2.2 hx (lt_of_box HY.2.2.2.2.2), store3_29 _ _ _ hz5, dn_store hP5 hz5 _ _ _⟩
end Go.Proofs.YtbpeijejanhihaaGreatDoor
namespace Go.Proofs.YtbpeijejanhihaaGreatDoor
set_option linter.unusedVariables false
set_option linter.unusedSimpArgs false
open Go.RowKit Go.Fl64
theorem DN.len {w : World} {s : Bool} {ao : Option Addr} {n cap : Nat} {e : Int} {t : Bool × Nat × Int} (h : DN w (.agg #[.bool s, .slice ao n cap, .int .i64 e]) t) : n = dlen t.2.1 ∧ e = t.2.2 := by
  obtain ⟨oo, cc, he, -⟩ := h
  simp at he
  exact ⟨he.2.1.2.1, he.2.2⟩
set_option maxRecDepth 200000 in
theorem near_all (s1 s2 : Bool) (ao1 ao2 : Option Addr) (n1 cap1 n2 cap2 : Nat) (ex1 ex2 : Int) (tq tw t2 : Bool × Nat × Int) (wh : Bool) (w : World)
    (kO : ∀ W, Below w.heap.size w W → Calls Tryz.prog 54 #[.agg #[.bool s1, .slice ao1 n1 cap1, .int .i64 ex1], .agg #[.bool s2, .slice ao2 n2 cap2, .int .i64 ex2], .int .i64 0] W fun r w' => ∃ s ao n cap e, r = .returned (.tuple #[.agg #[.bool s, .slice ao n cap, .int .i64 e], .bool false]) ∧ DN w' (.agg #[.bool s, .slice ao n cap, .int .i64 e]) tq ∧ Below W.heap.size W w')
    (kS : ∀ W, Below w.heap.size w W → Calls Tryz.prog 55 #[.agg #[.bool s1, .slice ao1 n1 cap1, .int .i64 ex1], .int .i64 1] W fun r w' => ∃ A, r = .returned A ∧ DN w' A tw ∧ Below W.heap.size W w')
    (kP : ∀ W X, Below w.heap.size w W → DN W X tw → Calls Tryz.prog 54 #[X, .agg #[.bool s2, .slice ao2 n2 cap2, .int .i64 ex2], .int .i64 0] W fun r w' => ∃ s ao n cap e, r = .returned (.tuple #[.agg #[.bool s, .slice ao n cap, .int .i64 e], .bool wh]) ∧ DN w' (.agg #[.bool s, .slice ao n cap, .int .i64 e]) t2 ∧ Below W.heap.size W w')
    (tz tp t1 : Bool × Nat × Int) (HW : Hid (∀ W, Below w.heap.size w W → Calls Tryz.prog 22 #[.int .i64 1] W fun r w' => ∃ A, r = .returned A ∧ DN w' A t1 ∧ Below W.heap.size W w')) (HL : Hid (∀ W X Y, Below w.heap.size w W → DN W X tq → DN W Y t1 → Calls Tryz.prog 23 #[X, Y] W fun r w' => ∃ s ao n cap e, r = .returned (.agg #[.bool s, .slice ao n cap, .int .i64 e]) ∧ DN w' (.agg #[.bool s, .slice ao n cap, .int .i64 e]) tp ∧ Below W.heap.size W w')) (hz1 : oddT t2 = false → tq = tz) (hz2 : oddT t2 = true → wh = true → oddT tq = false → tq = tz) (hz3 : oddT t2 = true → (wh && !oddT tq) = false → tp = tz) (hlo : 0 ≤ tq.2.2) :
    Calls Tryz.prog 21 #[.agg #[.bool s1, .slice ao1 n1 cap1, .int .i64 ex1], .agg #[.bool s2, .slice ao2 n2 cap2, .int .i64 ex2]] w fun r w' => ∃ A, r = .returned A ∧ DN w' A tz ∧ Below w.heap.size w w' := by
  obtain ⟨W, hW⟩ : ∃ W, W = ((w.alloc (.cells #[.bool s1, .slice ao1 n1 cap1, .int .i64 ex1] 34)).alloc (.cells #[.bool s2, .slice ao2 n2 cap2, .int .i64 ex2] 34)).alloc (.cells #[.bool false, .slice none 0 0, .int .i64 0] 34) := ⟨_, rfl⟩
  obtain ⟨gA, gB, gZ, hsz, hBW⟩ := boxes3 _ _ _ hW
  have HX : Hid (Below w.heap.size w W ∧ W.heap[w.heap.size]? = some (.cells #[.bool s1, .slice ao1 n1 cap1, .int .i64 ex1] 34 (0, 0)) ∧ W.heap[w.heap.size + 1]? = some (.cells #[.bool s2, .slice ao2 n2 cap2, .int .i64 ex2] 34 (0, 0)) ∧ W.heap[w.heap.size + 1 + 1]? = some (.cells #[.bool false, .slice none 0 0, .int .i64 0] 34 (0, 0))) := ⟨hBW, gA, gB, gZ⟩
  have HS : Hid _ := kS
  have HP : Hid _ := kP
  obtain ⟨⟨a0, a1, a2⟩, -⟩ := box_cells29 gA
  obtain ⟨⟨b0, b1, b2⟩, -⟩ := box_cells29 gB
  have k1 := kO W hBW
  clear kO gA gB gZ hsz hBW kS kP
  go_enter Tryz.func21, Tryz.ntmps21
  go_upto_region 1 with fail
  rw [← hW]
  clear hW
  go_wp2_with fail
  refine k1.mono ?_
  rintro r w1 ⟨s3, ao3, n3, cap3, ex3, rfl, hP3, hb3⟩
  obtain ⟨V, hV⟩ : ∃ V, V = w1.alloc (.cells #[.bool s3, .slice ao3 n3 cap3, .int .i64 ex3] 34) := ⟨_, rfl⟩
  have hbV : Below W.heap.size W V := by rw [hV]; exact hb3.alloc hb3.size _
  have hb1 : Below w1.heap.size w1 V := by rw [hV]; exact (Below.refl _ _).alloc (Nat.le_refl _) _
  have hn : V.heap[w1.heap.size]? = some (.cells #[.bool s3, .slice ao3 n3 cap3, .int .i64 ex3] 34 (0, 0)) := by rw [hV]; exact heap_alloc_new _ _
  have HY : Hid (Below w.heap.size w V ∧ V.heap[w.heap.size]? = some (.cells #[.bool s1, .slice ao1 n1 cap1, .int .i64 ex1] 34 (0, 0)) ∧ V.heap[w.heap.size + 1]? = some (.cells #[.bool s2, .slice ao2 n2 cap2, .int .i64 ex2] 34 (0, 0)) ∧ V.heap[w.heap.size + 1 + 1]? = some (.cells #[.bool false, .slice none 0 0, .int .i64 0] 34 (0, 0)) ∧ DN V (.agg #[.bool s3, .slice ao3 n3 cap3, .int .i64 ex3]) tq ∧ V.heap[w1.heap.size]? = some (.cells #[.bool s3, .slice ao3 n3 cap3, .int .i64 ex3] 34 (0, 0))) := ⟨HX.out.1.trans (hbV.mono HX.out.1.size), box_later HX.out.2.1 hbV (lt_of_box HX.out.2.1), box_later HX.out.2.2.1 hbV (lt_of_box HX.out.2.2.1), box_later HX.out.2.2.2 hbV (lt_of_box HX.out.2.2.2), hP3.later hb1, hn⟩
  clear k1 hb3 hP3 HX a0 a1 a2 b0 b1 b2 hbV hb1 hn
  go_upto_region 4 with fail
  rw [← hV]
  clear hV
  generalize w1.heap.size = g3 at *
  go_cut [7, 8] from 11 to 54 (fun v7 v8 wx => v8 = .bool wh ∧ ∃ g7 s4 ao4 n4 cap4 ex4, v7 = .pointer (some ⟨g7, 0, none⟩) ∧ Hid (Below w.heap.size w wx ∧ wx.heap[w.heap.size + 1 + 1]? = some (.cells #[.bool false, .slice none 0 0, .int .i64 0] 34 (0, 0)) ∧ DN wx (.agg #[.bool s3, .slice ao3 n3 cap3, .int .i64 ex3]) tq ∧ wx.heap[g3]? = some (.cells #[.bool s3, .slice ao3 n3 cap3, .int .i64 ex3] 34 (0, 0)) ∧ wx.heap[g7]? = some (.cells #[.bool s4, .slice ao4 n4 cap4, .int .i64 ex4] 34 (0, 0)) ∧ DN wx (.agg #[.bool s4, .slice ao4 n4 cap4, .int .i64 ex4]) t2))
  case first =>
    have HK : Hid (∀ w', Below V.heap.size V w' → ((w'.cell? ⟨w.heap.size, 0, none⟩ = some (.bool s1) ∧ w'.cell? ⟨w.heap.size, 1, none⟩ = some (.slice ao1 n1 cap1) ∧ w'.cell? ⟨w.heap.size, 2, none⟩ = some (.int .i64 ex1)) ∧ (w'.cell? ⟨w.heap.size + 1, 0, none⟩ = some (.bool s2) ∧ w'.cell? ⟨w.heap.size + 1, 1, none⟩ = some (.slice ao2 n2 cap2) ∧ w'.cell? ⟨w.heap.size + 1, 2, none⟩ = some (.int .i64 ex2))) ∧ Below V.heap.size V w') := fun w' hb => ⟨⟨(box_cells29 (box_later HY.out.2.1 hb (lt_of_box HY.out.2.1))).1, (box_cells29 (box_later HY.out.2.2.1 hb (lt_of_box HY.out.2.2.1))).1⟩, hb⟩
    have hBR : Below V.heap.size V V.drew := (Below.refl _ _).drew
    have HQ : Hid (∀ w', Below V.heap.size V w' → Below w.heap.size w w') := fun w' hb => HY.out.1.trans (hb.mono HY.out.1.size)
    have qs : ∀ w4, Below V.heap.size V w4 → Calls Tryz.prog 55 #[.agg #[.bool s1, .slice ao1 n1 cap1, .int .i64 ex1], .int .i64 1] w4 fun r w' => ∃ A, r = .returned A ∧ DN w' A tw ∧ Below V.heap.size V w' ∧ Below w4.heap.size w4 w' := fun w4 hb => (HS.out w4 (HQ.out _ hb)).mono fun r w' ⟨A, e1, e2, e3⟩ => ⟨A, e1, e2, hb.trans (e3.mono hb.size), e3⟩
    have qp : ∀ w4 X, Below V.heap.size V w4 → DN w4 X tw → Calls Tryz.prog 54 #[X, .agg #[.bool s2, .slice ao2 n2 cap2, .int .i64 ex2], .int .i64 0] w4 fun r w' => ∃ s ao n cap e, r = .returned (.tuple #[.agg #[.bool s, .slice ao n cap, .int .i64 e], .bool wh]) ∧ DN w' (.agg #[.bool s, .slice ao n cap, .int .i64 e]) t2 ∧ Below V.heap.size V w' ∧ Below w4.heap.size w4 w' := fun w4 X hb h => (HP.out w4 _ (HQ.out _ hb) h).mono fun r w' ⟨s, ao, n, cap, e, e1, e2, e3⟩ => ⟨s, ao, n, cap, e, e1, e2, hb.trans (e3.mono hb.size), e3⟩
    obtain ⟨⟨⟨a0, a1, a2⟩, ⟨b0, b1, b2⟩⟩, -⟩ := HK.out V (Below.refl _ _)
    have yy0 := fun U : World => (box_cells29 (heap_alloc_new U (.cells #[.bool false, .slice none 0 0, .int .i64 0] 34))).1.1
    have yy1 := fun U : World => (box_cells29 (heap_alloc_new U (.cells #[.bool false, .slice none 0 0, .int .i64 0] 34))).1.2.1
    have yy2 := fun U : World => (box_cells29 (heap_alloc_new U (.cells #[.bool false, .slice none 0 0, .int .i64 0] 34))).1.2.2
    have yy3 := fun U : World => (box_cells29 (heap_alloc_new U (.cells #[.bool false, .slice none 0 0, .int .i64 0] 34))).2.1
    have yy4 := fun U : World => (box_cells29 (heap_alloc_new U (.cells #[.bool false, .slice none 0 0, .int .i64 0] 34))).2.2.1
    have yy5 := fun U : World => (box_cells29 (heap_alloc_new U (.cells #[.bool false, .slice none 0 0, .int .i64 0] 34))).2.2.2
    go_region_held3 (fun w' => ((w'.cell? ⟨w.heap.size, 0, none⟩ = some (.bool s1) ∧ w'.cell? ⟨w.heap.size, 1, none⟩ = some (.slice ao1 n1 cap1) ∧ w'.cell? ⟨w.heap.size, 2, none⟩ = some (.int .i64 ex1)) ∧ (w'.cell? ⟨w.heap.size + 1, 0, none⟩ = some (.bool s2) ∧ w'.cell? ⟨w.heap.size + 1, 1, none⟩ = some (.slice ao2 n2 cap2) ∧ w'.cell? ⟨w.heap.size + 1, 2, none⟩ = some (.int .i64 ex2))) ∧ Below V.heap.size V w') (first | (with_reducible assumption) | exact ⟨⟨⟨a0, a1, a2⟩, ⟨b0, b1, b2⟩⟩, hBR⟩ | (refine HK.out _ ?_; first | (with_reducible assumption) | exact hBR.alloc hBR.size _ | exact hb4.alloc hb4.size _ | exact hb5.alloc hb5.size _ | exact below_store3 (hb5.alloc hb5.size _) hb5.size _ _ _ | exact below_store3 hb5 (Nat.le_trans (hBR.size) (Nat.le_refl _)) _ _ _ | exact below_store3 hb5 hb4.size _ _ _) | go_keep)
      (first | (go_at_call 55; first | (refine (qs _ hBR).mono ?_; rintro r w4 ⟨A4, rfl, hP4, hb4, hd4⟩) | (refine (qs _ (hBR.alloc hBR.size _)).mono ?_; rintro r w4 ⟨A4, rfl, hP4, hb4, hd4⟩; have hz4 : w4.heap[V.heap.size]? = some (.cells #[.bool false, .slice none 0 0, .int .i64 0] 34 (0, 0)) := box_later (heap_alloc_new V.drew (.cells #[.bool false, .slice none 0 0, .int .i64 0] 34)) hd4 (by simp)))
             | (go_at_call 54; first | (have hq := hz4; clear hq; refine (qp _ _ hb4 hP4).mono ?_; rintro r w5 ⟨s4, ao4, n4, cap4, ex4, rfl, hP5, hb5, hd5⟩; have hz5 := box_later hz4 hd5 (lt_of_box hz4); obtain ⟨⟨y0, y1, y2⟩, y3, y4, y5⟩ := box_cells29 hz5) | (refine (qp _ _ hb4 hP4).mono ?_; rintro r w5 ⟨s4, ao4, n4, cap4, ex4, rfl, hP5, hb5, hd5⟩) | (refine (qp _ _ (hb4.alloc hb4.size _) (hP4.later ((Below.refl _ _).alloc (Nat.le_refl _) _))).mono ?_; rintro r w5 ⟨s4, ao4, n4, cap4, ex4, rfl, hP5, hb5, hd5⟩; have hz5 := box_later (heap_alloc_new w4 (.cells #[.bool false, .slice none 0 0, .int .i64 0] 34)) hd5 (by simp); obtain ⟨⟨y0, y1, y2⟩, y3, y4, y5⟩ := box_cells29 hz5)))
    · have hx : Below V.heap.size V (w5.alloc (.cells #[.bool s4, .slice ao4 n4 cap4, .int .i64 ex4] 34)) := hb5.alloc hb5.size _
      have HF : Hid (Below w.heap.size w (w5.alloc (.cells #[.bool s4, .slice ao4 n4 cap4, .int .i64 ex4] 34)) ∧ (w5.alloc (.cells #[.bool s4, .slice ao4 n4 cap4, .int .i64 ex4] 34)).heap[w.heap.size + 1 + 1]? = some (.cells #[.bool false, .slice none 0 0, .int .i64 0] 34 (0, 0)) ∧ DN (w5.alloc (.cells #[.bool s4, .slice ao4 n4 cap4, .int .i64 ex4] 34)) (.agg #[.bool s3, .slice ao3 n3 cap3, .int .i64 ex3]) tq ∧ (w5.alloc (.cells #[.bool s4, .slice ao4 n4 cap4, .int .i64 ex4] 34)).heap[g3]? = some (.cells #[.bool s3, .slice ao3 n3 cap3, .int .i64 ex3] 34 (0, 0)) ∧ (w5.alloc (.cells #[.bool s4, .slice ao4 n4 cap4, .int .i64 ex4] 34)).heap[w5.heap.size]? = some (.cells #[.bool s4, .slice ao4 n4 cap4, .int .i64 ex4] 34 (0, 0)) ∧ DN (w5.alloc (.cells #[.bool s4, .slice ao4 n4 cap4, .int .i64 ex4] 34)) (.agg #[.bool s4, .slice ao4 n4 cap4, .int .i64 ex4]) t2) := ⟨HQ.out _ hx, box_later HY.out.2.2.2.1 hx (lt_of_box HY.out.2.2.2.1), HY.out.2.2.2.2.1.later hx, box_later HY.out.2.2.2.2.2 hx (lt_of_box HY.out.2.2.2.2.2), heap_alloc_new _ _, hP5.later ((Below.refl _ _).alloc (Nat.le_refl _) _)⟩
      clear hx yy0 yy1 yy2 yy3 yy4 yy5 hP4 hb4 hd4 hP5 hb5 hd5 qs qp HK HQ hBR a0 a1 a2 b0 b1 b2
      go_wp2_with fail
      go_meet
      exact ⟨rfl, _, _, _, _, _, _, rfl, HF⟩
    · have HF : Hid _ := (first_end HY.out hP5 hz5 (below_store3 hb5 hb4.size (.bool s4) (.slice ao4 n4 cap4) (.int .i64 ex4)))
      clear y0 y1 y2 y3 y4 y5 hz5 yy0 yy1 yy2 yy3 yy4 yy5 hP4 hb4 hd4 hP5 hb5 hd5 qs qp HK HQ hBR a0 a1 a2 b0 b1 b2
      go_wp2_with fail
      go_meet
      exact ⟨rfl, _, _, _, _, _, _, rfl, HF⟩
    · have HF : Hid _ := (first_end HY.out hP5 hz5 (below_store3 hb5 (Nat.le_refl _) (.bool s4) (.slice ao4 n4 cap4) (.int .i64 ex4)))
      clear y0 y1 y2 y3 y4 y5 hz4 hz5 yy0 yy1 yy2 yy3 yy4 yy5 hP4 hb4 hd4 hP5 hb5 hd5 qs qp HK HQ hBR a0 a1 a2 b0 b1 b2
      go_wp2_with fail
      go_meet
      exact ⟨rfl, _, _, _, _, _, _, rfl, HF⟩
  case rest =>
    obtain ⟨rfl, g7, s4, ao4, n4, cap4, ex4, rfl, HZ⟩ := hcut
    obtain ⟨U, rfl⟩ : ∃ U : World, U = wc := ⟨_, rfl⟩
    have hl : Hid (n4 = dlen t2.2.1 ∧ ex4 = t2.2.2) := HZ.out.2.2.2.2.2.len
    have hl3 : Hid (n3 = dlen tq.2.1 ∧ ex3 = tq.2.2) := HZ.out.2.2.1.len
    clear HY HS HP
    obtain ⟨⟨a0, a1, a2⟩, -⟩ := box_cells29 HZ.out.2.2.2.2.1
    obtain ⟨⟨e0, e1, e2⟩, -⟩ := box_cells29 HZ.out.2.2.2.1
    obtain ⟨⟨z0, z1, z2⟩, z3, z4, z5⟩ := box_cells29 HZ.out.2.1
    have hsm : n4 ≤ 35184372088832 := by obtain ⟨_, _, _, q⟩ := HZ.out.2.2.2.2.2; rw [hl.out.1]; exact q.small
    have hsm3 : n3 ≤ 35184372088832 := by obtain ⟨_, _, _, q⟩ := HZ.out.2.2.1; rw [hl3.out.1]; exact q.small
    cases hod : oddT t2
    · obtain rfl := hz1 hod
      clear hz1 hz2 hz3
      by_cases h4 : t2.2.1 = 0
      · have h5 : n4 = 0 := by rw [hl.out.1, h4, dlen_zero]
        clear hl hl3 hod h4
        subst h5
        go_wp2_with fail
        refine bodyPost_ret (results_cell_row rfl _ _ (w.heap.size + 1 + 1) 34 #[.bool s3, .slice ao3 n3 cap3, .int .i64 ex3] (0, 0) _ rfl (store3_29 _ _ _ HZ.out.2.1) Tryz.underlying34 rfl Tryz.info34) rfl ?_
        exact ⟨_, rfl, dn_store HZ.out.2.2.1 HZ.out.2.1 _ _ _, below_store3 HZ.out.1 (by omega) _ _ _⟩
      · have y1 : (0 : Int) < (n4 : Int) := by have := dlen_pos h4; have := hl.out.1; omega
        have y2 : decide ((0 : Int) < (n4 : Int)) = true := decide_eq_true y1
        have y3 : (ex4 == 0) = false := by rw [hl.out.2]; unfold oddT at hod; rw [decide_eq_true h4, Bool.true_and] at hod; exact hod
        clear hl hl3 hod h4
        go_wp2_with fail
        refine bodyPost_ret (results_cell_row rfl _ _ (w.heap.size + 1 + 1) 34 #[.bool s3, .slice ao3 n3 cap3, .int .i64 ex3] (0, 0) _ rfl (store3_29 _ _ _ HZ.out.2.1) Tryz.underlying34 rfl Tryz.info34) rfl ?_
        exact ⟨_, rfl, dn_store HZ.out.2.2.1 HZ.out.2.1 _ _ _, below_store3 HZ.out.1 (by omega) _ _ _⟩
    · have h4 : t2.2.1 ≠ 0 := by unfold oddT at hod; simp at hod; exact hod.1
      have y1 : (0 : Int) < (n4 : Int) := by have := dlen_pos h4; have := hl.out.1; omega
      have y2 : decide ((0 : Int) < (n4 : Int)) = true := decide_eq_true y1
      have y3 : (ex4 == 0) = true := by rw [hl.out.2]; unfold oddT at hod; rw [decide_eq_true h4, Bool.true_and] at hod; exact hod
      cases hev : (wh && !oddT tq)
      · obtain rfl := hz3 hod hev
        clear hz1 hz2 hz3
        by_cases h6 : tq.2.1 = 0
        · have h7 : n3 = 0 := by rw [hl3.out.1, h6, dlen_zero]
          have h8 : wh = false := by have : oddT tq = false := by unfold oddT; simp [h6]
                                     rw [this] at hev; simpa using hev
          clear hl hl3 hod hev hlo h4 h6
          subst h7 h8
          go_upto_region 11 with fail
          have HK : Hid (∀ w', Below U.heap.size U w' → (w'.cell? ⟨g3, 0, none⟩ = some (.bool s3) ∧ w'.cell? ⟨g3, 1, none⟩ = some (.slice ao3 0 cap3) ∧ w'.cell? ⟨g3, 2, none⟩ = some (.int .i64 ex3)) ∧ Below U.heap.size U w') := fun w' hb => ⟨(box_cells29 (box_later HZ.out.2.2.2.1 hb (lt_of_box HZ.out.2.2.2.1))).1, hb⟩
          have hBR : Below U.heap.size U U.drew := (Below.refl _ _).drew
          have HQ : Hid (∀ w', Below U.heap.size U w' → Below w.heap.size w w') := fun w' hb => HZ.out.1.trans (hb.mono HZ.out.1.size)
          have qw : ∀ w4, Below U.heap.size U w4 → Calls Tryz.prog 22 #[.int .i64 1] w4 fun r w' => ∃ A, r = .returned A ∧ DN w' A t1 ∧ (w'.cell? ⟨g3, 0, none⟩ = some (.bool s3) ∧ w'.cell? ⟨g3, 1, none⟩ = some (.slice ao3 0 cap3) ∧ w'.cell? ⟨g3, 2, none⟩ = some (.int .i64 ex3)) ∧ Below U.heap.size U w' := fun w4 hb => (HW.out w4 (HQ.out _ hb)).mono fun r w' ⟨A, e1, e2, e3⟩ => ⟨A, e1, e2, HK.out _ (hb.trans (e3.mono hb.size))⟩
          have qp : ∀ w4 Y, Below U.heap.size U w4 → DN w4 Y t1 → Calls Tryz.prog 23 #[.agg #[.bool s3, .slice ao3 0 cap3, .int .i64 ex3], Y] w4 fun r w' => ∃ s ao n cap e, r = .returned (.agg #[.bool s, .slice ao n cap, .int .i64 e]) ∧ DN w' (.agg #[.bool s, .slice ao n cap, .int .i64 e]) tp ∧ Below U.heap.size U w' ∧ w'.heap[w.heap.size + 1 + 1]? = some (.cells #[.bool false, .slice none 0 0, .int .i64 0] 34 (0, 0)) := fun w4 Y hb h => (HL.out w4 _ _ (HQ.out _ hb) (HZ.out.2.2.1.later hb) h).mono fun r w' ⟨s, ao, n, cap, e, e1, e2, e3⟩ => ⟨s, ao, n, cap, e, e1, e2, hb.trans (e3.mono hb.size), box_later HZ.out.2.1 (hb.trans (e3.mono hb.size)) (lt_of_box HZ.out.2.1)⟩
          clear hsm hsm3 z0 z1 z2 z3 z4 z5
          go_region_with (first | (go_at_call 22; refine (qw _ hBR).mono ?_; rintro r w5 ⟨A5, rfl, hP5, ⟨b0, b1, b2⟩, hb5⟩) | (go_at_call 23; refine (qp _ _ hb5 hP5).mono ?_; rintro r w6 ⟨s6, ao6, n6, cap6, ex6, rfl, hP6, hb6, hz6⟩; obtain ⟨⟨x0, x1, x2⟩, x3, x4, x5⟩ := box_cells29 hz6))
          all_goals
            have HF : Hid (Below w.heap.size w w6 ∧ w6.heap[w.heap.size + 1 + 1]? = some (.cells #[.bool false, .slice none 0 0, .int .i64 0] 34 (0, 0)) ∧ DN w6 (.agg #[.bool s6, .slice ao6 n6 cap6, .int .i64 ex6]) tp) := ⟨HQ.out _ hb6, hz6, hP6⟩
            clear hP5 hb5 hP6 hb6 hz6 qw qp HK hBR HQ HZ HW HL b0 b1 b2 a0 a1 a2 e0 e1 e2
            go_wp2_with fail
            refine bodyPost_ret (results_cell_row rfl _ _ (w.heap.size + 1 + 1) 34 #[.bool s6, .slice ao6 n6 cap6, .int .i64 ex6] (0, 0) _ rfl (store3_29 _ _ _ HF.out.2.1) Tryz.underlying34 rfl Tryz.info34) rfl ?_
            exact ⟨_, rfl, dn_store HF.out.2.2 HF.out.2.1 _ _ _, below_store3 HF.out.1 (by omega) _ _ _⟩
        · have y5 : ((n3 : Int) == 0) = false := by have := dlen_pos h6; have := hl3.out.1; rw [beq_eq_false_iff_ne]; omega
          by_cases h9 : 0 < ex3
          · have y7 : decide ((0 : Int) < ex3) = true := decide_eq_true h9
            have h8 : wh = false := by have : oddT tq = false := by unfold oddT; have := hl3.out.2; simp; intro _; omega
                                       rw [this] at hev; simpa using hev
            clear hl hl3 hod hev hlo h4 h6
            subst h8
            go_upto_region 11 with fail
            have HK : Hid (∀ w', Below U.heap.size U w' → (w'.cell? ⟨g3, 0, none⟩ = some (.bool s3) ∧ w'.cell? ⟨g3, 1, none⟩ = some (.slice ao3 n3 cap3) ∧ w'.cell? ⟨g3, 2, none⟩ = some (.int .i64 ex3)) ∧ Below U.heap.size U w') := fun w' hb => ⟨(box_cells29 (box_later HZ.out.2.2.2.1 hb (lt_of_box HZ.out.2.2.2.1))).1, hb⟩
            have hBR : Below U.heap.size U U.drew := (Below.refl _ _).drew
            have HQ : Hid (∀ w', Below U.heap.size U w' → Below w.heap.size w w') := fun w' hb => HZ.out.1.trans (hb.mono HZ.out.1.size)
            have qw : ∀ w4, Below U.heap.size U w4 → Calls Tryz.prog 22 #[.int .i64 1] w4 fun r w' => ∃ A, r = .returned A ∧ DN w' A t1 ∧ (w'.cell? ⟨g3, 0, none⟩ = some (.bool s3) ∧ w'.cell? ⟨g3, 1, none⟩ = some (.slice ao3 n3 cap3) ∧ w'.cell? ⟨g3, 2, none⟩ = some (.int .i64 ex3)) ∧ Below U.heap.size U w' := fun w4 hb => (HW.out w4 (HQ.out _ hb)).mono fun r w' ⟨A, e1, e2, e3⟩ => ⟨A, e1, e2, HK.out _ (hb.trans (e3.mono hb.size))⟩
            have qp : ∀ w4 Y, Below U.heap.size U w4 → DN w4 Y t1 → Calls Tryz.prog 23 #[.agg #[.bool s3, .slice ao3 n3 cap3, .int .i64 ex3], Y] w4 fun r w' => ∃ s ao n cap e, r = .returned (.agg #[.bool s, .slice ao n cap, .int .i64 e]) ∧ DN w' (.agg #[.bool s, .slice ao n cap, .int .i64 e]) tp ∧ Below U.heap.size U w' ∧ w'.heap[w.heap.size + 1 + 1]? = some (.cells #[.bool false, .slice none 0 0, .int .i64 0] 34 (0, 0)) := fun w4 Y hb h => (HL.out w4 _ _ (HQ.out _ hb) (HZ.out.2.2.1.later hb) h).mono fun r w' ⟨s, ao, n, cap, e, e1, e2, e3⟩ => ⟨s, ao, n, cap, e, e1, e2, hb.trans (e3.mono hb.size), box_later HZ.out.2.1 (hb.trans (e3.mono hb.size)) (lt_of_box HZ.out.2.1)⟩
            clear hsm hsm3 z0 z1 z2 z3 z4 z5
            go_region_with (first | (go_at_call 22; refine (qw _ hBR).mono ?_; rintro r w5 ⟨A5, rfl, hP5, ⟨b0, b1, b2⟩, hb5⟩) | (go_at_call 23; refine (qp _ _ hb5 hP5).mono ?_; rintro r w6 ⟨s6, ao6, n6, cap6, ex6, rfl, hP6, hb6, hz6⟩; obtain ⟨⟨x0, x1, x2⟩, x3, x4, x5⟩ := box_cells29 hz6))
            all_goals
              have HF : Hid (Below w.heap.size w w6 ∧ w6.heap[w.heap.size + 1 + 1]? = some (.cells #[.bool false, .slice none 0 0, .int .i64 0] 34 (0, 0)) ∧ DN w6 (.agg #[.bool s6, .slice ao6 n6 cap6, .int .i64 ex6]) tp) := ⟨HQ.out _ hb6, hz6, hP6⟩
              clear hP5 hb5 hP6 hb6 hz6 qw qp HK hBR HQ HZ HW HL b0 b1 b2 a0 a1 a2 e0 e1 e2
              go_wp2_with fail
              refine bodyPost_ret (results_cell_row rfl _ _ (w.heap.size + 1 + 1) 34 #[.bool s6, .slice ao6 n6 cap6, .int .i64 ex6] (0, 0) _ rfl (store3_29 _ _ _ HF.out.2.1) Tryz.underlying34 rfl Tryz.info34) rfl ?_
              exact ⟨_, rfl, dn_store HF.out.2.2 HF.out.2.1 _ _ _, below_store3 HF.out.1 (by omega) _ _ _⟩
          · have y7 : decide ((0 : Int) < ex3) = false := decide_eq_false h9
            clear hl hl3 hod hev hlo h4 h6
            cases wh
            all_goals
              go_upto_region 11 with fail
              have HK : Hid (∀ w', Below U.heap.size U w' → (w'.cell? ⟨g3, 0, none⟩ = some (.bool s3) ∧ w'.cell? ⟨g3, 1, none⟩ = some (.slice ao3 n3 cap3) ∧ w'.cell? ⟨g3, 2, none⟩ = some (.int .i64 ex3)) ∧ Below U.heap.size U w') := fun w' hb => ⟨(box_cells29 (box_later HZ.out.2.2.2.1 hb (lt_of_box HZ.out.2.2.2.1))).1, hb⟩
              have hBR : Below U.heap.size U U.drew := (Below.refl _ _).drew
              have HQ : Hid (∀ w', Below U.heap.size U w' → Below w.heap.size w w') := fun w' hb => HZ.out.1.trans (hb.mono HZ.out.1.size)
              have qw : ∀ w4, Below U.heap.size U w4 → Calls Tryz.prog 22 #[.int .i64 1] w4 fun r w' => ∃ A, r = .returned A ∧ DN w' A t1 ∧ (w'.cell? ⟨g3, 0, none⟩ = some (.bool s3) ∧ w'.cell? ⟨g3, 1, none⟩ = some (.slice ao3 n3 cap3) ∧ w'.cell? ⟨g3, 2, none⟩ = some (.int .i64 ex3)) ∧ Below U.heap.size U w' := fun w4 hb => (HW.out w4 (HQ.out _ hb)).mono fun r w' ⟨A, e1, e2, e3⟩ => ⟨A, e1, e2, HK.out _ (hb.trans (e3.mono hb.size))⟩
              have qp : ∀ w4 Y, Below U.heap.size U w4 → DN w4 Y t1 → Calls Tryz.prog 23 #[.agg #[.bool s3, .slice ao3 n3 cap3, .int .i64 ex3], Y] w4 fun r w' => ∃ s ao n cap e, r = .returned (.agg #[.bool s, .slice ao n cap, .int .i64 e]) ∧ DN w' (.agg #[.bool s, .slice ao n cap, .int .i64 e]) tp ∧ Below U.heap.size U w' ∧ w'.heap[w.heap.size + 1 + 1]? = some (.cells #[.bool false, .slice none 0 0, .int .i64 0] 34 (0, 0)) := fun w4 Y hb h => (HL.out w4 _ _ (HQ.out _ hb) (HZ.out.2.2.1.later hb) h).mono fun r w' ⟨s, ao, n, cap, e, e1, e2, e3⟩ => ⟨s, ao, n, cap, e, e1, e2, hb.trans (e3.mono hb.size), box_later HZ.out.2.1 (hb.trans (e3.mono hb.size)) (lt_of_box HZ.out.2.1)⟩
              clear hsm hsm3 z0 z1 z2 z3 z4 z5
              go_region_with (first | (go_at_call 22; refine (qw _ hBR).mono ?_; rintro r w5 ⟨A5, rfl, hP5, ⟨b0, b1, b2⟩, hb5⟩) | (go_at_call 23; refine (qp _ _ hb5 hP5).mono ?_; rintro r w6 ⟨s6, ao6, n6, cap6, ex6, rfl, hP6, hb6, hz6⟩; obtain ⟨⟨x0, x1, x2⟩, x3, x4, x5⟩ := box_cells29 hz6))
              all_goals
                have HF : Hid (Below w.heap.size w w6 ∧ w6.heap[w.heap.size + 1 + 1]? = some (.cells #[.bool false, .slice none 0 0, .int .i64 0] 34 (0, 0)) ∧ DN w6 (.agg #[.bool s6, .slice ao6 n6 cap6, .int .i64 ex6]) tp) := ⟨HQ.out _ hb6, hz6, hP6⟩
                clear hP5 hb5 hP6 hb6 hz6 qw qp HK hBR HQ HZ HW HL b0 b1 b2 a0 a1 a2 e0 e1 e2
                go_wp2_with fail
                refine bodyPost_ret (results_cell_row rfl _ _ (w.heap.size + 1 + 1) 34 #[.bool s6, .slice ao6 n6 cap6, .int .i64 ex6] (0, 0) _ rfl (store3_29 _ _ _ HF.out.2.1) Tryz.underlying34 rfl Tryz.info34) rfl ?_
                exact ⟨_, rfl, dn_store HF.out.2.2 HF.out.2.1 _ _ _, below_store3 HF.out.1 (by omega) _ _ _⟩
      · simp only [Bool.and_eq_true, Bool.not_eq_true'] at hev
        obtain ⟨rfl, hev⟩ := hev
        obtain rfl := hz2 hod rfl hev
        clear hz1 hz2 hz3
        by_cases h6 : tq.2.1 = 0
        · have h7 : n3 = 0 := by rw [hl3.out.1, h6, dlen_zero]
          clear hl hl3 hod hev hlo h4 h6
          subst h7
          go_wp2_with fail
          refine bodyPost_ret (results_cell_row rfl _ _ (w.heap.size + 1 + 1) 34 #[.bool s3, .slice ao3 0 cap3, .int .i64 ex3] (0, 0) _ rfl (store3_29 _ _ _ HZ.out.2.1) Tryz.underlying34 rfl Tryz.info34) rfl ?_
          exact ⟨_, rfl, dn_store HZ.out.2.2.1 HZ.out.2.1 _ _ _, below_store3 HZ.out.1 (by omega) _ _ _⟩
        · have y5 : ((n3 : Int) == 0) = false := by have := dlen_pos h6; have := hl3.out.1; rw [beq_eq_false_iff_ne]; omega
          have y6 : (0 : Int) < ex3 := by
            unfold oddT at hev; rw [decide_eq_true h6, Bool.true_and, beq_eq_false_iff_ne] at hev; have := hl3.out.2; omega
          have y7 : decide ((0 : Int) < ex3) = true := decide_eq_true y6
          clear hl hl3 hod hev hlo h4 h6
          go_wp2_with fail
          refine bodyPost_ret (results_cell_row rfl _ _ (w.heap.size + 1 + 1) 34 #[.bool s3, .slice ao3 n3 cap3, .int .i64 ex3] (0, 0) _ rfl (store3_29 _ _ _ HZ.out.2.1) Tryz.underlying34 rfl Tryz.info34) rfl ?_
          exact ⟨_, rfl, dn_store HZ.out.2.2.1 HZ.out.2.1 _ _ _, below_store3 HZ.out.1 (by omega) _ _ _⟩
end Go.Proofs.YtbpeijejanhihaaGreatDoor
namespace Go.Proofs.YtbpeijejanhihaaGreatDoor
set_option linter.unusedVariables false
set_option linter.unusedSimpArgs false
open Go.RowKit Go.Fl64
set_option maxRecDepth 200000 in
theorem whole1_dn (w : World) : Calls Tryz.prog 22 #[.int .i64 1] w fun r w' => ∃ A, r = .returned A ∧ DN w' A (false, 1, 0) ∧ Below w.heap.size w w' := by
  have hnn : ¬ (1 : Int) < 0 := by omega
  have hwr : IntKind.u64.wrap 1 = ((1 : Nat) : Int) := by decide
  obtain ⟨W, hW⟩ : ∃ W, W = w.alloc (.cells #[.bool false, .slice none 0 0, .int .i64 0] 34) := ⟨_, rfl⟩
  have k34 := xnorm_two (ng := false) (m := 1) (e := 0) (W := W) (by omega) (by omega)
  have HB0 : Hid (Below w.heap.size w W ∧ W.heap[w.heap.size]? = some (.cells #[.bool false, .slice none 0 0, .int .i64 0] 34 (0, 0)) ∧ W.heap.size = w.heap.size + 1) := ⟨by rw [hW]; exact (Below.refl _ _).alloc (Nat.le_refl _) _, by rw [hW]; exact heap_alloc_new _ _, by rw [hW]; simp⟩
  rw [HB0.out.2.2] at k34
  go_enter Tryz.func22, Tryz.ntmps22
  go_wp2_with fail
  rw [← hW]
  clear hW
  refine k34.mono ?_
  rintro r w3 ⟨s, ao, n, cap, ex, rfl, hn, hb⟩
  have hs := HB0.out.2.2
  have HC3 : Hid (w3.heap[w.heap.size]? = some (.cells #[.bool false, .slice none 0 0, .int .i64 0] 34 (0, 0))) := box_later HB0.out.2.1 hb (by omega)
  obtain ⟨⟨a1, a2, a3⟩, a4, a5, a6⟩ := box_cells29 HC3.out
  have HN : Hid (NC w3 (w.heap.size + 1) (.agg #[.bool s, .slice ao n cap, .int .i64 ex]) false 1 0 ∧ Below (w.heap.size + 1) W w3) := ⟨hn.mono (by omega), hb⟩
  clear hn hb k34 hs
  go_wp2
  refine bodyPost_ret (results_cell_row rfl _ _ w.heap.size 34 #[.bool s, .slice ao n cap, .int .i64 ex] (0, 0) _ rfl (store3_29 _ _ _ HC3.out) Tryz.underlying34 rfl Tryz.info34) rfl ?_
  have hs := HB0.out.2.2
  have e : cn false 1 0 = (false, 1, 0) := by decide +kernel
  exact ⟨_, rfl, e ▸ (HN.out.1.store (by omega) _ _ _).dn, below_store3 (HB0.out.1.trans (HN.out.2.mono (by omega))) (Nat.le_refl _) _ _ _⟩
theorem ok_one : Ok (false, 1, 0) := by
  unfold Ok
  decide +kernel
theorem near_dn {ta tb : Bool × Nat × Int} {X Y : Value} {w : World} (oa : Ok ta) (ob : Ok tb) (fa : Fits (-1074) 1025 ta.2.1 ta.2.2) (fb : Fits (-1074) 1025 tb.2.1 tb.2.2) (h0 : tb.2.1 ≠ 0) (h1 : DN w X ta) (h2 : DN w Y tb) :
    Calls Tryz.prog 21 #[X, Y] w fun r w' => ∃ A, r = .returned A ∧ DN w' A (tNr ta tb) ∧ Below w.heap.size w w' := by
  obtain ⟨s1, ao1, n1, cap1, ex1, rfl⟩ := h1.shape
  obtain ⟨s2, ao2, n2, cap2, ex2, rfl⟩ := h2.shape
  obtain ⟨f1, f2, f3, -, -⟩ := oa.facts
  have over : ∀ (t : Bool × Nat × Int) (A : Value) W, Below w.heap.size w W → dlen t.2.1 ≤ 2048 → (-65536 ≤ t.2.2 ∧ t.2.2 ≤ 65537) → DN W A t → Calls Tryz.prog 54 #[A, .agg #[.bool s2, .slice ao2 n2 cap2, .int .i64 ex2], .int .i64 0] W fun r w' => ∃ s ao n cap e, r = .returned (.tuple #[.agg #[.bool s, .slice ao n cap, .int .i64 e], .bool (decide (tX t tb % tY t tb = 0))]) ∧ DN w' (.agg #[.bool s, .slice ao n cap, .int .i64 e]) (tQ t tb) ∧ Below W.heap.size W w' := by
    intro t A W hb l1 b1 h
    refine (over_dn l1 b1 ob h0 h (h2.later hb)).mono ?_
    rintro r w' ⟨A', rfl, e2, e3⟩
    obtain ⟨s, ao, n, cap, e, rfl⟩ := e2.shape
    exact ⟨s, ao, n, cap, e, rfl, e2, e3⟩
  have kO := fun W hb => over ta _ W hb f1 ⟨by omega, by omega⟩ (h1.later hb)
  have hns := near_same (ta.1 != tb.1) (tX ta tb) (tY ta tb) (tY_pos h0)
  by_cases hx : tX ta tb % tY ta tb = 0
  · have hq : tNr ta tb = tQ ta tb := by unfold tNr; rw [hns, decide_eq_true hx]; rfl
    rw [decide_eq_true hx] at kO
    rw [hq]
    exact near_e s1 s2 ao1 ao2 n1 cap1 n2 cap2 ex1 ex2 _ w kO
  · rw [decide_eq_false hx] at kO
    have ha0 : ta.2.1 ≠ 0 := by intro h; apply hx; unfold tX; rw [h, Nat.zero_mul, Nat.zero_mod]
    have hW : tW ta = (ta.1, ta.2.1, ta.2.2 + 1) := by unfold tW; rw [if_neg ha0]
    have kS := fun W (hb : Below w.heap.size w W) => scaled_dn oa (h1.later hb)
    have kP := fun W A (hb : Below w.heap.size w W) (h : DN W A (tW ta)) => over (tW ta) A W hb (by rw [hW]; exact f1) (by rw [hW]; exact ⟨by show -65536 ≤ ta.2.2 + 1; omega, by show ta.2.2 + 1 ≤ 65537; omega⟩) h
    obtain ⟨e1, e2⟩ := two_q ta tb ha0
    have hod : oddT (tQ (tW ta) tb) = decide (qN (ta.1 != tb.1) (2 * tX ta tb) (tY ta tb) % 2 = 1) := by
      unfold tQ
      rw [oddT_cn, show (tW ta).1 = ta.1 by rw [hW], e1]
    have hev : oddT (tQ ta tb) = decide (qN (ta.1 != tb.1) (tX ta tb) (tY ta tb) % 2 = 1) := oddT_cn _ _
    have hwh : decide (tX (tW ta) tb % tY (tW ta) tb = 0) = decide (2 * tX ta tb % tY ta tb = 0) := by simp only [e2]
    rw [decide_eq_false hx, ← hod, ← hev, ← hwh, Bool.not_false, Bool.true_and] at hns
    generalize hwe : decide (tX (tW ta) tb % tY (tW ta) tb = 0) = wh at *
    refine near_all s1 s2 ao1 ao2 n1 cap1 n2 cap2 ex1 ex2 _ _ _ wh w kO kS kP (tNr ta tb) (tS (tQ ta tb) (false, 1, 0)) (false, 1, 0) (fun W hb => whole1_dn W) (fun W A B hb hA hB => ?_) (fun ho => ?_) (fun ho h1 h2 => ?_) (fun ho hw => ?_) (tQ_low ta tb)
    · refine (plus_dn (tQ_ok oa ob fa fb h0) ok_one hA hB).mono ?_
      rintro r w' ⟨A', rfl, e2, e3⟩
      obtain ⟨s, ao, n, cap, e, rfl⟩ := e2.shape
      exact ⟨s, ao, n, cap, e, rfl, e2, e3⟩
    · unfold tNr; rw [hns, ho]; rfl
    · unfold tNr; rw [hns, ho, h1, h2]; rfl
    · unfold tNr; rw [hns, ho, hw]; rfl
end Go.Proofs.YtbpeijejanhihaaGreatDoor
namespace Go.Proofs.YtbpeijejanhihaaGreatDoor
set_option linter.unusedVariables false
set_option linter.unusedSimpArgs false
open Go.RowKit Go.Fl64
theorem rs_ne {s : Bool} {x : Nat} {e : Int} (h0 : x ≠ 0) (he : -1074 ≤ e) : mag (tfF s true x e 2) ≠ 0 := by
  rw [tf_bdy (by omega), show wyN s 2 = 1 from rfl, (mag_sig (bdy_le x e 1)).1]
  have h1 : bdy 1 (-1074) 1 = 1 := by decide +kernel
  obtain ⟨K, hK⟩ : ∃ K : Nat, 70000 ≤ K := ⟨70000, Nat.le_refl _⟩
  rcases Int.lt_or_le e 66000 with he2 | he2
  · have h := bdy_mono (K := K) hK (x := 1) (y := x) (e := -1074) (f := e) (by omega) (by omega) (way := 1) (by omega) (by
      unfold VA
      exact Nat.mul_le_mul (by omega) (Nat.pow_le_pow_right (by omega) (by omega)))
    omega
  · have h := bdy_mono (K := K) hK (x := 1) (y := x) (e := -1074) (f := e) (by omega) (by omega) (way := 1) (by omega) (by
      unfold VA
      exact Nat.mul_le_mul (by omega) (Nat.pow_le_pow_right (by omega) (by omega)))
    omega
theorem tL_fits {ta tb : Bool × Nat × Int} (oa : Ok ta) (ob : Ok tb) (fa : Fits (-1074) 1025 ta.2.1 ta.2.2) (fb : Fits (-1074) 1025 tb.2.1 tb.2.2) (h0 : tb.2.1 ≠ 0) : Fits (-1074) 3127 (tL ta tb).2.1 (tL ta tb).2.2 := by
  unfold tL
  split
  · exact tD_fits (tR_fits oa ob fa fb h0) (fb.mono (Int.le_refl _) (by omega))
  · exact (tR_fits oa ob fa fb h0).mono (Int.le_refl _) (by omega)
theorem tNr_ok {ta tb : Bool × Nat × Int} (oa : Ok ta) (ob : Ok tb) (fa : Fits (-1074) 1025 ta.2.1 ta.2.2) (fb : Fits (-1074) 1025 tb.2.1 tb.2.2) (h0 : tb.2.1 ≠ 0) : Ok (tNr ta tb) := by
  unfold tNr
  split
  · exact tQ1_ok oa ob fa fb h0
  · exact tQ_ok oa ob fa fb h0
theorem tNr_fits {ta tb : Bool × Nat × Int} (oa : Ok ta) (ob : Ok tb) (fa : Fits (-1074) 1025 ta.2.1 ta.2.2) (fb : Fits (-1074) 1025 tb.2.1 tb.2.2) (h0 : tb.2.1 ≠ 0) : Fits 0 2101 (tNr ta tb).2.1 (tNr ta tb).2.2 := by
  unfold tNr
  split
  · exact tQ1_fits oa ob fa fb h0
  · exact (tQ_fits' oa ob fa fb h0).mono (Int.le_refl _) (by omega)
theorem tNrP_ok {ta tb : Bool × Nat × Int} (oa : Ok ta) (ob : Ok tb) (fa : Fits (-1074) 1025 ta.2.1 ta.2.2) (fb : Fits (-1074) 1025 tb.2.1 tb.2.2) (h0 : tb.2.1 ≠ 0) : Ok (tP (tNr ta tb) tb) :=
  ok_cn ((Fits.mul (tNr_fits oa ob fa fb h0) fb).ok (by omega) (by omega) (by omega))
def drestF (a b : Nat) : Nat :=
  if isNaN a || isNaN b || Ie.isInf a || decide (mag b = 0) then 9221120237041090560
  else if Ie.isInf b then a
  else if (tL (tF a) (tF b)).2.1 = 0 then sig (neg a) 0 else rsF a b
theorem drest (a b : Nat) (ha : a < 18446744073709551616) (hb : b < 18446744073709551616) (w : World) :
    Calls Tryz.prog 8 #[.float .f64 a, .float .f64 b] w fun r w' => r = .returned (.float .f64 (drestF a b)) ∧ Below w.heap.size w w' := by
  have hzb : ∀ W, Calls Tryz.prog 33 #[.float .f64 b] W fun r w' => r = .returned (.bool (decide (mag b = 0))) ∧ w' = W := fun W => by
    have k := Ie.diszero b hb W
    rw [show ((mag b : Int) == 0) = decide (mag b = 0) by rw [Bool.eq_iff_iff]; simp] at k
    exact k
  unfold drestF
  by_cases hc : (isNaN a || isNaN b || Ie.isInf a || decide (mag b = 0)) = true
  · rw [if_pos hc]
    exact rrest_no a b w _ _ _ _ hc (Ie.dnan a ha) (Ie.dnan b hb) (Ie.dinf a ha) hzb
  · rw [if_neg hc]
    have hc' : (isNaN a || isNaN b || Ie.isInf a || decide (mag b = 0)) = false := by simpa using hc
    simp only [Bool.or_eq_false_iff] at hc'
    obtain ⟨⟨⟨e1, e2⟩, e3⟩, e4⟩ := hc'
    have k1 := Ie.dnan a ha
    have k2 := Ie.dnan b hb
    have k3 := Ie.dinf a ha
    rw [e1] at k1
    rw [e2] at k2
    rw [e3] at k3
    rw [e4] at hzb
    have k5 := Ie.dinf b hb
    by_cases hi : Ie.isInf b = true
    · rw [if_pos hi]
      rw [hi] at k5
      exact rrest_inf a b w k1 k2 k3 hzb k5
    · rw [if_neg hi]
      rw [show Ie.isInf b = false by simpa using hi] at k5
      have b0 : mag b ≠ 0 := by simpa using e4
      have f0 := tF_ne b0
      have ol := tL_ok (tF_ok a) (tF_ok b) (tF_fits a) (tF_fits b) f0
      obtain ⟨l1, l2, l3, -, l5⟩ := ol.facts
      refine rrest_fin a b (sig (neg a) 0) _ (neg a) (tF a) (tF b) (tNr (tF a) (tF b)) (tP (tNr (tF a) (tF b)) (tF b)) (tL (tF a) (tF b)) w k1 k2 k3 hzb k5 (float_dn a ha w) (float_dn b hb)
        (fun W X Y _ p q => near_dn (tF_ok a) (tF_ok b) (tF_fits a) (tF_fits b) f0 p q)
        (fun W X Y _ p q => times_dn (tNr_ok (tF_ok a) (tF_ok b) (tF_fits a) (tF_fits b) f0) (tF_ok b) p q)
        (fun W X Y _ p q => ?_) (Ie.dneg a ha) (Ie.dnought (neg a)) (fun W X _ p => dR p l5 (by omega) (by omega) (by omega) (by omega))
      rw [← nr_left (tF_ok a) (tF_ok b) (tF_fits a) (tF_fits b) f0]
      exact less_dn (tF_ok a) (tNrP_ok (tF_ok a) (tF_ok b) (tF_fits a) (tF_fits b) f0) p q
theorem join_FRest (a b : Nat) (ha : a < 18446744073709551616) (hb : b < 18446744073709551616) :
    ∃ X, X < 18446744073709551616 ∧
      (∀ W, Tab32 W → Ie.Tab W → Calls Tryz.prog 7 #[.float .f64 a, .float .f64 b] W fun r w' => OutF2 W X r w') ∧
      (∀ W, Calls Tryz.prog 8 #[.float .f64 a, .float .f64 b] W fun r w' => OutD W X r w') := by
  have key : lk (restF a b) (drestF a b) ∧ drestF a b < 18446744073709551616 := by
    unfold restF drestF
    by_cases hc : (isNaN a || isNaN b || Ie.isInf a || decide (mag b = 0)) = true
    · rw [if_pos hc, if_pos hc]
      exact ⟨lk.nan (by decide) (by decide) (by decide), by decide⟩
    · rw [if_neg hc, if_neg hc]
      have hc' : (isNaN a || isNaN b || Ie.isInf a || decide (mag b = 0)) = false := by simpa using hc
      simp only [Bool.or_eq_false_iff] at hc'
      obtain ⟨⟨⟨e1, e2⟩, e3⟩, e4⟩ := hc'
      by_cases hi : Ie.isInf b = true
      · rw [if_pos hi, if_pos hi]
        exact ⟨lk.refl ha, ha⟩
      · rw [if_neg hi, if_neg hi]
        have b0 : mag b ≠ 0 := by simpa using e4
        have f0 := tF_ne b0
        have hf := tL_fits (tF_ok a) (tF_ok b) (tF_fits a) (tF_fits b) f0
        have hz : rsF a b < 18446744073709551616 := tfF_lt (by omega)
        by_cases h0 : (tL (tF a) (tF b)).2.1 = 0
        · have e : mag (rsF a b) = 0 ∧ isNaN (rsF a b) = false := by
            have : mag (rsF a b) = 0 := by
              unfold rsF
              rw [h0, tf_bdy (by omega), (mag_sig (bdy_le _ _ _)).1]
              rfl
            exact ⟨this, by unfold isNaN; rw [this]; rfl⟩
          rw [if_pos e.1, if_pos h0]
          have hw : withF (rsF a b) a = sig (neg a) 0 := by
            unfold withF
            rw [e.2, e1, e.1]
            rfl
          rw [hw]
          have := (mag_sig (s := neg a) (b := 0) (by omega)).2.2
          exact ⟨lk.refl this, this⟩
        · have he : -1074 ≤ (tL (tF a) (tF b)).2.2 := by
            rcases hf with hf | ⟨hf, -, -⟩
            · exact absurd hf h0
            · exact hf
          have hm : mag (rsF a b) ≠ 0 := rs_ne h0 he
          rw [if_neg hm, if_neg h0]
          exact ⟨lk.refl hz, hz⟩
  refine ⟨drestF a b, key.2, fun W hT hI => ?_, fun W => drest a b ha hb W⟩
  refine (prest a b ha hb W hT hI).mono ?_
  rintro r w' ⟨rfl, hw⟩
  exact ⟨_, rfl, key.1, hw⟩
end Go.Proofs.YtbpeijejanhihaaGreatDoor
/- Floats made whole: what is cut, and the float that it is written as. -/
namespace Go.Fl64
set_option linter.unusedVariables false
set_option linter.unusedSimpArgs false
theorem log2_shl {n k : Nat} (h : n ≠ 0) : (n * 2 ^ k).log2 = n.log2 + k := by
  have hp := Nat.two_pow_pos k
  have hn : n * 2 ^ k ≠ 0 := Nat.mul_ne_zero h (by omega)
  rw [Nat.log2_eq_iff hn]
  have h1 := (Nat.log2_eq_iff h).1 rfl
  refine ⟨?_, ?_⟩
  · rw [Nat.pow_add]; exact Nat.mul_le_mul_right _ h1.1
  · rw [show n.log2 + k + 1 = n.log2 + 1 + k by omega, Nat.pow_add]; exact Nat.mul_lt_mul_of_pos_right h1.2 hp
theorem cut_scale (way : Ieee.Toward) (s : Bool) {n k d : Nat} (h : n ≠ 0) : way.cut s (n * 2 ^ k) (d + k) = way.cut s n d := by
  have hp := Nat.two_pow_pos k
  unfold Ieee.Toward.cut
  simp only [log2_shl h, Nat.one_shiftLeft]
  rw [show min (d + k) (n.log2 + k + 2) = min d (n.log2 + 2) + k by omega, Nat.pow_add]
  generalize 2 ^ min d (n.log2 + 2) = g
  have e1 : n * 2 ^ k / (g * 2 ^ k) = n / g := Nat.mul_div_mul_right _ _ hp
  have e2 : n * 2 ^ k % (g * 2 ^ k) = n % g * 2 ^ k := Nat.mul_mod_mul_right _ _ _
  rw [e1, e2]
  generalize n % g = r
  have c1 : (g * 2 ^ k < 2 * (r * 2 ^ k)) = (g < 2 * r) := by
    rw [← Nat.mul_assoc]
    exact propext ⟨fun h => Nat.lt_of_mul_lt_mul_right h, fun h => Nat.mul_lt_mul_of_pos_right h hp⟩
  have c2 : (g * 2 ^ k == 2 * (r * 2 ^ k)) = (g == 2 * r) := by
    rw [← Nat.mul_assoc]
    by_cases h : g = 2 * r
    · rw [h, beq_self_eq_true, beq_self_eq_true]
    · have : g * 2 ^ k ≠ 2 * r * 2 ^ k := fun e => h (Nat.eq_of_mul_eq_mul_right hp e)
      rw [beq_eq_false_iff_ne.2 this, beq_eq_false_iff_ne.2 h]
  have c3 : (r * 2 ^ k != 0) = (r != 0) := by
    by_cases h : r = 0
    · rw [h, Nat.zero_mul]
    · have h3 : r * 2 ^ k ≠ 0 := Nat.mul_ne_zero h (by omega)
      rw [bne_iff_ne.2 h3, bne_iff_ne.2 h]
  cases way <;> simp only [c1, c2, c3]
end Go.Fl64
namespace Go.Proofs.YtbpeijejanhihaaGreatDoor
set_option linter.unusedVariables false
set_option linter.unusedSimpArgs false
open Go.RowKit Go.Fl64
open Ie
theorem word_sig (s : Bool) (n : Nat) : Ieee.double.word s n = sig s n := by
  have hs : Ieee.double.signWeight = 9223372036854775808 := by decide
  unfold Ieee.Format.word sig
  rw [hs]
  cases s
  · rfl
  · simp only [if_true]; omega
theorem cut_rnd (s : Bool) {n d : Nat} (h : n ≠ 0) : Ieee.Toward.even.cut s n d = rnd n d 1 := by
  have h1 := (Nat.log2_eq_iff h).1 rfl
  rw [show rnd n d 1 = rnd n d ((1 : Nat) : Int) from rfl, rnd1]
  unfold Ieee.Toward.cut
  simp only [Nat.one_shiftLeft]
  rcases Nat.le_total d (n.log2 + 2) with hd | hd
  · rw [Nat.min_eq_left hd]
    generalize n % 2 ^ d = r
    generalize n / 2 ^ d = l
    generalize 2 ^ d = g
    by_cases c1 : 2 * r < g
    · have : ¬ g < 2 * r := by omega
      have c3 : (g == 2 * r) = false := beq_eq_false_iff_ne.2 (by omega)
      rw [if_pos c1]
      simp [this, c3]
    · rw [if_neg c1]
      by_cases c2 : 2 * r = g
      · have : ¬ g < 2 * r := by omega
        have c3 : (g == 2 * r) = true := by rw [c2]; simp
        rw [if_pos c2]
        simp only [this, c3, decide_false, Bool.false_or, Bool.true_and]
        rcases (show l % 2 = 0 ∨ l % 2 = 1 by omega) with h | h <;> rw [h] <;> rfl
      · have : g < 2 * r := by omega
        rw [if_neg c2]
        simp [this]
  · have hp : 2 ^ (n.log2 + 2) ≤ 2 ^ d := Nat.pow_le_pow_right (by decide) hd
    have e1 : 2 ^ (n.log2 + 2) = 2 * 2 ^ (n.log2 + 1) := by rw [show n.log2 + 2 = n.log2 + 1 + 1 by omega, Nat.pow_succ]; omega
    rw [Nat.min_eq_right hd, Nat.mod_eq_of_lt (a := n) (b := 2 ^ (n.log2 + 2)) (by omega), Nat.div_eq_of_lt (a := n) (b := 2 ^ (n.log2 + 2)) (by omega), Nat.mod_eq_of_lt (a := n) (b := 2 ^ d) (by omega), Nat.div_eq_of_lt (a := n) (b := 2 ^ d) (by omega)]
    have c0 : ¬ 2 ^ (n.log2 + 2) < 2 * n := by omega
    have c3 : (2 ^ (n.log2 + 2) == 2 * n) = false := beq_eq_false_iff_ne.2 (by omega)
    rw [if_pos (show 2 * n < 2 ^ d by omega)]
    simp [c0, c3]
theorem tf_near {s : Bool} {x : Nat} {e : Int} (h : x ≠ 0) : Ieee.double.nearest s x e = tfF s true x e 2 := by
  have hb : Ieee.double.binade = 4503599627370496 := by decide
  have hi : Ieee.double.infRung = 9218868437227405312 := by decide
  have hl : Ieee.double.leastPlace = -1074 := by decide
  have hf : Ieee.double.fractionBits = 52 := by decide
  have hlog := (Nat.log2_eq_iff h).1 rfl
  rw [tf_bdy (by omega), show wyN s 2 = 1 from rfl]
  unfold Ieee.Format.nearest
  rw [if_neg h, word_sig]
  simp only [hb, hi, hl, hf]
  congr 1
  have key : rwb x e 1 = (max (e + (x.log2 : Int) - ((52 : Nat) : Int)) (-1074) - -1074).toNat * 4503599627370496 + Ieee.Toward.even.cut s (x <<< (e - max (e + (x.log2 : Int) - ((52 : Nat) : Int)) (-1074)).toNat) (max (e + (x.log2 : Int) - ((52 : Nat) : Int)) (-1074) - e).toNat := by
    obtain ⟨L, hL⟩ : ∃ L : Int, max (e + (x.log2 : Int) - ((52 : Nat) : Int)) (-1074) = L := ⟨_, rfl⟩
    rw [hL]
    rcases Int.le_total L e with hle | hle
    · have hx : x <<< (e - L).toNat ≠ 0 := by rw [Nat.shiftLeft_eq]; exact Nat.mul_ne_zero h (by have := Nat.two_pow_pos (e - L).toNat; omega)
      rw [show (L - e).toNat = 0 by omega, cut_rnd s hx, Nat.shiftLeft_eq]
      have h2 : x * 2 ^ (e - L).toNat < 9007199254740992 := by
        have : x * 2 ^ (e - L).toNat < 2 ^ (x.log2 + 1) * 2 ^ (e - L).toNat := Nat.mul_lt_mul_of_pos_right hlog.2 (Nat.two_pow_pos _)
        rw [← Nat.pow_add] at this
        exact Nat.lt_of_lt_of_le this (Nat.le_trans (Nat.pow_le_pow_right (by decide) (show x.log2 + 1 + (e - L).toNat ≤ 53 by omega)) (by decide))
      have h3 : L = -1074 ∨ 4503599627370496 ≤ x * 2 ^ (e - L).toNat := by
        by_cases hm : L = -1074
        · exact .inl hm
        · right
          have : 2 ^ x.log2 * 2 ^ (e - L).toNat ≤ x * 2 ^ (e - L).toNat := Nat.mul_le_mul_right _ hlog.1
          rw [← Nat.pow_add] at this
          exact Nat.le_trans (Nat.le_trans (by decide) (Nat.pow_le_pow_right (by decide) (show 52 ≤ x.log2 + (e - L).toNat by omega))) this
      have := (isR_up (x := x) (E := e) (e' := L) hle (by omega) h2 h3).rwb h (way := 1) (by omega)
      rw [this]
      congr 2
    · rw [show (e - L).toNat = 0 by omega, Nat.shiftLeft_zero, cut_rnd s h]
      have hd : x / 2 ^ (L - e).toNat < 9007199254740992 := by
        refine Nat.div_lt_of_lt_mul ?_
        rw [show (9007199254740992 : Nat) = 2 ^ 53 from rfl, ← Nat.pow_add]
        exact Nat.lt_of_lt_of_le hlog.2 (Nat.pow_le_pow_right (by decide) (by omega))
      have h3 : L = -1074 ∨ 4503599627370496 ≤ x / 2 ^ (L - e).toNat := by
        by_cases hm : L = -1074
        · exact .inl hm
        · right
          refine (Nat.le_div_iff_mul_le (Nat.two_pow_pos _)).2 ?_
          rw [show (4503599627370496 : Nat) = 2 ^ 52 from rfl, ← Nat.pow_add]
          exact Nat.le_trans (Nat.pow_le_pow_right (by decide) (by omega)) hlog.1
      have := (isR_down (x := x) (E := e) (e' := L) hle (by omega) hd h3).rwb h (way := 1) (by omega)
      rw [this]
      congr 2
  rw [← key]
  unfold bdy
  rw [if_neg h]
  split
  · rw [Nat.min_eq_left (by omega)]
  · rw [if_neg (by decide), Nat.min_eq_right (by omega)]
def cutW (way : Ieee.Toward) (a D : Nat) : Nat := way.cut (neg a) (val (mag a)) D
theorem read_whole (way : Ieee.Toward) {a D : Nat} (hD : D = 1074) (ha : a < 18446744073709551616) (hf : mag a < 9218868437227405312) (h0 : mag a ≠ 0) :
    Ieee.double.write ((Ieee.double.read a).integral way) = if cutW way a D = 0 then sig (neg a) 0 else tfF (neg a) true (cutW way a D) 0 2 := by
  obtain ⟨m, k, e1, e2⟩ := read_number a ha hf
  have hm : m ≠ 0 := fun h => h0 ((num_nought e2).1 h)
  have hc : way.cut (neg a) (m <<< (-1074 + (k : Int)).toNat) (-(-1074 + (k : Int))).toNat = cutW way a D := by
    unfold cutW
    rw [← e2]
    rcases Nat.le_total D k with h | h
    · obtain ⟨i, rfl⟩ : ∃ i, k = i + D := ⟨k - D, by omega⟩
      have hi : m * 2 ^ i ≠ 0 := Nat.mul_ne_zero hm (by have := Nat.two_pow_pos i; omega)
      have := cut_scale way (neg a) (n := m * 2 ^ i) (k := D) (d := 0) hi
      rw [Nat.zero_add] at this
      rw [show (-1074 + ((i + D : Nat) : Int)).toNat = i by omega, show (-(-1074 + ((i + D : Nat) : Int))).toNat = 0 by omega, Nat.shiftLeft_eq, Nat.pow_add, ← Nat.mul_assoc, this]
    · obtain ⟨i, rfl⟩ : ∃ i, D = i + k := ⟨D - k, by omega⟩
      rw [show (-1074 + (k : Int)).toNat = 0 by omega, show (-(-1074 + (k : Int))).toNat = i by omega, Nat.shiftLeft_zero, cut_scale way (neg a) hm]
  rw [e1]
  simp only [Ieee.Datum.integral, hc]
  show Ieee.double.nearest (neg a) (cutW way a D) 0 = _
  by_cases hz : cutW way a D = 0
  · rw [if_pos hz, hz]
    unfold Ieee.Format.nearest
    rw [if_pos rfl, word_sig]
  · rw [if_neg hz]
    exact tf_near hz
theorem cut_down (s : Bool) {n d : Nat} (h : n ≠ 0) : Ieee.Toward.down.cut s n d = n / 2 ^ d + (if s = true ∧ n % 2 ^ d ≠ 0 then 1 else 0) := by
  have h1 := (Nat.log2_eq_iff h).1 rfl
  unfold Ieee.Toward.cut
  simp only [Nat.one_shiftLeft]
  rcases Nat.le_total d (n.log2 + 2) with hd | hd
  · rw [Nat.min_eq_left hd]
    generalize n % 2 ^ d = r
    cases s
    · simp
    · by_cases hr : r = 0
      · simp [hr]
      · simp [hr]
  · have hp : 2 ^ (n.log2 + 2) ≤ 2 ^ d := Nat.pow_le_pow_right (by decide) hd
    have e1 : 2 ^ (n.log2 + 2) = 2 * 2 ^ (n.log2 + 1) := by rw [show n.log2 + 2 = n.log2 + 1 + 1 by omega, Nat.pow_succ]; omega
    rw [Nat.min_eq_right hd, Nat.mod_eq_of_lt (a := n) (b := 2 ^ (n.log2 + 2)) (by omega), Nat.div_eq_of_lt (a := n) (b := 2 ^ (n.log2 + 2)) (by omega), Nat.mod_eq_of_lt (a := n) (b := 2 ^ d) (by omega), Nat.div_eq_of_lt (a := n) (b := 2 ^ d) (by omega)]
    cases s <;> simp [h]
theorem cut_up (s : Bool) {n d : Nat} (h : n ≠ 0) : Ieee.Toward.up.cut s n d = n / 2 ^ d + (if s = false ∧ n % 2 ^ d ≠ 0 then 1 else 0) := by
  have h1 := (Nat.log2_eq_iff h).1 rfl
  unfold Ieee.Toward.cut
  simp only [Nat.one_shiftLeft]
  rcases Nat.le_total d (n.log2 + 2) with hd | hd
  · rw [Nat.min_eq_left hd]
    generalize n % 2 ^ d = r
    cases s
    · by_cases hr : r = 0
      · simp [hr]
      · simp [hr]
    · simp
  · have hp : 2 ^ (n.log2 + 2) ≤ 2 ^ d := Nat.pow_le_pow_right (by decide) hd
    have e1 : 2 ^ (n.log2 + 2) = 2 * 2 ^ (n.log2 + 1) := by rw [show n.log2 + 2 = n.log2 + 1 + 1 by omega, Nat.pow_succ]; omega
    rw [Nat.min_eq_right hd, Nat.mod_eq_of_lt (a := n) (b := 2 ^ (n.log2 + 2)) (by omega), Nat.div_eq_of_lt (a := n) (b := 2 ^ (n.log2 + 2)) (by omega), Nat.mod_eq_of_lt (a := n) (b := 2 ^ d) (by omega), Nat.div_eq_of_lt (a := n) (b := 2 ^ d) (by omega)]
    cases s <;> simp [h]
end Go.Proofs.YtbpeijejanhihaaGreatDoor
namespace Go.Proofs.YtbpeijejanhihaaGreatDoor
set_option linter.unusedVariables false
set_option linter.unusedSimpArgs false
open Go.RowKit Go.Fl64
def toW (way : Ieee.Toward) (a : Nat) : Nat := Ieee.double.write ((Ieee.double.read a).integral way)
theorem toI_def (name : String) (way : Ieee.Toward) (a : Nat) : ∃ q : Question, Extern.MathFloor.toIntegral name way #[.float .f64 a] =
    (match Ieee.double.read a with
    | .nan s t => if Ieee.double.quiet t = t then pure (.float .f64 a) else do
      let kept ← choose q
      pure (.float .f64 (if kept == 1 then a else Ieee.double.write (.nan s (Ieee.double.quiet t))))
    | d => pure (.float .f64 (Ieee.double.write (d.integral way)))) ∧ q.forced = false := ⟨_, rfl, rfl⟩
theorem toI_num {P : Program} (name : String) (way : Ieee.Toward) {a : Nat} (ha : a < 18446744073709551616) (hn : isNaN a = false) (w : World) :
    (Extern.MathFloor.toIntegral name way #[.float .f64 a]).run P w = .ok (.float .f64 (toW way a)) w := by
  obtain ⟨q, hq0, -⟩ := toI_def name way a
  rw [hq0]
  unfold toW
  rcases cases3 a with h | h | h
  · obtain ⟨m, k, e1, -⟩ := read_number a ha h
    rw [e1]
    rfl
  · rw [read_infinity a ha h]
    rfl
  · rw [nan_of h] at hn; cases hn
theorem nan_write (s : Bool) {f : Nat} (h1 : f % 4503599627370496 ≠ 0) : isNaN (Ieee.double.write (.nan s f)) = true ∧ Ieee.double.write (.nan s f) < 18446744073709551616 := by
  have hb : Ieee.double.binade = 4503599627370496 := by decide
  have hi : Ieee.double.infRung = 9218868437227405312 := by decide
  have hs : Ieee.double.signWeight = 9223372036854775808 := by decide
  have hlt := Nat.mod_lt f (show 0 < 4503599627370496 by omega)
  show isNaN (Ieee.double.word s (Ieee.double.infRung + f % Ieee.double.binade)) = true ∧ Ieee.double.word s (Ieee.double.infRung + f % Ieee.double.binade) < _
  rw [hb, hi]
  unfold Ieee.Format.word
  rw [hs]
  unfold isNaN mag
  cases s
  · simp only [Bool.false_eq_true, if_false]
    exact ⟨decide_eq_true (by omega), by omega⟩
  · simp only [if_true]
    exact ⟨decide_eq_true (by omega), by omega⟩
theorem toI_nan {P : Program} (name : String) (way : Ieee.Toward) {a : Nat} (ha : a < 18446744073709551616) (hn : isNaN a = true) (w : World) :
    ∃ n W, (Extern.MathFloor.toIntegral name way #[.float .f64 a]).run P w = .ok (.float .f64 n) W ∧ (W = w ∨ W = w.drew) ∧ isNaN n = true ∧ n < 18446744073709551616 := by
  have h : 9218868437227405312 < mag a := by unfold isNaN at hn; simpa using hn
  obtain ⟨s, t, e1⟩ := read_nan a h
  obtain ⟨qq, hq0, hq1⟩ := toI_def name way a
  rw [hq0, e1]
  simp only
  by_cases hq : Ieee.double.quiet t = t
  · rw [if_pos hq]
    exact ⟨a, w, rfl, .inl rfl, hn, ha⟩
  · rw [if_neg hq]
    have hqn : (Ieee.double.quiet t) % 4503599627370496 ≠ 0 := by
      have : Ieee.double.quiet t = t ||| 2251799813685248 := rfl
      rw [this]
      intro h0
      have hb : ((t ||| 2251799813685248) % 2 ^ 52).testBit 51 = true := by
        rw [Nat.testBit_mod_two_pow, Nat.testBit_or, show (2251799813685248 : Nat) = 2 ^ 51 from rfl, Nat.testBit_two_pow]
        simp
      rw [show (2 : Nat) ^ 52 = 4503599627370496 from rfl, h0] at hb
      simp at hb
    obtain ⟨n1, n2⟩ := nan_write s hqn
    by_cases hk : (qq.cut (w.tape w.drawn qq) == 1) = true
    · refine ⟨a, w.drew, ?_, .inr rfl, hn, ha⟩
      simp [hq1]
      exact fun h' => absurd (by simpa using hk) h'
    · refine ⟨_, w.drew, ?_, .inr rfl, n1, n2⟩
      simp [hq1]
      exact fun h' => absurd (by simpa using h') hk
def Wr (way : Ieee.Toward) (a : Nat) (w : World) (n : Nat) (W : World) : Prop := (W = w ∨ W = w.drew) ∧ n < 18446744073709551616 ∧ (isNaN a = true → isNaN n = true) ∧ (isNaN a = false → n = toW way a)
theorem toW_lt (way : Ieee.Toward) (a : Nat) : toW way a < 18446744073709551616 := FloatKind.f64.format.write_lt _
theorem run_down (a : Nat) (ha : a < 18446744073709551616) (w : World) : ∃ n W, (callFunc 42 #[.float .f64 a]).run Tryz.prog w = .ok (.value (.float .f64 n)) W ∧ Wr .down a w n W := by
  have h := run_callFunc_extern Tryz.func42 (e := Extern.MathFloor.toIntegral "math.archFloor" .down) (by kernel_rfl) (by kernel_rfl) (by kernel_rfl) (by kernel_rfl) #[.float .f64 a] w
  cases hn : isNaN a
  · rw [toI_num _ _ ha hn] at h
    exact ⟨_, _, h, .inl rfl, toW_lt _ _, fun h => (by cases hn.symm.trans h), fun _ => rfl⟩
  · obtain ⟨n, W, e1, e2, e3, e4⟩ := toI_nan (P := Tryz.prog) "math.archFloor" .down ha hn w
    rw [e1] at h
    exact ⟨_, _, h, e2, e4, fun _ => e3, fun h => by cases hn.symm.trans h⟩
theorem run_up (a : Nat) (ha : a < 18446744073709551616) (w : World) : ∃ n W, (callFunc 44 #[.float .f64 a]).run Tryz.prog w = .ok (.value (.float .f64 n)) W ∧ Wr .up a w n W := by
  have h := run_callFunc_extern Tryz.func44 (e := Extern.MathFloor.toIntegral "math.archCeil" .up) (by kernel_rfl) (by kernel_rfl) (by kernel_rfl) (by kernel_rfl) #[.float .f64 a] w
  cases hn : isNaN a
  · rw [toI_num _ _ ha hn] at h
    exact ⟨_, _, h, .inl rfl, toW_lt _ _, fun h => (by cases hn.symm.trans h), fun _ => rfl⟩
  · obtain ⟨n, W, e1, e2, e3, e4⟩ := toI_nan (P := Tryz.prog) "math.archCeil" .up ha hn w
    rw [e1] at h
    exact ⟨_, _, h, e2, e4, fun _ => e3, fun h => by cases hn.symm.trans h⟩
theorem run_even (a : Nat) (ha : a < 18446744073709551616) (w : World) : ∃ n W, (callFunc 13 #[.float .f64 a]).run Tryz.prog w = .ok (.value (.float .f64 n)) W ∧ Wr .even a w n W := by
  have h := run_callFunc_extern Tryz.func13 (e := Extern.MathFloor.toIntegral "math.RoundToEven" .even) (by kernel_rfl) (by kernel_rfl) (by kernel_rfl) (by kernel_rfl) #[.float .f64 a] w
  cases hn : isNaN a
  · rw [toI_num _ _ ha hn] at h
    exact ⟨_, _, h, .inl rfl, toW_lt _ _, fun h => (by cases hn.symm.trans h), fun _ => rfl⟩
  · obtain ⟨n, W, e1, e2, e3, e4⟩ := toI_nan (P := Tryz.prog) "math.RoundToEven" .even ha hn w
    rw [e1] at h
    exact ⟨_, _, h, e2, e4, fun _ => e3, fun h => by cases hn.symm.trans h⟩
set_option maxRecDepth 200000 in
theorem pfloor (a : Nat) (ha : a < 18446744073709551616) (w : World) : ∃ n W, Wr .down a w n W ∧ Calls Tryz.prog 12 #[.float .f64 a] w fun r w' => r = .returned (.float .f64 n) ∧ w' = W := by
  obtain ⟨n, W, hr, hW⟩ := run_down a ha w
  refine ⟨n, W, hW, ?_⟩
  clear hW
  go_enter Tryz.func12, Tryz.ntmps12
  go_wp2
  go_ret
  exact ⟨rfl, rfl⟩
set_option maxRecDepth 200000 in
theorem pceil (a : Nat) (ha : a < 18446744073709551616) (w : World) : ∃ n W, Wr .up a w n W ∧ Calls Tryz.prog 14 #[.float .f64 a] w fun r w' => r = .returned (.float .f64 n) ∧ w' = W := by
  obtain ⟨n, W, hr, hW⟩ := run_up a ha w
  refine ⟨n, W, hW, ?_⟩
  clear hW
  go_enter Tryz.func14, Tryz.ntmps14
  go_wp2
  go_ret
  exact ⟨rfl, rfl⟩
def wayM (m : Int) : Ieee.Toward := if m = 1 then .down else if m = 2 then .even else .up
set_option maxRecDepth 200000 in
theorem pwhole_n (a : Nat) (ha : a < 18446744073709551616) (m : Int) (hm : isM m = true) (w : World) : ∃ n W, Wr (wayM m) a w n W ∧ Calls Tryz.prog 5 #[.float .f64 a, .int .i64 m] w fun r w' => r = .returned (.float .f64 (withF n a)) ∧ w' = W := by
  have kn := Ie.c52 w
  rcases (show m = 1 ∨ m = 2 ∨ m = 3 by have := isM_iff.1 hm; omega) with rfl | rfl | rfl
  · obtain ⟨n, W, hW, k⟩ := pfloor a ha w
    have kw := pwith n a hW.2.1 ha W
    refine ⟨n, W, hW, ?_⟩
    clear hW hm ha
    go_enter Tryz.func5, Tryz.ntmps5
    go_wp2_with fail
    refine kn.mono ?_
    rintro r w' ⟨rfl, hw⟩
    rw [hw]
    clear hw kn w'
    go_wp2_with fail
    refine k.mono ?_
    rintro r w' ⟨rfl, hw⟩
    rw [hw]
    clear hw k w'
    go_wp2_with fail
    refine kw.mono ?_
    rintro r w' ⟨rfl, hw⟩
    rw [hw]
    clear hw kw w'
    go_wp2_with fail
    go_ret
    exact ⟨rfl, rfl⟩
  · obtain ⟨n, W, hr, hW⟩ := run_even a ha w
    have kw := pwith n a hW.2.1 ha W
    refine ⟨n, W, hW, ?_⟩
    clear hW hm ha
    go_enter Tryz.func5, Tryz.ntmps5
    go_wp2_with fail
    refine kn.mono ?_
    rintro r w' ⟨rfl, hw⟩
    rw [hw]
    clear hw kn w'
    go_wp2_with fail
    refine kw.mono ?_
    rintro r w' ⟨rfl, hw⟩
    rw [hw]
    clear hw kw w'
    go_wp2_with fail
    go_ret
    exact ⟨rfl, rfl⟩
  · obtain ⟨n, W, hW, k⟩ := pceil a ha w
    have kw := pwith n a hW.2.1 ha W
    refine ⟨n, W, hW, ?_⟩
    clear hW hm ha
    go_enter Tryz.func5, Tryz.ntmps5
    go_wp2_with fail
    refine kn.mono ?_
    rintro r w' ⟨rfl, hw⟩
    rw [hw]
    clear hw kn w'
    go_wp2_with fail
    refine k.mono ?_
    rintro r w' ⟨rfl, hw⟩
    rw [hw]
    clear hw k w'
    go_wp2_with fail
    refine kw.mono ?_
    rintro r w' ⟨rfl, hw⟩
    rw [hw]
    clear hw kw w'
    go_wp2_with fail
    go_ret
    exact ⟨rfl, rfl⟩
theorem pwhole_no (a : Nat) (ha : a < 18446744073709551616) (m : Int) (hm : isM m = false) (w : World) : Calls Tryz.prog 5 #[.float .f64 a, .int .i64 m] w fun r w' => r = .returned (.float .f64 9221120237041090561) ∧ w' = w := by
  have kn := Ie.c52 w
  have kw := pwith 9221120237041090561 a (by decide) ha w
  rw [show withF 9221120237041090561 a = 9221120237041090561 by unfold withF; rw [if_pos (by decide)]] at kw
  have e1 : (m == 1) = false := by unfold isM at hm; simp at hm; simpa using hm.1.1
  have e2 : (m == 2) = false := by unfold isM at hm; simp at hm; simpa using hm.1.2
  have e3 : (m == 3) = false := by unfold isM at hm; simp at hm; simpa using hm.2
  clear hm ha
  go_enter Tryz.func5, Tryz.ntmps5
  go_wp2_with fail
  refine kn.mono ?_
  rintro r w' ⟨rfl, hw⟩
  rw [hw]
  clear hw kn w'
  go_wp2_with fail
  refine kw.mono ?_
  rintro r w' ⟨rfl, hw⟩
  rw [hw]
  clear hw kw w'
  go_wp2_with fail
  go_ret
  exact ⟨rfl, rfl⟩
end Go.Proofs.YtbpeijejanhihaaGreatDoor
