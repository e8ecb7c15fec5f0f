/- Own work: contracts of the program's functions, part 14: RW7 RW8 RW9 RX1 W49 RX2 RX3. -/
import Derived.Test.YtmhpicccfaklcaaGreatDoorA13
import Derived.Test.YtmhpicccfaklcaaGreatDoorA4
import Derived.Test.YtmhpicccfaklcaaGreatDoorA5

/- The document's Quo. -/
namespace Go.Proofs.YtmhpicccfaklcaaGreatDoor
set_option linter.unusedVariables false
set_option linter.unusedSimpArgs false
open Go.RowKit

theorem rplaced (place : Int) (w : World) : Calls Tryz.prog 78 #[.int .i64 place] w fun r w' => r = .returned (.bool (decide (-65536 ≤ place) && decide (place ≤ 65536))) ∧ w' = w := by
  by_cases h1 : -65536 ≤ place
  · have hd : decide (-65536 ≤ place) = true := decide_eq_true h1
    go_enter Tryz.func78, Tryz.ntmps78
    go_wp2
    go_ret
    exact ⟨by first | rfl | (rw [hd]; rfl), rfl⟩
  · have hd : decide (-65536 ≤ place) = false := decide_eq_false h1
    go_enter Tryz.func78, Tryz.ntmps78
    go_wp2
    go_ret
    exact ⟨by first | rfl | (rw [hd]; rfl), rfl⟩
theorem rn_store3 {w : World} {base : Nat} {A : Value} {t : Bool × Nat × Int} {g : Nat} {x : Bool} {y : Option Addr} {n k : Nat} {z : Int} (h : RN w base A t) (hg : w.heap[g]? = some (.cells #[.bool x, .slice y n k, .int .i64 z] 24 (0, 0))) (a b c : Value) : RN (((w.setCell ⟨g, 0, none⟩ a).setCell ⟨g, 1, none⟩ b).setCell ⟨g, 2, none⟩ c) base A t := by
  obtain ⟨ao, cap, h1, h0, h2⟩ := h
  exact ⟨ao, cap, h1, h0, at_box h2 rfl hg (by simp) (by simp) (by simp) a b c⟩
/-- the answer of a call that answers a number, whether it is exact, and an error -/
def Ans3 (w : World) (V : Bool) (t : Bool × Nat × Int) (x : Bool) (r : Ending) (w' : World) : Prop := ∃ A, r = .returned (.tuple #[A, .bool (x && V), .int .i64 (if V then 0 else 2)]) ∧ RN w' w.heap.size A (Ans V t) ∧ Below w.heap.size w w'
set_option maxHeartbeats 4000000 in
set_option maxRecDepth 200000 in
theorem rquo_e (na nb : Bool) (ua va : Option Addr) (un uc vn vc : Nat) (ea eb place : Int) (s : Bool) (z : Nat) (e : Int) (V : Bool) (w : World) (hV : okN (cn s z e).1 (dlen (cn s z e).2.1) (cn s z e).2.1 (cn s z e).2.2 = V) (hz : dlen (cn s z e).2.1 ≤ 35184372088832) (hn1 : ((vn : Int) == 0) = false) (hp1 : -65536 ≤ place) (hp2 : place ≤ 65536) (k67 : ∀ W g, Below w.heap.size w W → W.heap[g]? = some (.cells #[.bool na, .slice ua un uc, .int .i64 ea, .bool nb, .slice va vn vc, .int .i64 eb] 24 (0, 0)) → Calls Tryz.prog 83 #[.slice (some ⟨g, 0, none⟩) 2 2] W fun r w' => r = .returned (.bool true) ∧ Below W.heap.size W w')
    (kO : ∀ W, Below w.heap.size w W → Calls Tryz.prog 84 #[.agg #[.bool na, .slice ua un uc, .int .i64 ea], .agg #[.bool nb, .slice va vn vc, .int .i64 eb], .int .i64 place] W fun r w' => ∃ A, r = .returned (.tuple #[A, .bool true]) ∧ NC w' W.heap.size A s z e ∧ Below W.heap.size W w') :
    Calls Tryz.prog 33 #[.agg #[.bool na, .slice ua un uc, .int .i64 ea], .agg #[.bool nb, .slice va vn vc, .int .i64 eb], .int .i64 place] w fun r w' => Ans3 w V (cn s z e) true r w' := by
  have HKO : Hid (∀ W, Below w.heap.size w W → Calls Tryz.prog 84 #[.agg #[.bool na, .slice ua un uc, .int .i64 ea], .agg #[.bool nb, .slice va vn vc, .int .i64 eb], .int .i64 place] W fun r w' => ∃ A, r = .returned (.tuple #[A, .bool true]) ∧ NC w' W.heap.size A s z e ∧ Below W.heap.size W w') := kO
  have HV : Hid (okN (cn s z e).1 (dlen (cn s z e).2.1) (cn s z e).2.1 (cn s z e).2.2 = V ∧ dlen (cn s z e).2.1 ≤ 35184372088832) := ⟨hV, hz⟩
  clear kO hV hz
  obtain ⟨W, hW⟩ : ∃ W, W = ((w.alloc (.cells #[.bool na, .slice ua un uc, .int .i64 ea] 24)).alloc (.cells #[.bool nb, .slice va vn vc, .int .i64 eb] 24)).alloc (.cells #[.bool false, .slice none 0 0, .int .i64 0] 24) := ⟨_, rfl⟩
  obtain ⟨hA, hBb, hC, hsz, hBW⟩ := boxes3 _ _ _ hW
  have hB4 : Below w.heap.size w (W.alloc (.cells #[.bool na, .slice ua un uc, .int .i64 ea, .bool nb, .slice va vn vc, .int .i64 eb] 24)) := hBW.alloc hBW.size _
  have k1 := k67 (W.alloc (.cells #[.bool na, .slice ua un uc, .int .i64 ea, .bool nb, .slice va vn vc, .int .i64 eb] 24)) (w.heap.size + 1 + 1 + 1) hB4 (by rw [← hsz]; exact heap_alloc_new _ _)
  have HH : Hid ((W.heap[w.heap.size]? = some (.cells #[.bool na, .slice ua un uc, .int .i64 ea] 24 (0, 0)) ∧ W.heap[w.heap.size + 1]? = some (.cells #[.bool nb, .slice va vn vc, .int .i64 eb] 24 (0, 0)) ∧ W.heap[w.heap.size + 1 + 1]? = some (.cells #[.bool false, .slice none 0 0, .int .i64 0] 24 (0, 0))) ∧ W.heap.size = w.heap.size + 1 + 1 + 1 ∧ Below w.heap.size w W ∧ Below W.heap.size W (W.alloc (.cells #[.bool na, .slice ua un uc, .int .i64 ea, .bool nb, .slice va vn vc, .int .i64 eb] 24))) := ⟨⟨hA, hBb, hC⟩, hsz, hBW, (Below.refl _ _).alloc (Nat.le_refl _) _⟩
  clear hA hBb hC hsz hBW hB4 k67
  go_enter Tryz.func33, Tryz.ntmps33
  go_wp2_with fail
  rw [← hW]
  clear hW
  refine k1.mono ?_
  rintro r w1 ⟨rfl, hB1⟩
  clear k1
  have HB1 : Hid (Below W.heap.size W w1) := HH.out.2.2.2.trans (hB1.mono HH.out.2.2.2.size)
  obtain ⟨⟨a0, a1, a2⟩, -⟩ := box_cells29 (box_later HH.out.1.1 HB1.out (by have := HH.out.2.1; omega))
  obtain ⟨⟨b0, b1, b2⟩, -⟩ := box_cells29 (box_later HH.out.1.2.1 HB1.out (by have := HH.out.2.1; omega))
  clear hB1
  have kP : Calls Tryz.prog 78 #[.int .i64 place] w1 fun r w' => r = .returned (.bool true) ∧ w' = w1 := (rplaced place w1).mono fun r w' ⟨e1, e2⟩ => ⟨by rw [e1, decide_eq_true hp1, decide_eq_true hp2]; rfl, e2⟩
  go_wp2_with fail
  refine kP.mono ?_
  rintro r w2 ⟨rfl, rfl⟩
  clear kP
  have ko := HKO.out w2 (HH.out.2.2.1.trans (HB1.out.mono HH.out.2.2.1.size))
  go_wp2_with fail
  refine ko.mono ?_
  rintro r w3 ⟨A, rfl, hN, hB3⟩
  have HB3 : Hid (Below W.heap.size W w3) := HB1.out.trans (hB3.mono HB1.out.size)
  obtain ⟨s3, ao3, n3, cap3, e3, rfl⟩ := hN.shape
  obtain ⟨w4, hw4⟩ : ∃ w4, w4 = w3.alloc (.cells #[.bool s3, .slice ao3 n3 cap3, .int .i64 e3] 24) := ⟨_, rfl⟩
  have hB34 : Below w3.heap.size w3 w4 := by rw [hw4]; exact (Below.refl _ _).alloc (Nat.le_refl _) _
  have hbox : w4.heap[w3.heap.size]? = some (.cells #[.bool s3, .slice ao3 n3 cap3, .int .i64 e3] 24 (0, 0)) := by rw [hw4]; exact heap_alloc_new _ _
  have HB4 : Hid (Below W.heap.size W w4) := HB3.out.trans (hB34.mono HB3.out.size)
  have kk := kept_rn (hN.rn.later hB34) HV.out.2 V HV.out.1
  have HBX : Hid (w4.heap[w3.heap.size]? = some (.cells #[.bool s3, .slice ao3 n3 cap3, .int .i64 e3] 24 (0, 0)) ∧ W.heap.size ≤ w3.heap.size ∧ w2.heap.size ≤ w3.heap.size ∧ w3.heap.size < w4.heap.size) := ⟨hbox, HB3.out.size, hB3.size, (Array.getElem?_eq_some_iff.1 hbox).1⟩
  obtain ⟨⟨d0, d1, d2⟩, d3, d4, d5⟩ := box_cells29 hbox
  clear ko hN hB3 hB34 hbox a0 a1 a2 b0 b1 b2
  rw [hw4] at d0 d1 d2 d3 d4 d5
  go_wp2_with fail
  rw [← hw4]
  clear hw4 d0 d1 d2 d3 d4 d5
  refine kk.mono ?_
  rintro r w5 ⟨⟨s5, ao5, n5, cap5, e5, rfl, hN5⟩, hB5⟩
  have HB5 : Hid (Below W.heap.size W w5) := HB4.out.trans (hB5.mono HB4.out.size)
  have hE0 : (((if V then (0 : Int) else 2)) == 0) = V := by cases V <;> rfl
  generalize hE : (if V then (0 : Int) else 2) = E at *
  have HE : Hid ((if V then (0 : Int) else 2) = E) := hE
  clear hE
  have HBX5 : Hid (w5.heap[w3.heap.size]? = some (.cells #[.bool s3, .slice ao3 n3 cap3, .int .i64 e3] 24 (0, 0))) := box_later HBX.out.1 hB5 HBX.out.2.2.2
  have HCz : Hid (w5.heap[w.heap.size + 1 + 1]? = some (.cells #[.bool false, .slice none 0 0, .int .i64 0] 24 (0, 0))) := box_later HH.out.1.2.2 HB5.out (by have := HH.out.2.1; omega)
  obtain ⟨⟨d0, d1, d2⟩, d3, d4, d5⟩ := box_cells29 HBX5.out
  have hne : w3.heap.size ≠ w.heap.size + 1 + 1 := by have := HBX.out.2.1; have := HH.out.2.1; omega
  obtain ⟨w6, hw6⟩ : ∃ w6, w6 = ((w5.setCell ⟨w3.heap.size, 0, none⟩ (.bool s5)).setCell ⟨w3.heap.size, 1, none⟩ (.slice ao5 n5 cap5)).setCell ⟨w3.heap.size, 2, none⟩ (.int .i64 e5) := ⟨_, rfl⟩
  have hb6 : w6.heap[w3.heap.size]? = some (.cells #[.bool s5, .slice ao5 n5 cap5, .int .i64 e5] 24 (0, 0)) := by rw [hw6]; exact store3_29 _ _ _ HBX5.out
  have hc6 : w6.heap[w.heap.size + 1 + 1]? = some (.cells #[.bool false, .slice none 0 0, .int .i64 0] 24 (0, 0)) := by
    rw [hw6, setCell_block _ _ (Ne.symm hne), setCell_block _ _ (Ne.symm hne), setCell_block _ _ (Ne.symm hne)]; exact HCz.out
  have HN6 : Hid (RN w6 w2.heap.size (.agg #[.bool s5, .slice ao5 n5 cap5, .int .i64 e5]) (Ans V (cn s z e))) := by rw [hw6]; exact rn_store3 hN5.out HBX5.out _ _ _
  have HB6 : Hid (Below W.heap.size W w6) := by rw [hw6]; exact below_store3 HB5.out HBX.out.2.1 _ _ _
  have HC6 : Hid (w6.heap[w.heap.size + 1 + 1]? = some (.cells #[.bool false, .slice none 0 0, .int .i64 0] 24 (0, 0))) := hc6
  clear kk hB5
  go_upto_region 7 with fail
  rw [← hw6]
  clear hw6 d0 d1 d2 d3 d4 d5
  obtain ⟨⟨d0, d1, d2⟩, d3, d4, d5⟩ := box_cells29 hb6
  obtain ⟨⟨c0, c1, c2⟩, c3, c4, c5⟩ := box_cells29 hc6
  clear hb6 hc6
  go_wp2
  refine bodyPost_ret (results_cell_tmp2_row rfl _ _ (w.heap.size + 1 + 1) 24 #[.bool s5, .slice ao5 n5 cap5, .int .i64 e5] (0, 0) _ rfl (store3_29 _ _ _ HC6.out) Tryz.underlying24 rfl Tryz.info24) rfl ?_
  have q1 := HH.out.2.1
  have q2 := HB1.out.size
  refine ⟨_, ?_, (rn_store HN6.out HC6.out _ _ _).mono (by omega), below_store3 (HH.out.2.2.1.trans (HB6.out.mono HH.out.2.2.1.size)) (by omega) _ _ _⟩
  rw [HE.out]
  first | rfl | (rw [Bool.true_and]; rfl)
set_option maxHeartbeats 4000000 in
set_option maxRecDepth 200000 in
theorem rquo_r (na nb : Bool) (ua va : Option Addr) (un uc vn vc : Nat) (ea eb place : Int) (s : Bool) (z : Nat) (e : Int) (V : Bool) (w : World) (hV : okN (cn s z e).1 (dlen (cn s z e).2.1) (cn s z e).2.1 (cn s z e).2.2 = V) (hz : dlen (cn s z e).2.1 ≤ 35184372088832) (hn1 : ((vn : Int) == 0) = false) (hp1 : -65536 ≤ place) (hp2 : place ≤ 65536) (k67 : ∀ W g, Below w.heap.size w W → W.heap[g]? = some (.cells #[.bool na, .slice ua un uc, .int .i64 ea, .bool nb, .slice va vn vc, .int .i64 eb] 24 (0, 0)) → Calls Tryz.prog 83 #[.slice (some ⟨g, 0, none⟩) 2 2] W fun r w' => r = .returned (.bool true) ∧ Below W.heap.size W w')
    (kO : ∀ W, Below w.heap.size w W → Calls Tryz.prog 84 #[.agg #[.bool na, .slice ua un uc, .int .i64 ea], .agg #[.bool nb, .slice va vn vc, .int .i64 eb], .int .i64 place] W fun r w' => ∃ A, r = .returned (.tuple #[A, .bool false]) ∧ NC w' W.heap.size A s z e ∧ Below W.heap.size W w') :
    Calls Tryz.prog 33 #[.agg #[.bool na, .slice ua un uc, .int .i64 ea], .agg #[.bool nb, .slice va vn vc, .int .i64 eb], .int .i64 place] w fun r w' => Ans3 w V (cn s z e) false r w' := by
  have HKO : Hid (∀ W, Below w.heap.size w W → Calls Tryz.prog 84 #[.agg #[.bool na, .slice ua un uc, .int .i64 ea], .agg #[.bool nb, .slice va vn vc, .int .i64 eb], .int .i64 place] W fun r w' => ∃ A, r = .returned (.tuple #[A, .bool false]) ∧ NC w' W.heap.size A s z e ∧ Below W.heap.size W w') := kO
  have HV : Hid (okN (cn s z e).1 (dlen (cn s z e).2.1) (cn s z e).2.1 (cn s z e).2.2 = V ∧ dlen (cn s z e).2.1 ≤ 35184372088832) := ⟨hV, hz⟩
  clear kO hV hz
  obtain ⟨W, hW⟩ : ∃ W, W = ((w.alloc (.cells #[.bool na, .slice ua un uc, .int .i64 ea] 24)).alloc (.cells #[.bool nb, .slice va vn vc, .int .i64 eb] 24)).alloc (.cells #[.bool false, .slice none 0 0, .int .i64 0] 24) := ⟨_, rfl⟩
  obtain ⟨hA, hBb, hC, hsz, hBW⟩ := boxes3 _ _ _ hW
  have hB4 : Below w.heap.size w (W.alloc (.cells #[.bool na, .slice ua un uc, .int .i64 ea, .bool nb, .slice va vn vc, .int .i64 eb] 24)) := hBW.alloc hBW.size _
  have k1 := k67 (W.alloc (.cells #[.bool na, .slice ua un uc, .int .i64 ea, .bool nb, .slice va vn vc, .int .i64 eb] 24)) (w.heap.size + 1 + 1 + 1) hB4 (by rw [← hsz]; exact heap_alloc_new _ _)
  have HH : Hid ((W.heap[w.heap.size]? = some (.cells #[.bool na, .slice ua un uc, .int .i64 ea] 24 (0, 0)) ∧ W.heap[w.heap.size + 1]? = some (.cells #[.bool nb, .slice va vn vc, .int .i64 eb] 24 (0, 0)) ∧ W.heap[w.heap.size + 1 + 1]? = some (.cells #[.bool false, .slice none 0 0, .int .i64 0] 24 (0, 0))) ∧ W.heap.size = w.heap.size + 1 + 1 + 1 ∧ Below w.heap.size w W ∧ Below W.heap.size W (W.alloc (.cells #[.bool na, .slice ua un uc, .int .i64 ea, .bool nb, .slice va vn vc, .int .i64 eb] 24))) := ⟨⟨hA, hBb, hC⟩, hsz, hBW, (Below.refl _ _).alloc (Nat.le_refl _) _⟩
  clear hA hBb hC hsz hBW hB4 k67
  go_enter Tryz.func33, Tryz.ntmps33
  go_wp2_with fail
  rw [← hW]
  clear hW
  refine k1.mono ?_
  rintro r w1 ⟨rfl, hB1⟩
  clear k1
  have HB1 : Hid (Below W.heap.size W w1) := HH.out.2.2.2.trans (hB1.mono HH.out.2.2.2.size)
  obtain ⟨⟨a0, a1, a2⟩, -⟩ := box_cells29 (box_later HH.out.1.1 HB1.out (by have := HH.out.2.1; omega))
  obtain ⟨⟨b0, b1, b2⟩, -⟩ := box_cells29 (box_later HH.out.1.2.1 HB1.out (by have := HH.out.2.1; omega))
  clear hB1
  have kP : Calls Tryz.prog 78 #[.int .i64 place] w1 fun r w' => r = .returned (.bool true) ∧ w' = w1 := (rplaced place w1).mono fun r w' ⟨e1, e2⟩ => ⟨by rw [e1, decide_eq_true hp1, decide_eq_true hp2]; rfl, e2⟩
  go_wp2_with fail
  refine kP.mono ?_
  rintro r w2 ⟨rfl, rfl⟩
  clear kP
  have ko := HKO.out w2 (HH.out.2.2.1.trans (HB1.out.mono HH.out.2.2.1.size))
  go_wp2_with fail
  refine ko.mono ?_
  rintro r w3 ⟨A, rfl, hN, hB3⟩
  have HB3 : Hid (Below W.heap.size W w3) := HB1.out.trans (hB3.mono HB1.out.size)
  obtain ⟨s3, ao3, n3, cap3, e3, rfl⟩ := hN.shape
  obtain ⟨w4, hw4⟩ : ∃ w4, w4 = w3.alloc (.cells #[.bool s3, .slice ao3 n3 cap3, .int .i64 e3] 24) := ⟨_, rfl⟩
  have hB34 : Below w3.heap.size w3 w4 := by rw [hw4]; exact (Below.refl _ _).alloc (Nat.le_refl _) _
  have hbox : w4.heap[w3.heap.size]? = some (.cells #[.bool s3, .slice ao3 n3 cap3, .int .i64 e3] 24 (0, 0)) := by rw [hw4]; exact heap_alloc_new _ _
  have HB4 : Hid (Below W.heap.size W w4) := HB3.out.trans (hB34.mono HB3.out.size)
  have kk := kept_rn (hN.rn.later hB34) HV.out.2 V HV.out.1
  have HBX : Hid (w4.heap[w3.heap.size]? = some (.cells #[.bool s3, .slice ao3 n3 cap3, .int .i64 e3] 24 (0, 0)) ∧ W.heap.size ≤ w3.heap.size ∧ w2.heap.size ≤ w3.heap.size ∧ w3.heap.size < w4.heap.size) := ⟨hbox, HB3.out.size, hB3.size, (Array.getElem?_eq_some_iff.1 hbox).1⟩
  obtain ⟨⟨d0, d1, d2⟩, d3, d4, d5⟩ := box_cells29 hbox
  clear ko hN hB3 hB34 hbox a0 a1 a2 b0 b1 b2
  rw [hw4] at d0 d1 d2 d3 d4 d5
  go_wp2_with fail
  rw [← hw4]
  clear hw4 d0 d1 d2 d3 d4 d5
  refine kk.mono ?_
  rintro r w5 ⟨⟨s5, ao5, n5, cap5, e5, rfl, hN5⟩, hB5⟩
  have HB5 : Hid (Below W.heap.size W w5) := HB4.out.trans (hB5.mono HB4.out.size)
  have hE0 : (((if V then (0 : Int) else 2)) == 0) = V := by cases V <;> rfl
  generalize hE : (if V then (0 : Int) else 2) = E at *
  have HE : Hid ((if V then (0 : Int) else 2) = E) := hE
  clear hE
  have HBX5 : Hid (w5.heap[w3.heap.size]? = some (.cells #[.bool s3, .slice ao3 n3 cap3, .int .i64 e3] 24 (0, 0))) := box_later HBX.out.1 hB5 HBX.out.2.2.2
  have HCz : Hid (w5.heap[w.heap.size + 1 + 1]? = some (.cells #[.bool false, .slice none 0 0, .int .i64 0] 24 (0, 0))) := box_later HH.out.1.2.2 HB5.out (by have := HH.out.2.1; omega)
  obtain ⟨⟨d0, d1, d2⟩, d3, d4, d5⟩ := box_cells29 HBX5.out
  have hne : w3.heap.size ≠ w.heap.size + 1 + 1 := by have := HBX.out.2.1; have := HH.out.2.1; omega
  obtain ⟨w6, hw6⟩ : ∃ w6, w6 = ((w5.setCell ⟨w3.heap.size, 0, none⟩ (.bool s5)).setCell ⟨w3.heap.size, 1, none⟩ (.slice ao5 n5 cap5)).setCell ⟨w3.heap.size, 2, none⟩ (.int .i64 e5) := ⟨_, rfl⟩
  have hb6 : w6.heap[w3.heap.size]? = some (.cells #[.bool s5, .slice ao5 n5 cap5, .int .i64 e5] 24 (0, 0)) := by rw [hw6]; exact store3_29 _ _ _ HBX5.out
  have hc6 : w6.heap[w.heap.size + 1 + 1]? = some (.cells #[.bool false, .slice none 0 0, .int .i64 0] 24 (0, 0)) := by
    rw [hw6, setCell_block _ _ (Ne.symm hne), setCell_block _ _ (Ne.symm hne), setCell_block _ _ (Ne.symm hne)]; exact HCz.out
  have HN6 : Hid (RN w6 w2.heap.size (.agg #[.bool s5, .slice ao5 n5 cap5, .int .i64 e5]) (Ans V (cn s z e))) := by rw [hw6]; exact rn_store3 hN5.out HBX5.out _ _ _
  have HB6 : Hid (Below W.heap.size W w6) := by rw [hw6]; exact below_store3 HB5.out HBX.out.2.1 _ _ _
  have HC6 : Hid (w6.heap[w.heap.size + 1 + 1]? = some (.cells #[.bool false, .slice none 0 0, .int .i64 0] 24 (0, 0))) := hc6
  clear kk hB5
  go_upto_region 7 with fail
  rw [← hw6]
  clear hw6 d0 d1 d2 d3 d4 d5
  obtain ⟨⟨d0, d1, d2⟩, d3, d4, d5⟩ := box_cells29 hb6
  obtain ⟨⟨c0, c1, c2⟩, c3, c4, c5⟩ := box_cells29 hc6
  clear hb6 hc6
  go_wp2
  refine bodyPost_ret (results_cell_tmp2_row rfl _ _ (w.heap.size + 1 + 1) 24 #[.bool s5, .slice ao5 n5 cap5, .int .i64 e5] (0, 0) _ rfl (store3_29 _ _ _ HC6.out) Tryz.underlying24 rfl Tryz.info24) rfl ?_
  have q1 := HH.out.2.1
  have q2 := HB1.out.size
  refine ⟨_, ?_, (rn_store HN6.out HC6.out _ _ _).mono (by omega), below_store3 (HH.out.2.2.1.trans (HB6.out.mono HH.out.2.2.1.size)) (by omega) _ _ _⟩
  rw [HE.out]
  first | rfl | (rw [Bool.true_and]; rfl)
set_option maxHeartbeats 4000000 in
set_option maxRecDepth 200000 in
theorem rquo_no1 (na nb : Bool) (ua va : Option Addr) (un uc vn vc : Nat) (ea eb place : Int) (w : World) (k67 : ∀ W g, Below w.heap.size w W → W.heap[g]? = some (.cells #[.bool na, .slice ua un uc, .int .i64 ea, .bool nb, .slice va vn vc, .int .i64 eb] 24 (0, 0)) → Calls Tryz.prog 83 #[.slice (some ⟨g, 0, none⟩) 2 2] W fun r w' => r = .returned (.bool false) ∧ Below W.heap.size W w') :
    Calls Tryz.prog 33 #[.agg #[.bool na, .slice ua un uc, .int .i64 ea], .agg #[.bool nb, .slice va vn vc, .int .i64 eb], .int .i64 place] w fun r w' => r = .returned (.tuple #[.agg #[.bool false, .slice none 0 0, .int .i64 0], .bool false, .int .i64 1]) ∧ Below w.heap.size w w' := by
  obtain ⟨W, hW⟩ : ∃ W, W = ((w.alloc (.cells #[.bool na, .slice ua un uc, .int .i64 ea] 24)).alloc (.cells #[.bool nb, .slice va vn vc, .int .i64 eb] 24)).alloc (.cells #[.bool false, .slice none 0 0, .int .i64 0] 24) := ⟨_, rfl⟩
  obtain ⟨hA, hBb, hC, hsz, hBW⟩ := boxes3 _ _ _ hW
  have hB4 : Below w.heap.size w (W.alloc (.cells #[.bool na, .slice ua un uc, .int .i64 ea, .bool nb, .slice va vn vc, .int .i64 eb] 24)) := hBW.alloc hBW.size _
  have k1 := k67 (W.alloc (.cells #[.bool na, .slice ua un uc, .int .i64 ea, .bool nb, .slice va vn vc, .int .i64 eb] 24)) (w.heap.size + 1 + 1 + 1) hB4 (by rw [← hsz]; exact heap_alloc_new _ _)
  have HH : Hid ((W.heap[w.heap.size]? = some (.cells #[.bool na, .slice ua un uc, .int .i64 ea] 24 (0, 0)) ∧ W.heap[w.heap.size + 1]? = some (.cells #[.bool nb, .slice va vn vc, .int .i64 eb] 24 (0, 0)) ∧ W.heap[w.heap.size + 1 + 1]? = some (.cells #[.bool false, .slice none 0 0, .int .i64 0] 24 (0, 0))) ∧ W.heap.size = w.heap.size + 1 + 1 + 1 ∧ Below w.heap.size w W ∧ Below W.heap.size W (W.alloc (.cells #[.bool na, .slice ua un uc, .int .i64 ea, .bool nb, .slice va vn vc, .int .i64 eb] 24))) := ⟨⟨hA, hBb, hC⟩, hsz, hBW, (Below.refl _ _).alloc (Nat.le_refl _) _⟩
  clear hA hBb hC hsz hBW hB4 k67
  go_enter Tryz.func33, Tryz.ntmps33
  go_wp2_with fail
  rw [← hW]
  clear hW
  refine k1.mono ?_
  rintro r w1 ⟨rfl, hB1⟩
  clear k1
  have HB1 : Hid (Below W.heap.size W w1) := HH.out.2.2.2.trans (hB1.mono HH.out.2.2.2.size)
  obtain ⟨⟨a0, a1, a2⟩, -⟩ := box_cells29 (box_later HH.out.1.1 HB1.out (by have := HH.out.2.1; omega))
  obtain ⟨⟨b0, b1, b2⟩, -⟩ := box_cells29 (box_later HH.out.1.2.1 HB1.out (by have := HH.out.2.1; omega))
  clear hB1
  have HCz : Hid (w1.heap[w.heap.size + 1 + 1]? = some (.cells #[.bool false, .slice none 0 0, .int .i64 0] 24 (0, 0))) := box_later HH.out.1.2.2 HB1.out (by have := HH.out.2.1; omega)
  obtain ⟨⟨c0, c1, c2⟩, c3, c4, c5⟩ := box_cells29 HCz.out
  go_wp2
  refine bodyPost_ret (results_cell_tmp2_row rfl _ _ (w.heap.size + 1 + 1) 24 #[.bool false, .slice none 0 0, .int .i64 0] (0, 0) _ rfl (store3_29 _ _ _ HCz.out) Tryz.underlying24 rfl Tryz.info24) rfl ?_
  exact ⟨rfl, below_store3 (HH.out.2.2.1.trans (HB1.out.mono HH.out.2.2.1.size)) (by omega) _ _ _⟩
set_option maxHeartbeats 4000000 in
set_option maxRecDepth 200000 in
theorem rquo_no2 (na nb : Bool) (ua va : Option Addr) (un uc vn vc : Nat) (ea eb place : Int) (w : World) (hp : (decide (-65536 ≤ place) && decide (place ≤ 65536)) = false) (k67 : ∀ W g, Below w.heap.size w W → W.heap[g]? = some (.cells #[.bool na, .slice ua un uc, .int .i64 ea, .bool nb, .slice va vn vc, .int .i64 eb] 24 (0, 0)) → Calls Tryz.prog 83 #[.slice (some ⟨g, 0, none⟩) 2 2] W fun r w' => r = .returned (.bool true) ∧ Below W.heap.size W w') :
    Calls Tryz.prog 33 #[.agg #[.bool na, .slice ua un uc, .int .i64 ea], .agg #[.bool nb, .slice va vn vc, .int .i64 eb], .int .i64 place] w fun r w' => r = .returned (.tuple #[.agg #[.bool false, .slice none 0 0, .int .i64 0], .bool false, .int .i64 1]) ∧ Below w.heap.size w w' := by
  obtain ⟨W, hW⟩ : ∃ W, W = ((w.alloc (.cells #[.bool na, .slice ua un uc, .int .i64 ea] 24)).alloc (.cells #[.bool nb, .slice va vn vc, .int .i64 eb] 24)).alloc (.cells #[.bool false, .slice none 0 0, .int .i64 0] 24) := ⟨_, rfl⟩
  obtain ⟨hA, hBb, hC, hsz, hBW⟩ := boxes3 _ _ _ hW
  have hB4 : Below w.heap.size w (W.alloc (.cells #[.bool na, .slice ua un uc, .int .i64 ea, .bool nb, .slice va vn vc, .int .i64 eb] 24)) := hBW.alloc hBW.size _
  have k1 := k67 (W.alloc (.cells #[.bool na, .slice ua un uc, .int .i64 ea, .bool nb, .slice va vn vc, .int .i64 eb] 24)) (w.heap.size + 1 + 1 + 1) hB4 (by rw [← hsz]; exact heap_alloc_new _ _)
  have HH : Hid ((W.heap[w.heap.size]? = some (.cells #[.bool na, .slice ua un uc, .int .i64 ea] 24 (0, 0)) ∧ W.heap[w.heap.size + 1]? = some (.cells #[.bool nb, .slice va vn vc, .int .i64 eb] 24 (0, 0)) ∧ W.heap[w.heap.size + 1 + 1]? = some (.cells #[.bool false, .slice none 0 0, .int .i64 0] 24 (0, 0))) ∧ W.heap.size = w.heap.size + 1 + 1 + 1 ∧ Below w.heap.size w W ∧ Below W.heap.size W (W.alloc (.cells #[.bool na, .slice ua un uc, .int .i64 ea, .bool nb, .slice va vn vc, .int .i64 eb] 24))) := ⟨⟨hA, hBb, hC⟩, hsz, hBW, (Below.refl _ _).alloc (Nat.le_refl _) _⟩
  clear hA hBb hC hsz hBW hB4 k67
  go_enter Tryz.func33, Tryz.ntmps33
  go_wp2_with fail
  rw [← hW]
  clear hW
  refine k1.mono ?_
  rintro r w1 ⟨rfl, hB1⟩
  clear k1
  have HB1 : Hid (Below W.heap.size W w1) := HH.out.2.2.2.trans (hB1.mono HH.out.2.2.2.size)
  obtain ⟨⟨a0, a1, a2⟩, -⟩ := box_cells29 (box_later HH.out.1.1 HB1.out (by have := HH.out.2.1; omega))
  obtain ⟨⟨b0, b1, b2⟩, -⟩ := box_cells29 (box_later HH.out.1.2.1 HB1.out (by have := HH.out.2.1; omega))
  clear hB1
  have HCz : Hid (w1.heap[w.heap.size + 1 + 1]? = some (.cells #[.bool false, .slice none 0 0, .int .i64 0] 24 (0, 0))) := box_later HH.out.1.2.2 HB1.out (by have := HH.out.2.1; omega)
  obtain ⟨⟨c0, c1, c2⟩, c3, c4, c5⟩ := box_cells29 HCz.out
  have kP : Calls Tryz.prog 78 #[.int .i64 place] w1 fun r w' => r = .returned (.bool false) ∧ w' = w1 := (rplaced place w1).mono fun r w' ⟨e1, e2⟩ => ⟨by rw [e1, hp], e2⟩
  go_wp2_with fail
  refine kP.mono ?_
  rintro r w2 ⟨rfl, rfl⟩
  clear kP
  go_wp2
  refine bodyPost_ret (results_cell_tmp2_row rfl _ _ (w.heap.size + 1 + 1) 24 #[.bool false, .slice none 0 0, .int .i64 0] (0, 0) _ rfl (store3_29 _ _ _ HCz.out) Tryz.underlying24 rfl Tryz.info24) rfl ?_
  exact ⟨rfl, below_store3 (HH.out.2.2.1.trans (HB1.out.mono HH.out.2.2.1.size)) (by omega) _ _ _⟩
set_option maxHeartbeats 4000000 in
set_option maxRecDepth 200000 in
theorem rquo_noz (na nb : Bool) (ua va : Option Addr) (un uc vn vc : Nat) (ea eb place : Int) (w : World) (hp : (decide (-65536 ≤ place) && decide (place ≤ 65536)) = true) (hv : vn = 0) (k67 : ∀ W g, Below w.heap.size w W → W.heap[g]? = some (.cells #[.bool na, .slice ua un uc, .int .i64 ea, .bool nb, .slice va vn vc, .int .i64 eb] 24 (0, 0)) → Calls Tryz.prog 83 #[.slice (some ⟨g, 0, none⟩) 2 2] W fun r w' => r = .returned (.bool true) ∧ Below W.heap.size W w') :
    Calls Tryz.prog 33 #[.agg #[.bool na, .slice ua un uc, .int .i64 ea], .agg #[.bool nb, .slice va vn vc, .int .i64 eb], .int .i64 place] w fun r w' => r = .returned (.tuple #[.agg #[.bool false, .slice none 0 0, .int .i64 0], .bool false, .int .i64 6]) ∧ Below w.heap.size w w' := by
  subst hv
  obtain ⟨W, hW⟩ : ∃ W, W = ((w.alloc (.cells #[.bool na, .slice ua un uc, .int .i64 ea] 24)).alloc (.cells #[.bool nb, .slice va 0 vc, .int .i64 eb] 24)).alloc (.cells #[.bool false, .slice none 0 0, .int .i64 0] 24) := ⟨_, rfl⟩
  obtain ⟨hA, hBb, hC, hsz, hBW⟩ := boxes3 _ _ _ hW
  have hB4 : Below w.heap.size w (W.alloc (.cells #[.bool na, .slice ua un uc, .int .i64 ea, .bool nb, .slice va 0 vc, .int .i64 eb] 24)) := hBW.alloc hBW.size _
  have k1 := k67 (W.alloc (.cells #[.bool na, .slice ua un uc, .int .i64 ea, .bool nb, .slice va 0 vc, .int .i64 eb] 24)) (w.heap.size + 1 + 1 + 1) hB4 (by rw [← hsz]; exact heap_alloc_new _ _)
  have HH : Hid ((W.heap[w.heap.size]? = some (.cells #[.bool na, .slice ua un uc, .int .i64 ea] 24 (0, 0)) ∧ W.heap[w.heap.size + 1]? = some (.cells #[.bool nb, .slice va 0 vc, .int .i64 eb] 24 (0, 0)) ∧ W.heap[w.heap.size + 1 + 1]? = some (.cells #[.bool false, .slice none 0 0, .int .i64 0] 24 (0, 0))) ∧ W.heap.size = w.heap.size + 1 + 1 + 1 ∧ Below w.heap.size w W ∧ Below W.heap.size W (W.alloc (.cells #[.bool na, .slice ua un uc, .int .i64 ea, .bool nb, .slice va 0 vc, .int .i64 eb] 24))) := ⟨⟨hA, hBb, hC⟩, hsz, hBW, (Below.refl _ _).alloc (Nat.le_refl _) _⟩
  clear hA hBb hC hsz hBW hB4 k67
  go_enter Tryz.func33, Tryz.ntmps33
  go_wp2_with fail
  rw [← hW]
  clear hW
  refine k1.mono ?_
  rintro r w1 ⟨rfl, hB1⟩
  clear k1
  have HB1 : Hid (Below W.heap.size W w1) := HH.out.2.2.2.trans (hB1.mono HH.out.2.2.2.size)
  obtain ⟨⟨a0, a1, a2⟩, -⟩ := box_cells29 (box_later HH.out.1.1 HB1.out (by have := HH.out.2.1; omega))
  obtain ⟨⟨b0, b1, b2⟩, -⟩ := box_cells29 (box_later HH.out.1.2.1 HB1.out (by have := HH.out.2.1; omega))
  clear hB1
  have HCz : Hid (w1.heap[w.heap.size + 1 + 1]? = some (.cells #[.bool false, .slice none 0 0, .int .i64 0] 24 (0, 0))) := box_later HH.out.1.2.2 HB1.out (by have := HH.out.2.1; omega)
  obtain ⟨⟨c0, c1, c2⟩, c3, c4, c5⟩ := box_cells29 HCz.out
  have kP : Calls Tryz.prog 78 #[.int .i64 place] w1 fun r w' => r = .returned (.bool true) ∧ w' = w1 := (rplaced place w1).mono fun r w' ⟨e1, e2⟩ => ⟨by rw [e1, hp], e2⟩
  go_wp2_with fail
  refine kP.mono ?_
  rintro r w2 ⟨rfl, rfl⟩
  clear kP
  go_wp2
  refine bodyPost_ret (results_cell_tmp2_row rfl _ _ (w.heap.size + 1 + 1) 24 #[.bool false, .slice none 0 0, .int .i64 0] (0, 0) _ rfl (store3_29 _ _ _ HCz.out) Tryz.underlying24 rfl Tryz.info24) rfl ?_
  exact ⟨rfl, below_store3 (HH.out.2.2.1.trans (HB1.out.mono HH.out.2.2.1.size)) (by omega) _ _ _⟩
end Go.Proofs.YtmhpicccfaklcaaGreatDoor

/- The document's Quo, joined. -/
namespace Go.Proofs.YtmhpicccfaklcaaGreatDoor
set_option linter.unusedVariables false
set_option linter.unusedSimpArgs false
open Go.RowKit

/-- the magnitude of a quotient that is cut downwards -/
def ovZ (sg : Bool) (X Y : Nat) : Nat := if sg && !(decide (X % Y = 0)) then X / Y + 1 else X / Y
theorem cn_dlen {s : Bool} {z : Nat} {e : Int} : dlen (cn s z e).2.1 ≤ dlen z := by
  unfold cn
  by_cases h : z = 0
  · rw [if_pos h, dlen_zero]; exact Nat.zero_le _
  · rw [if_neg h]; exact dlen_mono (Nat.div_le_self _ _)
theorem ovZ_len {sg : Bool} {x y : Nat} {ea eb place : Int} (hx : dlen x ≤ 3000) (ha : -200000 ≤ ea ∧ ea ≤ 200000) (hb : -200000 ≤ eb ∧ eb ≤ 200000) (hp : -200000 ≤ place ∧ place ≤ 200000) : dlen (ovZ sg (ovX x ea eb place) (ovY y ea eb place)) ≤ 30000 := by
  have h1 : dlen (ovX x ea eb place) ≤ 25000 := by
    unfold ovX
    have := shl_len (x := x) (k := (ea + place - min (ea + place) eb).toNat) rfl
    omega
  have h2 : dlen (ovX x ea eb place / ovY y ea eb place) ≤ 25000 := Nat.le_trans (dlen_mono (Nat.div_le_self _ _)) h1
  unfold ovZ
  split
  · exact Nat.le_trans (dlen_succ_le _) (by omega)
  · omega
theorem rquo_good {na nb : Bool} {ua va : Option Addr} {uc vc x y : Nat} {ea eb place : Int} {w : World} (h1 : Arg w ua (dlen x) uc x) (h2 : Arg w va (dlen y) vc y) (hoka : okN na (dlen x) x ea = true) (hokb : okN nb (dlen y) y eb = true) (hx : dlen x ≤ 2048) (hy : dlen y ≤ 2048) (ha : -65536 ≤ ea ∧ ea ≤ 65536) (hb : -65536 ≤ eb ∧ eb ≤ 65536) (hy0 : y ≠ 0) (hp : -65536 ≤ place ∧ place ≤ 65536) :
    Calls Tryz.prog 33 #[.agg #[.bool na, .slice ua (dlen x) uc, .int .i64 ea], .agg #[.bool nb, .slice va (dlen y) vc, .int .i64 eb], .int .i64 place] w fun r w' => Ans3 w (okR (na != nb) (ovZ (na != nb) (ovX x ea eb place) (ovY y ea eb place)) (-place)) (cn (na != nb) (ovZ (na != nb) (ovX x ea eb place) (ovY y ea eb place)) (-place)) (decide (ovX x ea eb place % ovY y ea eb place = 0)) r w' := by
  have hzl := ovZ_len (sg := na != nb) (x := x) (y := y) (ea := ea) (eb := eb) (place := place) (by omega) ⟨by omega, by omega⟩ ⟨by omega, by omega⟩ ⟨by omega, by omega⟩
  have hcl := cn_dlen (s := na != nb) (z := ovZ (na != nb) (ovX x ea eb place) (ovY y ea eb place)) (e := -place)
  have k67 : ∀ W g, Below w.heap.size w W → W.heap[g]? = some (.cells #[.bool na, .slice ua (dlen x) uc, .int .i64 ea, .bool nb, .slice va (dlen y) vc, .int .i64 eb] 24 (0, 0)) → Calls Tryz.prog 83 #[.slice (some ⟨g, 0, none⟩) 2 2] W fun r w' => r = .returned (.bool true) ∧ Below W.heap.size W w' := fun W g hW hg => by
    have := rknown2 hg (h1.later hW) (h2.later hW)
    rw [hoka, hokb] at this
    exact this
  have kO := fun W (hW : Below w.heap.size w W) => rover (na := na) (nb := nb) (ea := ea) (eb := eb) (place := place) (h1.later hW).at_ h1.le (h2.later hW).at_ h2.le hy0 (by omega) (by omega) ⟨by omega, by omega⟩ ⟨by omega, by omega⟩ ⟨by omega, by omega⟩ rfl rfl
  have hn1 : ((dlen y : Int) == 0) = false := len_ne (n := 0) hy0
  by_cases hr : ovX x ea eb place % ovY y ea eb place = 0
  · simp only [decide_eq_true hr] at kO ⊢
    exact rquo_e na nb ua va _ uc _ vc ea eb place (na != nb) _ (-place) _ w (okR_cn _ _ _).symm (by omega) hn1 hp.1 hp.2 k67 (by simpa only [ovZ, decide_eq_true hr] using kO)
  · simp only [decide_eq_false hr] at kO ⊢
    exact rquo_r na nb ua va _ uc _ vc ea eb place (na != nb) _ (-place) _ w (okR_cn _ _ _).symm (by omega) hn1 hp.1 hp.2 k67 (by simpa only [ovZ, decide_eq_false hr] using kO)
end Go.Proofs.YtmhpicccfaklcaaGreatDoor

/- The document's Floor. -/
namespace Go.Proofs.YtmhpicccfaklcaaGreatDoor
set_option linter.unusedVariables false
set_option linter.unusedSimpArgs false
open Go.RowKit

set_option maxHeartbeats 4000000 in
set_option maxRecDepth 200000 in
theorem rfloor_e (na : Bool) (ua : Option Addr) (un uc : Nat) (ea place : Int) (s : Bool) (z : Nat) (e : Int) (V : Bool) (w : World) (hV : okN s (dlen z) z e = V) (hz : dlen z ≤ 35184372088832) (hp1 : -65536 ≤ place) (hp2 : place ≤ 65536) (kV : ∀ W, Below w.heap.size w W → Calls Tryz.prog 11 #[.agg #[.bool na, .slice ua un uc, .int .i64 ea]] W fun r w' => r = .returned (.bool true) ∧ Below W.heap.size W w')
    (kC : ∀ W, Below w.heap.size w W → Calls Tryz.prog 79 #[.agg #[.bool na, .slice ua un uc, .int .i64 ea], .int .i64 place] W fun r w' => ∃ ao cap, r = .returned (.tuple #[.agg #[.bool s, .slice ao (dlen z) cap, .int .i64 e], .bool true]) ∧ Arg w' ao (dlen z) cap z ∧ Below W.heap.size W w') :
    Calls Tryz.prog 31 #[.agg #[.bool na, .slice ua un uc, .int .i64 ea], .int .i64 place] w fun r w' => Ans3 w V (s, z, e) true r w' := by
  have HKC : Hid (∀ W, Below w.heap.size w W → Calls Tryz.prog 79 #[.agg #[.bool na, .slice ua un uc, .int .i64 ea], .int .i64 place] W fun r w' => ∃ ao cap, r = .returned (.tuple #[.agg #[.bool s, .slice ao (dlen z) cap, .int .i64 e], .bool true]) ∧ Arg w' ao (dlen z) cap z ∧ Below W.heap.size W w') := kC
  have HV : Hid (okN s (dlen z) z e = V ∧ dlen z ≤ 35184372088832) := ⟨hV, hz⟩
  clear kC hV
  obtain ⟨W, hW⟩ : ∃ W, W = (w.alloc (.cells #[.bool na, .slice ua un uc, .int .i64 ea] 24)).alloc (.cells #[.bool false, .slice none 0 0, .int .i64 0] 24) := ⟨_, rfl⟩
  obtain ⟨hA, hC, hsz, hBW⟩ := two29 _ _ hW
  have k1 := kV W hBW
  have HH : Hid ((W.heap[w.heap.size]? = some (.cells #[.bool na, .slice ua un uc, .int .i64 ea] 24 (0, 0)) ∧ W.heap[w.heap.size + 1]? = some (.cells #[.bool false, .slice none 0 0, .int .i64 0] 24 (0, 0))) ∧ W.heap.size = w.heap.size + 1 + 1 ∧ Below w.heap.size w W) := ⟨⟨hA, hC⟩, hsz, hBW⟩
  clear hA hC hsz hBW kV
  go_enter Tryz.func31, Tryz.ntmps31
  go_wp2_with fail
  rw [← hW]
  clear hW
  refine k1.mono ?_
  rintro r w1 ⟨rfl, hB1⟩
  clear k1
  have HB1 : Hid (Below W.heap.size W w1) := hB1
  obtain ⟨⟨a0, a1, a2⟩, -⟩ := box_cells29 (box_later HH.out.1.1 HB1.out (by have := HH.out.2.1; omega))
  clear hB1
  have kP : Calls Tryz.prog 78 #[.int .i64 place] w1 fun r w' => r = .returned (.bool true) ∧ w' = w1 := (rplaced place w1).mono fun r w' ⟨e1, e2⟩ => ⟨by rw [e1, decide_eq_true hp1, decide_eq_true hp2]; rfl, e2⟩
  go_wp2_with fail
  refine kP.mono ?_
  rintro r w2 ⟨rfl, rfl⟩
  clear kP
  have ko := HKC.out w2 (HH.out.2.2.trans (HB1.out.mono HH.out.2.2.size))
  go_wp2_with fail
  refine ko.mono ?_
  rintro r w3 ⟨ao3, cap3, rfl, hAr, hB3⟩
  have HB3 : Hid (Below W.heap.size W w3) := HB1.out.trans (hB3.mono HB1.out.size)
  obtain ⟨w4, hw4⟩ : ∃ w4, w4 = w3.alloc (.cells #[.bool s, .slice ao3 (dlen z) cap3, .int .i64 e] 24) := ⟨_, rfl⟩
  have hB34 : Below w3.heap.size w3 w4 := by rw [hw4]; exact (Below.refl _ _).alloc (Nat.le_refl _) _
  have hbox : w4.heap[w3.heap.size]? = some (.cells #[.bool s, .slice ao3 (dlen z) cap3, .int .i64 e] 24 (0, 0)) := by rw [hw4]; exact heap_alloc_new _ _
  have HB4 : Hid (Below W.heap.size W w4) := HB3.out.trans (hB34.mono HB3.out.size)
  have kt := rtwin (ng := s) (e := e) (hAr.later hB34)
  have HBX : Hid (w4.heap[w3.heap.size]? = some (.cells #[.bool s, .slice ao3 (dlen z) cap3, .int .i64 e] 24 (0, 0)) ∧ W.heap.size ≤ w3.heap.size ∧ w3.heap.size < w4.heap.size) := ⟨hbox, HB3.out.size, (Array.getElem?_eq_some_iff.1 hbox).1⟩
  obtain ⟨⟨d0, d1, d2⟩, d3, d4, d5⟩ := box_cells29 hbox
  clear ko hAr hB3 hB34 hbox a0 a1 a2
  rw [hw4] at d0 d1 d2 d3 d4 d5
  go_wp2_with fail
  rw [← hw4]
  clear hw4 d0 d1 d2 d3 d4 d5
  refine kt.mono ?_
  rintro r w4b ⟨ao4, cap4, rfl, hD4, hB4b⟩
  have HB4b : Hid (Below W.heap.size W w4b ∧ Below w4.heap.size w4 w4b) := ⟨HB4.out.trans (hB4b.mono HB4.out.size), hB4b⟩
  have kk := kept_rn (t := (s, z, e)) hD4.rn HV.out.2 V HV.out.1
  clear kt hD4 hB4b
  go_wp2_with fail
  refine kk.mono ?_
  rintro r w5 ⟨⟨s5, ao5, n5, cap5, e5, rfl, hN5⟩, hB5⟩
  have HB5 : Hid (Below W.heap.size W w5) := HB4b.out.1.trans (hB5.mono HB4b.out.1.size)
  have hE0 : (((if V then (0 : Int) else 2)) == 0) = V := by cases V <;> rfl
  generalize hE : (if V then (0 : Int) else 2) = E at *
  have HE : Hid ((if V then (0 : Int) else 2) = E) := hE
  clear hE
  have HBX5 : Hid (w5.heap[w3.heap.size]? = some (.cells #[.bool s, .slice ao3 (dlen z) cap3, .int .i64 e] 24 (0, 0))) := box_later HBX.out.1 (HB4b.out.2.trans (hB5.mono HB4b.out.2.size)) HBX.out.2.2
  have HCz : Hid (w5.heap[w.heap.size + 1]? = some (.cells #[.bool false, .slice none 0 0, .int .i64 0] 24 (0, 0))) := box_later HH.out.1.2 HB5.out (by have := HH.out.2.1; omega)
  obtain ⟨⟨d0, d1, d2⟩, d3, d4, d5⟩ := box_cells29 HBX5.out
  have hne : w3.heap.size ≠ w.heap.size + 1 := by have := HBX.out.2.1; have := HH.out.2.1; omega
  obtain ⟨w6, hw6⟩ : ∃ w6, w6 = ((w5.setCell ⟨w3.heap.size, 0, none⟩ (.bool s5)).setCell ⟨w3.heap.size, 1, none⟩ (.slice ao5 n5 cap5)).setCell ⟨w3.heap.size, 2, none⟩ (.int .i64 e5) := ⟨_, rfl⟩
  have hb6 : w6.heap[w3.heap.size]? = some (.cells #[.bool s5, .slice ao5 n5 cap5, .int .i64 e5] 24 (0, 0)) := by rw [hw6]; exact store3_29 _ _ _ HBX5.out
  have hc6 : w6.heap[w.heap.size + 1]? = some (.cells #[.bool false, .slice none 0 0, .int .i64 0] 24 (0, 0)) := by
    rw [hw6, setCell_block _ _ (Ne.symm hne), setCell_block _ _ (Ne.symm hne), setCell_block _ _ (Ne.symm hne)]; exact HCz.out
  have HN6 : Hid (RN w6 w4.heap.size (.agg #[.bool s5, .slice ao5 n5 cap5, .int .i64 e5]) (Ans V (s, z, e))) := by rw [hw6]; exact rn_store3 hN5.out HBX5.out _ _ _
  have HB6 : Hid (Below W.heap.size W w6) := by rw [hw6]; exact below_store3 HB5.out HBX.out.2.1 _ _ _
  have HC6 : Hid (w6.heap[w.heap.size + 1]? = some (.cells #[.bool false, .slice none 0 0, .int .i64 0] 24 (0, 0))) := hc6
  clear kk hB5
  go_upto_region 5 with fail
  rw [← hw6]
  clear hw6 d0 d1 d2 d3 d4 d5
  obtain ⟨⟨d0, d1, d2⟩, d3, d4, d5⟩ := box_cells29 hb6
  obtain ⟨⟨c0, c1, c2⟩, c3, c4, c5⟩ := box_cells29 hc6
  clear hb6 hc6
  go_wp2
  refine bodyPost_ret (results_cell_tmp2_row rfl _ _ (w.heap.size + 1) 24 #[.bool s5, .slice ao5 n5 cap5, .int .i64 e5] (0, 0) _ rfl (store3_29 _ _ _ HC6.out) Tryz.underlying24 rfl Tryz.info24) rfl ?_
  have q1 := HH.out.2.1
  have q2 := HB4.out.size
  refine ⟨_, ?_, (rn_store HN6.out HC6.out _ _ _).mono (by omega), below_store3 (HH.out.2.2.trans (HB6.out.mono HH.out.2.2.size)) (by omega) _ _ _⟩
  rw [HE.out]
  first | rfl | (rw [Bool.true_and]; rfl)
set_option maxHeartbeats 4000000 in
set_option maxRecDepth 200000 in
theorem rfloor_r (na : Bool) (ua : Option Addr) (un uc : Nat) (ea place : Int) (s : Bool) (z : Nat) (e : Int) (V : Bool) (w : World) (hV : okN s (dlen z) z e = V) (hz : dlen z ≤ 35184372088832) (hp1 : -65536 ≤ place) (hp2 : place ≤ 65536) (kV : ∀ W, Below w.heap.size w W → Calls Tryz.prog 11 #[.agg #[.bool na, .slice ua un uc, .int .i64 ea]] W fun r w' => r = .returned (.bool true) ∧ Below W.heap.size W w')
    (kC : ∀ W, Below w.heap.size w W → Calls Tryz.prog 79 #[.agg #[.bool na, .slice ua un uc, .int .i64 ea], .int .i64 place] W fun r w' => ∃ ao cap, r = .returned (.tuple #[.agg #[.bool s, .slice ao (dlen z) cap, .int .i64 e], .bool false]) ∧ Arg w' ao (dlen z) cap z ∧ Below W.heap.size W w') :
    Calls Tryz.prog 31 #[.agg #[.bool na, .slice ua un uc, .int .i64 ea], .int .i64 place] w fun r w' => Ans3 w V (s, z, e) false r w' := by
  have HKC : Hid (∀ W, Below w.heap.size w W → Calls Tryz.prog 79 #[.agg #[.bool na, .slice ua un uc, .int .i64 ea], .int .i64 place] W fun r w' => ∃ ao cap, r = .returned (.tuple #[.agg #[.bool s, .slice ao (dlen z) cap, .int .i64 e], .bool false]) ∧ Arg w' ao (dlen z) cap z ∧ Below W.heap.size W w') := kC
  have HV : Hid (okN s (dlen z) z e = V ∧ dlen z ≤ 35184372088832) := ⟨hV, hz⟩
  clear kC hV
  obtain ⟨W, hW⟩ : ∃ W, W = (w.alloc (.cells #[.bool na, .slice ua un uc, .int .i64 ea] 24)).alloc (.cells #[.bool false, .slice none 0 0, .int .i64 0] 24) := ⟨_, rfl⟩
  obtain ⟨hA, hC, hsz, hBW⟩ := two29 _ _ hW
  have k1 := kV W hBW
  have HH : Hid ((W.heap[w.heap.size]? = some (.cells #[.bool na, .slice ua un uc, .int .i64 ea] 24 (0, 0)) ∧ W.heap[w.heap.size + 1]? = some (.cells #[.bool false, .slice none 0 0, .int .i64 0] 24 (0, 0))) ∧ W.heap.size = w.heap.size + 1 + 1 ∧ Below w.heap.size w W) := ⟨⟨hA, hC⟩, hsz, hBW⟩
  clear hA hC hsz hBW kV
  go_enter Tryz.func31, Tryz.ntmps31
  go_wp2_with fail
  rw [← hW]
  clear hW
  refine k1.mono ?_
  rintro r w1 ⟨rfl, hB1⟩
  clear k1
  have HB1 : Hid (Below W.heap.size W w1) := hB1
  obtain ⟨⟨a0, a1, a2⟩, -⟩ := box_cells29 (box_later HH.out.1.1 HB1.out (by have := HH.out.2.1; omega))
  clear hB1
  have kP : Calls Tryz.prog 78 #[.int .i64 place] w1 fun r w' => r = .returned (.bool true) ∧ w' = w1 := (rplaced place w1).mono fun r w' ⟨e1, e2⟩ => ⟨by rw [e1, decide_eq_true hp1, decide_eq_true hp2]; rfl, e2⟩
  go_wp2_with fail
  refine kP.mono ?_
  rintro r w2 ⟨rfl, rfl⟩
  clear kP
  have ko := HKC.out w2 (HH.out.2.2.trans (HB1.out.mono HH.out.2.2.size))
  go_wp2_with fail
  refine ko.mono ?_
  rintro r w3 ⟨ao3, cap3, rfl, hAr, hB3⟩
  have HB3 : Hid (Below W.heap.size W w3) := HB1.out.trans (hB3.mono HB1.out.size)
  obtain ⟨w4, hw4⟩ : ∃ w4, w4 = w3.alloc (.cells #[.bool s, .slice ao3 (dlen z) cap3, .int .i64 e] 24) := ⟨_, rfl⟩
  have hB34 : Below w3.heap.size w3 w4 := by rw [hw4]; exact (Below.refl _ _).alloc (Nat.le_refl _) _
  have hbox : w4.heap[w3.heap.size]? = some (.cells #[.bool s, .slice ao3 (dlen z) cap3, .int .i64 e] 24 (0, 0)) := by rw [hw4]; exact heap_alloc_new _ _
  have HB4 : Hid (Below W.heap.size W w4) := HB3.out.trans (hB34.mono HB3.out.size)
  have kt := rtwin (ng := s) (e := e) (hAr.later hB34)
  have HBX : Hid (w4.heap[w3.heap.size]? = some (.cells #[.bool s, .slice ao3 (dlen z) cap3, .int .i64 e] 24 (0, 0)) ∧ W.heap.size ≤ w3.heap.size ∧ w3.heap.size < w4.heap.size) := ⟨hbox, HB3.out.size, (Array.getElem?_eq_some_iff.1 hbox).1⟩
  obtain ⟨⟨d0, d1, d2⟩, d3, d4, d5⟩ := box_cells29 hbox
  clear ko hAr hB3 hB34 hbox a0 a1 a2
  rw [hw4] at d0 d1 d2 d3 d4 d5
  go_wp2_with fail
  rw [← hw4]
  clear hw4 d0 d1 d2 d3 d4 d5
  refine kt.mono ?_
  rintro r w4b ⟨ao4, cap4, rfl, hD4, hB4b⟩
  have HB4b : Hid (Below W.heap.size W w4b ∧ Below w4.heap.size w4 w4b) := ⟨HB4.out.trans (hB4b.mono HB4.out.size), hB4b⟩
  have kk := kept_rn (t := (s, z, e)) hD4.rn HV.out.2 V HV.out.1
  clear kt hD4 hB4b
  go_wp2_with fail
  refine kk.mono ?_
  rintro r w5 ⟨⟨s5, ao5, n5, cap5, e5, rfl, hN5⟩, hB5⟩
  have HB5 : Hid (Below W.heap.size W w5) := HB4b.out.1.trans (hB5.mono HB4b.out.1.size)
  have hE0 : (((if V then (0 : Int) else 2)) == 0) = V := by cases V <;> rfl
  generalize hE : (if V then (0 : Int) else 2) = E at *
  have HE : Hid ((if V then (0 : Int) else 2) = E) := hE
  clear hE
  have HBX5 : Hid (w5.heap[w3.heap.size]? = some (.cells #[.bool s, .slice ao3 (dlen z) cap3, .int .i64 e] 24 (0, 0))) := box_later HBX.out.1 (HB4b.out.2.trans (hB5.mono HB4b.out.2.size)) HBX.out.2.2
  have HCz : Hid (w5.heap[w.heap.size + 1]? = some (.cells #[.bool false, .slice none 0 0, .int .i64 0] 24 (0, 0))) := box_later HH.out.1.2 HB5.out (by have := HH.out.2.1; omega)
  obtain ⟨⟨d0, d1, d2⟩, d3, d4, d5⟩ := box_cells29 HBX5.out
  have hne : w3.heap.size ≠ w.heap.size + 1 := by have := HBX.out.2.1; have := HH.out.2.1; omega
  obtain ⟨w6, hw6⟩ : ∃ w6, w6 = ((w5.setCell ⟨w3.heap.size, 0, none⟩ (.bool s5)).setCell ⟨w3.heap.size, 1, none⟩ (.slice ao5 n5 cap5)).setCell ⟨w3.heap.size, 2, none⟩ (.int .i64 e5) := ⟨_, rfl⟩
  have hb6 : w6.heap[w3.heap.size]? = some (.cells #[.bool s5, .slice ao5 n5 cap5, .int .i64 e5] 24 (0, 0)) := by rw [hw6]; exact store3_29 _ _ _ HBX5.out
  have hc6 : w6.heap[w.heap.size + 1]? = some (.cells #[.bool false, .slice none 0 0, .int .i64 0] 24 (0, 0)) := by
    rw [hw6, setCell_block _ _ (Ne.symm hne), setCell_block _ _ (Ne.symm hne), setCell_block _ _ (Ne.symm hne)]; exact HCz.out
  have HN6 : Hid (RN w6 w4.heap.size (.agg #[.bool s5, .slice ao5 n5 cap5, .int .i64 e5]) (Ans V (s, z, e))) := by rw [hw6]; exact rn_store3 hN5.out HBX5.out _ _ _
  have HB6 : Hid (Below W.heap.size W w6) := by rw [hw6]; exact below_store3 HB5.out HBX.out.2.1 _ _ _
  have HC6 : Hid (w6.heap[w.heap.size + 1]? = some (.cells #[.bool false, .slice none 0 0, .int .i64 0] 24 (0, 0))) := hc6
  clear kk hB5
  go_upto_region 5 with fail
  rw [← hw6]
  clear hw6 d0 d1 d2 d3 d4 d5
  obtain ⟨⟨d0, d1, d2⟩, d3, d4, d5⟩ := box_cells29 hb6
  obtain ⟨⟨c0, c1, c2⟩, c3, c4, c5⟩ := box_cells29 hc6
  clear hb6 hc6
  go_wp2
  refine bodyPost_ret (results_cell_tmp2_row rfl _ _ (w.heap.size + 1) 24 #[.bool s5, .slice ao5 n5 cap5, .int .i64 e5] (0, 0) _ rfl (store3_29 _ _ _ HC6.out) Tryz.underlying24 rfl Tryz.info24) rfl ?_
  have q1 := HH.out.2.1
  have q2 := HB4.out.size
  refine ⟨_, ?_, (rn_store HN6.out HC6.out _ _ _).mono (by omega), below_store3 (HH.out.2.2.trans (HB6.out.mono HH.out.2.2.size)) (by omega) _ _ _⟩
  rw [HE.out]
  first | rfl | (rw [Bool.true_and]; rfl)
set_option maxHeartbeats 4000000 in
set_option maxRecDepth 200000 in
theorem rfloor_no1 (na : Bool) (ua : Option Addr) (un uc : Nat) (ea place : Int) (w : World) (kV : ∀ W, Below w.heap.size w W → Calls Tryz.prog 11 #[.agg #[.bool na, .slice ua un uc, .int .i64 ea]] W fun r w' => r = .returned (.bool false) ∧ Below W.heap.size W w') :
    Calls Tryz.prog 31 #[.agg #[.bool na, .slice ua un uc, .int .i64 ea], .int .i64 place] w fun r w' => r = .returned (.tuple #[.agg #[.bool false, .slice none 0 0, .int .i64 0], .bool false, .int .i64 1]) ∧ Below w.heap.size w w' := by
  obtain ⟨W, hW⟩ : ∃ W, W = (w.alloc (.cells #[.bool na, .slice ua un uc, .int .i64 ea] 24)).alloc (.cells #[.bool false, .slice none 0 0, .int .i64 0] 24) := ⟨_, rfl⟩
  obtain ⟨hA, hC, hsz, hBW⟩ := two29 _ _ hW
  have k1 := kV W hBW
  have HH : Hid ((W.heap[w.heap.size]? = some (.cells #[.bool na, .slice ua un uc, .int .i64 ea] 24 (0, 0)) ∧ W.heap[w.heap.size + 1]? = some (.cells #[.bool false, .slice none 0 0, .int .i64 0] 24 (0, 0))) ∧ W.heap.size = w.heap.size + 1 + 1 ∧ Below w.heap.size w W) := ⟨⟨hA, hC⟩, hsz, hBW⟩
  clear hA hC hsz hBW kV
  go_enter Tryz.func31, Tryz.ntmps31
  go_wp2_with fail
  rw [← hW]
  clear hW
  refine k1.mono ?_
  rintro r w1 ⟨rfl, hB1⟩
  clear k1
  have HB1 : Hid (Below W.heap.size W w1) := hB1
  obtain ⟨⟨a0, a1, a2⟩, -⟩ := box_cells29 (box_later HH.out.1.1 HB1.out (by have := HH.out.2.1; omega))
  clear hB1
  have HCz : Hid (w1.heap[w.heap.size + 1]? = some (.cells #[.bool false, .slice none 0 0, .int .i64 0] 24 (0, 0))) := box_later HH.out.1.2 HB1.out (by have := HH.out.2.1; omega)
  obtain ⟨⟨c0, c1, c2⟩, c3, c4, c5⟩ := box_cells29 HCz.out
  go_wp2
  refine bodyPost_ret (results_cell_tmp2_row rfl _ _ (w.heap.size + 1) 24 #[.bool false, .slice none 0 0, .int .i64 0] (0, 0) _ rfl (store3_29 _ _ _ HCz.out) Tryz.underlying24 rfl Tryz.info24) rfl ?_
  exact ⟨rfl, below_store3 (HH.out.2.2.trans (HB1.out.mono HH.out.2.2.size)) (by omega) _ _ _⟩
set_option maxHeartbeats 4000000 in
set_option maxRecDepth 200000 in
theorem rfloor_no2 (na : Bool) (ua : Option Addr) (un uc : Nat) (ea place : Int) (w : World) (hp : (decide (-65536 ≤ place) && decide (place ≤ 65536)) = false) (kV : ∀ W, Below w.heap.size w W → Calls Tryz.prog 11 #[.agg #[.bool na, .slice ua un uc, .int .i64 ea]] W fun r w' => r = .returned (.bool true) ∧ Below W.heap.size W w') :
    Calls Tryz.prog 31 #[.agg #[.bool na, .slice ua un uc, .int .i64 ea], .int .i64 place] w fun r w' => r = .returned (.tuple #[.agg #[.bool false, .slice none 0 0, .int .i64 0], .bool false, .int .i64 1]) ∧ Below w.heap.size w w' := by
  obtain ⟨W, hW⟩ : ∃ W, W = (w.alloc (.cells #[.bool na, .slice ua un uc, .int .i64 ea] 24)).alloc (.cells #[.bool false, .slice none 0 0, .int .i64 0] 24) := ⟨_, rfl⟩
  obtain ⟨hA, hC, hsz, hBW⟩ := two29 _ _ hW
  have k1 := kV W hBW
  have HH : Hid ((W.heap[w.heap.size]? = some (.cells #[.bool na, .slice ua un uc, .int .i64 ea] 24 (0, 0)) ∧ W.heap[w.heap.size + 1]? = some (.cells #[.bool false, .slice none 0 0, .int .i64 0] 24 (0, 0))) ∧ W.heap.size = w.heap.size + 1 + 1 ∧ Below w.heap.size w W) := ⟨⟨hA, hC⟩, hsz, hBW⟩
  clear hA hC hsz hBW kV
  go_enter Tryz.func31, Tryz.ntmps31
  go_wp2_with fail
  rw [← hW]
  clear hW
  refine k1.mono ?_
  rintro r w1 ⟨rfl, hB1⟩
  clear k1
  have HB1 : Hid (Below W.heap.size W w1) := hB1
  obtain ⟨⟨a0, a1, a2⟩, -⟩ := box_cells29 (box_later HH.out.1.1 HB1.out (by have := HH.out.2.1; omega))
  clear hB1
  have HCz : Hid (w1.heap[w.heap.size + 1]? = some (.cells #[.bool false, .slice none 0 0, .int .i64 0] 24 (0, 0))) := box_later HH.out.1.2 HB1.out (by have := HH.out.2.1; omega)
  obtain ⟨⟨c0, c1, c2⟩, c3, c4, c5⟩ := box_cells29 HCz.out
  have kP : Calls Tryz.prog 78 #[.int .i64 place] w1 fun r w' => r = .returned (.bool false) ∧ w' = w1 := (rplaced place w1).mono fun r w' ⟨e1, e2⟩ => ⟨by rw [e1, hp], e2⟩
  go_wp2_with fail
  refine kP.mono ?_
  rintro r w2 ⟨rfl, rfl⟩
  clear kP
  go_wp2
  refine bodyPost_ret (results_cell_tmp2_row rfl _ _ (w.heap.size + 1) 24 #[.bool false, .slice none 0 0, .int .i64 0] (0, 0) _ rfl (store3_29 _ _ _ HCz.out) Tryz.underlying24 rfl Tryz.info24) rfl ?_
  exact ⟨rfl, below_store3 (HH.out.2.2.trans (HB1.out.mono HH.out.2.2.size)) (by omega) _ _ _⟩
end Go.Proofs.YtmhpicccfaklcaaGreatDoor

/- The document's Floor, joined. -/
namespace Go.Proofs.YtmhpicccfaklcaaGreatDoor
set_option linter.unusedVariables false
set_option linter.unusedSimpArgs false
open Go.RowKit

/-- what a number is cut to, and whether nothing is lost -/
def flM (x : Nat) (ea place : Int) : Nat := if 0 ≤ ea + place then x * 2 ^ (ea + place).toNat else x / 2 ^ (-(ea + place)).toNat
def flE (x : Nat) (ea place : Int) : Bool := decide (0 ≤ ea + place) || decide (x = 0)
def flZ (na : Bool) (x : Nat) (ea place : Int) : Nat := if na && !(flE x ea place) then flM x ea place + 1 else flM x ea place
theorem tz_shl {x k : Nat} (h : x % 2 = 1) : tz (x * 2 ^ k) = k := by rw [Nat.mul_comm]; exact tz_pow k x h
theorem cn_shl {s : Bool} {x k : Nat} {e : Int} (h : x % 2 = 1) : cn s (x * 2 ^ k) e = (s, x, e + k) := by
  unfold cn
  have h0 : x * 2 ^ k ≠ 0 := Nat.mul_ne_zero (by omega) (by have := Nat.two_pow_pos k; omega)
  rw [if_neg h0, tz_shl h, Nat.mul_div_cancel _ (Nat.two_pow_pos k)]
theorem flZ_len {na : Bool} {x : Nat} {ea place : Int} (hx : dlen x ≤ 3000) (ha : -200000 ≤ ea ∧ ea ≤ 200000) (hp : -200000 ≤ place ∧ place ≤ 200000) : dlen (flZ na x ea place) ≤ 30000 := by
  have h1 : dlen (flM x ea place) ≤ 25000 := by
    unfold flM
    split
    · have := shl_len (x := x) (k := (ea + place).toNat) rfl
      omega
    · exact Nat.le_trans (dlen_mono (Nat.div_le_self _ _)) (by omega)
  unfold flZ
  split
  · exact Nat.le_trans (dlen_succ_le _) (by omega)
  · omega
theorem rfloor_good {na : Bool} {ua : Option Addr} {uc x : Nat} {ea place : Int} {w : World} (h1 : Arg w ua (dlen x) uc x) (ok : Ok (na, x, ea)) (hoka : okN na (dlen x) x ea = true) (hp : -65536 ≤ place ∧ place ≤ 65536) :
    Calls Tryz.prog 31 #[.agg #[.bool na, .slice ua (dlen x) uc, .int .i64 ea], .int .i64 place] w fun r w' => Ans3 w (okR na (flZ na x ea place) (-place)) (cn na (flZ na x ea place) (-place)) (flE x ea place) r w' := by
  obtain ⟨hx, ha1, ha2, hz, hodd⟩ := ok.facts
  simp only at hx ha1 ha2 hz hodd
  have hzl := flZ_len (na := na) (x := x) (ea := ea) (place := place) (by omega) ⟨by omega, by omega⟩ ⟨by omega, by omega⟩
  have kV : ∀ W, Below w.heap.size w W → Calls Tryz.prog 11 #[.agg #[.bool na, .slice ua (dlen x) uc, .int .i64 ea]] W fun r w' => r = .returned (.bool true) ∧ Below W.heap.size W w' := fun W hW => by
    have := rvalid (s := na) (e := ea) (h1.later hW)
    rw [hoka] at this
    exact this
  by_cases hx0 : x = 0
  · have ht := hz hx0
    simp only [Prod.mk.injEq] at ht
    obtain ⟨rfl, -, rfl⟩ := ht
    subst hx0
    have e1 : flE 0 0 place = true := by unfold flE; simp
    have e2 : flZ false 0 0 place = 0 := by unfold flZ flM; simp
    have e3 : cn false 0 (-place) = (false, 0, 0) := by unfold cn; rw [if_pos rfl]
    rw [e1, e2, okR_cn, e3]
    refine rfloor_e false ua _ uc 0 place false 0 0 _ w rfl (by omega) hp.1 hp.2 kV (fun W hW => ?_)
    rw [dlen_zero]
    refine (rcut_z false ua 0 uc 0 place W (by omega) (by omega) (by omega) (by omega)).mono ?_
    rintro r w' ⟨rfl, hb⟩
    exact ⟨ua, uc, rfl, by have := (h1.later hW).later hb; rw [dlen_zero] at this; exact this, hb⟩
  · have hxo := hodd hx0
    have hn0 : ((dlen x : Int) == 0) = false := len_ne (n := 0) hx0
    by_cases hs : 0 ≤ ea + place
    · obtain ⟨k, hk⟩ : ∃ k : Nat, ea + place = (k : Int) := ⟨(ea + place).toNat, by omega⟩
      have e1 : flE x ea place = true := by unfold flE; rw [decide_eq_true hs]; rfl
      have e2 : flZ na x ea place = x * 2 ^ k := by unfold flZ; rw [e1, Bool.not_true, Bool.and_false, if_neg (by decide)]; unfold flM; rw [if_pos hs, hk, Int.toNat_natCast]
      have e3 : cn na (x * 2 ^ k) (-place) = (na, x, ea) := by rw [cn_shl hxo, show -place + (k : Int) = ea by omega]
      rw [e1, e2, okR_cn, e3]
      refine rfloor_e na ua _ uc ea place na x ea _ w rfl (by omega) hp.1 hp.2 kV (fun W hW => ?_)
      refine (rcut_w na ua _ uc ea place W (by omega) (by omega) (by omega) (by omega) hn0 (by omega) (by omega)).mono ?_
      rintro r w' ⟨rfl, hb⟩
      exact ⟨ua, uc, rfl, (h1.later hW).later hb, hb⟩
    · obtain ⟨k, hk⟩ : ∃ k : Nat, -place - ea = (k : Int) := ⟨(-place - ea).toNat, by omega⟩
      have e1 : flE x ea place = false := by unfold flE; rw [decide_eq_false hs, decide_eq_false hx0]; rfl
      have e2 : flZ na x ea place = if na then x / 2 ^ k + 1 else x / 2 ^ k := by
        unfold flZ; rw [e1, Bool.not_false, Bool.and_true]; unfold flM; rw [if_neg hs, show (-(ea + place)).toNat = k by omega]
      rw [e1, okR_cn]
      have hcl := cn_dlen (s := na) (z := flZ na x ea place) (e := -place)
      refine rfloor_r na ua _ uc ea place (cn na (flZ na x ea place) (-place)).1 (cn na (flZ na x ea place) (-place)).2.1 (cn na (flZ na x ea place) (-place)).2.2 _ w rfl (Nat.le_trans hcl (by omega)) hp.1 hp.2 kV (fun W hW => ?_)
      rw [e2]
      cases na
      · refine (rcut_p ua uc x k ea place W (h1.later hW).at_ h1.le hx0 (by omega) (by omega) (by omega) (by omega) (by omega) hk (by omega) (by omega)).mono ?_
        rintro r w' ⟨A, rfl, ⟨ao, cap, hA, hAr, -⟩, hb⟩
        exact ⟨ao, cap, by rw [hA]; rfl, hAr, hb⟩
      · refine (rcut_n ua uc x k ea place W (h1.later hW).at_ h1.le hx0 (by omega) (by omega) (by omega) (by omega) (by omega) hk (by omega) (by omega)).mono ?_
        rintro r w' ⟨A, rfl, ⟨ao, cap, hA, hAr, -⟩, hb⟩
        exact ⟨ao, cap, by rw [hA]; rfl, hAr, hb⟩
end Go.Proofs.YtmhpicccfaklcaaGreatDoor

/- The program's Floor. -/
namespace Go.Proofs.YtmhpicccfaklcaaGreatDoor
set_option linter.unusedVariables false
set_option linter.unusedSimpArgs false
open Go.RowKit

set_option maxHeartbeats 4000000 in
set_option maxRecDepth 200000 in
theorem floor_1 (na : Bool) (ua : Option Addr) (un uc Q z : Nat) (ea place : Int) (bb : Bool) (w : World) (hzz : Hid ((if na && !bb then Q + 1 else Q) = z)) (hT : Tab32 w) (hQ : dlen Q ≤ 900000) (hp : -65536 ≤ place ∧ place ≤ 65536)
    (k43 : ∀ W g, Below w.heap.size w W → W.heap[g]? = some (.cells #[.bool na, .slice ua un uc, .int .i64 ea] 25 (0, 0)) → Calls Tryz.prog 47 #[.slice (some ⟨g, 0, none⟩) 1 1] W fun r w' => r = .returned (.bool true) ∧ Below W.heap.size W w')
    (kR : ∀ W, Below w.heap.size w W → Calls Tryz.prog 76 #[.agg #[.bool na, .slice ua un uc, .int .i64 ea], .int .i64 place] W fun r w' => ∃ v, r = .returned (.tuple #[v, .bool bb]) ∧ Own w' W.heap.size v Q ∧ Below W.heap.size W w') :
    Calls Tryz.prog 30 #[.agg #[.bool na, .slice ua un uc, .int .i64 ea], .int .i64 place] w fun r w' => Held3 w na z (-place) bb r w' := by
  obtain ⟨W, hW⟩ : ∃ W, W = (w.alloc (.cells #[.bool na, .slice ua un uc, .int .i64 ea] 25)).alloc (.cells #[.bool false, .slice none 0 0, .int .i64 0] 25) := ⟨_, rfl⟩
  have hBW : Below w.heap.size w W := by rw [hW]; exact ((Below.refl _ _).alloc (Nat.le_refl _) _).alloc (by simp) _
  have hbA : W.heap[w.heap.size]? = some (.cells #[.bool na, .slice ua un uc, .int .i64 ea] 25 (0, 0)) := by
    rw [hW, Below.heap_alloc _ _ _ (by simp)]; exact heap_alloc_new _ _
  have hbB : W.heap[w.heap.size + 1]? = some (.cells #[.bool false, .slice none 0 0, .int .i64 0] 25 (0, 0)) := by
    have := heap_alloc_new (w.alloc (.cells #[.bool na, .slice ua un uc, .int .i64 ea] 25)) (.cells #[.bool false, .slice none 0 0, .int .i64 0] 25)
    rw [hW]; simpa using this
  have hsz : W.heap.size = w.heap.size + 1 + 1 := by rw [hW]; simp
  have k1 := k43 (W.alloc (.cells #[.bool na, .slice ua un uc, .int .i64 ea] 25)) (w.heap.size + 1 + 1) (hBW.alloc hBW.size _) (by rw [← hsz]; exact heap_alloc_new _ _)
  have HX : Hid (Below w.heap.size w W ∧ W.heap.size = w.heap.size + 1 + 1 ∧ W.heap[w.heap.size]? = some (.cells #[.bool na, .slice ua un uc, .int .i64 ea] 25 (0, 0)) ∧ W.heap[w.heap.size + 1]? = some (.cells #[.bool false, .slice none 0 0, .int .i64 0] 25 (0, 0))) := ⟨hBW, hsz, hbA, hbB⟩
  have HKR : Hid (∀ W, Below w.heap.size w W → Calls Tryz.prog 76 #[.agg #[.bool na, .slice ua un uc, .int .i64 ea], .int .i64 place] W fun r w' => ∃ v, r = .returned (.tuple #[v, .bool bb]) ∧ Own w' W.heap.size v Q ∧ Below W.heap.size W w') := kR
  have HT : Hid (Tab32 w ∧ dlen Q ≤ 900000 ∧ -65536 ≤ place ∧ place ≤ 65536) := ⟨hT, hQ, hp⟩
  have k94 := c94 place
  clear hBW hsz hbA hbB k43 kR hT hQ
  go_enter Tryz.func30, Tryz.ntmps30
  go_wp2_with fail
  rw [← hW]
  clear hW
  refine k1.mono ?_
  rintro r w1 ⟨rfl, hb1⟩
  have HB1 : Hid (Below W.heap.size W w1) := ((Below.refl W.heap.size W).alloc (Nat.le_refl _) _).trans (hb1.mono (by simp))
  have HW1 : Hid (Below w.heap.size w w1) := HX.out.1.trans (HB1.out.mono HX.out.1.size)
  obtain ⟨⟨a0, a1, a2⟩, -⟩ := box_cells (box_later HX.out.2.2.1 HB1.out (by have := HX.out.2.1; omega))
  clear k1 hb1
  go_wp2_with fail
  refine (k94 w1 hp).mono ?_
  rintro r w1' ⟨rfl, hw⟩
  replace hw := hw.symm
  subst hw
  clear k94
  have k2 := HKR.out w1 HW1.out
  go_wp2_with fail
  refine k2.mono ?_
  rintro r w2 ⟨v, rfl, ho, hb2⟩
  have HB2 : Hid (Below W.heap.size W w2) := HB1.out.trans (hb2.mono HB1.out.size)
  have HW2 : Hid (Below w.heap.size w w2) := HW1.out.trans (hb2.mono HW1.out.size)
  have k96 := c96 (neg := na) (exact := bb) (place := place) (HT.out.1.later HW2.out) ho.is HT.out.2.1 (by omega) (by omega)
  rw [hzz.out] at k96
  obtain ⟨ao, cap, rfl, -, -, -⟩ := ho.is
  generalize dlen Q = nm at *
  clear k2 ho hb2 a0 a1 a2
  obtain ⟨⟨a0, a1, a2⟩, -⟩ := box_cells (box_later HX.out.2.2.1 HB2.out (by have := HX.out.2.1; omega))
  go_wp2_with fail
  refine k96.mono ?_
  clear k96
  rintro r w4 ⟨A, rfl, hN, hB4⟩
  have HB4 : Hid (Below W.heap.size W w4) := HB2.out.trans (hB4.mono HB2.out.size)
  have HN4 : Hid (Nrm w4 W.heap.size A na z (-place)) := hN.mono HB2.out.size
  have HC4 : Hid (w4.heap[w.heap.size + 1]? = some (.cells #[.bool false, .slice none 0 0, .int .i64 0] 25 (0, 0))) := box_later HX.out.2.2.2 HB4.out (by have := HX.out.2.1; omega)
  obtain ⟨⟨x1, x2, x3⟩, x4, x5, x6⟩ := box_cells HC4.out
  obtain ⟨s', ao, n, cap, ex, hsh⟩ := HN4.out.shape
  clear hN hB4
  have HF : Hid (∀ p q r, Nrm (((w4.setCell ⟨w.heap.size + 1, 0, none⟩ p).setCell ⟨w.heap.size + 1, 1, none⟩ q).setCell ⟨w.heap.size + 1, 2, none⟩ r) w.heap.size A na z (-place) ∧ Below w.heap.size w (((w4.setCell ⟨w.heap.size + 1, 0, none⟩ p).setCell ⟨w.heap.size + 1, 1, none⟩ q).setCell ⟨w.heap.size + 1, 2, none⟩ r)) := fun p q r =>
    ⟨(HN4.out.store (by have := HX.out.2.1; omega) _ _ _).mono (by have := HX.out.2.1; omega), below_store3 (HX.out.1.trans (HB4.out.mono HX.out.1.size)) (by omega) _ _ _⟩
  cases hok : okR na z (-place)
  · have hNil : Nil = .agg #[.bool false, .slice none 0 0, .int .i64 0] := rfl
    clear hsh
    go_wp2
    refine bodyPost_ret (results_cell_tmp2_row rfl _ _ (w.heap.size + 1) 25 #[.bool false, .slice none 0 0, .int .i64 0] (0, 0) _ rfl (store3 _ _ _ HC4.out) Tryz.underlying25 rfl Tryz.info25) rfl ?_
    exact ⟨A, by rw [hok]; simp [hNil], HF.out _ _ _⟩
  · subst hsh
    go_wp2
    refine bodyPost_ret (results_cell_tmp2_row rfl _ _ (w.heap.size + 1) 25 #[.bool s', .slice ao n cap, .int .i64 ex] (0, 0) _ rfl (store3 _ _ _ HC4.out) Tryz.underlying25 rfl Tryz.info25) rfl ?_
    exact ⟨_, by rw [hok]; simp, HF.out _ _ _⟩

theorem floor_ok {na : Bool} {ua : Option Addr} {uc x : Nat} {ea place : Int} {w : World} (h1 : Is w (.slice ua (dlen x) uc) x) (hT : Tab32 w) (hx : dlen x ≤ 2048) (hoka : okN na (dlen x) x ea = true) (ha : -65536 ≤ ea ∧ ea ≤ 65536) (hp : -65536 ≤ place ∧ place ≤ 65536) :
    Calls Tryz.prog 30 #[.agg #[.bool na, .slice ua (dlen x) uc, .int .i64 ea], .int .i64 place] w fun r w' => Held3 w na (flZ na x ea place) (-place) (flE x ea place) r w' := by
  have hq : dlen (flM x ea place) ≤ 900000 := by
    unfold flM
    split
    · have := shl_len (x := x) (k := (ea + place).toNat) rfl; omega
    · exact Nat.le_trans (dlen_mono (Nat.div_le_self ..)) (by omega)
  refine floor_1 na ua _ uc (flM x ea place) (flZ na x ea place) ea place (flE x ea place) w rfl hT hq hp (fun W g hW hg => ?_) (fun W hW => ?_)
  · have := maybe1 hg (h1.later hW) (by omega)
    rw [hoka] at this
    exact this
  · refine (c95 (neg := na) (h1.later hW) (by omega) (by omega) (by omega)).mono ?_
    rintro r w' ⟨v, rfl, ho, hb⟩
    refine ⟨v, ?_, ho, hb⟩
    have : decide (0 ≤ ea + place ∨ x = 0) = flE x ea place := by unfold flE; rw [Bool.decide_or]
    rw [this]
end Go.Proofs.YtmhpicccfaklcaaGreatDoor

/- The document's Root. -/
namespace Go.Proofs.YtmhpicccfaklcaaGreatDoor
set_option linter.unusedVariables false
set_option linter.unusedSimpArgs false
open Go.RowKit

set_option maxHeartbeats 4000000 in
set_option maxRecDepth 200000 in
theorem rroot_z (ua : Option Addr) (un uc : Nat) (ea place t : Int) (f : Nat → Bool) (P : Nat → Prop) (w : World) (hp1 : -65536 ≤ place) (hp2 : place ≤ 65536) (kV : ∀ W, Below w.heap.size w W → Calls Tryz.prog 11 #[.agg #[.bool false, .slice ua 0 uc, .int .i64 ea]] W fun r w' => r = .returned (.bool true) ∧ Below W.heap.size W w')
    (kR : ∀ W, Below w.heap.size w W → Calls Tryz.prog 87 #[.agg #[.bool false, .slice ua 0 uc, .int .i64 ea], .int .i64 place] W fun r w' => ∃ A s, r = .returned (.tuple #[A, .bool (f s)]) ∧ NC w' W.heap.size A false s (-place) ∧ P s ∧ dlen s ≤ 35184372088832 ∧ Below W.heap.size W w') :
    Calls Tryz.prog 35 #[.agg #[.bool false, .slice ua 0 uc, .int .i64 ea], .int .i64 place] w fun r w' => ∃ s, P s ∧ Ans3 w (okR false s (-place)) (cn false s (-place)) (f s) r w' := by
  have HKR : Hid (∀ W, Below w.heap.size w W → Calls Tryz.prog 87 #[.agg #[.bool false, .slice ua 0 uc, .int .i64 ea], .int .i64 place] W fun r w' => ∃ A s, r = .returned (.tuple #[A, .bool (f s)]) ∧ NC w' W.heap.size A false s (-place) ∧ P s ∧ dlen s ≤ 35184372088832 ∧ Below W.heap.size W w') := kR
  clear kR
  obtain ⟨W, hW⟩ : ∃ W, W = (w.alloc (.cells #[.bool false, .slice ua 0 uc, .int .i64 ea] 24)).alloc (.cells #[.bool false, .slice none 0 0, .int .i64 0] 24) := ⟨_, rfl⟩
  obtain ⟨hA, hC, hsz, hBW⟩ := two29 _ _ hW
  have k1 := kV W hBW
  have HH : Hid ((W.heap[w.heap.size]? = some (.cells #[.bool false, .slice ua 0 uc, .int .i64 ea] 24 (0, 0)) ∧ W.heap[w.heap.size + 1]? = some (.cells #[.bool false, .slice none 0 0, .int .i64 0] 24 (0, 0))) ∧ W.heap.size = w.heap.size + 1 + 1 ∧ Below w.heap.size w W) := ⟨⟨hA, hC⟩, hsz, hBW⟩
  clear hA hC hsz hBW kV
  go_enter Tryz.func35, Tryz.ntmps35
  go_wp2_with fail
  rw [← hW]
  clear hW
  refine k1.mono ?_
  rintro r w1 ⟨rfl, hB1⟩
  clear k1
  have HB1 : Hid (Below W.heap.size W w1) := hB1
  obtain ⟨⟨a0, a1, a2⟩, -⟩ := box_cells29 (box_later HH.out.1.1 HB1.out (by have := HH.out.2.1; omega))
  clear hB1
  have kP : Calls Tryz.prog 78 #[.int .i64 place] w1 fun r w' => r = .returned (.bool true) ∧ w' = w1 := (rplaced place w1).mono fun r w' ⟨e1, e2⟩ => ⟨by rw [e1, decide_eq_true hp1, decide_eq_true hp2]; rfl, e2⟩
  go_wp2_with fail
  refine kP.mono ?_
  rintro r w2 ⟨rfl, rfl⟩
  clear kP
  obtain ⟨w2b, hw2b⟩ : ∃ w2b, w2b = w2 := ⟨_, rfl⟩
  have HB2 : Hid (Below W.heap.size W w2b) := hw2b ▸ HB1.out
  rw [← hw2b] at a0 a1 a2 ⊢
  clear hw2b
  have ko := HKR.out w2b (HH.out.2.2.trans (HB2.out.mono HH.out.2.2.size))
  go_wp2_with fail
  refine ko.mono ?_
  rintro r w3 ⟨A, s, rfl, hN, hPs, hsl, hB3⟩
  have HB3 : Hid (Below W.heap.size W w3) := HB2.out.trans (hB3.mono HB2.out.size)
  obtain ⟨s3, ao3, n3, cap3, e3, rfl⟩ := hN.shape
  obtain ⟨w4, hw4⟩ : ∃ w4, w4 = w3.alloc (.cells #[.bool s3, .slice ao3 n3 cap3, .int .i64 e3] 24) := ⟨_, rfl⟩
  have hB34 : Below w3.heap.size w3 w4 := by rw [hw4]; exact (Below.refl _ _).alloc (Nat.le_refl _) _
  have hbox : w4.heap[w3.heap.size]? = some (.cells #[.bool s3, .slice ao3 n3 cap3, .int .i64 e3] 24 (0, 0)) := by rw [hw4]; exact heap_alloc_new _ _
  have HB4 : Hid (Below W.heap.size W w4) := HB3.out.trans (hB34.mono HB3.out.size)
  obtain ⟨V, hV⟩ : ∃ V, okR false s (-place) = V := ⟨_, rfl⟩
  have hV2 := hV
  rw [okR_cn] at hV2
  have kk := kept_rn (hN.rn.later hB34) (Nat.le_trans cn_dlen hsl) V hV2
  obtain ⟨bx, hbx⟩ : ∃ bx, f s = bx := ⟨_, rfl⟩
  rw [hbx]
  have HS : Hid (P s ∧ okR false s (-place) = V ∧ f s = bx) := ⟨hPs, hV, hbx⟩
  have HBX : Hid (w4.heap[w3.heap.size]? = some (.cells #[.bool s3, .slice ao3 n3 cap3, .int .i64 e3] 24 (0, 0)) ∧ W.heap.size ≤ w3.heap.size ∧ w2b.heap.size ≤ w3.heap.size ∧ w3.heap.size < w4.heap.size) := ⟨hbox, HB3.out.size, hB3.size, (Array.getElem?_eq_some_iff.1 hbox).1⟩
  obtain ⟨⟨d0, d1, d2⟩, d3, d4, d5⟩ := box_cells29 hbox
  clear ko hN hPs hsl hB3 hB34 hbox a0 a1 a2 hV hV2 hbx
  rw [hw4] at d0 d1 d2 d3 d4 d5
  go_wp2_with fail
  rw [← hw4]
  clear hw4 d0 d1 d2 d3 d4 d5
  refine kk.mono ?_
  rintro r w5 ⟨⟨s5, ao5, n5, cap5, e5, rfl, hN5⟩, hB5⟩
  have HB5 : Hid (Below W.heap.size W w5) := HB4.out.trans (hB5.mono HB4.out.size)
  have hE0 : (((if V then (0 : Int) else 2)) == 0) = V := by cases V <;> rfl
  generalize hE : (if V then (0 : Int) else 2) = E at *
  have HE : Hid ((if V then (0 : Int) else 2) = E) := hE
  clear hE
  have HBX5 : Hid (w5.heap[w3.heap.size]? = some (.cells #[.bool s3, .slice ao3 n3 cap3, .int .i64 e3] 24 (0, 0))) := box_later HBX.out.1 hB5 HBX.out.2.2.2
  have HCz : Hid (w5.heap[w.heap.size + 1]? = some (.cells #[.bool false, .slice none 0 0, .int .i64 0] 24 (0, 0))) := box_later HH.out.1.2 HB5.out (by have := HH.out.2.1; omega)
  obtain ⟨⟨d0, d1, d2⟩, d3, d4, d5⟩ := box_cells29 HBX5.out
  have hne : w3.heap.size ≠ w.heap.size + 1 := by have := HBX.out.2.1; have := HH.out.2.1; omega
  obtain ⟨w6, hw6⟩ : ∃ w6, w6 = ((w5.setCell ⟨w3.heap.size, 0, none⟩ (.bool s5)).setCell ⟨w3.heap.size, 1, none⟩ (.slice ao5 n5 cap5)).setCell ⟨w3.heap.size, 2, none⟩ (.int .i64 e5) := ⟨_, rfl⟩
  have hb6 : w6.heap[w3.heap.size]? = some (.cells #[.bool s5, .slice ao5 n5 cap5, .int .i64 e5] 24 (0, 0)) := by rw [hw6]; exact store3_29 _ _ _ HBX5.out
  have hc6 : w6.heap[w.heap.size + 1]? = some (.cells #[.bool false, .slice none 0 0, .int .i64 0] 24 (0, 0)) := by
    rw [hw6, setCell_block _ _ (Ne.symm hne), setCell_block _ _ (Ne.symm hne), setCell_block _ _ (Ne.symm hne)]; exact HCz.out
  have HN6 : Hid (RN w6 w2b.heap.size (.agg #[.bool s5, .slice ao5 n5 cap5, .int .i64 e5]) (Ans V (cn false s (-place)))) := by rw [hw6]; exact rn_store3 hN5.out HBX5.out _ _ _
  have HB6 : Hid (Below W.heap.size W w6) := by rw [hw6]; exact below_store3 HB5.out HBX.out.2.1 _ _ _
  have HC6 : Hid (w6.heap[w.heap.size + 1]? = some (.cells #[.bool false, .slice none 0 0, .int .i64 0] 24 (0, 0))) := hc6
  clear kk hB5
  go_upto_region 13 with fail
  rw [← hw6]
  clear hw6 d0 d1 d2 d3 d4 d5
  obtain ⟨⟨d0, d1, d2⟩, d3, d4, d5⟩ := box_cells29 hb6
  obtain ⟨⟨c0, c1, c2⟩, c3, c4, c5⟩ := box_cells29 hc6
  clear hb6 hc6
  have q1 := HH.out.2.1
  have q2 := HB2.out.size
  cases bx
  all_goals
    go_wp2
    refine bodyPost_ret (results_cell_tmp2_row rfl _ _ (w.heap.size + 1) 24 #[.bool s5, .slice ao5 n5 cap5, .int .i64 e5] (0, 0) _ rfl (store3_29 _ _ _ HC6.out) Tryz.underlying24 rfl Tryz.info24) rfl ?_
    refine ⟨s, HS.out.1, ?_⟩
    rw [HS.out.2.1, HS.out.2.2]
    refine ⟨_, ?_, (rn_store HN6.out HC6.out _ _ _).mono (by omega), below_store3 (HH.out.2.2.trans (HB6.out.mono HH.out.2.2.size)) (by omega) _ _ _⟩
    rw [HE.out]
    first | rfl | (rw [Bool.true_and]; rfl)
set_option maxHeartbeats 4000000 in
set_option maxRecDepth 200000 in
theorem rroot_p (ua : Option Addr) (un uc : Nat) (ea place t : Int) (f : Nat → Bool) (P : Nat → Prop) (w : World) (hp1 : -65536 ≤ place) (hp2 : place ≤ 65536) (hn0 : (0 : Int) < (un : Int)) (hn : un ≤ 1000000) (ht1 : -200000 ≤ t) (ht2 : t ≤ 140000) (kV : ∀ W, Below w.heap.size w W → Calls Tryz.prog 11 #[.agg #[.bool false, .slice ua un uc, .int .i64 ea]] W fun r w' => r = .returned (.bool true) ∧ Below W.heap.size W w')
    (kH : ∀ W, Below w.heap.size w W → Calls Tryz.prog 56 #[.agg #[.bool false, .slice ua un uc, .int .i64 ea]] W fun r w' => r = .returned (.int .i64 t) ∧ Below W.heap.size W w')
    (kR : ∀ W, Below w.heap.size w W → Calls Tryz.prog 87 #[.agg #[.bool false, .slice ua un uc, .int .i64 ea], .int .i64 place] W fun r w' => ∃ A s, r = .returned (.tuple #[A, .bool (f s)]) ∧ NC w' W.heap.size A false s (-place) ∧ P s ∧ dlen s ≤ 35184372088832 ∧ Below W.heap.size W w') :
    Calls Tryz.prog 35 #[.agg #[.bool false, .slice ua un uc, .int .i64 ea], .int .i64 place] w fun r w' => ∃ s, P s ∧ Ans3 w (okR false s (-place)) (cn false s (-place)) (f s) r w' := by
  have HKR : Hid (∀ W, Below w.heap.size w W → Calls Tryz.prog 87 #[.agg #[.bool false, .slice ua un uc, .int .i64 ea], .int .i64 place] W fun r w' => ∃ A s, r = .returned (.tuple #[A, .bool (f s)]) ∧ NC w' W.heap.size A false s (-place) ∧ P s ∧ dlen s ≤ 35184372088832 ∧ Below W.heap.size W w') := kR
  have HKH : Hid (∀ W, Below w.heap.size w W → Calls Tryz.prog 56 #[.agg #[.bool false, .slice ua un uc, .int .i64 ea]] W fun r w' => r = .returned (.int .i64 t) ∧ Below W.heap.size W w') := kH
  clear kH
  obtain ⟨t2, ht3⟩ : ∃ t2 : Int, t.tdiv 2 = t2 := ⟨_, rfl⟩
  have ht4 : t2 ≤ 70000 ∧ -100000 ≤ t2 := by rw [← ht3]; constructor <;> (first | omega | (rw [Int.tdiv_eq_ediv, show Int.sign 2 = 1 from rfl]; split <;> omega))
  obtain ⟨ht5, ht6⟩ := ht4
  have hgt : ¬ 262144 < t2 + place := by omega
  have hgd : decide (262144 < t2 + place) = false := decide_eq_false hgt
  clear kR
  obtain ⟨W, hW⟩ : ∃ W, W = (w.alloc (.cells #[.bool false, .slice ua un uc, .int .i64 ea] 24)).alloc (.cells #[.bool false, .slice none 0 0, .int .i64 0] 24) := ⟨_, rfl⟩
  obtain ⟨hA, hC, hsz, hBW⟩ := two29 _ _ hW
  have k1 := kV W hBW
  have HH : Hid ((W.heap[w.heap.size]? = some (.cells #[.bool false, .slice ua un uc, .int .i64 ea] 24 (0, 0)) ∧ W.heap[w.heap.size + 1]? = some (.cells #[.bool false, .slice none 0 0, .int .i64 0] 24 (0, 0))) ∧ W.heap.size = w.heap.size + 1 + 1 ∧ Below w.heap.size w W) := ⟨⟨hA, hC⟩, hsz, hBW⟩
  clear hA hC hsz hBW kV
  go_enter Tryz.func35, Tryz.ntmps35
  go_wp2_with fail
  rw [← hW]
  clear hW
  refine k1.mono ?_
  rintro r w1 ⟨rfl, hB1⟩
  clear k1
  have HB1 : Hid (Below W.heap.size W w1) := hB1
  obtain ⟨⟨a0, a1, a2⟩, -⟩ := box_cells29 (box_later HH.out.1.1 HB1.out (by have := HH.out.2.1; omega))
  clear hB1
  have kP : Calls Tryz.prog 78 #[.int .i64 place] w1 fun r w' => r = .returned (.bool true) ∧ w' = w1 := (rplaced place w1).mono fun r w' ⟨e1, e2⟩ => ⟨by rw [e1, decide_eq_true hp1, decide_eq_true hp2]; rfl, e2⟩
  go_wp2_with fail
  refine kP.mono ?_
  rintro r w2 ⟨rfl, rfl⟩
  clear kP
  have kh := HKH.out w2 (HH.out.2.2.trans (HB1.out.mono HH.out.2.2.size))
  go_wp2_with fail
  refine kh.mono ?_
  rintro r w2b ⟨rfl, hB2b⟩
  have HB2 : Hid (Below W.heap.size W w2b) := HB1.out.trans (hB2b.mono HB1.out.size)
  clear kh hB2b a0 a1 a2
  obtain ⟨⟨a0, a1, a2⟩, -⟩ := box_cells29 (box_later HH.out.1.1 HB2.out (by have := HH.out.2.1; omega))
  have ko := HKR.out w2b (HH.out.2.2.trans (HB2.out.mono HH.out.2.2.size))
  go_wp2_with fail
  refine ko.mono ?_
  rintro r w3 ⟨A, s, rfl, hN, hPs, hsl, hB3⟩
  have HB3 : Hid (Below W.heap.size W w3) := HB2.out.trans (hB3.mono HB2.out.size)
  obtain ⟨s3, ao3, n3, cap3, e3, rfl⟩ := hN.shape
  obtain ⟨w4, hw4⟩ : ∃ w4, w4 = w3.alloc (.cells #[.bool s3, .slice ao3 n3 cap3, .int .i64 e3] 24) := ⟨_, rfl⟩
  have hB34 : Below w3.heap.size w3 w4 := by rw [hw4]; exact (Below.refl _ _).alloc (Nat.le_refl _) _
  have hbox : w4.heap[w3.heap.size]? = some (.cells #[.bool s3, .slice ao3 n3 cap3, .int .i64 e3] 24 (0, 0)) := by rw [hw4]; exact heap_alloc_new _ _
  have HB4 : Hid (Below W.heap.size W w4) := HB3.out.trans (hB34.mono HB3.out.size)
  obtain ⟨V, hV⟩ : ∃ V, okR false s (-place) = V := ⟨_, rfl⟩
  have hV2 := hV
  rw [okR_cn] at hV2
  have kk := kept_rn (hN.rn.later hB34) (Nat.le_trans cn_dlen hsl) V hV2
  obtain ⟨bx, hbx⟩ : ∃ bx, f s = bx := ⟨_, rfl⟩
  rw [hbx]
  have HS : Hid (P s ∧ okR false s (-place) = V ∧ f s = bx) := ⟨hPs, hV, hbx⟩
  have HBX : Hid (w4.heap[w3.heap.size]? = some (.cells #[.bool s3, .slice ao3 n3 cap3, .int .i64 e3] 24 (0, 0)) ∧ W.heap.size ≤ w3.heap.size ∧ w2b.heap.size ≤ w3.heap.size ∧ w3.heap.size < w4.heap.size) := ⟨hbox, HB3.out.size, hB3.size, (Array.getElem?_eq_some_iff.1 hbox).1⟩
  obtain ⟨⟨d0, d1, d2⟩, d3, d4, d5⟩ := box_cells29 hbox
  clear ko hN hPs hsl hB3 hB34 hbox a0 a1 a2 hV hV2 hbx
  rw [hw4] at d0 d1 d2 d3 d4 d5
  go_wp2_with fail
  rw [← hw4]
  clear hw4 d0 d1 d2 d3 d4 d5
  refine kk.mono ?_
  rintro r w5 ⟨⟨s5, ao5, n5, cap5, e5, rfl, hN5⟩, hB5⟩
  have HB5 : Hid (Below W.heap.size W w5) := HB4.out.trans (hB5.mono HB4.out.size)
  have hE0 : (((if V then (0 : Int) else 2)) == 0) = V := by cases V <;> rfl
  generalize hE : (if V then (0 : Int) else 2) = E at *
  have HE : Hid ((if V then (0 : Int) else 2) = E) := hE
  clear hE
  have HBX5 : Hid (w5.heap[w3.heap.size]? = some (.cells #[.bool s3, .slice ao3 n3 cap3, .int .i64 e3] 24 (0, 0))) := box_later HBX.out.1 hB5 HBX.out.2.2.2
  have HCz : Hid (w5.heap[w.heap.size + 1]? = some (.cells #[.bool false, .slice none 0 0, .int .i64 0] 24 (0, 0))) := box_later HH.out.1.2 HB5.out (by have := HH.out.2.1; omega)
  obtain ⟨⟨d0, d1, d2⟩, d3, d4, d5⟩ := box_cells29 HBX5.out
  have hne : w3.heap.size ≠ w.heap.size + 1 := by have := HBX.out.2.1; have := HH.out.2.1; omega
  obtain ⟨w6, hw6⟩ : ∃ w6, w6 = ((w5.setCell ⟨w3.heap.size, 0, none⟩ (.bool s5)).setCell ⟨w3.heap.size, 1, none⟩ (.slice ao5 n5 cap5)).setCell ⟨w3.heap.size, 2, none⟩ (.int .i64 e5) := ⟨_, rfl⟩
  have hb6 : w6.heap[w3.heap.size]? = some (.cells #[.bool s5, .slice ao5 n5 cap5, .int .i64 e5] 24 (0, 0)) := by rw [hw6]; exact store3_29 _ _ _ HBX5.out
  have hc6 : w6.heap[w.heap.size + 1]? = some (.cells #[.bool false, .slice none 0 0, .int .i64 0] 24 (0, 0)) := by
    rw [hw6, setCell_block _ _ (Ne.symm hne), setCell_block _ _ (Ne.symm hne), setCell_block _ _ (Ne.symm hne)]; exact HCz.out
  have HN6 : Hid (RN w6 w2b.heap.size (.agg #[.bool s5, .slice ao5 n5 cap5, .int .i64 e5]) (Ans V (cn false s (-place)))) := by rw [hw6]; exact rn_store3 hN5.out HBX5.out _ _ _
  have HB6 : Hid (Below W.heap.size W w6) := by rw [hw6]; exact below_store3 HB5.out HBX.out.2.1 _ _ _
  have HC6 : Hid (w6.heap[w.heap.size + 1]? = some (.cells #[.bool false, .slice none 0 0, .int .i64 0] 24 (0, 0))) := hc6
  clear kk hB5
  go_upto_region 13 with fail
  rw [← hw6]
  clear hw6 d0 d1 d2 d3 d4 d5
  obtain ⟨⟨d0, d1, d2⟩, d3, d4, d5⟩ := box_cells29 hb6
  obtain ⟨⟨c0, c1, c2⟩, c3, c4, c5⟩ := box_cells29 hc6
  clear hb6 hc6
  have q1 := HH.out.2.1
  have q2 := HB2.out.size
  cases bx
  all_goals
    go_wp2
    refine bodyPost_ret (results_cell_tmp2_row rfl _ _ (w.heap.size + 1) 24 #[.bool s5, .slice ao5 n5 cap5, .int .i64 e5] (0, 0) _ rfl (store3_29 _ _ _ HC6.out) Tryz.underlying24 rfl Tryz.info24) rfl ?_
    refine ⟨s, HS.out.1, ?_⟩
    rw [HS.out.2.1, HS.out.2.2]
    refine ⟨_, ?_, (rn_store HN6.out HC6.out _ _ _).mono (by omega), below_store3 (HH.out.2.2.trans (HB6.out.mono HH.out.2.2.size)) (by omega) _ _ _⟩
    rw [HE.out]
    first | rfl | (rw [Bool.true_and]; rfl)
set_option maxHeartbeats 4000000 in
set_option maxRecDepth 200000 in
theorem rroot_no1 (na : Bool) (ua : Option Addr) (un uc : Nat) (ea place : Int) (w : World) (kV : ∀ W, Below w.heap.size w W → Calls Tryz.prog 11 #[.agg #[.bool na, .slice ua un uc, .int .i64 ea]] W fun r w' => r = .returned (.bool false) ∧ Below W.heap.size W w') :
    Calls Tryz.prog 35 #[.agg #[.bool na, .slice ua un uc, .int .i64 ea], .int .i64 place] w fun r w' => r = .returned (.tuple #[.agg #[.bool false, .slice none 0 0, .int .i64 0], .bool false, .int .i64 1]) ∧ Below w.heap.size w w' := by
  obtain ⟨W, hW⟩ : ∃ W, W = (w.alloc (.cells #[.bool na, .slice ua un uc, .int .i64 ea] 24)).alloc (.cells #[.bool false, .slice none 0 0, .int .i64 0] 24) := ⟨_, rfl⟩
  obtain ⟨hA, hC, hsz, hBW⟩ := two29 _ _ hW
  have k1 := kV W hBW
  have HH : Hid ((W.heap[w.heap.size]? = some (.cells #[.bool na, .slice ua un uc, .int .i64 ea] 24 (0, 0)) ∧ W.heap[w.heap.size + 1]? = some (.cells #[.bool false, .slice none 0 0, .int .i64 0] 24 (0, 0))) ∧ W.heap.size = w.heap.size + 1 + 1 ∧ Below w.heap.size w W) := ⟨⟨hA, hC⟩, hsz, hBW⟩
  clear hA hC hsz hBW kV
  go_enter Tryz.func35, Tryz.ntmps35
  go_wp2_with fail
  rw [← hW]
  clear hW
  refine k1.mono ?_
  rintro r w1 ⟨rfl, hB1⟩
  clear k1
  have HB1 : Hid (Below W.heap.size W w1) := hB1
  obtain ⟨⟨a0, a1, a2⟩, -⟩ := box_cells29 (box_later HH.out.1.1 HB1.out (by have := HH.out.2.1; omega))
  clear hB1
  have HCz : Hid (w1.heap[w.heap.size + 1]? = some (.cells #[.bool false, .slice none 0 0, .int .i64 0] 24 (0, 0))) := box_later HH.out.1.2 HB1.out (by have := HH.out.2.1; omega)
  obtain ⟨⟨c0, c1, c2⟩, c3, c4, c5⟩ := box_cells29 HCz.out
  go_wp2
  refine bodyPost_ret (results_cell_tmp2_row rfl _ _ (w.heap.size + 1) 24 #[.bool false, .slice none 0 0, .int .i64 0] (0, 0) _ rfl (store3_29 _ _ _ HCz.out) Tryz.underlying24 rfl Tryz.info24) rfl ?_
  exact ⟨rfl, below_store3 (HH.out.2.2.trans (HB1.out.mono HH.out.2.2.size)) (by omega) _ _ _⟩
set_option maxHeartbeats 4000000 in
set_option maxRecDepth 200000 in
theorem rroot_no2 (na : Bool) (ua : Option Addr) (un uc : Nat) (ea place : Int) (w : World) (hp : (decide (-65536 ≤ place) && decide (place ≤ 65536)) = false) (kV : ∀ W, Below w.heap.size w W → Calls Tryz.prog 11 #[.agg #[.bool na, .slice ua un uc, .int .i64 ea]] W fun r w' => r = .returned (.bool true) ∧ Below W.heap.size W w') :
    Calls Tryz.prog 35 #[.agg #[.bool na, .slice ua un uc, .int .i64 ea], .int .i64 place] w fun r w' => r = .returned (.tuple #[.agg #[.bool false, .slice none 0 0, .int .i64 0], .bool false, .int .i64 1]) ∧ Below w.heap.size w w' := by
  obtain ⟨W, hW⟩ : ∃ W, W = (w.alloc (.cells #[.bool na, .slice ua un uc, .int .i64 ea] 24)).alloc (.cells #[.bool false, .slice none 0 0, .int .i64 0] 24) := ⟨_, rfl⟩
  obtain ⟨hA, hC, hsz, hBW⟩ := two29 _ _ hW
  have k1 := kV W hBW
  have HH : Hid ((W.heap[w.heap.size]? = some (.cells #[.bool na, .slice ua un uc, .int .i64 ea] 24 (0, 0)) ∧ W.heap[w.heap.size + 1]? = some (.cells #[.bool false, .slice none 0 0, .int .i64 0] 24 (0, 0))) ∧ W.heap.size = w.heap.size + 1 + 1 ∧ Below w.heap.size w W) := ⟨⟨hA, hC⟩, hsz, hBW⟩
  clear hA hC hsz hBW kV
  go_enter Tryz.func35, Tryz.ntmps35
  go_wp2_with fail
  rw [← hW]
  clear hW
  refine k1.mono ?_
  rintro r w1 ⟨rfl, hB1⟩
  clear k1
  have HB1 : Hid (Below W.heap.size W w1) := hB1
  obtain ⟨⟨a0, a1, a2⟩, -⟩ := box_cells29 (box_later HH.out.1.1 HB1.out (by have := HH.out.2.1; omega))
  clear hB1
  have HCz : Hid (w1.heap[w.heap.size + 1]? = some (.cells #[.bool false, .slice none 0 0, .int .i64 0] 24 (0, 0))) := box_later HH.out.1.2 HB1.out (by have := HH.out.2.1; omega)
  obtain ⟨⟨c0, c1, c2⟩, c3, c4, c5⟩ := box_cells29 HCz.out
  have kP : Calls Tryz.prog 78 #[.int .i64 place] w1 fun r w' => r = .returned (.bool false) ∧ w' = w1 := (rplaced place w1).mono fun r w' ⟨e1, e2⟩ => ⟨by rw [e1, hp], e2⟩
  go_wp2_with fail
  refine kP.mono ?_
  rintro r w2 ⟨rfl, rfl⟩
  clear kP
  go_wp2
  refine bodyPost_ret (results_cell_tmp2_row rfl _ _ (w.heap.size + 1) 24 #[.bool false, .slice none 0 0, .int .i64 0] (0, 0) _ rfl (store3_29 _ _ _ HCz.out) Tryz.underlying24 rfl Tryz.info24) rfl ?_
  exact ⟨rfl, below_store3 (HH.out.2.2.trans (HB1.out.mono HH.out.2.2.size)) (by omega) _ _ _⟩
set_option maxHeartbeats 4000000 in
set_option maxRecDepth 200000 in
theorem rroot_nod (na : Bool) (ua : Option Addr) (un uc : Nat) (ea place : Int) (w : World) (hp : (decide (-65536 ≤ place) && decide (place ≤ 65536)) = true) (kV : ∀ W, Below w.heap.size w W → Calls Tryz.prog 11 #[.agg #[.bool true, .slice ua un uc, .int .i64 ea]] W fun r w' => r = .returned (.bool true) ∧ Below W.heap.size W w') :
    Calls Tryz.prog 35 #[.agg #[.bool true, .slice ua un uc, .int .i64 ea], .int .i64 place] w fun r w' => r = .returned (.tuple #[.agg #[.bool false, .slice none 0 0, .int .i64 0], .bool false, .int .i64 7]) ∧ Below w.heap.size w w' := by
  obtain ⟨W, hW⟩ : ∃ W, W = (w.alloc (.cells #[.bool true, .slice ua un uc, .int .i64 ea] 24)).alloc (.cells #[.bool false, .slice none 0 0, .int .i64 0] 24) := ⟨_, rfl⟩
  obtain ⟨hA, hC, hsz, hBW⟩ := two29 _ _ hW
  have k1 := kV W hBW
  have HH : Hid ((W.heap[w.heap.size]? = some (.cells #[.bool true, .slice ua un uc, .int .i64 ea] 24 (0, 0)) ∧ W.heap[w.heap.size + 1]? = some (.cells #[.bool false, .slice none 0 0, .int .i64 0] 24 (0, 0))) ∧ W.heap.size = w.heap.size + 1 + 1 ∧ Below w.heap.size w W) := ⟨⟨hA, hC⟩, hsz, hBW⟩
  clear hA hC hsz hBW kV
  go_enter Tryz.func35, Tryz.ntmps35
  go_wp2_with fail
  rw [← hW]
  clear hW
  refine k1.mono ?_
  rintro r w1 ⟨rfl, hB1⟩
  clear k1
  have HB1 : Hid (Below W.heap.size W w1) := hB1
  obtain ⟨⟨a0, a1, a2⟩, -⟩ := box_cells29 (box_later HH.out.1.1 HB1.out (by have := HH.out.2.1; omega))
  clear hB1
  have HCz : Hid (w1.heap[w.heap.size + 1]? = some (.cells #[.bool false, .slice none 0 0, .int .i64 0] 24 (0, 0))) := box_later HH.out.1.2 HB1.out (by have := HH.out.2.1; omega)
  obtain ⟨⟨c0, c1, c2⟩, c3, c4, c5⟩ := box_cells29 HCz.out
  have kP : Calls Tryz.prog 78 #[.int .i64 place] w1 fun r w' => r = .returned (.bool true) ∧ w' = w1 := (rplaced place w1).mono fun r w' ⟨e1, e2⟩ => ⟨by rw [e1, hp], e2⟩
  go_wp2_with fail
  refine kP.mono ?_
  rintro r w2 ⟨rfl, rfl⟩
  clear kP
  go_wp2
  refine bodyPost_ret (results_cell_tmp2_row rfl _ _ (w.heap.size + 1) 24 #[.bool false, .slice none 0 0, .int .i64 0] (0, 0) _ rfl (store3_29 _ _ _ HCz.out) Tryz.underlying24 rfl Tryz.info24) rfl ?_
  exact ⟨rfl, below_store3 (HH.out.2.2.trans (HB1.out.mono HH.out.2.2.size)) (by omega) _ _ _⟩
end Go.Proofs.YtmhpicccfaklcaaGreatDoor

/- The document's Root, joined. -/
namespace Go.Proofs.YtmhpicccfaklcaaGreatDoor
set_option linter.unusedVariables false
set_option linter.unusedSimpArgs false
open Go.RowKit

/-- a root, cut: of a whole number there is one -/
theorem root_one {a s m : Nat} (h1 : s * s ≤ a) (h2 : a < (s + 1) * (s + 1)) (h3 : m * m ≤ a) (h4 : a < (m + 1) * (m + 1)) : s = m := by
  have l1 : s < m + 1 := Nat.lt_of_not_le fun h => by
    have := Nat.mul_le_mul h h
    omega
  have l2 : m < s + 1 := Nat.lt_of_not_le fun h => by
    have := Nat.mul_le_mul h h
    omega
  omega
theorem rtQ_len {x : Nat} {ea place : Int} (hx : dlen x ≤ 3000) (he : -200000 ≤ ea ∧ ea ≤ 200000) (hp : -200000 ≤ place ∧ place ≤ 200000) : dlen (rtQ x ea place) ≤ 40000 := by
  unfold rtQ
  split
  · have := shl_len (x := x) (k := (ea + 2 * place).toNat) rfl; omega
  · exact Nat.le_trans (dlen_mono (Nat.div_le_self ..)) (by omega)
theorem rtW_ok {x : Nat} {ea place : Int} (h : x ≠ 0 → x % 2 = 1) : rtW x ea place = decide (0 ≤ ea + 2 * place ∨ x = 0) := by
  unfold rtW
  by_cases h0 : 0 ≤ ea + 2 * place
  · rw [decide_eq_true h0, decide_eq_true (p := 0 ≤ ea + 2 * place ∨ x = 0) (.inl h0)]; rfl
  · by_cases hx : x = 0
    · rw [decide_eq_true (p := 0 ≤ ea + 2 * place ∨ x = 0) (.inr hx), hx]; simp
    · have hne : ¬ x % 2 ^ (-(ea + 2 * place)).toNat = 0 := fun e => by
        have h1 : 2 ∣ 2 ^ (-(ea + 2 * place)).toNat := by
          obtain ⟨n, hn⟩ : ∃ n, (-(ea + 2 * place)).toNat = n + 1 := ⟨(-(ea + 2 * place)).toNat - 1, by omega⟩
          rw [hn, Nat.pow_succ]; exact ⟨2 ^ n, Nat.mul_comm _ _⟩
        have h2 := Nat.dvd_trans h1 (Nat.dvd_of_mod_eq_zero e)
        have := h hx
        omega
      rw [decide_eq_false h0, decide_eq_false hne, decide_eq_false (p := 0 ≤ ea + 2 * place ∨ x = 0) (fun h => h.elim h0 hx)]; rfl
theorem rroot_good {ua : Option Addr} {uc x : Nat} {ea place : Int} {w : World} (h1 : Arg w ua (dlen x) uc x) (ok : Ok (false, x, ea)) (hoka : okN false (dlen x) x ea = true) (hp : -65536 ≤ place ∧ place ≤ 65536) :
    Calls Tryz.prog 35 #[.agg #[.bool false, .slice ua (dlen x) uc, .int .i64 ea], .int .i64 place] w fun r w' => ∃ s, (s * s ≤ rtQ x ea place ∧ rtQ x ea place < (s + 1) * (s + 1)) ∧ Ans3 w (okR false s (-place)) (cn false s (-place)) (decide (0 ≤ ea + 2 * place ∨ x = 0) && decide (s * s = rtQ x ea place)) r w' := by
  obtain ⟨hx, ha1, ha2, hz, hodd⟩ := ok.facts
  simp only at hx ha1 ha2 hz hodd
  have kV : ∀ W, Below w.heap.size w W → Calls Tryz.prog 11 #[.agg #[.bool false, .slice ua (dlen x) uc, .int .i64 ea]] W fun r w' => r = .returned (.bool true) ∧ Below W.heap.size W w' := fun W hW => by
    have := rvalid (s := false) (e := ea) (h1.later hW)
    rw [hoka] at this
    exact this
  have hql := rtQ_len (x := x) (ea := ea) (place := place) (by omega) ⟨by omega, by omega⟩ ⟨by omega, by omega⟩
  have kR : ∀ W, Below w.heap.size w W → Calls Tryz.prog 87 #[.agg #[.bool false, .slice ua (dlen x) uc, .int .i64 ea], .int .i64 place] W fun r w' => ∃ A s, r = .returned (.tuple #[A, .bool (decide (0 ≤ ea + 2 * place ∨ x = 0) && decide (s * s = rtQ x ea place))]) ∧ NC w' W.heap.size A false s (-place) ∧ (s * s ≤ rtQ x ea place ∧ rtQ x ea place < (s + 1) * (s + 1)) ∧ dlen s ≤ 35184372088832 ∧ Below W.heap.size W w' := fun W hW => by
    refine (rrootof (na := false) (h1.later hW).at_ h1.le (by omega) ⟨by omega, by omega⟩ ⟨by omega, by omega⟩).mono ?_
    rintro r w' ⟨A, s, rfl, hN, hs1, hs2, hb⟩
    refine ⟨A, s, by rw [rtW_ok hodd, Bool.and_comm], hN, ⟨hs1, hs2⟩, ?_, hb⟩
    exact Nat.le_trans (dlen_mono (Nat.le_trans (Nat.le_mul_self s) hs1)) (by omega)
  by_cases hx0 : x = 0
  · subst hx0
    rw [dlen_zero] at kV kR ⊢
    exact rroot_z ua 0 uc ea place 0 _ _ w hp.1 hp.2 kV kR
  · have hl : 0 < dlen x := Nat.pos_of_ne_zero fun e => hx0 (dlen_eq_zero.1 e)
    have hbl := bl_le_dlen x
    exact rroot_p ua _ uc ea place ((bl x : Int) + ea) _ _ w hp.1 hp.2 (by omega) (by omega) (by omega) (by omega) kV (fun W hW => rhigh (h1.later hW).at_ hx0 (by omega) ⟨by omega, by omega⟩) kR
end Go.Proofs.YtmhpicccfaklcaaGreatDoor
