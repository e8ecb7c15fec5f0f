/- Own work: contracts of the program's functions, part 6: W35 W41. -/
import Derived.Test.YtbmaoiemgepppaaGreatDoorA5
import Derived.Deep.CutRange

/- Up. -/
namespace Go.Proofs.YtbmaoiemgepppaaGreatDoor
set_option linter.unusedVariables false
set_option linter.unusedSimpArgs false
open Go.RowKit Go.Fl64

theorem hidOf {p : Prop} (h : p) : Hid p := h
theorem Nrm.later {w w' : World} {base : Nat} {a : Value} {neg : Bool} {x : Nat} {e : Int} (h : Nrm w base a neg x e) (hb : Below w.heap.size w w') : Nrm w' base a neg x e := by
  rcases h with h | ⟨h0, v, h1, ho⟩
  · exact .inl h
  · exact .inr ⟨h0, v, h1, ho.later hb⟩

/-- a number in a box of its own, made behind w3 -/
def Bx (w3 wc : World) (g : Nat) (s : Bool) (ao : Option Addr) (n cap : Nat) (ex : Int) (sL : Bool) (zL : Nat) (eL : Int) : Prop :=
  wc.heap[g]? = some (.cells #[.bool s, .slice ao n cap, .int .i64 ex] 24 (0, 0)) ∧ w3.heap.size ≤ g ∧ Below w3.heap.size w3 wc ∧ Nrm wc w3.heap.size (.agg #[.bool s, .slice ao n cap, .int .i64 ex]) sL zL eL
theorem Bx.new {w3 w7 : World} {base : Nat} {s : Bool} {ao : Option Addr} {n cap : Nat} {ex : Int} {sL : Bool} {zL : Nat} {eL : Int} (hn : Nrm w7 base (.agg #[.bool s, .slice ao n cap, .int .i64 ex]) sL zL eL) (hb : Below w3.heap.size w3 w7) (hs : w3.heap.size ≤ base) :
    Bx w3 (w7.alloc (.cells #[.bool s, .slice ao n cap, .int .i64 ex] 24)) w7.heap.size s ao n cap ex sL zL eL :=
  ⟨heap_alloc_new _ _, hb.size, hb.alloc hb.size _, (hn.later ((Below.refl _ _).alloc (Nat.le_refl _) _)).mono hs⟩
theorem lt_of_box {w : World} {g : Nat} {o : Obj} (h : w.heap[g]? = some o) : g < w.heap.size := (Array.getElem?_eq_some_iff.1 h).1
theorem Bx.put {w3 w7 : World} {base g : Nat} {s : Bool} {ao : Option Addr} {n cap : Nat} {ex : Int} {sL : Bool} {zL : Nat} {eL : Int} {p q r : Value} (hn : Nrm w7 base (.agg #[.bool s, .slice ao n cap, .int .i64 ex]) sL zL eL) (hb : Below w3.heap.size w3 w7) (hs : w3.heap.size ≤ base) (hg : w3.heap.size ≤ g) (hlt : g < base) (hbx : w7.heap[g]? = some (.cells #[p, q, r] 24 (0, 0))) :
    Bx w3 (((w7.setCell ⟨g, 0, none⟩ (.bool s)).setCell ⟨g, 1, none⟩ (.slice ao n cap)).setCell ⟨g, 2, none⟩ (.int .i64 ex)) g s ao n cap ex sL zL eL :=
  ⟨store3 _ _ _ hbx, hg, below_store3 hb hg _ _ _, (hn.store hlt _ _ _).mono hs⟩

theorem same_self (a : Nat) : same a a = true := by simp [same]
set_option maxHeartbeats 8000000 in
set_option maxRecDepth 200000 in
theorem c60_1 (na xQ : Bool) (ua va wa : Option Addr) (un uc vn vc wn wk mP mQ F : Nat) (ea eb ec : Int) (w : World) (hT : Tab32 w)
    (hP : dlen mP ≤ 100000) (hQ : dlen mQ ≤ 100000) (hL2 : dlen (mP + mQ) ≤ 1000000000) (sL sH : Bool) (zL zH : Nat) (eL eH : Int) (hF : F < 18446744073709551616) (hFi : lt 9218868437227405311 (mag F) = false)
    (kR1 : ∀ W a b, Below w.heap.size w W → Nrm W b a sL zL eL → Calls Tryz.prog 56 #[a, .int .i64 3] W fun r w' => r = .returned (.float .f64 F) ∧ Below W.heap.size W w')
    (kR2 : ∀ W a b, Below w.heap.size w W → Nrm W b a sH zH eH → Calls Tryz.prog 56 #[a, .int .i64 3] W fun r w' => r = .returned (.float .f64 F) ∧ Below W.heap.size W w')
    (kH : ∀ W a b m b', Below w.heap.size w W → Nrm W b a sL zL eL → Own W b' m 1 → Calls Tryz.prog 49 #[a, .agg #[.bool false, m, .int .i64 (-1075)]] W fun r w' => ∃ a, r = .returned a ∧ Nrm w' W.heap.size a sH zH eH ∧ Below W.heap.size W w')
    (kL : ∀ W m b, Below w.heap.size w W → Nrm W b m false (mP + mQ) (-1076) → Calls Tryz.prog 49 #[.agg #[.bool na, .slice ua un uc, .int .i64 ea], m] W fun r w' => ∃ a, r = .returned a ∧ Nrm w' W.heap.size a sL zL eL ∧ Below W.heap.size W w')
    (k67 : ∀ W g, Below w.heap.size w W → W.heap[g]? = some (.cells #[.bool na, .slice ua un uc, .int .i64 ea, .bool false, .slice va vn vc, .int .i64 eb, .bool false, .slice wa wn wk, .int .i64 ec] 24 (0, 0)) → Calls Tryz.prog 35 #[.slice (some ⟨g, 0, none⟩) 3 3] W fun r w' => r = .returned (.bool true) ∧ Below W.heap.size W w')
    (kP : ∀ W, Below w.heap.size w W → Calls Tryz.prog 54 #[NumV false (.slice va vn vc) eb, .int .i64 1076] W fun r w' => ∃ v, r = .returned (.tuple #[v, .bool false]) ∧ Own w' W.heap.size v mP ∧ Below W.heap.size W w')
    (kQ : ∀ W, Below w.heap.size w W → Calls Tryz.prog 54 #[NumV false (.slice wa wn wk) ec, .int .i64 1076] W fun r w' => ∃ v, r = .returned (.tuple #[v, .bool xQ]) ∧ Own w' W.heap.size v mQ ∧ Below W.heap.size W w') :
    Calls Tryz.prog 25 #[NumV na (.slice ua un uc) ea, NumV false (.slice va vn vc) eb, NumV false (.slice wa wn wk) ec] w fun r w' => r = .returned (.tuple #[.float .f64 F, .int .i64 0]) ∧ Below w.heap.size w w' := by
  obtain ⟨W, hW⟩ : ∃ W, W = ((w.alloc (.cells #[.bool na, .slice ua un uc, .int .i64 ea] 24)).alloc (.cells #[.bool false, .slice va vn vc, .int .i64 eb] 24)).alloc (.cells #[.bool false, .slice wa wn wk, .int .i64 ec] 24) := ⟨_, rfl⟩
  obtain ⟨hA, hBb, hC, hsz, hBW⟩ := boxes3 _ _ _ hW
  have hB4 : Below w.heap.size w (W.alloc (.cells #[.bool na, .slice ua un uc, .int .i64 ea, .bool false, .slice va vn vc, .int .i64 eb, .bool false, .slice wa wn wk, .int .i64 ec] 24)) := hBW.alloc hBW.size _
  have k1 := k67 (W.alloc (.cells #[.bool na, .slice ua un uc, .int .i64 ea, .bool false, .slice va vn vc, .int .i64 eb, .bool false, .slice wa wn wk, .int .i64 ec] 24)) (w.heap.size + 1 + 1 + 1) hB4 (by rw [← hsz]; exact heap_alloc_new _ _)
  have HH : Hid (Below w.heap.size w W ∧ Below W.heap.size W (W.alloc (.cells #[.bool na, .slice ua un uc, .int .i64 ea, .bool false, .slice va vn vc, .int .i64 eb, .bool false, .slice wa wn wk, .int .i64 ec] 24)) ∧ W.heap.size = w.heap.size + 1 + 1 + 1 ∧ W.heap[w.heap.size]? = some (.cells #[.bool na, .slice ua un uc, .int .i64 ea] 24 (0, 0)) ∧ W.heap[w.heap.size + 1]? = some (.cells #[.bool false, .slice va vn vc, .int .i64 eb] 24 (0, 0)) ∧ W.heap[w.heap.size + 1 + 1]? = some (.cells #[.bool false, .slice wa wn wk, .int .i64 ec] 24 (0, 0)) ∧ Tab32 W) := ⟨hBW, (Below.refl _ _).alloc (Nat.le_refl _) _, hsz, hA, hBb, hC, hT.later hBW⟩
  have HKP : Hid (∀ W, Below w.heap.size w W → Calls Tryz.prog 54 #[.agg #[.bool false, .slice va vn vc, .int .i64 eb], .int .i64 1076] W fun r w' => ∃ v, r = .returned (.tuple #[v, .bool false]) ∧ Own w' W.heap.size v mP ∧ Below W.heap.size W w') := kP
  have HKQ : Hid (∀ W, Below w.heap.size w W → Calls Tryz.prog 54 #[.agg #[.bool false, .slice wa wn wk, .int .i64 ec], .int .i64 1076] W fun r w' => ∃ v, r = .returned (.tuple #[v, .bool xQ]) ∧ Own w' W.heap.size v mQ ∧ Below W.heap.size W w') := kQ
  have HKL : Hid (∀ W m b, Below w.heap.size w W → Nrm W b m false (mP + mQ) (-1076) → Calls Tryz.prog 49 #[.agg #[.bool na, .slice ua un uc, .int .i64 ea], m] W fun r w' => ∃ a, r = .returned a ∧ Nrm w' W.heap.size a sL zL eL ∧ Below W.heap.size W w') := kL
  have HL : Hid (dlen mP ≤ 100000 ∧ dlen mQ ≤ 100000) := ⟨hP, hQ⟩
  have HR1 : Hid (∀ W a b, Below w.heap.size w W → Nrm W b a sL zL eL → Calls Tryz.prog 56 #[a, .int .i64 3] W fun r w' => r = .returned (.float .f64 F) ∧ Below W.heap.size W w') := kR1
  have HR2 : Hid (∀ W a b, Below w.heap.size w W → Nrm W b a sH zH eH → Calls Tryz.prog 56 #[a, .int .i64 3] W fun r w' => r = .returned (.float .f64 F) ∧ Below W.heap.size W w') := kR2
  have HKH : Hid (∀ W a b m b', Below w.heap.size w W → Nrm W b a sL zL eL → Own W b' m 1 → Calls Tryz.prog 49 #[a, .agg #[.bool false, m, .int .i64 (-1075)]] W fun r w' => ∃ a, r = .returned a ∧ Nrm w' W.heap.size a sH zH eH ∧ Below W.heap.size W w') := kH
  have HF : Hid (F < 18446744073709551616 ∧ lt 9218868437227405311 (mag F) = false) := ⟨hF, hFi⟩
  unfold NumV
  clear kR1 kR2 kH hF hFi hA hBb hC hsz hBW hB4 k67 kP kQ hP hQ hT kL
  go_enter Tryz.func25, Tryz.ntmps25
  go_wp2_with fail
  rw [← hW]
  clear hW
  refine k1.mono ?_
  rintro r w1 ⟨rfl, hB1⟩
  clear k1
  have HB1 : Hid (Below W.heap.size W w1) := HH.out.2.1.trans (hB1.mono HH.out.2.1.size)
  clear hB1
  obtain ⟨⟨b0, b1, b2⟩, -⟩ := box_cells (box_later HH.out.2.2.2.2.1 HB1.out (by have := HH.out.2.2.1; omega))
  obtain ⟨⟨c0, c1, c2⟩, -⟩ := box_cells (box_later HH.out.2.2.2.2.2.1 HB1.out (by have := HH.out.2.2.1; omega))
  go_wp2_with fail
  refine (HKP.out w1 (HH.out.1.trans (HB1.out.mono HH.out.1.size))).mono ?_
  rintro r w2 ⟨vP, rfl, hoP, hB2⟩
  have HB2 : Hid (Below W.heap.size W w2) := HB1.out.trans (hB2.mono HB1.out.size)
  have HOP : Hid (Own w2 w1.heap.size vP mP) := hoP
  clear hoP hB2 b0 b1 b2 c0 c1 c2
  obtain ⟨⟨c0, c1, c2⟩, -⟩ := box_cells (box_later HH.out.2.2.2.2.2.1 HB2.out (by have := HH.out.2.2.1; omega))
  go_wp2_with fail
  refine (HKQ.out w2 (HH.out.1.trans (HB2.out.mono HH.out.1.size))).mono ?_
  rintro r w3 ⟨vQ, rfl, hoQ, hB3⟩
  have HB3 : Hid (Below W.heap.size W w3) := HB2.out.trans (hB3.mono HB2.out.size)
  have HOQ : Hid (Own w3 w2.heap.size vQ mQ ∧ Own w3 w1.heap.size vP mP ∧ Below w2.heap.size w2 w3) := ⟨hoQ, HOP.out.later hB3, hB3⟩
  clear hoQ hB3 c0 c1 c2 HOP
  obtain ⟨⟨a0, a1, a2⟩, -⟩ := box_cells (box_later HH.out.2.2.2.1 HB3.out (by have := HH.out.2.2.1; omega))
  have HK : Hid (∀ w', Below w3.heap.size w3 w' → (w'.cell? ⟨w.heap.size, 0, none⟩ = some (.bool na) ∧ w'.cell? ⟨w.heap.size, 1, none⟩ = some (.slice ua un uc) ∧ w'.cell? ⟨w.heap.size, 2, none⟩ = some (.int .i64 ea)) ∧ Below w3.heap.size w3 w') := fun w' hb => ⟨(box_cells (box_later HH.out.2.2.2.1 (HB3.out.trans (hb.mono HB3.out.size)) (by have := HH.out.2.2.1; omega))).1, hb⟩
  have k122 : ∀ w4, Below w3.heap.size w3 w4 → Calls Tryz.prog 55 #[vP, vQ] w4 fun r w' => ∃ v, r = .returned v ∧ Own w' w3.heap.size v (mP + mQ) ∧ Below w3.heap.size w3 w' ∧ Hid (∀ g o, w4.heap[g]? = some o → w'.heap[g]? = some o) := fun w4 hb =>
    (c122 (HOQ.out.2.1.later hb).is (HOQ.out.1.later hb).is (by have := HL.out.1; omega) (by have := HL.out.2; omega)).mono fun r w' ⟨v, e1, o1, o2⟩ => ⟨v, e1, o1.mono hb.size, hb.trans (o2.mono hb.size), fun g o hg => box_later hg o2 (Array.getElem?_eq_some_iff.1 hg).1⟩
  have k56 : ∀ v5 w5, Own w5 w3.heap.size v5 (mP + mQ) → Below w3.heap.size w3 w5 → Calls Tryz.prog 46 #[.bool false, v5, .int .i64 (-1076)] w5 fun r w' => ∃ m, r = .returned m ∧ Nrm w' w3.heap.size m false (mP + mQ) (-1076) ∧ Below w3.heap.size w3 w' ∧ Hid (∀ g o, w5.heap[g]? = some o → w'.heap[g]? = some o) := fun v5 w5 ho hb =>
    (c56 ho.is hL2 ((HH.out.2.2.2.2.2.2.later HB3.out).later hb) (by omega)).mono fun r w' ⟨v, e1, o1, o2⟩ => ⟨v, e1, o1.mono hb.size, hb.trans (o2.mono hb.size), fun g o hg => box_later hg o2 (Array.getElem?_eq_some_iff.1 hg).1⟩
  have k87 : ∀ m w6, Nrm w6 w3.heap.size m false (mP + mQ) (-1076) → Below w3.heap.size w3 w6 → Calls Tryz.prog 49 #[.agg #[.bool na, .slice ua un uc, .int .i64 ea], m] w6 fun r w' => ∃ s ao n cap ex, r = .returned (.agg #[.bool s, .slice ao n cap, .int .i64 ex]) ∧ Nrm w' w6.heap.size (.agg #[.bool s, .slice ao n cap, .int .i64 ex]) sL zL eL ∧ Below w3.heap.size w3 w' ∧ Hid (∀ g o, w6.heap[g]? = some o → w'.heap[g]? = some o) := fun m w6 hN hb =>
    (HKL.out w6 m w3.heap.size (HH.out.1.trans ((HB3.out.trans (hb.mono HB3.out.size)).mono HH.out.1.size)) hN).mono fun r w' ⟨v, e1, o1, o2⟩ => by
      obtain ⟨s, ao, n, cap, ex, rfl⟩ := o1.shape
      exact ⟨s, ao, n, cap, ex, e1, o1, hb.trans (o2.mono hb.size), fun g o hg => box_later hg o2 (Array.getElem?_eq_some_iff.1 hg).1⟩
  have hBR : Below w3.heap.size w3 w3.drew := (Below.refl _ _).drew
  clear hL2
  go_upto_region 8 with fail
  go_cut [12] from 37 to 42 (fun p wx => ∃ g s ao n cap ex, p = .pointer (some ⟨g, 0, none⟩) ∧ Hid (Bx w3 wx g s ao n cap ex sL zL eL))
  case first =>
    go_region_held3 (fun w' => (w'.cell? ⟨w.heap.size, 0, none⟩ = some (.bool na) ∧ w'.cell? ⟨w.heap.size, 1, none⟩ = some (.slice ua un uc) ∧ w'.cell? ⟨w.heap.size, 2, none⟩ = some (.int .i64 ea)) ∧ Below w3.heap.size w3 w') (first | (with_reducible assumption) | exact ⟨⟨a0, a1, a2⟩, hBR⟩ | (refine HK.out _ ?_; with_reducible assumption) | (refine HK.out _ ?_; refine Below.alloc (by with_reducible assumption) (Below.size (by with_reducible assumption)) _) | (refine HK.out _ (below_store3 (by first | (with_reducible assumption) | exact hb7.alloc hb7.size _) (by first | exact Nat.le_refl _ | exact hb5.size | exact hb6.size | exact hb7.size) _ _ _)) | go_keep)
      (first | (go_at_call 55; refine (k122 _ (by first | (with_reducible assumption) | exact hBR.alloc hBR.size _)).mono ?_; rintro r w5 ⟨v5, rfl, ho5, hb5, hk5⟩; first | (have HBX : Hid (w5.heap[w3.heap.size]? = some (.cells #[.bool false, .slice none 0 0, .int .i64 0] 24 (0, 0))) := hk5.out _ _ (heap_alloc_new w3.drew _)) | (have HBX : Hid True := trivial))
             | (go_at_call 46; refine (k56 _ _ (by first | (with_reducible assumption) | exact ho5.later ((Below.refl _ _).alloc (Nat.le_refl _) _)) (by first | (with_reducible assumption) | exact hb5.alloc hb5.size _)).mono ?_; rintro r w6 ⟨m6, rfl, hn6, hb6, hk6⟩; first | (have HBY := hidOf (hk6.out _ _ HBX.out)) | (have HBY : Hid (w6.heap[w5.heap.size]? = some (.cells #[.bool false, .slice none 0 0, .int .i64 0] 24 (0, 0))) := hk6.out _ _ (heap_alloc_new w5 _)) | (have HBY : Hid True := trivial))
             | (go_at_call 49; refine (k87 _ _ (by first | (with_reducible assumption) | exact Nrm.later hn6 ((Below.refl _ _).alloc (Nat.le_refl _) _)) (by first | (with_reducible assumption) | exact hb6.alloc hb6.size _)).mono ?_; rintro r w7 ⟨s7, ao7, n7, cap7, ex7, rfl, hn7, hb7, hk7⟩; first | (have HBZ := hidOf (hk7.out _ _ HBY.out); obtain ⟨⟨x1, x2, x3⟩, x4, x5, x6⟩ := box_cells HBZ.out) | (have HBZ : Hid (w7.heap[w6.heap.size]? = some (.cells #[.bool false, .slice none 0 0, .int .i64 0] 24 (0, 0))) := hk7.out _ _ (heap_alloc_new w6 _); obtain ⟨⟨x1, x2, x3⟩, x4, x5, x6⟩ := box_cells HBZ.out) | (have HBZ : Hid True := trivial)))
    all_goals go_wp2_with fail
    all_goals go_meet
    all_goals first
      | exact ⟨_, _, _, _, _, _, rfl, Bx.new hn7 hb7 hb6.size⟩
      | exact ⟨_, _, _, _, _, _, rfl, Bx.put hn7 hb7 (Nat.le_trans hb6.size (by simp)) hb6.size (by simp) HBZ.out⟩
      | exact ⟨_, _, _, _, _, _, rfl, Bx.put hn7 hb7 hb6.size hb5.size (lt_of_box HBY.out) HBZ.out⟩
      | exact ⟨_, _, _, _, _, _, rfl, Bx.put hn7 hb7 hb6.size (Nat.le_refl _) (lt_of_box HBY.out) HBZ.out⟩
  case rest =>
    obtain ⟨w8, rfl⟩ : ∃ w8 : World, w8 = wc := ⟨_, rfl⟩
    obtain ⟨g, s8, ao8, n8, cap8, ex8, rfl, H8⟩ := hcut
    obtain ⟨⟨x1, x2, x3⟩, -⟩ := box_cells H8.out.1
    have HW8 : Hid (Below w.heap.size w w8) := HH.out.1.trans ((HB3.out.trans (H8.out.2.2.1.mono HB3.out.size)).mono HH.out.1.size)
    have kr := HR1.out w8 _ _ HW8.out H8.out.2.2.2
    clear k122 k56 k87 HK hBR a0 a1 a2
    go_wp2_with fail
    refine kr.mono ?_
    rintro r w9 ⟨rfl, hb9⟩
    have HW9 : Hid (Below w.heap.size w w9 ∧ Below w8.heap.size w8 w9) := ⟨HW8.out.trans (hb9.mono HW8.out.size), hb9⟩
    have H9 : Hid (w9.heap[g]? = some (.cells #[.bool s8, .slice ao8 n8 cap8, .int .i64 ex8] 24 (0, 0))) := box_later H8.out.1 hb9 (lt_of_box H8.out.1)
    have k66 := c123 F HF.out.1
    rw [HF.out.2] at k66
    clear kr hb9 x1 x2 x3
    obtain ⟨⟨a0, a1, a2⟩, -⟩ := box_cells H9.out
    have hBR : Below w9.heap.size w9 w9.drew := (Below.refl _ _).drew
    have HK : Hid (∀ w', Below w9.heap.size w9 w' → (w'.cell? ⟨g, 0, none⟩ = some (.bool s8) ∧ w'.cell? ⟨g, 1, none⟩ = some (.slice ao8 n8 cap8) ∧ w'.cell? ⟨g, 2, none⟩ = some (.int .i64 ex8)) ∧ Below w9.heap.size w9 w') := fun w' hb => ⟨(box_cells (box_later H9.out hb (lt_of_box H9.out))).1, hb⟩
    have k32 : ∀ w4, Below w9.heap.size w9 w4 → Calls Tryz.prog 47 #[.int .u64 1] w4 fun r w' => ∃ ao n cap, r = .returned (.slice ao n cap) ∧ Own w' w9.heap.size (.slice ao n cap) 1 ∧ Below w9.heap.size w9 w' ∧ Hid (∀ g o, w4.heap[g]? = some o → w'.heap[g]? = some o) := fun w4 hb =>
      (c57 1 w4 (by omega)).mono fun r w' ⟨v, e1, o1, o2⟩ => by
        obtain ⟨ao, cap, rfl, -, -, -⟩ := o1.is
        exact ⟨_, _, _, e1, o1.mono hb.size, hb.trans (o2.mono hb.size), fun g o hg => box_later hg o2 (lt_of_box hg)⟩
    have k44 : ∀ am nm cm w6, Own w6 w9.heap.size (.slice am nm cm) 1 → Below w9.heap.size w9 w6 → Calls Tryz.prog 49 #[.agg #[.bool s8, .slice ao8 n8 cap8, .int .i64 ex8], .agg #[.bool false, .slice am nm cm, .int .i64 (-1075)]] w6 fun r w' => ∃ s ao n cap ex, r = .returned (.agg #[.bool s, .slice ao n cap, .int .i64 ex]) ∧ Nrm w' w6.heap.size (.agg #[.bool s, .slice ao n cap, .int .i64 ex]) sH zH eH ∧ Below w9.heap.size w9 w' ∧ Hid (∀ g o, w6.heap[g]? = some o → w'.heap[g]? = some o) := fun am nm cm w6 hN hb =>
      (HKH.out w6 _ _ _ _ (HW9.out.1.trans (hb.mono HW9.out.1.size)) (H8.out.2.2.2.later (HW9.out.2.trans (hb.mono HW9.out.2.size))) hN).mono fun r w' ⟨v, e1, o1, o2⟩ => by
        obtain ⟨s, ao, n, cap, ex, rfl⟩ := o1.shape
        exact ⟨s, ao, n, cap, ex, e1, o1, hb.trans (o2.mono hb.size), fun g o hg => box_later hg o2 (lt_of_box hg)⟩
    go_upto_region 12 with (first | (go_at_call 57; refine (k66 _).mono ?_; rintro e w' ⟨rfl, hw'⟩; replace hw' := hw'.symm; subst hw'))
    clear k66
    go_cut [14] from 54 to 57 (fun p wx => ∃ g s ao n cap ex, p = .pointer (some ⟨g, 0, none⟩) ∧ Hid (Bx w9 wx g s ao n cap ex sH zH eH))
    case first =>
      go_region_held3 (fun w' => (w'.cell? ⟨g, 0, none⟩ = some (.bool s8) ∧ w'.cell? ⟨g, 1, none⟩ = some (.slice ao8 n8 cap8) ∧ w'.cell? ⟨g, 2, none⟩ = some (.int .i64 ex8)) ∧ Below w9.heap.size w9 w') (first | (with_reducible assumption) | exact ⟨⟨a0, a1, a2⟩, hBR⟩ | (refine HK.out _ ?_; with_reducible assumption) | (refine HK.out _ ?_; refine Below.alloc (by with_reducible assumption) (Below.size (by with_reducible assumption)) _) | (refine HK.out _ (below_store3 (by first | (with_reducible assumption) | exact hb7.alloc hb7.size _) (by first | exact Nat.le_refl _ | exact hb5.size | exact hb7.size) _ _ _)) | go_keep)
        (first | (go_at_call 47; refine (k32 _ (by first | (with_reducible assumption) | exact hBR.alloc hBR.size _)).mono ?_; rintro r w5 ⟨am, nm, cm, rfl, ho5, hb5, hk5⟩; first | (have HBY : Hid (w5.heap[w9.heap.size]? = some (.cells #[.bool false, .slice none 0 0, .int .i64 0] 24 (0, 0))) := hk5.out _ _ (heap_alloc_new w9.drew _)) | (have HBY : Hid True := trivial))
               | (go_at_call 49; refine (k44 _ _ _ _ (by first | (with_reducible assumption) | exact ho5.later ((Below.refl _ _).alloc (Nat.le_refl _) _)) (by first | (with_reducible assumption) | exact hb5.alloc hb5.size _)).mono ?_; rintro r w7 ⟨s7, ao7, n7, cap7, ex7, rfl, hn7, hb7, hk7⟩; first | (have HBZ := hidOf (hk7.out _ _ HBY.out); obtain ⟨⟨x1, x2, x3⟩, x4, x5, x6⟩ := box_cells HBZ.out) | (have HBZ : Hid (w7.heap[w5.heap.size]? = some (.cells #[.bool false, .slice none 0 0, .int .i64 0] 24 (0, 0))) := hk7.out _ _ (heap_alloc_new w5 _); obtain ⟨⟨x1, x2, x3⟩, x4, x5, x6⟩ := box_cells HBZ.out) | (have HBZ : Hid True := trivial)))
      all_goals go_wp2_with fail
      all_goals go_meet
      all_goals first
        | exact ⟨_, _, _, _, _, _, rfl, Bx.new hn7 hb7 hb5.size⟩
        | exact ⟨_, _, _, _, _, _, rfl, Bx.put hn7 hb7 (Nat.le_trans hb5.size (by simp)) hb5.size (by simp) HBZ.out⟩
        | exact ⟨_, _, _, _, _, _, rfl, Bx.put hn7 hb7 hb5.size (Nat.le_refl _) (lt_of_box HBY.out) HBZ.out⟩
    case rest =>
      obtain ⟨w10, rfl⟩ : ∃ w10 : World, w10 = wc := ⟨_, rfl⟩
      obtain ⟨g', s9, ao9, n9, cap9, ex9, rfl, H10⟩ := hcut
      obtain ⟨⟨x1, x2, x3⟩, -⟩ := box_cells H10.out.1
      have HW10 : Hid (Below w.heap.size w w10) := HW9.out.1.trans (H10.out.2.2.1.mono HW9.out.1.size)
      have kr := HR2.out w10 _ _ HW10.out H10.out.2.2.2
      clear k32 k44 HK hBR a0 a1 a2
      go_wp2_with fail
      refine kr.mono ?_
      rintro r w11 ⟨rfl, hb11⟩
      have k67 := Ie.c11 F F HF.out.1 HF.out.1 w11
      rw [same_self] at k67
      have HW11 : Hid (Below w.heap.size w w11) := HW10.out.trans (hb11.mono HW10.out.size)
      clear kr hb11 x1 x2 x3
      go_wp2_with (first | (go_at_call 58; refine k67.mono ?_; rintro e w' ⟨rfl, hw'⟩; replace hw' := hw'.symm; subst hw'))
      refine bodyPost_ret (results_tmp2 rfl _ _ _) rfl ?_
      exact ⟨rfl, HW11.out⟩
end Go.Proofs.YtbmaoiemgepppaaGreatDoor
/- Sub. -/
namespace Go.Proofs.YtbmaoiemgepppaaGreatDoor
set_option linter.unusedVariables false
set_option linter.unusedSimpArgs false
open Go.RowKit

end Go.Proofs.YtbmaoiemgepppaaGreatDoor
