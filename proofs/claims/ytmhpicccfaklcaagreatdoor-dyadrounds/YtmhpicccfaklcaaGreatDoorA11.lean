/- Own work: contracts of the program's functions, part 11: RW3 RW4 RW5 RW6 RC5 RW7 RW8 RW9 RX1 W49 RX2 RX3 W50 L16 L10 L17 L14 W51. -/
import Derived.Test.YtmhpicccfaklcaaGreatDoorA10
import Derived.Test.YtmhpicccfaklcaaGreatDoorA8
import Derived.Test.YtmhpicccfaklcaaGreatDoorA4
import Derived.Test.YtmhpicccfaklcaaGreatDoorA5
import Derived.Test.YtmhpicccfaklcaaGreatDoorA7

/- The document's Over: the quotient, cut to a place. -/
namespace Go.Proofs.YtmhpicccfaklcaaGreatDoor
set_option linter.unusedVariables false
set_option linter.unusedSimpArgs false
open Go.RowKit

theorem rless_nc {va : Option Addr} {vc q base : Nat} {place : Int} {w : World} {s6 : Bool} {ao6 : Option Addr} {n6 cap6 : Nat} {ex6 : Int} (h : NC w base (.agg #[.bool s6, .slice ao6 n6 cap6, .int .i64 ex6]) true q (-place)) (h1 : At w va 1 1) (hvc : 1 ≤ vc) (hp1 : -1000000 ≤ place) (hp2 : place ≤ 1000000) (hq : dlen q ≤ 30000) :
    Calls Tryz.prog 133 #[.agg #[.bool s6, .slice ao6 n6 cap6, .int .i64 ex6], .agg #[.bool false, .slice va 1 vc, .int .i64 (-place)]] w fun r w' => ∃ a, r = .returned a ∧ NC w' w.heap.size a true (q + 1) (-place) ∧ Below w.heap.size w w' := by
  obtain ⟨ao, cap, e, hA, -⟩ := h
  rw [e]
  exact rless_one hA h1 hvc hp1 hp2 hq
set_option maxHeartbeats 4000000 in
set_option maxRecDepth 200000 in
theorem rover_ae (na nb : Bool) (ua va : Option Addr) (uc vc x y k : Nat) (ea eb place : Int) (w : World) (sg : Bool) (hsg : (!(na == nb)) = sg) (h1 : At w ua (dlen x) x) (hu : dlen x ≤ uc) (h2 : At w va (dlen y) y) (hv : dlen y ≤ vc) (hx0 : x ≠ 0) (hy0 : y ≠ 0) (hx : dlen x ≤ 3000) (hy : dlen y ≤ 3000)
    (he1 : -200000 ≤ ea) (he2 : ea ≤ 200000) (he3 : -200000 ≤ eb) (he4 : eb ≤ 200000) (hp1 : -200000 ≤ place) (hp2 : place ≤ 200000) (hk : ea - eb + place = (k : Int)) (hk2 : k ≤ 600000) (hr : (x * 2 ^ k) % (y) = 0) :
    Calls Tryz.prog 84 #[.agg #[.bool na, .slice ua (dlen x) uc, .int .i64 ea], .agg #[.bool nb, .slice va (dlen y) vc, .int .i64 eb], .int .i64 place] w fun r w' => ∃ A, r = .returned (.tuple #[A, .bool true]) ∧ NC w' w.heap.size A sg ((x * 2 ^ k) / (y)) (-place) ∧ Below w.heap.size w w' := by
  obtain ⟨W, hW⟩ : ∃ W, W = ((w.alloc (.cells #[.bool na, .slice ua (dlen x) uc, .int .i64 ea] 24)).alloc (.cells #[.bool nb, .slice va (dlen y) vc, .int .i64 eb] 24)).alloc (.cells #[.bool false, .slice none 0 0, .int .i64 0] 24) := ⟨_, rfl⟩
  obtain ⟨hA, hBb, hC, hsz, hBW⟩ := boxes3 _ _ _ hW
  have HH : Hid ((W.heap[w.heap.size]? = some (.cells #[.bool na, .slice ua (dlen x) uc, .int .i64 ea] 24 (0, 0)) ∧ W.heap[w.heap.size + 1]? = some (.cells #[.bool nb, .slice va (dlen y) vc, .int .i64 eb] 24 (0, 0)) ∧ W.heap[w.heap.size + 1 + 1]? = some (.cells #[.bool false, .slice none 0 0, .int .i64 0] 24 (0, 0))) ∧ W.heap.size = w.heap.size + 1 + 1 + 1 ∧ Below w.heap.size w W) := ⟨⟨hA, hBb, hC⟩, hsz, hBW⟩
  obtain ⟨⟨a0, a1, a2⟩, -⟩ := box_cells29 hA
  obtain ⟨⟨b0, b1, b2⟩, -⟩ := box_cells29 hBb
  have HI : Hid (Ir w (.slice ua (dlen x) uc) x ∧ Ir w (.slice va (dlen y) vc) y) := ⟨⟨ua, uc, rfl, hu, h1⟩, ⟨va, vc, rfl, hv, h2⟩⟩
  have HN : Hid ((x ≠ 0 ∧ y ≠ 0 ∧ dlen x ≤ 3000 ∧ dlen y ≤ 3000 ∧ k ≤ 600000) ∧ (x * 2 ^ k) % (y) = 0) := ⟨⟨hx0, hy0, hx, hy, hk2⟩, hr⟩
  have hxz : ((dlen x : Int) == 0) = false := len_ne (n := 0) hx0
  clear hA hBb hC hsz hBW h1 h2 hr
  generalize hdx : dlen x = lx at *
  generalize hdy : dlen y = ly at *
  rw [hW] at a0 a1 a2 b0 b1 b2
  go_enter Tryz.func84, Tryz.ntmps84
  go_wp2
  go_quiet (fail)
  rw [← hW]
  have HBW1 : Hid (Below W.heap.size W (W.drewN nq)) := (⟨rfl, rfl, rfl, Nat.le_refl _, fun _ _ => rfl⟩ : Below W.heap.size W (W.drewN nq))
  obtain ⟨W1, hW1⟩ : ∃ W1, W1 = W.drewN nq := ⟨_, rfl⟩
  rw [← hW1] at HBW1 ⊢
  clear hW hW1 a0 a1 a2 b0 b1 b2
  have HIW : Hid (Ir W1 (.slice ua lx uc) x ∧ Ir W1 (.slice va ly vc) y) := ⟨HI.out.1.later (HH.out.2.2.trans (HBW1.out.mono HH.out.2.2.size)), HI.out.2.later (HH.out.2.2.trans (HBW1.out.mono HH.out.2.2.size))⟩
  have ku := rup HIW.out.1 k (by have := HN.out.1; omega) (by omega)
  go_wp2_with fail
  refine ku.mono ?_
  rintro r w4 ⟨vu, rfl, hIu, hb4⟩
  have HB4 : Hid (Below W.heap.size W w4) := HBW1.out.trans (hb4.mono HBW1.out.size)
  have hl : dlen (x * 2 ^ k) ≤ 25000 := by
    have := shl_len (x := x) (k := k) rfl
    have := HN.out.1
    omega
  have kd := rdivide hIu (HIW.out.2.later hb4) (Nat.mul_ne_zero HN.out.1.1 (by have := Nat.two_pow_pos k; omega)) HN.out.1.2.1 (by omega) (by have := HN.out.1; omega)
  have HO : Hid (Ir w4 vu (x * 2 ^ k)) := hIu
  clear ku hIu hb4
  go_wp2_with fail
  refine kd.mono ?_
  rintro r w5 ⟨vq, vr, rfl, hIq, hIr, hb5⟩
  have HB5 : Hid (Below W.heap.size W w5) := HB4.out.trans (hb5.mono HB4.out.size)
  obtain ⟨⟨a0, a1, a2⟩, -⟩ := box_cells29 (box_later HH.out.1.1 HB5.out (by have := HH.out.2.1; omega))
  obtain ⟨⟨b0, b1, b2⟩, -⟩ := box_cells29 (box_later HH.out.1.2.1 HB5.out (by have := HH.out.2.1; omega))
  obtain ⟨rr, rcap, rfl, hrc, hrA⟩ := hIr
  have hql : dlen ((x * 2 ^ k) / (y)) ≤ 30000 := Nat.le_trans (dlen_mono (Nat.div_le_self _ _)) (by omega)
  have kn := rnorm (neg := sg) (e := -place) hIq (by omega) (by omega)
  have HQL : Hid (dlen ((x * 2 ^ k) / (y)) ≤ 30000) := hql
  have hrl : ((dlen ((x * 2 ^ k) % (y)) : Int) == 0) = true := by rw [show (x * 2 ^ k) % (y) = 0 from HN.out.2, dlen_zero]; rfl
  clear kd hIq hb5 hrA hql hl
  generalize hdr : dlen ((x * 2 ^ k) % (y)) = lr at *
  go_wp2_with fail
  refine kn.mono ?_
  rintro r w6 ⟨A, rfl, hN6, hb6⟩
  obtain ⟨s6, ao6, n6, cap6, ex6, rfl⟩ := hN6.shape
  have HB6 : Hid (Below W.heap.size W w6) := HB5.out.trans (hb6.mono HB5.out.size)
  have HN6 : Hid (NC w6 w5.heap.size (.agg #[.bool s6, .slice ao6 n6 cap6, .int .i64 ex6]) sg ((x * 2 ^ k) / (y)) (-place)) := hN6
  obtain ⟨w7, hw7⟩ : ∃ w7, w7 = w6.alloc (.cells #[.bool s6, .slice ao6 n6 cap6, .int .i64 ex6] 24) := ⟨_, rfl⟩
  have hB67 : Below w6.heap.size w6 w7 := by rw [hw7]; exact (Below.refl _ _).alloc (Nat.le_refl _) _
  have HB7 : Hid (Below W.heap.size W w7) := HB6.out.trans (hB67.mono HB6.out.size)
  have hbox : w7.heap[w6.heap.size]? = some (.cells #[.bool s6, .slice ao6 n6 cap6, .int .i64 ex6] 24 (0, 0)) := by rw [hw7]; exact heap_alloc_new _ _
  have HBX : Hid (w7.heap[w6.heap.size]? = some (.cells #[.bool s6, .slice ao6 n6 cap6, .int .i64 ex6] 24 (0, 0)) ∧ Below w6.heap.size w6 w7) := ⟨hbox, hB67⟩
  have hres := box_later HH.out.1.2.2 HB7.out (by have := HH.out.2.1; omega)
  have HRES : Hid (w7.heap[w.heap.size + 1 + 1]? = some (.cells #[.bool false, .slice none 0 0, .int .i64 0] 24 (0, 0))) := hres
  obtain ⟨⟨c0, c1, c2⟩, c3, c4, c5⟩ := box_cells29 hres
  obtain ⟨⟨d0, d1, d2⟩, d3, d4, d5⟩ := box_cells29 hbox
  clear kn hN6 hb6 hbox hres hB67 a0 a1 a2 b0 b1 b2
  rw [hw7] at c0 c1 c2 c3 c4 c5 d0 d1 d2 d3 d4 d5
  go_wp2
  rw [← hw7]
  refine bodyPost_ret (results_cell_tmp_row rfl _ _ (w.heap.size + 1 + 1) 24 #[.bool s6, .slice ao6 n6 cap6, .int .i64 ex6] (0, 0) _ rfl (store3_29 _ _ _ HRES.out) Tryz.underlying24 rfl Tryz.info24) rfl ?_
  have q1 := HH.out.2.1
  have q2 := HB5.out.size
  exact ⟨_, rfl, ((HN6.out.later HBX.out.2).store (by omega) _ _ _).mono (by omega), below_store3 (HH.out.2.2.trans (HB7.out.mono HH.out.2.2.size)) (by omega) _ _ _⟩
set_option maxHeartbeats 4000000 in
set_option maxRecDepth 200000 in
theorem rover_arp (na nb : Bool) (ua va : Option Addr) (uc vc x y k : Nat) (ea eb place : Int) (w : World) (hsg : (!(na == nb)) = false) (h1 : At w ua (dlen x) x) (hu : dlen x ≤ uc) (h2 : At w va (dlen y) y) (hv : dlen y ≤ vc) (hx0 : x ≠ 0) (hy0 : y ≠ 0) (hx : dlen x ≤ 3000) (hy : dlen y ≤ 3000)
    (he1 : -200000 ≤ ea) (he2 : ea ≤ 200000) (he3 : -200000 ≤ eb) (he4 : eb ≤ 200000) (hp1 : -200000 ≤ place) (hp2 : place ≤ 200000) (hk : ea - eb + place = (k : Int)) (hk2 : k ≤ 600000) (hr : ¬ (x * 2 ^ k) % (y) = 0) :
    Calls Tryz.prog 84 #[.agg #[.bool na, .slice ua (dlen x) uc, .int .i64 ea], .agg #[.bool nb, .slice va (dlen y) vc, .int .i64 eb], .int .i64 place] w fun r w' => ∃ A, r = .returned (.tuple #[A, .bool false]) ∧ NC w' w.heap.size A false ((x * 2 ^ k) / (y)) (-place) ∧ Below w.heap.size w w' := by
  obtain ⟨W, hW⟩ : ∃ W, W = ((w.alloc (.cells #[.bool na, .slice ua (dlen x) uc, .int .i64 ea] 24)).alloc (.cells #[.bool nb, .slice va (dlen y) vc, .int .i64 eb] 24)).alloc (.cells #[.bool false, .slice none 0 0, .int .i64 0] 24) := ⟨_, rfl⟩
  obtain ⟨hA, hBb, hC, hsz, hBW⟩ := boxes3 _ _ _ hW
  have HH : Hid ((W.heap[w.heap.size]? = some (.cells #[.bool na, .slice ua (dlen x) uc, .int .i64 ea] 24 (0, 0)) ∧ W.heap[w.heap.size + 1]? = some (.cells #[.bool nb, .slice va (dlen y) vc, .int .i64 eb] 24 (0, 0)) ∧ W.heap[w.heap.size + 1 + 1]? = some (.cells #[.bool false, .slice none 0 0, .int .i64 0] 24 (0, 0))) ∧ W.heap.size = w.heap.size + 1 + 1 + 1 ∧ Below w.heap.size w W) := ⟨⟨hA, hBb, hC⟩, hsz, hBW⟩
  obtain ⟨⟨a0, a1, a2⟩, -⟩ := box_cells29 hA
  obtain ⟨⟨b0, b1, b2⟩, -⟩ := box_cells29 hBb
  have HI : Hid (Ir w (.slice ua (dlen x) uc) x ∧ Ir w (.slice va (dlen y) vc) y) := ⟨⟨ua, uc, rfl, hu, h1⟩, ⟨va, vc, rfl, hv, h2⟩⟩
  have HN : Hid ((x ≠ 0 ∧ y ≠ 0 ∧ dlen x ≤ 3000 ∧ dlen y ≤ 3000 ∧ k ≤ 600000) ∧ ¬ (x * 2 ^ k) % (y) = 0) := ⟨⟨hx0, hy0, hx, hy, hk2⟩, hr⟩
  have hxz : ((dlen x : Int) == 0) = false := len_ne (n := 0) hx0
  clear hA hBb hC hsz hBW h1 h2 hr
  generalize hdx : dlen x = lx at *
  generalize hdy : dlen y = ly at *
  rw [hW] at a0 a1 a2 b0 b1 b2
  go_enter Tryz.func84, Tryz.ntmps84
  go_wp2
  go_quiet (fail)
  rw [← hW]
  have HBW1 : Hid (Below W.heap.size W (W.drewN nq)) := (⟨rfl, rfl, rfl, Nat.le_refl _, fun _ _ => rfl⟩ : Below W.heap.size W (W.drewN nq))
  obtain ⟨W1, hW1⟩ : ∃ W1, W1 = W.drewN nq := ⟨_, rfl⟩
  rw [← hW1] at HBW1 ⊢
  clear hW hW1 a0 a1 a2 b0 b1 b2
  have HIW : Hid (Ir W1 (.slice ua lx uc) x ∧ Ir W1 (.slice va ly vc) y) := ⟨HI.out.1.later (HH.out.2.2.trans (HBW1.out.mono HH.out.2.2.size)), HI.out.2.later (HH.out.2.2.trans (HBW1.out.mono HH.out.2.2.size))⟩
  have ku := rup HIW.out.1 k (by have := HN.out.1; omega) (by omega)
  go_wp2_with fail
  refine ku.mono ?_
  rintro r w4 ⟨vu, rfl, hIu, hb4⟩
  have HB4 : Hid (Below W.heap.size W w4) := HBW1.out.trans (hb4.mono HBW1.out.size)
  have hl : dlen (x * 2 ^ k) ≤ 25000 := by
    have := shl_len (x := x) (k := k) rfl
    have := HN.out.1
    omega
  have kd := rdivide hIu (HIW.out.2.later hb4) (Nat.mul_ne_zero HN.out.1.1 (by have := Nat.two_pow_pos k; omega)) HN.out.1.2.1 (by omega) (by have := HN.out.1; omega)
  have HO : Hid (Ir w4 vu (x * 2 ^ k)) := hIu
  clear ku hIu hb4
  go_wp2_with fail
  refine kd.mono ?_
  rintro r w5 ⟨vq, vr, rfl, hIq, hIr, hb5⟩
  have HB5 : Hid (Below W.heap.size W w5) := HB4.out.trans (hb5.mono HB4.out.size)
  obtain ⟨⟨a0, a1, a2⟩, -⟩ := box_cells29 (box_later HH.out.1.1 HB5.out (by have := HH.out.2.1; omega))
  obtain ⟨⟨b0, b1, b2⟩, -⟩ := box_cells29 (box_later HH.out.1.2.1 HB5.out (by have := HH.out.2.1; omega))
  obtain ⟨rr, rcap, rfl, hrc, hrA⟩ := hIr
  have hql : dlen ((x * 2 ^ k) / (y)) ≤ 30000 := Nat.le_trans (dlen_mono (Nat.div_le_self _ _)) (by omega)
  have kn := rnorm (neg := false) (e := -place) hIq (by omega) (by omega)
  have HQL : Hid (dlen ((x * 2 ^ k) / (y)) ≤ 30000) := hql
  have hrl : ((dlen ((x * 2 ^ k) % (y)) : Int) == 0) = false := len_ne (n := 0) HN.out.2
  clear kd hIq hb5 hrA hql hl
  generalize hdr : dlen ((x * 2 ^ k) % (y)) = lr at *
  go_wp2_with fail
  refine kn.mono ?_
  rintro r w6 ⟨A, rfl, hN6, hb6⟩
  obtain ⟨s6, ao6, n6, cap6, ex6, rfl⟩ := hN6.shape
  have HB6 : Hid (Below W.heap.size W w6) := HB5.out.trans (hb6.mono HB5.out.size)
  have HN6 : Hid (NC w6 w5.heap.size (.agg #[.bool s6, .slice ao6 n6 cap6, .int .i64 ex6]) false ((x * 2 ^ k) / (y)) (-place)) := hN6
  obtain ⟨w7, hw7⟩ : ∃ w7, w7 = w6.alloc (.cells #[.bool s6, .slice ao6 n6 cap6, .int .i64 ex6] 24) := ⟨_, rfl⟩
  have hB67 : Below w6.heap.size w6 w7 := by rw [hw7]; exact (Below.refl _ _).alloc (Nat.le_refl _) _
  have HB7 : Hid (Below W.heap.size W w7) := HB6.out.trans (hB67.mono HB6.out.size)
  have hbox : w7.heap[w6.heap.size]? = some (.cells #[.bool s6, .slice ao6 n6 cap6, .int .i64 ex6] 24 (0, 0)) := by rw [hw7]; exact heap_alloc_new _ _
  have HBX : Hid (w7.heap[w6.heap.size]? = some (.cells #[.bool s6, .slice ao6 n6 cap6, .int .i64 ex6] 24 (0, 0)) ∧ Below w6.heap.size w6 w7) := ⟨hbox, hB67⟩
  have hres := box_later HH.out.1.2.2 HB7.out (by have := HH.out.2.1; omega)
  have HRES : Hid (w7.heap[w.heap.size + 1 + 1]? = some (.cells #[.bool false, .slice none 0 0, .int .i64 0] 24 (0, 0))) := hres
  obtain ⟨⟨c0, c1, c2⟩, c3, c4, c5⟩ := box_cells29 hres
  obtain ⟨⟨d0, d1, d2⟩, d3, d4, d5⟩ := box_cells29 hbox
  clear kn hN6 hb6 hbox hres hB67 a0 a1 a2 b0 b1 b2
  rw [hw7] at c0 c1 c2 c3 c4 c5 d0 d1 d2 d3 d4 d5
  go_wp2
  rw [← hw7]
  refine bodyPost_ret (results_cell_tmp_row rfl _ _ (w.heap.size + 1 + 1) 24 #[.bool s6, .slice ao6 n6 cap6, .int .i64 ex6] (0, 0) _ rfl (store3_29 _ _ _ HRES.out) Tryz.underlying24 rfl Tryz.info24) rfl ?_
  have q1 := HH.out.2.1
  have q2 := HB5.out.size
  exact ⟨_, rfl, ((HN6.out.later HBX.out.2).store (by omega) _ _ _).mono (by omega), below_store3 (HH.out.2.2.trans (HB7.out.mono HH.out.2.2.size)) (by omega) _ _ _⟩
set_option maxHeartbeats 4000000 in
set_option maxRecDepth 200000 in
theorem rover_arn (na nb : Bool) (ua va : Option Addr) (uc vc x y k : Nat) (ea eb place : Int) (w : World) (hsg : (!(na == nb)) = true) (h1 : At w ua (dlen x) x) (hu : dlen x ≤ uc) (h2 : At w va (dlen y) y) (hv : dlen y ≤ vc) (hx0 : x ≠ 0) (hy0 : y ≠ 0) (hx : dlen x ≤ 3000) (hy : dlen y ≤ 3000)
    (he1 : -200000 ≤ ea) (he2 : ea ≤ 200000) (he3 : -200000 ≤ eb) (he4 : eb ≤ 200000) (hp1 : -200000 ≤ place) (hp2 : place ≤ 200000) (hk : ea - eb + place = (k : Int)) (hk2 : k ≤ 600000) (hr : ¬ (x * 2 ^ k) % (y) = 0) :
    Calls Tryz.prog 84 #[.agg #[.bool na, .slice ua (dlen x) uc, .int .i64 ea], .agg #[.bool nb, .slice va (dlen y) vc, .int .i64 eb], .int .i64 place] w fun r w' => ∃ A, r = .returned (.tuple #[A, .bool false]) ∧ NC w' w.heap.size A true ((x * 2 ^ k) / (y) + 1) (-place) ∧ Below w.heap.size w w' := by
  obtain ⟨W, hW⟩ : ∃ W, W = ((w.alloc (.cells #[.bool na, .slice ua (dlen x) uc, .int .i64 ea] 24)).alloc (.cells #[.bool nb, .slice va (dlen y) vc, .int .i64 eb] 24)).alloc (.cells #[.bool false, .slice none 0 0, .int .i64 0] 24) := ⟨_, rfl⟩
  obtain ⟨hA, hBb, hC, hsz, hBW⟩ := boxes3 _ _ _ hW
  have HH : Hid ((W.heap[w.heap.size]? = some (.cells #[.bool na, .slice ua (dlen x) uc, .int .i64 ea] 24 (0, 0)) ∧ W.heap[w.heap.size + 1]? = some (.cells #[.bool nb, .slice va (dlen y) vc, .int .i64 eb] 24 (0, 0)) ∧ W.heap[w.heap.size + 1 + 1]? = some (.cells #[.bool false, .slice none 0 0, .int .i64 0] 24 (0, 0))) ∧ W.heap.size = w.heap.size + 1 + 1 + 1 ∧ Below w.heap.size w W) := ⟨⟨hA, hBb, hC⟩, hsz, hBW⟩
  obtain ⟨⟨a0, a1, a2⟩, -⟩ := box_cells29 hA
  obtain ⟨⟨b0, b1, b2⟩, -⟩ := box_cells29 hBb
  have HI : Hid (Ir w (.slice ua (dlen x) uc) x ∧ Ir w (.slice va (dlen y) vc) y) := ⟨⟨ua, uc, rfl, hu, h1⟩, ⟨va, vc, rfl, hv, h2⟩⟩
  have HN : Hid ((x ≠ 0 ∧ y ≠ 0 ∧ dlen x ≤ 3000 ∧ dlen y ≤ 3000 ∧ k ≤ 600000) ∧ ¬ (x * 2 ^ k) % (y) = 0) := ⟨⟨hx0, hy0, hx, hy, hk2⟩, hr⟩
  have hxz : ((dlen x : Int) == 0) = false := len_ne (n := 0) hx0
  clear hA hBb hC hsz hBW h1 h2 hr
  generalize hdx : dlen x = lx at *
  generalize hdy : dlen y = ly at *
  rw [hW] at a0 a1 a2 b0 b1 b2
  go_enter Tryz.func84, Tryz.ntmps84
  go_wp2
  go_quiet (fail)
  rw [← hW]
  have HBW1 : Hid (Below W.heap.size W (W.drewN nq)) := (⟨rfl, rfl, rfl, Nat.le_refl _, fun _ _ => rfl⟩ : Below W.heap.size W (W.drewN nq))
  obtain ⟨W1, hW1⟩ : ∃ W1, W1 = W.drewN nq := ⟨_, rfl⟩
  rw [← hW1] at HBW1 ⊢
  clear hW hW1 a0 a1 a2 b0 b1 b2
  have HIW : Hid (Ir W1 (.slice ua lx uc) x ∧ Ir W1 (.slice va ly vc) y) := ⟨HI.out.1.later (HH.out.2.2.trans (HBW1.out.mono HH.out.2.2.size)), HI.out.2.later (HH.out.2.2.trans (HBW1.out.mono HH.out.2.2.size))⟩
  have ku := rup HIW.out.1 k (by have := HN.out.1; omega) (by omega)
  go_wp2_with fail
  refine ku.mono ?_
  rintro r w4 ⟨vu, rfl, hIu, hb4⟩
  have HB4 : Hid (Below W.heap.size W w4) := HBW1.out.trans (hb4.mono HBW1.out.size)
  have hl : dlen (x * 2 ^ k) ≤ 25000 := by
    have := shl_len (x := x) (k := k) rfl
    have := HN.out.1
    omega
  have kd := rdivide hIu (HIW.out.2.later hb4) (Nat.mul_ne_zero HN.out.1.1 (by have := Nat.two_pow_pos k; omega)) HN.out.1.2.1 (by omega) (by have := HN.out.1; omega)
  have HO : Hid (Ir w4 vu (x * 2 ^ k)) := hIu
  clear ku hIu hb4
  go_wp2_with fail
  refine kd.mono ?_
  rintro r w5 ⟨vq, vr, rfl, hIq, hIr, hb5⟩
  have HB5 : Hid (Below W.heap.size W w5) := HB4.out.trans (hb5.mono HB4.out.size)
  obtain ⟨⟨a0, a1, a2⟩, -⟩ := box_cells29 (box_later HH.out.1.1 HB5.out (by have := HH.out.2.1; omega))
  obtain ⟨⟨b0, b1, b2⟩, -⟩ := box_cells29 (box_later HH.out.1.2.1 HB5.out (by have := HH.out.2.1; omega))
  obtain ⟨rr, rcap, rfl, hrc, hrA⟩ := hIr
  have hql : dlen ((x * 2 ^ k) / (y)) ≤ 30000 := Nat.le_trans (dlen_mono (Nat.div_le_self _ _)) (by omega)
  have kn := rnorm (neg := true) (e := -place) hIq (by omega) (by omega)
  have HQL : Hid (dlen ((x * 2 ^ k) / (y)) ≤ 30000) := hql
  have hrl : ((dlen ((x * 2 ^ k) % (y)) : Int) == 0) = false := len_ne (n := 0) HN.out.2
  clear kd hIq hb5 hrA hql hl
  generalize hdr : dlen ((x * 2 ^ k) % (y)) = lr at *
  go_wp2_with fail
  refine kn.mono ?_
  rintro r w6 ⟨A, rfl, hN6, hb6⟩
  obtain ⟨s6, ao6, n6, cap6, ex6, rfl⟩ := hN6.shape
  have HB6 : Hid (Below W.heap.size W w6) := HB5.out.trans (hb6.mono HB5.out.size)
  have HN6 : Hid (NC w6 w5.heap.size (.agg #[.bool s6, .slice ao6 n6 cap6, .int .i64 ex6]) true ((x * 2 ^ k) / (y)) (-place)) := hN6
  obtain ⟨w7, hw7⟩ : ∃ w7, w7 = w6.alloc (.cells #[.bool s6, .slice ao6 n6 cap6, .int .i64 ex6] 24) := ⟨_, rfl⟩
  have hB67 : Below w6.heap.size w6 w7 := by rw [hw7]; exact (Below.refl _ _).alloc (Nat.le_refl _) _
  have HB7 : Hid (Below W.heap.size W w7) := HB6.out.trans (hB67.mono HB6.out.size)
  have hbox : w7.heap[w6.heap.size]? = some (.cells #[.bool s6, .slice ao6 n6 cap6, .int .i64 ex6] 24 (0, 0)) := by rw [hw7]; exact heap_alloc_new _ _
  have HBX : Hid (w7.heap[w6.heap.size]? = some (.cells #[.bool s6, .slice ao6 n6 cap6, .int .i64 ex6] 24 (0, 0)) ∧ Below w6.heap.size w6 w7) := ⟨hbox, hB67⟩
  have hres := box_later HH.out.1.2.2 HB7.out (by have := HH.out.2.1; omega)
  have HRES : Hid (w7.heap[w.heap.size + 1 + 1]? = some (.cells #[.bool false, .slice none 0 0, .int .i64 0] 24 (0, 0))) := hres
  obtain ⟨⟨c0, c1, c2⟩, c3, c4, c5⟩ := box_cells29 hres
  obtain ⟨⟨d0, d1, d2⟩, d3, d4, d5⟩ := box_cells29 hbox
  clear kn hN6 hb6 hbox hres hB67 a0 a1 a2 b0 b1 b2
  rw [hw7] at c0 c1 c2 c3 c4 c5 d0 d1 d2 d3 d4 d5
  have HK : Hid (∀ w', Below w7.heap.size w7 w' → (w'.cell? ⟨w6.heap.size, 0, none⟩ = some (.bool s6) ∧ w'.cell? ⟨w6.heap.size, 1, none⟩ = some (.slice ao6 n6 cap6) ∧ w'.cell? ⟨w6.heap.size, 2, none⟩ = some (.int .i64 ex6))) := fun w' hb => (box_cells29 (box_later HBX.out.1 hb (by have := HBX.out.1; exact (Array.getElem?_eq_some_iff.1 this).1))).1
  have kO : ∀ w8, Below w7.heap.size w7 w8 → Calls Tryz.prog 134 #[.int .i64 place] w8 fun r w' => ∃ g, r = .returned (.agg #[.bool false, .slice (some ⟨g, 0, none⟩) 1 1, .int .i64 (-place)]) ∧ Hid (At w' (some ⟨g, 0, none⟩) 1 1) ∧ Below w7.heap.size w7 w' ∧ (w'.cell? ⟨w6.heap.size, 0, none⟩ = some (.bool s6) ∧ w'.cell? ⟨w6.heap.size, 1, none⟩ = some (.slice ao6 n6 cap6) ∧ w'.cell? ⟨w6.heap.size, 2, none⟩ = some (.int .i64 ex6)) := fun w8 hb => (rone place w8 (by omega) (by omega)).mono fun r w' ⟨g, e1, e2, e3, e4⟩ => ⟨g, e1, e3, hb.trans (e4.mono hb.size), HK.out w' (hb.trans (e4.mono hb.size))⟩
  have kL : ∀ g w9, Hid (At w9 (some ⟨g, 0, none⟩) 1 1) → Below w7.heap.size w7 w9 → Calls Tryz.prog 133 #[.agg #[.bool s6, .slice ao6 n6 cap6, .int .i64 ex6], .agg #[.bool false, .slice (some ⟨g, 0, none⟩) 1 1, .int .i64 (-place)]] w9 fun r w' => ∃ s ao n cap ex, r = .returned (.agg #[.bool s, .slice ao n cap, .int .i64 ex]) ∧ Hid (NC w' w7.heap.size (.agg #[.bool s, .slice ao n cap, .int .i64 ex]) true ((x * 2 ^ k) / (y) + 1) (-place)) ∧ Below w7.heap.size w7 w' ∧ Hid (w'.heap[w6.heap.size]? = some (.cells #[.bool s6, .slice ao6 n6 cap6, .int .i64 ex6] 24 (0, 0))) ∧ (w'.cell? ⟨w6.heap.size, 0, none⟩ = some (.bool s6) ∧ w'.cell? ⟨w6.heap.size, 1, none⟩ = some (.slice ao6 n6 cap6) ∧ w'.cell? ⟨w6.heap.size, 2, none⟩ = some (.int .i64 ex6)) ∧ (w'.frozen? ⟨w6.heap.size, 0, none⟩ = false ∧ w'.frozen? ⟨w6.heap.size, 1, none⟩ = false ∧ w'.frozen? ⟨w6.heap.size, 2, none⟩ = false) := by
    intro g w9 hA hb
    refine (rless_nc ((HN6.out.later HBX.out.2).later hb) hA.out (Nat.le_refl _) (by omega) (by omega) HQL.out).mono ?_
    rintro r w10 ⟨A, rfl, hN, hb10⟩
    obtain ⟨s, ao, n, cap, ex, rfl⟩ := hN.shape
    have hbb := hb.trans (hb10.mono hb.size)
    have hblk := box_later HBX.out.1 hbb (by have := HBX.out.1; exact (Array.getElem?_eq_some_iff.1 this).1)
    obtain ⟨f1, f2⟩ := box_cells29 hblk
    exact ⟨s, ao, n, cap, ex, rfl, hN.mono hb.size, hbb, hblk, f1, f2⟩
  have hBR : Below w7.heap.size w7 w7.drew := (Below.refl _ _).drew
  have e0 : w7.cell? ⟨w6.heap.size, 0, none⟩ = some (.bool s6) ∧ w7.cell? ⟨w6.heap.size, 1, none⟩ = some (.slice ao6 n6 cap6) ∧ w7.cell? ⟨w6.heap.size, 2, none⟩ = some (.int .i64 ex6) := HK.out w7 (Below.refl _ _)
  go_upto_region 14 with fail
  rw [← hw7]
  clear hw7 c0 c1 c2 c3 c4 c5 d0 d1 d2 d3 d4 d5
  obtain ⟨d0, d1, d2⟩ := e0
  go_cut [64] from 61 to 64 (fun v wx => ∃ s ao n cap ex, v = .agg #[.bool s, .slice ao n cap, .int .i64 ex] ∧ Hid (NC wx w7.heap.size (.agg #[.bool s, .slice ao n cap, .int .i64 ex]) true ((x * 2 ^ k) / (y) + 1) (-place)) ∧ Hid (wx.heap[w6.heap.size]? = some (.cells #[.bool s, .slice ao n cap, .int .i64 ex] 24 (0, 0))) ∧ Hid (Below w6.heap.size w7 wx))
  case first =>
    go_region_with (first | (go_at_call 134; refine (kO _ (by first | (with_reducible assumption) | exact hBR | exact Below.refl _ _)).mono ?_; rintro r w8 ⟨g8, rfl, hA8, hb8, ⟨y1, y2, y3⟩⟩) | (go_at_call 133; refine (kL _ _ hA8 (by with_reducible assumption)).mono ?_; rintro r w9 ⟨s9, ao9, n9, cap9, ex9, rfl, hN9, hb9, hblk9, ⟨x1, x2, x3⟩, x4, x5, x6⟩))
    all_goals go_wp2_with fail
    all_goals go_meet
    all_goals exact ⟨s9, ao9, n9, cap9, ex9, rfl, hN9.out.store (Array.getElem?_eq_some_iff.1 HBX.out.1).1 _ _ _, store3_29 _ _ _ hblk9.out, below_store3 (hb9.mono HBX.out.2.size) (Nat.le_refl _) _ _ _⟩
  case rest =>
    obtain ⟨s9, ao9, n9, cap9, ex9, rfl, hN9, hB9, hL9⟩ := hcut
    obtain ⟨wx, rfl⟩ : ∃ wx : World, wx = wc := ⟨_, rfl⟩
    have q1 := HH.out.2.1
    have q2 := HB6.out.size
    have q3 := HB7.out.size
    have HBx : Hid (Below W.heap.size W wx) := HB7.out.trans (hL9.out.mono HB6.out.size)
    have hres := box_later HH.out.1.2.2 HBx.out (by omega)
    have HRES2 : Hid (wx.heap[w.heap.size + 1 + 1]? = some (.cells #[.bool false, .slice none 0 0, .int .i64 0] 24 (0, 0))) := hres
    obtain ⟨⟨c0, c1, c2⟩, c3, c4, c5⟩ := box_cells29 hres
    clear d0 d1 d2
    obtain ⟨⟨d0, d1, d2⟩, d3, d4, d5⟩ := box_cells29 hB9.out
    clear kO kL hBR hres
    go_wp2
    refine bodyPost_ret (results_cell_tmp_row rfl _ _ (w.heap.size + 1 + 1) 24 #[.bool s9, .slice ao9 n9 cap9, .int .i64 ex9] (0, 0) _ rfl (store3_29 _ _ _ HRES2.out) Tryz.underlying24 rfl Tryz.info24) rfl ?_
    exact ⟨_, rfl, (hN9.out.store (by omega) _ _ _).mono (by omega), below_store3 (HH.out.2.2.trans (HBx.out.mono HH.out.2.2.size)) (by omega) _ _ _⟩
set_option maxHeartbeats 4000000 in
set_option maxRecDepth 200000 in
theorem rover_be (na nb : Bool) (ua va : Option Addr) (uc vc x y k : Nat) (ea eb place : Int) (w : World) (sg : Bool) (hsg : (!(na == nb)) = sg) (h1 : At w ua (dlen x) x) (hu : dlen x ≤ uc) (h2 : At w va (dlen y) y) (hv : dlen y ≤ vc) (hx0 : x ≠ 0) (hy0 : y ≠ 0) (hx : dlen x ≤ 3000) (hy : dlen y ≤ 3000)
    (he1 : -200000 ≤ ea) (he2 : ea ≤ 200000) (he3 : -200000 ≤ eb) (he4 : eb ≤ 200000) (hp1 : -200000 ≤ place) (hp2 : place ≤ 200000) (hk : ea - eb + place = -(k : Int)) (hk1 : 0 < k) (hk2 : k ≤ 600000) (hr : (x) % (y * 2 ^ k) = 0) :
    Calls Tryz.prog 84 #[.agg #[.bool na, .slice ua (dlen x) uc, .int .i64 ea], .agg #[.bool nb, .slice va (dlen y) vc, .int .i64 eb], .int .i64 place] w fun r w' => ∃ A, r = .returned (.tuple #[A, .bool true]) ∧ NC w' w.heap.size A sg ((x) / (y * 2 ^ k)) (-place) ∧ Below w.heap.size w w' := by
  obtain ⟨W, hW⟩ : ∃ W, W = ((w.alloc (.cells #[.bool na, .slice ua (dlen x) uc, .int .i64 ea] 24)).alloc (.cells #[.bool nb, .slice va (dlen y) vc, .int .i64 eb] 24)).alloc (.cells #[.bool false, .slice none 0 0, .int .i64 0] 24) := ⟨_, rfl⟩
  obtain ⟨hA, hBb, hC, hsz, hBW⟩ := boxes3 _ _ _ hW
  have HH : Hid ((W.heap[w.heap.size]? = some (.cells #[.bool na, .slice ua (dlen x) uc, .int .i64 ea] 24 (0, 0)) ∧ W.heap[w.heap.size + 1]? = some (.cells #[.bool nb, .slice va (dlen y) vc, .int .i64 eb] 24 (0, 0)) ∧ W.heap[w.heap.size + 1 + 1]? = some (.cells #[.bool false, .slice none 0 0, .int .i64 0] 24 (0, 0))) ∧ W.heap.size = w.heap.size + 1 + 1 + 1 ∧ Below w.heap.size w W) := ⟨⟨hA, hBb, hC⟩, hsz, hBW⟩
  obtain ⟨⟨a0, a1, a2⟩, -⟩ := box_cells29 hA
  obtain ⟨⟨b0, b1, b2⟩, -⟩ := box_cells29 hBb
  have HI : Hid (Ir w (.slice ua (dlen x) uc) x ∧ Ir w (.slice va (dlen y) vc) y) := ⟨⟨ua, uc, rfl, hu, h1⟩, ⟨va, vc, rfl, hv, h2⟩⟩
  have HN : Hid ((x ≠ 0 ∧ y ≠ 0 ∧ dlen x ≤ 3000 ∧ dlen y ≤ 3000 ∧ k ≤ 600000) ∧ (x) % (y * 2 ^ k) = 0) := ⟨⟨hx0, hy0, hx, hy, hk2⟩, hr⟩
  have hxz : ((dlen x : Int) == 0) = false := len_ne (n := 0) hx0
  clear hA hBb hC hsz hBW h1 h2 hr
  generalize hdx : dlen x = lx at *
  generalize hdy : dlen y = ly at *
  rw [hW] at a0 a1 a2 b0 b1 b2
  go_enter Tryz.func84, Tryz.ntmps84
  go_wp2
  go_quiet (fail)
  rw [← hW]
  have HBW1 : Hid (Below W.heap.size W (W.drewN nq)) := (⟨rfl, rfl, rfl, Nat.le_refl _, fun _ _ => rfl⟩ : Below W.heap.size W (W.drewN nq))
  obtain ⟨W1, hW1⟩ : ∃ W1, W1 = W.drewN nq := ⟨_, rfl⟩
  rw [← hW1] at HBW1 ⊢
  clear hW hW1 a0 a1 a2 b0 b1 b2
  have HIW : Hid (Ir W1 (.slice ua lx uc) x ∧ Ir W1 (.slice va ly vc) y) := ⟨HI.out.1.later (HH.out.2.2.trans (HBW1.out.mono HH.out.2.2.size)), HI.out.2.later (HH.out.2.2.trans (HBW1.out.mono HH.out.2.2.size))⟩
  have ku := rup HIW.out.2 k (by have := HN.out.1; omega) (by omega)
  go_wp2_with fail
  refine ku.mono ?_
  rintro r w4 ⟨vu, rfl, hIu, hb4⟩
  have HB4 : Hid (Below W.heap.size W w4) := HBW1.out.trans (hb4.mono HBW1.out.size)
  have hl : dlen (y * 2 ^ k) ≤ 25000 := by
    have := shl_len (x := y) (k := k) rfl
    have := HN.out.1
    omega
  have kd := rdivide (HIW.out.1.later hb4) hIu HN.out.1.1 (Nat.mul_ne_zero HN.out.1.2.1 (by have := Nat.two_pow_pos k; omega)) (by have := HN.out.1; omega) (by omega)
  have HO : Hid (Ir w4 vu (y * 2 ^ k)) := hIu
  clear ku hIu hb4
  go_wp2_with fail
  refine kd.mono ?_
  rintro r w5 ⟨vq, vr, rfl, hIq, hIr, hb5⟩
  have HB5 : Hid (Below W.heap.size W w5) := HB4.out.trans (hb5.mono HB4.out.size)
  obtain ⟨⟨a0, a1, a2⟩, -⟩ := box_cells29 (box_later HH.out.1.1 HB5.out (by have := HH.out.2.1; omega))
  obtain ⟨⟨b0, b1, b2⟩, -⟩ := box_cells29 (box_later HH.out.1.2.1 HB5.out (by have := HH.out.2.1; omega))
  obtain ⟨rr, rcap, rfl, hrc, hrA⟩ := hIr
  have hql : dlen ((x) / (y * 2 ^ k)) ≤ 30000 := Nat.le_trans (dlen_mono (Nat.div_le_self _ _)) (by have := HN.out.1; omega)
  have kn := rnorm (neg := sg) (e := -place) hIq (by omega) (by omega)
  have HQL : Hid (dlen ((x) / (y * 2 ^ k)) ≤ 30000) := hql
  have hrl : ((dlen ((x) % (y * 2 ^ k)) : Int) == 0) = true := by rw [show (x) % (y * 2 ^ k) = 0 from HN.out.2, dlen_zero]; rfl
  clear kd hIq hb5 hrA hql hl
  generalize hdr : dlen ((x) % (y * 2 ^ k)) = lr at *
  go_wp2_with fail
  refine kn.mono ?_
  rintro r w6 ⟨A, rfl, hN6, hb6⟩
  obtain ⟨s6, ao6, n6, cap6, ex6, rfl⟩ := hN6.shape
  have HB6 : Hid (Below W.heap.size W w6) := HB5.out.trans (hb6.mono HB5.out.size)
  have HN6 : Hid (NC w6 w5.heap.size (.agg #[.bool s6, .slice ao6 n6 cap6, .int .i64 ex6]) sg ((x) / (y * 2 ^ k)) (-place)) := hN6
  obtain ⟨w7, hw7⟩ : ∃ w7, w7 = w6.alloc (.cells #[.bool s6, .slice ao6 n6 cap6, .int .i64 ex6] 24) := ⟨_, rfl⟩
  have hB67 : Below w6.heap.size w6 w7 := by rw [hw7]; exact (Below.refl _ _).alloc (Nat.le_refl _) _
  have HB7 : Hid (Below W.heap.size W w7) := HB6.out.trans (hB67.mono HB6.out.size)
  have hbox : w7.heap[w6.heap.size]? = some (.cells #[.bool s6, .slice ao6 n6 cap6, .int .i64 ex6] 24 (0, 0)) := by rw [hw7]; exact heap_alloc_new _ _
  have HBX : Hid (w7.heap[w6.heap.size]? = some (.cells #[.bool s6, .slice ao6 n6 cap6, .int .i64 ex6] 24 (0, 0)) ∧ Below w6.heap.size w6 w7) := ⟨hbox, hB67⟩
  have hres := box_later HH.out.1.2.2 HB7.out (by have := HH.out.2.1; omega)
  have HRES : Hid (w7.heap[w.heap.size + 1 + 1]? = some (.cells #[.bool false, .slice none 0 0, .int .i64 0] 24 (0, 0))) := hres
  obtain ⟨⟨c0, c1, c2⟩, c3, c4, c5⟩ := box_cells29 hres
  obtain ⟨⟨d0, d1, d2⟩, d3, d4, d5⟩ := box_cells29 hbox
  clear kn hN6 hb6 hbox hres hB67 a0 a1 a2 b0 b1 b2
  rw [hw7] at c0 c1 c2 c3 c4 c5 d0 d1 d2 d3 d4 d5
  go_wp2
  rw [← hw7]
  refine bodyPost_ret (results_cell_tmp_row rfl _ _ (w.heap.size + 1 + 1) 24 #[.bool s6, .slice ao6 n6 cap6, .int .i64 ex6] (0, 0) _ rfl (store3_29 _ _ _ HRES.out) Tryz.underlying24 rfl Tryz.info24) rfl ?_
  have q1 := HH.out.2.1
  have q2 := HB5.out.size
  exact ⟨_, rfl, ((HN6.out.later HBX.out.2).store (by omega) _ _ _).mono (by omega), below_store3 (HH.out.2.2.trans (HB7.out.mono HH.out.2.2.size)) (by omega) _ _ _⟩
set_option maxHeartbeats 4000000 in
set_option maxRecDepth 200000 in
theorem rover_brp (na nb : Bool) (ua va : Option Addr) (uc vc x y k : Nat) (ea eb place : Int) (w : World) (hsg : (!(na == nb)) = false) (h1 : At w ua (dlen x) x) (hu : dlen x ≤ uc) (h2 : At w va (dlen y) y) (hv : dlen y ≤ vc) (hx0 : x ≠ 0) (hy0 : y ≠ 0) (hx : dlen x ≤ 3000) (hy : dlen y ≤ 3000)
    (he1 : -200000 ≤ ea) (he2 : ea ≤ 200000) (he3 : -200000 ≤ eb) (he4 : eb ≤ 200000) (hp1 : -200000 ≤ place) (hp2 : place ≤ 200000) (hk : ea - eb + place = -(k : Int)) (hk1 : 0 < k) (hk2 : k ≤ 600000) (hr : ¬ (x) % (y * 2 ^ k) = 0) :
    Calls Tryz.prog 84 #[.agg #[.bool na, .slice ua (dlen x) uc, .int .i64 ea], .agg #[.bool nb, .slice va (dlen y) vc, .int .i64 eb], .int .i64 place] w fun r w' => ∃ A, r = .returned (.tuple #[A, .bool false]) ∧ NC w' w.heap.size A false ((x) / (y * 2 ^ k)) (-place) ∧ Below w.heap.size w w' := by
  obtain ⟨W, hW⟩ : ∃ W, W = ((w.alloc (.cells #[.bool na, .slice ua (dlen x) uc, .int .i64 ea] 24)).alloc (.cells #[.bool nb, .slice va (dlen y) vc, .int .i64 eb] 24)).alloc (.cells #[.bool false, .slice none 0 0, .int .i64 0] 24) := ⟨_, rfl⟩
  obtain ⟨hA, hBb, hC, hsz, hBW⟩ := boxes3 _ _ _ hW
  have HH : Hid ((W.heap[w.heap.size]? = some (.cells #[.bool na, .slice ua (dlen x) uc, .int .i64 ea] 24 (0, 0)) ∧ W.heap[w.heap.size + 1]? = some (.cells #[.bool nb, .slice va (dlen y) vc, .int .i64 eb] 24 (0, 0)) ∧ W.heap[w.heap.size + 1 + 1]? = some (.cells #[.bool false, .slice none 0 0, .int .i64 0] 24 (0, 0))) ∧ W.heap.size = w.heap.size + 1 + 1 + 1 ∧ Below w.heap.size w W) := ⟨⟨hA, hBb, hC⟩, hsz, hBW⟩
  obtain ⟨⟨a0, a1, a2⟩, -⟩ := box_cells29 hA
  obtain ⟨⟨b0, b1, b2⟩, -⟩ := box_cells29 hBb
  have HI : Hid (Ir w (.slice ua (dlen x) uc) x ∧ Ir w (.slice va (dlen y) vc) y) := ⟨⟨ua, uc, rfl, hu, h1⟩, ⟨va, vc, rfl, hv, h2⟩⟩
  have HN : Hid ((x ≠ 0 ∧ y ≠ 0 ∧ dlen x ≤ 3000 ∧ dlen y ≤ 3000 ∧ k ≤ 600000) ∧ ¬ (x) % (y * 2 ^ k) = 0) := ⟨⟨hx0, hy0, hx, hy, hk2⟩, hr⟩
  have hxz : ((dlen x : Int) == 0) = false := len_ne (n := 0) hx0
  clear hA hBb hC hsz hBW h1 h2 hr
  generalize hdx : dlen x = lx at *
  generalize hdy : dlen y = ly at *
  rw [hW] at a0 a1 a2 b0 b1 b2
  go_enter Tryz.func84, Tryz.ntmps84
  go_wp2
  go_quiet (fail)
  rw [← hW]
  have HBW1 : Hid (Below W.heap.size W (W.drewN nq)) := (⟨rfl, rfl, rfl, Nat.le_refl _, fun _ _ => rfl⟩ : Below W.heap.size W (W.drewN nq))
  obtain ⟨W1, hW1⟩ : ∃ W1, W1 = W.drewN nq := ⟨_, rfl⟩
  rw [← hW1] at HBW1 ⊢
  clear hW hW1 a0 a1 a2 b0 b1 b2
  have HIW : Hid (Ir W1 (.slice ua lx uc) x ∧ Ir W1 (.slice va ly vc) y) := ⟨HI.out.1.later (HH.out.2.2.trans (HBW1.out.mono HH.out.2.2.size)), HI.out.2.later (HH.out.2.2.trans (HBW1.out.mono HH.out.2.2.size))⟩
  have ku := rup HIW.out.2 k (by have := HN.out.1; omega) (by omega)
  go_wp2_with fail
  refine ku.mono ?_
  rintro r w4 ⟨vu, rfl, hIu, hb4⟩
  have HB4 : Hid (Below W.heap.size W w4) := HBW1.out.trans (hb4.mono HBW1.out.size)
  have hl : dlen (y * 2 ^ k) ≤ 25000 := by
    have := shl_len (x := y) (k := k) rfl
    have := HN.out.1
    omega
  have kd := rdivide (HIW.out.1.later hb4) hIu HN.out.1.1 (Nat.mul_ne_zero HN.out.1.2.1 (by have := Nat.two_pow_pos k; omega)) (by have := HN.out.1; omega) (by omega)
  have HO : Hid (Ir w4 vu (y * 2 ^ k)) := hIu
  clear ku hIu hb4
  go_wp2_with fail
  refine kd.mono ?_
  rintro r w5 ⟨vq, vr, rfl, hIq, hIr, hb5⟩
  have HB5 : Hid (Below W.heap.size W w5) := HB4.out.trans (hb5.mono HB4.out.size)
  obtain ⟨⟨a0, a1, a2⟩, -⟩ := box_cells29 (box_later HH.out.1.1 HB5.out (by have := HH.out.2.1; omega))
  obtain ⟨⟨b0, b1, b2⟩, -⟩ := box_cells29 (box_later HH.out.1.2.1 HB5.out (by have := HH.out.2.1; omega))
  obtain ⟨rr, rcap, rfl, hrc, hrA⟩ := hIr
  have hql : dlen ((x) / (y * 2 ^ k)) ≤ 30000 := Nat.le_trans (dlen_mono (Nat.div_le_self _ _)) (by have := HN.out.1; omega)
  have kn := rnorm (neg := false) (e := -place) hIq (by omega) (by omega)
  have HQL : Hid (dlen ((x) / (y * 2 ^ k)) ≤ 30000) := hql
  have hrl : ((dlen ((x) % (y * 2 ^ k)) : Int) == 0) = false := len_ne (n := 0) HN.out.2
  clear kd hIq hb5 hrA hql hl
  generalize hdr : dlen ((x) % (y * 2 ^ k)) = lr at *
  go_wp2_with fail
  refine kn.mono ?_
  rintro r w6 ⟨A, rfl, hN6, hb6⟩
  obtain ⟨s6, ao6, n6, cap6, ex6, rfl⟩ := hN6.shape
  have HB6 : Hid (Below W.heap.size W w6) := HB5.out.trans (hb6.mono HB5.out.size)
  have HN6 : Hid (NC w6 w5.heap.size (.agg #[.bool s6, .slice ao6 n6 cap6, .int .i64 ex6]) false ((x) / (y * 2 ^ k)) (-place)) := hN6
  obtain ⟨w7, hw7⟩ : ∃ w7, w7 = w6.alloc (.cells #[.bool s6, .slice ao6 n6 cap6, .int .i64 ex6] 24) := ⟨_, rfl⟩
  have hB67 : Below w6.heap.size w6 w7 := by rw [hw7]; exact (Below.refl _ _).alloc (Nat.le_refl _) _
  have HB7 : Hid (Below W.heap.size W w7) := HB6.out.trans (hB67.mono HB6.out.size)
  have hbox : w7.heap[w6.heap.size]? = some (.cells #[.bool s6, .slice ao6 n6 cap6, .int .i64 ex6] 24 (0, 0)) := by rw [hw7]; exact heap_alloc_new _ _
  have HBX : Hid (w7.heap[w6.heap.size]? = some (.cells #[.bool s6, .slice ao6 n6 cap6, .int .i64 ex6] 24 (0, 0)) ∧ Below w6.heap.size w6 w7) := ⟨hbox, hB67⟩
  have hres := box_later HH.out.1.2.2 HB7.out (by have := HH.out.2.1; omega)
  have HRES : Hid (w7.heap[w.heap.size + 1 + 1]? = some (.cells #[.bool false, .slice none 0 0, .int .i64 0] 24 (0, 0))) := hres
  obtain ⟨⟨c0, c1, c2⟩, c3, c4, c5⟩ := box_cells29 hres
  obtain ⟨⟨d0, d1, d2⟩, d3, d4, d5⟩ := box_cells29 hbox
  clear kn hN6 hb6 hbox hres hB67 a0 a1 a2 b0 b1 b2
  rw [hw7] at c0 c1 c2 c3 c4 c5 d0 d1 d2 d3 d4 d5
  go_wp2
  rw [← hw7]
  refine bodyPost_ret (results_cell_tmp_row rfl _ _ (w.heap.size + 1 + 1) 24 #[.bool s6, .slice ao6 n6 cap6, .int .i64 ex6] (0, 0) _ rfl (store3_29 _ _ _ HRES.out) Tryz.underlying24 rfl Tryz.info24) rfl ?_
  have q1 := HH.out.2.1
  have q2 := HB5.out.size
  exact ⟨_, rfl, ((HN6.out.later HBX.out.2).store (by omega) _ _ _).mono (by omega), below_store3 (HH.out.2.2.trans (HB7.out.mono HH.out.2.2.size)) (by omega) _ _ _⟩
set_option maxHeartbeats 4000000 in
set_option maxRecDepth 200000 in
theorem rover_brn (na nb : Bool) (ua va : Option Addr) (uc vc x y k : Nat) (ea eb place : Int) (w : World) (hsg : (!(na == nb)) = true) (h1 : At w ua (dlen x) x) (hu : dlen x ≤ uc) (h2 : At w va (dlen y) y) (hv : dlen y ≤ vc) (hx0 : x ≠ 0) (hy0 : y ≠ 0) (hx : dlen x ≤ 3000) (hy : dlen y ≤ 3000)
    (he1 : -200000 ≤ ea) (he2 : ea ≤ 200000) (he3 : -200000 ≤ eb) (he4 : eb ≤ 200000) (hp1 : -200000 ≤ place) (hp2 : place ≤ 200000) (hk : ea - eb + place = -(k : Int)) (hk1 : 0 < k) (hk2 : k ≤ 600000) (hr : ¬ (x) % (y * 2 ^ k) = 0) :
    Calls Tryz.prog 84 #[.agg #[.bool na, .slice ua (dlen x) uc, .int .i64 ea], .agg #[.bool nb, .slice va (dlen y) vc, .int .i64 eb], .int .i64 place] w fun r w' => ∃ A, r = .returned (.tuple #[A, .bool false]) ∧ NC w' w.heap.size A true ((x) / (y * 2 ^ k) + 1) (-place) ∧ Below w.heap.size w w' := by
  obtain ⟨W, hW⟩ : ∃ W, W = ((w.alloc (.cells #[.bool na, .slice ua (dlen x) uc, .int .i64 ea] 24)).alloc (.cells #[.bool nb, .slice va (dlen y) vc, .int .i64 eb] 24)).alloc (.cells #[.bool false, .slice none 0 0, .int .i64 0] 24) := ⟨_, rfl⟩
  obtain ⟨hA, hBb, hC, hsz, hBW⟩ := boxes3 _ _ _ hW
  have HH : Hid ((W.heap[w.heap.size]? = some (.cells #[.bool na, .slice ua (dlen x) uc, .int .i64 ea] 24 (0, 0)) ∧ W.heap[w.heap.size + 1]? = some (.cells #[.bool nb, .slice va (dlen y) vc, .int .i64 eb] 24 (0, 0)) ∧ W.heap[w.heap.size + 1 + 1]? = some (.cells #[.bool false, .slice none 0 0, .int .i64 0] 24 (0, 0))) ∧ W.heap.size = w.heap.size + 1 + 1 + 1 ∧ Below w.heap.size w W) := ⟨⟨hA, hBb, hC⟩, hsz, hBW⟩
  obtain ⟨⟨a0, a1, a2⟩, -⟩ := box_cells29 hA
  obtain ⟨⟨b0, b1, b2⟩, -⟩ := box_cells29 hBb
  have HI : Hid (Ir w (.slice ua (dlen x) uc) x ∧ Ir w (.slice va (dlen y) vc) y) := ⟨⟨ua, uc, rfl, hu, h1⟩, ⟨va, vc, rfl, hv, h2⟩⟩
  have HN : Hid ((x ≠ 0 ∧ y ≠ 0 ∧ dlen x ≤ 3000 ∧ dlen y ≤ 3000 ∧ k ≤ 600000) ∧ ¬ (x) % (y * 2 ^ k) = 0) := ⟨⟨hx0, hy0, hx, hy, hk2⟩, hr⟩
  have hxz : ((dlen x : Int) == 0) = false := len_ne (n := 0) hx0
  clear hA hBb hC hsz hBW h1 h2 hr
  generalize hdx : dlen x = lx at *
  generalize hdy : dlen y = ly at *
  rw [hW] at a0 a1 a2 b0 b1 b2
  go_enter Tryz.func84, Tryz.ntmps84
  go_wp2
  go_quiet (fail)
  rw [← hW]
  have HBW1 : Hid (Below W.heap.size W (W.drewN nq)) := (⟨rfl, rfl, rfl, Nat.le_refl _, fun _ _ => rfl⟩ : Below W.heap.size W (W.drewN nq))
  obtain ⟨W1, hW1⟩ : ∃ W1, W1 = W.drewN nq := ⟨_, rfl⟩
  rw [← hW1] at HBW1 ⊢
  clear hW hW1 a0 a1 a2 b0 b1 b2
  have HIW : Hid (Ir W1 (.slice ua lx uc) x ∧ Ir W1 (.slice va ly vc) y) := ⟨HI.out.1.later (HH.out.2.2.trans (HBW1.out.mono HH.out.2.2.size)), HI.out.2.later (HH.out.2.2.trans (HBW1.out.mono HH.out.2.2.size))⟩
  have ku := rup HIW.out.2 k (by have := HN.out.1; omega) (by omega)
  go_wp2_with fail
  refine ku.mono ?_
  rintro r w4 ⟨vu, rfl, hIu, hb4⟩
  have HB4 : Hid (Below W.heap.size W w4) := HBW1.out.trans (hb4.mono HBW1.out.size)
  have hl : dlen (y * 2 ^ k) ≤ 25000 := by
    have := shl_len (x := y) (k := k) rfl
    have := HN.out.1
    omega
  have kd := rdivide (HIW.out.1.later hb4) hIu HN.out.1.1 (Nat.mul_ne_zero HN.out.1.2.1 (by have := Nat.two_pow_pos k; omega)) (by have := HN.out.1; omega) (by omega)
  have HO : Hid (Ir w4 vu (y * 2 ^ k)) := hIu
  clear ku hIu hb4
  go_wp2_with fail
  refine kd.mono ?_
  rintro r w5 ⟨vq, vr, rfl, hIq, hIr, hb5⟩
  have HB5 : Hid (Below W.heap.size W w5) := HB4.out.trans (hb5.mono HB4.out.size)
  obtain ⟨⟨a0, a1, a2⟩, -⟩ := box_cells29 (box_later HH.out.1.1 HB5.out (by have := HH.out.2.1; omega))
  obtain ⟨⟨b0, b1, b2⟩, -⟩ := box_cells29 (box_later HH.out.1.2.1 HB5.out (by have := HH.out.2.1; omega))
  obtain ⟨rr, rcap, rfl, hrc, hrA⟩ := hIr
  have hql : dlen ((x) / (y * 2 ^ k)) ≤ 30000 := Nat.le_trans (dlen_mono (Nat.div_le_self _ _)) (by have := HN.out.1; omega)
  have kn := rnorm (neg := true) (e := -place) hIq (by omega) (by omega)
  have HQL : Hid (dlen ((x) / (y * 2 ^ k)) ≤ 30000) := hql
  have hrl : ((dlen ((x) % (y * 2 ^ k)) : Int) == 0) = false := len_ne (n := 0) HN.out.2
  clear kd hIq hb5 hrA hql hl
  generalize hdr : dlen ((x) % (y * 2 ^ k)) = lr at *
  go_wp2_with fail
  refine kn.mono ?_
  rintro r w6 ⟨A, rfl, hN6, hb6⟩
  obtain ⟨s6, ao6, n6, cap6, ex6, rfl⟩ := hN6.shape
  have HB6 : Hid (Below W.heap.size W w6) := HB5.out.trans (hb6.mono HB5.out.size)
  have HN6 : Hid (NC w6 w5.heap.size (.agg #[.bool s6, .slice ao6 n6 cap6, .int .i64 ex6]) true ((x) / (y * 2 ^ k)) (-place)) := hN6
  obtain ⟨w7, hw7⟩ : ∃ w7, w7 = w6.alloc (.cells #[.bool s6, .slice ao6 n6 cap6, .int .i64 ex6] 24) := ⟨_, rfl⟩
  have hB67 : Below w6.heap.size w6 w7 := by rw [hw7]; exact (Below.refl _ _).alloc (Nat.le_refl _) _
  have HB7 : Hid (Below W.heap.size W w7) := HB6.out.trans (hB67.mono HB6.out.size)
  have hbox : w7.heap[w6.heap.size]? = some (.cells #[.bool s6, .slice ao6 n6 cap6, .int .i64 ex6] 24 (0, 0)) := by rw [hw7]; exact heap_alloc_new _ _
  have HBX : Hid (w7.heap[w6.heap.size]? = some (.cells #[.bool s6, .slice ao6 n6 cap6, .int .i64 ex6] 24 (0, 0)) ∧ Below w6.heap.size w6 w7) := ⟨hbox, hB67⟩
  have hres := box_later HH.out.1.2.2 HB7.out (by have := HH.out.2.1; omega)
  have HRES : Hid (w7.heap[w.heap.size + 1 + 1]? = some (.cells #[.bool false, .slice none 0 0, .int .i64 0] 24 (0, 0))) := hres
  obtain ⟨⟨c0, c1, c2⟩, c3, c4, c5⟩ := box_cells29 hres
  obtain ⟨⟨d0, d1, d2⟩, d3, d4, d5⟩ := box_cells29 hbox
  clear kn hN6 hb6 hbox hres hB67 a0 a1 a2 b0 b1 b2
  rw [hw7] at c0 c1 c2 c3 c4 c5 d0 d1 d2 d3 d4 d5
  have HK : Hid (∀ w', Below w7.heap.size w7 w' → (w'.cell? ⟨w6.heap.size, 0, none⟩ = some (.bool s6) ∧ w'.cell? ⟨w6.heap.size, 1, none⟩ = some (.slice ao6 n6 cap6) ∧ w'.cell? ⟨w6.heap.size, 2, none⟩ = some (.int .i64 ex6))) := fun w' hb => (box_cells29 (box_later HBX.out.1 hb (by have := HBX.out.1; exact (Array.getElem?_eq_some_iff.1 this).1))).1
  have kO : ∀ w8, Below w7.heap.size w7 w8 → Calls Tryz.prog 134 #[.int .i64 place] w8 fun r w' => ∃ g, r = .returned (.agg #[.bool false, .slice (some ⟨g, 0, none⟩) 1 1, .int .i64 (-place)]) ∧ Hid (At w' (some ⟨g, 0, none⟩) 1 1) ∧ Below w7.heap.size w7 w' ∧ (w'.cell? ⟨w6.heap.size, 0, none⟩ = some (.bool s6) ∧ w'.cell? ⟨w6.heap.size, 1, none⟩ = some (.slice ao6 n6 cap6) ∧ w'.cell? ⟨w6.heap.size, 2, none⟩ = some (.int .i64 ex6)) := fun w8 hb => (rone place w8 (by omega) (by omega)).mono fun r w' ⟨g, e1, e2, e3, e4⟩ => ⟨g, e1, e3, hb.trans (e4.mono hb.size), HK.out w' (hb.trans (e4.mono hb.size))⟩
  have kL : ∀ g w9, Hid (At w9 (some ⟨g, 0, none⟩) 1 1) → Below w7.heap.size w7 w9 → Calls Tryz.prog 133 #[.agg #[.bool s6, .slice ao6 n6 cap6, .int .i64 ex6], .agg #[.bool false, .slice (some ⟨g, 0, none⟩) 1 1, .int .i64 (-place)]] w9 fun r w' => ∃ s ao n cap ex, r = .returned (.agg #[.bool s, .slice ao n cap, .int .i64 ex]) ∧ Hid (NC w' w7.heap.size (.agg #[.bool s, .slice ao n cap, .int .i64 ex]) true ((x) / (y * 2 ^ k) + 1) (-place)) ∧ Below w7.heap.size w7 w' ∧ Hid (w'.heap[w6.heap.size]? = some (.cells #[.bool s6, .slice ao6 n6 cap6, .int .i64 ex6] 24 (0, 0))) ∧ (w'.cell? ⟨w6.heap.size, 0, none⟩ = some (.bool s6) ∧ w'.cell? ⟨w6.heap.size, 1, none⟩ = some (.slice ao6 n6 cap6) ∧ w'.cell? ⟨w6.heap.size, 2, none⟩ = some (.int .i64 ex6)) ∧ (w'.frozen? ⟨w6.heap.size, 0, none⟩ = false ∧ w'.frozen? ⟨w6.heap.size, 1, none⟩ = false ∧ w'.frozen? ⟨w6.heap.size, 2, none⟩ = false) := by
    intro g w9 hA hb
    refine (rless_nc ((HN6.out.later HBX.out.2).later hb) hA.out (Nat.le_refl _) (by omega) (by omega) HQL.out).mono ?_
    rintro r w10 ⟨A, rfl, hN, hb10⟩
    obtain ⟨s, ao, n, cap, ex, rfl⟩ := hN.shape
    have hbb := hb.trans (hb10.mono hb.size)
    have hblk := box_later HBX.out.1 hbb (by have := HBX.out.1; exact (Array.getElem?_eq_some_iff.1 this).1)
    obtain ⟨f1, f2⟩ := box_cells29 hblk
    exact ⟨s, ao, n, cap, ex, rfl, hN.mono hb.size, hbb, hblk, f1, f2⟩
  have hBR : Below w7.heap.size w7 w7.drew := (Below.refl _ _).drew
  have e0 : w7.cell? ⟨w6.heap.size, 0, none⟩ = some (.bool s6) ∧ w7.cell? ⟨w6.heap.size, 1, none⟩ = some (.slice ao6 n6 cap6) ∧ w7.cell? ⟨w6.heap.size, 2, none⟩ = some (.int .i64 ex6) := HK.out w7 (Below.refl _ _)
  go_upto_region 14 with fail
  rw [← hw7]
  clear hw7 c0 c1 c2 c3 c4 c5 d0 d1 d2 d3 d4 d5
  obtain ⟨d0, d1, d2⟩ := e0
  go_cut [64] from 61 to 64 (fun v wx => ∃ s ao n cap ex, v = .agg #[.bool s, .slice ao n cap, .int .i64 ex] ∧ Hid (NC wx w7.heap.size (.agg #[.bool s, .slice ao n cap, .int .i64 ex]) true ((x) / (y * 2 ^ k) + 1) (-place)) ∧ Hid (wx.heap[w6.heap.size]? = some (.cells #[.bool s, .slice ao n cap, .int .i64 ex] 24 (0, 0))) ∧ Hid (Below w6.heap.size w7 wx))
  case first =>
    go_region_with (first | (go_at_call 134; refine (kO _ (by first | (with_reducible assumption) | exact hBR | exact Below.refl _ _)).mono ?_; rintro r w8 ⟨g8, rfl, hA8, hb8, ⟨y1, y2, y3⟩⟩) | (go_at_call 133; refine (kL _ _ hA8 (by with_reducible assumption)).mono ?_; rintro r w9 ⟨s9, ao9, n9, cap9, ex9, rfl, hN9, hb9, hblk9, ⟨x1, x2, x3⟩, x4, x5, x6⟩))
    all_goals go_wp2_with fail
    all_goals go_meet
    all_goals exact ⟨s9, ao9, n9, cap9, ex9, rfl, hN9.out.store (Array.getElem?_eq_some_iff.1 HBX.out.1).1 _ _ _, store3_29 _ _ _ hblk9.out, below_store3 (hb9.mono HBX.out.2.size) (Nat.le_refl _) _ _ _⟩
  case rest =>
    obtain ⟨s9, ao9, n9, cap9, ex9, rfl, hN9, hB9, hL9⟩ := hcut
    obtain ⟨wx, rfl⟩ : ∃ wx : World, wx = wc := ⟨_, rfl⟩
    have q1 := HH.out.2.1
    have q2 := HB6.out.size
    have q3 := HB7.out.size
    have HBx : Hid (Below W.heap.size W wx) := HB7.out.trans (hL9.out.mono HB6.out.size)
    have hres := box_later HH.out.1.2.2 HBx.out (by omega)
    have HRES2 : Hid (wx.heap[w.heap.size + 1 + 1]? = some (.cells #[.bool false, .slice none 0 0, .int .i64 0] 24 (0, 0))) := hres
    obtain ⟨⟨c0, c1, c2⟩, c3, c4, c5⟩ := box_cells29 hres
    clear d0 d1 d2
    obtain ⟨⟨d0, d1, d2⟩, d3, d4, d5⟩ := box_cells29 hB9.out
    clear kO kL hBR hres
    go_wp2
    refine bodyPost_ret (results_cell_tmp_row rfl _ _ (w.heap.size + 1 + 1) 24 #[.bool s9, .slice ao9 n9 cap9, .int .i64 ex9] (0, 0) _ rfl (store3_29 _ _ _ HRES2.out) Tryz.underlying24 rfl Tryz.info24) rfl ?_
    exact ⟨_, rfl, (hN9.out.store (by omega) _ _ _).mono (by omega), below_store3 (HH.out.2.2.trans (HBx.out.mono HH.out.2.2.size)) (by omega) _ _ _⟩
end Go.Proofs.YtmhpicccfaklcaaGreatDoor

/- The document's Over, joined. -/
namespace Go.Proofs.YtmhpicccfaklcaaGreatDoor
set_option linter.unusedVariables false
set_option linter.unusedSimpArgs false
open Go.RowKit

set_option maxHeartbeats 4000000 in
set_option maxRecDepth 200000 in
theorem rover_0 (na nb : Bool) (ua va : Option Addr) (uc vn vc : Nat) (ea eb place : Int) (w : World) :
    Calls Tryz.prog 84 #[.agg #[.bool na, .slice ua 0 uc, .int .i64 ea], .agg #[.bool nb, .slice va vn vc, .int .i64 eb], .int .i64 place] w fun r w' => r = .returned (.tuple #[.agg #[.bool false, .slice none 0 0, .int .i64 0], .bool true]) ∧ Below w.heap.size w w' := by
  obtain ⟨W, hW⟩ : ∃ W, W = ((w.alloc (.cells #[.bool na, .slice ua 0 uc, .int .i64 ea] 24)).alloc (.cells #[.bool nb, .slice va vn vc, .int .i64 eb] 24)).alloc (.cells #[.bool false, .slice none 0 0, .int .i64 0] 24) := ⟨_, rfl⟩
  obtain ⟨hA, hBb, hC, hsz, hBW⟩ := boxes3 _ _ _ hW
  have HH : Hid (W.heap[w.heap.size + 1 + 1]? = some (.cells #[.bool false, .slice none 0 0, .int .i64 0] 24 (0, 0)) ∧ Below w.heap.size w W) := ⟨hC, hBW⟩
  obtain ⟨⟨a0, a1, a2⟩, -⟩ := box_cells29 hA
  obtain ⟨⟨c0, c1, c2⟩, c3, c4, c5⟩ := box_cells29 hC
  clear hA hBb hC hsz hBW
  rw [hW] at a0 a1 a2 c0 c1 c2 c3 c4 c5
  go_enter Tryz.func84, Tryz.ntmps84
  go_wp2
  rw [← hW]
  refine bodyPost_ret (results_cell_tmp_row rfl _ _ (w.heap.size + 1 + 1) 24 #[.bool false, .slice none 0 0, .int .i64 0] (0, 0) _ rfl HH.out.1 Tryz.underlying24 rfl Tryz.info24) rfl ?_
  exact ⟨rfl, HH.out.2⟩
/-- the dividend and the divisor, as whole numbers -/
def ovX (x : Nat) (ea eb place : Int) : Nat := x * 2 ^ (ea + place - min (ea + place) eb).toNat
def ovY (y : Nat) (ea eb place : Int) : Nat := y * 2 ^ (eb - min (ea + place) eb).toNat
theorem rover {na nb : Bool} {ua va : Option Addr} {uc vc x y : Nat} {ea eb place : Int} {w : World} (h1 : At w ua (dlen x) x) (hu : dlen x ≤ uc) (h2 : At w va (dlen y) y) (hv : dlen y ≤ vc) (hy0 : y ≠ 0) (hx : dlen x ≤ 3000) (hy : dlen y ≤ 3000)
    (ha : -200000 ≤ ea ∧ ea ≤ 200000) (hb : -200000 ≤ eb ∧ eb ≤ 200000) (hp : -200000 ≤ place ∧ place ≤ 200000) {X Y : Nat} (hX : ovX x ea eb place = X) (hY : ovY y ea eb place = Y) :
    Calls Tryz.prog 84 #[.agg #[.bool na, .slice ua (dlen x) uc, .int .i64 ea], .agg #[.bool nb, .slice va (dlen y) vc, .int .i64 eb], .int .i64 place] w fun r w' => ∃ A, r = .returned (.tuple #[A, .bool (decide (X % Y = 0))]) ∧ NC w' w.heap.size A (na != nb) (if (na != nb) && !(decide (X % Y = 0)) then X / Y + 1 else X / Y) (-place) ∧ Below w.heap.size w w' := by
  by_cases hx0 : x = 0
  · subst hx0
    have hX0 : X = 0 := by rw [← hX]; unfold ovX; rw [Nat.zero_mul]
    rw [dlen_zero, hX0, Nat.zero_mod, Nat.zero_div]
    refine (rover_0 na nb ua va uc _ vc ea eb place w).mono ?_
    rintro r w' ⟨rfl, hb'⟩
    refine ⟨_, rfl, ⟨none, 0, ?_, ?_, fun ad e => by cases e⟩, hb'⟩
    · simp [cn, dlen_zero]
    · simp only [decide_true, Bool.not_true, Bool.and_false, Bool.false_eq_true, if_false]
      unfold cn; rw [if_pos rfl]
      exact ⟨fun _ => .inr ⟨rfl, rfl⟩, ⟨0, 0, fun h => by rw [dlen_zero] at h; omega, fun i hi => by rw [dlen_zero] at hi; omega⟩, by rw [dlen_zero]; exact Nat.le_refl _, by rw [dlen_zero]; omega⟩
  · by_cases hs : 0 ≤ ea - eb + place
    · obtain ⟨k, hk⟩ : ∃ k : Nat, ea - eb + place = (k : Int) := ⟨(ea - eb + place).toNat, by omega⟩
      obtain rfl : x * 2 ^ k = X := by rw [← hX]; unfold ovX; rw [show (ea + place - min (ea + place) eb).toNat = k by omega]
      obtain rfl : y = Y := by rw [← hY]; unfold ovY; rw [show (eb - min (ea + place) eb).toNat = 0 by omega, Nat.pow_zero, Nat.mul_one]
      by_cases hr : x * 2 ^ k % y = 0
      · rw [decide_eq_true hr, Bool.not_true, Bool.and_false, if_neg (by decide)]
        exact rover_ae na nb ua va uc vc x y k ea eb place w (na != nb) rfl h1 hu h2 hv hx0 hy0 hx hy ha.1 ha.2 hb.1 hb.2 hp.1 hp.2 hk (by omega) hr
      · rw [decide_eq_false hr, Bool.not_false, Bool.and_true]
        by_cases hsg : (na != nb) = true
        · rw [hsg, if_pos rfl]
          exact rover_arn na nb ua va uc vc x y k ea eb place w hsg h1 hu h2 hv hx0 hy0 hx hy ha.1 ha.2 hb.1 hb.2 hp.1 hp.2 hk (by omega) hr
        · have hsg' : (na != nb) = false := by simpa using hsg
          rw [hsg', if_neg (by decide)]
          exact rover_arp na nb ua va uc vc x y k ea eb place w hsg' h1 hu h2 hv hx0 hy0 hx hy ha.1 ha.2 hb.1 hb.2 hp.1 hp.2 hk (by omega) hr
    · obtain ⟨k, hk⟩ : ∃ k : Nat, ea - eb + place = -(k : Int) := ⟨(-(ea - eb + place)).toNat, by omega⟩
      obtain rfl : x = X := by rw [← hX]; unfold ovX; rw [show (ea + place - min (ea + place) eb).toNat = 0 by omega, Nat.pow_zero, Nat.mul_one]
      obtain rfl : y * 2 ^ k = Y := by rw [← hY]; unfold ovY; rw [show (eb - min (ea + place) eb).toNat = k by omega]
      by_cases hr : x % (y * 2 ^ k) = 0
      · rw [decide_eq_true hr, Bool.not_true, Bool.and_false, if_neg (by decide)]
        exact rover_be na nb ua va uc vc x y k ea eb place w (na != nb) rfl h1 hu h2 hv hx0 hy0 hx hy ha.1 ha.2 hb.1 hb.2 hp.1 hp.2 hk (by omega) (by omega) hr
      · rw [decide_eq_false hr, Bool.not_false, Bool.and_true]
        by_cases hsg : (na != nb) = true
        · rw [hsg, if_pos rfl]
          exact rover_brn na nb ua va uc vc x y k ea eb place w hsg h1 hu h2 hv hx0 hy0 hx hy ha.1 ha.2 hb.1 hb.2 hp.1 hp.2 hk (by omega) (by omega) hr
        · have hsg' : (na != nb) = false := by simpa using hsg
          rw [hsg', if_neg (by decide)]
          exact rover_brp na nb ua va uc vc x y k ea eb place w hsg' h1 hu h2 hv hx0 hy0 hx hy ha.1 ha.2 hb.1 hb.2 hp.1 hp.2 hk (by omega) (by omega) hr
end Go.Proofs.YtmhpicccfaklcaaGreatDoor

/- The document's RootOf: the root, cut to a place. -/
namespace Go.Proofs.YtmhpicccfaklcaaGreatDoor
set_option linter.unusedVariables false
set_option linter.unusedSimpArgs false
open Go.RowKit

set_option maxHeartbeats 4000000 in
set_option maxRecDepth 200000 in
theorem rrootof_u (na : Bool) (ua : Option Addr) (uc x k : Nat) (ea place : Int) (w : World) (h1 : At w ua (dlen x) x) (hu : dlen x ≤ uc) (hx0 : x ≠ 0) (hx : dlen x ≤ 3000) (he1 : -200000 ≤ ea) (he2 : ea ≤ 200000) (hp1 : -300000 ≤ place) (hp2 : place ≤ 300000) (hk : ea + 2 * place = (k : Int)) (hk2 : k ≤ 1000000) :
    Calls Tryz.prog 87 #[.agg #[.bool na, .slice ua (dlen x) uc, .int .i64 ea], .int .i64 place] w fun r w' => ∃ A s, r = .returned (.tuple #[A, .bool (decide (s * s = x * 2 ^ k))]) ∧ NC w' w.heap.size A false s (-place) ∧ s * s ≤ x * 2 ^ k ∧ x * 2 ^ k < (s + 1) * (s + 1) ∧ Below w.heap.size w w' := by
  obtain ⟨W, hW⟩ : ∃ W, W = (w.alloc (.cells #[.bool na, .slice ua (dlen x) uc, .int .i64 ea] 24)).alloc (.cells #[.bool false, .slice none 0 0, .int .i64 0] 24) := ⟨_, rfl⟩
  obtain ⟨hA, hC, hsz, hBW⟩ := two29 _ _ hW
  have HH : Hid ((W.heap[w.heap.size]? = some (.cells #[.bool na, .slice ua (dlen x) uc, .int .i64 ea] 24 (0, 0)) ∧ W.heap[w.heap.size + 1]? = some (.cells #[.bool false, .slice none 0 0, .int .i64 0] 24 (0, 0))) ∧ W.heap.size = w.heap.size + 1 + 1 ∧ Below w.heap.size w W) := ⟨⟨hA, hC⟩, hsz, hBW⟩
  have HI : Hid (Ir W (.slice ua (dlen x) uc) x) := (⟨ua, uc, rfl, hu, h1.later hBW⟩ : Ir W (.slice ua (dlen x) uc) x)
  have HN : Hid (x ≠ 0 ∧ dlen x ≤ 3000 ∧ k ≤ 1000000) := ⟨hx0, hx, hk2⟩
  have hxz : ((dlen x : Int) == 0) = false := len_ne (n := 0) hx0
  obtain ⟨⟨a0, a1, a2⟩, -⟩ := box_cells29 hA
  clear hA hC hsz hBW h1
  have ku := rup HI.out k (by omega) (by omega)
  generalize hdx : dlen x = lx at *
  rw [hW] at a0 a1 a2
  go_enter Tryz.func87, Tryz.ntmps87
  go_wp2_with fail
  rw [← hW]
  clear hW a0 a1 a2
  refine ku.mono ?_
  rintro r w4 ⟨vu, rfl, hIu, hb4⟩
  have HB4 : Hid (Below W.heap.size W w4) := hb4
  have hl : dlen (x * 2 ^ k) ≤ 40000 := by have := shl_len (x := x) (k := k) rfl; have := HN.out; omega
  have kr := rrooted (hIu) (by omega)
  clear ku hb4 hIu
  go_wp2_with fail
  refine kr.mono ?_
  rintro r w5 ⟨vs, s, rfl, hIs, hs1, hs2, hb5⟩
  have HB5 : Hid (Below W.heap.size W w5) := HB4.out.trans (hb5.mono HB4.out.size)
  have HS : Hid (s * s ≤ x * 2 ^ k ∧ x * 2 ^ k < (s + 1) * (s + 1)) := ⟨hs1, hs2⟩
  have hsl : dlen s ≤ 40000 := Nat.le_trans (dlen_mono (Nat.le_trans (Nat.le_mul_self s) hs1)) hl
  have kn := rnorm (neg := false) (e := -place) hIs (by omega) (by omega)
  obtain ⟨bx, hbx⟩ : ∃ bx : Bool, bx = decide (s * s = x * 2 ^ k) := ⟨_, rfl⟩
  rw [← hbx]
  have HBX : Hid (bx = decide (s * s = x * 2 ^ k)) := hbx
  clear kr hIs hb5 hs1 hs2 hl hbx
  go_wp2_with fail
  refine kn.mono ?_
  rintro r w6 ⟨A, rfl, hN6, hb6⟩
  obtain ⟨s6, ao6, n6, cap6, ex6, rfl⟩ := hN6.shape
  have HB6 : Hid (Below W.heap.size W w6) := HB5.out.trans (hb6.mono HB5.out.size)
  have HN6 : Hid (NC w6 w5.heap.size (.agg #[.bool s6, .slice ao6 n6 cap6, .int .i64 ex6]) false s (-place)) := hN6
  have hres := box_later HH.out.1.2 HB6.out (by have := HH.out.2.1; omega)
  have HRES : Hid (w6.heap[w.heap.size + 1]? = some (.cells #[.bool false, .slice none 0 0, .int .i64 0] 24 (0, 0))) := hres
  obtain ⟨⟨c0, c1, c2⟩, c3, c4, c5⟩ := box_cells29 hres
  clear kn hN6 hb6 hres
  go_wp2
  refine bodyPost_ret (results_cell_tmp_row rfl _ _ (w.heap.size + 1) 24 #[.bool s6, .slice ao6 n6 cap6, .int .i64 ex6] (0, 0) _ rfl (store3_29 _ _ _ HRES.out) Tryz.underlying24 rfl Tryz.info24) rfl ?_
  have q1 := HH.out.2.1
  have q2 := HB5.out.size
  exact ⟨_, s, congrArg (fun b => Ending.returned (Value.tuple #[_, .bool b])) HBX.out, (HN6.out.store (by omega) _ _ _).mono (by omega), HS.out.1, HS.out.2, below_store3 (HH.out.2.2.trans (HB6.out.mono HH.out.2.2.size)) (by omega) _ _ _⟩
set_option maxHeartbeats 4000000 in
set_option maxRecDepth 200000 in
theorem rrootof_d (na : Bool) (ua : Option Addr) (uc x k : Nat) (ea place : Int) (w : World) (h1 : At w ua (dlen x) x) (hu : dlen x ≤ uc) (hx0 : x ≠ 0) (hx : dlen x ≤ 3000) (he1 : -200000 ≤ ea) (he2 : ea ≤ 200000) (hp1 : -300000 ≤ place) (hp2 : place ≤ 300000) (hk : ea + 2 * place = -(k : Int)) (hk1 : 0 < k) (hk2 : k ≤ 1000000) :
    Calls Tryz.prog 87 #[.agg #[.bool na, .slice ua (dlen x) uc, .int .i64 ea], .int .i64 place] w fun r w' => ∃ A s, r = .returned (.tuple #[A, .bool (decide (s * s = x / 2 ^ k) && decide (x % 2 ^ k = 0))]) ∧ NC w' w.heap.size A false s (-place) ∧ s * s ≤ x / 2 ^ k ∧ x / 2 ^ k < (s + 1) * (s + 1) ∧ Below w.heap.size w w' := by
  obtain ⟨W, hW⟩ : ∃ W, W = (w.alloc (.cells #[.bool na, .slice ua (dlen x) uc, .int .i64 ea] 24)).alloc (.cells #[.bool false, .slice none 0 0, .int .i64 0] 24) := ⟨_, rfl⟩
  obtain ⟨hA, hC, hsz, hBW⟩ := two29 _ _ hW
  have HH : Hid ((W.heap[w.heap.size]? = some (.cells #[.bool na, .slice ua (dlen x) uc, .int .i64 ea] 24 (0, 0)) ∧ W.heap[w.heap.size + 1]? = some (.cells #[.bool false, .slice none 0 0, .int .i64 0] 24 (0, 0))) ∧ W.heap.size = w.heap.size + 1 + 1 ∧ Below w.heap.size w W) := ⟨⟨hA, hC⟩, hsz, hBW⟩
  have HI : Hid (Ir W (.slice ua (dlen x) uc) x) := (⟨ua, uc, rfl, hu, h1.later hBW⟩ : Ir W (.slice ua (dlen x) uc) x)
  have HN : Hid (x ≠ 0 ∧ dlen x ≤ 3000 ∧ k ≤ 1000000) := ⟨hx0, hx, hk2⟩
  have hxz : ((dlen x : Int) == 0) = false := len_ne (n := 0) hx0
  obtain ⟨⟨a0, a1, a2⟩, -⟩ := box_cells29 hA
  clear hA hC hsz hBW h1
  have ku := rdown HI.out k (by omega) (by omega)
  generalize hdx : dlen x = lx at *
  rw [hW] at a0 a1 a2
  go_enter Tryz.func87, Tryz.ntmps87
  go_wp2_with fail
  rw [← hW]
  clear hW a0 a1 a2
  refine ku.mono ?_
  rintro r w4 ⟨au, cu, rfl, hAu, hcu, hb4⟩
  obtain ⟨ww, hww⟩ : ∃ ww : Bool, ww = decide (x % 2 ^ k = 0) := ⟨_, rfl⟩
  rw [← hww]
  have HWW : Hid (ww = decide (x % 2 ^ k = 0)) := hww
  clear hww
  have HB4 : Hid (Below W.heap.size W w4) := hb4
  have hl : dlen (x / 2 ^ k) ≤ 40000 := Nat.le_trans (dlen_mono (Nat.div_le_self _ _)) (by have := HN.out; omega)
  have kr := rrooted (⟨au, cu, rfl, hcu, hAu⟩) (by omega)
  clear ku hb4 hAu hcu
  go_wp2_with fail
  refine kr.mono ?_
  rintro r w5 ⟨vs, s, rfl, hIs, hs1, hs2, hb5⟩
  have HB5 : Hid (Below W.heap.size W w5) := HB4.out.trans (hb5.mono HB4.out.size)
  have HS : Hid (s * s ≤ x / 2 ^ k ∧ x / 2 ^ k < (s + 1) * (s + 1)) := ⟨hs1, hs2⟩
  have hsl : dlen s ≤ 40000 := Nat.le_trans (dlen_mono (Nat.le_trans (Nat.le_mul_self s) hs1)) hl
  have kn := rnorm (neg := false) (e := -place) hIs (by omega) (by omega)
  obtain ⟨bx, hbx⟩ : ∃ bx : Bool, bx = decide (s * s = x / 2 ^ k) := ⟨_, rfl⟩
  rw [← hbx]
  have HBX : Hid (bx = decide (s * s = x / 2 ^ k)) := hbx
  clear kr hIs hb5 hs1 hs2 hl hbx
  go_wp2_with fail
  refine kn.mono ?_
  rintro r w6 ⟨A, rfl, hN6, hb6⟩
  obtain ⟨s6, ao6, n6, cap6, ex6, rfl⟩ := hN6.shape
  have HB6 : Hid (Below W.heap.size W w6) := HB5.out.trans (hb6.mono HB5.out.size)
  have HN6 : Hid (NC w6 w5.heap.size (.agg #[.bool s6, .slice ao6 n6 cap6, .int .i64 ex6]) false s (-place)) := hN6
  have hres := box_later HH.out.1.2 HB6.out (by have := HH.out.2.1; omega)
  have HRES : Hid (w6.heap[w.heap.size + 1]? = some (.cells #[.bool false, .slice none 0 0, .int .i64 0] 24 (0, 0))) := hres
  obtain ⟨⟨c0, c1, c2⟩, c3, c4, c5⟩ := box_cells29 hres
  clear kn hN6 hb6 hres
  cases bx
  · go_wp2
    refine bodyPost_ret (results_cell_tmp_row rfl _ _ (w.heap.size + 1) 24 #[.bool s6, .slice ao6 n6 cap6, .int .i64 ex6] (0, 0) _ rfl (store3_29 _ _ _ HRES.out) Tryz.underlying24 rfl Tryz.info24) rfl ?_
    have q1 := HH.out.2.1
    have q2 := HB5.out.size
    exact ⟨_, s, congrArg (fun b => Ending.returned (Value.tuple #[_, .bool b])) (by rw [← HBX.out]; rfl), (HN6.out.store (by omega) _ _ _).mono (by omega), HS.out.1, HS.out.2, below_store3 (HH.out.2.2.trans (HB6.out.mono HH.out.2.2.size)) (by omega) _ _ _⟩
  · go_wp2
    refine bodyPost_ret (results_cell_tmp_row rfl _ _ (w.heap.size + 1) 24 #[.bool s6, .slice ao6 n6 cap6, .int .i64 ex6] (0, 0) _ rfl (store3_29 _ _ _ HRES.out) Tryz.underlying24 rfl Tryz.info24) rfl ?_
    have q1 := HH.out.2.1
    have q2 := HB5.out.size
    exact ⟨_, s, congrArg (fun b => Ending.returned (Value.tuple #[_, .bool b])) (by rw [← HBX.out, ← HWW.out]; rfl), (HN6.out.store (by omega) _ _ _).mono (by omega), HS.out.1, HS.out.2, below_store3 (HH.out.2.2.trans (HB6.out.mono HH.out.2.2.size)) (by omega) _ _ _⟩
set_option maxHeartbeats 4000000 in
set_option maxRecDepth 200000 in
theorem rrootof_0 (na : Bool) (ua : Option Addr) (uc : Nat) (ea place : Int) (w : World) :
    Calls Tryz.prog 87 #[.agg #[.bool na, .slice ua 0 uc, .int .i64 ea], .int .i64 place] w fun r w' => r = .returned (.tuple #[.agg #[.bool false, .slice none 0 0, .int .i64 0], .bool true]) ∧ Below w.heap.size w w' := by
  obtain ⟨W, hW⟩ : ∃ W, W = (w.alloc (.cells #[.bool na, .slice ua 0 uc, .int .i64 ea] 24)).alloc (.cells #[.bool false, .slice none 0 0, .int .i64 0] 24) := ⟨_, rfl⟩
  obtain ⟨hA, hC, hsz, hBW⟩ := two29 _ _ hW
  have HH : Hid (W.heap[w.heap.size + 1]? = some (.cells #[.bool false, .slice none 0 0, .int .i64 0] 24 (0, 0)) ∧ Below w.heap.size w W) := ⟨hC, hBW⟩
  obtain ⟨⟨a0, a1, a2⟩, -⟩ := box_cells29 hA
  obtain ⟨⟨c0, c1, c2⟩, c3, c4, c5⟩ := box_cells29 hC
  clear hA hC hsz hBW
  rw [hW] at a0 a1 a2 c0 c1 c2 c3 c4 c5
  go_enter Tryz.func87, Tryz.ntmps87
  go_wp2
  rw [← hW]
  refine bodyPost_ret (results_cell_tmp_row rfl _ _ (w.heap.size + 1) 24 #[.bool false, .slice none 0 0, .int .i64 0] (0, 0) _ rfl HH.out.1 Tryz.underlying24 rfl Tryz.info24) rfl ?_
  exact ⟨rfl, HH.out.2⟩
/-- nought can be handed on -/
theorem NC.nought (w : World) (base : Nat) (s : Bool) (e : Int) : NC w base (.agg #[.bool false, .slice none 0 0, .int .i64 0]) s 0 e := by
  refine ⟨none, 0, ?_, ?_, fun ad e => by cases e⟩
  · unfold cn; rw [if_pos rfl, dlen_zero]
  · unfold cn; rw [if_pos rfl]
    exact ⟨fun _ => .inr ⟨rfl, rfl⟩, ⟨0, 0, fun h => by rw [dlen_zero] at h; omega, fun i hi => by rw [dlen_zero] at hi; omega⟩, by rw [dlen_zero]; exact Nat.le_refl _, by rw [dlen_zero]; omega⟩
/-- is nothing cut off ahead of the root? -/
def rtW (x : Nat) (ea place : Int) : Bool := decide (0 ≤ ea + 2 * place) || decide (x % 2 ^ (-(ea + 2 * place)).toNat = 0)
theorem rrootof {na : Bool} {ua : Option Addr} {uc x : Nat} {ea place : Int} {w : World} (h1 : At w ua (dlen x) x) (hu : dlen x ≤ uc) (hx : dlen x ≤ 3000) (he : -200000 ≤ ea ∧ ea ≤ 200000) (hp : -300000 ≤ place ∧ place ≤ 300000) :
    Calls Tryz.prog 87 #[.agg #[.bool na, .slice ua (dlen x) uc, .int .i64 ea], .int .i64 place] w fun r w' => ∃ A s, r = .returned (.tuple #[A, .bool (decide (s * s = rtQ x ea place) && rtW x ea place)]) ∧ NC w' w.heap.size A false s (-place) ∧ s * s ≤ rtQ x ea place ∧ rtQ x ea place < (s + 1) * (s + 1) ∧ Below w.heap.size w w' := by
  by_cases hx0 : x = 0
  · subst hx0
    have hq : rtQ 0 ea place = 0 := by unfold rtQ; split <;> simp
    have hw : rtW 0 ea place = true := by unfold rtW; simp
    rw [hq, hw, dlen_zero]
    refine (rrootof_0 na ua uc ea place w).mono ?_
    rintro r w' ⟨rfl, hb⟩
    exact ⟨_, 0, rfl, NC.nought _ _ _ _, Nat.le_refl _, by omega, hb⟩
  · by_cases hs : 0 ≤ ea + 2 * place
    · obtain ⟨k, hk⟩ : ∃ k : Nat, ea + 2 * place = (k : Int) := ⟨(ea + 2 * place).toNat, by omega⟩
      have hq : rtQ x ea place = x * 2 ^ k := by unfold rtQ; rw [if_pos hs, hk, Int.toNat_natCast]
      have hw : rtW x ea place = true := by unfold rtW; rw [decide_eq_true hs]; rfl
      rw [hq, hw]
      refine (rrootof_u na ua uc x k ea place w h1 hu hx0 hx he.1 he.2 hp.1 hp.2 hk (by omega)).mono ?_
      rintro r w' ⟨A, s, rfl, h⟩
      exact ⟨A, s, by rw [Bool.and_true], h⟩
    · obtain ⟨k, hk⟩ : ∃ k : Nat, ea + 2 * place = -(k : Int) := ⟨(-(ea + 2 * place)).toNat, by omega⟩
      have hk3 : (-(ea + 2 * place)).toNat = k := by omega
      have hq : rtQ x ea place = x / 2 ^ k := by unfold rtQ; rw [if_neg hs, hk3]
      have hw : rtW x ea place = decide (x % 2 ^ k = 0) := by unfold rtW; rw [decide_eq_false hs, hk3]; rfl
      rw [hq, hw]
      exact rrootof_d na ua uc x k ea place w h1 hu hx0 hx he.1 he.2 hp.1 hp.2 hk (by omega) (by omega)
end Go.Proofs.YtmhpicccfaklcaaGreatDoor

/- The document's Cut: a number, cut to a place. -/
namespace Go.Proofs.YtmhpicccfaklcaaGreatDoor
set_option linter.unusedVariables false
set_option linter.unusedSimpArgs false
open Go.RowKit

end Go.Proofs.YtmhpicccfaklcaaGreatDoor

/- The document's and the program's Add, Sub, Mul, Shift, of all numbers. -/
namespace Go.Proofs.YtmhpicccfaklcaaGreatDoor
set_option linter.unusedVariables false
set_option linter.unusedSimpArgs false
open Go.RowKit

theorem okN_len {s : Bool} {n z : Nat} {e : Int} (hz : dlen z ≤ n) (h : okN s n z e = true) : dlen z = n := by
  refine dlen_here hz ?_
  by_cases h0 : n = 0
  · exact .inl h0
  · right
    unfold okN at h
    rw [if_neg h0] at h
    simp only [Bool.and_eq_true, bne_iff_ne, ne_eq] at h
    exact h.1.1.1.2

end Go.Proofs.YtmhpicccfaklcaaGreatDoor

/- The document's Quo. -/
namespace Go.Proofs.YtmhpicccfaklcaaGreatDoor
set_option linter.unusedVariables false
set_option linter.unusedSimpArgs false
open Go.RowKit

end Go.Proofs.YtmhpicccfaklcaaGreatDoor

/- The document's Quo, joined. -/
namespace Go.Proofs.YtmhpicccfaklcaaGreatDoor
set_option linter.unusedVariables false
set_option linter.unusedSimpArgs false
open Go.RowKit

theorem cn_dlen {s : Bool} {z : Nat} {e : Int} : dlen (cn s z e).2.1 ≤ dlen z := by
  unfold cn
  by_cases h : z = 0
  · rw [if_pos h, dlen_zero]; exact Nat.zero_le _
  · rw [if_neg h]; exact dlen_mono (Nat.div_le_self _ _)
end Go.Proofs.YtmhpicccfaklcaaGreatDoor

/- The document's Floor. -/
namespace Go.Proofs.YtmhpicccfaklcaaGreatDoor
set_option linter.unusedVariables false
set_option linter.unusedSimpArgs false
open Go.RowKit

end Go.Proofs.YtmhpicccfaklcaaGreatDoor

/- The document's Floor, joined. -/
namespace Go.Proofs.YtmhpicccfaklcaaGreatDoor
set_option linter.unusedVariables false
set_option linter.unusedSimpArgs false
open Go.RowKit

end Go.Proofs.YtmhpicccfaklcaaGreatDoor

/- The program's Floor. -/
namespace Go.Proofs.YtmhpicccfaklcaaGreatDoor
set_option linter.unusedVariables false
set_option linter.unusedSimpArgs false
open Go.RowKit

end Go.Proofs.YtmhpicccfaklcaaGreatDoor

/- The document's Root. -/
namespace Go.Proofs.YtmhpicccfaklcaaGreatDoor
set_option linter.unusedVariables false
set_option linter.unusedSimpArgs false
open Go.RowKit

end Go.Proofs.YtmhpicccfaklcaaGreatDoor

/- The document's Root, joined. -/
namespace Go.Proofs.YtmhpicccfaklcaaGreatDoor
set_option linter.unusedVariables false
set_option linter.unusedSimpArgs false
open Go.RowKit

/-- a root, cut: of a whole number there is one -/
theorem root_one {a s m : Nat} (h1 : s * s ≤ a) (h2 : a < (s + 1) * (s + 1)) (h3 : m * m ≤ a) (h4 : a < (m + 1) * (m + 1)) : s = m := by
  have l1 : s < m + 1 := Nat.lt_of_not_le fun h => by
    have := Nat.mul_le_mul h h
    omega
  have l2 : m < s + 1 := Nat.lt_of_not_le fun h => by
    have := Nat.mul_le_mul h h
    omega
  omega
end Go.Proofs.YtmhpicccfaklcaaGreatDoor

/- The program's Floor, Quo, Root, refused. -/
namespace Go.Proofs.YtmhpicccfaklcaaGreatDoor
set_option linter.unusedVariables false
set_option linter.unusedSimpArgs false
open Go.RowKit

end Go.Proofs.YtmhpicccfaklcaaGreatDoor

/- DyadCuts: the law's walk. -/
namespace Go.Proofs.YtmhpicccfaklcaaGreatDoor
set_option linter.unusedVariables false
set_option linter.unusedSimpArgs false
open Go.RowKit

end Go.Proofs.YtmhpicccfaklcaaGreatDoor

/- DyadSums. -/
namespace Go.Proofs.YtmhpicccfaklcaaGreatDoor
set_option linter.unusedVariables false
set_option linter.unusedSimpArgs false
open Go.RowKit

/-- mayBe of two numbers, that may be or not -/
theorem maybe2_at {na nb : Bool} {ua va : Option Addr} {un uc vn vc x y g : Nat} {ea eb : Int} {W : World} (hg : W.heap[g]? = some (.cells #[.bool na, .slice ua un uc, .int .i64 ea, .bool nb, .slice va vn vc, .int .i64 eb] 25 (0, 0)))
    (h1 : At W ua un x) (h2 : At W va vn y) (hx : un ≤ 35184372088832) (hy : vn ≤ 35184372088832) :
    Calls Tryz.prog 47 #[.slice (some ⟨g, 0, none⟩) 2 2] W fun r w' => r = .returned (.bool (okN na un x ea && okN nb vn y eb)) ∧ Below W.heap.size W w' := by
  have k := c67 g 2 (fun i => if i = 0 then na else nb) (fun i => if i = 0 then ua else va) (fun i => if i = 0 then un else vn) (fun i => if i = 0 then uc else vc) (fun i => if i = 0 then x else y) (fun i => if i = 0 then ea else eb) W (by omega)
    (fun i hi => by rcases (show i = 0 ∨ i = 1 by omega) with rfl | rfl <;> simp [World.cell?, hg])
    (fun i hi => by rcases (show i = 0 ∨ i = 1 by omega) with rfl | rfl <;> simp [World.cell?, hg])
    (fun i hi => by rcases (show i = 0 ∨ i = 1 by omega) with rfl | rfl <;> simp [World.cell?, hg])
    (fun i hi => by rcases (show i = 0 ∨ i = 1 by omega) with rfl | rfl <;> simp <;> assumption)
    (fun i hi => by rcases (show i = 0 ∨ i = 1 by omega) with rfl | rfl <;> simp <;> omega)
  refine k.mono ?_
  rintro r w' ⟨rfl, hb⟩
  refine ⟨congrArg Ending.returned (congrArg Value.bool ?_), hb⟩
  rw [Bool.eq_iff_iff]
  simp only [decide_eq_true_eq, Bool.and_eq_true]
  constructor
  · intro h
    have h0 := h 0 (by omega)
    have h1 := h 1 (by omega)
    simp at h0 h1
    exact ⟨h0, h1⟩
  · rintro ⟨h0, h1⟩ i hi
    rcases (show i = 0 ∨ i = 1 by omega) with rfl | rfl
    · simpa using h0
    · simpa using h1
theorem maybe1_at {na : Bool} {ua : Option Addr} {un uc x g : Nat} {ea : Int} {W : World} (hg : W.heap[g]? = some (.cells #[.bool na, .slice ua un uc, .int .i64 ea] 25 (0, 0)))
    (h1 : At W ua un x) (hx : un ≤ 35184372088832) :
    Calls Tryz.prog 47 #[.slice (some ⟨g, 0, none⟩) 1 1] W fun r w' => r = .returned (.bool (okN na un x ea)) ∧ Below W.heap.size W w' := by
  have k := c67 g 1 (fun _ => na) (fun _ => ua) (fun _ => un) (fun _ => uc) (fun _ => x) (fun _ => ea) W (by omega)
    (fun i hi => by obtain rfl : i = 0 := by omega
                    simp [World.cell?, hg])
    (fun i hi => by obtain rfl : i = 0 := by omega
                    simp [World.cell?, hg])
    (fun i hi => by obtain rfl : i = 0 := by omega
                    simp [World.cell?, hg])
    (fun i hi => h1) (fun i hi => hx)
  refine k.mono ?_
  rintro r w' ⟨rfl, hb⟩
  refine ⟨congrArg Ending.returned (congrArg Value.bool ?_), hb⟩
  rw [Bool.eq_iff_iff]
  simp only [decide_eq_true_eq]
  exact ⟨fun h => h 0 (by omega), fun h i _ => h⟩

/-- digits that give laid -/
def PI (s : Bool) (n z : Nat) (e : Int) (W : World) (A : Value) : Prop := ∃ v b, A = .agg #[.bool s, v, .int .i64 e] ∧ Dn W b v n z
theorem PI.lasts (s : Bool) (n z : Nat) (e : Int) : Lasts (PI s n z e) := fun W W' A hb ⟨v, b, h1, h2⟩ => ⟨v, b, h1, h2.later hb⟩
theorem PN.lasts (t : Bool × Nat × Int) : Lasts (fun W A => PN W A t) := fun W W' A hb h => h.later hb
theorem RN.lasts (t : Bool × Nat × Int) : Lasts (fun W A => ∃ b, RN W b A t) := fun W W' A hb ⟨b, h⟩ => ⟨b, h.later hb⟩
theorem Ans.len {V : Bool} {t : Bool × Nat × Int} (h : V = true → dlen t.2.1 ≤ 35184372088832) : dlen (Ans V t).2.1 ≤ 35184372088832 := by
  unfold Ans
  cases V
  · rw [if_neg (by simp)]; show dlen 0 ≤ _; rw [dlen_zero]; omega
  · rw [if_pos rfl]; exact h rfl
end Go.Proofs.YtmhpicccfaklcaaGreatDoor

/- DyadCuts. -/
namespace Go.Proofs.YtmhpicccfaklcaaGreatDoor
set_option linter.unusedVariables false
set_option linter.unusedSimpArgs false
open Go.RowKit

end Go.Proofs.YtmhpicccfaklcaaGreatDoor

/- DyadOrder: the law's walk. -/
namespace Go.Proofs.YtmhpicccfaklcaaGreatDoor
set_option linter.unusedVariables false
set_option linter.unusedSimpArgs false
open Go.RowKit

end Go.Proofs.YtmhpicccfaklcaaGreatDoor

/- The program's Sqrt. -/
namespace Go.Proofs.YtmhpicccfaklcaaGreatDoor
set_option linter.unusedVariables false
set_option linter.unusedSimpArgs false
open Go.RowKit

set_option maxHeartbeats 4000000 in
set_option maxRecDepth 200000 in
theorem psqrt_e (ua : Option Addr) (un uc x k0 b : Nat) (ea mode h2 : Int) (w : World) (hT : Tab32 w) (h1 : Is w (.slice ua un uc) x) (hx : dlen x ≤ 3000) (he1 : -65536 ≤ ea) (he2 : ea ≤ 65536) (hm : mode = 1 ∨ mode = 2 ∨ mode = 3) (hb : bl x = b) (hb2 : b ≤ 96000) (hk0 : max 0 (128 - (b : Int)) = (k0 : Int)) (hk1 : k0 ≤ 128) (hod : ((ea - (k0 : Int)).tmod 2 != 0) = false) (hh : (ea - (k0 : Int)).tdiv 2 = h2) (hh1 : -40000 ≤ h2) (hh2 : h2 ≤ 40000)
    (k43 : ∀ W g, Below w.heap.size w W → W.heap[g]? = some (.cells #[.bool false, .slice ua un uc, .int .i64 ea] 25 (0, 0)) → Calls Tryz.prog 47 #[.slice (some ⟨g, 0, none⟩) 1 1] W fun r w' => r = .returned (.bool true) ∧ Below W.heap.size W w') :
    Calls Tryz.prog 39 #[.agg #[.bool false, .slice ua un uc, .int .i64 ea], .int .i64 mode] w fun r w' => ∃ q, (q * q ≤ x * 2 ^ k0 ∧ x * 2 ^ k0 < (q + 1) * (q + 1)) ∧ r = .returned (.tuple #[.float .f64 (tfF false (decide (q * q = x * 2 ^ k0)) q h2 mode), .int .i64 0]) ∧ Below w.heap.size w w' := by
  obtain ⟨W, hW⟩ : ∃ W, W = w.alloc (.cells #[.bool false, .slice ua un uc, .int .i64 ea] 25) := ⟨_, rfl⟩
  have hBW : Below w.heap.size w W := by rw [hW]; exact (Below.refl _ _).alloc (Nat.le_refl _) _
  have hbA : W.heap[w.heap.size]? = some (.cells #[.bool false, .slice ua un uc, .int .i64 ea] 25 (0, 0)) := by rw [hW]; exact heap_alloc_new _ _
  have hsz : W.heap.size = w.heap.size + 1 := by rw [hW]; simp
  have k1 := k43 (W.alloc (.cells #[.bool false, .slice ua un uc, .int .i64 ea] 25)) (w.heap.size + 1) (hBW.alloc hBW.size _) (by rw [← hsz]; exact heap_alloc_new _ _)
  have HX : Hid (Below w.heap.size w W ∧ W.heap.size = w.heap.size + 1 ∧ W.heap[w.heap.size]? = some (.cells #[.bool false, .slice ua un uc, .int .i64 ea] 25 (0, 0))) := ⟨hBW, hsz, hbA⟩
  have HT : Hid (Tab32 w ∧ Is w (.slice ua un uc) x ∧ dlen x ≤ 3000) := ⟨hT, h1, hx⟩
  have k48 := fun W => c48 mode hm W
  clear hBW hsz hbA k43 hT h1 hx
  go_enter Tryz.func39, Tryz.ntmps39
  go_wp2_with fail
  rw [← hW]
  clear hW
  refine k1.mono ?_
  rintro r w1 ⟨rfl, hb1⟩
  have HB1 : Hid (Below W.heap.size W w1) := ((Below.refl W.heap.size W).alloc (Nat.le_refl _) _).trans (hb1.mono (by simp))
  have HW1 : Hid (Below w.heap.size w w1) := HX.out.1.trans (HB1.out.mono HX.out.1.size)
  obtain ⟨⟨a0, a1, a2⟩, -⟩ := box_cells (box_later HX.out.2.2 HB1.out (by have := HX.out.2.1; omega))
  clear k1 hb1
  go_wp2_with fail
  refine (k48 w1).mono ?_
  rintro r w1' ⟨rfl, hw⟩
  replace hw := hw.symm
  subst hw
  clear k48
  have kl := c74 (HT.out.2.1.later HW1.out) (by have := HT.out.2.2; omega)
  rw [hb] at kl
  go_wp2_with fail
  refine kl.mono ?_
  rintro r w1' ⟨rfl, hw⟩
  replace hw := hw.symm
  subst hw
  clear kl
  have ks := c109 (HT.out.2.1.later HW1.out) k0 (by have := HT.out.2.2; omega) (by omega)
  go_wp2_with fail
  refine ks.mono ?_
  rintro r w2 ⟨v2, rfl, ho2, hb2'⟩
  have HB2 : Hid (Below W.heap.size W w2) := HB1.out.trans (hb2'.mono HB1.out.size)
  have hl : dlen (x * 2 ^ k0) ≤ 4000 := by have := shl_len (x := x) (k := k0) rfl; have := HT.out.2.2; omega
  have kr := c112 ho2.is (by omega)
  clear ks ho2 hb2' a0 a1 a2
  go_wp2_with fail
  refine kr.mono ?_
  rintro r w3 ⟨v3, q, rfl, ho3, hq1, hq2, hb3⟩
  have HB3 : Hid (Below W.heap.size W w3) := HB2.out.trans (hb3.mono HB2.out.size)
  have HQ : Hid (q * q ≤ x * 2 ^ k0 ∧ x * 2 ^ k0 < (q + 1) * (q + 1)) := ⟨hq1, hq2⟩
  obtain ⟨⟨a0, a1, a2⟩, -⟩ := box_cells (box_later HX.out.2.2 HB3.out (by have := HX.out.2.1; omega))
  obtain ⟨bx, hbx⟩ : ∃ bx : Bool, bx = decide (q * q = x * 2 ^ k0) := ⟨_, rfl⟩
  have kt := c110 (neg := false) (exact := bx) (e := h2) (mode := mode) (HT.out.1.later (HX.out.1.trans (HB3.out.mono HX.out.1.size))) ho3.is (Nat.le_trans (dlen_mono (Nat.le_trans (Nat.le_mul_self q) hq1)) (by omega)) (by omega) (by omega)
  rw [← hbx]
  have HBX : Hid (bx = decide (q * q = x * 2 ^ k0)) := hbx
  clear kr ho3 hb3 hq1 hq2 hbx hl
  go_wp2_with fail
  refine kt.mono ?_
  rintro r w4 ⟨rfl, hb4⟩
  have HB4 : Hid (Below W.heap.size W w4) := HB3.out.trans (hb4.mono HB3.out.size)
  clear kt hb4
  go_wp2
  refine bodyPost_ret (results_tmp2 rfl _ _ _) rfl ?_
  exact ⟨q, HQ.out, congrArg (fun b => Ending.returned (Value.tuple #[.float .f64 (tfF false b q h2 mode), .int .i64 0])) HBX.out, HX.out.1.trans (HB4.out.mono HX.out.1.size)⟩
set_option maxHeartbeats 4000000 in
set_option maxRecDepth 200000 in
theorem psqrt_o (ua : Option Addr) (un uc x k0 b : Nat) (ea mode h2 : Int) (w : World) (hT : Tab32 w) (h1 : Is w (.slice ua un uc) x) (hx : dlen x ≤ 3000) (he1 : -65536 ≤ ea) (he2 : ea ≤ 65536) (hm : mode = 1 ∨ mode = 2 ∨ mode = 3) (hb : bl x = b) (hb2 : b ≤ 96000) (hk0 : max 0 (128 - (b : Int)) = (k0 : Int)) (hk1 : k0 ≤ 128) (hod : ((ea - (k0 : Int)).tmod 2 != 0) = true) (hh : (ea - ((k0 : Int) + 1)).tdiv 2 = h2) (hh1 : -40000 ≤ h2) (hh2 : h2 ≤ 40000)
    (k43 : ∀ W g, Below w.heap.size w W → W.heap[g]? = some (.cells #[.bool false, .slice ua un uc, .int .i64 ea] 25 (0, 0)) → Calls Tryz.prog 47 #[.slice (some ⟨g, 0, none⟩) 1 1] W fun r w' => r = .returned (.bool true) ∧ Below W.heap.size W w') :
    Calls Tryz.prog 39 #[.agg #[.bool false, .slice ua un uc, .int .i64 ea], .int .i64 mode] w fun r w' => ∃ q, (q * q ≤ x * 2 ^ (k0 + 1) ∧ x * 2 ^ (k0 + 1) < (q + 1) * (q + 1)) ∧ r = .returned (.tuple #[.float .f64 (tfF false (decide (q * q = x * 2 ^ (k0 + 1))) q h2 mode), .int .i64 0]) ∧ Below w.heap.size w w' := by
  obtain ⟨W, hW⟩ : ∃ W, W = w.alloc (.cells #[.bool false, .slice ua un uc, .int .i64 ea] 25) := ⟨_, rfl⟩
  have hBW : Below w.heap.size w W := by rw [hW]; exact (Below.refl _ _).alloc (Nat.le_refl _) _
  have hbA : W.heap[w.heap.size]? = some (.cells #[.bool false, .slice ua un uc, .int .i64 ea] 25 (0, 0)) := by rw [hW]; exact heap_alloc_new _ _
  have hsz : W.heap.size = w.heap.size + 1 := by rw [hW]; simp
  have k1 := k43 (W.alloc (.cells #[.bool false, .slice ua un uc, .int .i64 ea] 25)) (w.heap.size + 1) (hBW.alloc hBW.size _) (by rw [← hsz]; exact heap_alloc_new _ _)
  have HX : Hid (Below w.heap.size w W ∧ W.heap.size = w.heap.size + 1 ∧ W.heap[w.heap.size]? = some (.cells #[.bool false, .slice ua un uc, .int .i64 ea] 25 (0, 0))) := ⟨hBW, hsz, hbA⟩
  have HT : Hid (Tab32 w ∧ Is w (.slice ua un uc) x ∧ dlen x ≤ 3000) := ⟨hT, h1, hx⟩
  have k48 := fun W => c48 mode hm W
  clear hBW hsz hbA k43 hT h1 hx
  go_enter Tryz.func39, Tryz.ntmps39
  go_wp2_with fail
  rw [← hW]
  clear hW
  refine k1.mono ?_
  rintro r w1 ⟨rfl, hb1⟩
  have HB1 : Hid (Below W.heap.size W w1) := ((Below.refl W.heap.size W).alloc (Nat.le_refl _) _).trans (hb1.mono (by simp))
  have HW1 : Hid (Below w.heap.size w w1) := HX.out.1.trans (HB1.out.mono HX.out.1.size)
  obtain ⟨⟨a0, a1, a2⟩, -⟩ := box_cells (box_later HX.out.2.2 HB1.out (by have := HX.out.2.1; omega))
  clear k1 hb1
  go_wp2_with fail
  refine (k48 w1).mono ?_
  rintro r w1' ⟨rfl, hw⟩
  replace hw := hw.symm
  subst hw
  clear k48
  have kl := c74 (HT.out.2.1.later HW1.out) (by have := HT.out.2.2; omega)
  rw [hb] at kl
  go_wp2_with fail
  refine kl.mono ?_
  rintro r w1' ⟨rfl, hw⟩
  replace hw := hw.symm
  subst hw
  clear kl
  have ks := c109 (HT.out.2.1.later HW1.out) (k0 + 1) (by have := HT.out.2.2; omega) (by omega)
  rw [show ((k0 + 1 : Nat) : Int) = (k0 : Int) + 1 by omega] at ks
  go_wp2_with fail
  refine ks.mono ?_
  rintro r w2 ⟨v2, rfl, ho2, hb2'⟩
  have HB2 : Hid (Below W.heap.size W w2) := HB1.out.trans (hb2'.mono HB1.out.size)
  have hl : dlen (x * 2 ^ (k0 + 1)) ≤ 4000 := by have := shl_len (x := x) (k := (k0 + 1)) rfl; have := HT.out.2.2; omega
  have kr := c112 ho2.is (by omega)
  clear ks ho2 hb2' a0 a1 a2
  go_wp2_with fail
  refine kr.mono ?_
  rintro r w3 ⟨v3, q, rfl, ho3, hq1, hq2, hb3⟩
  have HB3 : Hid (Below W.heap.size W w3) := HB2.out.trans (hb3.mono HB2.out.size)
  have HQ : Hid (q * q ≤ x * 2 ^ (k0 + 1) ∧ x * 2 ^ (k0 + 1) < (q + 1) * (q + 1)) := ⟨hq1, hq2⟩
  obtain ⟨⟨a0, a1, a2⟩, -⟩ := box_cells (box_later HX.out.2.2 HB3.out (by have := HX.out.2.1; omega))
  obtain ⟨bx, hbx⟩ : ∃ bx : Bool, bx = decide (q * q = x * 2 ^ (k0 + 1)) := ⟨_, rfl⟩
  have kt := c110 (neg := false) (exact := bx) (e := h2) (mode := mode) (HT.out.1.later (HX.out.1.trans (HB3.out.mono HX.out.1.size))) ho3.is (Nat.le_trans (dlen_mono (Nat.le_trans (Nat.le_mul_self q) hq1)) (by omega)) (by omega) (by omega)
  rw [← hbx]
  have HBX : Hid (bx = decide (q * q = x * 2 ^ (k0 + 1))) := hbx
  clear kr ho3 hb3 hq1 hq2 hbx hl
  go_wp2_with fail
  refine kt.mono ?_
  rintro r w4 ⟨rfl, hb4⟩
  have HB4 : Hid (Below W.heap.size W w4) := HB3.out.trans (hb4.mono HB3.out.size)
  clear kt hb4
  go_wp2
  refine bodyPost_ret (results_tmp2 rfl _ _ _) rfl ?_
  exact ⟨q, HQ.out, congrArg (fun b => Ending.returned (Value.tuple #[.float .f64 (tfF false b q h2 mode), .int .i64 0])) HBX.out, HX.out.1.trans (HB4.out.mono HX.out.1.size)⟩
end Go.Proofs.YtmhpicccfaklcaaGreatDoor
