/- Own work: contracts of the program's functions, part 11: RW3 RW4 RW5 RW6 RW7 RW8 RW9 RX1 W49 RX2 RX3 W50 L16 L10 L17 L14 W51 W52 FM FM2 F1 F6. -/
import Derived.Test.YtcoclopllbfjcaaGreatDoorA10
import Derived.Test.YtcoclopllbfjcaaGreatDoorA9
import Derived.Test.YtcoclopllbfjcaaGreatDoorA3
import Derived.Test.YtcoclopllbfjcaaGreatDoorA4
import Derived.Test.YtcoclopllbfjcaaGreatDoorA8
import Derived.Test.YtcoclopllbfjcaaGreatDoorA6
import Derived.Test.YtcoclopllbfjcaaGreatDoorA1
import Derived.Test.YtcoclopllbfjcaaGreatDoorA7

/- The document's Over: the quotient, cut to a place. -/
namespace Go.Proofs.YtcoclopllbfjcaaGreatDoor
set_option linter.unusedVariables false
set_option linter.unusedSimpArgs false
open Go.RowKit

theorem rless_nc {va : Option Addr} {vc q base : Nat} {place : Int} {w : World} {s6 : Bool} {ao6 : Option Addr} {n6 cap6 : Nat} {ex6 : Int} (h : NC w base (.agg #[.bool s6, .slice ao6 n6 cap6, .int .i64 ex6]) true q (-place)) (h1 : At w va 1 1) (hvc : 1 ≤ vc) (hp1 : -1000000 ≤ place) (hp2 : place ≤ 1000000) (hq : dlen q ≤ 30000) :
    Calls Tryz.prog 27 #[.agg #[.bool s6, .slice ao6 n6 cap6, .int .i64 ex6], .agg #[.bool false, .slice va 1 vc, .int .i64 (-place)]] w fun r w' => ∃ a, r = .returned a ∧ NC w' w.heap.size a true (q + 1) (-place) ∧ Below w.heap.size w w' := by
  obtain ⟨ao, cap, e, hA, -⟩ := h
  rw [e]
  exact rless_one hA h1 hvc hp1 hp2 hq
set_option maxHeartbeats 4000000 in
set_option maxRecDepth 200000 in
theorem rover_ae (na nb : Bool) (ua va : Option Addr) (uc vc x y k : Nat) (ea eb place : Int) (w : World) (sg : Bool) (hsg : (!(na == nb)) = sg) (h1 : At w ua (dlen x) x) (hu : dlen x ≤ uc) (h2 : At w va (dlen y) y) (hv : dlen y ≤ vc) (hx0 : x ≠ 0) (hy0 : y ≠ 0) (hx : dlen x ≤ 3000) (hy : dlen y ≤ 3000)
    (he1 : -200000 ≤ ea) (he2 : ea ≤ 200000) (he3 : -200000 ≤ eb) (he4 : eb ≤ 200000) (hp1 : -200000 ≤ place) (hp2 : place ≤ 200000) (hk : ea - eb + place = (k : Int)) (hk2 : k ≤ 600000) (hr : (x * 2 ^ k) % (y) = 0) :
    Calls Tryz.prog 127 #[.agg #[.bool na, .slice ua (dlen x) uc, .int .i64 ea], .agg #[.bool nb, .slice va (dlen y) vc, .int .i64 eb], .int .i64 place] w fun r w' => ∃ A, r = .returned (.tuple #[A, .bool true]) ∧ NC w' w.heap.size A sg ((x * 2 ^ k) / (y)) (-place) ∧ Below w.heap.size w w' := by
  obtain ⟨W, hW⟩ : ∃ W, W = ((w.alloc (.cells #[.bool na, .slice ua (dlen x) uc, .int .i64 ea] 45)).alloc (.cells #[.bool nb, .slice va (dlen y) vc, .int .i64 eb] 45)).alloc (.cells #[.bool false, .slice none 0 0, .int .i64 0] 45) := ⟨_, rfl⟩
  obtain ⟨hA, hBb, hC, hsz, hBW⟩ := boxes3 _ _ _ hW
  have HH : Hid ((W.heap[w.heap.size]? = some (.cells #[.bool na, .slice ua (dlen x) uc, .int .i64 ea] 45 (0, 0)) ∧ W.heap[w.heap.size + 1]? = some (.cells #[.bool nb, .slice va (dlen y) vc, .int .i64 eb] 45 (0, 0)) ∧ W.heap[w.heap.size + 1 + 1]? = some (.cells #[.bool false, .slice none 0 0, .int .i64 0] 45 (0, 0))) ∧ W.heap.size = w.heap.size + 1 + 1 + 1 ∧ Below w.heap.size w W) := ⟨⟨hA, hBb, hC⟩, hsz, hBW⟩
  obtain ⟨⟨a0, a1, a2⟩, -⟩ := box_cells29 hA
  obtain ⟨⟨b0, b1, b2⟩, -⟩ := box_cells29 hBb
  have HI : Hid (Ir w (.slice ua (dlen x) uc) x ∧ Ir w (.slice va (dlen y) vc) y) := ⟨⟨ua, uc, rfl, hu, h1⟩, ⟨va, vc, rfl, hv, h2⟩⟩
  have HN : Hid ((x ≠ 0 ∧ y ≠ 0 ∧ dlen x ≤ 3000 ∧ dlen y ≤ 3000 ∧ k ≤ 600000) ∧ (x * 2 ^ k) % (y) = 0) := ⟨⟨hx0, hy0, hx, hy, hk2⟩, hr⟩
  have hxz : ((dlen x : Int) == 0) = false := len_ne (n := 0) hx0
  clear hA hBb hC hsz hBW h1 h2 hr
  generalize hdx : dlen x = lx at *
  generalize hdy : dlen y = ly at *
  rw [hW] at a0 a1 a2 b0 b1 b2
  go_enter Tryz.func127, Tryz.ntmps127
  go_wp2
  go_quiet (fail)
  rw [← hW]
  have HBW1 : Hid (Below W.heap.size W (W.drewN nq)) := (⟨rfl, rfl, rfl, Nat.le_refl _, fun _ _ => rfl⟩ : Below W.heap.size W (W.drewN nq))
  obtain ⟨W1, hW1⟩ : ∃ W1, W1 = W.drewN nq := ⟨_, rfl⟩
  rw [← hW1] at HBW1 ⊢
  clear hW hW1 a0 a1 a2 b0 b1 b2
  have HIW : Hid (Ir W1 (.slice ua lx uc) x ∧ Ir W1 (.slice va ly vc) y) := ⟨HI.out.1.later (HH.out.2.2.trans (HBW1.out.mono HH.out.2.2.size)), HI.out.2.later (HH.out.2.2.trans (HBW1.out.mono HH.out.2.2.size))⟩
  have ku := rup HIW.out.1 k (by have := HN.out.1; omega) (by omega)
  go_wp2_with fail
  refine ku.mono ?_
  rintro r w4 ⟨vu, rfl, hIu, hb4⟩
  have HB4 : Hid (Below W.heap.size W w4) := HBW1.out.trans (hb4.mono HBW1.out.size)
  have hl : dlen (x * 2 ^ k) ≤ 25000 := by
    have := shl_len (x := x) (k := k) rfl
    have := HN.out.1
    omega
  have kd := rdivide hIu (HIW.out.2.later hb4) (Nat.mul_ne_zero HN.out.1.1 (by have := Nat.two_pow_pos k; omega)) HN.out.1.2.1 (by omega) (by have := HN.out.1; omega)
  have HO : Hid (Ir w4 vu (x * 2 ^ k)) := hIu
  clear ku hIu hb4
  go_wp2_with fail
  refine kd.mono ?_
  rintro r w5 ⟨vq, vr, rfl, hIq, hIr, hb5⟩
  have HB5 : Hid (Below W.heap.size W w5) := HB4.out.trans (hb5.mono HB4.out.size)
  obtain ⟨⟨a0, a1, a2⟩, -⟩ := box_cells29 (box_later HH.out.1.1 HB5.out (by have := HH.out.2.1; omega))
  obtain ⟨⟨b0, b1, b2⟩, -⟩ := box_cells29 (box_later HH.out.1.2.1 HB5.out (by have := HH.out.2.1; omega))
  obtain ⟨rr, rcap, rfl, hrc, hrA⟩ := hIr
  have hql : dlen ((x * 2 ^ k) / (y)) ≤ 30000 := Nat.le_trans (dlen_mono (Nat.div_le_self _ _)) (by omega)
  have kn := rnorm (neg := sg) (e := -place) hIq (by omega) (by omega)
  have HQL : Hid (dlen ((x * 2 ^ k) / (y)) ≤ 30000) := hql
  have hrl : ((dlen ((x * 2 ^ k) % (y)) : Int) == 0) = true := by rw [show (x * 2 ^ k) % (y) = 0 from HN.out.2, dlen_zero]; rfl
  clear kd hIq hb5 hrA hql hl
  generalize hdr : dlen ((x * 2 ^ k) % (y)) = lr at *
  go_wp2_with fail
  refine kn.mono ?_
  rintro r w6 ⟨A, rfl, hN6, hb6⟩
  obtain ⟨s6, ao6, n6, cap6, ex6, rfl⟩ := hN6.shape
  have HB6 : Hid (Below W.heap.size W w6) := HB5.out.trans (hb6.mono HB5.out.size)
  have HN6 : Hid (NC w6 w5.heap.size (.agg #[.bool s6, .slice ao6 n6 cap6, .int .i64 ex6]) sg ((x * 2 ^ k) / (y)) (-place)) := hN6
  obtain ⟨w7, hw7⟩ : ∃ w7, w7 = w6.alloc (.cells #[.bool s6, .slice ao6 n6 cap6, .int .i64 ex6] 45) := ⟨_, rfl⟩
  have hB67 : Below w6.heap.size w6 w7 := by rw [hw7]; exact (Below.refl _ _).alloc (Nat.le_refl _) _
  have HB7 : Hid (Below W.heap.size W w7) := HB6.out.trans (hB67.mono HB6.out.size)
  have hbox : w7.heap[w6.heap.size]? = some (.cells #[.bool s6, .slice ao6 n6 cap6, .int .i64 ex6] 45 (0, 0)) := by rw [hw7]; exact heap_alloc_new _ _
  have HBX : Hid (w7.heap[w6.heap.size]? = some (.cells #[.bool s6, .slice ao6 n6 cap6, .int .i64 ex6] 45 (0, 0)) ∧ Below w6.heap.size w6 w7) := ⟨hbox, hB67⟩
  have hres := box_later HH.out.1.2.2 HB7.out (by have := HH.out.2.1; omega)
  have HRES : Hid (w7.heap[w.heap.size + 1 + 1]? = some (.cells #[.bool false, .slice none 0 0, .int .i64 0] 45 (0, 0))) := hres
  obtain ⟨⟨c0, c1, c2⟩, c3, c4, c5⟩ := box_cells29 hres
  obtain ⟨⟨d0, d1, d2⟩, d3, d4, d5⟩ := box_cells29 hbox
  clear kn hN6 hb6 hbox hres hB67 a0 a1 a2 b0 b1 b2
  rw [hw7] at c0 c1 c2 c3 c4 c5 d0 d1 d2 d3 d4 d5
  go_wp2
  rw [← hw7]
  refine bodyPost_ret (results_cell_tmp_row rfl _ _ (w.heap.size + 1 + 1) 45 #[.bool s6, .slice ao6 n6 cap6, .int .i64 ex6] (0, 0) _ rfl (store3_29 _ _ _ HRES.out) Tryz.underlying45 rfl Tryz.info45) rfl ?_
  have q1 := HH.out.2.1
  have q2 := HB5.out.size
  exact ⟨_, rfl, ((HN6.out.later HBX.out.2).store (by omega) _ _ _).mono (by omega), below_store3 (HH.out.2.2.trans (HB7.out.mono HH.out.2.2.size)) (by omega) _ _ _⟩
set_option maxHeartbeats 4000000 in
set_option maxRecDepth 200000 in
theorem rover_arp (na nb : Bool) (ua va : Option Addr) (uc vc x y k : Nat) (ea eb place : Int) (w : World) (hsg : (!(na == nb)) = false) (h1 : At w ua (dlen x) x) (hu : dlen x ≤ uc) (h2 : At w va (dlen y) y) (hv : dlen y ≤ vc) (hx0 : x ≠ 0) (hy0 : y ≠ 0) (hx : dlen x ≤ 3000) (hy : dlen y ≤ 3000)
    (he1 : -200000 ≤ ea) (he2 : ea ≤ 200000) (he3 : -200000 ≤ eb) (he4 : eb ≤ 200000) (hp1 : -200000 ≤ place) (hp2 : place ≤ 200000) (hk : ea - eb + place = (k : Int)) (hk2 : k ≤ 600000) (hr : ¬ (x * 2 ^ k) % (y) = 0) :
    Calls Tryz.prog 127 #[.agg #[.bool na, .slice ua (dlen x) uc, .int .i64 ea], .agg #[.bool nb, .slice va (dlen y) vc, .int .i64 eb], .int .i64 place] w fun r w' => ∃ A, r = .returned (.tuple #[A, .bool false]) ∧ NC w' w.heap.size A false ((x * 2 ^ k) / (y)) (-place) ∧ Below w.heap.size w w' := by
  obtain ⟨W, hW⟩ : ∃ W, W = ((w.alloc (.cells #[.bool na, .slice ua (dlen x) uc, .int .i64 ea] 45)).alloc (.cells #[.bool nb, .slice va (dlen y) vc, .int .i64 eb] 45)).alloc (.cells #[.bool false, .slice none 0 0, .int .i64 0] 45) := ⟨_, rfl⟩
  obtain ⟨hA, hBb, hC, hsz, hBW⟩ := boxes3 _ _ _ hW
  have HH : Hid ((W.heap[w.heap.size]? = some (.cells #[.bool na, .slice ua (dlen x) uc, .int .i64 ea] 45 (0, 0)) ∧ W.heap[w.heap.size + 1]? = some (.cells #[.bool nb, .slice va (dlen y) vc, .int .i64 eb] 45 (0, 0)) ∧ W.heap[w.heap.size + 1 + 1]? = some (.cells #[.bool false, .slice none 0 0, .int .i64 0] 45 (0, 0))) ∧ W.heap.size = w.heap.size + 1 + 1 + 1 ∧ Below w.heap.size w W) := ⟨⟨hA, hBb, hC⟩, hsz, hBW⟩
  obtain ⟨⟨a0, a1, a2⟩, -⟩ := box_cells29 hA
  obtain ⟨⟨b0, b1, b2⟩, -⟩ := box_cells29 hBb
  have HI : Hid (Ir w (.slice ua (dlen x) uc) x ∧ Ir w (.slice va (dlen y) vc) y) := ⟨⟨ua, uc, rfl, hu, h1⟩, ⟨va, vc, rfl, hv, h2⟩⟩
  have HN : Hid ((x ≠ 0 ∧ y ≠ 0 ∧ dlen x ≤ 3000 ∧ dlen y ≤ 3000 ∧ k ≤ 600000) ∧ ¬ (x * 2 ^ k) % (y) = 0) := ⟨⟨hx0, hy0, hx, hy, hk2⟩, hr⟩
  have hxz : ((dlen x : Int) == 0) = false := len_ne (n := 0) hx0
  clear hA hBb hC hsz hBW h1 h2 hr
  generalize hdx : dlen x = lx at *
  generalize hdy : dlen y = ly at *
  rw [hW] at a0 a1 a2 b0 b1 b2
  go_enter Tryz.func127, Tryz.ntmps127
  go_wp2
  go_quiet (fail)
  rw [← hW]
  have HBW1 : Hid (Below W.heap.size W (W.drewN nq)) := (⟨rfl, rfl, rfl, Nat.le_refl _, fun _ _ => rfl⟩ : Below W.heap.size W (W.drewN nq))
  obtain ⟨W1, hW1⟩ : ∃ W1, W1 = W.drewN nq := ⟨_, rfl⟩
  rw [← hW1] at HBW1 ⊢
  clear hW hW1 a0 a1 a2 b0 b1 b2
  have HIW : Hid (Ir W1 (.slice ua lx uc) x ∧ Ir W1 (.slice va ly vc) y) := ⟨HI.out.1.later (HH.out.2.2.trans (HBW1.out.mono HH.out.2.2.size)), HI.out.2.later (HH.out.2.2.trans (HBW1.out.mono HH.out.2.2.size))⟩
  have ku := rup HIW.out.1 k (by have := HN.out.1; omega) (by omega)
  go_wp2_with fail
  refine ku.mono ?_
  rintro r w4 ⟨vu, rfl, hIu, hb4⟩
  have HB4 : Hid (Below W.heap.size W w4) := HBW1.out.trans (hb4.mono HBW1.out.size)
  have hl : dlen (x * 2 ^ k) ≤ 25000 := by
    have := shl_len (x := x) (k := k) rfl
    have := HN.out.1
    omega
  have kd := rdivide hIu (HIW.out.2.later hb4) (Nat.mul_ne_zero HN.out.1.1 (by have := Nat.two_pow_pos k; omega)) HN.out.1.2.1 (by omega) (by have := HN.out.1; omega)
  have HO : Hid (Ir w4 vu (x * 2 ^ k)) := hIu
  clear ku hIu hb4
  go_wp2_with fail
  refine kd.mono ?_
  rintro r w5 ⟨vq, vr, rfl, hIq, hIr, hb5⟩
  have HB5 : Hid (Below W.heap.size W w5) := HB4.out.trans (hb5.mono HB4.out.size)
  obtain ⟨⟨a0, a1, a2⟩, -⟩ := box_cells29 (box_later HH.out.1.1 HB5.out (by have := HH.out.2.1; omega))
  obtain ⟨⟨b0, b1, b2⟩, -⟩ := box_cells29 (box_later HH.out.1.2.1 HB5.out (by have := HH.out.2.1; omega))
  obtain ⟨rr, rcap, rfl, hrc, hrA⟩ := hIr
  have hql : dlen ((x * 2 ^ k) / (y)) ≤ 30000 := Nat.le_trans (dlen_mono (Nat.div_le_self _ _)) (by omega)
  have kn := rnorm (neg := false) (e := -place) hIq (by omega) (by omega)
  have HQL : Hid (dlen ((x * 2 ^ k) / (y)) ≤ 30000) := hql
  have hrl : ((dlen ((x * 2 ^ k) % (y)) : Int) == 0) = false := len_ne (n := 0) HN.out.2
  clear kd hIq hb5 hrA hql hl
  generalize hdr : dlen ((x * 2 ^ k) % (y)) = lr at *
  go_wp2_with fail
  refine kn.mono ?_
  rintro r w6 ⟨A, rfl, hN6, hb6⟩
  obtain ⟨s6, ao6, n6, cap6, ex6, rfl⟩ := hN6.shape
  have HB6 : Hid (Below W.heap.size W w6) := HB5.out.trans (hb6.mono HB5.out.size)
  have HN6 : Hid (NC w6 w5.heap.size (.agg #[.bool s6, .slice ao6 n6 cap6, .int .i64 ex6]) false ((x * 2 ^ k) / (y)) (-place)) := hN6
  obtain ⟨w7, hw7⟩ : ∃ w7, w7 = w6.alloc (.cells #[.bool s6, .slice ao6 n6 cap6, .int .i64 ex6] 45) := ⟨_, rfl⟩
  have hB67 : Below w6.heap.size w6 w7 := by rw [hw7]; exact (Below.refl _ _).alloc (Nat.le_refl _) _
  have HB7 : Hid (Below W.heap.size W w7) := HB6.out.trans (hB67.mono HB6.out.size)
  have hbox : w7.heap[w6.heap.size]? = some (.cells #[.bool s6, .slice ao6 n6 cap6, .int .i64 ex6] 45 (0, 0)) := by rw [hw7]; exact heap_alloc_new _ _
  have HBX : Hid (w7.heap[w6.heap.size]? = some (.cells #[.bool s6, .slice ao6 n6 cap6, .int .i64 ex6] 45 (0, 0)) ∧ Below w6.heap.size w6 w7) := ⟨hbox, hB67⟩
  have hres := box_later HH.out.1.2.2 HB7.out (by have := HH.out.2.1; omega)
  have HRES : Hid (w7.heap[w.heap.size + 1 + 1]? = some (.cells #[.bool false, .slice none 0 0, .int .i64 0] 45 (0, 0))) := hres
  obtain ⟨⟨c0, c1, c2⟩, c3, c4, c5⟩ := box_cells29 hres
  obtain ⟨⟨d0, d1, d2⟩, d3, d4, d5⟩ := box_cells29 hbox
  clear kn hN6 hb6 hbox hres hB67 a0 a1 a2 b0 b1 b2
  rw [hw7] at c0 c1 c2 c3 c4 c5 d0 d1 d2 d3 d4 d5
  go_wp2
  rw [← hw7]
  refine bodyPost_ret (results_cell_tmp_row rfl _ _ (w.heap.size + 1 + 1) 45 #[.bool s6, .slice ao6 n6 cap6, .int .i64 ex6] (0, 0) _ rfl (store3_29 _ _ _ HRES.out) Tryz.underlying45 rfl Tryz.info45) rfl ?_
  have q1 := HH.out.2.1
  have q2 := HB5.out.size
  exact ⟨_, rfl, ((HN6.out.later HBX.out.2).store (by omega) _ _ _).mono (by omega), below_store3 (HH.out.2.2.trans (HB7.out.mono HH.out.2.2.size)) (by omega) _ _ _⟩
set_option maxHeartbeats 4000000 in
set_option maxRecDepth 200000 in
theorem rover_arn (na nb : Bool) (ua va : Option Addr) (uc vc x y k : Nat) (ea eb place : Int) (w : World) (hsg : (!(na == nb)) = true) (h1 : At w ua (dlen x) x) (hu : dlen x ≤ uc) (h2 : At w va (dlen y) y) (hv : dlen y ≤ vc) (hx0 : x ≠ 0) (hy0 : y ≠ 0) (hx : dlen x ≤ 3000) (hy : dlen y ≤ 3000)
    (he1 : -200000 ≤ ea) (he2 : ea ≤ 200000) (he3 : -200000 ≤ eb) (he4 : eb ≤ 200000) (hp1 : -200000 ≤ place) (hp2 : place ≤ 200000) (hk : ea - eb + place = (k : Int)) (hk2 : k ≤ 600000) (hr : ¬ (x * 2 ^ k) % (y) = 0) :
    Calls Tryz.prog 127 #[.agg #[.bool na, .slice ua (dlen x) uc, .int .i64 ea], .agg #[.bool nb, .slice va (dlen y) vc, .int .i64 eb], .int .i64 place] w fun r w' => ∃ A, r = .returned (.tuple #[A, .bool false]) ∧ NC w' w.heap.size A true ((x * 2 ^ k) / (y) + 1) (-place) ∧ Below w.heap.size w w' := by
  obtain ⟨W, hW⟩ : ∃ W, W = ((w.alloc (.cells #[.bool na, .slice ua (dlen x) uc, .int .i64 ea] 45)).alloc (.cells #[.bool nb, .slice va (dlen y) vc, .int .i64 eb] 45)).alloc (.cells #[.bool false, .slice none 0 0, .int .i64 0] 45) := ⟨_, rfl⟩
  obtain ⟨hA, hBb, hC, hsz, hBW⟩ := boxes3 _ _ _ hW
  have HH : Hid ((W.heap[w.heap.size]? = some (.cells #[.bool na, .slice ua (dlen x) uc, .int .i64 ea] 45 (0, 0)) ∧ W.heap[w.heap.size + 1]? = some (.cells #[.bool nb, .slice va (dlen y) vc, .int .i64 eb] 45 (0, 0)) ∧ W.heap[w.heap.size + 1 + 1]? = some (.cells #[.bool false, .slice none 0 0, .int .i64 0] 45 (0, 0))) ∧ W.heap.size = w.heap.size + 1 + 1 + 1 ∧ Below w.heap.size w W) := ⟨⟨hA, hBb, hC⟩, hsz, hBW⟩
  obtain ⟨⟨a0, a1, a2⟩, -⟩ := box_cells29 hA
  obtain ⟨⟨b0, b1, b2⟩, -⟩ := box_cells29 hBb
  have HI : Hid (Ir w (.slice ua (dlen x) uc) x ∧ Ir w (.slice va (dlen y) vc) y) := ⟨⟨ua, uc, rfl, hu, h1⟩, ⟨va, vc, rfl, hv, h2⟩⟩
  have HN : Hid ((x ≠ 0 ∧ y ≠ 0 ∧ dlen x ≤ 3000 ∧ dlen y ≤ 3000 ∧ k ≤ 600000) ∧ ¬ (x * 2 ^ k) % (y) = 0) := ⟨⟨hx0, hy0, hx, hy, hk2⟩, hr⟩
  have hxz : ((dlen x : Int) == 0) = false := len_ne (n := 0) hx0
  clear hA hBb hC hsz hBW h1 h2 hr
  generalize hdx : dlen x = lx at *
  generalize hdy : dlen y = ly at *
  rw [hW] at a0 a1 a2 b0 b1 b2
  go_enter Tryz.func127, Tryz.ntmps127
  go_wp2
  go_quiet (fail)
  rw [← hW]
  have HBW1 : Hid (Below W.heap.size W (W.drewN nq)) := (⟨rfl, rfl, rfl, Nat.le_refl _, fun _ _ => rfl⟩ : Below W.heap.size W (W.drewN nq))
  obtain ⟨W1, hW1⟩ : ∃ W1, W1 = W.drewN nq := ⟨_, rfl⟩
  rw [← hW1] at HBW1 ⊢
  clear hW hW1 a0 a1 a2 b0 b1 b2
  have HIW : Hid (Ir W1 (.slice ua lx uc) x ∧ Ir W1 (.slice va ly vc) y) := ⟨HI.out.1.later (HH.out.2.2.trans (HBW1.out.mono HH.out.2.2.size)), HI.out.2.later (HH.out.2.2.trans (HBW1.out.mono HH.out.2.2.size))⟩
  have ku := rup HIW.out.1 k (by have := HN.out.1; omega) (by omega)
  go_wp2_with fail
  refine ku.mono ?_
  rintro r w4 ⟨vu, rfl, hIu, hb4⟩
  have HB4 : Hid (Below W.heap.size W w4) := HBW1.out.trans (hb4.mono HBW1.out.size)
  have hl : dlen (x * 2 ^ k) ≤ 25000 := by
    have := shl_len (x := x) (k := k) rfl
    have := HN.out.1
    omega
  have kd := rdivide hIu (HIW.out.2.later hb4) (Nat.mul_ne_zero HN.out.1.1 (by have := Nat.two_pow_pos k; omega)) HN.out.1.2.1 (by omega) (by have := HN.out.1; omega)
  have HO : Hid (Ir w4 vu (x * 2 ^ k)) := hIu
  clear ku hIu hb4
  go_wp2_with fail
  refine kd.mono ?_
  rintro r w5 ⟨vq, vr, rfl, hIq, hIr, hb5⟩
  have HB5 : Hid (Below W.heap.size W w5) := HB4.out.trans (hb5.mono HB4.out.size)
  obtain ⟨⟨a0, a1, a2⟩, -⟩ := box_cells29 (box_later HH.out.1.1 HB5.out (by have := HH.out.2.1; omega))
  obtain ⟨⟨b0, b1, b2⟩, -⟩ := box_cells29 (box_later HH.out.1.2.1 HB5.out (by have := HH.out.2.1; omega))
  obtain ⟨rr, rcap, rfl, hrc, hrA⟩ := hIr
  have hql : dlen ((x * 2 ^ k) / (y)) ≤ 30000 := Nat.le_trans (dlen_mono (Nat.div_le_self _ _)) (by omega)
  have kn := rnorm (neg := true) (e := -place) hIq (by omega) (by omega)
  have HQL : Hid (dlen ((x * 2 ^ k) / (y)) ≤ 30000) := hql
  have hrl : ((dlen ((x * 2 ^ k) % (y)) : Int) == 0) = false := len_ne (n := 0) HN.out.2
  clear kd hIq hb5 hrA hql hl
  generalize hdr : dlen ((x * 2 ^ k) % (y)) = lr at *
  go_wp2_with fail
  refine kn.mono ?_
  rintro r w6 ⟨A, rfl, hN6, hb6⟩
  obtain ⟨s6, ao6, n6, cap6, ex6, rfl⟩ := hN6.shape
  have HB6 : Hid (Below W.heap.size W w6) := HB5.out.trans (hb6.mono HB5.out.size)
  have HN6 : Hid (NC w6 w5.heap.size (.agg #[.bool s6, .slice ao6 n6 cap6, .int .i64 ex6]) true ((x * 2 ^ k) / (y)) (-place)) := hN6
  obtain ⟨w7, hw7⟩ : ∃ w7, w7 = w6.alloc (.cells #[.bool s6, .slice ao6 n6 cap6, .int .i64 ex6] 45) := ⟨_, rfl⟩
  have hB67 : Below w6.heap.size w6 w7 := by rw [hw7]; exact (Below.refl _ _).alloc (Nat.le_refl _) _
  have HB7 : Hid (Below W.heap.size W w7) := HB6.out.trans (hB67.mono HB6.out.size)
  have hbox : w7.heap[w6.heap.size]? = some (.cells #[.bool s6, .slice ao6 n6 cap6, .int .i64 ex6] 45 (0, 0)) := by rw [hw7]; exact heap_alloc_new _ _
  have HBX : Hid (w7.heap[w6.heap.size]? = some (.cells #[.bool s6, .slice ao6 n6 cap6, .int .i64 ex6] 45 (0, 0)) ∧ Below w6.heap.size w6 w7) := ⟨hbox, hB67⟩
  have hres := box_later HH.out.1.2.2 HB7.out (by have := HH.out.2.1; omega)
  have HRES : Hid (w7.heap[w.heap.size + 1 + 1]? = some (.cells #[.bool false, .slice none 0 0, .int .i64 0] 45 (0, 0))) := hres
  obtain ⟨⟨c0, c1, c2⟩, c3, c4, c5⟩ := box_cells29 hres
  obtain ⟨⟨d0, d1, d2⟩, d3, d4, d5⟩ := box_cells29 hbox
  clear kn hN6 hb6 hbox hres hB67 a0 a1 a2 b0 b1 b2
  rw [hw7] at c0 c1 c2 c3 c4 c5 d0 d1 d2 d3 d4 d5
  have HK : Hid (∀ w', Below w7.heap.size w7 w' → (w'.cell? ⟨w6.heap.size, 0, none⟩ = some (.bool s6) ∧ w'.cell? ⟨w6.heap.size, 1, none⟩ = some (.slice ao6 n6 cap6) ∧ w'.cell? ⟨w6.heap.size, 2, none⟩ = some (.int .i64 ex6))) := fun w' hb => (box_cells29 (box_later HBX.out.1 hb (by have := HBX.out.1; exact (Array.getElem?_eq_some_iff.1 this).1))).1
  have kO : ∀ w8, Below w7.heap.size w7 w8 → Calls Tryz.prog 142 #[.int .i64 place] w8 fun r w' => ∃ g, r = .returned (.agg #[.bool false, .slice (some ⟨g, 0, none⟩) 1 1, .int .i64 (-place)]) ∧ Hid (At w' (some ⟨g, 0, none⟩) 1 1) ∧ Below w7.heap.size w7 w' ∧ (w'.cell? ⟨w6.heap.size, 0, none⟩ = some (.bool s6) ∧ w'.cell? ⟨w6.heap.size, 1, none⟩ = some (.slice ao6 n6 cap6) ∧ w'.cell? ⟨w6.heap.size, 2, none⟩ = some (.int .i64 ex6)) := fun w8 hb => (rone place w8 (by omega) (by omega)).mono fun r w' ⟨g, e1, e2, e3, e4⟩ => ⟨g, e1, e3, hb.trans (e4.mono hb.size), HK.out w' (hb.trans (e4.mono hb.size))⟩
  have kL : ∀ g w9, Hid (At w9 (some ⟨g, 0, none⟩) 1 1) → Below w7.heap.size w7 w9 → Calls Tryz.prog 27 #[.agg #[.bool s6, .slice ao6 n6 cap6, .int .i64 ex6], .agg #[.bool false, .slice (some ⟨g, 0, none⟩) 1 1, .int .i64 (-place)]] w9 fun r w' => ∃ s ao n cap ex, r = .returned (.agg #[.bool s, .slice ao n cap, .int .i64 ex]) ∧ Hid (NC w' w7.heap.size (.agg #[.bool s, .slice ao n cap, .int .i64 ex]) true ((x * 2 ^ k) / (y) + 1) (-place)) ∧ Below w7.heap.size w7 w' ∧ Hid (w'.heap[w6.heap.size]? = some (.cells #[.bool s6, .slice ao6 n6 cap6, .int .i64 ex6] 45 (0, 0))) ∧ (w'.cell? ⟨w6.heap.size, 0, none⟩ = some (.bool s6) ∧ w'.cell? ⟨w6.heap.size, 1, none⟩ = some (.slice ao6 n6 cap6) ∧ w'.cell? ⟨w6.heap.size, 2, none⟩ = some (.int .i64 ex6)) ∧ (w'.frozen? ⟨w6.heap.size, 0, none⟩ = false ∧ w'.frozen? ⟨w6.heap.size, 1, none⟩ = false ∧ w'.frozen? ⟨w6.heap.size, 2, none⟩ = false) := by
    intro g w9 hA hb
    refine (rless_nc ((HN6.out.later HBX.out.2).later hb) hA.out (Nat.le_refl _) (by omega) (by omega) HQL.out).mono ?_
    rintro r w10 ⟨A, rfl, hN, hb10⟩
    obtain ⟨s, ao, n, cap, ex, rfl⟩ := hN.shape
    have hbb := hb.trans (hb10.mono hb.size)
    have hblk := box_later HBX.out.1 hbb (by have := HBX.out.1; exact (Array.getElem?_eq_some_iff.1 this).1)
    obtain ⟨f1, f2⟩ := box_cells29 hblk
    exact ⟨s, ao, n, cap, ex, rfl, hN.mono hb.size, hbb, hblk, f1, f2⟩
  have hBR : Below w7.heap.size w7 w7.drew := (Below.refl _ _).drew
  have e0 : w7.cell? ⟨w6.heap.size, 0, none⟩ = some (.bool s6) ∧ w7.cell? ⟨w6.heap.size, 1, none⟩ = some (.slice ao6 n6 cap6) ∧ w7.cell? ⟨w6.heap.size, 2, none⟩ = some (.int .i64 ex6) := HK.out w7 (Below.refl _ _)
  go_upto_region 14 with fail
  rw [← hw7]
  clear hw7 c0 c1 c2 c3 c4 c5 d0 d1 d2 d3 d4 d5
  obtain ⟨d0, d1, d2⟩ := e0
  go_cut [64] from 61 to 64 (fun v wx => ∃ s ao n cap ex, v = .agg #[.bool s, .slice ao n cap, .int .i64 ex] ∧ Hid (NC wx w7.heap.size (.agg #[.bool s, .slice ao n cap, .int .i64 ex]) true ((x * 2 ^ k) / (y) + 1) (-place)) ∧ Hid (wx.heap[w6.heap.size]? = some (.cells #[.bool s, .slice ao n cap, .int .i64 ex] 45 (0, 0))) ∧ Hid (Below w6.heap.size w7 wx))
  case first =>
    go_region_with (first | (go_at_call 142; refine (kO _ (by first | (with_reducible assumption) | exact hBR | exact Below.refl _ _)).mono ?_; rintro r w8 ⟨g8, rfl, hA8, hb8, ⟨y1, y2, y3⟩⟩) | (go_at_call 27; refine (kL _ _ hA8 (by with_reducible assumption)).mono ?_; rintro r w9 ⟨s9, ao9, n9, cap9, ex9, rfl, hN9, hb9, hblk9, ⟨x1, x2, x3⟩, x4, x5, x6⟩))
    all_goals go_wp2_with fail
    all_goals go_meet
    all_goals exact ⟨s9, ao9, n9, cap9, ex9, rfl, hN9.out.store (Array.getElem?_eq_some_iff.1 HBX.out.1).1 _ _ _, store3_29 _ _ _ hblk9.out, below_store3 (hb9.mono HBX.out.2.size) (Nat.le_refl _) _ _ _⟩
  case rest =>
    obtain ⟨s9, ao9, n9, cap9, ex9, rfl, hN9, hB9, hL9⟩ := hcut
    obtain ⟨wx, rfl⟩ : ∃ wx : World, wx = wc := ⟨_, rfl⟩
    have q1 := HH.out.2.1
    have q2 := HB6.out.size
    have q3 := HB7.out.size
    have HBx : Hid (Below W.heap.size W wx) := HB7.out.trans (hL9.out.mono HB6.out.size)
    have hres := box_later HH.out.1.2.2 HBx.out (by omega)
    have HRES2 : Hid (wx.heap[w.heap.size + 1 + 1]? = some (.cells #[.bool false, .slice none 0 0, .int .i64 0] 45 (0, 0))) := hres
    obtain ⟨⟨c0, c1, c2⟩, c3, c4, c5⟩ := box_cells29 hres
    clear d0 d1 d2
    obtain ⟨⟨d0, d1, d2⟩, d3, d4, d5⟩ := box_cells29 hB9.out
    clear kO kL hBR hres
    go_wp2
    refine bodyPost_ret (results_cell_tmp_row rfl _ _ (w.heap.size + 1 + 1) 45 #[.bool s9, .slice ao9 n9 cap9, .int .i64 ex9] (0, 0) _ rfl (store3_29 _ _ _ HRES2.out) Tryz.underlying45 rfl Tryz.info45) rfl ?_
    exact ⟨_, rfl, (hN9.out.store (by omega) _ _ _).mono (by omega), below_store3 (HH.out.2.2.trans (HBx.out.mono HH.out.2.2.size)) (by omega) _ _ _⟩
set_option maxHeartbeats 4000000 in
set_option maxRecDepth 200000 in
theorem rover_be (na nb : Bool) (ua va : Option Addr) (uc vc x y k : Nat) (ea eb place : Int) (w : World) (sg : Bool) (hsg : (!(na == nb)) = sg) (h1 : At w ua (dlen x) x) (hu : dlen x ≤ uc) (h2 : At w va (dlen y) y) (hv : dlen y ≤ vc) (hx0 : x ≠ 0) (hy0 : y ≠ 0) (hx : dlen x ≤ 3000) (hy : dlen y ≤ 3000)
    (he1 : -200000 ≤ ea) (he2 : ea ≤ 200000) (he3 : -200000 ≤ eb) (he4 : eb ≤ 200000) (hp1 : -200000 ≤ place) (hp2 : place ≤ 200000) (hk : ea - eb + place = -(k : Int)) (hk1 : 0 < k) (hk2 : k ≤ 600000) (hr : (x) % (y * 2 ^ k) = 0) :
    Calls Tryz.prog 127 #[.agg #[.bool na, .slice ua (dlen x) uc, .int .i64 ea], .agg #[.bool nb, .slice va (dlen y) vc, .int .i64 eb], .int .i64 place] w fun r w' => ∃ A, r = .returned (.tuple #[A, .bool true]) ∧ NC w' w.heap.size A sg ((x) / (y * 2 ^ k)) (-place) ∧ Below w.heap.size w w' := by
  obtain ⟨W, hW⟩ : ∃ W, W = ((w.alloc (.cells #[.bool na, .slice ua (dlen x) uc, .int .i64 ea] 45)).alloc (.cells #[.bool nb, .slice va (dlen y) vc, .int .i64 eb] 45)).alloc (.cells #[.bool false, .slice none 0 0, .int .i64 0] 45) := ⟨_, rfl⟩
  obtain ⟨hA, hBb, hC, hsz, hBW⟩ := boxes3 _ _ _ hW
  have HH : Hid ((W.heap[w.heap.size]? = some (.cells #[.bool na, .slice ua (dlen x) uc, .int .i64 ea] 45 (0, 0)) ∧ W.heap[w.heap.size + 1]? = some (.cells #[.bool nb, .slice va (dlen y) vc, .int .i64 eb] 45 (0, 0)) ∧ W.heap[w.heap.size + 1 + 1]? = some (.cells #[.bool false, .slice none 0 0, .int .i64 0] 45 (0, 0))) ∧ W.heap.size = w.heap.size + 1 + 1 + 1 ∧ Below w.heap.size w W) := ⟨⟨hA, hBb, hC⟩, hsz, hBW⟩
  obtain ⟨⟨a0, a1, a2⟩, -⟩ := box_cells29 hA
  obtain ⟨⟨b0, b1, b2⟩, -⟩ := box_cells29 hBb
  have HI : Hid (Ir w (.slice ua (dlen x) uc) x ∧ Ir w (.slice va (dlen y) vc) y) := ⟨⟨ua, uc, rfl, hu, h1⟩, ⟨va, vc, rfl, hv, h2⟩⟩
  have HN : Hid ((x ≠ 0 ∧ y ≠ 0 ∧ dlen x ≤ 3000 ∧ dlen y ≤ 3000 ∧ k ≤ 600000) ∧ (x) % (y * 2 ^ k) = 0) := ⟨⟨hx0, hy0, hx, hy, hk2⟩, hr⟩
  have hxz : ((dlen x : Int) == 0) = false := len_ne (n := 0) hx0
  clear hA hBb hC hsz hBW h1 h2 hr
  generalize hdx : dlen x = lx at *
  generalize hdy : dlen y = ly at *
  rw [hW] at a0 a1 a2 b0 b1 b2
  go_enter Tryz.func127, Tryz.ntmps127
  go_wp2
  go_quiet (fail)
  rw [← hW]
  have HBW1 : Hid (Below W.heap.size W (W.drewN nq)) := (⟨rfl, rfl, rfl, Nat.le_refl _, fun _ _ => rfl⟩ : Below W.heap.size W (W.drewN nq))
  obtain ⟨W1, hW1⟩ : ∃ W1, W1 = W.drewN nq := ⟨_, rfl⟩
  rw [← hW1] at HBW1 ⊢
  clear hW hW1 a0 a1 a2 b0 b1 b2
  have HIW : Hid (Ir W1 (.slice ua lx uc) x ∧ Ir W1 (.slice va ly vc) y) := ⟨HI.out.1.later (HH.out.2.2.trans (HBW1.out.mono HH.out.2.2.size)), HI.out.2.later (HH.out.2.2.trans (HBW1.out.mono HH.out.2.2.size))⟩
  have ku := rup HIW.out.2 k (by have := HN.out.1; omega) (by omega)
  go_wp2_with fail
  refine ku.mono ?_
  rintro r w4 ⟨vu, rfl, hIu, hb4⟩
  have HB4 : Hid (Below W.heap.size W w4) := HBW1.out.trans (hb4.mono HBW1.out.size)
  have hl : dlen (y * 2 ^ k) ≤ 25000 := by
    have := shl_len (x := y) (k := k) rfl
    have := HN.out.1
    omega
  have kd := rdivide (HIW.out.1.later hb4) hIu HN.out.1.1 (Nat.mul_ne_zero HN.out.1.2.1 (by have := Nat.two_pow_pos k; omega)) (by have := HN.out.1; omega) (by omega)
  have HO : Hid (Ir w4 vu (y * 2 ^ k)) := hIu
  clear ku hIu hb4
  go_wp2_with fail
  refine kd.mono ?_
  rintro r w5 ⟨vq, vr, rfl, hIq, hIr, hb5⟩
  have HB5 : Hid (Below W.heap.size W w5) := HB4.out.trans (hb5.mono HB4.out.size)
  obtain ⟨⟨a0, a1, a2⟩, -⟩ := box_cells29 (box_later HH.out.1.1 HB5.out (by have := HH.out.2.1; omega))
  obtain ⟨⟨b0, b1, b2⟩, -⟩ := box_cells29 (box_later HH.out.1.2.1 HB5.out (by have := HH.out.2.1; omega))
  obtain ⟨rr, rcap, rfl, hrc, hrA⟩ := hIr
  have hql : dlen ((x) / (y * 2 ^ k)) ≤ 30000 := Nat.le_trans (dlen_mono (Nat.div_le_self _ _)) (by have := HN.out.1; omega)
  have kn := rnorm (neg := sg) (e := -place) hIq (by omega) (by omega)
  have HQL : Hid (dlen ((x) / (y * 2 ^ k)) ≤ 30000) := hql
  have hrl : ((dlen ((x) % (y * 2 ^ k)) : Int) == 0) = true := by rw [show (x) % (y * 2 ^ k) = 0 from HN.out.2, dlen_zero]; rfl
  clear kd hIq hb5 hrA hql hl
  generalize hdr : dlen ((x) % (y * 2 ^ k)) = lr at *
  go_wp2_with fail
  refine kn.mono ?_
  rintro r w6 ⟨A, rfl, hN6, hb6⟩
  obtain ⟨s6, ao6, n6, cap6, ex6, rfl⟩ := hN6.shape
  have HB6 : Hid (Below W.heap.size W w6) := HB5.out.trans (hb6.mono HB5.out.size)
  have HN6 : Hid (NC w6 w5.heap.size (.agg #[.bool s6, .slice ao6 n6 cap6, .int .i64 ex6]) sg ((x) / (y * 2 ^ k)) (-place)) := hN6
  obtain ⟨w7, hw7⟩ : ∃ w7, w7 = w6.alloc (.cells #[.bool s6, .slice ao6 n6 cap6, .int .i64 ex6] 45) := ⟨_, rfl⟩
  have hB67 : Below w6.heap.size w6 w7 := by rw [hw7]; exact (Below.refl _ _).alloc (Nat.le_refl _) _
  have HB7 : Hid (Below W.heap.size W w7) := HB6.out.trans (hB67.mono HB6.out.size)
  have hbox : w7.heap[w6.heap.size]? = some (.cells #[.bool s6, .slice ao6 n6 cap6, .int .i64 ex6] 45 (0, 0)) := by rw [hw7]; exact heap_alloc_new _ _
  have HBX : Hid (w7.heap[w6.heap.size]? = some (.cells #[.bool s6, .slice ao6 n6 cap6, .int .i64 ex6] 45 (0, 0)) ∧ Below w6.heap.size w6 w7) := ⟨hbox, hB67⟩
  have hres := box_later HH.out.1.2.2 HB7.out (by have := HH.out.2.1; omega)
  have HRES : Hid (w7.heap[w.heap.size + 1 + 1]? = some (.cells #[.bool false, .slice none 0 0, .int .i64 0] 45 (0, 0))) := hres
  obtain ⟨⟨c0, c1, c2⟩, c3, c4, c5⟩ := box_cells29 hres
  obtain ⟨⟨d0, d1, d2⟩, d3, d4, d5⟩ := box_cells29 hbox
  clear kn hN6 hb6 hbox hres hB67 a0 a1 a2 b0 b1 b2
  rw [hw7] at c0 c1 c2 c3 c4 c5 d0 d1 d2 d3 d4 d5
  go_wp2
  rw [← hw7]
  refine bodyPost_ret (results_cell_tmp_row rfl _ _ (w.heap.size + 1 + 1) 45 #[.bool s6, .slice ao6 n6 cap6, .int .i64 ex6] (0, 0) _ rfl (store3_29 _ _ _ HRES.out) Tryz.underlying45 rfl Tryz.info45) rfl ?_
  have q1 := HH.out.2.1
  have q2 := HB5.out.size
  exact ⟨_, rfl, ((HN6.out.later HBX.out.2).store (by omega) _ _ _).mono (by omega), below_store3 (HH.out.2.2.trans (HB7.out.mono HH.out.2.2.size)) (by omega) _ _ _⟩
set_option maxHeartbeats 4000000 in
set_option maxRecDepth 200000 in
theorem rover_brp (na nb : Bool) (ua va : Option Addr) (uc vc x y k : Nat) (ea eb place : Int) (w : World) (hsg : (!(na == nb)) = false) (h1 : At w ua (dlen x) x) (hu : dlen x ≤ uc) (h2 : At w va (dlen y) y) (hv : dlen y ≤ vc) (hx0 : x ≠ 0) (hy0 : y ≠ 0) (hx : dlen x ≤ 3000) (hy : dlen y ≤ 3000)
    (he1 : -200000 ≤ ea) (he2 : ea ≤ 200000) (he3 : -200000 ≤ eb) (he4 : eb ≤ 200000) (hp1 : -200000 ≤ place) (hp2 : place ≤ 200000) (hk : ea - eb + place = -(k : Int)) (hk1 : 0 < k) (hk2 : k ≤ 600000) (hr : ¬ (x) % (y * 2 ^ k) = 0) :
    Calls Tryz.prog 127 #[.agg #[.bool na, .slice ua (dlen x) uc, .int .i64 ea], .agg #[.bool nb, .slice va (dlen y) vc, .int .i64 eb], .int .i64 place] w fun r w' => ∃ A, r = .returned (.tuple #[A, .bool false]) ∧ NC w' w.heap.size A false ((x) / (y * 2 ^ k)) (-place) ∧ Below w.heap.size w w' := by
  obtain ⟨W, hW⟩ : ∃ W, W = ((w.alloc (.cells #[.bool na, .slice ua (dlen x) uc, .int .i64 ea] 45)).alloc (.cells #[.bool nb, .slice va (dlen y) vc, .int .i64 eb] 45)).alloc (.cells #[.bool false, .slice none 0 0, .int .i64 0] 45) := ⟨_, rfl⟩
  obtain ⟨hA, hBb, hC, hsz, hBW⟩ := boxes3 _ _ _ hW
  have HH : Hid ((W.heap[w.heap.size]? = some (.cells #[.bool na, .slice ua (dlen x) uc, .int .i64 ea] 45 (0, 0)) ∧ W.heap[w.heap.size + 1]? = some (.cells #[.bool nb, .slice va (dlen y) vc, .int .i64 eb] 45 (0, 0)) ∧ W.heap[w.heap.size + 1 + 1]? = some (.cells #[.bool false, .slice none 0 0, .int .i64 0] 45 (0, 0))) ∧ W.heap.size = w.heap.size + 1 + 1 + 1 ∧ Below w.heap.size w W) := ⟨⟨hA, hBb, hC⟩, hsz, hBW⟩
  obtain ⟨⟨a0, a1, a2⟩, -⟩ := box_cells29 hA
  obtain ⟨⟨b0, b1, b2⟩, -⟩ := box_cells29 hBb
  have HI : Hid (Ir w (.slice ua (dlen x) uc) x ∧ Ir w (.slice va (dlen y) vc) y) := ⟨⟨ua, uc, rfl, hu, h1⟩, ⟨va, vc, rfl, hv, h2⟩⟩
  have HN : Hid ((x ≠ 0 ∧ y ≠ 0 ∧ dlen x ≤ 3000 ∧ dlen y ≤ 3000 ∧ k ≤ 600000) ∧ ¬ (x) % (y * 2 ^ k) = 0) := ⟨⟨hx0, hy0, hx, hy, hk2⟩, hr⟩
  have hxz : ((dlen x : Int) == 0) = false := len_ne (n := 0) hx0
  clear hA hBb hC hsz hBW h1 h2 hr
  generalize hdx : dlen x = lx at *
  generalize hdy : dlen y = ly at *
  rw [hW] at a0 a1 a2 b0 b1 b2
  go_enter Tryz.func127, Tryz.ntmps127
  go_wp2
  go_quiet (fail)
  rw [← hW]
  have HBW1 : Hid (Below W.heap.size W (W.drewN nq)) := (⟨rfl, rfl, rfl, Nat.le_refl _, fun _ _ => rfl⟩ : Below W.heap.size W (W.drewN nq))
  obtain ⟨W1, hW1⟩ : ∃ W1, W1 = W.drewN nq := ⟨_, rfl⟩
  rw [← hW1] at HBW1 ⊢
  clear hW hW1 a0 a1 a2 b0 b1 b2
  have HIW : Hid (Ir W1 (.slice ua lx uc) x ∧ Ir W1 (.slice va ly vc) y) := ⟨HI.out.1.later (HH.out.2.2.trans (HBW1.out.mono HH.out.2.2.size)), HI.out.2.later (HH.out.2.2.trans (HBW1.out.mono HH.out.2.2.size))⟩
  have ku := rup HIW.out.2 k (by have := HN.out.1; omega) (by omega)
  go_wp2_with fail
  refine ku.mono ?_
  rintro r w4 ⟨vu, rfl, hIu, hb4⟩
  have HB4 : Hid (Below W.heap.size W w4) := HBW1.out.trans (hb4.mono HBW1.out.size)
  have hl : dlen (y * 2 ^ k) ≤ 25000 := by
    have := shl_len (x := y) (k := k) rfl
    have := HN.out.1
    omega
  have kd := rdivide (HIW.out.1.later hb4) hIu HN.out.1.1 (Nat.mul_ne_zero HN.out.1.2.1 (by have := Nat.two_pow_pos k; omega)) (by have := HN.out.1; omega) (by omega)
  have HO : Hid (Ir w4 vu (y * 2 ^ k)) := hIu
  clear ku hIu hb4
  go_wp2_with fail
  refine kd.mono ?_
  rintro r w5 ⟨vq, vr, rfl, hIq, hIr, hb5⟩
  have HB5 : Hid (Below W.heap.size W w5) := HB4.out.trans (hb5.mono HB4.out.size)
  obtain ⟨⟨a0, a1, a2⟩, -⟩ := box_cells29 (box_later HH.out.1.1 HB5.out (by have := HH.out.2.1; omega))
  obtain ⟨⟨b0, b1, b2⟩, -⟩ := box_cells29 (box_later HH.out.1.2.1 HB5.out (by have := HH.out.2.1; omega))
  obtain ⟨rr, rcap, rfl, hrc, hrA⟩ := hIr
  have hql : dlen ((x) / (y * 2 ^ k)) ≤ 30000 := Nat.le_trans (dlen_mono (Nat.div_le_self _ _)) (by have := HN.out.1; omega)
  have kn := rnorm (neg := false) (e := -place) hIq (by omega) (by omega)
  have HQL : Hid (dlen ((x) / (y * 2 ^ k)) ≤ 30000) := hql
  have hrl : ((dlen ((x) % (y * 2 ^ k)) : Int) == 0) = false := len_ne (n := 0) HN.out.2
  clear kd hIq hb5 hrA hql hl
  generalize hdr : dlen ((x) % (y * 2 ^ k)) = lr at *
  go_wp2_with fail
  refine kn.mono ?_
  rintro r w6 ⟨A, rfl, hN6, hb6⟩
  obtain ⟨s6, ao6, n6, cap6, ex6, rfl⟩ := hN6.shape
  have HB6 : Hid (Below W.heap.size W w6) := HB5.out.trans (hb6.mono HB5.out.size)
  have HN6 : Hid (NC w6 w5.heap.size (.agg #[.bool s6, .slice ao6 n6 cap6, .int .i64 ex6]) false ((x) / (y * 2 ^ k)) (-place)) := hN6
  obtain ⟨w7, hw7⟩ : ∃ w7, w7 = w6.alloc (.cells #[.bool s6, .slice ao6 n6 cap6, .int .i64 ex6] 45) := ⟨_, rfl⟩
  have hB67 : Below w6.heap.size w6 w7 := by rw [hw7]; exact (Below.refl _ _).alloc (Nat.le_refl _) _
  have HB7 : Hid (Below W.heap.size W w7) := HB6.out.trans (hB67.mono HB6.out.size)
  have hbox : w7.heap[w6.heap.size]? = some (.cells #[.bool s6, .slice ao6 n6 cap6, .int .i64 ex6] 45 (0, 0)) := by rw [hw7]; exact heap_alloc_new _ _
  have HBX : Hid (w7.heap[w6.heap.size]? = some (.cells #[.bool s6, .slice ao6 n6 cap6, .int .i64 ex6] 45 (0, 0)) ∧ Below w6.heap.size w6 w7) := ⟨hbox, hB67⟩
  have hres := box_later HH.out.1.2.2 HB7.out (by have := HH.out.2.1; omega)
  have HRES : Hid (w7.heap[w.heap.size + 1 + 1]? = some (.cells #[.bool false, .slice none 0 0, .int .i64 0] 45 (0, 0))) := hres
  obtain ⟨⟨c0, c1, c2⟩, c3, c4, c5⟩ := box_cells29 hres
  obtain ⟨⟨d0, d1, d2⟩, d3, d4, d5⟩ := box_cells29 hbox
  clear kn hN6 hb6 hbox hres hB67 a0 a1 a2 b0 b1 b2
  rw [hw7] at c0 c1 c2 c3 c4 c5 d0 d1 d2 d3 d4 d5
  go_wp2
  rw [← hw7]
  refine bodyPost_ret (results_cell_tmp_row rfl _ _ (w.heap.size + 1 + 1) 45 #[.bool s6, .slice ao6 n6 cap6, .int .i64 ex6] (0, 0) _ rfl (store3_29 _ _ _ HRES.out) Tryz.underlying45 rfl Tryz.info45) rfl ?_
  have q1 := HH.out.2.1
  have q2 := HB5.out.size
  exact ⟨_, rfl, ((HN6.out.later HBX.out.2).store (by omega) _ _ _).mono (by omega), below_store3 (HH.out.2.2.trans (HB7.out.mono HH.out.2.2.size)) (by omega) _ _ _⟩
set_option maxHeartbeats 4000000 in
set_option maxRecDepth 200000 in
theorem rover_brn (na nb : Bool) (ua va : Option Addr) (uc vc x y k : Nat) (ea eb place : Int) (w : World) (hsg : (!(na == nb)) = true) (h1 : At w ua (dlen x) x) (hu : dlen x ≤ uc) (h2 : At w va (dlen y) y) (hv : dlen y ≤ vc) (hx0 : x ≠ 0) (hy0 : y ≠ 0) (hx : dlen x ≤ 3000) (hy : dlen y ≤ 3000)
    (he1 : -200000 ≤ ea) (he2 : ea ≤ 200000) (he3 : -200000 ≤ eb) (he4 : eb ≤ 200000) (hp1 : -200000 ≤ place) (hp2 : place ≤ 200000) (hk : ea - eb + place = -(k : Int)) (hk1 : 0 < k) (hk2 : k ≤ 600000) (hr : ¬ (x) % (y * 2 ^ k) = 0) :
    Calls Tryz.prog 127 #[.agg #[.bool na, .slice ua (dlen x) uc, .int .i64 ea], .agg #[.bool nb, .slice va (dlen y) vc, .int .i64 eb], .int .i64 place] w fun r w' => ∃ A, r = .returned (.tuple #[A, .bool false]) ∧ NC w' w.heap.size A true ((x) / (y * 2 ^ k) + 1) (-place) ∧ Below w.heap.size w w' := by
  obtain ⟨W, hW⟩ : ∃ W, W = ((w.alloc (.cells #[.bool na, .slice ua (dlen x) uc, .int .i64 ea] 45)).alloc (.cells #[.bool nb, .slice va (dlen y) vc, .int .i64 eb] 45)).alloc (.cells #[.bool false, .slice none 0 0, .int .i64 0] 45) := ⟨_, rfl⟩
  obtain ⟨hA, hBb, hC, hsz, hBW⟩ := boxes3 _ _ _ hW
  have HH : Hid ((W.heap[w.heap.size]? = some (.cells #[.bool na, .slice ua (dlen x) uc, .int .i64 ea] 45 (0, 0)) ∧ W.heap[w.heap.size + 1]? = some (.cells #[.bool nb, .slice va (dlen y) vc, .int .i64 eb] 45 (0, 0)) ∧ W.heap[w.heap.size + 1 + 1]? = some (.cells #[.bool false, .slice none 0 0, .int .i64 0] 45 (0, 0))) ∧ W.heap.size = w.heap.size + 1 + 1 + 1 ∧ Below w.heap.size w W) := ⟨⟨hA, hBb, hC⟩, hsz, hBW⟩
  obtain ⟨⟨a0, a1, a2⟩, -⟩ := box_cells29 hA
  obtain ⟨⟨b0, b1, b2⟩, -⟩ := box_cells29 hBb
  have HI : Hid (Ir w (.slice ua (dlen x) uc) x ∧ Ir w (.slice va (dlen y) vc) y) := ⟨⟨ua, uc, rfl, hu, h1⟩, ⟨va, vc, rfl, hv, h2⟩⟩
  have HN : Hid ((x ≠ 0 ∧ y ≠ 0 ∧ dlen x ≤ 3000 ∧ dlen y ≤ 3000 ∧ k ≤ 600000) ∧ ¬ (x) % (y * 2 ^ k) = 0) := ⟨⟨hx0, hy0, hx, hy, hk2⟩, hr⟩
  have hxz : ((dlen x : Int) == 0) = false := len_ne (n := 0) hx0
  clear hA hBb hC hsz hBW h1 h2 hr
  generalize hdx : dlen x = lx at *
  generalize hdy : dlen y = ly at *
  rw [hW] at a0 a1 a2 b0 b1 b2
  go_enter Tryz.func127, Tryz.ntmps127
  go_wp2
  go_quiet (fail)
  rw [← hW]
  have HBW1 : Hid (Below W.heap.size W (W.drewN nq)) := (⟨rfl, rfl, rfl, Nat.le_refl _, fun _ _ => rfl⟩ : Below W.heap.size W (W.drewN nq))
  obtain ⟨W1, hW1⟩ : ∃ W1, W1 = W.drewN nq := ⟨_, rfl⟩
  rw [← hW1] at HBW1 ⊢
  clear hW hW1 a0 a1 a2 b0 b1 b2
  have HIW : Hid (Ir W1 (.slice ua lx uc) x ∧ Ir W1 (.slice va ly vc) y) := ⟨HI.out.1.later (HH.out.2.2.trans (HBW1.out.mono HH.out.2.2.size)), HI.out.2.later (HH.out.2.2.trans (HBW1.out.mono HH.out.2.2.size))⟩
  have ku := rup HIW.out.2 k (by have := HN.out.1; omega) (by omega)
  go_wp2_with fail
  refine ku.mono ?_
  rintro r w4 ⟨vu, rfl, hIu, hb4⟩
  have HB4 : Hid (Below W.heap.size W w4) := HBW1.out.trans (hb4.mono HBW1.out.size)
  have hl : dlen (y * 2 ^ k) ≤ 25000 := by
    have := shl_len (x := y) (k := k) rfl
    have := HN.out.1
    omega
  have kd := rdivide (HIW.out.1.later hb4) hIu HN.out.1.1 (Nat.mul_ne_zero HN.out.1.2.1 (by have := Nat.two_pow_pos k; omega)) (by have := HN.out.1; omega) (by omega)
  have HO : Hid (Ir w4 vu (y * 2 ^ k)) := hIu
  clear ku hIu hb4
  go_wp2_with fail
  refine kd.mono ?_
  rintro r w5 ⟨vq, vr, rfl, hIq, hIr, hb5⟩
  have HB5 : Hid (Below W.heap.size W w5) := HB4.out.trans (hb5.mono HB4.out.size)
  obtain ⟨⟨a0, a1, a2⟩, -⟩ := box_cells29 (box_later HH.out.1.1 HB5.out (by have := HH.out.2.1; omega))
  obtain ⟨⟨b0, b1, b2⟩, -⟩ := box_cells29 (box_later HH.out.1.2.1 HB5.out (by have := HH.out.2.1; omega))
  obtain ⟨rr, rcap, rfl, hrc, hrA⟩ := hIr
  have hql : dlen ((x) / (y * 2 ^ k)) ≤ 30000 := Nat.le_trans (dlen_mono (Nat.div_le_self _ _)) (by have := HN.out.1; omega)
  have kn := rnorm (neg := true) (e := -place) hIq (by omega) (by omega)
  have HQL : Hid (dlen ((x) / (y * 2 ^ k)) ≤ 30000) := hql
  have hrl : ((dlen ((x) % (y * 2 ^ k)) : Int) == 0) = false := len_ne (n := 0) HN.out.2
  clear kd hIq hb5 hrA hql hl
  generalize hdr : dlen ((x) % (y * 2 ^ k)) = lr at *
  go_wp2_with fail
  refine kn.mono ?_
  rintro r w6 ⟨A, rfl, hN6, hb6⟩
  obtain ⟨s6, ao6, n6, cap6, ex6, rfl⟩ := hN6.shape
  have HB6 : Hid (Below W.heap.size W w6) := HB5.out.trans (hb6.mono HB5.out.size)
  have HN6 : Hid (NC w6 w5.heap.size (.agg #[.bool s6, .slice ao6 n6 cap6, .int .i64 ex6]) true ((x) / (y * 2 ^ k)) (-place)) := hN6
  obtain ⟨w7, hw7⟩ : ∃ w7, w7 = w6.alloc (.cells #[.bool s6, .slice ao6 n6 cap6, .int .i64 ex6] 45) := ⟨_, rfl⟩
  have hB67 : Below w6.heap.size w6 w7 := by rw [hw7]; exact (Below.refl _ _).alloc (Nat.le_refl _) _
  have HB7 : Hid (Below W.heap.size W w7) := HB6.out.trans (hB67.mono HB6.out.size)
  have hbox : w7.heap[w6.heap.size]? = some (.cells #[.bool s6, .slice ao6 n6 cap6, .int .i64 ex6] 45 (0, 0)) := by rw [hw7]; exact heap_alloc_new _ _
  have HBX : Hid (w7.heap[w6.heap.size]? = some (.cells #[.bool s6, .slice ao6 n6 cap6, .int .i64 ex6] 45 (0, 0)) ∧ Below w6.heap.size w6 w7) := ⟨hbox, hB67⟩
  have hres := box_later HH.out.1.2.2 HB7.out (by have := HH.out.2.1; omega)
  have HRES : Hid (w7.heap[w.heap.size + 1 + 1]? = some (.cells #[.bool false, .slice none 0 0, .int .i64 0] 45 (0, 0))) := hres
  obtain ⟨⟨c0, c1, c2⟩, c3, c4, c5⟩ := box_cells29 hres
  obtain ⟨⟨d0, d1, d2⟩, d3, d4, d5⟩ := box_cells29 hbox
  clear kn hN6 hb6 hbox hres hB67 a0 a1 a2 b0 b1 b2
  rw [hw7] at c0 c1 c2 c3 c4 c5 d0 d1 d2 d3 d4 d5
  have HK : Hid (∀ w', Below w7.heap.size w7 w' → (w'.cell? ⟨w6.heap.size, 0, none⟩ = some (.bool s6) ∧ w'.cell? ⟨w6.heap.size, 1, none⟩ = some (.slice ao6 n6 cap6) ∧ w'.cell? ⟨w6.heap.size, 2, none⟩ = some (.int .i64 ex6))) := fun w' hb => (box_cells29 (box_later HBX.out.1 hb (by have := HBX.out.1; exact (Array.getElem?_eq_some_iff.1 this).1))).1
  have kO : ∀ w8, Below w7.heap.size w7 w8 → Calls Tryz.prog 142 #[.int .i64 place] w8 fun r w' => ∃ g, r = .returned (.agg #[.bool false, .slice (some ⟨g, 0, none⟩) 1 1, .int .i64 (-place)]) ∧ Hid (At w' (some ⟨g, 0, none⟩) 1 1) ∧ Below w7.heap.size w7 w' ∧ (w'.cell? ⟨w6.heap.size, 0, none⟩ = some (.bool s6) ∧ w'.cell? ⟨w6.heap.size, 1, none⟩ = some (.slice ao6 n6 cap6) ∧ w'.cell? ⟨w6.heap.size, 2, none⟩ = some (.int .i64 ex6)) := fun w8 hb => (rone place w8 (by omega) (by omega)).mono fun r w' ⟨g, e1, e2, e3, e4⟩ => ⟨g, e1, e3, hb.trans (e4.mono hb.size), HK.out w' (hb.trans (e4.mono hb.size))⟩
  have kL : ∀ g w9, Hid (At w9 (some ⟨g, 0, none⟩) 1 1) → Below w7.heap.size w7 w9 → Calls Tryz.prog 27 #[.agg #[.bool s6, .slice ao6 n6 cap6, .int .i64 ex6], .agg #[.bool false, .slice (some ⟨g, 0, none⟩) 1 1, .int .i64 (-place)]] w9 fun r w' => ∃ s ao n cap ex, r = .returned (.agg #[.bool s, .slice ao n cap, .int .i64 ex]) ∧ Hid (NC w' w7.heap.size (.agg #[.bool s, .slice ao n cap, .int .i64 ex]) true ((x) / (y * 2 ^ k) + 1) (-place)) ∧ Below w7.heap.size w7 w' ∧ Hid (w'.heap[w6.heap.size]? = some (.cells #[.bool s6, .slice ao6 n6 cap6, .int .i64 ex6] 45 (0, 0))) ∧ (w'.cell? ⟨w6.heap.size, 0, none⟩ = some (.bool s6) ∧ w'.cell? ⟨w6.heap.size, 1, none⟩ = some (.slice ao6 n6 cap6) ∧ w'.cell? ⟨w6.heap.size, 2, none⟩ = some (.int .i64 ex6)) ∧ (w'.frozen? ⟨w6.heap.size, 0, none⟩ = false ∧ w'.frozen? ⟨w6.heap.size, 1, none⟩ = false ∧ w'.frozen? ⟨w6.heap.size, 2, none⟩ = false) := by
    intro g w9 hA hb
    refine (rless_nc ((HN6.out.later HBX.out.2).later hb) hA.out (Nat.le_refl _) (by omega) (by omega) HQL.out).mono ?_
    rintro r w10 ⟨A, rfl, hN, hb10⟩
    obtain ⟨s, ao, n, cap, ex, rfl⟩ := hN.shape
    have hbb := hb.trans (hb10.mono hb.size)
    have hblk := box_later HBX.out.1 hbb (by have := HBX.out.1; exact (Array.getElem?_eq_some_iff.1 this).1)
    obtain ⟨f1, f2⟩ := box_cells29 hblk
    exact ⟨s, ao, n, cap, ex, rfl, hN.mono hb.size, hbb, hblk, f1, f2⟩
  have hBR : Below w7.heap.size w7 w7.drew := (Below.refl _ _).drew
  have e0 : w7.cell? ⟨w6.heap.size, 0, none⟩ = some (.bool s6) ∧ w7.cell? ⟨w6.heap.size, 1, none⟩ = some (.slice ao6 n6 cap6) ∧ w7.cell? ⟨w6.heap.size, 2, none⟩ = some (.int .i64 ex6) := HK.out w7 (Below.refl _ _)
  go_upto_region 14 with fail
  rw [← hw7]
  clear hw7 c0 c1 c2 c3 c4 c5 d0 d1 d2 d3 d4 d5
  obtain ⟨d0, d1, d2⟩ := e0
  go_cut [64] from 61 to 64 (fun v wx => ∃ s ao n cap ex, v = .agg #[.bool s, .slice ao n cap, .int .i64 ex] ∧ Hid (NC wx w7.heap.size (.agg #[.bool s, .slice ao n cap, .int .i64 ex]) true ((x) / (y * 2 ^ k) + 1) (-place)) ∧ Hid (wx.heap[w6.heap.size]? = some (.cells #[.bool s, .slice ao n cap, .int .i64 ex] 45 (0, 0))) ∧ Hid (Below w6.heap.size w7 wx))
  case first =>
    go_region_with (first | (go_at_call 142; refine (kO _ (by first | (with_reducible assumption) | exact hBR | exact Below.refl _ _)).mono ?_; rintro r w8 ⟨g8, rfl, hA8, hb8, ⟨y1, y2, y3⟩⟩) | (go_at_call 27; refine (kL _ _ hA8 (by with_reducible assumption)).mono ?_; rintro r w9 ⟨s9, ao9, n9, cap9, ex9, rfl, hN9, hb9, hblk9, ⟨x1, x2, x3⟩, x4, x5, x6⟩))
    all_goals go_wp2_with fail
    all_goals go_meet
    all_goals exact ⟨s9, ao9, n9, cap9, ex9, rfl, hN9.out.store (Array.getElem?_eq_some_iff.1 HBX.out.1).1 _ _ _, store3_29 _ _ _ hblk9.out, below_store3 (hb9.mono HBX.out.2.size) (Nat.le_refl _) _ _ _⟩
  case rest =>
    obtain ⟨s9, ao9, n9, cap9, ex9, rfl, hN9, hB9, hL9⟩ := hcut
    obtain ⟨wx, rfl⟩ : ∃ wx : World, wx = wc := ⟨_, rfl⟩
    have q1 := HH.out.2.1
    have q2 := HB6.out.size
    have q3 := HB7.out.size
    have HBx : Hid (Below W.heap.size W wx) := HB7.out.trans (hL9.out.mono HB6.out.size)
    have hres := box_later HH.out.1.2.2 HBx.out (by omega)
    have HRES2 : Hid (wx.heap[w.heap.size + 1 + 1]? = some (.cells #[.bool false, .slice none 0 0, .int .i64 0] 45 (0, 0))) := hres
    obtain ⟨⟨c0, c1, c2⟩, c3, c4, c5⟩ := box_cells29 hres
    clear d0 d1 d2
    obtain ⟨⟨d0, d1, d2⟩, d3, d4, d5⟩ := box_cells29 hB9.out
    clear kO kL hBR hres
    go_wp2
    refine bodyPost_ret (results_cell_tmp_row rfl _ _ (w.heap.size + 1 + 1) 45 #[.bool s9, .slice ao9 n9 cap9, .int .i64 ex9] (0, 0) _ rfl (store3_29 _ _ _ HRES2.out) Tryz.underlying45 rfl Tryz.info45) rfl ?_
    exact ⟨_, rfl, (hN9.out.store (by omega) _ _ _).mono (by omega), below_store3 (HH.out.2.2.trans (HBx.out.mono HH.out.2.2.size)) (by omega) _ _ _⟩
end Go.Proofs.YtcoclopllbfjcaaGreatDoor
/- The document's Over, joined. -/
namespace Go.Proofs.YtcoclopllbfjcaaGreatDoor
set_option linter.unusedVariables false
set_option linter.unusedSimpArgs false
open Go.RowKit

set_option maxHeartbeats 4000000 in
set_option maxRecDepth 200000 in
theorem rover_0 (na nb : Bool) (ua va : Option Addr) (uc vn vc : Nat) (ea eb place : Int) (w : World) :
    Calls Tryz.prog 127 #[.agg #[.bool na, .slice ua 0 uc, .int .i64 ea], .agg #[.bool nb, .slice va vn vc, .int .i64 eb], .int .i64 place] w fun r w' => r = .returned (.tuple #[.agg #[.bool false, .slice none 0 0, .int .i64 0], .bool true]) ∧ Below w.heap.size w w' := by
  obtain ⟨W, hW⟩ : ∃ W, W = ((w.alloc (.cells #[.bool na, .slice ua 0 uc, .int .i64 ea] 45)).alloc (.cells #[.bool nb, .slice va vn vc, .int .i64 eb] 45)).alloc (.cells #[.bool false, .slice none 0 0, .int .i64 0] 45) := ⟨_, rfl⟩
  obtain ⟨hA, hBb, hC, hsz, hBW⟩ := boxes3 _ _ _ hW
  have HH : Hid (W.heap[w.heap.size + 1 + 1]? = some (.cells #[.bool false, .slice none 0 0, .int .i64 0] 45 (0, 0)) ∧ Below w.heap.size w W) := ⟨hC, hBW⟩
  obtain ⟨⟨a0, a1, a2⟩, -⟩ := box_cells29 hA
  obtain ⟨⟨c0, c1, c2⟩, c3, c4, c5⟩ := box_cells29 hC
  clear hA hBb hC hsz hBW
  rw [hW] at a0 a1 a2 c0 c1 c2 c3 c4 c5
  go_enter Tryz.func127, Tryz.ntmps127
  go_wp2
  rw [← hW]
  refine bodyPost_ret (results_cell_tmp_row rfl _ _ (w.heap.size + 1 + 1) 45 #[.bool false, .slice none 0 0, .int .i64 0] (0, 0) _ rfl HH.out.1 Tryz.underlying45 rfl Tryz.info45) rfl ?_
  exact ⟨rfl, HH.out.2⟩
/-- the dividend and the divisor, as whole numbers -/
def ovX (x : Nat) (ea eb place : Int) : Nat := x * 2 ^ (ea + place - min (ea + place) eb).toNat
def ovY (y : Nat) (ea eb place : Int) : Nat := y * 2 ^ (eb - min (ea + place) eb).toNat
theorem rover {na nb : Bool} {ua va : Option Addr} {uc vc x y : Nat} {ea eb place : Int} {w : World} (h1 : At w ua (dlen x) x) (hu : dlen x ≤ uc) (h2 : At w va (dlen y) y) (hv : dlen y ≤ vc) (hy0 : y ≠ 0) (hx : dlen x ≤ 3000) (hy : dlen y ≤ 3000)
    (ha : -200000 ≤ ea ∧ ea ≤ 200000) (hb : -200000 ≤ eb ∧ eb ≤ 200000) (hp : -200000 ≤ place ∧ place ≤ 200000) {X Y : Nat} (hX : ovX x ea eb place = X) (hY : ovY y ea eb place = Y) :
    Calls Tryz.prog 127 #[.agg #[.bool na, .slice ua (dlen x) uc, .int .i64 ea], .agg #[.bool nb, .slice va (dlen y) vc, .int .i64 eb], .int .i64 place] w fun r w' => ∃ A, r = .returned (.tuple #[A, .bool (decide (X % Y = 0))]) ∧ NC w' w.heap.size A (na != nb) (if (na != nb) && !(decide (X % Y = 0)) then X / Y + 1 else X / Y) (-place) ∧ Below w.heap.size w w' := by
  by_cases hx0 : x = 0
  · subst hx0
    have hX0 : X = 0 := by rw [← hX]; unfold ovX; rw [Nat.zero_mul]
    rw [dlen_zero, hX0, Nat.zero_mod, Nat.zero_div]
    refine (rover_0 na nb ua va uc _ vc ea eb place w).mono ?_
    rintro r w' ⟨rfl, hb'⟩
    refine ⟨_, rfl, ⟨none, 0, ?_, ?_, fun ad e => by cases e⟩, hb'⟩
    · simp [cn, dlen_zero]
    · simp only [decide_true, Bool.not_true, Bool.and_false, Bool.false_eq_true, if_false]
      unfold cn; rw [if_pos rfl]
      exact ⟨fun _ => .inr ⟨rfl, rfl⟩, ⟨0, 0, fun h => by rw [dlen_zero] at h; omega, fun i hi => by rw [dlen_zero] at hi; omega⟩, by rw [dlen_zero]; exact Nat.le_refl _, by rw [dlen_zero]; omega⟩
  · by_cases hs : 0 ≤ ea - eb + place
    · obtain ⟨k, hk⟩ : ∃ k : Nat, ea - eb + place = (k : Int) := ⟨(ea - eb + place).toNat, by omega⟩
      obtain rfl : x * 2 ^ k = X := by rw [← hX]; unfold ovX; rw [show (ea + place - min (ea + place) eb).toNat = k by omega]
      obtain rfl : y = Y := by rw [← hY]; unfold ovY; rw [show (eb - min (ea + place) eb).toNat = 0 by omega, Nat.pow_zero, Nat.mul_one]
      by_cases hr : x * 2 ^ k % y = 0
      · rw [decide_eq_true hr, Bool.not_true, Bool.and_false, if_neg (by decide)]
        exact rover_ae na nb ua va uc vc x y k ea eb place w (na != nb) rfl h1 hu h2 hv hx0 hy0 hx hy ha.1 ha.2 hb.1 hb.2 hp.1 hp.2 hk (by omega) hr
      · rw [decide_eq_false hr, Bool.not_false, Bool.and_true]
        by_cases hsg : (na != nb) = true
        · rw [hsg, if_pos rfl]
          exact rover_arn na nb ua va uc vc x y k ea eb place w hsg h1 hu h2 hv hx0 hy0 hx hy ha.1 ha.2 hb.1 hb.2 hp.1 hp.2 hk (by omega) hr
        · have hsg' : (na != nb) = false := by simpa using hsg
          rw [hsg', if_neg (by decide)]
          exact rover_arp na nb ua va uc vc x y k ea eb place w hsg' h1 hu h2 hv hx0 hy0 hx hy ha.1 ha.2 hb.1 hb.2 hp.1 hp.2 hk (by omega) hr
    · obtain ⟨k, hk⟩ : ∃ k : Nat, ea - eb + place = -(k : Int) := ⟨(-(ea - eb + place)).toNat, by omega⟩
      obtain rfl : x = X := by rw [← hX]; unfold ovX; rw [show (ea + place - min (ea + place) eb).toNat = 0 by omega, Nat.pow_zero, Nat.mul_one]
      obtain rfl : y * 2 ^ k = Y := by rw [← hY]; unfold ovY; rw [show (eb - min (ea + place) eb).toNat = k by omega]
      by_cases hr : x % (y * 2 ^ k) = 0
      · rw [decide_eq_true hr, Bool.not_true, Bool.and_false, if_neg (by decide)]
        exact rover_be na nb ua va uc vc x y k ea eb place w (na != nb) rfl h1 hu h2 hv hx0 hy0 hx hy ha.1 ha.2 hb.1 hb.2 hp.1 hp.2 hk (by omega) (by omega) hr
      · rw [decide_eq_false hr, Bool.not_false, Bool.and_true]
        by_cases hsg : (na != nb) = true
        · rw [hsg, if_pos rfl]
          exact rover_brn na nb ua va uc vc x y k ea eb place w hsg h1 hu h2 hv hx0 hy0 hx hy ha.1 ha.2 hb.1 hb.2 hp.1 hp.2 hk (by omega) (by omega) hr
        · have hsg' : (na != nb) = false := by simpa using hsg
          rw [hsg', if_neg (by decide)]
          exact rover_brp na nb ua va uc vc x y k ea eb place w hsg' h1 hu h2 hv hx0 hy0 hx hy ha.1 ha.2 hb.1 hb.2 hp.1 hp.2 hk (by omega) (by omega) hr
end Go.Proofs.YtcoclopllbfjcaaGreatDoor
/- The document's RootOf: the root, cut to a place. -/
namespace Go.Proofs.YtcoclopllbfjcaaGreatDoor
set_option linter.unusedVariables false
set_option linter.unusedSimpArgs false
open Go.RowKit

/-- nought can be handed on -/
theorem NC.nought (w : World) (base : Nat) (s : Bool) (e : Int) : NC w base (.agg #[.bool false, .slice none 0 0, .int .i64 0]) s 0 e := by
  refine ⟨none, 0, ?_, ?_, fun ad e => by cases e⟩
  · unfold cn; rw [if_pos rfl, dlen_zero]
  · unfold cn; rw [if_pos rfl]
    exact ⟨fun _ => .inr ⟨rfl, rfl⟩, ⟨0, 0, fun h => by rw [dlen_zero] at h; omega, fun i hi => by rw [dlen_zero] at hi; omega⟩, by rw [dlen_zero]; exact Nat.le_refl _, by rw [dlen_zero]; omega⟩
end Go.Proofs.YtcoclopllbfjcaaGreatDoor
/- The document's Cut: a number, cut to a place. -/
namespace Go.Proofs.YtcoclopllbfjcaaGreatDoor
set_option linter.unusedVariables false
set_option linter.unusedSimpArgs false
open Go.RowKit

end Go.Proofs.YtcoclopllbfjcaaGreatDoor
/- The document's Quo. -/
namespace Go.Proofs.YtcoclopllbfjcaaGreatDoor
set_option linter.unusedVariables false
set_option linter.unusedSimpArgs false
open Go.RowKit

end Go.Proofs.YtcoclopllbfjcaaGreatDoor
/- The document's Quo, joined. -/
namespace Go.Proofs.YtcoclopllbfjcaaGreatDoor
set_option linter.unusedVariables false
set_option linter.unusedSimpArgs false
open Go.RowKit

theorem cn_dlen {s : Bool} {z : Nat} {e : Int} : dlen (cn s z e).2.1 ≤ dlen z := by
  unfold cn
  by_cases h : z = 0
  · rw [if_pos h, dlen_zero]; exact Nat.zero_le _
  · rw [if_neg h]; exact dlen_mono (Nat.div_le_self _ _)
end Go.Proofs.YtcoclopllbfjcaaGreatDoor
/- The document's Floor. -/
namespace Go.Proofs.YtcoclopllbfjcaaGreatDoor
set_option linter.unusedVariables false
set_option linter.unusedSimpArgs false
open Go.RowKit

end Go.Proofs.YtcoclopllbfjcaaGreatDoor
/- The document's Floor, joined. -/
namespace Go.Proofs.YtcoclopllbfjcaaGreatDoor
set_option linter.unusedVariables false
set_option linter.unusedSimpArgs false
open Go.RowKit

end Go.Proofs.YtcoclopllbfjcaaGreatDoor
/- The program's Floor. -/
namespace Go.Proofs.YtcoclopllbfjcaaGreatDoor
set_option linter.unusedVariables false
set_option linter.unusedSimpArgs false
open Go.RowKit

end Go.Proofs.YtcoclopllbfjcaaGreatDoor
/- The document's Root. -/
namespace Go.Proofs.YtcoclopllbfjcaaGreatDoor
set_option linter.unusedVariables false
set_option linter.unusedSimpArgs false
open Go.RowKit

end Go.Proofs.YtcoclopllbfjcaaGreatDoor
/- The document's Root, joined. -/
namespace Go.Proofs.YtcoclopllbfjcaaGreatDoor
set_option linter.unusedVariables false
set_option linter.unusedSimpArgs false
open Go.RowKit

end Go.Proofs.YtcoclopllbfjcaaGreatDoor
/- The program's Floor, Quo, Root, refused. -/
namespace Go.Proofs.YtcoclopllbfjcaaGreatDoor
set_option linter.unusedVariables false
set_option linter.unusedSimpArgs false
open Go.RowKit

end Go.Proofs.YtcoclopllbfjcaaGreatDoor
/- DyadCuts: the law's walk. -/
namespace Go.Proofs.YtcoclopllbfjcaaGreatDoor
set_option linter.unusedVariables false
set_option linter.unusedSimpArgs false
open Go.RowKit

end Go.Proofs.YtcoclopllbfjcaaGreatDoor
/- DyadSums. -/
namespace Go.Proofs.YtcoclopllbfjcaaGreatDoor
set_option linter.unusedVariables false
set_option linter.unusedSimpArgs false
open Go.RowKit

/-- digits that give laid -/
def PI (s : Bool) (n z : Nat) (e : Int) (W : World) (A : Value) : Prop := ∃ v b, A = .agg #[.bool s, v, .int .i64 e] ∧ Dn W b v n z
theorem Ans.len {V : Bool} {t : Bool × Nat × Int} (h : V = true → dlen t.2.1 ≤ 35184372088832) : dlen (Ans V t).2.1 ≤ 35184372088832 := by
  unfold Ans
  cases V
  · rw [if_neg (by simp)]; show dlen 0 ≤ _; rw [dlen_zero]; omega
  · rw [if_pos rfl]; exact h rfl
end Go.Proofs.YtcoclopllbfjcaaGreatDoor
/- DyadCuts. -/
namespace Go.Proofs.YtcoclopllbfjcaaGreatDoor
set_option linter.unusedVariables false
set_option linter.unusedSimpArgs false
open Go.RowKit

end Go.Proofs.YtcoclopllbfjcaaGreatDoor
/- DyadOrder: the law's walk. -/
namespace Go.Proofs.YtcoclopllbfjcaaGreatDoor
set_option linter.unusedVariables false
set_option linter.unusedSimpArgs false
open Go.RowKit

end Go.Proofs.YtcoclopllbfjcaaGreatDoor
/- The program's Sqrt. -/
namespace Go.Proofs.YtcoclopllbfjcaaGreatDoor
set_option linter.unusedVariables false
set_option linter.unusedSimpArgs false
open Go.RowKit

end Go.Proofs.YtcoclopllbfjcaaGreatDoor
/- The program's Ratio. -/
namespace Go.Proofs.YtcoclopllbfjcaaGreatDoor
set_option linter.unusedVariables false
set_option linter.unusedSimpArgs false
open Go.RowKit

set_option maxHeartbeats 4000000 in
set_option maxRecDepth 200000 in
theorem pratio_1 (na nb : Bool) (ua va : Option Addr) (un uc vn vc x y k bx by' : Nat) (ea eb mode : Int) (sg : Bool) (w : World) (hsg : Hid ((!(na == nb)) = sg)) (hT : Tab32 w) (h1 : Is w (.slice ua un uc) x) (h2 : Is w (.slice va vn vc) y) (hx : dlen x ≤ 3000) (hy : dlen y ≤ 3000) (hy0 : y ≠ 0) (he1 : -65536 ≤ ea) (he2 : ea ≤ 65536) (he3 : -65536 ≤ eb) (he4 : eb ≤ 65536) (hm : mode = 1 ∨ mode = 2 ∨ mode = 3)
    (hbx : bl x = bx) (hby : bl y = by') (hbx2 : bx ≤ 96000) (hby2 : by' ≤ 96000) (hk : max 0 (64 + (by' : Int) - (bx : Int)) = (k : Int)) (hk2 : k ≤ 100000) (hn0 : ((un : Int) == 0) = false) (hn1 : ((vn : Int) == 0) = false)
    (k67 : ∀ W g, Below w.heap.size w W → W.heap[g]? = some (.cells #[.bool na, .slice ua un uc, .int .i64 ea, .bool nb, .slice va vn vc, .int .i64 eb] 96 (0, 0)) → Calls Tryz.prog 120 #[.slice (some ⟨g, 0, none⟩) 2 2] W fun r w' => r = .returned (.bool true) ∧ Below W.heap.size W w') :
    Calls Tryz.prog 89 #[.agg #[.bool na, .slice ua un uc, .int .i64 ea], .agg #[.bool nb, .slice va vn vc, .int .i64 eb], .int .i64 mode] w fun r w' => r = .returned (.tuple #[.float .f64 (tfF sg (decide (x * 2 ^ k % y = 0)) (x * 2 ^ k / y) (ea - eb - k) mode), .int .i64 0]) ∧ Below w.heap.size w w' := by
  obtain ⟨W, hW⟩ : ∃ W, W = (w.alloc (.cells #[.bool na, .slice ua un uc, .int .i64 ea] 96)).alloc (.cells #[.bool nb, .slice va vn vc, .int .i64 eb] 96) := ⟨_, rfl⟩
  have hBW : Below w.heap.size w W := by rw [hW]; exact ((Below.refl _ _).alloc (Nat.le_refl _) _).alloc (by simp) _
  have hbA : W.heap[w.heap.size]? = some (.cells #[.bool na, .slice ua un uc, .int .i64 ea] 96 (0, 0)) := by
    rw [hW, Below.heap_alloc _ _ _ (by simp)]; exact heap_alloc_new _ _
  have hbB : W.heap[w.heap.size + 1]? = some (.cells #[.bool nb, .slice va vn vc, .int .i64 eb] 96 (0, 0)) := by
    have := heap_alloc_new (w.alloc (.cells #[.bool na, .slice ua un uc, .int .i64 ea] 96)) (.cells #[.bool nb, .slice va vn vc, .int .i64 eb] 96)
    rw [hW]; simpa using this
  have hsz : W.heap.size = w.heap.size + 1 + 1 := by rw [hW]; simp
  have k1 := k67 (W.alloc (.cells #[.bool na, .slice ua un uc, .int .i64 ea, .bool nb, .slice va vn vc, .int .i64 eb] 96)) (w.heap.size + 1 + 1) (hBW.alloc hBW.size _) (by rw [← hsz]; exact heap_alloc_new _ _)
  have HX : Hid (Below w.heap.size w W ∧ W.heap.size = w.heap.size + 1 + 1 ∧ W.heap[w.heap.size]? = some (.cells #[.bool na, .slice ua un uc, .int .i64 ea] 96 (0, 0)) ∧ W.heap[w.heap.size + 1]? = some (.cells #[.bool nb, .slice va vn vc, .int .i64 eb] 96 (0, 0))) := ⟨hBW, hsz, hbA, hbB⟩
  have HT : Hid (Tab32 w ∧ Is w (.slice ua un uc) x ∧ dlen x ≤ 3000 ∧ Is w (.slice va vn vc) y ∧ dlen y ≤ 3000 ∧ y ≠ 0) := ⟨hT, h1, hx, h2, hy, hy0⟩
  have k48 := fun W => c48 mode hm W
  clear hBW hsz hbA hbB k67 hT h1 hx h2 hy hy0
  go_enter Tryz.func89, Tryz.ntmps89
  go_wp2_with fail
  rw [← hW]
  clear hW
  refine k1.mono ?_
  rintro r w1 ⟨rfl, hb1⟩
  have HB1 : Hid (Below W.heap.size W w1) := ((Below.refl W.heap.size W).alloc (Nat.le_refl _) _).trans (hb1.mono (by simp))
  have HW1 : Hid (Below w.heap.size w w1) := HX.out.1.trans (HB1.out.mono HX.out.1.size)
  obtain ⟨⟨a0, a1, a2⟩, -⟩ := box_cells (box_later HX.out.2.2.1 HB1.out (by have := HX.out.2.1; omega))
  obtain ⟨⟨b0, b1, b2⟩, -⟩ := box_cells (box_later HX.out.2.2.2 HB1.out (by have := HX.out.2.1; omega))
  clear k1 hb1
  go_wp2_with fail
  refine (k48 w1).mono ?_
  rintro r w1' ⟨rfl, hw⟩
  replace hw := hw.symm
  subst hw
  clear k48
  have kla : ∀ d, Calls Tryz.prog 122 #[.slice ua un uc] (w1.drewN d) fun e w' => e = .returned (.int .i64 (bx : Nat)) ∧ w' = w1.drewN d := fun d => by
    have := c74 (w := w1.drewN d) (HT.out.2.1.later (HW1.out.trans ⟨rfl, rfl, rfl, Nat.le_refl _, fun _ _ => rfl⟩)) (by have := HT.out.2.2; omega)
    rw [hbx] at this; exact this
  have klb : ∀ d, Calls Tryz.prog 122 #[.slice va vn vc] (w1.drewN d) fun e w' => e = .returned (.int .i64 (by' : Nat)) ∧ w' = w1.drewN d := fun d => by
    have := c74 (w := w1.drewN d) (HT.out.2.2.2.1.later (HW1.out.trans ⟨rfl, rfl, rfl, Nat.le_refl _, fun _ _ => rfl⟩)) (by have := HT.out.2.2; omega)
    rw [hby] at this; exact this
  go_wp2
  go_quiet (first | (go_at_call 122; first | (with_reducible refine Calls.quiet_of_same (klb _)) | (with_reducible refine Calls.quiet_of_same (kla _))))
  have HB2 : Hid (Below W.heap.size W (w1.drewN nq)) := HB1.out.trans ⟨rfl, rfl, rfl, Nat.le_refl _, fun _ _ => rfl⟩
  obtain ⟨w2, hw2⟩ : ∃ w2, w2 = w1.drewN nq := ⟨_, rfl⟩
  rw [← hw2] at HB2 ⊢
  clear hw2 kla klb a0 a1 a2 b0 b1 b2
  have HK : Hid (∀ w', Below w2.heap.size w2 w' → ((w'.cell? ⟨w.heap.size, 0, none⟩ = some (.bool na) ∧ w'.cell? ⟨w.heap.size, 1, none⟩ = some (.slice ua un uc) ∧ w'.cell? ⟨w.heap.size, 2, none⟩ = some (.int .i64 ea)) ∧ (w'.cell? ⟨w.heap.size + 1, 0, none⟩ = some (.bool nb) ∧ w'.cell? ⟨w.heap.size + 1, 1, none⟩ = some (.slice va vn vc) ∧ w'.cell? ⟨w.heap.size + 1, 2, none⟩ = some (.int .i64 eb)))) := fun w' hb => ⟨(box_cells (box_later HX.out.2.2.1 (HB2.out.trans (hb.mono HB2.out.size)) (by have := HX.out.2.1; omega))).1, (box_cells (box_later HX.out.2.2.2 (HB2.out.trans (hb.mono HB2.out.size)) (by have := HX.out.2.1; omega))).1⟩
  obtain ⟨⟨a0, a1, a2⟩, b0, b1, b2⟩ := HK.out w2 (Below.refl _ _)
  have hBR : Below w2.heap.size w2 w2.drew := (Below.refl _ _).drew
  have hl : dlen (x * 2 ^ k) ≤ 7000 := by have := shl_len (x := x) (k := k) rfl; have := HT.out.2.2; omega
  have HL : Hid (dlen (x * 2 ^ k) ≤ 7000) := hl
  have kS : ∀ w', Below w2.heap.size w2 w' → Calls Tryz.prog 124 #[.slice ua un uc, .int .i64 (k : Int)] w' fun e w'' => ∃ v, e = .returned v ∧ Hid (Is w'' v (x * 2 ^ k)) ∧ Below w2.heap.size w2 w'' := fun w' hb => (c109 (HT.out.2.1.later (HX.out.1.trans ((HB2.out.trans (hb.mono HB2.out.size)).mono HX.out.1.size))) k (by have := HT.out.2.2; omega) (by omega)).mono fun r w'' ⟨v, e1, e2, e3⟩ => ⟨v, e1, e2.is, hb.trans (e3.mono hb.size)⟩
  have kD : ∀ v w', Hid (Is w' v (x * 2 ^ k)) → Below w2.heap.size w2 w' → Calls Tryz.prog 123 #[v, .slice va vn vc] w' fun e w'' => ∃ q, e = .returned (.tuple #[q, .bool (decide (x * 2 ^ k % y = 0))]) ∧ Hid (Is w'' q (x * 2 ^ k / y)) ∧ Below w2.heap.size w2 w'' := fun v w' hI hb => (c100 hI.out (HT.out.2.2.2.1.later (HX.out.1.trans ((HB2.out.trans (hb.mono HB2.out.size)).mono HX.out.1.size))) (by have := HL.out; omega) (by have := HT.out.2.2.2.2; omega) HT.out.2.2.2.2.2).mono fun r w'' ⟨q, e1, e2, e3⟩ => ⟨q, e1, e2.is, hb.trans (e3.mono hb.size)⟩
  obtain ⟨xb, hxb⟩ : ∃ xb : Bool, xb = decide (x * 2 ^ k % y = 0) := ⟨_, rfl⟩
  rw [← hxb] at kD
  have HXB : Hid (xb = decide (x * 2 ^ k % y = 0)) := hxb
  clear hxb hl
  go_upto_region 8 with fail
  go_cut [9, 10] from 42 to 50 (fun q b wx => b = .bool xb ∧ Hid (Is wx q (x * 2 ^ k / y)) ∧ Hid (Below w2.heap.size w2 wx))
  case first =>
    go_region_held3 (fun w' => ((w'.cell? ⟨w.heap.size, 0, none⟩ = some (.bool na) ∧ w'.cell? ⟨w.heap.size, 1, none⟩ = some (.slice ua un uc) ∧ w'.cell? ⟨w.heap.size, 2, none⟩ = some (.int .i64 ea)) ∧ (w'.cell? ⟨w.heap.size + 1, 0, none⟩ = some (.bool nb) ∧ w'.cell? ⟨w.heap.size + 1, 1, none⟩ = some (.slice va vn vc) ∧ w'.cell? ⟨w.heap.size + 1, 2, none⟩ = some (.int .i64 eb)))) (first | (with_reducible assumption) | exact ⟨⟨a0, a1, a2⟩, b0, b1, b2⟩ | (refine HK.out _ ?_; with_reducible assumption) | go_keep)
      (first | (go_at_call 124; refine (kS _ (by first | (with_reducible assumption) | exact hBR)).mono ?_; rintro r w5 ⟨v5, rfl, hI5, hb5⟩) | (go_at_call 123; refine (kD _ _ hI5 (by with_reducible assumption)).mono ?_; rintro r w6 ⟨v6, rfl, hI6, hb6⟩))
    all_goals go_wp2_with fail
    all_goals go_meet
    all_goals exact ⟨rfl, hI6, hb6⟩
  case rest =>
    obtain ⟨rfl, hI, hB⟩ := hcut
    obtain ⟨w3, rfl⟩ : ∃ w3 : World, w3 = wc := ⟨_, rfl⟩
    have HB3 : Hid (Below W.heap.size W w3) := HB2.out.trans (hB.out.mono HB2.out.size)
    clear a0 a1 a2 b0 b1 b2 kS kD hBR
    obtain ⟨⟨a0, a1, a2⟩, b0, b1, b2⟩ := HK.out w3 hB.out
    have kt := c110 (neg := sg) (exact := xb) (e := ea - eb - k) (mode := mode) (HT.out.1.later (HX.out.1.trans (HB3.out.mono HX.out.1.size))) hI.out (Nat.le_trans (dlen_mono (Nat.div_le_self _ _)) (by have := HL.out; omega)) (by omega) (by omega)
    go_wp2_with fail
    rw [hsg.out]
    refine kt.mono ?_
    rintro r w4 ⟨rfl, hb4⟩
    have HB4 : Hid (Below W.heap.size W w4) := HB3.out.trans (hb4.mono HB3.out.size)
    clear kt hb4
    go_wp2
    refine bodyPost_ret (results_tmp2 rfl _ _ _) rfl ?_
    exact ⟨congrArg (fun b => Ending.returned (Value.tuple #[.float .f64 (tfF sg b (x * 2 ^ k / y) (ea - eb - k) mode), .int .i64 0])) HXB.out, HX.out.1.trans (HB4.out.mono HX.out.1.size)⟩
end Go.Proofs.YtcoclopllbfjcaaGreatDoor
/- The values of floats by their bodies, and how values are rounded: plain facts. -/
namespace Go.Proofs.YtcoclopllbfjcaaGreatDoor
set_option linter.unusedVariables false
set_option linter.unusedSimpArgs false

/-- the value of a float's body (its bits without the sign), in units of 2^-1074 -/
def bv (b : Nat) : Nat := if b < 4503599627370496 then b else (4503599627370496 + b % 4503599627370496) * 2 ^ (b / 4503599627370496 - 1)
theorem bv_at {j q : Nat} (h : (j = 0 ∧ q ≤ 9007199254740992) ∨ (4503599627370496 ≤ q ∧ q ≤ 9007199254740992)) : bv (j * 4503599627370496 + q) = q * 2 ^ j := by
  unfold bv
  by_cases h1 : j * 4503599627370496 + q < 4503599627370496
  · have hj : j = 0 := by omega
    subst hj
    rw [if_pos h1]; simp
  · rw [if_neg h1]
    by_cases h2 : q = 9007199254740992
    · subst h2
      rw [show (j * 4503599627370496 + 9007199254740992) % 4503599627370496 = 0 by omega, show (j * 4503599627370496 + 9007199254740992) / 4503599627370496 - 1 = j + 1 by omega, Nat.pow_succ]
      omega
    · have h3 : 4503599627370496 ≤ q := by omega
      rw [show (j * 4503599627370496 + q) % 4503599627370496 = q - 4503599627370496 by omega, show (j * 4503599627370496 + q) / 4503599627370496 - 1 = j by omega]
      rw [show 4503599627370496 + (q - 4503599627370496) = q by omega]
theorem bv_form (b : Nat) : ∃ j q, b = j * 4503599627370496 + q ∧ bv b = q * 2 ^ j ∧ bv (b + 1) = (q + 1) * 2 ^ j := by
  by_cases h : b < 4503599627370496
  · refine ⟨0, b, by omega, ?_, ?_⟩
    · have := bv_at (j := 0) (q := b) (.inl ⟨rfl, by omega⟩); simpa using this
    · have := bv_at (j := 0) (q := b + 1) (.inl ⟨rfl, by omega⟩); simpa using this
  · have e : b = (b / 4503599627370496 - 1) * 4503599627370496 + (4503599627370496 + b % 4503599627370496) := by omega
    refine ⟨_, _, e, ?_, ?_⟩
    · have := bv_at (j := b / 4503599627370496 - 1) (q := 4503599627370496 + b % 4503599627370496) (.inr ⟨by omega, by omega⟩)
      rw [← e] at this; exact this
    · have := bv_at (j := b / 4503599627370496 - 1) (q := 4503599627370496 + b % 4503599627370496 + 1) (.inr ⟨by omega, by omega⟩)
      rw [← Nat.add_assoc, ← e] at this; exact this
theorem bv_succ (b : Nat) : bv b < bv (b + 1) := by
  obtain ⟨j, q, -, h1, h2⟩ := bv_form b
  rw [h1, h2]
  exact Nat.mul_lt_mul_of_pos_right (by omega) (Nat.two_pow_pos j)
theorem bv_lt {a b : Nat} (h : a < b) : bv a < bv b := by
  induction b with
  | zero => omega
  | succ b ih =>
    by_cases h1 : a < b
    · exact Nat.lt_trans (ih h1) (bv_succ b)
    · obtain rfl : a = b := by omega
      exact bv_succ a
theorem bv_le {a b : Nat} (h : a ≤ b) : bv a ≤ bv b := by
  by_cases h1 : a = b
  · rw [h1]; exact Nat.le_refl _
  · exact Nat.le_of_lt (bv_lt (by omega))
theorem bv_inj_lt {a b : Nat} (h : bv a < bv b) : a < b := by
  apply Decidable.byContradiction
  intro h1
  have := bv_le (a := b) (b := a) (by omega)
  omega

/-- the number x·2^e (x' / 2^k units of the body's rung j) -/
structure IsR (x : Nat) (e : Int) (j X k : Nat) : Prop where
  eq : ∀ K : Nat, 0 ≤ e + K → 0 ≤ (j : Int) - 1074 - k + K → X * 2 ^ ((j : Int) - 1074 - k + K).toNat = x * 2 ^ (e + K).toNat
  lt : X / 2 ^ k < 9007199254740992
  ge : j = 0 ∨ 4503599627370496 ≤ X / 2 ^ k

/-- how a value A (in units u of 2^-1074) lies at the bodies b and b + 1, by what is left over -/
structure Lies (A u b : Nat) (r m : Nat) : Prop where
  lo : bv b * u ≤ A
  hi : A < bv (b + 1) * u
  ex : r = 0 ↔ A = bv b * u
  half_lt : 2 * r < m ↔ 2 * A < (bv b + bv (b + 1)) * u
  half_eq : 2 * r = m ↔ 2 * A = (bv b + bv (b + 1)) * u
theorem IsR.lies {x : Nat} {e : Int} {j X k : Nat} (h : IsR x e j X k) {K : Nat} (hK : 1074 ≤ K) (h1 : 0 ≤ e + K) (h2 : 0 ≤ (j : Int) - 1074 - k + K) :
    Lies (x * 2 ^ (e + K).toNat) (2 ^ (K - 1074)) (j * 4503599627370496 + X / 2 ^ k) (X % 2 ^ k) (2 ^ k) := by
  have eq := h.eq K h1 h2
  have hl := h.lt
  have hg := h.ge
  have b0 : bv (j * 4503599627370496 + X / 2 ^ k) = X / 2 ^ k * 2 ^ j := bv_at (j := j) (q := X / 2 ^ k) (by
    generalize X / 2 ^ k = q at *
    rcases hg with g | g
    · exact .inl ⟨g, by omega⟩
    · exact .inr ⟨g, by omega⟩)
  have b1 : bv (j * 4503599627370496 + X / 2 ^ k + 1) = (X / 2 ^ k + 1) * 2 ^ j := by
    have := bv_at (j := j) (q := X / 2 ^ k + 1) (by
      generalize X / 2 ^ k = q at *
      rcases hg with g | g
      · exact .inl ⟨g, by omega⟩
      · exact .inr ⟨by omega, by omega⟩)
    rw [← Nat.add_assoc] at this
    exact this
  have hu : 2 ^ j * 2 ^ (K - 1074) = 2 ^ k * 2 ^ ((j : Int) - 1074 - k + K).toNat := by
    rw [← Nat.pow_add, ← Nat.pow_add, show j + (K - 1074) = k + ((j : Int) - 1074 - k + K).toNat by omega]
  have hX : X = 2 ^ k * (X / 2 ^ k) + X % 2 ^ k := (Nat.div_add_mod X (2 ^ k)).symm
  have hr : X % 2 ^ k < 2 ^ k := Nat.mod_lt _ (Nat.two_pow_pos k)
  have hU : 0 < 2 ^ ((j : Int) - 1074 - k + K).toNat := Nat.two_pow_pos _
  rw [← eq]
  generalize 2 ^ ((j : Int) - 1074 - k + K).toNat = U at *
  generalize X / 2 ^ k = q at *
  generalize X % 2 ^ k = r at *
  generalize 2 ^ k = M at *
  generalize 2 ^ j = J at *
  generalize 2 ^ (K - 1074) = u at *
  have e0 : bv (j * 4503599627370496 + q) * u = q * (M * U) := by rw [b0, Nat.mul_assoc, hu]
  have e1 : bv (j * 4503599627370496 + q + 1) * u = (q + 1) * (M * U) := by rw [b1, Nat.mul_assoc, hu]
  have eA : X * U = q * (M * U) + r * U := by rw [hX, Nat.add_mul]; congr 1; rw [← Nat.mul_assoc, Nat.mul_comm q M]
  have e1' : (q + 1) * (M * U) = q * (M * U) + M * U := by rw [Nat.add_mul, Nat.one_mul]
  have hrU : r * U < M * U := Nat.mul_lt_mul_of_pos_right hr hU
  have hr0 : r = 0 ↔ r * U = 0 := by
    constructor
    · rintro rfl; simp
    · intro h; rcases Nat.mul_eq_zero.1 h with h | h
      · exact h
      · omega
  have hh1 : 2 * r < M ↔ 2 * (r * U) < M * U := by
    rw [← Nat.mul_assoc]
    exact (Nat.mul_lt_mul_right hU).symm
  have hh2 : 2 * r = M ↔ 2 * (r * U) = M * U := by
    rw [← Nat.mul_assoc]
    exact (Nat.mul_left_inj (by omega)).symm
  refine ⟨?_, ?_, ?_, ?_, ?_⟩
  · rw [e0, eA]; omega
  · rw [e1, eA, e1']; omega
  · rw [hr0, e0, eA]; omega
  · rw [hh1, Nat.add_mul, e0, e1, eA, e1']; omega
  · rw [hh2, Nat.add_mul, e0, e1, eA, e1']; omega

/-- a value rounded by a way: 0 inward, 1 to the nearest, 2 outward; no greatest one -/
structure Rounds (A u b way : Nat) : Prop where
  fl : ∃ b0, (bv b0 * u ≤ A ∧ A < bv (b0 + 1) * u) ∧ (way = 0 → b = b0) ∧ (way = 2 → b = if A = bv b0 * u then b0 else b0 + 1) ∧ (way = 1 → b = if 2 * A < (bv b0 + bv (b0 + 1)) * u then b0 else if 2 * A = (bv b0 + bv (b0 + 1)) * u then b0 + b0 % 2 else b0 + 1)
theorem floor_mono {A A' u b b' : Nat} (h : A ≤ A') (h1 : bv b * u ≤ A) (h2 : A' < bv (b' + 1) * u) : b ≤ b' := by
  have h3 : bv b * u < bv (b' + 1) * u := by omega
  have h4 : bv b < bv (b' + 1) := Nat.lt_of_mul_lt_mul_right h3
  have := bv_inj_lt h4
  omega
theorem Rounds.mono {A A' u b b' way : Nat} (hw : way = 0 ∨ way = 1 ∨ way = 2) (h : Rounds A u b way) (h' : Rounds A' u b' way) (hle : A ≤ A') : b ≤ b' := by
  obtain ⟨b0, ⟨l, g⟩, w0, w2, w1⟩ := h.fl
  obtain ⟨b1, ⟨l', g'⟩, w0', w2', w1'⟩ := h'.fl
  have hb := floor_mono hle l g'
  rcases hw with hw | hw | hw
  · rw [w0 hw, w0' hw]; exact hb
  · rw [w1 hw, w1' hw]
    by_cases he : b0 = b1
    · subst he
      split
      · split
        · exact Nat.le_refl _
        · split <;> omega
      · split
        · split
          · omega
          · split
            · exact Nat.le_refl _
            · have : b0 % 2 < 2 := Nat.mod_lt _ (by omega)
              omega
        · rw [if_neg (by omega), if_neg (by omega)]; exact Nat.le_refl _
    · have hlt : b0 < b1 := by omega
      have h1 : (if 2 * A < (bv b0 + bv (b0 + 1)) * u then b0 else if 2 * A = (bv b0 + bv (b0 + 1)) * u then b0 + b0 % 2 else b0 + 1) ≤ b0 + 1 := by
        split
        · omega
        · split <;> omega
      have h2 : b1 ≤ (if 2 * A' < (bv b1 + bv (b1 + 1)) * u then b1 else if 2 * A' = (bv b1 + bv (b1 + 1)) * u then b1 + b1 % 2 else b1 + 1) := by
        split
        · omega
        · split <;> omega
      omega
  · rw [w2 hw, w2' hw]
    by_cases he : b0 = b1
    · subst he
      split
      · split <;> omega
      · rw [if_neg (by omega)]; exact Nat.le_refl _
    · split
      · split <;> omega
      · split <;> omega
/-- inward is not above nearest, nor that above outward; inward and outward hold the value -/
theorem Rounds.order {A u b0 b1 b2 : Nat} (h0 : Rounds A u b0 0) (h1 : Rounds A u b1 1) (h2 : Rounds A u b2 2) : b0 ≤ b1 ∧ b1 ≤ b2 ∧ bv b0 * u ≤ A ∧ A ≤ bv b2 * u ∧ (b0 = b2 → A = bv b0 * u) := by
  obtain ⟨c0, ⟨l0, g0⟩, w0, -, -⟩ := h0.fl
  obtain ⟨c1, ⟨l1, g1⟩, -, -, w1⟩ := h1.fl
  obtain ⟨c2, ⟨l2, g2⟩, -, w2, -⟩ := h2.fl
  have e1 : c1 = c0 := by
    have := floor_mono (Nat.le_refl A) l1 g0
    have := floor_mono (Nat.le_refl A) l0 g1
    omega
  have e2 : c2 = c0 := by
    have := floor_mono (Nat.le_refl A) l2 g0
    have := floor_mono (Nat.le_refl A) l0 g2
    omega
  subst e1; subst e2
  have r0 := w0 rfl
  have r1 := w1 rfl
  have r2 := w2 rfl
  subst r0
  have hu : 0 < u := by
    apply Decidable.byContradiction
    intro h
    have : u = 0 := by omega
    subst this
    simp at g0
  have hs : bv b0 * u < bv (b0 + 1) * u := Nat.mul_lt_mul_of_pos_right (bv_succ b0) hu
  have hm : (bv b0 + bv (b0 + 1)) * u = bv b0 * u + bv (b0 + 1) * u := Nat.add_mul ..
  have hp : b0 % 2 < 2 := Nat.mod_lt _ (by omega)
  refine ⟨?_, ?_, l0, ?_, ?_⟩
  · rw [r1]
    split
    · omega
    · split <;> omega
  · rw [r1, r2]
    by_cases he : A = bv b0 * u
    · rw [if_pos he, if_pos (by omega)]; exact Nat.le_refl _
    · rw [if_neg he]
      split
      · omega
      · split <;> omega
  · rw [r2]
    split
    · omega
    · omega
  · intro h
    rw [r2] at h
    split at h
    · assumption
    · omega
end Go.Proofs.YtcoclopllbfjcaaGreatDoor
/- The program's rounding rounds: the body that Make makes of toFloat's digits. -/
namespace Go.Proofs.YtcoclopllbfjcaaGreatDoor
set_option linter.unusedVariables false
set_option linter.unusedSimpArgs false
open Go.RowKit Go.Fl64
open Ie

theorem or_one_half (y : Nat) : (y ||| 1) / 2 = y / 2 := by rw [Nat.or_div_two]; simp
theorem or_one_odd (y : Nat) : (y ||| 1) % 2 = 1 := Nat.or_mod_two_eq_one.2 (.inr rfl)
theorem or_one_eq (y : Nat) : y ||| 1 = 2 * (y / 2) + 1 := by
  have h1 := or_one_half y
  have h2 := or_one_odd y
  omega
/-- what was left out, told by an odd last digit, is rounded as it is -/
theorem rnd_sticky {x D k y m : Nat} {way : Int} (hk : 2 ≤ k) (hy : y = x / 2 ^ D) (hm : (x % 2 ^ D = 0 ∧ m = y) ∨ (x % 2 ^ D ≠ 0 ∧ m = 2 * (y / 2) + 1)) : rnd m k way = rnd x (D + k) way := by
  obtain ⟨h, rfl⟩ : ∃ h, k = h + 2 := ⟨k - 2, by omega⟩
  have e2 : (2 : Nat) ^ (h + 2) = 2 * (2 * 2 ^ h) := by rw [Nat.pow_succ, Nat.pow_succ]; omega
  have eD : (2 : Nat) ^ (D + (h + 2)) = 2 ^ D * 2 ^ (h + 2) := Nat.pow_add ..
  have hq : m / 2 ^ (h + 2) = x / 2 ^ (D + (h + 2)) := by
    rw [eD, ← Nat.div_div_eq_div_mul, ← hy]
    rcases hm with ⟨-, hm⟩ | ⟨-, hm⟩
    · rw [hm]
    · have hd : ∀ z, z / (2 * (2 * 2 ^ h)) = z / 2 / (2 * 2 ^ h) := fun z => (Nat.div_div_eq_div_mul ..).symm
      rw [e2, hd, hd, hm, show (2 * (y / 2) + 1) / 2 = y / 2 by omega]
  have hR : x % 2 ^ (D + (h + 2)) = (y % 2 ^ (h + 2)) * 2 ^ D + x % 2 ^ D := by
    rw [eD, Nat.mod_mul, hy, Nat.mul_comm]; omega
  have hM : (x % 2 ^ D = 0 ∧ m % 2 ^ (h + 2) = y % 2 ^ (h + 2)) ∨ (x % 2 ^ D ≠ 0 ∧ m % 2 ^ (h + 2) = 2 * (y % 2 ^ (h + 2) / 2) + 1) := by
    rcases hm with ⟨h1, hm⟩ | ⟨h1, hm⟩
    · exact .inl ⟨h1, by rw [hm]⟩
    · refine .inr ⟨h1, ?_⟩
      rw [hm, e2]
      generalize 2 ^ h = H
      rw [Nat.mod_mul, Nat.mod_mul (x := y), show (2 * (y / 2) + 1) % 2 = 1 by omega, show (2 * (y / 2) + 1) / 2 = y / 2 by omega]
      generalize y / 2 % (2 * H) = t
      omega
  have hrx : x % 2 ^ D < 2 ^ D := Nat.mod_lt _ (Nat.two_pow_pos D)
  have hp : 0 < 2 ^ D := Nat.two_pow_pos D
  have i0 : m % 2 ^ (h + 2) = 0 ↔ x % 2 ^ (D + (h + 2)) = 0 := by
    rw [hR]
    rcases hM with ⟨h1, h2⟩ | ⟨h1, h2⟩
    · rw [h1, h2, Nat.add_zero]
      constructor
      · intro e; rw [e, Nat.zero_mul]
      · intro e; rcases Nat.mul_eq_zero.1 e with e | e
        · exact e
        · omega
    · rw [h2]; omega
  have key : ∀ c : Nat, c = 2 * 2 ^ h → (2 ^ (h + 2) < 2 * (m % 2 ^ (h + 2)) ↔ 2 ^ (D + (h + 2)) < 2 * (x % 2 ^ (D + (h + 2)))) ∧ (2 * (m % 2 ^ (h + 2)) = 2 ^ (h + 2) ↔ 2 * (x % 2 ^ (D + (h + 2))) = 2 ^ (D + (h + 2))) := by
    intro c hc
    rw [hR, eD]
    have e3 : (2 : Nat) ^ (h + 2) = 2 * c := by rw [e2, hc]
    rw [e3] at hM ⊢
    have hc2 : c % 2 = 0 := by omega
    generalize y % (2 * c) = ry at *
    generalize m % (2 * c) = rm at *
    generalize x % 2 ^ D = rx at *
    generalize 2 ^ D = T at *
    have a1 : T * (2 * c) = 2 * (c * T) := by rw [Nat.mul_comm T, Nat.mul_assoc]
    rw [a1]
    rcases hM with ⟨h1, h2⟩ | ⟨h1, h2⟩
    · subst h1
      rw [h2, Nat.add_zero]
      constructor
      · constructor
        · intro g; have := Nat.mul_lt_mul_of_pos_right (show c < ry by omega) hp; omega
        · intro g; have : c * T < ry * T := by omega
          have := Nat.lt_of_mul_lt_mul_right this; omega
      · constructor
        · intro g; rw [show ry = c by omega]
        · intro g; have := Nat.eq_of_mul_eq_mul_right hp (show ry * T = c * T by omega); omega
    · have hlt : ry < c → ry * T + rx < c * T := by
        intro g
        have := Nat.mul_le_mul_right T (show ry + 1 ≤ c by omega)
        rw [Nat.add_mul, Nat.one_mul] at this
        omega
      have hge : c ≤ ry → c * T < ry * T + rx := by
        intro g
        have := Nat.mul_le_mul_right T g
        omega
      by_cases g : ry < c
      · have a2 := hlt g
        have a3 : rm < c := by omega
        clear hlt hge
        refine ⟨⟨fun g2 => ?_, fun g2 => ?_⟩, ⟨fun g2 => ?_, fun g2 => ?_⟩⟩
        · omega
        · omega
        · omega
        · omega
      · have a2 := hge (by omega)
        have a3 : c < rm := by omega
        clear hlt hge
        refine ⟨⟨fun g2 => ?_, fun g2 => ?_⟩, ⟨fun g2 => ?_, fun g2 => ?_⟩⟩
        · omega
        · omega
        · omega
        · omega
  have k1 := key _ rfl
  unfold rnd
  have hrup : Ie.rup m (h + 2) way = Ie.rup x (D + (h + 2)) way := by
    unfold Ie.rup
    rw [hq]
    simp only [k1.1, k1.2, ne_eq, i0]
  rw [hrup, hq]
theorem tz_iff {x n : Nat} (h0 : x ≠ 0) : tz x < n ↔ x % 2 ^ n ≠ 0 := by
  obtain ⟨h1, h2⟩ := tz_spec x x (Nat.le_refl _) h0
  constructor
  · intro hlt he
    have hd : 2 ^ (tz x + 1) ∣ x := Nat.dvd_trans (Nat.pow_dvd_pow 2 (by omega)) (Nat.dvd_of_mod_eq_zero he)
    obtain ⟨c, hc⟩ := hd
    have h3 : x / 2 ^ tz x = 2 * c := by
      rw [Nat.pow_succ, Nat.mul_assoc] at hc
      exact Nat.div_eq_of_eq_mul_right (Nat.two_pow_pos _) hc
    omega
  · intro hne
    apply Decidable.byContradiction
    intro hge
    apply hne
    have : 2 ^ n ∣ x := by rw [← h1]; exact Nat.dvd_trans (Nat.pow_dvd_pow 2 (by omega)) (Nat.dvd_mul_right _ _)
    exact Nat.mod_eq_zero_of_dvd this
theorem raw_of {x : Nat} {e : Int} {X m j k k1 : Nat} {s P : Int} {e' : Int} (hs : s = e' - (nz m : Int)) (hP : P = pl m e') (hk1 : (k1 : Int) = P - s) (hj : (j : Int) = P + 1074) (hr : ∀ way, rnd (tp m) k1 way = rnd X k way) (way : Int) : raw m e' way = ((j * 4503599627370496 + rnd X k way : Nat) : Int) := by
  unfold raw
  rw [← hP, ← hs, show (P - s).toNat = k1 by omega, hr]
  omega
/-- Make's body of a number is what its value is rounded to -/
theorem raw_is {x : Nat} {e : Int} (h0 : x ≠ 0) : ∃ j X k, IsR x e j X k ∧ (∀ way, raw (tfM true x) (e + (tfD x : Int)) way = ((j * 4503599627370496 + rnd X k way : Nat) : Int)) ∧ (k : Int) ≤ j + 1074 + (if e < 0 then -e else 0) + 64 ∧ -64 + min e (-1074) ≤ (j : Int) - 1074 - k := by
  by_cases hD : bl x ≤ 64
  · have eD : tfD x = 0 := by unfold tfD; omega
    have eM : tfM true x = x := by unfold tfM; rw [eD]; simp
    rw [eM, eD]
    have hx64 : x < 18446744073709551616 := (bl_le x 64).1 hD
    obtain ⟨n1, n2, n3⟩ := nz_facts x hx64 h0
    obtain ⟨P, hP⟩ : ∃ P, P = pl x (e + ((0 : Nat) : Int)) := ⟨_, rfl⟩
    have hPl := hP
    unfold pl at hPl
    have hPc : (P = -1074 ∧ e - nz x + 11 < -1074) ∨ (P = e - nz x + 11 ∧ -1074 ≤ P) := by
      split at hPl
      · exact .inl ⟨hPl, by omega⟩
      · exact .inr ⟨by omega, by omega⟩
    refine ⟨(P + 1074).toNat, tp x, (P - (e - nz x)).toNat, ⟨?_, ?_, ?_⟩, fun way => raw_of (x := x) (e := e) (m := x) (s := e - nz x) (P := P) (k1 := (P - (e - nz x)).toNat) (by omega) hP (by omega) (by omega) (fun _ => rfl) way, ?_, ?_⟩
    · intro K hK1 hK2
      unfold tp
      rw [Nat.mul_assoc, ← Nat.pow_add]
      congr 2
      omega
    · have : 2 ^ 11 ≤ 2 ^ (P - (e - nz x)).toNat := Nat.pow_le_pow_right (by omega) (by omega)
      refine Nat.div_lt_of_lt_mul ?_
      have : 2 ^ 11 * 9007199254740992 ≤ 2 ^ (P - (e - nz x)).toNat * 9007199254740992 := Nat.mul_le_mul_right _ this
      omega
    · rcases hPc with h | h
      · exact .inl (by omega)
      · refine .inr ?_
        rw [show (P - (e - nz x)).toNat = 11 by omega]
        omega
    · split <;> omega
    · omega
  · have eD : bl x = tfD x + 64 := by unfold tfD; omega
    obtain ⟨D, hDD⟩ : ∃ D, D = tfD x := ⟨_, rfl⟩
    rw [← hDD] at eD ⊢
    have hx1 : x < 2 ^ (D + 64) := by rw [← eD]; exact lt_bl x
    have hx2 : 2 ^ (D + 63) ≤ x := by have := le_bl h0; rw [eD] at this; exact this
    have hp : 0 < 2 ^ D := Nat.two_pow_pos D
    obtain ⟨y, hy⟩ : ∃ y, y = x / 2 ^ D := ⟨_, rfl⟩
    have hy1 : y < 18446744073709551616 := by rw [hy]; refine Nat.div_lt_of_lt_mul ?_; rw [Nat.pow_add] at hx1; exact hx1
    have hy2 : 9223372036854775808 ≤ y := by rw [hy, Nat.le_div_iff_mul_le hp, Nat.mul_comm]; rw [Nat.pow_add] at hx2; exact hx2
    have hm : (x % 2 ^ D = 0 ∧ tfM true x = y) ∨ (x % 2 ^ D ≠ 0 ∧ tfM true x = 2 * (y / 2) + 1) := by
      unfold tfM
      rw [← hDD, ← hy]
      by_cases hz : tz x < D
      · exact .inr ⟨(tz_iff h0).1 hz, by rw [decide_eq_true hz]; exact or_one_eq y⟩
      · refine .inl ⟨?_, by rw [decide_eq_false hz]; rfl⟩
        apply Decidable.byContradiction
        intro h
        exact hz ((tz_iff h0).2 h)
    obtain ⟨m, hmm⟩ : ∃ m, m = tfM true x := ⟨_, rfl⟩
    rw [← hmm] at hm ⊢
    have hm1 : m < 18446744073709551616 := by rcases hm with h | h <;> omega
    have hm2 : 9223372036854775808 ≤ m := by rcases hm with h | h <;> omega
    have hbm : bl m = 64 := bl_eq (n := 64) hm1 (.inr hm2)
    have hnz : nz m = 0 := by unfold nz; rw [← bl_bitLen, hbm]
    have htp : tp m = m := by unfold tp; rw [hnz]; simp
    obtain ⟨P, hP⟩ : ∃ P, P = pl m (e + (D : Int)) := ⟨_, rfl⟩
    have hPl := hP
    unfold pl at hPl
    rw [hnz] at hPl
    have hPc : (P = -1074 ∧ e + D + 11 < -1074) ∨ (P = e + D + 11 ∧ -1074 ≤ P) := by
      split at hPl
      · exact .inl ⟨hPl, by omega⟩
      · exact .inr ⟨by omega, by omega⟩
    have hq : ∀ k1, 11 ≤ k1 → x / 2 ^ (D + k1) = y / 2 ^ k1 := fun k1 _ => by rw [Nat.pow_add, ← Nat.div_div_eq_div_mul, hy]
    refine ⟨(P + 1074).toNat, x, D + (P - (e + D)).toNat, ⟨?_, ?_, ?_⟩, fun way => raw_of (x := x) (e := e) (m := m) (s := e + D) (P := P) (k1 := (P - (e + D)).toNat) (by rw [hnz]; omega) hP (by omega) (by omega) (fun way => by rw [htp]; exact rnd_sticky (by omega) hy hm) way, ?_, ?_⟩
    · intro K hK1 hK2
      congr 2
      omega
    · rw [hq _ (by omega)]
      have : 2 ^ 11 ≤ 2 ^ (P - (e + D)).toNat := Nat.pow_le_pow_right (by omega) (by omega)
      refine Nat.div_lt_of_lt_mul ?_
      have : 2 ^ 11 * 9007199254740992 ≤ 2 ^ (P - (e + D)).toNat * 9007199254740992 := Nat.mul_le_mul_right _ this
      omega
    · rcases hPc with h | h
      · exact .inl (by omega)
      · refine .inr ?_
        rw [hq _ (by omega), show (P - (e + D)).toNat = 11 by omega]
        omega
    · split <;> omega
    · omega
end Go.Proofs.YtcoclopllbfjcaaGreatDoor
/- A float is made anew of its odd part and its exponent, whatever the way of rounding. -/
namespace Go.Proofs.YtcoclopllbfjcaaGreatDoor.Ie
set_option linter.unusedVariables false
set_option linter.unusedSimpArgs false
open Go.RowKit Go.Fl64

end Go.Proofs.YtcoclopllbfjcaaGreatDoor.Ie
/- DyadFloats: the law's walk. -/
namespace Go.Proofs.YtcoclopllbfjcaaGreatDoor
set_option linter.unusedVariables false
set_option linter.unusedSimpArgs false
open Go.RowKit Go.Fl64

end Go.Proofs.YtcoclopllbfjcaaGreatDoor
