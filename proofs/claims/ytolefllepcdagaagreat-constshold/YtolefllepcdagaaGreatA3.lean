/- Own work: contracts of the program's functions, part 3: CN3 CN4 CN5 CN6 CN7 CN8 CN9 CNA CNB. -/
import Derived.Test.YtolefllepcdagaaGreatA2
import Derived.Deep.CutBlock

set_option maxHeartbeats 16000000
set_option maxRecDepth 200000
set_option linter.unusedVariables false
set_option linter.unusedSimpArgs false
namespace Go.Proofs.YtolefllepcdagaaGreat
open Go.RowKit
theorem boxes2B (w:World) (a1:Option Addr) (n1 c1:Nat) (a2:Option Addr) (n2 c2:Nat) (p:Int):∃ W,W=(w.alloc (.cells #[.slice a1 n1 c1,.slice a2 n2 c2,.int .i64 p] 56)).alloc (.cells #[.slice none 0 0,.slice none 0 0,.int .i64 0] 56)∧Bw w W∧BdB W w.heap.size a1 n1 c1 a2 n2 c2 p∧BdB W (w.heap.size+1) none 0 0 none 0 0 0:=by
 refine⟨_,rfl,((Below.refl _ _).alloc (Nat.le_refl _) _).alloc (by simp) _,(BdB.new _ _ _ _ _ _ _ _).box ((Below.refl _ _).alloc (Nat.le_refl _) _),?_⟩
 have h:=BdB.new (w.alloc (.cells #[.slice a1 n1 c1,.slice a2 n2 c2,.int .i64 p] 56)) none 0 0 none 0 0 0
 rw[show(w.alloc (.cells #[.slice a1 n1 c1,.slice a2 n2 c2,.int .i64 p] 56)).heap.size=w.heap.size+1 by simp] at h
 exact h
theorem boxes3B (w:World) (a1:Option Addr) (n1 c1:Nat) (a2:Option Addr) (n2 c2:Nat) (p:Int) (b1:Option Addr) (m1 d1:Nat) (b2:Option Addr) (m2 d2:Nat) (q:Int):∃ W,W=((w.alloc (.cells #[.slice a1 n1 c1,.slice a2 n2 c2,.int .i64 p] 56)).alloc (.cells #[.slice b1 m1 d1,.slice b2 m2 d2,.int .i64 q] 56)).alloc (.cells #[.slice none 0 0,.slice none 0 0,.int .i64 0] 56)∧Bw w W∧BdB W w.heap.size a1 n1 c1 a2 n2 c2 p∧BdB W (w.heap.size+1) b1 m1 d1 b2 m2 d2 q∧BdB W (w.heap.size+1+1) none 0 0 none 0 0 0:=by
 refine⟨_,rfl,(((Below.refl _ _).alloc (Nat.le_refl _) _).alloc (by simp) _).alloc (by simp;omega) _,((BdB.new _ _ _ _ _ _ _ _).box ((Below.refl _ _).alloc (Nat.le_refl _) _)).box ((Below.refl _ _).alloc (Nat.le_refl _) _),?_,?_⟩
 ·have h:=(BdB.new (w.alloc (.cells #[.slice a1 n1 c1,.slice a2 n2 c2,.int .i64 p] 56)) b1 m1 d1 b2 m2 d2 q).box ((Below.refl _ _).alloc (Nat.le_refl _) (.cells #[.slice none 0 0,.slice none 0 0,.int .i64 0] 56))
  rw[show(w.alloc (.cells #[.slice a1 n1 c1,.slice a2 n2 c2,.int .i64 p] 56)).heap.size=w.heap.size+1 by simp] at h
  exact h
 ·have h:=BdB.new ((w.alloc (.cells #[.slice a1 n1 c1,.slice a2 n2 c2,.int .i64 p] 56)).alloc (.cells #[.slice b1 m1 d1,.slice b2 m2 d2,.int .i64 q] 56)) none 0 0 none 0 0 0
  rw[show((w.alloc (.cells #[.slice a1 n1 c1,.slice a2 n2 c2,.int .i64 p] 56)).alloc (.cells #[.slice b1 m1 d1,.slice b2 m2 d2,.int .i64 q] 56)).heap.size=w.heap.size+1+1 by simp] at h
  exact h
theorem bplus {A C : Value} {x y u v : Nat} {p q : Int} {w : World} (h1 : Bd2 w A x y p) (h2 : Bd2 w C u v q) (hx : dlen x ≤ 1000000) (hy : dlen y ≤ 1000000) (hu : dlen u ≤ 1000000) (hv : dlen v ≤ 1000000) :
    Calls Tryz.prog 55 #[A, C] w fun r w' => OutB w (x + u) (y + v) p r w' := by
  obtain ⟨a1, n1, c1, a2, n2, c2, rfl, i1, i2⟩ := h1
  obtain ⟨b1, m1, d1, b2, m2, d2, rfl, j1, j2⟩ := h2
  obtain ⟨W, hW, hBW, hA, hC, hR⟩ := boxes3B w a1 n1 c1 a2 n2 c2 p b1 m1 d1 b2 m2 d2 q
  have HX : Hid (Bw w W ∧ BdB W (w.heap.size + 1 + 1) none 0 0 none 0 0 0) := ⟨hBW, hR⟩
  have HK : Hid (∀ w', Bw W w' → (w'.cell? ⟨w.heap.size, 0, none⟩ = some (.slice a1 n1 c1) ∧ w'.cell? ⟨w.heap.size, 1, none⟩ = some (.slice a2 n2 c2) ∧ w'.cell? ⟨w.heap.size, 2, none⟩ = some (.int .i64 p)) ∧ (w'.cell? ⟨w.heap.size + 1, 0, none⟩ = some (.slice b1 m1 d1) ∧ w'.cell? ⟨w.heap.size + 1, 1, none⟩ = some (.slice b2 m2 d2) ∧ w'.cell? ⟨w.heap.size + 1, 2, none⟩ = some (.int .i64 q))) := fun w' hb => ⟨(hA.box hb).facts.1, (hC.box hb).facts.1⟩
  have L1 := i1.later hBW
  have L2 := i2.later hBW
  have L3 := j1.later hBW
  have L4 := j2.later hBW
  have q1 : ∀ W', Bw W W' → Calls Tryz.prog 74 #[.slice a1 n1 c1, .slice b1 m1 d1] W' fun r w' => ∃ ao n cap, r = .returned (.slice ao n cap) ∧ Hid (Is w' (.slice ao n cap) (x + u)) ∧ Bw W w' := fun W' h => (c122 (L1.later h) (L3.later h) (by omega) (by omega)).mono fun r w' ⟨v, e1, e2, e3⟩ => by
    obtain ⟨ao, n, cap, rfl⟩ := e2.is.shape
    exact ⟨ao, n, cap, e1, e2.is, h.trans (e3.mono h.size)⟩
  have q2 : ∀ W' X, Bw W W' → Is W' X (x + u) → Calls Tryz.prog 74 #[.slice a2 n2 c2, .slice b2 m2 d2] W' fun r w' => ∃ ao n cap, r = .returned (.slice ao n cap) ∧ Hid (Is w' (.slice ao n cap) (y + v)) ∧ Hid (Is w' X (x + u)) ∧ Bw W w' ∧ (w'.cell? ⟨w.heap.size + 1 + 1, 0, none⟩ = some (.slice none 0 0) ∧ w'.cell? ⟨w.heap.size + 1 + 1, 1, none⟩ = some (.slice none 0 0) ∧ w'.cell? ⟨w.heap.size + 1 + 1, 2, none⟩ = some (.int .i64 0)) ∧ w'.frozen? ⟨w.heap.size + 1 + 1, 0, none⟩ = false ∧ w'.frozen? ⟨w.heap.size + 1 + 1, 1, none⟩ = false ∧ w'.frozen? ⟨w.heap.size + 1 + 1, 2, none⟩ = false := fun W' X h hX => (c122 (L2.later h) (L4.later h) (by omega) (by omega)).mono fun r w' ⟨v, e1, e2, e3⟩ => by
    obtain ⟨ao, n, cap, rfl⟩ := e2.is.shape
    exact ⟨ao, n, cap, e1, e2.is, hX.later e3, h.trans (e3.mono h.size), (HX.out.2.box (h.trans (e3.mono h.size))).facts⟩
  have hRr : Bw W W.drew := (Below.refl _ _).drew
  obtain ⟨⟨k0, k1, k2⟩, k3, k4, k5⟩ := HK.out W (Below.refl _ _)
  clear hA hC hR hBW L1 L2 L3 L4 i1 i2 j1 j2
  go_enter Tryz.func55, Tryz.ntmps55
  go_upto_region 1 with fail
  rw [← hW]
  clear hW
  go_region_held3 (fun w' => (w'.cell? ⟨w.heap.size, 0, none⟩ = some (.slice a1 n1 c1) ∧ w'.cell? ⟨w.heap.size, 1, none⟩ = some (.slice a2 n2 c2) ∧ w'.cell? ⟨w.heap.size, 2, none⟩ = some (.int .i64 p)) ∧ (w'.cell? ⟨w.heap.size + 1, 0, none⟩ = some (.slice b1 m1 d1) ∧ w'.cell? ⟨w.heap.size + 1, 1, none⟩ = some (.slice b2 m2 d2) ∧ w'.cell? ⟨w.heap.size + 1, 2, none⟩ = some (.int .i64 q))) (first | (with_reducible assumption) | exact HK.out _ hRr | (refine HK.out _ ?_; with_reducible assumption) | (refine ⟨⟨?_, ?_, ?_⟩, ?_, ?_, ?_⟩ <;> (change World.cell? (World.setCell (World.setCell (World.setCell _ _ _) _ _) _ _) _ = _; rw [World.cell?_setCell_other _ _ _ _ (by first | (simp; done) | (simp; omega)), World.cell?_setCell_other _ _ _ _ (by first | (simp; done) | (simp; omega)), World.cell?_setCell_other _ _ _ _ (by first | (simp; done) | (simp; omega))]; first | exact (HK.out _ hb7).1.1 | exact (HK.out _ hb7).1.2.1 | exact (HK.out _ hb7).1.2.2 | exact (HK.out _ hb7).2.1 | exact (HK.out _ hb7).2.2.1 | exact (HK.out _ hb7).2.2.2)))
    (first | (go_at_call 74; with_reducible refine (q1 _ hRr).mono ?_; rintro r w5 ⟨e1, l1, g1, rfl, E1, hb5⟩)
           | (go_at_call 74; with_reducible refine (q2 _ _ hb5 E1.out).mono ?_; rintro r w7 ⟨e2, l2, g2, rfl, E2, E3, hb7, ⟨x0, x1, x2⟩, x3, x4, x5⟩))
  have HR : Hid (BdB w7 (w.heap.size + 1 + 1) none 0 0 none 0 0 0) := HX.out.2.box hb7
  have HB : Hid (Bw w w7) := HX.out.1.trans (hb7.mono HX.out.1.size)
  clear q1 q2 HK HX hRr hb5 hb7 E1 x0 x1 x2 x3 x4 x5 k0 k1 k2 k3 k4 k5
  go_wp2_with fail
  refine bodyPost_ret (results_cell_row rfl _ _ (w.heap.size + 1 + 1) 56 #[.slice e1 l1 g1, .slice e2 l2 g2, .int .i64 p] (0, 0) _ rfl (HR.out.set _ _ _ _ _ _ _) Tryz.underlying56 rfl bd_info) rfl ?_
  first | exact ⟨_, _, _, _, _, _, rfl, is_storeB E3.out HR.out _ _ _, is_storeB E2.out HR.out _ _ _, below3 HB.out (by omega) _ _ _⟩ | exact ⟨_, _, _, _, _, _, rfl, (is_storeB E3.out HR.out _ _ _).later (Below.refl _ _).drew, (is_storeB E2.out HR.out _ _ _).later (Below.refl _ _).drew, (below3 HB.out (by omega) _ _ _).drew⟩
theorem is_nilB (w:World):Is w (.slice none 0 0) 0:=by
 exact⟨none,0,by rw[dlen_zero],by rw[dlen_zero];omega,by omega,0,0,fun h=>by rw[dlen_zero] at h;omega,fun i hi=>by rw[dlen_zero] at hi;omega⟩
theorem below_drewN (w:World) (d:Nat):Below w.heap.size w (w.drewN d):=(Below.refl _ _).trans ⟨rfl,rfl,rfl,Nat.le_refl _,fun _ _=>rfl⟩
theorem bless {v1 v2:Value} {x y:Nat} {w:World} (h1:Is w v1 x) (h2:Is w v2 y) (hx:dlen x≤1000000) (hy:dlen y≤1000000) :
  Calls Tryz.prog 89 #[v1,v2] w fun r w'=>∃ v,r=.returned v∧Is w' v (x - y)∧Bw w w':=by
 have k1:=c129 h1 h2 (by omega) (by omega)
 obtain⟨a1,n1,c1,rfl⟩:=h1.shape
 obtain⟨b1,m1,d1,rfl⟩:=h2.shape
 by_cases h:x<y
 ·rw[show cmpI (x:Int) (y:Int) = -1 by unfold cmpI;rw[if_pos (by omega)]] at k1
  have HZ:Hid (x - y=0):=by show x - y=0;omega
  clear h1 h2 hx hy h
  go_enter Tryz.func89,Tryz.ntmps89
  go_wp2_with fail
  refine k1.mono ?_
  rintro r w1 ⟨rfl,d,rfl⟩
  clear k1
  go_wp2
  go_ret
  exact⟨_,rfl,by rw[HZ.out];exact is_nilB _,below_drewN _ d⟩
 ·have hlt:(cmpI (x:Int) (y:Int)<0)=False:=by
   have:¬ (x:Int)<(y:Int):=by omega
   unfold cmpI;rw[if_neg this];split <;> simp
  obtain⟨cv,hcv⟩:∃ cv,cv=cmpI (x:Int) (y:Int):=⟨_,rfl⟩
  rw[←hcv] at k1 hlt
  have K2:Hid (∀ W,Bw w W→Calls Tryz.prog 92 #[.slice a1 n1 c1,.slice b1 m1 d1] W fun e w'=>∃ v,e=.returned v∧Own w' W.heap.size v (x - y)∧Bw W w'):=fun W hW=>c138 (h1.later hW) (h2.later hW) (by omega) (by omega)
  clear h1 h2 hx hy h hcv
  go_enter Tryz.func89,Tryz.ntmps89
  go_wp2_with fail
  refine k1.mono ?_
  rintro r w1 ⟨rfl,d,rfl⟩
  have HB:Hid (Below w.heap.size w (w.drewN d)):=below_drewN _ d
  have k2:=K2.out _ HB.out
  clear k1 K2
  go_wp2_with fail
  refine k2.mono ?_
  rintro r w2 ⟨v,rfl,hO,hb⟩
  have HI:Hid (Is w2 v (x - y)∧Bw w w2):=⟨hO.is,HB.out.trans (hb.mono HB.out.size)⟩
  clear k2 hO hb HB
  go_wp2
  go_ret
  exact⟨_,rfl,HI.out.1,HI.out.2⟩
theorem bminus {A C : Value} {x y u v : Nat} {p q : Int} {w : World} (h1 : Bd2 w A x y p) (h2 : Bd2 w C u v q) (hx : dlen x ≤ 1000000) (hy : dlen y ≤ 1000000) (hu : dlen u ≤ 1000000) (hv : dlen v ≤ 1000000) (hxv : v ≤ x) (hyu : u ≤ y) :
    Calls Tryz.prog 72 #[A, C] w fun r w' => OutB w (x - v) (y - u) p r w' := by
  obtain ⟨a1, n1, c1, a2, n2, c2, rfl, i1, i2⟩ := h1
  obtain ⟨b1, m1, d1, b2, m2, d2, rfl, j1, j2⟩ := h2
  obtain ⟨W, hW, hBW, hA, hC, hR⟩ := boxes3B w a1 n1 c1 a2 n2 c2 p b1 m1 d1 b2 m2 d2 q
  have HX : Hid (Bw w W ∧ BdB W (w.heap.size + 1 + 1) none 0 0 none 0 0 0) := ⟨hBW, hR⟩
  have HK : Hid (∀ w', Bw W w' → (w'.cell? ⟨w.heap.size, 0, none⟩ = some (.slice a1 n1 c1) ∧ w'.cell? ⟨w.heap.size, 1, none⟩ = some (.slice a2 n2 c2) ∧ w'.cell? ⟨w.heap.size, 2, none⟩ = some (.int .i64 p)) ∧ (w'.cell? ⟨w.heap.size + 1, 0, none⟩ = some (.slice b1 m1 d1) ∧ w'.cell? ⟨w.heap.size + 1, 1, none⟩ = some (.slice b2 m2 d2) ∧ w'.cell? ⟨w.heap.size + 1, 2, none⟩ = some (.int .i64 q))) := fun w' hb => ⟨(hA.box hb).facts.1, (hC.box hb).facts.1⟩
  have L1 := i1.later hBW
  have L2 := i2.later hBW
  have L3 := j1.later hBW
  have L4 := j2.later hBW
  have q1 : ∀ W', Bw W W' → Calls Tryz.prog 89 #[.slice a1 n1 c1, .slice b2 m2 d2] W' fun r w' => ∃ ao n cap, r = .returned (.slice ao n cap) ∧ Hid (Is w' (.slice ao n cap) (x - v)) ∧ Bw W w' := fun W' h => (bless (L1.later h) (L4.later h) (by omega) (by omega)).mono fun r w' ⟨v, e1, e2, e3⟩ => by
    obtain ⟨ao, n, cap, rfl⟩ := e2.shape
    exact ⟨ao, n, cap, e1, e2, h.trans (e3.mono h.size)⟩
  have q2 : ∀ W' X, Bw W W' → Is W' X (x - v) → Calls Tryz.prog 89 #[.slice a2 n2 c2, .slice b1 m1 d1] W' fun r w' => ∃ ao n cap, r = .returned (.slice ao n cap) ∧ Hid (Is w' (.slice ao n cap) (y - u)) ∧ Hid (Is w' X (x - v)) ∧ Bw W w' ∧ (w'.cell? ⟨w.heap.size + 1 + 1, 0, none⟩ = some (.slice none 0 0) ∧ w'.cell? ⟨w.heap.size + 1 + 1, 1, none⟩ = some (.slice none 0 0) ∧ w'.cell? ⟨w.heap.size + 1 + 1, 2, none⟩ = some (.int .i64 0)) ∧ w'.frozen? ⟨w.heap.size + 1 + 1, 0, none⟩ = false ∧ w'.frozen? ⟨w.heap.size + 1 + 1, 1, none⟩ = false ∧ w'.frozen? ⟨w.heap.size + 1 + 1, 2, none⟩ = false := fun W' X h hX => (bless (L2.later h) (L3.later h) (by omega) (by omega)).mono fun r w' ⟨v, e1, e2, e3⟩ => by
    obtain ⟨ao, n, cap, rfl⟩ := e2.shape
    exact ⟨ao, n, cap, e1, e2, hX.later e3, h.trans (e3.mono h.size), (HX.out.2.box (h.trans (e3.mono h.size))).facts⟩
  have hRr : Bw W W.drew := (Below.refl _ _).drew
  obtain ⟨⟨k0, k1, k2⟩, k3, k4, k5⟩ := HK.out W (Below.refl _ _)
  clear hA hC hR hBW L1 L2 L3 L4 i1 i2 j1 j2
  go_enter Tryz.func72, Tryz.ntmps72
  go_upto_region 1 with fail
  rw [← hW]
  clear hW
  go_region_held3 (fun w' => (w'.cell? ⟨w.heap.size, 0, none⟩ = some (.slice a1 n1 c1) ∧ w'.cell? ⟨w.heap.size, 1, none⟩ = some (.slice a2 n2 c2) ∧ w'.cell? ⟨w.heap.size, 2, none⟩ = some (.int .i64 p)) ∧ (w'.cell? ⟨w.heap.size + 1, 0, none⟩ = some (.slice b1 m1 d1) ∧ w'.cell? ⟨w.heap.size + 1, 1, none⟩ = some (.slice b2 m2 d2) ∧ w'.cell? ⟨w.heap.size + 1, 2, none⟩ = some (.int .i64 q))) (first | (with_reducible assumption) | exact HK.out _ hRr | (refine HK.out _ ?_; with_reducible assumption) | (refine ⟨⟨?_, ?_, ?_⟩, ?_, ?_, ?_⟩ <;> (change World.cell? (World.setCell (World.setCell (World.setCell _ _ _) _ _) _ _) _ = _; rw [World.cell?_setCell_other _ _ _ _ (by first | (simp; done) | (simp; omega)), World.cell?_setCell_other _ _ _ _ (by first | (simp; done) | (simp; omega)), World.cell?_setCell_other _ _ _ _ (by first | (simp; done) | (simp; omega))]; first | exact (HK.out _ hb7).1.1 | exact (HK.out _ hb7).1.2.1 | exact (HK.out _ hb7).1.2.2 | exact (HK.out _ hb7).2.1 | exact (HK.out _ hb7).2.2.1 | exact (HK.out _ hb7).2.2.2)))
    (first | (go_at_call 89; with_reducible refine (q1 _ hRr).mono ?_; rintro r w5 ⟨e1, l1, g1, rfl, E1, hb5⟩)
           | (go_at_call 89; with_reducible refine (q2 _ _ hb5 E1.out).mono ?_; rintro r w7 ⟨e2, l2, g2, rfl, E2, E3, hb7, ⟨x0, x1, x2⟩, x3, x4, x5⟩))
  have HR : Hid (BdB w7 (w.heap.size + 1 + 1) none 0 0 none 0 0 0) := HX.out.2.box hb7
  have HB : Hid (Bw w w7) := HX.out.1.trans (hb7.mono HX.out.1.size)
  clear q1 q2 HK HX hRr hb5 hb7 E1 x0 x1 x2 x3 x4 x5 k0 k1 k2 k3 k4 k5
  go_wp2_with fail
  refine bodyPost_ret (results_cell_row rfl _ _ (w.heap.size + 1 + 1) 56 #[.slice e1 l1 g1, .slice e2 l2 g2, .int .i64 p] (0, 0) _ rfl (HR.out.set _ _ _ _ _ _ _) Tryz.underlying56 rfl bd_info) rfl ?_
  first | exact ⟨_, _, _, _, _, _, rfl, is_storeB E3.out HR.out _ _ _, is_storeB E2.out HR.out _ _ _, below3 HB.out (by omega) _ _ _⟩ | exact ⟨_, _, _, _, _, _, rfl, (is_storeB E3.out HR.out _ _ _).later (Below.refl _ _).drew, (is_storeB E2.out HR.out _ _ _).later (Below.refl _ _).drew, (below3 HB.out (by omega) _ _ _).drew⟩
theorem btimesL {A M : Value} {x y n : Nat} {p : Int} {w : World} (h1 : Bd2 w A x y p) (hM : Is w M n) (hx : dlen x ≤ 1000000) (hy : dlen y ≤ 1000000) (hdn : dlen n ≤ 1000000) :
    Calls Tryz.prog 58 #[A, M] w fun r w' => OutB w (x * n) (y * n) p r w' := by
  obtain ⟨a1, n1, c1, a2, n2, c2, rfl, i1, i2⟩ := h1
  obtain ⟨b0, m0, d0, rfl⟩ := hM.shape
  obtain ⟨W, hW, hBW, hA, hR⟩ := boxes2B w a1 n1 c1 a2 n2 c2 p
  have L1 := i1.later hBW
  have L2 := i2.later hBW
  have L3 := hM.later hBW
  have HV : Hid (Bw w W ∧ BdB W w.heap.size a1 n1 c1 a2 n2 c2 p ∧ BdB W (w.heap.size + 1) none 0 0 none 0 0 0) := ⟨hBW, hA, hR⟩
  have HK : Hid (∀ w', Bw W w' → (w'.cell? ⟨w.heap.size, 0, none⟩ = some (.slice a1 n1 c1) ∧ w'.cell? ⟨w.heap.size, 1, none⟩ = some (.slice a2 n2 c2) ∧ w'.cell? ⟨w.heap.size, 2, none⟩ = some (.int .i64 p))) := fun w' hb => (HV.out.2.1.box hb).facts.1
  have q1 : ∀ W', Bw W W' → Calls Tryz.prog 64 #[.slice a1 n1 c1, .slice b0 m0 d0] W' fun r w' => ∃ ao l cap, r = .returned (.slice ao l cap) ∧ Hid (Is w' (.slice ao l cap) (x * n)) ∧ Bw W w' := fun W' h => (c143 (L1.later h) (L3.later h) (by omega) (by omega)).mono fun r w' ⟨v, e1, e2, e3⟩ => by
    obtain ⟨ao, l, cap, rfl⟩ := e2.is.shape
    exact ⟨ao, l, cap, e1, e2.is, h.trans (e3.mono h.size)⟩
  have q2 : ∀ W' X, Bw W W' → Is W' X (x * n) → Calls Tryz.prog 64 #[.slice a2 n2 c2, .slice b0 m0 d0] W' fun r w' => ∃ ao l cap, r = .returned (.slice ao l cap) ∧ Hid (Is w' (.slice ao l cap) (y * n)) ∧ Hid (Is w' X (x * n)) ∧ Bw W w' ∧ (w'.cell? ⟨w.heap.size + 1, 0, none⟩ = some (.slice none 0 0) ∧ w'.cell? ⟨w.heap.size + 1, 1, none⟩ = some (.slice none 0 0) ∧ w'.cell? ⟨w.heap.size + 1, 2, none⟩ = some (.int .i64 0)) ∧ w'.frozen? ⟨w.heap.size + 1, 0, none⟩ = false ∧ w'.frozen? ⟨w.heap.size + 1, 1, none⟩ = false ∧ w'.frozen? ⟨w.heap.size + 1, 2, none⟩ = false := fun W' X h hX => (c143 (L2.later h) (L3.later h) (by omega) (by omega)).mono fun r w' ⟨v, e1, e2, e3⟩ => by
    obtain ⟨ao, l, cap, rfl⟩ := e2.is.shape
    exact ⟨ao, l, cap, e1, e2.is, hX.later e3, h.trans (e3.mono h.size), (HV.out.2.2.box (h.trans (e3.mono h.size))).facts⟩
  have hRr : Bw W W.drew := (Below.refl _ _).drew
  obtain ⟨k0, k1, k2⟩ := HK.out W (Below.refl _ _)
  clear hA hR hBW L1 L2 L3 i1 i2 hM
  go_enter Tryz.func58, Tryz.ntmps58
  go_upto_region 1 with fail
  rw [← hW]
  clear hW
  go_region_held3 (fun w' => (w'.cell? ⟨w.heap.size, 0, none⟩ = some (.slice a1 n1 c1) ∧ w'.cell? ⟨w.heap.size, 1, none⟩ = some (.slice a2 n2 c2) ∧ w'.cell? ⟨w.heap.size, 2, none⟩ = some (.int .i64 p))) (first | (with_reducible assumption) | exact HK.out _ hRr | (refine HK.out _ ?_; with_reducible assumption) | (refine ⟨?_, ?_, ?_⟩ <;> (change World.cell? (World.setCell (World.setCell (World.setCell _ _ _) _ _) _ _) _ = _; rw [World.cell?_setCell_other _ _ _ _ (by first | (simp; done) | (simp; omega)), World.cell?_setCell_other _ _ _ _ (by first | (simp; done) | (simp; omega)), World.cell?_setCell_other _ _ _ _ (by first | (simp; done) | (simp; omega))]; first | exact (HK.out _ hb7).1 | exact (HK.out _ hb7).2.1 | exact (HK.out _ hb7).2.2)))
    (first | (go_at_call 64; with_reducible refine (q1 _ hRr).mono ?_; rintro r w5 ⟨e1, l1, g1, rfl, E1, hb5⟩)
           | (go_at_call 64; with_reducible refine (q2 _ _ hb5 E1.out).mono ?_; rintro r w7 ⟨e2, l2, g2, rfl, E2, E3, hb7, ⟨x0, x1, x2⟩, x3, x4, x5⟩))
  have HR : Hid (BdB w7 (w.heap.size + 1) none 0 0 none 0 0 0) := HV.out.2.2.box hb7
  have HB : Hid (Bw w w7) := HV.out.1.trans (hb7.mono HV.out.1.size)
  clear q1 q2 HK HV hRr hb5 hb7 E1 x0 x1 x2 x3 x4 x5 k0 k1 k2
  go_wp2_with fail
  refine bodyPost_ret (results_cell_row rfl _ _ (w.heap.size + 1) 56 #[.slice e1 l1 g1, .slice e2 l2 g2, .int .i64 p] (0, 0) _ rfl (HR.out.set _ _ _ _ _ _ _) Tryz.underlying56 rfl bd_info) rfl ?_
  first | exact ⟨_, _, _, _, _, _, rfl, is_storeB E3.out HR.out _ _ _, is_storeB E2.out HR.out _ _ _, below3 HB.out (by omega) _ _ _⟩ | exact ⟨_, _, _, _, _, _, rfl, (is_storeB E3.out HR.out _ _ _).later (Below.refl _ _).drew, (is_storeB E2.out HR.out _ _ _).later (Below.refl _ _).drew, (below3 HB.out (by omega) _ _ _).drew⟩
theorem btimes {A : Value} {x y n : Nat} {p : Int} {w : World} (h1 : Bd2 w A x y p) (hx : dlen x ≤ 1000000) (hy : dlen y ≤ 1000000) (hn : n < 18446744073709551616) :
    Calls Tryz.prog 34 #[A, .int .u64 n] w fun r w' => OutB w (x * n) (y * n) p r w' := by
  obtain ⟨a1, n1, c1, a2, n2, c2, rfl, i1, i2⟩ := h1
  obtain ⟨W, hW, hBW, hA, hR⟩ := boxes2B w a1 n1 c1 a2 n2 c2 p
  have hdn : dlen n ≤ 2 := (dlen_le 2 _).2 (by unfold B; omega)
  have L1 := i1.later hBW
  have L2 := i2.later hBW
  have HV : Hid (Bw w W ∧ BdB W w.heap.size a1 n1 c1 a2 n2 c2 p ∧ BdB W (w.heap.size + 1) none 0 0 none 0 0 0) := ⟨hBW, hA, hR⟩
  have HK : Hid (∀ w', Bw W w' → (w'.cell? ⟨w.heap.size, 0, none⟩ = some (.slice a1 n1 c1) ∧ w'.cell? ⟨w.heap.size, 1, none⟩ = some (.slice a2 n2 c2) ∧ w'.cell? ⟨w.heap.size, 2, none⟩ = some (.int .i64 p))) := fun w' hb => (HV.out.2.1.box hb).facts.1
  have q1 : ∀ W', Bw W W' → Calls Tryz.prog 59 #[.int .u64 n] W' fun r w' => ∃ ao l cap, r = .returned (.slice ao l cap) ∧ Hid (Is w' (.slice ao l cap) n) ∧ Bw W w' := fun W' h => (c57 n W' hn).mono fun r w' ⟨v, e1, e2, e3⟩ => by
    obtain ⟨ao, l, cap, rfl⟩ := e2.is.shape
    exact ⟨ao, l, cap, e1, e2.is, h.trans (e3.mono h.size)⟩
  have q2 : ∀ W' M, Bw W W' → Is W' M n → Calls Tryz.prog 58 #[.agg #[.slice a1 n1 c1, .slice a2 n2 c2, .int .i64 p], M] W' fun r w' => ∃ e1 g1 h1 e2 g2 h2, r = .returned (.agg #[.slice e1 g1 h1, .slice e2 g2 h2, .int .i64 p]) ∧ Hid (Is w' (.slice e1 g1 h1) (x * n)) ∧ Hid (Is w' (.slice e2 g2 h2) (y * n)) ∧ Bw W w' ∧ (w'.cell? ⟨w.heap.size + 1, 0, none⟩ = some (.slice none 0 0) ∧ w'.cell? ⟨w.heap.size + 1, 1, none⟩ = some (.slice none 0 0) ∧ w'.cell? ⟨w.heap.size + 1, 2, none⟩ = some (.int .i64 0)) ∧ w'.frozen? ⟨w.heap.size + 1, 0, none⟩ = false ∧ w'.frozen? ⟨w.heap.size + 1, 1, none⟩ = false ∧ w'.frozen? ⟨w.heap.size + 1, 2, none⟩ = false := fun W' M h hM => (btimesL (p := p) ⟨a1, n1, c1, a2, n2, c2, rfl, L1.later h, L2.later h⟩ hM hx hy (by omega)).mono fun r w' ⟨e1, g1, h1, e2, g2, h2, e, j1, j2, hb⟩ => ⟨e1, g1, h1, e2, g2, h2, e, j1, j2, h.trans (hb.mono h.size), (HV.out.2.2.box (h.trans (hb.mono h.size))).facts⟩
  have hRr : Bw W W.drew := (Below.refl _ _).drew
  obtain ⟨k0, k1, k2⟩ := HK.out W (Below.refl _ _)
  clear hA hR hBW L1 L2 i1 i2
  go_enter Tryz.func34, Tryz.ntmps34
  go_upto_region 1 with fail
  rw [← hW]
  clear hW
  go_region_held3 (fun w' => (w'.cell? ⟨w.heap.size, 0, none⟩ = some (.slice a1 n1 c1) ∧ w'.cell? ⟨w.heap.size, 1, none⟩ = some (.slice a2 n2 c2) ∧ w'.cell? ⟨w.heap.size, 2, none⟩ = some (.int .i64 p))) (first | (with_reducible assumption) | exact HK.out _ hRr | (refine HK.out _ ?_; with_reducible assumption) | (refine ⟨?_, ?_, ?_⟩ <;> (change World.cell? (World.setCell (World.setCell (World.setCell _ _ _) _ _) _ _) _ = _; rw [World.cell?_setCell_other _ _ _ _ (by first | (simp; done) | (simp; omega)), World.cell?_setCell_other _ _ _ _ (by first | (simp; done) | (simp; omega)), World.cell?_setCell_other _ _ _ _ (by first | (simp; done) | (simp; omega))]; first | exact (HK.out _ hb7).1 | exact (HK.out _ hb7).2.1 | exact (HK.out _ hb7).2.2)))
    (first | (go_at_call 59; with_reducible refine (q1 _ hRr).mono ?_; rintro r w5 ⟨f1, l1, g1, rfl, E1, hb5⟩)
           | (go_at_call 58; with_reducible refine (q2 _ _ hb5 E1.out).mono ?_; rintro r w7 ⟨e1, l1', g1', e2, l2, g2, rfl, E2, E3, hb7, ⟨x0, x1, x2⟩, x3, x4, x5⟩))
  have HR : Hid (BdB w7 (w.heap.size + 1) none 0 0 none 0 0 0) := HV.out.2.2.box hb7
  have HB : Hid (Bw w w7) := HV.out.1.trans (hb7.mono HV.out.1.size)
  clear q1 q2 HK HV hRr hb5 hb7 E1 x0 x1 x2 x3 x4 x5 k0 k1 k2
  go_wp2_with fail
  refine bodyPost_ret (results_cell_row rfl _ _ (w.heap.size + 1) 56 #[.slice e1 l1' g1', .slice e2 l2 g2, .int .i64 p] (0, 0) _ rfl (HR.out.set _ _ _ _ _ _ _) Tryz.underlying56 rfl bd_info) rfl ?_
  first | exact ⟨_, _, _, _, _, _, rfl, is_storeB E2.out HR.out _ _ _, is_storeB E3.out HR.out _ _ _, below3 HB.out (by omega) _ _ _⟩ | exact ⟨_, _, _, _, _, _, rfl, (is_storeB E2.out HR.out _ _ _).later (Below.refl _ _).drew, (is_storeB E3.out HR.out _ _ _).later (Below.refl _ _).drew, (below3 HB.out (by omega) _ _ _).drew⟩
theorem bhalved {A:Value} {x y:Nat} {p:Int} {w:World} (h1:Bd2 w A x y p) (hp1 : -1000000000≤p) (hp2:p≤1000000000) :
  Calls Tryz.prog 52 #[A] w fun r w'=>OutB w x y (p+1) r w':=by
 obtain⟨a1,n1,c1,a2,n2,c2,rfl,i1,i2⟩:=h1
 have hN:=BdB.new (w.alloc (.cells #[.slice a1 n1 c1,.slice a2 n2 c2,.int .i64 p] 56)) a1 n1 c1 a2 n2 c2 (p+1)
 rw[show(w.alloc (.cells #[.slice a1 n1 c1,.slice a2 n2 c2,.int .i64 p] 56)).heap.size=w.heap.size+1 by simp] at hN
 have HB:Hid (Below w.heap.size w ((w.alloc (.cells #[.slice a1 n1 c1,.slice a2 n2 c2,.int .i64 p] 56)).alloc (.cells #[.slice a1 n1 c1,.slice a2 n2 c2,.int .i64 (p+1)] 56))):=((Below.refl _ _).alloc (Nat.le_refl _) _).alloc (by simp) _
 have HN:Hid (BdB ((w.alloc (.cells #[.slice a1 n1 c1,.slice a2 n2 c2,.int .i64 p] 56)).alloc (.cells #[.slice a1 n1 c1,.slice a2 n2 c2,.int .i64 (p+1)] 56)) (w.heap.size+1) a1 n1 c1 a2 n2 c2 (p+1)):=hN
 have HI:Hid (Is w (.slice a1 n1 c1) x∧Is w (.slice a2 n2 c2) y):=⟨i1,i2⟩
 clear hN i1 i2
 go_enter Tryz.func52,Tryz.ntmps52
 go_wp2_with fail
 refine bodyPost_ret (results_cell_row rfl _ _ (w.heap.size+1) 56 #[.slice a1 n1 c1,.slice a2 n2 c2,.int .i64 (p+1)] (0,0) _ rfl HN.out Tryz.underlying56 rfl bd_info) rfl ?_
 exact⟨_,_,_,_,_,_,rfl,HI.out.1.later HB.out,HI.out.2.later HB.out,HB.out⟩
theorem dlen_shl {x k n:Nat} (hx:dlen x≤n):dlen (x*2^k)≤n+k / 32+1:=by
 rw[dlen_le] at hx ⊢
 have h1:x*2^k<B^n*2^k:=Nat.mul_lt_mul_of_pos_right hx (Nat.two_pow_pos k)
 refine Nat.lt_of_lt_of_le h1 ?_
 rw[Nat.add_assoc,Nat.pow_add]
 refine Nat.mul_le_mul_left _ ?_
 rw[B_two,←Nat.pow_mul]
 exact Nat.pow_le_pow_right (by decide) (by omega)
theorem bwhole {n p:Nat} {w:World} (hn:n<18446744073709551616) (hp:p≤1000000) :
  Calls Tryz.prog 57 #[.int .u64 n,.int .i64 p] w fun r w'=>OutB w (n*2^p) (n*2^p) p r w':=by
 obtain⟨W,hW,hBW,hR⟩:=zeroB w
 have k1:=c57 n W hn
 have hdn:dlen n≤2:=(dlen_le 2 _).2 (by unfold B;omega)
 have HX:Hid (Bw w W∧BdB W w.heap.size none 0 0 none 0 0 0):=⟨hBW,hR⟩
 clear hBW hR
 go_enter Tryz.func57,Tryz.ntmps57
 go_wp2_with fail
 rw[←hW]
 clear hW
 refine k1.mono ?_
 rintro r w1 ⟨v1,rfl,hO,hb1⟩
 have k2:=c109 hO.is p (by omega) (by omega)
 have HB1:Hid (Bw W w1):=hb1
 obtain⟨b1,m1,d1,rfl⟩:=hO.is.shape
 clear k1 hO hb1
 go_wp2_with fail
 refine k2.mono ?_
 rintro r w2 ⟨v2,rfl,hO,hb2⟩
 obtain⟨b2,m2,d2,rfl⟩:=hO.is.shape
 have hb3:Bw W w2:=HB1.out.trans (hb2.mono HB1.out.size)
 have HR:Hid (BdB w2 w.heap.size none 0 0 none 0 0 0):=HX.out.2.box hb3
 obtain⟨⟨e0,e1,e2⟩,f0,f1,f2⟩:=HR.out.facts
 have HO:Hid (Is w2 (.slice b2 m2 d2) (n*2^p)∧Bw w w2):=⟨hO.is,HX.out.1.trans (hb3.mono HX.out.1.size)⟩
 clear k2 hO hb2 hb3 HB1 HX
 go_wp2_with fail
 refine bodyPost_ret (results_cell_row rfl _ _ w.heap.size 56 #[.slice b2 m2 d2,.slice b2 m2 d2,.int .i64 p] (0,0) _ rfl (HR.out.set _ _ _ _ _ _ _) Tryz.underlying56 rfl bd_info) rfl ?_
 exact⟨_,_,_,_,_,_,rfl,is_storeB HO.out.1 HR.out _ _ _,is_storeB HO.out.1 HR.out _ _ _,below3 HO.out.2 (Nat.le_refl _) _ _ _⟩
theorem root_uniq {q r x:Nat} (h1:q*q≤x) (h2:x<(q+1)*(q+1)) (h3:r*r≤x) (h4:x<(r+1)*(r+1)):r=q:=by
 rcases Nat.lt_trichotomy q r with h|h|h
 ·have:=Nat.mul_le_mul (show q+1≤r from h) (show q+1≤r from h);omega
 ·exact h.symm
 ·have:=Nat.mul_le_mul (show r+1≤q from h) (show r+1≤q from h);omega
theorem broot {n p q:Nat} {w:World} (hn:n<18446744073709551616) (hp:p≤1000000) (h1:q*q≤n*2^(2*p)) (h2:n*2^(2*p)<(q+1)*(q+1)) :
  Calls Tryz.prog 56 #[.int .u64 n,.int .i64 p] w fun r w'=>OutB w q (q+1) p r w':=by
 obtain⟨W,hW,hBW,hR⟩:=zeroB w
 have k1:=c57 n W hn
 have hdn:dlen n≤2:=(dlen_le 2 _).2 (by unfold B;omega)
 have hds:dlen (n*2^(2*p))≤1000000:=Nat.le_trans (dlen_shl hdn) (by omega)
 have hdq:dlen q≤1000000:=Nat.le_trans (dlen_mono (by
  rcases Nat.eq_zero_or_pos q with h|h
  ·omega
  ·exact Nat.le_trans (Nat.le_mul_of_pos_right q h) h1)) hds
 have hd1:dlen 1≤1:=(dlen_le 1 1).2 (by decide)
 have HX:Hid (Bw w W∧BdB W w.heap.size none 0 0 none 0 0 0∧q*q≤n*2^(2*p)∧n*2^(2*p)<(q+1)*(q+1)):=⟨hBW,hR,h1,h2⟩
 clear hBW hR h1 h2
 go_enter Tryz.func56,Tryz.ntmps56
 go_wp2_with fail
 rw[←hW]
 clear hW
 refine k1.mono ?_
 rintro r w1 ⟨v1,rfl,hO,hb1⟩
 have k2:=c109 hO.is (2*p) (by omega) (by omega)
 rw[show((2*p:Nat):Int)=2*(p:Int) by omega] at k2
 have HB1:Hid (Bw W w1):=hb1
 obtain⟨b1,m1,d1,rfl⟩:=hO.is.shape
 clear k1 hO hb1
 go_wp2_with fail
 refine k2.mono ?_
 rintro r w2 ⟨v2,rfl,hO,hb2⟩
 have k3:=c112 hO.is (by omega)
 obtain⟨b2,m2,d2,rfl⟩:=hO.is.shape
 have HB2:Hid (Bw W w2):=HB1.out.trans (hb2.mono HB1.out.size)
 clear k2 hO hb2 HB1
 go_wp2_with fail
 refine k3.mono ?_
 rintro r w3 ⟨v3,q',rfl,hO,g1,g2,hb3⟩
 obtain rfl:q'=q:=root_uniq HX.out.2.2.1 HX.out.2.2.2 g1 g2
 obtain⟨b3,m3,d3,rfl⟩:=hO.is.shape
 have HB3:Hid (Bw W w3):=HB2.out.trans (hb3.mono HB2.out.size)
 have HI3:Hid (Is w3 (.slice b3 m3 d3) q'):=hO.is
 have k5:=fshort (p:=(p:Int)) (lost:=1) hO.is (by omega) (by omega)
 clear k3 hO hb3 HB2 g1 g2
 generalize decide (q'*q'=n*2^(2*p))=ex
 go_wp2_with fail
 refine k5.mono ?_
 rintro r w5 ⟨b4,m4,d4,b5,m5,d5,rfl,j1,j2,hb5⟩
 have hb6:Bw W w5:=HB3.out.trans (hb5.mono HB3.out.size)
 have HR:Hid (BdB w5 w.heap.size none 0 0 none 0 0 0):=HX.out.2.1.box hb6
 obtain⟨⟨e0,e1,e2⟩,f0,f1,f2⟩:=HR.out.facts
 have HO:Hid (Is w5 (.slice b4 m4 d4) q'∧Is w5 (.slice b5 m5 d5) (q'+1)∧Bw w w5):=⟨j1,j2,HX.out.1.trans (hb6.mono HX.out.1.size)⟩
 clear k5 j1 j2 hb5 hb6 HI3 HB3 HX
 go_wp2_with fail
 refine bodyPost_ret (results_cell_row rfl _ _ w.heap.size 56 #[.slice b4 m4 d4,.slice b5 m5 d5,.int .i64 p] (0,0) _ rfl (HR.out.set _ _ _ _ _ _ _) Tryz.underlying56 rfl bd_info) rfl ?_
 exact⟨_,_,_,_,_,_,rfl,is_storeB HO.out.1 HR.out _ _ _,is_storeB HO.out.2.1 HR.out _ _ _,below3 HO.out.2.2 (Nat.le_refl _) _ _ _⟩
def pwS (n p j:Nat):Nat:=2^p / n^(2*j+1)
def evS (n p:Nat):Nat→Nat
 | 0=>0
 | j+1=>if j % 2=0 then evS n p j+pwS n p j / (2*j+1)else evS n p j
def odS (n p:Nat):Nat→Nat
 | 0=>0
 | j+1=>if j % 2=0 then odS n p j else odS n p j+pwS n p j / (2*j+1)
theorem pwS_next (n p j:Nat):pwS n p j / (n*n)=pwS n p (j+1):=by
 unfold pwS
 rw[Nat.div_div_eq_div_mul,show 2*(j+1)+1=(2*j+1)+2 by omega,Nat.pow_add n (2*j+1) 2,Nat.pow_two]
theorem pwS_le (n p j:Nat):pwS n p j≤2^p:=Nat.div_le_self _ _
theorem pwS_pos {n p j:Nat} (hn:2≤n) (h:pwS n p j≠0):2*j+1≤p:=by
 rcases Nat.lt_or_ge p (2*j+1)with h1|h1
 ·exfalso
  apply h
  unfold pwS
  refine Nat.div_eq_of_lt ?_
  exact Nat.lt_of_lt_of_le (Nat.pow_lt_pow_right (by decide) h1) (Nat.pow_le_pow_left hn _)
 ·exact h1
theorem sS_le (n p:Nat):∀ j,evS n p j≤j*2^p∧odS n p j≤j*2^p
 | 0=>⟨Nat.zero_le _,Nat.zero_le _⟩
 | j+1=>by
  obtain⟨h1,h2⟩:=sS_le n p j
  have h3:=Nat.le_trans (Nat.div_le_self (pwS n p j) (2*j+1)) (pwS_le n p j)
  unfold evS odS
  rw[Nat.add_mul,Nat.one_mul]
  generalize j*2^p=A at *
  generalize 2^p=P at *
  generalize pwS n p j / (2*j+1)=T at *
  split <;> omega
theorem dlen_two (p:Nat) {m k:Nat} (hm:m<B) (hk:p / 32+2≤k):dlen (m*2^p)≤k:=by
 have h:=dlen_shl (x:=m) (k:=p) (n:=1) ((dlen_le 1 m).2 (by rw[Nat.pow_one];exact hm))
 omega
theorem dlen_bound {x m p:Nat} (h:x≤m*2^p) (hm:m<B) (hp:p≤1000000):dlen x≤40000:=Nat.le_trans (dlen_mono h) (dlen_two p hm (by omega))
theorem results_cell2 {P:Program} {fn:Func} {p q:Tmp} {ty:TypeId} (h:fn.results = #[.cell p ty,.cell q ty]) (tmps:Array Value) (w:World) (g k:Nat) (t:TypeId) (cs ds:Array Value) (fr fs:Nat×Nat) (d:TypeDesc)
  (hp:tmps.getD p undef=.pointer (some ⟨g,0,none⟩)) (hq:tmps.getD q undef=.pointer (some ⟨k,0,none⟩)) (hg:w.heap[g]?=some (.cells cs t fr)) (hk:w.heap[k]?=some (.cells ds t fs))
  (hu:P.underlying ty=some d) (hd:(match d with | .struct _ | .array _ _=>true|_=>false)=true) (hi:(P.info? ty).map (·.size)=some cs.size) (hj:(P.info? ty).map (·.size)=some ds.size) :
  (results fn tmps).run P w=.ok (.tuple #[.agg cs,.agg ds]) w:=by
 have hp':tmps[p]?.getD undef=.pointer (some ⟨g,0,none⟩):=by simpa using hp
 have hq':tmps[q]?.getD undef=.pointer (some ⟨k,0,none⟩):=by simpa using hq
 simp[results,h,hp',hq',asAddr,run_loadVar_row w g t ty cs fr d hg hu hd hi,run_loadVar_row w k t ty ds fs d hk hu hd hj,Result.andThen]
theorem bd_other {W:World} {g k:Nat} {a1:Option Addr} {n1 c1:Nat} {a2:Option Addr} {n2 c2:Nat} {p:Int} (h:BdB W k a1 n1 c1 a2 n2 c2 p) (hk:k≠g) (a b c:Value):BdB (((W.setCell ⟨g,0,none⟩ a).setCell ⟨g,1,none⟩ b).setCell ⟨g,2,none⟩ c) k a1 n1 c1 a2 n2 c2 p:=by
 unfold BdB at *
 have h':¬ g=k:=fun e=>hk e.symm
 simp[World.setCell,Array.getElem?_modify,h',h]
theorem bseries {n p:Nat} {w:World} (hn1:3≤n) (hn2:n≤65535) (hp:p≤1000000) :
  Calls Tryz.prog 76 #[.int .u32 n,.int .i64 p] w fun r w'=>∃ j a1 l1 c1 a2 l2 c2 b1 m1 d1 b2 m2 d2,pwS n p j=0∧j≤p+1∧r=.returned (.tuple #[.agg #[.slice a1 l1 c1,.slice a2 l2 c2,.int .i64 p],.agg #[.slice b1 m1 d1,.slice b2 m2 d2,.int .i64 p]])∧Is w' (.slice a1 l1 c1) (evS n p j)∧Is w' (.slice a2 l2 c2) (evS n p j+(j+2))∧Is w' (.slice b1 m1 d1) (odS n p j)∧Is w' (.slice b2 m2 d2) (odS n p j+(j+2))∧Bw w w':=by
 obtain⟨W,hW⟩:∃ W,W=(w.alloc (.cells #[.slice none 0 0,.slice none 0 0,.int .i64 0] 56)).alloc (.cells #[.slice none 0 0,.slice none 0 0,.int .i64 0] 56):=⟨_,rfl⟩
 have hBW:Bw w W:=by rw[hW];exact((Below.refl _ _).alloc (Nat.le_refl _) _).alloc (by simp) _
 obtain⟨W',hW',-,hR1,hR2⟩:=boxes2B w none 0 0 none 0 0 0
 obtain rfl:W'=W:=hW'.trans hW.symm
 have HX:Hid (Bw w W'∧BdB W' w.heap.size none 0 0 none 0 0 0∧BdB W' (w.heap.size+1) none 0 0 none 0 0 0):=⟨hBW,hR1,hR2⟩
 have k1:=c57 1 W' (by omega)
 have hd1:dlen 1≤1:=(dlen_le 1 1).2 (by decide)
 clear hBW hR1 hR2 hW'
 go_enter Tryz.func76,Tryz.ntmps76
 go_wp2_with fail
 rw[←hW]
 clear hW
 refine k1.mono ?_
 rintro r w1 ⟨v1,rfl,hO,hb1⟩
 have k2:=c109 hO.is p (by omega) (by omega)
 have HB1:Hid (Bw W' w1):=hb1
 obtain⟨b1,m1,d1,rfl⟩:=hO.is.shape
 clear k1 hO hb1
 go_wp2_with fail
 refine k2.mono ?_
 rintro r w2 ⟨v2,rfl,hO,hb2⟩
 rw[Nat.one_mul] at hO
 have hdp:dlen (2^p)≤40000:=dlen_bound (m:=1) (by omega) (by decide) hp
 have k3:=quod hO.is (by omega) (show 0<n by omega) (show n<B by unfold B;omega)
 obtain⟨b2,m2,d2,rfl⟩:=hO.is.shape
 have HB2:Hid (Bw W' w2):=HB1.out.trans (hb2.mono HB1.out.size)
 clear k2 hO hb2 HB1
 go_wp2_with fail
 refine k3.mono ?_
 rintro r w3 ⟨v3,rfl,hO,hb3⟩
 have HI:Hid (Is w3 v3 (pwS n p 0)∧Bw W' w3):=⟨by unfold pwS;rw[Nat.mul_zero,Nat.zero_add,Nat.pow_one];exact hO.is,HB2.out.trans (hb3.mono HB2.out.size)⟩
 generalize 2^p % n=rr at *
 clear k3 hO hb3 HB2 hdp
 obtain⟨b3,m3,d3,rfl⟩:=HI.out.1.shape
 go_upto_block 0 with fail
 have H0:Hid (Is w3 (.slice none 0 0) 0):=⟨none,0,by rw[dlen_zero],by rw[dlen_zero];omega,by omega,0,0,fun h=>by rw[dlen_zero] at h;omega,fun i hi=>by rw[dlen_zero] at hi;omega⟩
 go_wp2_with fail
 go_loopw [6,7,8,10] (fun ev od pw ct wr=>∃ (j:Nat) (a1:Option Addr) (l1 c1:Nat) (a2:Option Addr) (l2 c2:Nat) (a3:Option Addr) (l3 c3:Nat),ev=.slice a1 l1 c1∧od=.slice a2 l2 c2∧pw=.slice a3 l3 c3∧ct=.int .u32 j∧j≤p+1∧Hid (Is wr (.slice a1 l1 c1) (evS n p j)∧Is wr (.slice a2 l2 c2) (odS n p j)∧Is wr (.slice a3 l3 c3) (pwS n p j)∧Bw W' wr)) (fun _ _ _ ct _=>p+1 - (intOf ct).toNat)
 case atStart=>exact⟨0,none,0,0,none,0,0,b3,m3,d3,rfl,rfl,rfl,rfl,by omega,⟨H0.out,H0.out,HI.out.1,HI.out.2⟩⟩
 case round =>
  obtain⟨j,a1,l1,c1,a2,l2,c2,a3,l3,c3,rfl,rfl,rfl,rfl,hj,HJ⟩:=hrel
  clear HI H0
  have hl3:l3=dlen (pwS n p j):=by
   obtain⟨ao,cap,e,-⟩:=HJ.out.2.2.1
   injection e
  by_cases h0:pwS n p j=0
  ·have hl0:¬ (0:Int)<(l3:Int):=by rw[hl3,h0,dlen_zero];omega
   obtain⟨hs1,hs2⟩:=sS_le n p j
   have k5:=bshort (p:=(p:Int)) HJ.out.1 (Nat.le_trans (dlen_bound hs1 (by unfold B;omega) hp) (by omega)) (show j<4294967296 by omega)
   have HZ:Hid (pwS n p j=0∧odS n p j≤j*2^p):=⟨h0,hs2⟩
   clear h0 hs1 hs2 hl3
   go_wp2_with fail
   refine k5.mono ?_
   rintro r w4 ⟨e1,g1,h1,e2,g2,h2,rfl,i1,i2,hb4⟩
   have k6:=bshort (p:=(p:Int)) (HJ.out.2.1.later hb4) (Nat.le_trans (dlen_bound HZ.out.2 (by unfold B;omega) hp) (by omega)) (show j<4294967296 by omega)
   have H4:Hid (Is w4 (.slice e1 g1 h1) (evS n p j)∧Is w4 (.slice e2 g2 h2) (evS n p j+(j+2))∧Bw W' w4):=⟨i1,i2,HJ.out.2.2.2.trans (hb4.mono HJ.out.2.2.2.size)⟩
   clear k5 i1 i2 hb4
   go_wp2_with fail
   refine k6.mono ?_
   rintro r w5 ⟨e3,g3,h3,e4,g4,h4,rfl,i3,i4,hb5⟩
   have hb6:Bw W' w5:=H4.out.2.2.trans (hb5.mono H4.out.2.2.size)
   have HR1:Hid (BdB w5 w.heap.size none 0 0 none 0 0 0):=HX.out.2.1.box hb6
   have HR2:Hid (BdB w5 (w.heap.size+1) none 0 0 none 0 0 0):=HX.out.2.2.box hb6
   obtain⟨⟨x0,x1,x2⟩,f0,f1,f2⟩:=HR1.out.facts
   obtain⟨⟨x3,x4,x5⟩,f3,f4,f5⟩:=HR2.out.facts
   have HO:Hid (Is w5 (.slice e1 g1 h1) (evS n p j)∧Is w5 (.slice e2 g2 h2) (evS n p j+(j+2))∧Is w5 (.slice e3 g3 h3) (odS n p j)∧Is w5 (.slice e4 g4 h4) (odS n p j+(j+2))∧Bw w w5):=⟨H4.out.1.later hb5,H4.out.2.1.later hb5,i3,i4,HX.out.1.trans (hb6.mono HX.out.1.size)⟩
   clear k6 i3 i4 hb5 hb6 H4 HX HJ
   go_wp2_with fail
   have R1:BdB (((w5.setCell ⟨w.heap.size,0,none⟩ (.slice e1 g1 h1)).setCell ⟨w.heap.size,1,none⟩ (.slice e2 g2 h2)).setCell ⟨w.heap.size,2,none⟩ (.int .i64 p)) w.heap.size e1 g1 h1 e2 g2 h2 p:=HR1.out.set _ _ _ _ _ _ _
   have R2:=bd_other HR2.out (show w.heap.size+1≠w.heap.size by omega) (.slice e1 g1 h1) (.slice e2 g2 h2) (.int .i64 p)
   have R3:=bd_other R1 (show w.heap.size≠w.heap.size+1 by omega) (.slice e3 g3 h3) (.slice e4 g4 h4) (.int .i64 p)
   refine bodyPost_ret (results_cell2 rfl _ _ w.heap.size (w.heap.size+1) 56 #[.slice e1 g1 h1,.slice e2 g2 h2,.int .i64 p] #[.slice e3 g3 h3,.slice e4 g4 h4,.int .i64 p] (0,0) (0,0) _ rfl rfl R3 (R2.set _ _ _ _ _ _ _) Tryz.underlying56 rfl bd_info bd_info) rfl ?_
   have st:∀ {v:Value} {x:Nat},Is w5 v x→Is ((((((w5.setCell ⟨w.heap.size,0,none⟩ (.slice e1 g1 h1)).setCell ⟨w.heap.size,1,none⟩ (.slice e2 g2 h2)).setCell ⟨w.heap.size,2,none⟩ (.int .i64 p)).setCell ⟨w.heap.size+1,0,none⟩ (.slice e3 g3 h3)).setCell ⟨w.heap.size+1,1,none⟩ (.slice e4 g4 h4)).setCell ⟨w.heap.size+1,2,none⟩ (.int .i64 p)) v x:=fun h=>is_storeB (is_storeB h HR1.out _ _ _) R2 _ _ _
   exact⟨j,_,_,_,_,_,_,_,_,_,_,_,_,HZ.out.1,hj,rfl,st HO.out.1,st HO.out.2.1,st HO.out.2.2.1,st HO.out.2.2.2.1,below3 (below3 HO.out.2.2.2.2 (Nat.le_refl _) _ _ _) (by omega) _ _ _⟩
  ·have hl0:(0:Int)<(l3:Int):=by
    have:dlen (pwS n p j)≠0:=fun e=>h0 (dlen_eq_zero.1 e)
    omega
   have hjp:=pwS_pos (show 2≤n by omega) h0
   have hdw:dlen (pwS n p j)≤40000:=dlen_bound (m:=1) (by rw[Nat.one_mul];exact pwS_le n p j) (by decide) hp
   obtain⟨hs1,hs2⟩:=sS_le n p j
   have hde:=dlen_bound hs1 (by unfold B;omega) hp
   have hdo:=dlen_bound hs2 (by unfold B;omega) hp
   have k5:=quod HJ.out.2.2.1 (by omega) (show 0<2*j+1 by omega) (show 2*j+1<B by unfold B;omega)
   have hw1:IntKind.u32.wrap (IntKind.u32.wrap (2*(j:Int))+1)=((2*j+1:Nat):Int):=by rw[IntKind.wrap_u32,IntKind.wrap_u32];omega
   rw[show((2*j+1:Nat):Int)=2*(j:Int)+1 by omega] at k5 hw1
   have hdt:dlen (pwS n p j / (2*j+1))≤40000:=Nat.le_trans (dlen_mono (Nat.div_le_self _ _)) hdw
   have HS:Hid (dlen (evS n p j)≤40000∧dlen (odS n p j)≤40000∧dlen (pwS n p j / (2*j+1))≤40000∧dlen (pwS n p j)≤40000):=⟨hde,hdo,hdt,hdw⟩
   clear h0 hs1 hs2 hl3 hde hdo hdt hdw
   go_wp2_with fail
   refine k5.mono ?_
   rintro r w4 ⟨v4,rfl,hO,hb4⟩
   obtain⟨b4,m4,d4,rfl⟩:=hO.is.shape
   have H4:Hid (Is w4 (.slice a1 l1 c1) (evS n p j)∧Is w4 (.slice a2 l2 c2) (odS n p j)∧Is w4 (.slice a3 l3 c3) (pwS n p j)∧Is w4 (.slice b4 m4 d4) (pwS n p j / (2*j+1))∧Bw W' w4):=⟨HJ.out.1.later hb4,HJ.out.2.1.later hb4,HJ.out.2.2.1.later hb4,hO.is,HJ.out.2.2.2.trans (hb4.mono HJ.out.2.2.2.size)⟩
   generalize pwS n p j % (2*j+1)=r4 at *
   clear k5 hO hb4 HJ
   have htm:(j:Int).tmod 2=((j % 2:Nat):Int):=by rw[Int.tmod_eq_emod_of_nonneg (by omega)];rfl
   have hnn:n*n≤65535*65535:=Nat.mul_le_mul hn2 hn2
   have hnp:0<n*n:=Nat.mul_pos (by omega) (by omega)
   have hw2:IntKind.u32.wrap ((n:Int)*(n:Int))=(n:Int)*(n:Int):=by
    rw[IntKind.wrap_u32,show(n:Int)*(n:Int)=((n*n:Nat):Int) by simp];omega
   rcases(show j % 2=0∨j % 2=1 by omega)with hpar|hpar
   ·rw[hpar] at htm
    have k6:=c122 H4.out.1 H4.out.2.2.2.1 (by have:=HS.out.1;omega) (by have:=HS.out.2.2.1;omega)
    go_wp2_with fail
    refine k6.mono ?_
    rintro r w5 ⟨v5,rfl,hO,hb5⟩
    obtain⟨b5,m5,d5,rfl⟩:=hO.is.shape
    have H5:Hid (Is w5 (.slice b5 m5 d5) (evS n p (j+1))∧Is w5 (.slice a2 l2 c2) (odS n p (j+1))∧Is w5 (.slice a3 l3 c3) (pwS n p j)∧Bw W' w5):=⟨by unfold evS;rw[if_pos hpar];exact hO.is,by unfold odS;rw[if_pos hpar];exact H4.out.2.1.later hb5,H4.out.2.2.1.later hb5,H4.out.2.2.2.2.trans (hb5.mono H4.out.2.2.2.2.size)⟩
    have k7:=quod H5.out.2.2.1 (by have:=HS.out.2.2.2;omega) (show 0<n*n by omega) (show n*n<B by unfold B;omega)
    rw[pwS_next,show((n*n:Nat):Int)=(n:Int)*(n:Int) by simp] at k7
    clear k6 hO hb5 H4 hpar
    go_wp2_with fail
    refine k7.mono ?_
    rintro r w6 ⟨v6,rfl,hO,hb6⟩
    obtain⟨b6,m6,d6,rfl⟩:=hO.is.shape
    have H6:Hid (Is w6 (.slice b5 m5 d5) (evS n p (j+1))∧Is w6 (.slice a2 l2 c2) (odS n p (j+1))∧Is w6 (.slice b6 m6 d6) (pwS n p (j+1))∧Bw W' w6):=⟨H5.out.1.later hb6,H5.out.2.1.later hb6,hO.is,H5.out.2.2.2.trans (hb6.mono H5.out.2.2.2.size)⟩
    generalize pwS n p j % (n*n)=r6 at *
    clear k7 hO hb6 H5 HS
    go_wp2_with fail
    exact⟨⟨j+1,b5,m5,d5,a2,l2,c2,b6,m6,d6,rfl,rfl,rfl,rfl,by omega,H6⟩,by simp[intOf];omega⟩
   ·rw[hpar] at htm
    have k6:=c122 H4.out.2.1 H4.out.2.2.2.1 (by have:=HS.out.2.1;omega) (by have:=HS.out.2.2.1;omega)
    go_wp2_with fail
    refine k6.mono ?_
    rintro r w5 ⟨v5,rfl,hO,hb5⟩
    obtain⟨b5,m5,d5,rfl⟩:=hO.is.shape
    have H5:Hid (Is w5 (.slice a1 l1 c1) (evS n p (j+1))∧Is w5 (.slice b5 m5 d5) (odS n p (j+1))∧Is w5 (.slice a3 l3 c3) (pwS n p j)∧Bw W' w5):=⟨by unfold evS;rw[if_neg (by omega)];exact H4.out.1.later hb5,by unfold odS;rw[if_neg (by omega)];exact hO.is,H4.out.2.2.1.later hb5,H4.out.2.2.2.2.trans (hb5.mono H4.out.2.2.2.2.size)⟩
    have k7:=quod H5.out.2.2.1 (by have:=HS.out.2.2.2;omega) (show 0<n*n by omega) (show n*n<B by unfold B;omega)
    rw[pwS_next,show((n*n:Nat):Int)=(n:Int)*(n:Int) by simp] at k7
    clear k6 hO hb5 H4 hpar
    go_wp2_with fail
    refine k7.mono ?_
    rintro r w6 ⟨v6,rfl,hO,hb6⟩
    obtain⟨b6,m6,d6,rfl⟩:=hO.is.shape
    have H6:Hid (Is w6 (.slice a1 l1 c1) (evS n p (j+1))∧Is w6 (.slice b5 m5 d5) (odS n p (j+1))∧Is w6 (.slice b6 m6 d6) (pwS n p (j+1))∧Bw W' w6):=⟨H5.out.1.later hb6,H5.out.2.1.later hb6,hO.is,H5.out.2.2.2.trans (hb6.mono H5.out.2.2.2.size)⟩
    generalize pwS n p j % (n*n)=r6 at *
    clear k7 hO hb6 H5 HS
    go_wp2_with fail
    exact⟨⟨j+1,a1,l1,c1,b5,m5,d5,b6,m6,d6,rfl,rfl,rfl,rfl,by omega,H6⟩,by simp[intOf];omega⟩
def facN:Nat→Nat
 | 0=>1
 | j+1=>facN j*(j+1)
def tmE (p j:Nat):Nat:=2^p / facN j
def smE (p:Nat):Nat→Nat
 | 0=>0
 | j+1=>smE p j+tmE p j
theorem tmE_next (p j:Nat):tmE p j / (j+1)=tmE p (j+1):=by
 unfold tmE
 rw[Nat.div_div_eq_div_mul];rfl
theorem tmE_le (p j:Nat):tmE p j≤2^p:=Nat.div_le_self _ _
theorem fac_ge:∀ j,2^j≤facN (j+1)
 | 0=>by decide
 | j+1=>by
  have h:=fac_ge j
  show 2^(j+1)≤facN (j+1)*(j+1+1)
  rw[Nat.pow_succ]
  exact Nat.mul_le_mul h (by omega)
theorem tmE_pos {p j:Nat} (h:tmE p j≠0):j≤p+1:=by
 rcases Nat.lt_or_ge (p+1) j with h1|h1
 ·exfalso
  apply h
  unfold tmE
  refine Nat.div_eq_of_lt ?_
  obtain⟨i,rfl⟩:∃ i,j=i+1:=⟨j - 1,by omega⟩
  exact Nat.lt_of_lt_of_le (Nat.pow_lt_pow_right (by decide) (show p<i by omega)) (fac_ge i)
 ·exact h1
theorem smE_le (p:Nat):∀ j,smE p j≤j*2^p
 | 0=>Nat.zero_le _
 | j+1=>by
  have h1:=smE_le p j
  have h3:=tmE_le p j
  unfold smE
  rw[Nat.add_mul,Nat.one_mul]
  generalize j*2^p=A at *
  generalize 2^p=P at *
  omega
theorem beuler {p:Nat} {w:World} (hp:p≤1000000) :
  Calls Tryz.prog 53 #[.int .i64 p] w fun r w'=>∃ j,tmE p j=0∧j≤p+2∧OutB w (smE p j) (smE p j+(j+2)) p r w':=by
 obtain⟨W,hW,hBW,hR⟩:=zeroB w
 have HX:Hid (Bw w W∧BdB W w.heap.size none 0 0 none 0 0 0):=⟨hBW,hR⟩
 have k1:=c57 1 W (by omega)
 have hd1:dlen 1≤1:=(dlen_le 1 1).2 (by decide)
 clear hBW hR
 go_enter Tryz.func53,Tryz.ntmps53
 go_wp2_with fail
 rw[←hW]
 clear hW
 refine k1.mono ?_
 rintro r w1 ⟨v1,rfl,hO,hb1⟩
 have k2:=c109 hO.is p (by omega) (by omega)
 have HB1:Hid (Bw W w1):=hb1
 obtain⟨b1,m1,d1,rfl⟩:=hO.is.shape
 clear k1 hO hb1
 go_wp2_with fail
 refine k2.mono ?_
 rintro r w2 ⟨v2,rfl,hO,hb2⟩
 rw[Nat.one_mul] at hO
 have HI:Hid (Is w2 v2 (tmE p 0)∧Bw W w2):=⟨by unfold tmE facN;rw[Nat.div_one];exact hO.is,HB1.out.trans (hb2.mono HB1.out.size)⟩
 have H0:Hid (Is w2 (.slice none 0 0) 0):=⟨none,0,by rw[dlen_zero],by rw[dlen_zero];omega,by omega,0,0,fun h=>by rw[dlen_zero] at h;omega,fun i hi=>by rw[dlen_zero] at hi;omega⟩
 obtain⟨b2,m2,d2,rfl⟩:=HI.out.1.shape
 clear k2 hO hb2 HB1
 go_upto_block 0 with fail
 go_wp2_with fail
 go_loopw [3,4,5] (fun sm tm ct wr=>∃ (j:Nat) (a1:Option Addr) (l1 c1:Nat) (a3:Option Addr) (l3 c3:Nat),sm=.slice a1 l1 c1∧tm=.slice a3 l3 c3∧ct=.int .u32 j∧j≤p+2∧Hid (Is wr (.slice a1 l1 c1) (smE p j)∧Is wr (.slice a3 l3 c3) (tmE p j)∧Bw W wr)) (fun _ _ ct _=>p+2 - (intOf ct).toNat)
 case atStart=>exact⟨0,none,0,0,b2,m2,d2,rfl,rfl,rfl,by omega,⟨H0.out,HI.out.1,HI.out.2⟩⟩
 case round =>
  obtain⟨j,a1,l1,c1,a3,l3,c3,rfl,rfl,rfl,hj,HJ⟩:=hrel
  clear HI H0
  have hl3:l3=dlen (tmE p j):=by
   obtain⟨ao,cap,e,-⟩:=HJ.out.2.1
   injection e
  have hs1:=smE_le p j
  have hde:=dlen_bound hs1 (by unfold B;omega) hp
  by_cases h0:tmE p j=0
  ·have hl0:¬ (0:Int)<(l3:Int):=by rw[hl3,h0,dlen_zero];omega
   have k5:=bshort (p:=(p:Int)) HJ.out.1 (by omega) (show j<4294967296 by omega)
   have HZ:Hid (tmE p j=0):=h0
   clear h0 hs1 hl3 hde
   go_wp2_with fail
   refine k5.mono ?_
   rintro r w4 ⟨e1,g1,h1,e2,g2,h2,rfl,i1,i2,hb4⟩
   have hb6:Bw W w4:=HJ.out.2.2.trans (hb4.mono HJ.out.2.2.size)
   have HR:Hid (BdB w4 w.heap.size none 0 0 none 0 0 0):=HX.out.2.box hb6
   obtain⟨⟨x0,x1,x2⟩,f0,f1,f2⟩:=HR.out.facts
   have HO:Hid (Is w4 (.slice e1 g1 h1) (smE p j)∧Is w4 (.slice e2 g2 h2) (smE p j+(j+2))∧Bw w w4):=⟨i1,i2,HX.out.1.trans (hb6.mono HX.out.1.size)⟩
   clear k5 i1 i2 hb4 hb6 HX HJ
   go_wp2_with fail
   refine bodyPost_ret (results_cell_row rfl _ _ w.heap.size 56 #[.slice e1 g1 h1,.slice e2 g2 h2,.int .i64 p] (0,0) _ rfl (HR.out.set _ _ _ _ _ _ _) Tryz.underlying56 rfl bd_info) rfl ?_
   exact⟨j,HZ.out,hj,_,_,_,_,_,_,rfl,is_storeB HO.out.1 HR.out _ _ _,is_storeB HO.out.2.1 HR.out _ _ _,below3 HO.out.2.2 (Nat.le_refl _) _ _ _⟩
  ·have hl0:(0:Int)<(l3:Int):=by
    have:dlen (tmE p j)≠0:=fun e=>h0 (dlen_eq_zero.1 e)
    omega
   have hjp:=tmE_pos h0
   have hdw:dlen (tmE p j)≤40000:=dlen_bound (m:=1) (by rw[Nat.one_mul];exact tmE_le p j) (by decide) hp
   have k5:=c122 HJ.out.1 HJ.out.2.1 (by omega) (by omega)
   have hw1:IntKind.u32.wrap ((j:Int)+1)=(j:Int)+1:=by rw[IntKind.wrap_u32];omega
   clear h0 hs1 hl3 hde
   go_wp2_with fail
   refine k5.mono ?_
   rintro r w4 ⟨v4,rfl,hO,hb4⟩
   obtain⟨b4,m4,d4,rfl⟩:=hO.is.shape
   have H4:Hid (Is w4 (.slice b4 m4 d4) (smE p (j+1))∧Is w4 (.slice a3 l3 c3) (tmE p j)∧Bw W w4):=⟨hO.is,HJ.out.2.1.later hb4,HJ.out.2.2.trans (hb4.mono HJ.out.2.2.size)⟩
   have k6:=quod H4.out.2.1 (by omega) (show 0<j+1 by omega) (show j+1<B by unfold B;omega)
   rw[tmE_next,show((j+1:Nat):Int)=(j:Int)+1 by omega] at k6
   clear k5 hO hb4 HJ
   go_wp2_with fail
   refine k6.mono ?_
   rintro r w5 ⟨v5,rfl,hO,hb5⟩
   obtain⟨b5,m5,d5,rfl⟩:=hO.is.shape
   have H5:Hid (Is w5 (.slice b4 m4 d4) (smE p (j+1))∧Is w5 (.slice b5 m5 d5) (tmE p (j+1))∧Bw W w5):=⟨H4.out.1.later hb5,hO.is,H4.out.2.2.trans (hb5.mono H4.out.2.2.size)⟩
   generalize tmE p j % (j+1)=r5 at *
   clear k6 hO hb5 H4
   go_wp2_with fail
   exact⟨⟨j+1,b4,m4,d4,b5,m5,d5,rfl,rfl,rfl,by omega,H5⟩,by simp[intOf];omega⟩
structure Brk (Z p lo hi M G:Nat):Prop where
 low:lo*2^(Z - p)≤M
 high:M≤hi*2^(Z - p)
 le:lo≤hi
 gap:hi≤lo+G
theorem Brk.plus {Z p a b c d M N G H:Nat} (h1:Brk Z p a b M G) (h2:Brk Z p c d N H):Brk Z p (a+c) (b+d) (M+N) (G+H):=by
 obtain⟨x1,x2,x3,x4⟩:=h1
 obtain⟨y1,y2,y3,y4⟩:=h2
 exact⟨by rw[Nat.add_mul];omega,by rw[Nat.add_mul];omega,by omega,by omega⟩
theorem Brk.times {Z p a b M G:Nat} (h:Brk Z p a b M G) (n:Nat):Brk Z p (a*n) (b*n) (M*n) (G*n):=by
 obtain⟨x1,x2,x3,x4⟩:=h
 refine⟨?_,?_,Nat.mul_le_mul_right _ x3,?_⟩
 ·rw[Nat.mul_right_comm];exact Nat.mul_le_mul_right _ x1
 ·rw[Nat.mul_right_comm];exact Nat.mul_le_mul_right _ x2
 ·rw[←Nat.add_mul];exact Nat.mul_le_mul_right _ x4
theorem Brk.minus {Z p a b c d M N G H:Nat} (h1:Brk Z p a b M G) (h2:Brk Z p c d N H) (hd:d≤a):Brk Z p (a - d) (b - c) (M - N) (G+H):=by
 obtain⟨x1,x2,x3,x4⟩:=h1
 obtain⟨y1,y2,y3,y4⟩:=h2
 exact⟨by rw[Nat.sub_mul];omega,by rw[Nat.sub_mul];omega,by omega,by omega⟩
theorem Brk.apart {Z p a b c d M N G H:Nat} (h1:Brk Z p a b M G) (h2:Brk Z p c d N H) (h:N+(G+H)*2^(Z - p)≤M):d≤a:=by
 obtain⟨x1,x2,x3,x4⟩:=h1
 obtain⟨y1,y2,y3,y4⟩:=h2
 have hp:=Nat.two_pow_pos (Z - p)
 generalize 2^(Z - p)=P at *
 have z1:(b:Nat)*P≤(a+G)*P:=Nat.mul_le_mul_right _ x4
 have z2:d*P≤(c+H)*P:=Nat.mul_le_mul_right _ y4
 rw[Nat.add_mul] at z1 z2 h
 refine Nat.le_of_mul_le_mul_right (c:=P) ?_ hp
 omega
theorem quo_places {Z p D:Nat} (hp:p≤Z) (hD:0<D):2^p / D*2^(Z - p)≤2^Z / D∧2^Z / D≤(2^p / D+1)*2^(Z - p):=by
 have e:2^Z=2^p*2^(Z - p):=by rw[←Nat.pow_add];congr 1;omega
 rw[e]
 have hP:=Nat.two_pow_pos (Z - p)
 generalize 2^(Z - p)=P at *
 generalize 2^p=X at *
 constructor
 ·rw[Nat.le_div_iff_mul_le hD,Nat.mul_right_comm]
  exact Nat.mul_le_mul_right _ (Nat.div_mul_le_self X D)
 ·have h1:X<(X / D+1)*D:=by
   have t1:=Nat.div_add_mod X D
   have t2:=Nat.mod_lt X hD
   rw[Nat.mul_comm] at t1
   rw[Nat.add_mul,Nat.one_mul];omega
  refine Nat.le_of_lt ((Nat.div_lt_iff_lt_mul hD).2 ?_)
  rw[Nat.mul_right_comm]
  exact Nat.mul_lt_mul_of_pos_right h1 hP
def selS (c:Nat→Bool) (D:Nat→Nat) (p:Nat):Nat→Nat
 | 0=>0
 | j+1=>if c j then selS c D p j+2^p / D j else selS c D p j
theorem sel_low {c:Nat→Bool} {D:Nat→Nat} {Z p:Nat} (hp:p≤Z) (hD:∀ i,0<D i):∀ j,selS c D p j*2^(Z - p)≤selS c D Z j∧selS c D Z j≤(selS c D p j+j)*2^(Z - p)
 | 0=>by simp[selS]
 | j+1=>by
  obtain⟨h1,h2⟩:=sel_low (c:=c) hp hD j
  obtain⟨q1,q2⟩:=quo_places hp (hD j)
  unfold selS
  generalize 2^Z / D j=T at *
  generalize 2^p / D j=t at *
  generalize 2^(Z - p)=P at *
  generalize selS c D p j=s at *
  generalize selS c D Z j=S at *
  split
  ·rw[Nat.add_mul] at h2 q2 ⊢
   rw[show s+t+(j+1)=(s+j)+(t+1) by omega,Nat.add_mul (s+j),Nat.add_mul s j,Nat.add_mul t 1]
   omega
  ·refine⟨h1,Nat.le_trans h2 (Nat.mul_le_mul_right _ (by omega))⟩
theorem sel_mono {c:Nat→Bool} {D:Nat→Nat} {p j:Nat}:∀ k,selS c D p j≤selS c D p (j+k)
 | 0=>Nat.le_refl _
 | k+1=>by
  have h:=sel_mono (c:=c) (D:=D) (p:=p) (j:=j) k
  rw[←Nat.add_assoc]
  show selS c D p j≤if c (j+k)then selS c D p (j+k)+2^p / D (j+k)else selS c D p (j+k)
  generalize 2^p / D (j+k)=T
  split <;> omega
theorem sel_tail {c:Nat→Bool} {D U:Nat→Nat} {p j:Nat} (h1:∀ i,j≤i→2^p / D i≤U i) (h2:∀ i,j≤i→2*U (i+1)≤U i):∀ k,selS c D p (j+k)+2*U (j+k)≤selS c D p j+2*U j
 | 0=>Nat.le_refl _
 | k+1=>by
  have h:=sel_tail (c:=c) h1 h2 k
  have a1:=h1 (j+k) (by omega)
  have a2:=h2 (j+k) (by omega)
  rw[←Nat.add_assoc]
  show(if c (j+k)then selS c D p (j+k)+2^p / D (j+k)else selS c D p (j+k))+2*U (j+k+1)≤_
  split <;> omega
theorem sel_brk {c:Nat→Bool} {D U:Nat→Nat} {Z p j J:Nat} (hp:p≤Z) (hj:j≤J) (hD:∀ i,0<D i) (h1:∀ i,j≤i→2^Z / D i≤U i) (h2:∀ i,j≤i→2*U (i+1)≤U i) (h3:U j≤2^(Z - p)) :
  Brk Z p (selS c D p j) (selS c D p j+(j+2)) (selS c D Z J) (j+2):=by
 obtain⟨k,rfl⟩:∃ k,J=j+k:=⟨J - j,by omega⟩
 obtain⟨l1,l2⟩:=sel_low (c:=c) hp hD j
 have m:=sel_mono (c:=c) (D:=D) (p:=Z) (j:=j) k
 have t:=sel_tail (c:=c) h1 h2 k
 refine⟨by omega,?_,by omega,by omega⟩
 rw[show selS c D p j+(j+2)=(selS c D p j+j)+2 by omega,Nat.add_mul (selS c D p j+j)]
 omega
theorem brk_root {n Z p q Q:Nat} (hp:p≤Z) (h1:q*q≤n*2^(2*p)) (h2:n*2^(2*p)<(q+1)*(q+1)) (h3:Q*Q≤n*2^(2*Z)) (h4:n*2^(2*Z)<(Q+1)*(Q+1)):Brk Z p q (q+1) Q 1:=by
 have e:n*2^(2*Z)=n*2^(2*p)*(2^(Z - p)*2^(Z - p)):=by
  rw[Nat.mul_assoc,←Nat.pow_add,←Nat.pow_add];congr 2;omega
 rw[e] at h3 h4
 have hP:=Nat.two_pow_pos (Z - p)
 clear e
 have key:q*2^(Z - p)≤Q∧Q≤(q+1)*2^(Z - p):=by
  generalize 2^(Z - p)=P at *
  generalize n*2^(2*p)=X at *
  constructor
  ·refine Nat.le_of_lt_succ (Nat.mul_self_lt_mul_self_iff.1 (Nat.lt_of_le_of_lt ?_ h4))
   rw[show q*P*(q*P)=q*q*(P*P) by grind]
   exact Nat.mul_le_mul_right _ h1
  ·refine Nat.le_of_lt (Nat.mul_self_lt_mul_self_iff.1 (Nat.lt_of_le_of_lt h3 ?_))
   rw[show(q+1)*P*((q+1)*P)=(q+1)*(q+1)*(P*P) by grind]
   exact Nat.mul_lt_mul_of_pos_right h2 (Nat.mul_pos hP hP)
 exact⟨key.1,key.2,by omega,Nat.le_refl _⟩
def cEv (i:Nat):Bool:=i % 2==0
def cOd (i:Nat):Bool:=i % 2==1
def dAt (n i:Nat):Nat:=n^(2*i+1)*(2*i+1)
theorem ev_sel (n p:Nat):∀ j,evS n p j=selS cEv (dAt n) p j∧odS n p j=selS cOd (dAt n) p j
 | 0=>⟨rfl,rfl⟩
 | j+1=>by
  obtain⟨h1,h2⟩:=ev_sel n p j
  have e:pwS n p j / (2*j+1)=2^p / dAt n j:=by unfold pwS dAt;rw[Nat.div_div_eq_div_mul]
  unfold evS odS selS
  rw[h1,h2,e]
  rcases Nat.mod_two_eq_zero_or_one j with h|h
  ·rw[if_pos h,if_pos h,show cEv j=true by unfold cEv;rw[h];rfl,show cOd j=false by unfold cOd;rw[h];rfl]
   exact⟨rfl,rfl⟩
  ·rw[if_neg (show ¬ j % 2=0 by omega),if_neg (show ¬ j % 2=0 by omega),show cEv j=false by unfold cEv;rw[h];rfl,show cOd j=true by unfold cOd;rw[h];rfl]
   exact⟨rfl,rfl⟩
theorem sm_sel (p:Nat):∀ j,smE p j=selS (fun _=>true) facN p j
 | 0=>rfl
 | j+1=>by
  unfold smE selS
  rw[sm_sel p j];rfl
def MA (Z n:Nat):Nat:=selS cEv (dAt n) Z (Z+1)
def MO (Z n:Nat):Nat:=selS cOd (dAt n) Z (Z+1)
def ME (Z:Nat):Nat:=selS (fun _=>true) facN Z (Z+2)
theorem at_brk {Z n p j:Nat} (hn:3≤n) (hp:p≤Z) (hj:j≤p+1) (h0:pwS n p j=0) :
  Brk Z p (evS n p j) (evS n p j+(j+2)) (MA Z n) (j+2)∧Brk Z p (odS n p j) (odS n p j+(j+2)) (MO Z n) (j+2):=by
 have hpos:∀ i,0<n^i:=fun i=>Nat.pow_pos (by omega)
 have hD:∀ i,0<dAt n i:=fun i=>Nat.mul_pos (hpos _) (by omega)
 have h1:∀ i,j≤i→2^Z / dAt n i≤pwS n Z i:=fun i _=>by
  unfold pwS dAt
  rw[←Nat.div_div_eq_div_mul]
  exact Nat.div_le_self _ _
 have h2:∀ i,j≤i→2*pwS n Z (i+1)≤pwS n Z i:=fun i _=>by
  rw[←pwS_next]
  have hn2:2≤n*n:=Nat.le_trans (by omega:2≤3*3) (Nat.mul_le_mul hn hn)
  have h:=Nat.div_mul_le_self (pwS n Z i) (n*n)
  have:=Nat.mul_le_mul_left (pwS n Z i / (n*n)) hn2
  omega
 have h3:pwS n Z j≤2^(Z - p):=by
  unfold pwS at h0 ⊢
  have hlt:2^p<n^(2*j+1):=(Nat.div_eq_zero_iff_lt (hpos _)).1 h0
  have e:2^Z=2^(Z - p)*2^p:=by rw[←Nat.pow_add];congr 1;omega
  rw[e]
  refine Nat.div_le_of_le_mul ?_
  rw[Nat.mul_comm]
  exact Nat.mul_le_mul_right _ (Nat.le_of_lt hlt)
 obtain⟨e1,e2⟩:=ev_sel n p j
 rw[e1,e2]
 exact⟨sel_brk hp (by omega) hD h1 h2 h3,sel_brk hp (by omega) hD h1 h2 h3⟩
theorem fac_pos:∀ i,0<facN i
 | 0=>by decide
 | i+1=>Nat.mul_pos (fac_pos i) (by omega)
theorem eu_brk {Z p j:Nat} (hp:p≤Z) (hj:j≤p+2) (h0:tmE p j=0):Brk Z p (smE p j) (smE p j+(j+2)) (ME Z) (j+2):=by
 have hj1:1≤j:=by
  rcases Nat.eq_zero_or_pos j with rfl|h
  ·exfalso
   have:=Nat.two_pow_pos p
   unfold tmE facN at h0
   rw[Nat.div_one] at h0
   omega
  ·exact h
 rw[sm_sel]
 refine sel_brk (U:=tmE Z) hp (by omega) fac_pos (fun i _=>Nat.le_refl _) (fun i hi=>?_) ?_
 ·rw[←tmE_next]
  have h:=Nat.div_mul_le_self (tmE Z i) (i+1)
  have:=Nat.mul_le_mul_left (tmE Z i / (i+1)) (show 2≤i+1 by omega)
  omega
 ·unfold tmE at h0 ⊢
  have hlt:2^p<facN j:=(Nat.div_eq_zero_iff_lt (fac_pos j)).1 h0
  have e:2^Z=2^(Z - p)*2^p:=by rw[←Nat.pow_add];congr 1;omega
  rw[e]
  refine Nat.div_le_of_le_mul ?_
  rw[Nat.mul_comm]
  exact Nat.mul_le_mul_right _ (Nat.le_of_lt hlt)
theorem sel_stop {c:Nat→Bool} {D:Nat→Nat} {p j:Nat} (h:∀ i,j≤i→2^p<D i):∀ k,selS c D p (j+k)=selS c D p j
 | 0=>rfl
 | k+1=>by
  have h1:=sel_stop (c:=c) h k
  rw[←Nat.add_assoc]
  show(if c (j+k)then selS c D p (j+k)+2^p / D (j+k)else selS c D p (j+k))=_
  rw[Nat.div_eq_of_lt (h (j+k) (by omega)),h1]
  split <;> rfl
theorem Brk.dl {Z p lo hi M G K:Nat} (h:Brk Z p lo hi M G) (hM:M<B^K) (hG:G<B) (hK:1≤K):dlen lo≤K+1∧dlen hi≤K+1:=by
 have h1:lo≤M:=Nat.le_trans (Nat.le_mul_of_pos_right lo (Nat.two_pow_pos _)) h.low
 have e2:B^K+B≤B^(K+1):=by
  have a1:B^1≤B^K:=Nat.pow_le_pow_right (by decide) hK
  rw[Nat.pow_one] at a1
  have a2:B^K*2≤B^K*B:=Nat.mul_le_mul_left _ (by decide)
  rw[Nat.pow_succ]
  omega
 have h2:=h.gap
 have k1:lo<B^(K+1):=by omega
 have k2:hi<B^(K+1):=by omega
 exact⟨(dlen_le _ _).2 k1,(dlen_le _ _).2 k2⟩
theorem Brk.wide {Z p lo hi M G H:Nat} (h:Brk Z p lo hi M G) (hG:G≤H):Brk Z p lo hi M H:=⟨h.low,h.high,h.le,Nat.le_trans h.gap (by omega)⟩
def OutK (Z p M G:Nat) (W:World) (q:Int) (r:Ending) (w':World):Prop:=∃ lo hi,Brk Z p lo hi M G∧OutB W lo hi q r w'
def ArgK (Z p M G:Nat) (w:World) (A:Value) (q:Int):Prop:=∃ lo hi,Brk Z p lo hi M G∧Bd2 w A lo hi q
theorem ArgK.later {Z p M G:Nat} {w w':World} {A:Value} {q:Int} (h:ArgK Z p M G w A q) (hb:Bw w w'):ArgK Z p M G w' A q:=by
 obtain⟨lo,hi,h1,h2⟩:=h
 exact⟨lo,hi,h1,h2.later hb⟩
theorem dl_addk {x k K:Nat} (h:dlen x≤K) (hK:1≤K) (hk:k<B):dlen (x+k)≤K+1:=by
 have h1:=(dlen_le _ _).1 h
 have h2:x+k<B^(K+1):=by
  rw[Nat.pow_succ]
  have h0:B^K*2≤B^K*B:=Nat.mul_le_mul_left _ (by decide)
  have h3:B^1≤B^K:=Nat.pow_le_pow_right (by decide) hK
  rw[Nat.pow_one] at h3
  generalize B^K=X at *
  omega
 exact(dlen_le _ _).2 h2
theorem dl_add {x k:Nat} (h:dlen x≤40000) (hk:k<4294967296):dlen (x+k)≤50000:=Nat.le_trans (dl_addk h (by decide) hk) (by decide)
theorem batan {Z n p:Nat} {w:World} (hn1:3≤n) (hn2:n≤65535) (hp:p≤Z) (hZ:Z≤4200) (hA:MO Z n+9000*2^(Z - p)≤MA Z n) :
  Calls Tryz.prog 71 #[.int .u32 n,.int .i64 p] w fun r w'=>OutK Z p (MA Z n - MO Z n) 9000 w p r w':=by
 obtain⟨W,hW,hBW,hR⟩:=zeroB w
 have HX:Hid (Bw w W∧BdB W w.heap.size none 0 0 none 0 0 0):=⟨hBW,hR⟩
 have k1:=bseries (w:=W) hn1 hn2 (show p≤1000000 by omega)
 clear hBW hR
 go_enter Tryz.func71,Tryz.ntmps71
 go_wp2_with fail
 rw[←hW]
 clear hW
 refine k1.mono ?_
 rintro r w1 ⟨j,a1,l1,c1,a2,l2,c2,b1,m1,d1,b2,m2,d2,h0,hj,rfl,i1,i2,i3,i4,hb1⟩
 clear k1
 obtain⟨K1,K2⟩:=at_brk hn1 hp hj h0
 obtain⟨hs1,hs2⟩:=sS_le n p j
 have q1:=dlen_bound hs1 (by unfold B;omega) (show p≤1000000 by omega)
 have q2:=dlen_bound hs2 (by unfold B;omega) (show p≤1000000 by omega)
 have hjB:j+2≤1*2^p+(j+2):=by omega
 have q3:dlen (evS n p j+(j+2))≤50000:=dl_add q1 (by omega)
 have q4:dlen (odS n p j+(j+2))≤50000:=dl_add q2 (by omega)
 have hle:odS n p j+(j+2)≤evS n p j:=K1.apart K2 (Nat.le_trans (Nat.add_le_add_left (Nat.mul_le_mul_right _ (by omega)) _) hA)
 obtain⟨V,hV⟩:∃ V,V=(w1.alloc (.cells #[.slice a1 l1 c1,.slice a2 l2 c2,.int .i64 p] 56)).alloc (.cells #[.slice b1 m1 d1,.slice b2 m2 d2,.int .i64 p] 56):=⟨_,rfl⟩
 have hc:Bw w1 V:=by rw[hV];exact((Below.refl _ _).alloc (Nat.le_refl _) _).alloc (by simp) _
 have hb2:Bw W V:=hb1.trans (hc.mono hb1.size)
 have k2:=bminus (p:=(p:Int)) (q:=(p:Int)) (⟨a1,l1,c1,a2,l2,c2,rfl,i1.later hc,i2.later hc⟩:Bd2 V _ _ _ _) (⟨b1,m1,d1,b2,m2,d2,rfl,i3.later hc,i4.later hc⟩:Bd2 V _ _ _ _) (by omega) (by omega) (by omega) (by omega) hle (by omega)
 have e0:(V.cell? ⟨w1.heap.size,0,none⟩=some (.slice a1 l1 c1)∧V.cell? ⟨w1.heap.size,1,none⟩=some (.slice a2 l2 c2)∧V.cell? ⟨w1.heap.size,2,none⟩=some (.int .i64 p)):=by
  have h:BdB V w1.heap.size a1 l1 c1 a2 l2 c2 p:=by rw[hV];exact(BdB.new _ _ _ _ _ _ _ _).box ((Below.refl _ _).alloc (Nat.le_refl _) _)
  exact h.facts.1
 have e1:(V.cell? ⟨w1.heap.size+1,0,none⟩=some (.slice b1 m1 d1)∧V.cell? ⟨w1.heap.size+1,1,none⟩=some (.slice b2 m2 d2)∧V.cell? ⟨w1.heap.size+1,2,none⟩=some (.int .i64 p)):=by
  have h:=BdB.new (w1.alloc (.cells #[.slice a1 l1 c1,.slice a2 l2 c2,.int .i64 p] 56)) b1 m1 d1 b2 m2 d2 p
  rw[show(w1.alloc (.cells #[.slice a1 l1 c1,.slice a2 l2 c2,.int .i64 p] 56)).heap.size=w1.heap.size+1 by simp,←hV] at h
  exact h.facts.1
 have HB:Hid (Bw w V∧BdB V w.heap.size none 0 0 none 0 0 0):=⟨HX.out.1.trans (hb2.mono HX.out.1.size),HX.out.2.box hb2⟩
 have HK:Hid (Brk Z p (evS n p j - (odS n p j+(j+2))) (evS n p j+(j+2) - odS n p j) (MA Z n - MO Z n) 9000):=(K1.minus K2 hle).wide (by omega)
 obtain⟨x0,x1,x2⟩:=e0
 obtain⟨y0,y1,y2⟩:=e1
 rw[hV] at x0 x1 x2 y0 y1 y2
 clear h0 hj i1 i2 i3 i4 hb1 K1 K2 hs1 hs2 q1 q2 q3 q4 hc hb2 HX hle
 go_wp2_with fail
 rw[←hV]
 clear hV x0 x1 x2 y0 y1 y2
 refine k2.mono ?_
 rintro r w4 ⟨e1,g1,h1,e2,g2,h2,rfl,i1,i2,hb4⟩
 have HR:Hid (BdB w4 w.heap.size none 0 0 none 0 0 0):=HB.out.2.box hb4
 obtain⟨⟨x0,x1,x2⟩,f0,f1,f2⟩:=HR.out.facts
 have HO:Hid (Is w4 (.slice e1 g1 h1) (evS n p j - (odS n p j+(j+2)))∧Is w4 (.slice e2 g2 h2) (evS n p j+(j+2) - odS n p j)∧Bw w w4):=⟨i1,i2,HB.out.1.trans (hb4.mono HB.out.1.size)⟩
 clear k2 i1 i2 hb4 HB
 go_wp2_with fail
 refine bodyPost_ret (results_cell_row rfl _ _ w.heap.size 56 #[.slice e1 g1 h1,.slice e2 g2 h2,.int .i64 p] (0,0) _ rfl (HR.out.set _ _ _ _ _ _ _) Tryz.underlying56 rfl bd_info) rfl ?_
 exact⟨_,_,HK.out,_,_,_,_,_,_,rfl,is_storeB HO.out.1 HR.out _ _ _,is_storeB HO.out.2.1 HR.out _ _ _,below3 HO.out.2.2 (Nat.le_refl _) _ _ _⟩
theorem batanh {Z n p:Nat} {w:World} (hn1:3≤n) (hn2:n≤65535) (hp:p≤Z) (hZ:Z≤4200) :
  Calls Tryz.prog 54 #[.int .u32 n,.int .i64 p] w fun r w'=>OutK Z p (MA Z n+MO Z n) 9000 w p r w':=by
 obtain⟨W,hW,hBW,hR⟩:=zeroB w
 have HX:Hid (Bw w W∧BdB W w.heap.size none 0 0 none 0 0 0):=⟨hBW,hR⟩
 have k1:=bseries (w:=W) hn1 hn2 (show p≤1000000 by omega)
 clear hBW hR
 go_enter Tryz.func54,Tryz.ntmps54
 go_wp2_with fail
 rw[←hW]
 clear hW
 refine k1.mono ?_
 rintro r w1 ⟨j,a1,l1,c1,a2,l2,c2,b1,m1,d1,b2,m2,d2,h0,hj,rfl,i1,i2,i3,i4,hb1⟩
 clear k1
 obtain⟨K1,K2⟩:=at_brk hn1 hp hj h0
 obtain⟨hs1,hs2⟩:=sS_le n p j
 have q1:=dlen_bound hs1 (by unfold B;omega) (show p≤1000000 by omega)
 have q2:=dlen_bound hs2 (by unfold B;omega) (show p≤1000000 by omega)
 have hjB:j+2≤1*2^p+(j+2):=by omega
 have q3:dlen (evS n p j+(j+2))≤50000:=dl_add q1 (by omega)
 have q4:dlen (odS n p j+(j+2))≤50000:=dl_add q2 (by omega)
 obtain⟨V,hV⟩:∃ V,V=(w1.alloc (.cells #[.slice a1 l1 c1,.slice a2 l2 c2,.int .i64 p] 56)).alloc (.cells #[.slice b1 m1 d1,.slice b2 m2 d2,.int .i64 p] 56):=⟨_,rfl⟩
 have hc:Bw w1 V:=by rw[hV];exact((Below.refl _ _).alloc (Nat.le_refl _) _).alloc (by simp) _
 have hb2:Bw W V:=hb1.trans (hc.mono hb1.size)
 have k2:=bplus (p:=(p:Int)) (q:=(p:Int)) (⟨a1,l1,c1,a2,l2,c2,rfl,i1.later hc,i2.later hc⟩:Bd2 V _ _ _ _) (⟨b1,m1,d1,b2,m2,d2,rfl,i3.later hc,i4.later hc⟩:Bd2 V _ _ _ _) (by omega) (by omega) (by omega) (by omega)
 have e0:(V.cell? ⟨w1.heap.size,0,none⟩=some (.slice a1 l1 c1)∧V.cell? ⟨w1.heap.size,1,none⟩=some (.slice a2 l2 c2)∧V.cell? ⟨w1.heap.size,2,none⟩=some (.int .i64 p)):=by
  have h:BdB V w1.heap.size a1 l1 c1 a2 l2 c2 p:=by rw[hV];exact(BdB.new _ _ _ _ _ _ _ _).box ((Below.refl _ _).alloc (Nat.le_refl _) _)
  exact h.facts.1
 have e1:(V.cell? ⟨w1.heap.size+1,0,none⟩=some (.slice b1 m1 d1)∧V.cell? ⟨w1.heap.size+1,1,none⟩=some (.slice b2 m2 d2)∧V.cell? ⟨w1.heap.size+1,2,none⟩=some (.int .i64 p)):=by
  have h:=BdB.new (w1.alloc (.cells #[.slice a1 l1 c1,.slice a2 l2 c2,.int .i64 p] 56)) b1 m1 d1 b2 m2 d2 p
  rw[show(w1.alloc (.cells #[.slice a1 l1 c1,.slice a2 l2 c2,.int .i64 p] 56)).heap.size=w1.heap.size+1 by simp,←hV] at h
  exact h.facts.1
 have HB:Hid (Bw w V∧BdB V w.heap.size none 0 0 none 0 0 0):=⟨HX.out.1.trans (hb2.mono HX.out.1.size),HX.out.2.box hb2⟩
 have HK:Hid (Brk Z p (evS n p j+odS n p j) (evS n p j+(j+2)+(odS n p j+(j+2))) (MA Z n+MO Z n) 9000):=(K1.plus K2).wide (by omega)
 obtain⟨x0,x1,x2⟩:=e0
 obtain⟨y0,y1,y2⟩:=e1
 rw[hV] at x0 x1 x2 y0 y1 y2
 clear h0 hj i1 i2 i3 i4 hb1 K1 K2 hs1 hs2 q1 q2 q3 q4 hc hb2 HX
 go_wp2_with fail
 rw[←hV]
 clear hV x0 x1 x2 y0 y1 y2
 refine k2.mono ?_
 rintro r w4 ⟨e1,g1,h1,e2,g2,h2,rfl,i1,i2,hb4⟩
 have HR:Hid (BdB w4 w.heap.size none 0 0 none 0 0 0):=HB.out.2.box hb4
 obtain⟨⟨x0,x1,x2⟩,f0,f1,f2⟩:=HR.out.facts
 have HO:Hid (Is w4 (.slice e1 g1 h1) (evS n p j+odS n p j)∧Is w4 (.slice e2 g2 h2) (evS n p j+(j+2)+(odS n p j+(j+2)))∧Bw w w4):=⟨i1,i2,HB.out.1.trans (hb4.mono HB.out.1.size)⟩
 clear k2 i1 i2 hb4 HB
 go_wp2_with fail
 refine bodyPost_ret (results_cell_row rfl _ _ w.heap.size 56 #[.slice e1 g1 h1,.slice e2 g2 h2,.int .i64 p] (0,0) _ rfl (HR.out.set _ _ _ _ _ _ _) Tryz.underlying56 rfl bd_info) rfl ?_
 exact⟨_,_,HK.out,_,_,_,_,_,_,rfl,is_storeB HO.out.1 HR.out _ _ _,is_storeB HO.out.2.1 HR.out _ _ _,below3 HO.out.2.2 (Nat.le_refl _) _ _ _⟩
def Sm (M G:Nat):Prop:=M<B^135∧G<B
theorem OutK.arg {Z p M G:Nat} {W w':World} {q:Int} {r:Ending} (h:OutK Z p M G W q r w'):∃ a1 n1 c1 a2 n2 c2,r=.returned (.agg #[.slice a1 n1 c1,.slice a2 n2 c2,.int .i64 q])∧ArgK Z p M G w' (.agg #[.slice a1 n1 c1,.slice a2 n2 c2,.int .i64 q]) q∧Bw W w':=by
 obtain⟨lo,hi,hk,a1,n1,c1,a2,n2,c2,e,i1,i2,hb⟩:=h
 exact⟨a1,n1,c1,a2,n2,c2,e,⟨lo,hi,hk,a1,n1,c1,a2,n2,c2,rfl,i1,i2⟩,hb⟩
theorem ktimes {Z p M G n:Nat} {w:World} {A:Value} {q:Int} (h:ArgK Z p M G w A q) (s:Sm M G) (hn:n<18446744073709551616):Calls Tryz.prog 34 #[A,.int .u64 n] w fun r w'=>OutK Z p (M*n) (G*n) w q r w':=by
 obtain⟨lo,hi,hk,hB⟩:=h
 obtain⟨d1,d2⟩:=hk.dl s.1 s.2 (by decide)
 exact(btimes hB (by omega) (by omega) hn).mono fun r w' h=>⟨_,_,hk.times n,h⟩
theorem kplus {Z p M G N H:Nat} {w:World} {A C:Value} {q q':Int} (h1:ArgK Z p M G w A q) (h2:ArgK Z p N H w C q') (s1:Sm M G) (s2:Sm N H):Calls Tryz.prog 55 #[A,C] w fun r w'=>OutK Z p (M+N) (G+H) w q r w':=by
 obtain⟨lo,hi,hk,hB⟩:=h1
 obtain⟨lo',hi',hk',hB'⟩:=h2
 obtain⟨d1,d2⟩:=hk.dl s1.1 s1.2 (by decide)
 obtain⟨d3,d4⟩:=hk'.dl s2.1 s2.2 (by decide)
 exact(bplus hB hB' (by omega) (by omega) (by omega) (by omega)).mono fun r w' h=>⟨_,_,hk.plus hk',h⟩
theorem kminus {Z p M G N H:Nat} {w:World} {A C:Value} {q q':Int} (h1:ArgK Z p M G w A q) (h2:ArgK Z p N H w C q') (s1:Sm M G) (s2:Sm N H) (ha:N+(G+H)*2^(Z - p)≤M):Calls Tryz.prog 72 #[A,C] w fun r w'=>OutK Z p (M - N) (G+H) w q r w':=by
 obtain⟨lo,hi,hk,hB⟩:=h1
 obtain⟨lo',hi',hk',hB'⟩:=h2
 obtain⟨d1,d2⟩:=hk.dl s1.1 s1.2 (by decide)
 obtain⟨d3,d4⟩:=hk'.dl s2.1 s2.2 (by decide)
 have hle:=hk.apart hk' ha
 exact(bminus hB hB' (by omega) (by omega) (by omega) (by omega) hle (by have:=hk.le;have:=hk'.le;omega)).mono fun r w' h=>⟨_,_,hk.minus hk' hle,h⟩
theorem khalved {Z p M G:Nat} {w:World} {A:Value} {q:Int} (h:ArgK Z p M G w A q) (h1 : -1000000000≤q) (h2:q≤1000000000):Calls Tryz.prog 52 #[A] w fun r w'=>OutK Z p M G w (q+1) r w':=by
 obtain⟨lo,hi,hk,hB⟩:=h
 exact(bhalved hB h1 h2).mono fun r w' h=>⟨_,_,hk,h⟩
theorem kwhole {Z n p:Nat} {w:World} (hn:n<18446744073709551616) (hp:p≤Z) (hZ:Z≤4200):Calls Tryz.prog 57 #[.int .u64 n,.int .i64 p] w fun r w'=>OutK Z p (n*2^Z) 0 w p r w':=by
 refine(bwhole hn (show p≤1000000 by omega)).mono fun r w' h=>⟨_,_,⟨?_,?_,Nat.le_refl _,Nat.le_refl _⟩,h⟩ <;> rw[Nat.mul_assoc,←Nat.pow_add,show p+(Z - p)=Z by omega] <;> exact Nat.le_refl _
theorem root_ex (x:Nat):∃ q,q*q≤x∧x<(q+1)*(q+1):=by
 induction x with
 | zero=>exact⟨0,by decide,by decide⟩
 | succ x ih =>
  obtain⟨q,h1,h2⟩:=ih
  by_cases h:x+1<(q+1)*(q+1)
  ·exact⟨q,by omega,h⟩
  ·refine⟨q+1,by omega,?_⟩
   have:(q+1)*(q+1)<(q+1+1)*(q+1+1):=Nat.mul_lt_mul_of_lt_of_le (by omega) (by omega) (by omega)
   omega
theorem kroot {Z n p Q:Nat} {w:World} (hn:n<18446744073709551616) (hp:p≤Z) (hZ:Z≤4200) (h3:Q*Q≤n*2^(2*Z)) (h4:n*2^(2*Z)<(Q+1)*(Q+1)):Calls Tryz.prog 56 #[.int .u64 n,.int .i64 p] w fun r w'=>OutK Z p Q 1 w p r w':=by
 obtain⟨q,h1,h2⟩:∃ q,q*q≤n*2^(2*p)∧n*2^(2*p)<(q+1)*(q+1):=root_ex _
 exact(broot hn (show p≤1000000 by omega) h1 h2).mono fun r w' h=>⟨_,_,brk_root hp h1 h2 h3 h4,h⟩
def MPI (Z:Nat):Nat:=(MA Z 5 - MO Z 5)*16 - (MA Z 239 - MO Z 239)*4
structure PiOk (Z p:Nat):Prop where
 h5:MO Z 5+9000*2^(Z - p)≤MA Z 5
 h239:MO Z 239+9000*2^(Z - p)≤MA Z 239
 hd:(MA Z 239 - MO Z 239)*4+(9000*16+9000*4)*2^(Z - p)≤(MA Z 5 - MO Z 5)*16
 s1:Sm (MA Z 5 - MO Z 5) 9000
 s2:Sm (MA Z 239 - MO Z 239) 9000
 s3:Sm ((MA Z 5 - MO Z 5)*16) (9000*16)
 s4:Sm ((MA Z 239 - MO Z 239)*4) (9000*4)
theorem kpi {Z p:Nat} {w:World} (hp:p≤Z) (hZ:Z≤4200) (ok:PiOk Z p) :
  Calls Tryz.prog 51 #[.int .i64 p] w fun r w'=>OutK Z p (MPI Z) (9000*16+9000*4) w (p) r w':=by
 obtain⟨W,hW,hBW,hR⟩:=zeroB w
 have HX:Hid (Bw w W∧BdB W w.heap.size none 0 0 none 0 0 0):=⟨hBW,hR⟩
 clear hBW hR
 go_enter Tryz.func51,Tryz.ntmps51
 have kk:=batan (n:=5) (w:=W) (by omega) (by omega) hp hZ ok.h5
 go_wp2_with fail
 rw[←hW]
 clear hW
 refine kk.mono ?_
 rintro r w1 h1
 obtain⟨a1,n1,c1,p1,l1,d1,rfl,E1,hb⟩:=h1.arg
 have B1:Hid (Bw W w1):=hb
 clear kk hb h1
 have kk:=ktimes (n:=16) E1 ok.s1 (by omega)
 go_wp2_with fail
 refine kk.mono ?_
 rintro r w2 h2
 obtain⟨a2,n2,c2,p2,l2,d2,rfl,E2,hb⟩:=h2.arg
 have B2:Hid (Bw W w2):=B1.out.trans (hb.mono B1.out.size)
 replace E1:=E1.later hb
 clear kk hb h2
 have kk:=batan (n:=239) (w:=w2) (by omega) (by omega) hp hZ ok.h239
 go_wp2_with fail
 refine kk.mono ?_
 rintro r w3 h3
 obtain⟨a3,n3,c3,p3,l3,d3,rfl,E3,hb⟩:=h3.arg
 have B3:Hid (Bw W w3):=B2.out.trans (hb.mono B2.out.size)
 replace E2:=E2.later hb
 clear kk hb h3
 have kk:=ktimes (n:=4) E3 ok.s2 (by omega)
 go_wp2_with fail
 refine kk.mono ?_
 rintro r w4 h4
 obtain⟨a4,n4,c4,p4,l4,d4,rfl,E4,hb⟩:=h4.arg
 have B4:Hid (Bw W w4):=B3.out.trans (hb.mono B3.out.size)
 replace E2:=E2.later hb
 replace E3:=E3.later hb
 clear kk hb h4
 have kk:=kminus E2 E4 ok.s3 ok.s4 ok.hd
 go_wp2_with fail
 refine kk.mono ?_
 rintro r w5 h5
 obtain⟨a5,n5,c5,p5,l5,d5,rfl,E5,hb⟩:=h5.arg
 have B5:Hid (Bw W w5):=B4.out.trans (hb.mono B4.out.size)
 replace E2:=E2.later hb
 replace E4:=E4.later hb
 clear kk hb h5
 have HR:Hid (BdB w5 w.heap.size none 0 0 none 0 0 0):=HX.out.2.box B5.out
 obtain⟨⟨x0,x1,x2⟩,f0,f1,f2⟩:=HR.out.facts
 have HO:Hid (ArgK Z p (MPI Z) (9000*16+9000*4) w5 (.agg #[.slice a5 n5 c5,.slice p5 l5 d5,.int .i64 (p)]) (p)∧Bw w w5):=⟨E5,HX.out.1.trans (B5.out.mono HX.out.1.size)⟩
 clear E5 HX B5
 go_wp2_with fail
 refine bodyPost_ret (results_cell_row rfl _ _ w.heap.size 56 #[.slice a5 n5 c5,.slice p5 l5 d5,.int .i64 (p)] (0,0) _ rfl (HR.out.set _ _ _ _ _ _ _) Tryz.underlying56 rfl bd_info) rfl ?_
 obtain⟨lo,hi,hk,u1,u2,u3,u4,u5,u6,eq,i1,i2⟩:=HO.out.1
 injection eq with eq
 have e0:=congrArg (fun z=>z[0]?) eq
 have e1:=congrArg (fun z=>z[1]?) eq
 simp at e0 e1
 obtain⟨rfl,rfl,rfl⟩:=e0
 obtain⟨rfl,rfl,rfl⟩:=e1
 exact⟨lo,hi,hk,_,_,_,_,_,_,rfl,is_storeB i1 HR.out _ _ _,is_storeB i2 HR.out _ _ _,below3 HO.out.2 (Nat.le_refl _) _ _ _⟩
theorem keuler {Z p:Nat} {w:World} (hp:p≤Z) (hZ:Z≤4200):Calls Tryz.prog 53 #[.int .i64 p] w fun r w'=>OutK Z p (ME Z) 9000 w p r w':=by
 refine(beuler (show p≤1000000 by omega)).mono ?_
 rintro r w' ⟨j,h0,hj,h⟩
 exact⟨_,_,(eu_brk hp hj h0).wide (by omega),h⟩
theorem near_1 {Z p:Nat} {w:World} (hp:p≤Z) (hZ:Z≤4200) (ok:PiOk Z p) :
  Calls Tryz.prog 33 #[.int .i64 1,.int .i64 p] w fun r w'=>OutK Z p (MPI Z) (9000*16+9000*4) w (p) r w':=by
 obtain⟨W,hW,hBW,hR⟩:=zeroB w
 have HX:Hid (Bw w W∧BdB W w.heap.size none 0 0 none 0 0 0):=⟨hBW,hR⟩
 clear hBW hR
 go_enter Tryz.func33,Tryz.ntmps33
 have kk:=kpi (w:=W) hp hZ ok
 go_wp2_with fail
 rw[←hW]
 clear hW
 refine kk.mono ?_
 rintro r w1 h1
 obtain⟨a1,n1,c1,p1,l1,d1,rfl,E1,hb⟩:=h1.arg
 have B1:Hid (Bw W w1):=hb
 clear kk hb h1
 have HR:Hid (BdB w1 w.heap.size none 0 0 none 0 0 0):=HX.out.2.box B1.out
 obtain⟨⟨x0,x1,x2⟩,f0,f1,f2⟩:=HR.out.facts
 have HO:Hid (ArgK Z p (MPI Z) (9000*16+9000*4) w1 (.agg #[.slice a1 n1 c1,.slice p1 l1 d1,.int .i64 (p)]) (p)∧Bw w w1):=⟨E1,HX.out.1.trans (B1.out.mono HX.out.1.size)⟩
 clear E1 HX B1
 go_wp2_with fail
 refine bodyPost_ret (results_cell_row rfl _ _ w.heap.size 56 #[.slice a1 n1 c1,.slice p1 l1 d1,.int .i64 (p)] (0,0) _ rfl (HR.out.set _ _ _ _ _ _ _) Tryz.underlying56 rfl bd_info) rfl ?_
 obtain⟨lo,hi,hk,u1,u2,u3,u4,u5,u6,eq,i1,i2⟩:=HO.out.1
 injection eq with eq
 have e0:=congrArg (fun z=>z[0]?) eq
 have e1:=congrArg (fun z=>z[1]?) eq
 simp at e0 e1
 obtain⟨rfl,rfl,rfl⟩:=e0
 obtain⟨rfl,rfl,rfl⟩:=e1
 exact⟨lo,hi,hk,_,_,_,_,_,_,rfl,is_storeB i1 HR.out _ _ _,is_storeB i2 HR.out _ _ _,below3 HO.out.2 (Nat.le_refl _) _ _ _⟩
theorem near_2 {Z p:Nat} {w:World} (hp:p≤Z) (hZ:Z≤4200) (ok:PiOk Z p) :
  Calls Tryz.prog 33 #[.int .i64 2,.int .i64 p] w fun r w'=>OutK Z p (MPI Z) (9000*16+9000*4) w (p+1) r w':=by
 obtain⟨W,hW,hBW,hR⟩:=zeroB w
 have HX:Hid (Bw w W∧BdB W w.heap.size none 0 0 none 0 0 0):=⟨hBW,hR⟩
 clear hBW hR
 go_enter Tryz.func33,Tryz.ntmps33
 have kk:=kpi (w:=W) hp hZ ok
 go_wp2_with fail
 rw[←hW]
 clear hW
 refine kk.mono ?_
 rintro r w1 h1
 obtain⟨a1,n1,c1,p1,l1,d1,rfl,E1,hb⟩:=h1.arg
 have B1:Hid (Bw W w1):=hb
 clear kk hb h1
 have kk:=khalved E1 (by omega) (by omega)
 go_wp2_with fail
 refine kk.mono ?_
 rintro r w2 h2
 obtain⟨a2,n2,c2,p2,l2,d2,rfl,E2,hb⟩:=h2.arg
 have B2:Hid (Bw W w2):=B1.out.trans (hb.mono B1.out.size)
 replace E1:=E1.later hb
 clear kk hb h2
 have HR:Hid (BdB w2 w.heap.size none 0 0 none 0 0 0):=HX.out.2.box B2.out
 obtain⟨⟨x0,x1,x2⟩,f0,f1,f2⟩:=HR.out.facts
 have HO:Hid (ArgK Z p (MPI Z) (9000*16+9000*4) w2 (.agg #[.slice a2 n2 c2,.slice p2 l2 d2,.int .i64 (p+1)]) (p+1)∧Bw w w2):=⟨E2,HX.out.1.trans (B2.out.mono HX.out.1.size)⟩
 clear E2 HX B2
 go_wp2_with fail
 refine bodyPost_ret (results_cell_row rfl _ _ w.heap.size 56 #[.slice a2 n2 c2,.slice p2 l2 d2,.int .i64 (p+1)] (0,0) _ rfl (HR.out.set _ _ _ _ _ _ _) Tryz.underlying56 rfl bd_info) rfl ?_
 obtain⟨lo,hi,hk,u1,u2,u3,u4,u5,u6,eq,i1,i2⟩:=HO.out.1
 injection eq with eq
 have e0:=congrArg (fun z=>z[0]?) eq
 have e1:=congrArg (fun z=>z[1]?) eq
 simp at e0 e1
 obtain⟨rfl,rfl,rfl⟩:=e0
 obtain⟨rfl,rfl,rfl⟩:=e1
 exact⟨lo,hi,hk,_,_,_,_,_,_,rfl,is_storeB i1 HR.out _ _ _,is_storeB i2 HR.out _ _ _,below3 HO.out.2 (Nat.le_refl _) _ _ _⟩
theorem near_3 {Z p:Nat} {w:World} (hp:p≤Z) (hZ:Z≤4200) (ok:PiOk Z p) (s:Sm (MPI Z) (9000*16+9000*4)) :
  Calls Tryz.prog 33 #[.int .i64 3,.int .i64 p] w fun r w'=>OutK Z p (MPI Z*2) ((9000*16+9000*4)*2) w (p) r w':=by
 obtain⟨W,hW,hBW,hR⟩:=zeroB w
 have HX:Hid (Bw w W∧BdB W w.heap.size none 0 0 none 0 0 0):=⟨hBW,hR⟩
 clear hBW hR
 go_enter Tryz.func33,Tryz.ntmps33
 have kk:=kpi (w:=W) hp hZ ok
 go_wp2_with fail
 rw[←hW]
 clear hW
 refine kk.mono ?_
 rintro r w1 h1
 obtain⟨a1,n1,c1,p1,l1,d1,rfl,E1,hb⟩:=h1.arg
 have B1:Hid (Bw W w1):=hb
 clear kk hb h1
 have kk:=ktimes (n:=2) E1 s (by omega)
 go_wp2_with fail
 refine kk.mono ?_
 rintro r w2 h2
 obtain⟨a2,n2,c2,p2,l2,d2,rfl,E2,hb⟩:=h2.arg
 have B2:Hid (Bw W w2):=B1.out.trans (hb.mono B1.out.size)
 replace E1:=E1.later hb
 clear kk hb h2
 have HR:Hid (BdB w2 w.heap.size none 0 0 none 0 0 0):=HX.out.2.box B2.out
 obtain⟨⟨x0,x1,x2⟩,f0,f1,f2⟩:=HR.out.facts
 have HO:Hid (ArgK Z p (MPI Z*2) ((9000*16+9000*4)*2) w2 (.agg #[.slice a2 n2 c2,.slice p2 l2 d2,.int .i64 (p)]) (p)∧Bw w w2):=⟨E2,HX.out.1.trans (B2.out.mono HX.out.1.size)⟩
 clear E2 HX B2
 go_wp2_with fail
 refine bodyPost_ret (results_cell_row rfl _ _ w.heap.size 56 #[.slice a2 n2 c2,.slice p2 l2 d2,.int .i64 (p)] (0,0) _ rfl (HR.out.set _ _ _ _ _ _ _) Tryz.underlying56 rfl bd_info) rfl ?_
 obtain⟨lo,hi,hk,u1,u2,u3,u4,u5,u6,eq,i1,i2⟩:=HO.out.1
 injection eq with eq
 have e0:=congrArg (fun z=>z[0]?) eq
 have e1:=congrArg (fun z=>z[1]?) eq
 simp at e0 e1
 obtain⟨rfl,rfl,rfl⟩:=e0
 obtain⟨rfl,rfl,rfl⟩:=e1
 exact⟨lo,hi,hk,_,_,_,_,_,_,rfl,is_storeB i1 HR.out _ _ _,is_storeB i2 HR.out _ _ _,below3 HO.out.2 (Nat.le_refl _) _ _ _⟩
theorem near_4 {Z p:Nat} {w:World} (hp:p≤Z) (hZ:Z≤4200) :
  Calls Tryz.prog 33 #[.int .i64 4,.int .i64 p] w fun r w'=>OutK Z p (ME Z) (9000) w (p) r w':=by
 obtain⟨W,hW,hBW,hR⟩:=zeroB w
 have HX:Hid (Bw w W∧BdB W w.heap.size none 0 0 none 0 0 0):=⟨hBW,hR⟩
 clear hBW hR
 go_enter Tryz.func33,Tryz.ntmps33
 have kk:=keuler (w:=W) hp hZ
 go_wp2_with fail
 rw[←hW]
 clear hW
 refine kk.mono ?_
 rintro r w1 h1
 obtain⟨a1,n1,c1,p1,l1,d1,rfl,E1,hb⟩:=h1.arg
 have B1:Hid (Bw W w1):=hb
 clear kk hb h1
 have HR:Hid (BdB w1 w.heap.size none 0 0 none 0 0 0):=HX.out.2.box B1.out
 obtain⟨⟨x0,x1,x2⟩,f0,f1,f2⟩:=HR.out.facts
 have HO:Hid (ArgK Z p (ME Z) (9000) w1 (.agg #[.slice a1 n1 c1,.slice p1 l1 d1,.int .i64 (p)]) (p)∧Bw w w1):=⟨E1,HX.out.1.trans (B1.out.mono HX.out.1.size)⟩
 clear E1 HX B1
 go_wp2_with fail
 refine bodyPost_ret (results_cell_row rfl _ _ w.heap.size 56 #[.slice a1 n1 c1,.slice p1 l1 d1,.int .i64 (p)] (0,0) _ rfl (HR.out.set _ _ _ _ _ _ _) Tryz.underlying56 rfl bd_info) rfl ?_
 obtain⟨lo,hi,hk,u1,u2,u3,u4,u5,u6,eq,i1,i2⟩:=HO.out.1
 injection eq with eq
 have e0:=congrArg (fun z=>z[0]?) eq
 have e1:=congrArg (fun z=>z[1]?) eq
 simp at e0 e1
 obtain⟨rfl,rfl,rfl⟩:=e0
 obtain⟨rfl,rfl,rfl⟩:=e1
 exact⟨lo,hi,hk,_,_,_,_,_,_,rfl,is_storeB i1 HR.out _ _ _,is_storeB i2 HR.out _ _ _,below3 HO.out.2 (Nat.le_refl _) _ _ _⟩
theorem near_5 {Z p:Nat} {w:World} (hp:p≤Z) (hZ:Z≤4200) (s:Sm (MA Z 3+MO Z 3) 9000) :
  Calls Tryz.prog 33 #[.int .i64 5,.int .i64 p] w fun r w'=>OutK Z p ((MA Z 3+MO Z 3)*2) (9000*2) w (p) r w':=by
 obtain⟨W,hW,hBW,hR⟩:=zeroB w
 have HX:Hid (Bw w W∧BdB W w.heap.size none 0 0 none 0 0 0):=⟨hBW,hR⟩
 clear hBW hR
 go_enter Tryz.func33,Tryz.ntmps33
 have kk:=batanh (n:=3) (w:=W) (by omega) (by omega) hp hZ
 go_wp2_with fail
 rw[←hW]
 clear hW
 refine kk.mono ?_
 rintro r w1 h1
 obtain⟨a1,n1,c1,p1,l1,d1,rfl,E1,hb⟩:=h1.arg
 have B1:Hid (Bw W w1):=hb
 clear kk hb h1
 have kk:=ktimes (n:=2) E1 s (by omega)
 go_wp2_with fail
 refine kk.mono ?_
 rintro r w2 h2
 obtain⟨a2,n2,c2,p2,l2,d2,rfl,E2,hb⟩:=h2.arg
 have B2:Hid (Bw W w2):=B1.out.trans (hb.mono B1.out.size)
 replace E1:=E1.later hb
 clear kk hb h2
 have HR:Hid (BdB w2 w.heap.size none 0 0 none 0 0 0):=HX.out.2.box B2.out
 obtain⟨⟨x0,x1,x2⟩,f0,f1,f2⟩:=HR.out.facts
 have HO:Hid (ArgK Z p ((MA Z 3+MO Z 3)*2) (9000*2) w2 (.agg #[.slice a2 n2 c2,.slice p2 l2 d2,.int .i64 (p)]) (p)∧Bw w w2):=⟨E2,HX.out.1.trans (B2.out.mono HX.out.1.size)⟩
 clear E2 HX B2
 go_wp2_with fail
 refine bodyPost_ret (results_cell_row rfl _ _ w.heap.size 56 #[.slice a2 n2 c2,.slice p2 l2 d2,.int .i64 (p)] (0,0) _ rfl (HR.out.set _ _ _ _ _ _ _) Tryz.underlying56 rfl bd_info) rfl ?_
 obtain⟨lo,hi,hk,u1,u2,u3,u4,u5,u6,eq,i1,i2⟩:=HO.out.1
 injection eq with eq
 have e0:=congrArg (fun z=>z[0]?) eq
 have e1:=congrArg (fun z=>z[1]?) eq
 simp at e0 e1
 obtain⟨rfl,rfl,rfl⟩:=e0
 obtain⟨rfl,rfl,rfl⟩:=e1
 exact⟨lo,hi,hk,_,_,_,_,_,_,rfl,is_storeB i1 HR.out _ _ _,is_storeB i2 HR.out _ _ _,below3 HO.out.2 (Nat.le_refl _) _ _ _⟩
theorem near_6 {Z p:Nat} {w:World} (hp:p≤Z) (hZ:Z≤4200) (s:Sm (MA Z 3+MO Z 3) 9000) (t:Sm (MA Z 9+MO Z 9) 9000) (s6:Sm ((MA Z 3+MO Z 3)*6) (9000*6)) (t2:Sm ((MA Z 9+MO Z 9)*2) (9000*2)) :
  Calls Tryz.prog 33 #[.int .i64 6,.int .i64 p] w fun r w'=>OutK Z p ((MA Z 3+MO Z 3)*6+(MA Z 9+MO Z 9)*2) (9000*6+9000*2) w (p) r w':=by
 obtain⟨W,hW,hBW,hR⟩:=zeroB w
 have HX:Hid (Bw w W∧BdB W w.heap.size none 0 0 none 0 0 0):=⟨hBW,hR⟩
 clear hBW hR
 go_enter Tryz.func33,Tryz.ntmps33
 have kk:=batanh (n:=3) (w:=W) (by omega) (by omega) hp hZ
 go_wp2_with fail
 rw[←hW]
 clear hW
 refine kk.mono ?_
 rintro r w1 h1
 obtain⟨a1,n1,c1,p1,l1,d1,rfl,E1,hb⟩:=h1.arg
 have B1:Hid (Bw W w1):=hb
 clear kk hb h1
 have kk:=ktimes (n:=6) E1 s (by omega)
 go_wp2_with fail
 refine kk.mono ?_
 rintro r w2 h2
 obtain⟨a2,n2,c2,p2,l2,d2,rfl,E2,hb⟩:=h2.arg
 have B2:Hid (Bw W w2):=B1.out.trans (hb.mono B1.out.size)
 replace E1:=E1.later hb
 clear kk hb h2
 have kk:=batanh (n:=9) (w:=w2) (by omega) (by omega) hp hZ
 go_wp2_with fail
 refine kk.mono ?_
 rintro r w3 h3
 obtain⟨a3,n3,c3,p3,l3,d3,rfl,E3,hb⟩:=h3.arg
 have B3:Hid (Bw W w3):=B2.out.trans (hb.mono B2.out.size)
 replace E2:=E2.later hb
 clear kk hb h3
 have kk:=ktimes (n:=2) E3 t (by omega)
 go_wp2_with fail
 refine kk.mono ?_
 rintro r w4 h4
 obtain⟨a4,n4,c4,p4,l4,d4,rfl,E4,hb⟩:=h4.arg
 have B4:Hid (Bw W w4):=B3.out.trans (hb.mono B3.out.size)
 replace E2:=E2.later hb
 replace E3:=E3.later hb
 clear kk hb h4
 have kk:=kplus E2 E4 s6 t2
 go_wp2_with fail
 refine kk.mono ?_
 rintro r w5 h5
 obtain⟨a5,n5,c5,p5,l5,d5,rfl,E5,hb⟩:=h5.arg
 have B5:Hid (Bw W w5):=B4.out.trans (hb.mono B4.out.size)
 replace E2:=E2.later hb
 replace E4:=E4.later hb
 clear kk hb h5
 have HR:Hid (BdB w5 w.heap.size none 0 0 none 0 0 0):=HX.out.2.box B5.out
 obtain⟨⟨x0,x1,x2⟩,f0,f1,f2⟩:=HR.out.facts
 have HO:Hid (ArgK Z p ((MA Z 3+MO Z 3)*6+(MA Z 9+MO Z 9)*2) (9000*6+9000*2) w5 (.agg #[.slice a5 n5 c5,.slice p5 l5 d5,.int .i64 (p)]) (p)∧Bw w w5):=⟨E5,HX.out.1.trans (B5.out.mono HX.out.1.size)⟩
 clear E5 HX B5
 go_wp2_with fail
 refine bodyPost_ret (results_cell_row rfl _ _ w.heap.size 56 #[.slice a5 n5 c5,.slice p5 l5 d5,.int .i64 (p)] (0,0) _ rfl (HR.out.set _ _ _ _ _ _ _) Tryz.underlying56 rfl bd_info) rfl ?_
 obtain⟨lo,hi,hk,u1,u2,u3,u4,u5,u6,eq,i1,i2⟩:=HO.out.1
 injection eq with eq
 have e0:=congrArg (fun z=>z[0]?) eq
 have e1:=congrArg (fun z=>z[1]?) eq
 simp at e0 e1
 obtain⟨rfl,rfl,rfl⟩:=e0
 obtain⟨rfl,rfl,rfl⟩:=e1
 exact⟨lo,hi,hk,_,_,_,_,_,_,rfl,is_storeB i1 HR.out _ _ _,is_storeB i2 HR.out _ _ _,below3 HO.out.2 (Nat.le_refl _) _ _ _⟩
theorem near_7 {Z p Q:Nat} {w:World} (hp:p≤Z) (hZ:Z≤4200) (h3:Q*Q≤2*2^(2*Z)) (h4:2*2^(2*Z)<(Q+1)*(Q+1)) :
  Calls Tryz.prog 33 #[.int .i64 7,.int .i64 p] w fun r w'=>OutK Z p (Q) (1) w (p) r w':=by
 obtain⟨W,hW,hBW,hR⟩:=zeroB w
 have HX:Hid (Bw w W∧BdB W w.heap.size none 0 0 none 0 0 0):=⟨hBW,hR⟩
 clear hBW hR
 go_enter Tryz.func33,Tryz.ntmps33
 have kk:=kroot (n:=2) (w:=W) (by omega) hp hZ h3 h4
 go_wp2_with fail
 rw[←hW]
 clear hW
 refine kk.mono ?_
 rintro r w1 h1
 obtain⟨a1,n1,c1,p1,l1,d1,rfl,E1,hb⟩:=h1.arg
 have B1:Hid (Bw W w1):=hb
 clear kk hb h1
 have HR:Hid (BdB w1 w.heap.size none 0 0 none 0 0 0):=HX.out.2.box B1.out
 obtain⟨⟨x0,x1,x2⟩,f0,f1,f2⟩:=HR.out.facts
 have HO:Hid (ArgK Z p (Q) (1) w1 (.agg #[.slice a1 n1 c1,.slice p1 l1 d1,.int .i64 (p)]) (p)∧Bw w w1):=⟨E1,HX.out.1.trans (B1.out.mono HX.out.1.size)⟩
 clear E1 HX B1
 go_wp2_with fail
 refine bodyPost_ret (results_cell_row rfl _ _ w.heap.size 56 #[.slice a1 n1 c1,.slice p1 l1 d1,.int .i64 (p)] (0,0) _ rfl (HR.out.set _ _ _ _ _ _ _) Tryz.underlying56 rfl bd_info) rfl ?_
 obtain⟨lo,hi,hk,u1,u2,u3,u4,u5,u6,eq,i1,i2⟩:=HO.out.1
 injection eq with eq
 have e0:=congrArg (fun z=>z[0]?) eq
 have e1:=congrArg (fun z=>z[1]?) eq
 simp at e0 e1
 obtain⟨rfl,rfl,rfl⟩:=e0
 obtain⟨rfl,rfl,rfl⟩:=e1
 exact⟨lo,hi,hk,_,_,_,_,_,_,rfl,is_storeB i1 HR.out _ _ _,is_storeB i2 HR.out _ _ _,below3 HO.out.2 (Nat.le_refl _) _ _ _⟩
theorem near_8 {Z p Q:Nat} {w:World} (hp:p≤Z) (hZ:Z≤4200) (h3:Q*Q≤5*2^(2*Z)) (h4:5*2^(2*Z)<(Q+1)*(Q+1)) (s:Sm Q 1) (t:Sm (1*2^Z) 0) :
  Calls Tryz.prog 33 #[.int .i64 8,.int .i64 p] w fun r w'=>OutK Z p (Q+1*2^Z) (1+0) w (p+1) r w':=by
 obtain⟨W,hW,hBW,hR⟩:=zeroB w
 have HX:Hid (Bw w W∧BdB W w.heap.size none 0 0 none 0 0 0):=⟨hBW,hR⟩
 clear hBW hR
 go_enter Tryz.func33,Tryz.ntmps33
 have kk:=kroot (n:=5) (w:=W) (by omega) hp hZ h3 h4
 go_wp2_with fail
 rw[←hW]
 clear hW
 refine kk.mono ?_
 rintro r w1 h1
 obtain⟨a1,n1,c1,p1,l1,d1,rfl,E1,hb⟩:=h1.arg
 have B1:Hid (Bw W w1):=hb
 clear kk hb h1
 have kk:=kwhole (n:=1) (w:=w1) (by omega) hp hZ
 go_wp2_with fail
 refine kk.mono ?_
 rintro r w2 h2
 obtain⟨a2,n2,c2,p2,l2,d2,rfl,E2,hb⟩:=h2.arg
 have B2:Hid (Bw W w2):=B1.out.trans (hb.mono B1.out.size)
 replace E1:=E1.later hb
 clear kk hb h2
 have kk:=kplus E1 E2 s t
 go_wp2_with fail
 refine kk.mono ?_
 rintro r w3 h3
 obtain⟨a3,n3,c3,p3,l3,d3,rfl,E3,hb⟩:=h3.arg
 have B3:Hid (Bw W w3):=B2.out.trans (hb.mono B2.out.size)
 replace E1:=E1.later hb
 replace E2:=E2.later hb
 clear kk hb h3
 have kk:=khalved E3 (by omega) (by omega)
 go_wp2_with fail
 refine kk.mono ?_
 rintro r w4 h4
 obtain⟨a4,n4,c4,p4,l4,d4,rfl,E4,hb⟩:=h4.arg
 have B4:Hid (Bw W w4):=B3.out.trans (hb.mono B3.out.size)
 replace E3:=E3.later hb
 clear kk hb h4
 have HR:Hid (BdB w4 w.heap.size none 0 0 none 0 0 0):=HX.out.2.box B4.out
 obtain⟨⟨x0,x1,x2⟩,f0,f1,f2⟩:=HR.out.facts
 have HO:Hid (ArgK Z p (Q+1*2^Z) (1+0) w4 (.agg #[.slice a4 n4 c4,.slice p4 l4 d4,.int .i64 (p+1)]) (p+1)∧Bw w w4):=⟨E4,HX.out.1.trans (B4.out.mono HX.out.1.size)⟩
 clear E4 HX B4
 go_wp2_with fail
 refine bodyPost_ret (results_cell_row rfl _ _ w.heap.size 56 #[.slice a4 n4 c4,.slice p4 l4 d4,.int .i64 (p+1)] (0,0) _ rfl (HR.out.set _ _ _ _ _ _ _) Tryz.underlying56 rfl bd_info) rfl ?_
 obtain⟨lo,hi,hk,u1,u2,u3,u4,u5,u6,eq,i1,i2⟩:=HO.out.1
 injection eq with eq
 have e0:=congrArg (fun z=>z[0]?) eq
 have e1:=congrArg (fun z=>z[1]?) eq
 simp at e0 e1
 obtain⟨rfl,rfl,rfl⟩:=e0
 obtain⟨rfl,rfl,rfl⟩:=e1
 exact⟨lo,hi,hk,_,_,_,_,_,_,rfl,is_storeB i1 HR.out _ _ _,is_storeB i2 HR.out _ _ _,below3 HO.out.2 (Nat.le_refl _) _ _ _⟩
end Go.Proofs.YtolefllepcdagaaGreat
