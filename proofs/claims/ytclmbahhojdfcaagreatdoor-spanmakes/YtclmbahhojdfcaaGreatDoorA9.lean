/- Own work: contracts of the program's functions, part 9: SNM. -/
import Derived.Test.YtclmbahhojdfcaaGreatDoorA8

set_option maxHeartbeats 16000000
set_option maxRecDepth 200000
set_option linter.unusedVariables false
set_option linter.unusedSimpArgs false
namespace Go.Proofs.YtclmbahhojdfcaaGreatDoor
open Go.RowKit Go.Fl64
attribute [local go_sem] run_store_flt
def ofV (n v:Bool) (x y:Nat):Value:=if n then .tuple #[.agg #[.float .f64 0,.float .f64 0],.int .i64 4] else if v then .tuple #[.agg #[.float .f64 x,.float .f64 y],.int .i64 0] else .tuple #[.agg #[.float .f64 0,.float .f64 0],.int .i64 1]
theorem sof_n (lo hi x y:Nat) (n p v:Bool) (w:World) (o1:(FloatKind.f64.format.order lo lo != some Ordering.eq)=n) (o2:(FloatKind.f64.format.order hi hi != some Ordering.eq)=p) (hnp:(n||p)=true) :
  Calls Tryz.prog 7 #[.float .f64 lo,.float .f64 hi] w fun r w'=>r=.returned (ofV (n||p) v x y)∧Bw w w':=by
 rw[hnp]
 cases n
 ·cases p
  ·cases hnp
  ·go_enter Tryz.func7,Tryz.ntmps7
   go_wp2
   refine bodyPost_ret (results_cell_tmp_row rfl _ _ (w.heap.size) 24 #[.float .f64 0,.float .f64 0] (0,0) _ rfl (heap_alloc_new _ _) Tryz.underlying24 rfl iv_info) rfl ?_
   exact⟨rfl,(Below.refl _ _).alloc (Nat.le_refl _) _⟩
 ·go_enter Tryz.func7,Tryz.ntmps7
  go_wp2
  refine bodyPost_ret (results_cell_tmp_row rfl _ _ (w.heap.size) 24 #[.float .f64 0,.float .f64 0] (0,0) _ rfl (heap_alloc_new _ _) Tryz.underlying24 rfl iv_info) rfl ?_
  exact⟨rfl,(Below.refl _ _).alloc (Nat.le_refl _) _⟩
theorem sof_1 (lo hi x y:Nat) (v:Bool) (w:World) (o1:(FloatKind.f64.format.order lo lo != some Ordering.eq)=false) (o2:(FloatKind.f64.format.order hi hi != some Ordering.eq)=false)
  (k1:∀ W,Calls Tryz.prog 36 #[.float .f64 lo,.float .f64 hi] W fun r w'=>r=.returned (.agg #[.float .f64 x,.float .f64 y])∧Bw W w')
  (k2:∀ W,Calls Tryz.prog 9 #[.agg #[.float .f64 x,.float .f64 y]] W fun r w'=>r=.returned (.bool v)∧Bw W w') :
  Calls Tryz.prog 7 #[.float .f64 lo,.float .f64 hi] w fun r w'=>r=.returned (ofV false v x y)∧Bw w w':=by
 obtain⟨W,hW⟩:∃ W,W=w.alloc (.cells #[.float .f64 0,.float .f64 0] 24):=⟨_,rfl⟩
 have HX:Hid (Bw w W∧IvB W w.heap.size 0 0):=by rw[hW];exact⟨bxs1_0 w 0 0,bxs1_1 w 0 0⟩
 have kk:=k1 W
 have H2:Hid _:=k2
 clear k1 k2
 go_enter Tryz.func7,Tryz.ntmps7
 go_upto_region 1 with fail
 rw[←hW]
 clear hW
 go_wp2_with fail
 refine kk.mono ?_
 rintro r w1 ⟨rfl,hb1⟩
 obtain⟨V,hV⟩:∃ V,V=w1.alloc (.cells #[.float .f64 x,.float .f64 y] 24):=⟨_,rfl⟩
 have hbV:Bw W V:=by rw[hV];exact hb1.alloc hb1.size _
 have XV:Hid (IvB V w1.heap.size x y):=by rw[hV];exact IvB.new _ _ _
 have HBV:Hid (Bw W V):=hbV
 have kk2:=H2.out V
 obtain⟨c0,c1,z0,z1⟩:=XV.out.facts
 rw[hV] at c0 c1
 clear kk hb1 hbV H2
 go_wp2_with fail
 rw[←hV]
 clear hV c0 c1 z0 z1
 generalize w1.heap.size=g at *
 refine kk2.mono ?_
 rintro r w2 ⟨rfl,hb2⟩
 obtain⟨c0,c1,z0,z1⟩:=XV.out.later hb2
 have hb3:Bw W w2:=HBV.out.trans (hb2.mono HBV.out.size)
 obtain⟨d0,d1,y0,y1⟩:=HX.out.2.later hb3
 have HR:Hid (IvB w2 w.heap.size 0 0):=HX.out.2.box hb3
 have HB:Hid (Bw w w2):=HX.out.1.trans (hb3.mono HX.out.1.size)
 clear kk2 hb2 hb3 HBV HX XV
 cases v
 ·go_wp2
  refine bodyPost_ret (results_cell_tmp_row rfl _ _ (w.heap.size) 24 #[.float .f64 0,.float .f64 0] (0,0) _ rfl (HR.out.set _ _) Tryz.underlying24 rfl iv_info) rfl ?_
  exact⟨rfl,below_store2 HB.out (by omega) _ _⟩
 ·go_wp2
  refine bodyPost_ret (results_cell_tmp_row rfl _ _ (w.heap.size) 24 #[.float .f64 x,.float .f64 y] (0,0) _ rfl (HR.out.set _ _) Tryz.underlying24 rfl iv_info) rfl ?_
  exact⟨rfl,below_store2 HB.out (by omega) _ _⟩
theorem sof (lo hi:Nat) (h1:lo<18446744073709551616) (h2:hi<18446744073709551616) (w:World) :
  Calls Tryz.prog 7 #[.float .f64 lo,.float .f64 hi] w fun r w'=>r=.returned (ofV (isNaN lo||isNaN hi) (vI (pl lo) (pl hi)) (pl lo) (pl hi))∧Bw w w':=by
 have o1:=self_ne lo h1
 have o2:=self_ne hi h2
 cases hn:isNaN lo||isNaN hi
 ·rw[Bool.or_eq_false_iff] at hn
  rw[hn.1] at o1
  rw[hn.2] at o2
  exact sof_1 lo hi _ _ _ w o1 o2 (fun W=>sbetween lo hi W h1 h2) (fun W=>svalid _ _ (pl_lt h1) (pl_lt h2) W)
 ·have k:=sof_n lo hi (pl lo) (pl hi) _ _ (vI (pl lo) (pl hi)) w o1 o2 hn
  rw[hn] at k
  exact k
theorem d8of_n (lo hi x y:Nat) (n p v:Bool) (w:World) (o1:(FloatKind.f64.format.order lo lo != some Ordering.eq)=n) (o2:(FloatKind.f64.format.order hi hi != some Ordering.eq)=p) (hnp:(n||p)=true) :
  Calls Tryz.prog 8 #[.float .f64 lo,.float .f64 hi] w fun r w'=>r=.returned (ofV (n||p) v x y)∧Bw w w':=by
 rw[hnp]
 cases n
 ·cases p
  ·cases hnp
  ·go_enter Tryz.func8,Tryz.ntmps8
   go_wp2
   refine bodyPost_ret (results_cell_tmp_row rfl _ _ (w.heap.size) 24 #[.float .f64 0,.float .f64 0] (0,0) _ rfl (heap_alloc_new _ _) Tryz.underlying24 rfl iv_info) rfl ?_
   exact⟨rfl,(Below.refl _ _).alloc (Nat.le_refl _) _⟩
 ·go_enter Tryz.func8,Tryz.ntmps8
  go_wp2
  refine bodyPost_ret (results_cell_tmp_row rfl _ _ (w.heap.size) 24 #[.float .f64 0,.float .f64 0] (0,0) _ rfl (heap_alloc_new _ _) Tryz.underlying24 rfl iv_info) rfl ?_
  exact⟨rfl,(Below.refl _ _).alloc (Nat.le_refl _) _⟩
theorem d8of_1 (lo hi x y:Nat) (g a b:Bool) (w:World) (o1:(FloatKind.f64.format.order lo lo != some Ordering.eq)=false) (o2:(FloatKind.f64.format.order hi hi != some Ordering.eq)=false)
  (o3:(FloatKind.f64.format.order lo hi==some Ordering.gt)=g) (o4:(FloatKind.f64.format.order lo 9218868437227405311==some Ordering.gt)=a) (o5:(FloatKind.f64.format.order hi 18442240474082181119==some Ordering.lt)=b)
  (k1:∀ W,Calls Tryz.prog 37 #[.float .f64 lo] W fun r w'=>r=.returned (.float .f64 x)∧w'=W)
  (k2:∀ W,Calls Tryz.prog 37 #[.float .f64 hi] W fun r w'=>r=.returned (.float .f64 y)∧w'=W) :
  Calls Tryz.prog 8 #[.float .f64 lo,.float .f64 hi] w fun r w'=>r=.returned (ofV false (!(g||a||b)) x y)∧Bw w w':=by
 cases g <;> cases a <;> cases b
 case false.false.false =>
  go_enter Tryz.func8,Tryz.ntmps8
  go_wp2_with (first|(go_at_call 37;first|(with_reducible refine(k1 _).mono ?_;rintro r w' ⟨rfl,hw⟩;replace hw:=hw.symm;subst hw)|(with_reducible refine(k2 _).mono ?_;rintro r w' ⟨rfl,hw⟩;replace hw:=hw.symm;subst hw)))
  refine bodyPost_ret (results_cell_tmp_row rfl _ _ (w.heap.size) 24 #[.float .f64 x,.float .f64 y] (0,0) _ rfl (heap_alloc_new _ _) Tryz.underlying24 rfl iv_info) rfl ?_
  exact⟨rfl,(Below.refl _ _).alloc (Nat.le_refl _) _⟩
 all_goals
  go_enter Tryz.func8,Tryz.ntmps8
  go_wp2
  refine bodyPost_ret (results_cell_tmp_row rfl _ _ (w.heap.size) 24 #[.float .f64 0,.float .f64 0] (0,0) _ rfl (heap_alloc_new _ _) Tryz.underlying24 rfl iv_info) rfl ?_
  exact⟨rfl,(Below.refl _ _).alloc (Nat.le_refl _) _⟩
theorem vI_of (lo hi:Nat) (h1:lo<18446744073709551616) (h2:hi<18446744073709551616) (n1:isNaN lo=false) (n2:isNaN hi=false) :
  vI (pl lo) (pl hi) = !(lt hi lo||lt 9218868437227405311 lo||lt hi 18442240474082181119):=by
 have b1:=nan_stp n1
 have b2:=nan_stp n2
 have e1:decide (pl lo≠9223372036854775808)=true:=decide_eq_true (by unfold pl;split <;> omega)
 have e2:decide (pl hi≠9223372036854775808)=true:=decide_eq_true (by unfold pl;split <;> omega)
 unfold vI le lt
 rw[e1,e2,pl_nan,pl_nan,pl_stp,pl_stp,n1,n2]
 rw[show isNaN 9218868437227405312=false by decide,show isNaN 9218868437227405311=false by decide,show isNaN 18442240474082181120=false by decide,show isNaN 18442240474082181119=false by decide,show stp 9218868437227405312=9218868437227405312 by decide,show stp 9218868437227405311=9218868437227405311 by decide,show stp 18442240474082181120 = -9218868437227405312 by decide,show stp 18442240474082181119 = -9218868437227405311 by decide]
 simp only[Bool.not_false,Bool.true_and,Bool.and_true]
 rw[←Bool.decide_and,←Bool.decide_and,←Bool.decide_or,←Bool.decide_or,←decide_not]
 exact decide_eq_decide.2 (by omega)
theorem d8of (lo hi:Nat) (h1:lo<18446744073709551616) (h2:hi<18446744073709551616) (w:World) :
  Calls Tryz.prog 8 #[.float .f64 lo,.float .f64 hi] w fun r w'=>r=.returned (ofV (isNaN lo||isNaN hi) (vI (pl lo) (pl hi)) (pl lo) (pl hi))∧Bw w w':=by
 have o1:=self_ne lo h1
 have o2:=self_ne hi h2
 cases hn:isNaN lo||isNaN hi
 ·rw[Bool.or_eq_false_iff] at hn
  rw[hn.1] at o1
  rw[hn.2] at o2
  rw[vI_of lo hi h1 h2 hn.1 hn.2]
  exact d8of_1 lo hi _ _ _ _ _ w o1 o2 (ord_gt lo hi h1 h2) (ord_gt lo _ h1 (by omega)) (ord_lt hi _ h2 (by omega)) (fun W=>dpl lo h1 W) (fun W=>dpl hi h2 W)
 ·have k:=d8of_n lo hi (pl lo) (pl hi) _ _ (vI (pl lo) (pl hi)) w o1 o2 hn
  rw[hn] at k
  exact k
theorem dall (w:World):Calls Tryz.prog 13 #[] w fun r w'=>r=.returned (.agg #[.float .f64 18442240474082181120,.float .f64 9218868437227405312])∧Bw w w':=by
 go_enter Tryz.func13,Tryz.ntmps13
 go_wp2_with (first|(go_at_call 40;first|(with_reducible refine(cinf_p _).mono ?_;rintro r w' ⟨rfl,rfl⟩)|(with_reducible refine(cinf_m _).mono ?_;rintro r w' ⟨rfl,rfl⟩)))
 refine bodyPost_ret (results_cell_row rfl _ _ w.heap.size 24 #[.float .f64 18442240474082181120,.float .f64 9218868437227405312] (0,0) _ rfl (heap_alloc_new _ _) Tryz.underlying24 rfl iv_info) rfl ?_
 exact⟨rfl,(Below.refl _ _).alloc (Nat.le_refl _) _⟩
theorem makes_1 (a b x y : Nat) (p : Bool) (e : Int) (w : World)
    (k1 : ∀ W, Bw w W → Calls Tryz.prog 7 #[.float .f64 a, .float .f64 b] W fun r w' => r = .returned (.tuple #[.agg #[.float .f64 x, .float .f64 y], .int .i64 e]) ∧ Bw W w')
    (k2 : ∀ W, Bw w W → Calls Tryz.prog 8 #[.float .f64 a, .float .f64 b] W fun r w' => r = .returned (.tuple #[.agg #[.float .f64 x, .float .f64 y], .int .i64 e]) ∧ Bw W w')
    (m1 : ∀ W, Bw w W → Calls Tryz.prog 9 #[.agg #[.float .f64 a, .float .f64 b]] W fun r w' => r = .returned (.bool p) ∧ Bw W w')
    (m2 : ∀ W, Bw w W → Calls Tryz.prog 10 #[.agg #[.float .f64 a, .float .f64 b]] W fun r w' => r = .returned (.bool p) ∧ Bw W w')
    (m3 : ∀ W, Bw w W → Calls Tryz.prog 11 #[.agg #[.float .f64 x, .float .f64 y], .agg #[.float .f64 x, .float .f64 y]] W fun r w' => r = .returned (.bool true) ∧ Bw W w')
    (m4 : ∀ W, Bw w W → Calls Tryz.prog 12 #[] W fun r w' => r = .returned (.agg #[.float .f64 18442240474082181120, .float .f64 9218868437227405312]) ∧ Bw W w')
    (m5 : ∀ W, Bw w W → Calls Tryz.prog 13 #[] W fun r w' => r = .returned (.agg #[.float .f64 18442240474082181120, .float .f64 9218868437227405312]) ∧ Bw W w')
    (m6 : ∀ W, Bw w W → Calls Tryz.prog 11 #[.agg #[.float .f64 18442240474082181120, .float .f64 9218868437227405312], .agg #[.float .f64 18442240474082181120, .float .f64 9218868437227405312]] W fun r w' => r = .returned (.bool true) ∧ Bw W w')
    (m7 : ∀ W, Bw w W → Calls Tryz.prog 14 #[] W fun r w' => r = .returned (.bool true) ∧ Bw W w') :
    Calls Tryz.prog 3 #[.agg #[.float .f64 a, .float .f64 b]] w fun r w' => r = .returned (.bool true) ∧ Bw w w' := by
  have fp : (p == p) = true := by simp
  have fe : (e == e) = true := by simp
  have Hk1 : Hid _ := k1
  have Hk2 : Hid _ := k2
  have Hm1 : Hid _ := m1
  have Hm2 : Hid _ := m2
  have Hm3 : Hid _ := m3
  have Hm4 : Hid _ := m4
  have Hm5 : Hid _ := m5
  have Hm6 : Hid _ := m6
  have Hm7 : Hid _ := m7
  obtain ⟨W, hW⟩ : ∃ W, W = (w.alloc (.cells #[.float .f64 a, .float .f64 b] 24)) := ⟨_, rfl⟩
  have HX : Hid (Bw w W ∧ IvB W (w.heap.size) a b) := by
    rw [hW]
    exact ⟨bxs1_0 w a b, bxs1_1 w a b⟩
  have HK : Hid (∀ w', Bw W w' → IvF w' (w.heap.size) a b) := fun w' hb => (HX.out.2).later hb
  have AW : Hid (Bw w W) := HX.out.1
  have BW_W : Hid (Bw W W) := Below.refl _ _
  clear k1 k2 m1 m2 m3 m4 m5 m6 m7
  go_enter Tryz.func3, Tryz.ntmps3
  go_upto_region 1 with fail
  rw [← hW]
  clear hW
  obtain ⟨c0, c1, z0, z1⟩ := HK.out W BW_W.out
  clear z0 z1
  have kk := Hk1.out W AW.out
  clear Hk1
  go_wp2_with fail
  clear c0 c1
  refine kk.mono ?_
  rintro r w1 ⟨rfl, hb⟩
  clear kk
  have Aw1 : Hid (Bw w w1) := AW.out.trans (hb.mono AW.out.size)
  have BW_w1 : Hid (Bw W w1) := BW_W.out.trans (hb.mono BW_W.out.size)
  clear hb AW BW_W 
  obtain ⟨V1, hV1⟩ : ∃ V, V = w1.alloc (.cells #[.float .f64 x, .float .f64 y] 24) := ⟨_, rfl⟩
  have AV1 : Hid (Bw w V1) := by rw [hV1]; exact Aw1.out.alloc Aw1.out.size _
  have BW_V1 : Hid (Bw W V1) := by rw [hV1]; exact BW_w1.out.alloc BW_w1.out.size _
  have XV1 : Hid (IvB V1 w1.heap.size x y) := by rw [hV1]; exact IvB.new _ _ _
  have BV1_V1 : Hid (Bw V1 V1) := Below.refl _ _
  clear Aw1 BW_w1 
  obtain ⟨c0, c1, z0, z1⟩ := HK.out V1 BW_V1.out
  rw [hV1] at c0 c1
  clear z0 z1
  have kk := Hk2.out V1 AV1.out
  clear Hk2
  go_wp2_with fail
  rw [← hV1]
  clear hV1
  generalize hgV1 : w1.heap.size = gV1 at *
  clear hgV1
  clear c0 c1
  refine kk.mono ?_
  rintro r w2 ⟨rfl, hb⟩
  clear kk
  have Aw2 : Hid (Bw w w2) := AV1.out.trans (hb.mono AV1.out.size)
  have BW_w2 : Hid (Bw W w2) := BW_V1.out.trans (hb.mono BW_V1.out.size)
  have BV1_w2 : Hid (Bw V1 w2) := BV1_V1.out.trans (hb.mono BV1_V1.out.size)
  clear hb AV1 BW_V1 BV1_V1
  obtain ⟨V2, hV2⟩ : ∃ V, V = w2.alloc (.cells #[.float .f64 x, .float .f64 y] 24) := ⟨_, rfl⟩
  have AV2 : Hid (Bw w V2) := by rw [hV2]; exact Aw2.out.alloc Aw2.out.size _
  have BW_V2 : Hid (Bw W V2) := by rw [hV2]; exact BW_w2.out.alloc BW_w2.out.size _
  have XV2 : Hid (IvB V2 w2.heap.size x y) := by rw [hV2]; exact IvB.new _ _ _
  have BV1_V2 : Hid (Bw V1 V2) := by rw [hV2]; exact BV1_w2.out.alloc BV1_w2.out.size _
  have BV2_V2 : Hid (Bw V2 V2) := Below.refl _ _
  clear Aw2 BW_w2 BV1_w2
  go_upto_region 3 with fail
  rw [← hV2]
  clear hV2
  generalize hgV2 : w2.heap.size = gV2 at *
  clear hgV2
  have HKK : Hid (∀ w', Bw V2 w' → w'.cell? ⟨w.heap.size, 0, none⟩ = some (.float .f64 a) ∧ w'.cell? ⟨w.heap.size, 1, none⟩ = some (.float .f64 b) ∧ w'.cell? ⟨gV1, 0, none⟩ = some (.float .f64 x) ∧ w'.cell? ⟨gV1, 1, none⟩ = some (.float .f64 y) ∧ w'.cell? ⟨gV2, 0, none⟩ = some (.float .f64 x) ∧ w'.cell? ⟨gV2, 1, none⟩ = some (.float .f64 y) ∧ Bw V2 w') := fun w' hb => ⟨(HK.out w' (BW_V2.out.trans (hb.mono BW_V2.out.size))).1, (HK.out w' (BW_V2.out.trans (hb.mono BW_V2.out.size))).2.1, (XV1.out.later (BV1_V2.out.trans (hb.mono BV1_V2.out.size))).1, (XV1.out.later (BV1_V2.out.trans (hb.mono BV1_V2.out.size))).2.1, (XV2.out.later (BV2_V2.out.trans (hb.mono BV2_V2.out.size))).1, (XV2.out.later (BV2_V2.out.trans (hb.mono BV2_V2.out.size))).2.1, hb⟩
  have hBR : Bw V2 V2.drew := (Below.refl _ _).drew
  have q1 : ∀ W, Bw V2 W → Calls Tryz.prog 9 #[.agg #[.float .f64 a, .float .f64 b]] W fun r w' => r = .returned (.bool p) ∧ Bw V2 w' := fun W h => (Hm1.out W (AV2.out.trans (h.mono AV2.out.size))).mono fun r w' ⟨e1, e2⟩ => ⟨e1, h.trans (e2.mono h.size)⟩
  have q2 : ∀ W, Bw V2 W → Calls Tryz.prog 10 #[.agg #[.float .f64 a, .float .f64 b]] W fun r w' => r = .returned (.bool p) ∧ Bw V2 w' := fun W h => (Hm2.out W (AV2.out.trans (h.mono AV2.out.size))).mono fun r w' ⟨e1, e2⟩ => ⟨e1, h.trans (e2.mono h.size)⟩
  have q3 : ∀ W, Bw V2 W → Calls Tryz.prog 11 #[.agg #[.float .f64 x, .float .f64 y], .agg #[.float .f64 x, .float .f64 y]] W fun r w' => r = .returned (.bool true) ∧ Bw V2 w' := fun W h => (Hm3.out W (AV2.out.trans (h.mono AV2.out.size))).mono fun r w' ⟨e1, e2⟩ => ⟨e1, h.trans (e2.mono h.size)⟩
  have q4 : ∀ W, Bw V2 W → Calls Tryz.prog 12 #[] W fun r w' => r = .returned (.agg #[.float .f64 18442240474082181120, .float .f64 9218868437227405312]) ∧ Bw V2 w' := fun W h => (Hm4.out W (AV2.out.trans (h.mono AV2.out.size))).mono fun r w' ⟨e1, e2⟩ => ⟨e1, h.trans (e2.mono h.size)⟩
  have q5 : ∀ W, Bw V2 W → Calls Tryz.prog 13 #[] W fun r w' => r = .returned (.agg #[.float .f64 18442240474082181120, .float .f64 9218868437227405312]) ∧ Bw V2 w' := fun W h => (Hm5.out W (AV2.out.trans (h.mono AV2.out.size))).mono fun r w' ⟨e1, e2⟩ => ⟨e1, h.trans (e2.mono h.size)⟩
  have q6 : ∀ W, Bw V2 W → Calls Tryz.prog 11 #[.agg #[.float .f64 18442240474082181120, .float .f64 9218868437227405312], .agg #[.float .f64 18442240474082181120, .float .f64 9218868437227405312]] W fun r w' => r = .returned (.bool true) ∧ Bw V2 w' := fun W h => (Hm6.out W (AV2.out.trans (h.mono AV2.out.size))).mono fun r w' ⟨e1, e2⟩ => ⟨e1, h.trans (e2.mono h.size)⟩
  have q7 : ∀ W, Bw V2 W → Calls Tryz.prog 14 #[] W fun r w' => r = .returned (.bool true) ∧ Bw V2 w' := fun W h => (Hm7.out W (AV2.out.trans (h.mono AV2.out.size))).mono fun r w' ⟨e1, e2⟩ => ⟨e1, h.trans (e2.mono h.size)⟩
  clear Hm1 Hm2 Hm3 Hm4 Hm5 Hm6 Hm7 XV1 BV1_V2 XV2 BV2_V2 HX HK BW_V2
  obtain ⟨a0, a1, a2, a3, a4, a5, -⟩ := HKK.out V2 (Below.refl _ _)
  go_region_held3 (fun w' => w'.cell? ⟨w.heap.size, 0, none⟩ = some (.float .f64 a) ∧ w'.cell? ⟨w.heap.size, 1, none⟩ = some (.float .f64 b) ∧ w'.cell? ⟨gV1, 0, none⟩ = some (.float .f64 x) ∧ w'.cell? ⟨gV1, 1, none⟩ = some (.float .f64 y) ∧ w'.cell? ⟨gV2, 0, none⟩ = some (.float .f64 x) ∧ w'.cell? ⟨gV2, 1, none⟩ = some (.float .f64 y) ∧ Bw V2 w') (first | (with_reducible assumption) | exact HKK.out _ hBR | (refine HKK.out _ ?_; with_reducible assumption) | go_keep)
    (first | (go_at_call 9; with_reducible refine (q1 _ (by first | (with_reducible assumption) | exact hBR)).mono ?_; rintro r wz ⟨rfl, hbz⟩)
           | (go_at_call 10; with_reducible refine (q2 _ (by first | (with_reducible assumption) | exact hBR)).mono ?_; rintro r wz ⟨rfl, hbz⟩)
           | (go_at_call 11; with_reducible refine (q3 _ (by first | (with_reducible assumption) | exact hBR)).mono ?_; rintro r wz ⟨rfl, hbz⟩)
           | (go_at_call 12; with_reducible refine (q4 _ (by first | (with_reducible assumption) | exact hBR)).mono ?_; rintro r wz ⟨rfl, hbz⟩)
           | (go_at_call 13; with_reducible refine (q5 _ (by first | (with_reducible assumption) | exact hBR)).mono ?_; rintro r wz ⟨rfl, hbz⟩)
           | (go_at_call 11; with_reducible refine (q6 _ (by first | (with_reducible assumption) | exact hBR)).mono ?_; rintro r wz ⟨rfl, hbz⟩)
           | (go_at_call 14; with_reducible refine (q7 _ (by first | (with_reducible assumption) | exact hBR)).mono ?_; rintro r wz ⟨rfl, hbz⟩))
  have HF : Hid (Bw w wz) := AV2.out.trans (hbz.mono AV2.out.size)
  clear q1 q2 q3 q4 q5 q6 q7 HKK hBR a0 a1 a2 a3 a4 a5 hbz
  go_wp2_with fail
  go_ret
  exact ⟨rfl, HF.out⟩
theorem ofV_eq (n v:Bool) (x y:Nat):ofV n v x y=.tuple #[.agg #[.float .f64 (if !n&&v then x else 0),.float .f64 (if !n&&v then y else 0)],.int .i64 (if n then 4 else if v then 0 else 1)]:=by
 cases n <;> cases v <;> rfl
theorem or_ltM {ok:Bool} {x:Nat} (h:x<18446744073709551616):(if ok then x else 0)<18446744073709551616:=by
 cases ok
 ·rw[if_neg (by simp)];omega
 ·exact h
theorem spanMakes_ok (a b:Nat) (w:World) (ha:a<18446744073709551616) (hb:b<18446744073709551616) (hT:Tab32 w) (hJ:Ie.Tab w) :
  Calls Tryz.prog 3 #[.agg #[.float .f64 a,.float .f64 b]] w fun r w'=>r=.returned (.bool true)∧Bw w w' :=
 makes_1 a b _ _ _ _ w
  (fun W _=>by have k:=sof a b ha hb W;rw[ofV_eq] at k;exact k)
  (fun W _=>by have k:=d8of a b ha hb W;rw[ofV_eq] at k;exact k)
  (fun W _=>svalid a b ha hb W) (fun W _=>d8valid a b ha hb W) (fun W _=>isame _ _ (or_ltM (pl_lt ha)) (or_ltM (pl_lt hb)) W) (fun W _=>sall W) (fun W _=>dall W) (fun W _=>isame _ _ (by omega) (by omega) W) (fun W h=>works8 W (hT.later h) (Tab.later hJ h))
end Go.Proofs.YtclmbahhojdfcaaGreatDoor
