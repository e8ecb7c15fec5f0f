/- Own work: contracts of the program's functions, part 14: RA8 RA9 RAA RAB RAC RAD RAE RAF. -/
import Derived.Test.YtgdhdailchonmabGreatDoorA13
import Derived.Test.YtgdhdailchonmabGreatDoorA7
import Derived.Test.YtgdhdailchonmabGreatDoorA10

set_option maxHeartbeats 16000000
set_option maxRecDepth 200000
set_option linter.unusedVariables false
set_option linter.unusedSimpArgs false
namespace Go.Proofs.YtgdhdailchonmabGreatDoor
open Go Go.RowKit Go.Fl64
attribute [local go_sem] run_store_fltO run_store_cpxO
theorem isT2_rows8O (t:Bool×Nat×Int):∀ w u g cs',w.heap[g]?=some (.cells #[.bool false,.slice none 0 0,.int .i64 0] 47 (0,0))→isT2 t w u→isT2 t (w.setRow g cs') u:=fun w u g cs' hg ⟨s,ao,n,cap,e,h1,h2⟩=>⟨s,ao,n,cap,e,h1,PN.row3 h2 hg ⟨_,_,_,_,_,rfl⟩ cs'⟩
theorem Bnearest_1 (x y r F:Nat) (ta tm te tr:Bool×Nat×Int) (wh:Bool) (w:World)
  (k1:Hid (∀ W,Bw w W→Calls Tryz.prog 115 #[.complex .f64 x y,.complex .f64 0 0] W fun r w'=>OutA W ta r w'))
  (k2:Hid (∀ W X,Bw w W→PN W X ta→Calls Tryz.prog 68 #[X,.int .i64 1074] W fun r w'=>∃ s ao n cap e,r=.returned (.tuple #[.agg #[.bool s,.slice ao n cap,.int .i64 e],.bool wh,.int .i64 0])∧PN w' (.agg #[.bool s,.slice ao n cap,.int .i64 e]) tm∧Bw W w'))
  (k3:Hid (∀ W,Bw w W→Calls Tryz.prog 117 #[.float .f64 r] W fun r w'=>OutA W te r w'))
  (k4:Hid (∀ W X Y,Bw w W→PN W X tm→PN W Y te→Calls Tryz.prog 116 #[X,Y] W fun r w'=>OutN8 W tr r w'))
  (k5:Hid (∀ W X,PN W X tr→Calls Tryz.prog 86 #[X] W fun r w'=>r=.returned (.int .i64 1)∧Bw W w'))
  (k6:Hid (∀ W X,Bw w W→PN W X tr→Calls Tryz.prog 51 #[X,.int .i64 1] W fun r w'=>r=.returned (.tuple #[.float .f64 F,.int .i64 0])∧Bw W w')) :
  Calls Tryz.prog 90 #[.agg #[.complex .f64 x y,.float .f64 r]] w fun r w'=>r=.returned (.float .f64 F)∧Bw w w':=by
 obtain⟨W,hW⟩:∃ W,W=w.alloc (.cells #[.complex .f64 x y,.float .f64 r] 39):=⟨_,rfl⟩
 have HX:Hid (BaB W w.heap.size x y r∧Bw w W):=⟨by rw[hW];exact BaB.new _ _ _ _,by rw[hW];exact(Below.refl _ _).alloc (Nat.le_refl _) _⟩
 obtain⟨⟨y0,y1⟩,-⟩:=HX.out.1.facts
 go_enter Tryz.func90,Tryz.ntmps90
 go_upto_region 1 with fail
 rw[←hW]
 clear hW
 go_wp2_with fail
 refine(k1.out W HX.out.2).mono ?_
 rintro r' v1 ⟨s1,ao1,n1,cap1,ex1,rfl,hA,hb1⟩
 have HA:Hid (PN v1 (.agg #[.bool s1,.slice ao1 n1 cap1,.int .i64 ex1]) ta∧BaB v1 w.heap.size x y r∧Bw w v1):=⟨hA,HX.out.1.later hb1,HX.out.2.trans (hb1.mono HX.out.2.size)⟩
 clear hA hb1 HX k1 y0 y1
 have kk:=k2.out v1 _ HA.out.2.2 HA.out.1
 go_wp2_with fail
 refine kk.mono ?_
 rintro r' v2 ⟨s2,ao2,n2,cap2,ex2,rfl,hA,hb1⟩
 obtain⟨W1,hW1⟩:∃ W1,W1=v2.alloc (.cells #[.bool s2,.slice ao2 n2 cap2,.int .i64 ex2] 47):=⟨_,rfl⟩
 obtain⟨g2,hg2⟩:∃ g,g=v2.heap.size:=⟨_,rfl⟩
 have hb2:Bw v1 W1:=by rw[hW1];exact hb1.alloc hb1.size _
 have HB:Hid (PBx W1 g2 s2 ao2 n2 cap2 ex2 tm∧BaB W1 w.heap.size x y r∧Bw w W1):=⟨⟨by rw[hW1,hg2];exact heap_alloc_new _ _,by rw[hW1];exact hA.later ((Below.refl _ _).alloc (Nat.le_refl _) _)⟩,HA.out.2.1.later hb2,HA.out.2.2.trans (hb2.mono HA.out.2.2.size)⟩
 clear kk hA hb1 hb2 HA k2
 go_upto_region 2 with fail
 rw[←hW1,←hg2]
 clear hW1 hg2
 refine x_region follows_mixed [0,1,2,3,4,5,6,7,10] [8] [9] [19,20,21,22,23,18,24,25,7] [6] [[],[],[1],[2],[0,3],[4],[5],[5],[7]] [6] 47 #[.bool false,.slice none 0 0,.int .i64 0] W1 _ [isV (.agg #[.bool s2,.slice ao2 n2 cap2,.int .i64 ex2]),isV (.pointer (some ⟨w.heap.size,1,none⟩)),isV (.float .f64 r),isP (te),isT2 (tr),isT2 (tr),isP (tr),isV (.int .i64 0),isV (.int .i64 0)] (by kernel_rfl) ⟨isV_stays _,isV_stays _,isV_stays _,isP_stays _,isT2_stays _,isT2_stays _,isP_stays _,isV_stays _,isV_stays _,trivial⟩ ⟨fun _ _ _ _ _ h=>h,fun _ _ _ _ _ h=>h,fun _ _ _ _ _ h=>h,isP_rows8 _,isT2_rows8O _,isT2_rows8O _,isP_rows8 _,fun _ _ _ _ _ h=>h,fun _ _ _ _ _ h=>h,trivial⟩ (by show ∀ s ∈ [19,20,21,22,23,18,24,25,7] ++ [6],s<35;decide) ?_ ?_ ?_ (fun _=>by kernel_rfl) Tryz.info47 ?_ ?_
 ·intro k' hk U u h
  obtain rfl:k'=0:=Nat.lt_one_iff.1 hk
  obtain⟨s9,ao9,n9,cp9,e9,rfl⟩:=PN.shape (show PN U u _ from h)
  exact⟨_,rfl,rfl,one3 rfl rfl⟩
 ·intro j hj o ho act U hb hoth hdep
  have hj':j<9:=hj
  have t1':act.tmps[(1:Nat)]?=some (Value.pointer (some ⟨w.heap.size,0,none⟩)):=(hoth 1 (by decide)).trans rfl
  have t3':act.tmps[(3:Nat)]?=some (Value.pointer (some ⟨g2,0,none⟩)):=(hoth 3 (by decide)).trans rfl
  have d3:=(box_cells (HB.out.1.later hb).1).1
  have d1:=(HB.out.2.1.later hb).facts.1
  rcases(by omega:j=0∨j=1∨j=2∨j=3∨j=4∨j=5∨j=6∨j=7∨j=8)with rfl|rfl|rfl|rfl|rfl|rfl|rfl|rfl|rfl
  ·obtain rfl:=Option.some.inj ho
   exact .inl ⟨rfl,owp_ldP rfl t3' d3.1 d3.2.1 d3.2.2 ⟨_,rfl,rfl,Below.refl _ _⟩⟩
  ·obtain rfl:=Option.some.inj ho
   exact .inl ⟨rfl,owp_run1 (w':=U) (by simp[execOp,t1',go_sem]) ⟨_,rfl,rfl,Below.refl _ _⟩⟩
  ·obtain rfl:=Option.some.inj ho
   have y1:act.tmps[(20:Nat)]?=_:=dV (hdep 1 (by simp[dL])) rfl
   exact .inl ⟨rfl,owp_run1 (w':=U) (by simp[execOp,Act.eval,y1,d1.2,go_sem]) ⟨_,rfl,rfl,Below.refl _ _⟩⟩
  ·obtain rfl:=Option.some.inj ho
   have y2:act.tmps[(21:Nat)]?=_:=dV (hdep 2 (by simp[dL])) rfl
   refine .inl ⟨rfl,owp_call rfl (enters Tryz.func117 (by kernel_rfl) (by kernel_rfl)) (vs:=#[.float .f64 r]) (by simp[eval_get y2]) ?_⟩
   refine(k3.out U (HB.out.2.2.trans (hb.mono HB.out.2.2.size))).mono ?_
   rintro r w' ⟨s9,ao9,n9,cp9,e9,rfl,hA9,hb'⟩
   exact⟨_,rfl,_,rfl,hA9,hb'⟩
  ·obtain rfl:=Option.some.inj ho
   have y0:act.tmps[(19:Nat)]?=_:=dV (hdep 0 (by simp[dL])) rfl
   obtain⟨u3,y30,v3⟩:=hdep 3 (by simp[dL])
   have y3:act.tmps[(22:Nat)]?=_:=y30
   refine .inl ⟨rfl,owp_call rfl (enters Tryz.func116 (by kernel_rfl) (by kernel_rfl)) (vs:=#[.agg #[.bool s2,.slice ao2 n2 cap2,.int .i64 ex2],u3]) (by simp[eval_get y0,eval_get y3]) ?_⟩
   refine(k4.out U _ _ (HB.out.2.2.trans (hb.mono HB.out.2.2.size)) (HB.out.1.2.later hb) v3).mono ?_
   rintro r w' ⟨s9,ao9,n9,cp9,e9,rfl,hA9,hb'⟩
   exact⟨_,rfl,_,rfl,⟨_,_,_,_,_,rfl,hA9⟩,hb'⟩
  ·obtain rfl:=Option.some.inj ho
   obtain⟨u4,y40,v4⟩:=hdep 4 (by simp[dL])
   have y4:act.tmps[(23:Nat)]?=_:=y40
   exact .inl ⟨rfl,owp_move rfl y4 ⟨_,rfl,v4,Below.refl _ _⟩⟩
  ·obtain rfl:=Option.some.inj ho
   obtain⟨u5,y50,v5⟩:=hdep 5 (by simp[dL])
   have y5:act.tmps[(18:Nat)]?=_:=y50
   obtain⟨se,aoe,ne,cpe,ee,rfl,hpe⟩:=v5
   exact .inl ⟨rfl,owp_extS rfl y5 rfl ⟨_,rfl,hpe,Below.refl _ _⟩⟩
  ·obtain rfl:=Option.some.inj ho
   obtain⟨u5,y50,v5⟩:=hdep 5 (by simp[dL])
   have y5:act.tmps[(18:Nat)]?=_:=y50
   obtain⟨se,aoe,ne,cpe,ee,rfl,hpe⟩:=v5
   exact .inl ⟨rfl,owp_extS rfl y5 rfl ⟨_,rfl,rfl,Below.refl _ _⟩⟩
  ·obtain rfl:=Option.some.inj ho
   have y7:act.tmps[(25:Nat)]?=_:=dV (hdep 7 (by simp[dL])) rfl
   exact .inl ⟨rfl,owp_assign rfl y7 ⟨_,rfl,rfl,Below.refl _ _⟩⟩
 ·intro k' hk
  obtain rfl:k'=0:=Nat.lt_one_iff.1 hk
  exact⟨_,rfl,rfl⟩
 ·intro k' hk
  obtain rfl:k'=0:=Nat.lt_one_iff.1 hk
  exact⟨_,rfl,rfl⟩
 ·intro u g U hb9 hu hg hap
  obtain⟨g0l,cs0,q0,z0⟩:=hg 0 (by decide)
  have q9:PN U (u 6) _:=hu 6 (by show 6<9;decide)
  have q0':u 6=.agg cs0:=q0
  rw[q0'] at q9
  obtain⟨s9,ao9,n9,cp9,e9,h9⟩:=PN.shape q9
  obtain rfl:=Value.agg.inj h9
  obtain⟨g9,hg9⟩:∃ x,x=g 0:=⟨_,rfl⟩
  rw[←hg9] at z0 g0l
  clear hu hg hap q0 q0'
  simp only[putL,show List.range 9 = [0,1,2,3,4,5,6,7,8] from rfl,show List.range 1 = [0] from rfl,List.length_cons,List.length_nil,List.getD_cons_zero,List.getD_cons_succ,List.map_cons,List.map_nil,List.cons_append,List.nil_append,List.foldl_cons,List.foldl_nil,Nat.reduceLT,Nat.reduceMod,Nat.reduceDiv,Nat.reduceMul,Nat.reduceAdd,Nat.reduceEqDiff,reduceIte,Nat.one_ne_zero,Act.put,List.setIfInBounds_toArray,List.set_cons_zero,List.set_cons_succ]
  rw[←hg9]
  clear hg9 
  obtain⟨U3,hr9⟩:∃ x,x=U:=⟨_,rfl⟩
  subst hr9
  obtain⟨g6,hr9⟩:∃ x,x=g9:=⟨_,rfl⟩
  subst hr9
  obtain⟨s5,hr9⟩:∃ x,x=s9:=⟨_,rfl⟩
  subst hr9
  obtain⟨ao5,hr9⟩:∃ x,x=ao9:=⟨_,rfl⟩
  subst hr9
  obtain⟨n5,hr9⟩:∃ x,x=n9:=⟨_,rfl⟩
  subst hr9
  obtain⟨cap5,hr9⟩:∃ x,x=cp9:=⟨_,rfl⟩
  subst hr9
  obtain⟨ex5,hr9⟩:∃ x,x=e9:=⟨_,rfl⟩
  subst hr9
  have HC:Hid (PBx U3 g6 s5 ao5 n5 cap5 ex5 tr∧Bw w U3):=⟨⟨z0,q9⟩,HB.out.2.2.trans (hb9.mono HB.out.2.2.size)⟩
  clear z0 q9 g0l hb9 h9 HB k3 k4
  obtain⟨⟨a0,a1,a2⟩,-⟩:=box_cells HC.out.1.1
  have kk:=k5.out U3 _ HC.out.1.2
  go_wp2_with fail
  refine kk.mono ?_
  rintro r' v4 ⟨rfl,hb4⟩
  have HD:Hid (PBx v4 g6 s5 ao5 n5 cap5 ex5 tr∧Bw w v4):=⟨HC.out.1.later hb4,HC.out.2.trans (hb4.mono HC.out.2.size)⟩
  clear kk hb4 HC k5 a0 a1 a2
  obtain⟨⟨a0,a1,a2⟩,-⟩:=box_cells HD.out.1.1
  have kk:=k6.out v4 _ HD.out.2 HD.out.1.2
  go_wp2_with fail
  refine kk.mono ?_
  rintro r' v5 ⟨rfl,hb4⟩
  have HE:Hid (Bw w v5):=HD.out.2.trans (hb4.mono HD.out.2.size)
  clear kk hb4 HD k6 a0 a1 a2
  go_wp2_with fail
  go_ret
  exact⟨rfl,HE.out⟩
theorem Bfarthest_1 (u v x y r F : Nat) (te ta : Bool × Nat × Int) (w : World)
    (k1 : Hid (∀ W, Bw w W → Calls Tryz.prog 117 #[.float .f64 r] W fun r w' => OutA W te r w'))
    (k2 : Hid (∀ W, Bw w W → Calls Tryz.prog 115 #[.complex .f64 u v, .complex .f64 x y] W fun r w' => OutA W ta r w'))
    (k3 : Hid (∀ W X Y, Bw w W → PN W X te → PN W Y ta → Calls Tryz.prog 118 #[X, Y, .agg #[.bool false, .slice none 0 0, .int .i64 0]] W fun r w' => r = .returned (.tuple #[.float .f64 F, .int .i64 0]) ∧ Bw W w')) :
    Calls Tryz.prog 91 #[.complex .f64 u v, .agg #[.complex .f64 x y, .float .f64 r]] w fun r w' => r = .returned (.float .f64 F) ∧ Bw w w' := by
  obtain ⟨W, hW⟩ : ∃ W, W = w.alloc (.cells #[.complex .f64 x y, .float .f64 r] 39) := ⟨_, rfl⟩
  have HX : Hid (BaB W w.heap.size x y r ∧ Bw w W) := ⟨by rw [hW]; exact BaB.new _ _ _ _, by rw [hW]; exact (Below.refl _ _).alloc (Nat.le_refl _) _⟩
  have HK : Hid (∀ w', Bw W w' → w'.cell? ⟨w.heap.size, 0, none⟩ = some (.complex .f64 x y) ∧ w'.cell? ⟨w.heap.size, 1, none⟩ = some (.float .f64 r)) := fun w' hb => (HX.out.1.later hb).facts.1
  have q1 : ∀ W', Bw W W' → Calls Tryz.prog 117 #[.float .f64 r] W' fun r w' => ∃ s ao n cap e, r = .returned (.agg #[.bool s, .slice ao n cap, .int .i64 e]) ∧ Hid (PN w' (.agg #[.bool s, .slice ao n cap, .int .i64 e]) te) ∧ Bw W w' := fun W' h => (k1.out W' (HX.out.2.trans (h.mono HX.out.2.size))).mono fun r w' ⟨s, ao, n, cp, e, h1, h2, h3⟩ => ⟨s, ao, n, cp, e, h1, h2, h.trans (h3.mono h.size)⟩
  have q2 : ∀ W' X, Bw W W' → PN W' X te → Calls Tryz.prog 115 #[.complex .f64 u v, .complex .f64 x y] W' fun r w' => ∃ s ao n cap e, r = .returned (.agg #[.bool s, .slice ao n cap, .int .i64 e]) ∧ Hid (PN w' (.agg #[.bool s, .slice ao n cap, .int .i64 e]) ta ∧ PN w' X te) ∧ Bw W w' := fun W' X h hX => (k2.out W' (HX.out.2.trans (h.mono HX.out.2.size))).mono fun r w' ⟨s, ao, n, cp, e, h1, h2, h3⟩ => ⟨s, ao, n, cp, e, h1, ⟨h2, hX.later h3⟩, h.trans (h3.mono h.size)⟩
  have q3 : ∀ W' X Y, Bw W W' → PN W' Y ta ∧ PN W' X te → Calls Tryz.prog 118 #[X, Y, .agg #[.bool false, .slice none 0 0, .int .i64 0]] W' fun r w' => r = .returned (.tuple #[.float .f64 F, .int .i64 0]) ∧ Bw W w' := fun W' X Y h hXY => (k3.out W' X Y (HX.out.2.trans (h.mono HX.out.2.size)) hXY.2 hXY.1).mono fun r w' ⟨h1, h3⟩ => ⟨h1, h.trans (h3.mono h.size)⟩
  have hRr : Bw W W.drew := (Below.refl _ _).drew
  obtain ⟨y0, y1⟩ := HK.out W (Below.refl _ _)
  clear k1 k2 k3
  go_enter Tryz.func91, Tryz.ntmps91
  go_upto_region 1 with fail
  rw [← hW]
  clear hW
  go_region_held3 (fun w' => w'.cell? ⟨w.heap.size, 0, none⟩ = some (.complex .f64 x y) ∧ w'.cell? ⟨w.heap.size, 1, none⟩ = some (.float .f64 r)) (first | (with_reducible assumption) | exact HK.out _ hRr | (refine HK.out _ ?_; with_reducible assumption))
    (first | (go_at_call 117; with_reducible refine (q1 _ hRr).mono ?_; rintro r' w3 ⟨s3, ao3, n3, cp3, e3, rfl, E3, hb3⟩)
           | (go_at_call 115; with_reducible refine (q2 _ _ hb3 E3.out).mono ?_; rintro r' w4 ⟨s4, ao4, n4, cp4, e4, rfl, E4, hb4⟩)
           | (go_at_call 118; with_reducible refine (q3 _ _ _ hb4 E4.out).mono ?_; rintro r' w5 ⟨rfl, hb5⟩))
  go_wp2_with fail
  go_ret
  exact ⟨rfl, HX.out.2.trans (hb5.mono HX.out.2.size)⟩
attribute [local go_sem] run_store_fltO run_store_cpxO
theorem run_ldBa (g x y r:Nat) (w:World) (h0:w.cell? ⟨g,0,none⟩=some (.complex .f64 x y)) (h1:w.cell? ⟨g,1,none⟩=some (.float .f64 r)):(Instr.loadAt 39 (.pointer (some ⟨g,0,none⟩))).run Tryz.prog w=.ok (.agg #[.complex .f64 x y,.float .f64 r]) w :=
 run_loadAt_mid w g 0 39 [.complex .f64 x y,.float .f64 r] _ (fun j v hv=>by
  match j with
  | 0=>simp at hv;subst hv;exact h0
  | 1=>simp at hv;subst hv;exact h1
  | k+2=>simp at hv) Tryz.underlying39 rfl (by kernel_rfl)
theorem owp_ldBa {Q:Exit→Act→World→Prop} {o:Oper} {K:Act→World→Prop} {a:Act} {w:World} {s:Tmp} {g x y r:Nat} (hop:o.op=.load 39 (.tmp s)) (hs:a.tmps[s]?=some (.pointer (some ⟨g,0,none⟩))) (h0:w.cell? ⟨g,0,none⟩=some (.complex .f64 x y)) (h1:w.cell? ⟨g,1,none⟩=some (.float .f64 r)) (h:K (a.put o.dst (.agg #[.complex .f64 x y,.float .f64 r])) w):o.wp Tryz.prog a w K Q :=
 owp_run1 (w':=w) (by simp[execOp,hop,eval_get hs,run_ldBa g x y r w h0 h1]) h
theorem owp_cstO {P:Program} {Q:Exit→Act→World→Prop} {o:Oper} {K:Act→World→Prop} {a:Act} {w:World} {v:Value} (hop:o.op=.assign (.const v)) (h:K (a.put o.dst v) w):o.wp P a w K Q :=
 owp_run1 (w':=w) (by simp[execOp,hop,Act.eval]) h
theorem eval_cstO (a:Act) (v:Value):a.eval (.const v)=v:=rfl
def BvI (W:World) (g a b:Nat):Prop:=W.heap[g]?=some (.cells #[.float .f64 a,.float .f64 b] 89 (0,0))
theorem BvI.later {W W':World} {g a b:Nat} (h:BvI W g a b) (hb:Bw W W'):BvI W' g a b:=(hb.block _ (Array.getElem?_eq_some_iff.1 h).1).trans h
theorem BvI.facts {w:World} {g a b:Nat} (h:BvI w g a b):(w.cell? ⟨g,0,none⟩=some (.float .f64 a)∧w.cell? ⟨g,1,none⟩=some (.float .f64 b))∧(w.frozen? ⟨g,0,none⟩=false∧w.frozen? ⟨g,1,none⟩=false):=by
 unfold BvI at h
 simp[World.cell?,World.frozen?,h]
theorem BvI.new (w:World) (a b:Nat):BvI (w.alloc (.cells #[.float .f64 a,.float .f64 b] 89)) w.heap.size a b:=heap_alloc_new _ _
theorem arithSub_1 (a b c d F G:Nat) (m:Int) (w:World)
  (k1:∀ W,Bw w W→Calls Tryz.prog 82 #[.float .f64 a,.float .f64 c,.int .i64 m] W fun r w'=>r=.returned (.float .f64 F)∧Bw W w')
  (k2:∀ W,Bw w W→Calls Tryz.prog 82 #[.float .f64 b,.float .f64 d,.int .i64 m] W fun r w'=>r=.returned (.float .f64 G)∧Bw W w') :
  Calls Tryz.prog 57 #[.complex .f64 a b,.complex .f64 c d,.int .i64 m] w fun r w'=>r=.returned (.complex .f64 F G)∧Bw w w':=by
 go_enter Tryz.func57,Tryz.ntmps57
 go_wp2_with fail
 refine(k1 _ (Below.refl _ _)).mono ?_
 rintro r w1 ⟨rfl,hb1⟩
 have H1:Hid (Bw w w1):=hb1
 clear hb1
 go_wp2_with fail
 refine(k2 _ H1.out).mono ?_
 rintro r w2 ⟨rfl,hb1⟩
 have H2:Hid (Bw w w2):=H1.out.trans (hb1.mono H1.out.size)
 clear hb1
 go_wp2_with fail
 go_ret
 exact⟨rfl,H2.out⟩
theorem arithAbs_1 (a b F:Nat) (m:Int) (w:World)
  (k1:∀ W,Bw w W→Calls Tryz.prog 122 #[.float .f64 a,.float .f64 b,.int .i64 m] W fun r w'=>r=.returned (.float .f64 F)∧Bw W w') :
  Calls Tryz.prog 94 #[.complex .f64 a b,.int .i64 m] w fun r w'=>r=.returned (.float .f64 F)∧Bw w w':=by
 go_enter Tryz.func94,Tryz.ntmps94
 go_wp2_with fail
 refine(k1 _ (Below.refl _ _)).mono ?_
 rintro r w1 ⟨rfl,hb1⟩
 have H1:Hid (Bw w w1):=hb1
 clear hb1
 go_wp2_with fail
 go_ret
 exact⟨rfl,H1.out⟩
theorem BAbs_1 (x y r F G:Nat) (w:World)
  (kv:Hid (∀ W,Calls Tryz.prog 34 #[.agg #[.complex .f64 x y,.float .f64 r]] W fun r w'=>r=.returned (.bool true)∧Bw W w'))
  (kw:Hid (∀ W,Calls Tryz.prog 56 #[.agg #[.complex .f64 x y,.float .f64 r]] W fun r w'=>r=.returned (.bool false)∧Bw W w'))
  (k1:Hid (∀ W,Bw w W→Calls Tryz.prog 90 #[.agg #[.complex .f64 x y,.float .f64 r]] W fun r w'=>r=.returned (.float .f64 F)∧Bw W w'))
  (k2:Hid (∀ W,Bw w W→Calls Tryz.prog 91 #[.complex .f64 0 0,.agg #[.complex .f64 x y,.float .f64 r]] W fun r w'=>r=.returned (.float .f64 G)∧Bw W w')) :
  Calls Tryz.prog 60 #[.agg #[.complex .f64 x y,.float .f64 r]] w fun r w'=>r=.returned (.tuple #[.agg #[.float .f64 F,.float .f64 G],.int .i64 0])∧Bw w w':=by
 obtain⟨V,hV⟩:∃ W,W=w.alloc (.cells #[.complex .f64 x y,.float .f64 r] 39):=⟨_,rfl⟩
 obtain⟨W,hW⟩:∃ W,W=V.alloc (.cells #[.float .f64 0,.float .f64 0] 89):=⟨_,rfl⟩
 have hsV:V.heap.size=w.heap.size+1:=by rw[hV];simp
 have hb1:Bw w V:=by rw[hV];exact(Below.refl _ _).alloc (Nat.le_refl _) _
 have hb2:Bw V W:=by rw[hW];exact(Below.refl _ _).alloc (Nat.le_refl _) _
 have h1:BaB W w.heap.size x y r:=BaB.later (by rw[hV];exact BaB.new _ _ _ _) hb2
 have h2:BvI W (w.heap.size+1) 0 0:=by rw[hW,←hsV];exact BvI.new _ _ _
 have HB:Hid (BaB W w.heap.size x y r∧BvI W (w.heap.size+1) 0 0∧Bw w W):=⟨h1,h2,hb1.trans (hb2.mono hb1.size)⟩
 obtain⟨⟨z0,z1⟩,-⟩:=h1.facts
 rw[hV] at hW
 clear hV hsV hb1 hb2 h1 h2
 go_enter Tryz.func60,Tryz.ntmps60
 go_upto_region 1 with fail
 rw[←hW]
 clear hW
 go_wp2_with fail
 refine(kv.out _).mono ?_
 rintro r' w1 ⟨rfl,hb1⟩
 have HC:Hid (BaB w1 w.heap.size x y r∧BvI w1 (w.heap.size+1) 0 0∧Bw w w1):=⟨HB.out.1.later hb1,HB.out.2.1.later hb1,HB.out.2.2.trans (hb1.mono HB.out.2.2.size)⟩
 clear hb1 HB z0 z1 kv
 obtain⟨⟨z0,z1⟩,-⟩:=HC.out.1.facts
 go_wp2_with fail
 refine(kw.out _).mono ?_
 rintro r' w2 ⟨rfl,hb1⟩
 have HD:Hid (BaB w2 w.heap.size x y r∧BvI w2 (w.heap.size+1) 0 0∧Bw w w2):=⟨HC.out.1.later hb1,HC.out.2.1.later hb1,HC.out.2.2.trans (hb1.mono HC.out.2.2.size)⟩
 clear hb1 HC z0 z1 kw
 go_wp2_with fail
 refine q_region follows_mixed [0,1,2,3,4,6] [5] [14,15,16,17,18,3] [[],[0],[],[2],[1,3],[]] [[4]] [4] (fun _=>2) (fun _=>(w.heap.size+1)) w.heap.size 89 (fun cs=>cs.size=2) 2 w2 _ [isV (.agg #[.complex .f64 x y,.float .f64 r]),isV (.float .f64 F),isV (.agg #[.complex .f64 x y,.float .f64 r]),isV (.float .f64 G),isV (.agg #[.float .f64 F,.float .f64 G]),isV (.int .i64 0)] (by kernel_rfl) ⟨isV_stays _,isV_stays _,isV_stays _,isV_stays _,isV_stays _,isV_stays _,trivial⟩ ⟨fun _ _ _ _ _ _ _ h=>h,fun _ _ _ _ _ _ _ h=>h,fun _ _ _ _ _ _ _ h=>h,fun _ _ _ _ _ _ _ h=>h,fun _ _ _ _ _ _ _ h=>h,fun _ _ _ _ _ _ _ h=>h,trivial⟩ (by show ∀ s ∈ [14,15,16,17,18,3],s<19;decide) ?_ ?_ (by kernel_rfl) ?_ ?_ ?_ ?_ HD.out.2.2.size ?_
 ·intro i hi U u h
  obtain rfl:i=0:=Nat.lt_one_iff.1 hi
  have h9:u=.agg #[.float .f64 F,.float .f64 G]:=h
  subst h9
  exact⟨_,rfl,rfl,rfl,by simp[Value.oneCell']⟩
 ·intro j hj o ho act U hK hoth hdep hrd
  have hj':j<6:=hj
  have hbU:Bw w U:=HD.out.2.2.trans hK.below
  have t1':act.tmps[(1:Nat)]?=some (Value.pointer (some ⟨w.heap.size,0,none⟩)):=(hoth 1 (by decide)).trans rfl
  have d1:=(BaB.facts ((hK.keep w.heap.size HD.out.1.lt (fun k _=>by show w.heap.size≠w.heap.size+1;omega)).trans HD.out.1)).1
  rcases(by omega:j=0∨j=1∨j=2∨j=3∨j=4∨j=5)with rfl|rfl|rfl|rfl|rfl|rfl
  ·obtain rfl:=Option.some.inj ho
   exact .inl ⟨rfl,owp_ldBa rfl t1' d1.1 d1.2 ⟨_,rfl,rfl,Below.refl _ _⟩⟩
  ·obtain rfl:=Option.some.inj ho
   have y0:act.tmps[(14:Nat)]?=_:=dV (hdep 0 (by simp[dL])) rfl
   refine .inl ⟨rfl,owp_call rfl (enters Tryz.func90 (by kernel_rfl) (by kernel_rfl)) (vs:=#[.agg #[.complex .f64 x y,.float .f64 r]]) (by simp[eval_get y0]) ?_⟩
   refine(k1.out U hbU).mono ?_
   rintro r' w' ⟨rfl,hb'⟩
   exact⟨_,rfl,_,rfl,rfl,hb'⟩
  ·obtain rfl:=Option.some.inj ho
   exact .inl ⟨rfl,owp_ldBa rfl t1' d1.1 d1.2 ⟨_,rfl,rfl,Below.refl _ _⟩⟩
  ·obtain rfl:=Option.some.inj ho
   have y2:act.tmps[(16:Nat)]?=_:=dV (hdep 2 (by simp[dL])) rfl
   refine .inl ⟨rfl,owp_call rfl (enters Tryz.func91 (by kernel_rfl) (by kernel_rfl)) (vs:=#[(Value.complex FloatKind.f64 0 0),.agg #[.complex .f64 x y,.float .f64 r]]) (by simp[eval_cstO,eval_get y2]) ?_⟩
   refine(k2.out U hbU).mono ?_
   rintro r' w' ⟨rfl,hb'⟩
   exact⟨_,rfl,_,rfl,rfl,hb'⟩
  ·obtain rfl:=Option.some.inj ho
   have y1:act.tmps[(15:Nat)]?=_:=dV (hdep 1 (by simp[dL])) rfl
   have y3:act.tmps[(17:Nat)]?=_:=dV (hdep 3 (by simp[dL])) rfl
   exact .inl ⟨rfl,owp_run1 (w':=U) (by simp[execOp,Act.eval,y1,y3,go_sem]) ⟨_,rfl,rfl,Below.refl _ _⟩⟩
  ·obtain rfl:=Option.some.inj ho
   exact .inl ⟨rfl,owp_cstO rfl ⟨_,rfl,rfl,Below.refl _ _⟩⟩
 ·intro i hi
  obtain rfl:i=0:=Nat.lt_one_iff.1 hi
  exact⟨_,rfl,rfl⟩
 ·intro i hi
  exact⟨rfl,by decide⟩
 ·intro i hi
  exact⟨Nat.le_succ _,_,HD.out.2.1,rfl,rfl⟩
 ·intro i i' hi hi' _
  exact(Nat.lt_one_iff.1 hi).trans (Nat.lt_one_iff.1 hi').symm
 ·intro u U hK hu hcs
  obtain⟨csa,ya,z9⟩:=hcs 0 (by decide)
  have q8:u 4=.agg #[.float .f64 F,.float .f64 G]:=hu 4 (by show 4<6;decide)
  have ya':u 4=.agg csa:=ya
  rw[q8] at ya'
  obtain rfl:=Value.agg.inj ya'
  have HQ:Hid (U.heap[w.heap.size+1]?=some (.cells #[.float .f64 F,.float .f64 G] 89 (0,0))∧Bw w U):=⟨z9,HD.out.2.2.trans hK.below⟩
  have u9:u 5=.int .i64 0:=hu 5 (by show 5<6;decide)
  clear hu hcs ya' q8 z9 hK
  simp only[putL,show List.range 6 = [0,1,2,3,4,5] from rfl,List.length_cons,List.length_nil,List.getD_cons_zero,List.getD_cons_succ,List.map_cons,List.map_nil,List.cons_append,List.nil_append,List.foldl_cons,List.foldl_nil,Nat.reduceLT,Nat.reduceMod,Nat.reduceDiv,Nat.reduceMul,Nat.reduceAdd,Nat.reduceEqDiff,reduceIte,Nat.one_ne_zero,Act.put,List.setIfInBounds_toArray,List.set_cons_zero,List.set_cons_succ]
  rw[u9]
  clear u9
  go_wp2_with fail
  refine bodyPost_ret (results_cell_tmp_row rfl _ _ (w.heap.size+1) 89 #[.float .f64 F,.float .f64 G] (0,0) _ rfl HQ.out.1 Tryz.underlying89 rfl (by kernel_rfl)) rfl ?_
  exact⟨rfl,HQ.out.2⟩
theorem BGrow_1 (x y r m R:Nat) (w:World) (hm:(FloatKind.f64.format.order m 0==some Ordering.gt||FloatKind.f64.format.order m 0==some Ordering.eq)=true)
  (kv:Hid (∀ W,Calls Tryz.prog 34 #[.agg #[.complex .f64 x y,.float .f64 r]] W fun r w'=>r=.returned (.bool true)∧Bw W w'))
  (k1:Hid (∀ W,Bw w W→Calls Tryz.prog 58 #[.float .f64 r,.float .f64 m,.int .i64 3] W fun r w'=>r=.returned (.float .f64 R)∧Bw W w'))
  (k2:Hid (∀ W,Bw w W→Calls Tryz.prog 42 #[.complex .f64 x y,.float .f64 R] W fun r w'=>r=.returned (.agg #[.complex .f64 x y,.float .f64 R])∧Bw W w')) :
  Calls Tryz.prog 62 #[.agg #[.complex .f64 x y,.float .f64 r],.float .f64 m] w fun r w'=>r=.returned (.tuple #[.agg #[.complex .f64 x y,.float .f64 R],.int .i64 0])∧Bw w w':=by
 obtain⟨V,hV⟩:∃ W,W=w.alloc (.cells #[.complex .f64 x y,.float .f64 r] 39):=⟨_,rfl⟩
 obtain⟨W,hW⟩:∃ W,W=V.alloc (.cells #[.complex .f64 0 0,.float .f64 0] 39):=⟨_,rfl⟩
 have hsV:V.heap.size=w.heap.size+1:=by rw[hV];simp
 have hb1:Bw w V:=by rw[hV];exact(Below.refl _ _).alloc (Nat.le_refl _) _
 have hb2:Bw V W:=by rw[hW];exact(Below.refl _ _).alloc (Nat.le_refl _) _
 have h1:BaB W w.heap.size x y r:=BaB.later (by rw[hV];exact BaB.new _ _ _ _) hb2
 have h2:BaB W (w.heap.size+1) 0 0 0:=by rw[hW,←hsV];exact BaB.new _ _ _ _
 have HB:Hid (BaB W w.heap.size x y r∧BaB W (w.heap.size+1) 0 0 0∧Bw w W):=⟨h1,h2,hb1.trans (hb2.mono hb1.size)⟩
 obtain⟨⟨z0,z1⟩,-⟩:=h1.facts
 rw[hV] at hW
 clear hV hsV hb1 hb2 h1 h2
 go_enter Tryz.func62,Tryz.ntmps62
 go_upto_region 1 with fail
 rw[←hW]
 clear hW
 go_wp2_with fail
 refine(kv.out _).mono ?_
 rintro r' w1 ⟨rfl,hb1⟩
 have HD:Hid (BaB w1 w.heap.size x y r∧BaB w1 (w.heap.size+1) 0 0 0∧Bw w w1):=⟨HB.out.1.later hb1,HB.out.2.1.later hb1,HB.out.2.2.trans (hb1.mono HB.out.2.2.size)⟩
 clear hb1 HB z0 z1 kv
 go_wp2_with fail
 refine q_region follows_mixed [0,1,2,3,4,5,6,8] [7] [16,17,18,19,20,21,22,5] [[],[0],[],[2],[],[3,4],[1,5],[]] [[6]] [6] (fun _=>4) (fun _=>(w.heap.size+1)) w.heap.size 39 (fun cs=>cs.size=2) 2 w1 _ [isV (.pointer (some ⟨w.heap.size,0,none⟩)),isV (.complex .f64 x y),isV (.pointer (some ⟨w.heap.size,1,none⟩)),isV (.float .f64 r),isV (.float .f64 m),isV (.float .f64 R),isV (.agg #[.complex .f64 x y,.float .f64 R]),isV (.int .i64 0)] (by kernel_rfl) ⟨isV_stays _,isV_stays _,isV_stays _,isV_stays _,isV_stays _,isV_stays _,isV_stays _,isV_stays _,trivial⟩ ⟨fun _ _ _ _ _ _ _ h=>h,fun _ _ _ _ _ _ _ h=>h,fun _ _ _ _ _ _ _ h=>h,fun _ _ _ _ _ _ _ h=>h,fun _ _ _ _ _ _ _ h=>h,fun _ _ _ _ _ _ _ h=>h,fun _ _ _ _ _ _ _ h=>h,fun _ _ _ _ _ _ _ h=>h,trivial⟩ (by show ∀ s ∈ [16,17,18,19,20,21,22,5],s<23;decide) ?_ ?_ (by kernel_rfl) ?_ ?_ ?_ ?_ HD.out.2.2.size ?_
 ·intro i hi U u h
  obtain rfl:i=0:=Nat.lt_one_iff.1 hi
  have h9:u=.agg #[.complex .f64 x y,.float .f64 R]:=h
  subst h9
  exact⟨_,rfl,rfl,rfl,by simp[Value.oneCell']⟩
 ·intro j hj o ho act U hK hoth hdep hrd
  have hj':j<8:=hj
  have hbU:Bw w U:=HD.out.2.2.trans hK.below
  have t2':act.tmps[(2:Nat)]?=some (Value.pointer (some ⟨w.heap.size,0,none⟩)):=(hoth 2 (by decide)).trans rfl
  have t1':act.tmps[(1:Nat)]?=some (Value.float .f64 m):=(hoth 1 (by decide)).trans rfl
  have d1:=(BaB.facts ((hK.keep w.heap.size HD.out.1.lt (fun k _=>by show w.heap.size≠w.heap.size+1;omega)).trans HD.out.1)).1
  rcases(by omega:j=0∨j=1∨j=2∨j=3∨j=4∨j=5∨j=6∨j=7)with rfl|rfl|rfl|rfl|rfl|rfl|rfl|rfl
  ·obtain rfl:=Option.some.inj ho
   exact .inl ⟨rfl,owp_run1 (w':=U) (by simp[execOp,t2',eval_cstO,go_sem]) ⟨_,rfl,rfl,Below.refl _ _⟩⟩
  ·obtain rfl:=Option.some.inj ho
   have y0:act.tmps[(16:Nat)]?=_:=dV (hdep 0 (by simp[dL])) rfl
   exact .inl ⟨rfl,owp_run1 (w':=U) (by simp[execOp,Act.eval,y0,d1.1,go_sem]) ⟨_,rfl,rfl,Below.refl _ _⟩⟩
  ·obtain rfl:=Option.some.inj ho
   exact .inl ⟨rfl,owp_run1 (w':=U) (by simp[execOp,t2',eval_cstO,go_sem]) ⟨_,rfl,rfl,Below.refl _ _⟩⟩
  ·obtain rfl:=Option.some.inj ho
   have y2:act.tmps[(18:Nat)]?=_:=dV (hdep 2 (by simp[dL])) rfl
   exact .inl ⟨rfl,owp_run1 (w':=U) (by simp[execOp,Act.eval,y2,d1.2,go_sem]) ⟨_,rfl,rfl,Below.refl _ _⟩⟩
  ·obtain rfl:=Option.some.inj ho
   exact .inl ⟨rfl,owp_move rfl t1' ⟨_,rfl,rfl,Below.refl _ _⟩⟩
  ·obtain rfl:=Option.some.inj ho
   have y3:act.tmps[(19:Nat)]?=_:=dV (hdep 3 (by simp[dL])) rfl
   have y4:act.tmps[(20:Nat)]?=_:=dV (hdep 4 (by simp[dL])) rfl
   refine .inl ⟨rfl,owp_call rfl (enters Tryz.func58 (by kernel_rfl) (by kernel_rfl)) (vs:=#[.float .f64 r,.float .f64 m,(Value.int IntKind.i64 3)]) (by simp[eval_get y3,eval_get y4,eval_cstO]) ?_⟩
   refine(k1.out U hbU).mono ?_
   rintro r' w' ⟨rfl,hb'⟩
   exact⟨_,rfl,_,rfl,rfl,hb'⟩
  ·obtain rfl:=Option.some.inj ho
   have y1:act.tmps[(17:Nat)]?=_:=dV (hdep 1 (by simp[dL])) rfl
   have y5:act.tmps[(21:Nat)]?=_:=dV (hdep 5 (by simp[dL])) rfl
   refine .inl ⟨rfl,owp_call rfl (enters Tryz.func42 (by kernel_rfl) (by kernel_rfl)) (vs:=#[.complex .f64 x y,.float .f64 R]) (by simp[eval_get y1,eval_get y5]) ?_⟩
   refine(k2.out U hbU).mono ?_
   rintro r' w' ⟨rfl,hb'⟩
   exact⟨_,rfl,_,rfl,rfl,hb'⟩
  ·obtain rfl:=Option.some.inj ho
   exact .inl ⟨rfl,owp_cstO rfl ⟨_,rfl,rfl,Below.refl _ _⟩⟩
 ·intro i hi
  obtain rfl:i=0:=Nat.lt_one_iff.1 hi
  exact⟨_,rfl,rfl⟩
 ·intro i hi
  exact⟨rfl,by decide⟩
 ·intro i hi
  exact⟨Nat.le_succ _,_,HD.out.2.1,rfl,rfl⟩
 ·intro i i' hi hi' _
  exact(Nat.lt_one_iff.1 hi).trans (Nat.lt_one_iff.1 hi').symm
 ·intro u U hK hu hcs
  obtain⟨csa,ya,z9⟩:=hcs 0 (by decide)
  have q8:u 6=.agg #[.complex .f64 x y,.float .f64 R]:=hu 6 (by show 6<8;decide)
  have ya':u 6=.agg csa:=ya
  rw[q8] at ya'
  obtain rfl:=Value.agg.inj ya'
  have HQ:Hid (U.heap[w.heap.size+1]?=some (.cells #[.complex .f64 x y,.float .f64 R] 39 (0,0))∧Bw w U):=⟨z9,HD.out.2.2.trans hK.below⟩
  have u9:u 7=.int .i64 0:=hu 7 (by show 7<8;decide)
  clear hu hcs ya' q8 z9 hK
  simp only[putL,show List.range 8 = [0,1,2,3,4,5,6,7] from rfl,List.length_cons,List.length_nil,List.getD_cons_zero,List.getD_cons_succ,List.map_cons,List.map_nil,List.cons_append,List.nil_append,List.foldl_cons,List.foldl_nil,Nat.reduceLT,Nat.reduceMod,Nat.reduceDiv,Nat.reduceMul,Nat.reduceAdd,Nat.reduceEqDiff,reduceIte,Nat.one_ne_zero,Act.put,List.setIfInBounds_toArray,List.set_cons_zero,List.set_cons_succ]
  rw[u9]
  clear u9
  go_wp2_with fail
  refine bodyPost_ret (results_cell_tmp_row rfl _ _ (w.heap.size+1) 39 #[.complex .f64 x y,.float .f64 R] (0,0) _ rfl HQ.out.1 Tryz.underlying39 rfl (by kernel_rfl)) rfl ?_
  exact⟨rfl,HQ.out.2⟩
attribute [local go_sem] run_store_fltO run_store_cpxO
theorem BmayBe_2 (x y r x' y' r' g:Nat) (w:World)
  (h0:w.heap[g]?=some (.cells #[.complex .f64 x y,.float .f64 r,.complex .f64 x' y',.float .f64 r'] 39 (0,0)))
  (k1:Hid (∀ W,Calls Tryz.prog 34 #[.agg #[.complex .f64 x y,.float .f64 r]] W fun r w'=>r=.returned (.bool true)∧Bw W w'))
  (k2:Hid (∀ W,Calls Tryz.prog 34 #[.agg #[.complex .f64 x' y',.float .f64 r']] W fun r w'=>r=.returned (.bool true)∧Bw W w')) :
  Calls Tryz.prog 112 #[.slice (some ⟨g,0,none⟩) 2 2] w fun r w'=>r=.returned (.bool true)∧Bw w w':=by
 have HF:Hid (∀ w',Bw w w'→(w'.cell? ⟨g,0,none⟩=some (.complex .f64 x y)∧w'.cell? ⟨g,1,none⟩=some (.float .f64 r))∧w'.cell? ⟨g,2,none⟩=some (.complex .f64 x' y')∧w'.cell? ⟨g,3,none⟩=some (.float .f64 r')):=fun w' hb=>by
  have h:=(hb.block _ (Array.getElem?_eq_some_iff.1 h0).1).trans h0
  simp[World.cell?,h]
 clear h0
 go_enter Tryz.func112,Tryz.ntmps112
 go_wp2_with fail
 go_loopw [7] (fun iv wr=>(iv=.int .i64 0∨iv=.int .i64 1∨iv=.int .i64 2)∧Hid (Bw w wr)) (fun iv _=>(2 - intOf iv).toNat)
 case atStart=>exact⟨.inl rfl,Below.refl _ _⟩
 case round =>
  obtain⟨rfl|rfl|rfl,HB⟩:=hrel
  ·obtain⟨⟨y0,y1⟩,y2,y3⟩:=HF.out _ HB.out
   have hal:Below w.heap.size w (wr.alloc (.cells #[.complex .f64 x y,.float .f64 r] 39)):=HB.out.alloc HB.out.size _
   go_wp2_with fail
   refine(k1.out _).mono ?_
   rintro r' w2 ⟨rfl,hb2⟩
   have HC:Hid (Bw w w2):=hal.trans (hb2.mono hal.size)
   clear hb2 hal y0 y1 y2 y3
   go_wp2_with fail
   exact⟨⟨.inr (.inl rfl),HC⟩,by decide⟩
  ·obtain⟨⟨y0,y1⟩,y2,y3⟩:=HF.out _ HB.out
   have hal:Below w.heap.size w (wr.alloc (.cells #[.complex .f64 x' y',.float .f64 r'] 39)):=HB.out.alloc HB.out.size _
   go_wp2_with fail
   refine(k2.out _).mono ?_
   rintro r' w2 ⟨rfl,hb2⟩
   have HC:Hid (Bw w w2):=hal.trans (hb2.mono hal.size)
   clear hb2 hal y0 y1 y2 y3
   go_wp2_with fail
   exact⟨⟨.inr (.inr rfl),HC⟩,by decide⟩
  ·go_wp2_with fail
   go_ret
   exact⟨rfl,HB.out⟩
theorem Bnear_no (x y u v : Nat) (sf : Bool) (aof : Option Addr) (nf capf : Nat) (exf : Int) (tf ta ts : Bool × Nat × Int) (w : World) (hf : PN w (.agg #[.bool sf, .slice aof nf capf, .int .i64 exf]) tf)
    (k1 : Hid (∀ W X, PN W X tf → Calls Tryz.prog 86 #[X] W fun r w' => r = .returned (.int .i64 1) ∧ Bw W w'))
    (k2 : Hid (∀ W, Bw w W → Calls Tryz.prog 115 #[.complex .f64 x y, .complex .f64 u v] W fun r w' => OutA W ta r w'))
    (k3 : Hid (∀ W X, Bw w W → PN W X tf → Calls Tryz.prog 138 #[X, .agg #[.bool false, .slice none 0 0, .int .i64 0]] W fun r w' => OutA W ts r w'))
    (k4 : Hid (∀ W X Y, PN W X ta → PN W Y ts → Calls Tryz.prog 137 #[X, Y] W fun r w' => r = .returned (.int .i64 1) ∧ Bw W w')) :
    Calls Tryz.prog 113 #[.complex .f64 x y, .complex .f64 u v, .agg #[.bool sf, .slice aof nf capf, .int .i64 exf]] w fun r w' => r = .returned (.bool false) ∧ Bw w w' := by
  obtain ⟨W, hW⟩ : ∃ W, W = w.alloc (.cells #[.bool sf, .slice aof nf capf, .int .i64 exf] 47) := ⟨_, rfl⟩
  have hb : Bw w W := by rw [hW]; exact (Below.refl _ _).alloc (Nat.le_refl _) _
  have HX : Hid (PBx W w.heap.size sf aof nf capf exf tf ∧ Bw w W) := ⟨⟨by rw [hW]; exact heap_alloc_new _ _, hf.later hb⟩, hb⟩
  have HK : Hid (∀ w', Bw W w' → w'.cell? ⟨w.heap.size, 0, none⟩ = some (.bool sf) ∧ w'.cell? ⟨w.heap.size, 1, none⟩ = some (.slice aof nf capf) ∧ w'.cell? ⟨w.heap.size, 2, none⟩ = some (.int .i64 exf)) := fun w' hb => (box_cells (HX.out.1.later hb).1).1
  have q1 : ∀ W', Bw W W' → Calls Tryz.prog 86 #[.agg #[.bool sf, .slice aof nf capf, .int .i64 exf]] W' fun r w' => r = .returned (.int .i64 1) ∧ Bw W w' := fun W' h => (k1.out W' _ (HX.out.1.later h).2).mono fun r w' ⟨h1, h3⟩ => ⟨h1, h.trans (h3.mono h.size)⟩
  have q2 : ∀ W', Bw W W' → Calls Tryz.prog 115 #[.complex .f64 x y, .complex .f64 u v] W' fun r w' => ∃ s ao n cap e, r = .returned (.agg #[.bool s, .slice ao n cap, .int .i64 e]) ∧ Hid (PN w' (.agg #[.bool s, .slice ao n cap, .int .i64 e]) ta) ∧ Bw W w' := fun W' h => (k2.out W' (HX.out.2.trans (h.mono HX.out.2.size))).mono fun r w' ⟨s, ao, n, cp, e, h1, h2, h3⟩ => ⟨s, ao, n, cp, e, h1, h2, h.trans (h3.mono h.size)⟩
  have q3 : ∀ W' X, Bw W W' → PN W' X ta → Calls Tryz.prog 138 #[.agg #[.bool sf, .slice aof nf capf, .int .i64 exf], .agg #[.bool false, .slice none 0 0, .int .i64 0]] W' fun r w' => ∃ s ao n cap e, r = .returned (.agg #[.bool s, .slice ao n cap, .int .i64 e]) ∧ Hid (PN w' (.agg #[.bool s, .slice ao n cap, .int .i64 e]) ts ∧ PN w' X ta) ∧ Bw W w' := fun W' X h hX => (k3.out W' _ (HX.out.2.trans (h.mono HX.out.2.size)) (HX.out.1.later h).2).mono fun r w' ⟨s, ao, n, cp, e, h1, h2, h3⟩ => ⟨s, ao, n, cp, e, h1, ⟨h2, hX.later h3⟩, h.trans (h3.mono h.size)⟩
  have q4 : ∀ W' X Y, Bw W W' → PN W' Y ts ∧ PN W' X ta → Calls Tryz.prog 137 #[X, Y] W' fun r w' => r = .returned (.int .i64 1) ∧ Bw W w' := fun W' X Y h hXY => (k4.out W' X Y hXY.2 hXY.1).mono fun r w' ⟨h1, h3⟩ => ⟨h1, h.trans (h3.mono h.size)⟩
  have hRr : Bw W W.drew := (Below.refl _ _).drew
  obtain ⟨y0, y1, y2⟩ := HK.out W (Below.refl _ _)
  clear k1 k2 k3 k4 hf hb
  go_enter Tryz.func113, Tryz.ntmps113
  go_upto_region 1 with fail
  rw [← hW]
  clear hW
  go_region_held3 (fun w' => w'.cell? ⟨w.heap.size, 0, none⟩ = some (.bool sf) ∧ w'.cell? ⟨w.heap.size, 1, none⟩ = some (.slice aof nf capf) ∧ w'.cell? ⟨w.heap.size, 2, none⟩ = some (.int .i64 exf)) (first | (with_reducible assumption) | exact HK.out _ hRr | (refine HK.out _ ?_; with_reducible assumption))
    (first | (go_at_call 86; with_reducible refine (q1 _ hRr).mono ?_; rintro r' w3 ⟨rfl, hb3⟩)
           | (go_at_call 115; with_reducible refine (q2 _ hb3).mono ?_; rintro r' w4 ⟨s4, ao4, n4, cp4, e4, rfl, E4, hb4⟩)
           | (go_at_call 138; with_reducible refine (q3 _ _ hb4 E4.out).mono ?_; rintro r' w5 ⟨s5, ao5, n5, cp5, e5, rfl, E5, hb5⟩)
           | (go_at_call 137; with_reducible refine (q4 _ _ _ hb5 E5.out).mono ?_; rintro r' w6 ⟨rfl, hb6⟩))
  go_wp2_with fail
  go_ret
  exact ⟨rfl, HX.out.2.trans (hb6.mono HX.out.2.size)⟩
theorem BWithin_no (u v x y r : Nat) (td : Bool × Nat × Int) (w : World)
    (kv1 : Hid (∀ W, Calls Tryz.prog 34 #[.agg #[.complex .f64 u v, .float .f64 0]] W fun r w' => r = .returned (.bool true) ∧ Bw W w'))
    (kv2 : Hid (∀ W, Calls Tryz.prog 34 #[.agg #[.complex .f64 x y, .float .f64 r]] W fun r w' => r = .returned (.bool true) ∧ Bw W w'))
    (kw1 : Hid (∀ W, Calls Tryz.prog 56 #[.agg #[.complex .f64 u v, .float .f64 0]] W fun r w' => r = .returned (.bool false) ∧ Bw W w'))
    (kw2 : Hid (∀ W, Calls Tryz.prog 56 #[.agg #[.complex .f64 x y, .float .f64 r]] W fun r w' => r = .returned (.bool false) ∧ Bw W w'))
    (k1 : Hid (∀ W, Bw w W → Calls Tryz.prog 114 #[.float .f64 r, .float .f64 0] W fun r w' => OutA W td r w'))
    (k2 : Hid (∀ W X, Bw w W → PN W X td → Calls Tryz.prog 113 #[.complex .f64 u v, .complex .f64 x y, X] W fun r w' => r = .returned (.bool false) ∧ Bw W w')) :
    Calls Tryz.prog 89 #[.agg #[.complex .f64 u v, .float .f64 0], .agg #[.complex .f64 x y, .float .f64 r]] w fun r w' => r = .returned (.bool false) ∧ Bw w w' := by
  obtain ⟨V, hV⟩ : ∃ W, W = w.alloc (.cells #[.complex .f64 u v, .float .f64 0] 39) := ⟨_, rfl⟩
  obtain ⟨W, hW⟩ : ∃ W, W = V.alloc (.cells #[.complex .f64 x y, .float .f64 r] 39) := ⟨_, rfl⟩
  have hsV : V.heap.size = w.heap.size + 1 := by rw [hV]; simp
  have hb1 : Bw w V := by rw [hV]; exact (Below.refl _ _).alloc (Nat.le_refl _) _
  have hb2 : Bw V W := by rw [hW]; exact (Below.refl _ _).alloc (Nat.le_refl _) _
  have h1 : BaB W w.heap.size u v 0 := BaB.later (by rw [hV]; exact BaB.new _ _ _ _) hb2
  have h2 : BaB W (w.heap.size + 1) x y r := by rw [hW, ← hsV]; exact BaB.new _ _ _ _
  have HB : Hid (BaB W w.heap.size u v 0 ∧ BaB W (w.heap.size + 1) x y r ∧ Bw w W) := ⟨h1, h2, hb1.trans (hb2.mono hb1.size)⟩
  obtain ⟨⟨y0, y1⟩, -⟩ := h1.facts
  obtain ⟨⟨z0, z1⟩, -⟩ := h2.facts
  rw [hV] at hW
  clear hV hsV hb1 hb2 h1 h2
  go_enter Tryz.func89, Tryz.ntmps89
  go_upto_region 1 with fail
  rw [← hW]
  clear hW
  have hal : Below w.heap.size w (W.alloc (.cells #[.complex .f64 u v, .float .f64 0, .complex .f64 x y, .float .f64 r] 39)) := HB.out.2.2.alloc HB.out.2.2.size _
  have kk := BmayBe_2 u v 0 x y r W.heap.size (W.alloc (.cells #[.complex .f64 u v, .float .f64 0, .complex .f64 x y, .float .f64 r] 39)) (heap_alloc_new _ _) kv1 kv2
  have hal2 : Below W.heap.size W (W.alloc (.cells #[.complex .f64 u v, .float .f64 0, .complex .f64 x y, .float .f64 r] 39)) := (Below.refl _ _).alloc (Nat.le_refl _) _
  go_wp2_with fail
  refine kk.mono ?_
  rintro r' w1 ⟨rfl, hb1⟩
  have hb0 := hal2.trans (hb1.mono hal2.size)
  have HC : Hid (BaB w1 w.heap.size u v 0 ∧ BaB w1 (w.heap.size + 1) x y r ∧ Bw w w1) := ⟨HB.out.1.later hb0, HB.out.2.1.later hb0, HB.out.2.2.trans (hb0.mono HB.out.2.2.size)⟩
  clear kk hb0 hb1 hal hal2 HB y0 y1 z0 z1 kv1 kv2
  obtain ⟨⟨z0, z1⟩, -⟩ := HC.out.2.1.facts
  go_wp2_with fail
  refine (kw2.out _).mono ?_
  rintro r' w2 ⟨rfl, hb1⟩
  have HD : Hid (BaB w2 w.heap.size u v 0 ∧ BaB w2 (w.heap.size + 1) x y r ∧ Bw w w2) := ⟨HC.out.1.later hb1, HC.out.2.1.later hb1, HC.out.2.2.trans (hb1.mono HC.out.2.2.size)⟩
  clear hb1 HC z0 z1 kw2
  go_wp2_with fail
  have HK : Hid (∀ w', Bw w2 w' → (w'.cell? ⟨w.heap.size, 0, none⟩ = some (.complex .f64 u v) ∧ w'.cell? ⟨w.heap.size, 1, none⟩ = some (.float .f64 0)) ∧ w'.cell? ⟨w.heap.size + 1, 0, none⟩ = some (.complex .f64 x y) ∧ w'.cell? ⟨w.heap.size + 1, 1, none⟩ = some (.float .f64 r)) := fun w' hb => ⟨(HD.out.1.later hb).facts.1, (HD.out.2.1.later hb).facts.1⟩
  have q1 : ∀ W', Bw w2 W' → Calls Tryz.prog 56 #[.agg #[.complex .f64 u v, .float .f64 0]] W' fun r w' => r = .returned (.bool false) ∧ Bw w2 w' := fun W' h => (kw1.out W').mono fun r w' ⟨h1, h3⟩ => ⟨h1, h.trans (h3.mono h.size)⟩
  have q2 : ∀ W', Bw w2 W' → Calls Tryz.prog 114 #[.float .f64 r, .float .f64 0] W' fun r w' => ∃ s ao n cap e, r = .returned (.agg #[.bool s, .slice ao n cap, .int .i64 e]) ∧ Hid (PN w' (.agg #[.bool s, .slice ao n cap, .int .i64 e]) td) ∧ Bw w2 w' := fun W' h => (k1.out W' (HD.out.2.2.trans (h.mono HD.out.2.2.size))).mono fun r w' ⟨s, ao, n, cp, e, h1, h2, h3⟩ => ⟨s, ao, n, cp, e, h1, h2, h.trans (h3.mono h.size)⟩
  have q3 : ∀ W' X, Bw w2 W' → PN W' X td → Calls Tryz.prog 113 #[.complex .f64 u v, .complex .f64 x y, X] W' fun r w' => r = .returned (.bool false) ∧ Bw w2 w' := fun W' X h hX => (k2.out W' X (HD.out.2.2.trans (h.mono HD.out.2.2.size)) hX).mono fun r w' ⟨h1, h3⟩ => ⟨h1, h.trans (h3.mono h.size)⟩
  have hRr : Bw w2 w2.drew := (Below.refl _ _).drew
  obtain ⟨⟨y0, y1⟩, z0, z1⟩ := HK.out w2 (Below.refl _ _)
  clear k1 k2 kw1
  go_region_held3 (fun w' => (w'.cell? ⟨w.heap.size, 0, none⟩ = some (.complex .f64 u v) ∧ w'.cell? ⟨w.heap.size, 1, none⟩ = some (.float .f64 0)) ∧ w'.cell? ⟨w.heap.size + 1, 0, none⟩ = some (.complex .f64 x y) ∧ w'.cell? ⟨w.heap.size + 1, 1, none⟩ = some (.float .f64 r)) (first | (with_reducible assumption) | exact HK.out _ hRr | (refine HK.out _ ?_; with_reducible assumption))
    (first | (go_at_call 56; with_reducible refine (q1 _ hRr).mono ?_; rintro r' w3 ⟨rfl, hb3⟩)
           | (go_at_call 114; with_reducible refine (q2 _ hb3).mono ?_; rintro r' w4 ⟨s4, ao4, n4, cp4, e4, rfl, E4, hb4⟩)
           | (go_at_call 113; with_reducible refine (q3 _ _ hb4 E4.out).mono ?_; rintro r' w5 ⟨rfl, hb5⟩))
  go_wp2_with fail
  go_ret
  exact ⟨rfl, HD.out.2.2.trans (hb5.mono HD.out.2.2.size)⟩
theorem BHas_1 (x y r u v:Nat) (b:Bool) (w:World)
  (k1:∀ W,Bw w W→Calls Tryz.prog 89 #[.agg #[.complex .f64 u v,.float .f64 0],.agg #[.complex .f64 x y,.float .f64 r]] W fun r w'=>r=.returned (.bool b)∧Bw W w') :
  Calls Tryz.prog 59 #[.agg #[.complex .f64 x y,.float .f64 r],.complex .f64 u v] w fun r w'=>r=.returned (.bool b)∧Bw w w':=by
 obtain⟨W,hW⟩:∃ W,W=w.alloc (.cells #[.complex .f64 x y,.float .f64 r] 39):=⟨_,rfl⟩
 have HX:Hid (BaB W w.heap.size x y r∧Bw w W):=⟨by rw[hW];exact BaB.new _ _ _ _,by rw[hW];exact(Below.refl _ _).alloc (Nat.le_refl _) _⟩
 obtain⟨⟨y0,y1⟩,-⟩:=HX.out.1.facts
 go_enter Tryz.func59,Tryz.ntmps59
 go_upto_region 1 with fail
 rw[←hW]
 clear hW
 go_wp2_with fail
 refine(k1 _ HX.out.2).mono ?_
 rintro r' w1 ⟨rfl,hb1⟩
 have HY:Hid (Bw w w1):=HX.out.2.trans (hb1.mono HX.out.2.size)
 clear hb1
 go_wp2_with fail
 go_ret
 exact⟨rfl,HY.out⟩
theorem BRay_41 (b:Bool) (w:World)
  (k1:∀ W,Bw w W→Calls Tryz.prog 59 #[.agg #[.complex .f64 4616189618054758400 0,.float .f64 4607182418800017408],.complex .f64 0 0] W fun r w'=>r=.returned (.bool b)∧Bw W w') :
  Calls Tryz.prog 37 #[.agg #[.complex .f64 4616189618054758400 0,.float .f64 4607182418800017408]] w fun r w'=>r=.returned (.bool b)∧Bw w w':=by
 obtain⟨W,hW⟩:∃ W,W=w.alloc (.cells #[.complex .f64 4616189618054758400 0,.float .f64 4607182418800017408] 39):=⟨_,rfl⟩
 have HX:Hid (BaB W w.heap.size 4616189618054758400 0 4607182418800017408∧Bw w W):=⟨by rw[hW];exact BaB.new _ _ _ _,by rw[hW];exact(Below.refl _ _).alloc (Nat.le_refl _) _⟩
 obtain⟨⟨y0,y1⟩,-⟩:=HX.out.1.facts
 have hmin:∀ w,(Builtin.min_ #[22,22] 22 #[.float .f64 4616189618054758400,.float .f64 0]).run Tryz.prog w=.ok (.float .f64 0) w:=fun w=>by rfl
 go_enter Tryz.func37,Tryz.ntmps37
 go_upto_region 1 with fail
 rw[←hW]
 clear hW
 go_wp2_with fail
 refine(k1 _ HX.out.2).mono ?_
 rintro r' w1 ⟨rfl,hb1⟩
 have HY:Hid (Bw w w1):=HX.out.2.trans (hb1.mono HX.out.2.size)
 clear hb1
 go_wp2_with fail
 go_ret
 exact⟨rfl,HY.out⟩
attribute [local go_sem] run_store_fltO run_store_cpxO
theorem OsideOf_m1 (w:World):Calls Tryz.prog 36 #[.complex .f64 13830554455654793216 0] w fun r w'=>r=.returned (.int .i64 1)∧w'=w:=by
 have k:∀ W,Calls Tryz.prog 49 #[.float .f64 0] W fun e w'=>e=.returned (.tuple #[.int .i64 3,.bool false])∧w'=W:=fun W=>Ie.c9 0 (by decide) W
 have o1:(FloatKind.f64.format.order 13830554455654793216 0==some Ordering.gt||FloatKind.f64.format.order 13830554455654793216 0==some Ordering.eq)=false:=by decide +kernel
 have o2:(FloatKind.f64.format.order 0 0 != some Ordering.eq)=false:=by decide +kernel
 have o3:(FloatKind.f64.format.order 0 0==some Ordering.eq)=true:=by decide +kernel
 go_enter Tryz.func36,Tryz.ntmps36
 go_wp2_with fail
 refine(k _).mono ?_
 rintro r w' ⟨rfl,hw⟩
 replace hw:=hw.symm
 subst hw
 go_wp2_with fail
 go_ret
 exact⟨rfl,rfl⟩
theorem OofPoint_1 (x y F3 G3 F1 G1 A B M N R f : Nat) (t t' : Bool × Nat × Int) (w : World)
    (k0 : Hid (∀ W, Bw w W → Calls Tryz.prog 19 #[.complex .f64 x y] W fun r w' => ∃ u, r = .returned u ∧ isPr t t' f w' u ∧ Bw W w'))
    (k3 : Hid (∀ W u, Bw w W → isPr t t' f W u → Calls Tryz.prog 20 #[u, .int .i64 3] W fun r w' => r = .returned (.complex .f64 F3 G3) ∧ Bw W w'))
    (k1 : Hid (∀ W u, Bw w W → isPr t t' f W u → Calls Tryz.prog 20 #[u, .int .i64 1] W fun r w' => r = .returned (.complex .f64 F1 G1) ∧ Bw W w'))
    (kS : Hid (∀ W, Bw w W → Calls Tryz.prog 57 #[.complex .f64 F3 G3, .complex .f64 F1 G1, .int .i64 3] W fun r w' => r = .returned (.complex .f64 A B) ∧ Bw W w'))
    (k2 : Hid (∀ W u, Bw w W → isPr t t' f W u → Calls Tryz.prog 20 #[u, .int .i64 2] W fun r w' => r = .returned (.complex .f64 M N) ∧ Bw W w'))
    (kA : Hid (∀ W, Bw w W → Calls Tryz.prog 58 #[.float .f64 A, .float .f64 B, .int .i64 3] W fun r w' => r = .returned (.float .f64 R) ∧ Bw W w'))
    (kO : Hid (∀ W, Bw w W → Calls Tryz.prog 18 #[.complex .f64 M N, .float .f64 R] W fun r w' => r = .returned (.tuple #[.agg #[.complex .f64 M N, .float .f64 R], .int .i64 0]) ∧ Bw W w')) :
    Calls Tryz.prog 35 #[.complex .f64 x y] w fun r w' => r = .returned (.agg #[.complex .f64 M N, .float .f64 R]) ∧ Bw w w' := by
  obtain ⟨W, hW⟩ : ∃ W, W = w.alloc (.cells #[.complex .f64 0 0, .float .f64 0] 39) := ⟨_, rfl⟩
  have HX : Hid (BaB W w.heap.size 0 0 0 ∧ Bw w W) := ⟨by rw [hW]; exact BaB.new _ _ _ _, by rw [hW]; exact (Below.refl _ _).alloc (Nat.le_refl _) _⟩
  go_enter Tryz.func35, Tryz.ntmps35
  go_upto_region 1 with fail
  rw [← hW]
  clear hW
  go_wp2_with fail
  refine (k0.out W HX.out.2).mono ?_
  rintro r v1 ⟨u, rfl, ⟨s1, a1, n1, c1, e1, s2, a2, n2, c2, e2, rfl, p1, p2⟩, hb1⟩
  obtain ⟨V, hV⟩ : ∃ V, V = v1.alloc (.cells #[.bool s1, .slice a1 n1 c1, .int .i64 e1, .bool s2, .slice a2 n2 c2, .int .i64 e2, .float .f64 f] 49) := ⟨_, rfl⟩
  obtain ⟨g, hg⟩ : ∃ g, g = v1.heap.size := ⟨_, rfl⟩
  have hb2 : Bw v1 V := by rw [hV]; exact (Below.refl _ _).alloc (Nat.le_refl _) _
  have hb3 : Bw W V := hb1.trans (hb2.mono hb1.size)
  have HB : Hid (V.heap[g]? = some (.cells #[.bool s1, .slice a1 n1 c1, .int .i64 e1, .bool s2, .slice a2 n2 c2, .int .i64 e2, .float .f64 f] 49 (0, 0)) ∧ isPr t t' f V (.agg #[.bool s1, .slice a1 n1 c1, .int .i64 e1, .bool s2, .slice a2 n2 c2, .int .i64 e2, .float .f64 f]) ∧ BaB V w.heap.size 0 0 0 ∧ Bw w V) :=
    ⟨by rw [hV, hg]; exact heap_alloc_new _ _, ⟨_, _, _, _, _, _, _, _, _, _, rfl, p1.later hb2, p2.later hb2⟩, HX.out.1.later hb3, HX.out.2.trans (hb3.mono HX.out.2.size)⟩
  clear k0 p1 p2 hb1 hb2 hb3 HX
  go_upto_region 2 with fail
  rw [← hV, ← hg]
  clear hV hg
  have HK : Hid (∀ w', Bw V w' → w'.cell? ⟨g, 0, none⟩ = some (.bool s1) ∧ w'.cell? ⟨g, 1, none⟩ = some (.slice a1 n1 c1) ∧ w'.cell? ⟨g, 2, none⟩ = some (.int .i64 e1) ∧ w'.cell? ⟨g, 3, none⟩ = some (.bool s2) ∧ w'.cell? ⟨g, 4, none⟩ = some (.slice a2 n2 c2) ∧ w'.cell? ⟨g, 5, none⟩ = some (.int .i64 e2) ∧ w'.cell? ⟨g, 6, none⟩ = some (.float .f64 f)) := fun w' hb => obox7 ((hb.block _ (Array.getElem?_eq_some_iff.1 HB.out.1).1).trans HB.out.1)
  have q1 : ∀ W', Bw V W' → Calls Tryz.prog 20 #[.agg #[.bool s1, .slice a1 n1 c1, .int .i64 e1, .bool s2, .slice a2 n2 c2, .int .i64 e2, .float .f64 f], .int .i64 3] W' fun r w' => r = .returned (.complex .f64 F3 G3) ∧ Bw V w' := fun W' h => (k3.out W' _ (HB.out.2.2.2.trans (h.mono HB.out.2.2.2.size)) (isPr_stays _ _ _ _ _ _ h HB.out.2.1)).mono fun r w' ⟨h1, h3⟩ => ⟨h1, h.trans (h3.mono h.size)⟩
  have q2 : ∀ W', Bw V W' → Calls Tryz.prog 20 #[.agg #[.bool s1, .slice a1 n1 c1, .int .i64 e1, .bool s2, .slice a2 n2 c2, .int .i64 e2, .float .f64 f], .int .i64 1] W' fun r w' => r = .returned (.complex .f64 F1 G1) ∧ Bw V w' := fun W' h => (k1.out W' _ (HB.out.2.2.2.trans (h.mono HB.out.2.2.2.size)) (isPr_stays _ _ _ _ _ _ h HB.out.2.1)).mono fun r w' ⟨h1, h3⟩ => ⟨h1, h.trans (h3.mono h.size)⟩
  have q3 : ∀ W', Bw V W' → Calls Tryz.prog 57 #[.complex .f64 F3 G3, .complex .f64 F1 G1, .int .i64 3] W' fun r w' => r = .returned (.complex .f64 A B) ∧ Bw V w' := fun W' h => (kS.out W' (HB.out.2.2.2.trans (h.mono HB.out.2.2.2.size))).mono fun r w' ⟨h1, h3⟩ => ⟨h1, h.trans (h3.mono h.size)⟩
  have hRr : Bw V V.drew := (Below.refl _ _).drew
  obtain ⟨y0, y1, y2, y3, y4, y5, y6⟩ := HK.out V (Below.refl _ _)
  clear k3 k1 kS
  go_region_held3 (fun w' => w'.cell? ⟨g, 0, none⟩ = some (.bool s1) ∧ w'.cell? ⟨g, 1, none⟩ = some (.slice a1 n1 c1) ∧ w'.cell? ⟨g, 2, none⟩ = some (.int .i64 e1) ∧ w'.cell? ⟨g, 3, none⟩ = some (.bool s2) ∧ w'.cell? ⟨g, 4, none⟩ = some (.slice a2 n2 c2) ∧ w'.cell? ⟨g, 5, none⟩ = some (.int .i64 e2) ∧ w'.cell? ⟨g, 6, none⟩ = some (.float .f64 f)) (first | (with_reducible assumption) | exact HK.out _ hRr | (refine HK.out _ ?_; with_reducible assumption))
    (first | (go_at_call 20; with_reducible refine (q1 _ hRr).mono ?_; rintro r' w3 ⟨rfl, hb3⟩)
           | (go_at_call 20; with_reducible refine (q2 _ hb3).mono ?_; rintro r' w4 ⟨rfl, hb4⟩)
           | (go_at_call 57; with_reducible refine (q3 _ hb4).mono ?_; rintro r' w5 ⟨rfl, hb5⟩))
  have HC : Hid (w5.heap[g]? = some (.cells #[.bool s1, .slice a1 n1 c1, .int .i64 e1, .bool s2, .slice a2 n2 c2, .int .i64 e2, .float .f64 f] 49 (0, 0)) ∧ isPr t t' f w5 (.agg #[.bool s1, .slice a1 n1 c1, .int .i64 e1, .bool s2, .slice a2 n2 c2, .int .i64 e2, .float .f64 f]) ∧ BaB w5 w.heap.size 0 0 0 ∧ Bw w w5) := ⟨(hb5.block _ (Array.getElem?_eq_some_iff.1 HB.out.1).1).trans HB.out.1, isPr_stays _ _ _ _ _ _ hb5 HB.out.2.1, HB.out.2.2.1.later hb5, HB.out.2.2.2.trans (hb5.mono HB.out.2.2.2.size)⟩
  clear HB HK q1 q2 q3 hRr y0 y1 y2 y3 y4 y5 y6 hb3 hb4 hb5
  obtain ⟨y0, y1, y2, y3, y4, y5, y6⟩ := obox7 HC.out.1
  have kk := k2.out w5 _ HC.out.2.2.2 HC.out.2.1
  go_wp2_with fail
  refine kk.mono ?_
  rintro r' w6 ⟨rfl, hb6⟩
  have HD : Hid (BaB w6 w.heap.size 0 0 0 ∧ Bw w w6) := ⟨HC.out.2.2.1.later hb6, HC.out.2.2.2.trans (hb6.mono HC.out.2.2.2.size)⟩
  clear kk hb6 HC k2 y0 y1 y2 y3 y4 y5 y6
  have kk := kA.out w6 HD.out.2
  go_wp2_with fail
  refine kk.mono ?_
  rintro r' w7 ⟨rfl, hb6⟩
  have HE : Hid (BaB w7 w.heap.size 0 0 0 ∧ Bw w w7) := ⟨HD.out.1.later hb6, HD.out.2.trans (hb6.mono HD.out.2.size)⟩
  clear kk hb6 HD kA
  have kk := kO.out w7 HE.out.2
  go_wp2_with fail
  refine kk.mono ?_
  rintro r' w8 ⟨rfl, hb6⟩
  obtain ⟨V2, hV2⟩ : ∃ V, V = w8.alloc (.cells #[.complex .f64 M N, .float .f64 R] 39) := ⟨_, rfl⟩
  obtain ⟨g2, hg2⟩ : ∃ g, g = w8.heap.size := ⟨_, rfl⟩
  have hb7 : Bw w7 V2 := by rw [hV2]; exact hb6.alloc hb6.size _
  have HG : Hid (BaB V2 g2 M N R ∧ BaB V2 w.heap.size 0 0 0 ∧ Bw w V2) := ⟨by rw [hV2, hg2]; exact BaB.new _ _ _ _, HE.out.1.later hb7, HE.out.2.trans (hb7.mono HE.out.2.size)⟩
  clear kk hb6 hb7 HE kO
  go_upto_region 4 with fail
  rw [← hV2, ← hg2]
  clear hV2 hg2
  obtain ⟨⟨z0, z1⟩, -⟩ := HG.out.1.facts
  obtain ⟨⟨y0, y1⟩, y2, y3⟩ := HG.out.2.1.facts
  go_wp2_with fail
  refine bodyPost_ret (results_cell_row rfl _ _ w.heap.size 39 #[.complex .f64 M N, .float .f64 R] (0, 0) _ rfl (HG.out.2.1.set _ _ _) Tryz.underlying39 rfl (by kernel_rfl)) rfl ?_
  exact ⟨rfl, below2c HG.out.2.2 (Nat.le_refl _) _ _⟩
attribute [local go_sem] run_store_fltO run_store_cpxO
theorem results_cell_tmp2_rowO {P:Program} {fn:Func} {p u v:Tmp} {ty:TypeId} (h:fn.results = #[.cell p ty,.tmp u,.tmp v]) (tmps:Array Value) (w:World) (g:Nat) (t:TypeId) (cs:Array Value) (fr:Nat×Nat) (d:TypeDesc)
  (hp:tmps.getD p undef=.pointer (some ⟨g,0,none⟩)) (hg:w.heap[g]?=some (.cells cs t fr))
  (hu:P.underlying ty=some d) (hd:(match d with | .struct _ | .array _ _=>true|_=>false)=true) (hi:(P.info? ty).map (·.size)=some cs.size) :
  (results fn tmps).run P w=.ok (.tuple #[.agg cs,tmps.getD u undef,tmps.getD v undef]) w:=by
 have hp':tmps[p]?.getD undef=.pointer (some ⟨g,0,none⟩):=by simpa using hp
 simp[results,h,hp',asAddr,run_loadVar_row w g t ty cs fr d hg hu hd hi]
theorem Oreach_1 (x y r L H A1 S1 S2 P R : Nat) (w : World)
    (k1 : Hid (∀ W, Bw w W → Calls Tryz.prog 60 #[.agg #[.complex .f64 x y, .float .f64 r]] W fun r w' => r = .returned (.tuple #[.agg #[.float .f64 L, .float .f64 H], .int .i64 0]) ∧ Bw W w'))
    (k2 : Hid (∀ W, Bw w W → Calls Tryz.prog 94 #[.complex .f64 x y, .int .i64 1] W fun r w' => r = .returned (.float .f64 A1) ∧ Bw W w'))
    (k3 : Hid (∀ W, Bw w W → Calls Tryz.prog 61 #[.float .f64 A1, .int .i64 1] W fun r w' => r = .returned (.float .f64 S1) ∧ Bw W w'))
    (k4 : Hid (∀ W, Bw w W → Calls Tryz.prog 61 #[.float .f64 L, .int .i64 1] W fun r w' => r = .returned (.float .f64 S2) ∧ Bw W w'))
    (k5 : Hid (∀ W, Bw w W → Calls Tryz.prog 58 #[.float .f64 S1, .float .f64 S2, .int .i64 1] W fun r w' => r = .returned (.float .f64 P) ∧ Bw W w'))
    (k6 : Hid (∀ W, Bw w W → Calls Tryz.prog 95 #[.float .f64 r, .float .f64 P, .int .i64 3] W fun r w' => r = .returned (.float .f64 R) ∧ Bw W w')) :
    Calls Tryz.prog 63 #[.agg #[.complex .f64 x y, .float .f64 r]] w fun r w' => r = .returned (.float .f64 R) ∧ Bw w w' := by
  obtain ⟨W, hW⟩ : ∃ W, W = w.alloc (.cells #[.complex .f64 x y, .float .f64 r] 39) := ⟨_, rfl⟩
  have HX : Hid (BaB W w.heap.size x y r ∧ Bw w W) := ⟨by rw [hW]; exact BaB.new _ _ _ _, by rw [hW]; exact (Below.refl _ _).alloc (Nat.le_refl _) _⟩
  obtain ⟨⟨y0, y1⟩, -⟩ := HX.out.1.facts
  go_enter Tryz.func63, Tryz.ntmps63
  go_upto_region 1 with fail
  rw [← hW]
  clear hW
  go_wp2_with fail
  refine (k1.out W HX.out.2).mono ?_
  rintro r' v1 ⟨rfl, hb1⟩
  obtain ⟨V, hV⟩ : ∃ V, V = v1.alloc (.cells #[.float .f64 L, .float .f64 H] 89) := ⟨_, rfl⟩
  obtain ⟨g, hg⟩ : ∃ g, g = v1.heap.size := ⟨_, rfl⟩
  have hb3 : Bw W V := by rw [hV]; exact hb1.alloc hb1.size _
  have HB : Hid (BaB V w.heap.size x y r ∧ BvI V g L H ∧ Bw w V) := ⟨HX.out.1.later hb3, by rw [hV, hg]; exact BvI.new _ _ _, HX.out.2.trans (hb3.mono HX.out.2.size)⟩
  clear k1 hb1 hb3 HX y0 y1
  go_upto_region 2 with fail
  rw [← hV, ← hg]
  clear hV hg
  obtain ⟨⟨y0, y1⟩, -⟩ := HB.out.1.facts
  go_wp2_with fail
  refine (k2.out V HB.out.2.2).mono ?_
  rintro r' v2 ⟨rfl, hb1⟩
  have HC : Hid (BaB v2 w.heap.size x y r ∧ BvI v2 g L H ∧ Bw w v2) := ⟨HB.out.1.later hb1, HB.out.2.1.later hb1, HB.out.2.2.trans (hb1.mono HB.out.2.2.size)⟩
  clear k2 hb1 HB y0 y1
  go_wp2_with fail
  refine (k3.out v2 HC.out.2.2).mono ?_
  rintro r' v3 ⟨rfl, hb1⟩
  have HD : Hid (BaB v3 w.heap.size x y r ∧ BvI v3 g L H ∧ Bw w v3) := ⟨HC.out.1.later hb1, HC.out.2.1.later hb1, HC.out.2.2.trans (hb1.mono HC.out.2.2.size)⟩
  clear k3 hb1 HC
  obtain ⟨⟨z0, z1⟩, -⟩ := HD.out.2.1.facts
  go_wp2_with fail
  refine (k4.out v3 HD.out.2.2).mono ?_
  rintro r' v4 ⟨rfl, hb1⟩
  have HE : Hid (BaB v4 w.heap.size x y r ∧ Bw w v4) := ⟨HD.out.1.later hb1, HD.out.2.2.trans (hb1.mono HD.out.2.2.size)⟩
  clear k4 hb1 HD z0 z1
  go_wp2_with fail
  have HK : Hid (∀ w', Bw v4 w' → w'.cell? ⟨w.heap.size, 0, none⟩ = some (.complex .f64 x y) ∧ w'.cell? ⟨w.heap.size, 1, none⟩ = some (.float .f64 r)) := fun w' hb => (HE.out.1.later hb).facts.1
  have q1 : ∀ W', Bw v4 W' → Calls Tryz.prog 58 #[.float .f64 S1, .float .f64 S2, .int .i64 1] W' fun r w' => r = .returned (.float .f64 P) ∧ Bw v4 w' := fun W' h => (k5.out W' (HE.out.2.trans (h.mono HE.out.2.size))).mono fun r w' ⟨h1, h3⟩ => ⟨h1, h.trans (h3.mono h.size)⟩
  have q2 : ∀ W', Bw v4 W' → Calls Tryz.prog 95 #[.float .f64 r, .float .f64 P, .int .i64 3] W' fun r w' => r = .returned (.float .f64 R) ∧ Bw v4 w' := fun W' h => (k6.out W' (HE.out.2.trans (h.mono HE.out.2.size))).mono fun r w' ⟨h1, h3⟩ => ⟨h1, h.trans (h3.mono h.size)⟩
  have hRr : Bw v4 v4.drew := (Below.refl _ _).drew
  obtain ⟨y0, y1⟩ := HK.out v4 (Below.refl _ _)
  clear k5 k6
  go_region_held3 (fun w' => w'.cell? ⟨w.heap.size, 0, none⟩ = some (.complex .f64 x y) ∧ w'.cell? ⟨w.heap.size, 1, none⟩ = some (.float .f64 r)) (first | (with_reducible assumption) | exact HK.out _ hRr | (refine HK.out _ ?_; with_reducible assumption))
    (first | (go_at_call 58; with_reducible refine (q1 _ hRr).mono ?_; rintro r' w3 ⟨rfl, hb3⟩)
           | (go_at_call 95; with_reducible refine (q2 _ hb3).mono ?_; rintro r' w4 ⟨rfl, hb4⟩))
  go_wp2_with fail
  go_ret
  exact ⟨rfl, HE.out.2.trans (hb4.mono HE.out.2.size)⟩
theorem OoneSide_1 (x y r M N Q R R2:Nat) (w:World)
  (k1:Hid (∀ W,Bw w W→Calls Tryz.prog 35 #[.complex .f64 x y] W fun r w'=>r=.returned (.agg #[.complex .f64 M N,.float .f64 Q])∧Bw W w'))
  (k2:Hid (∀ W,Bw w W→Calls Tryz.prog 63 #[.agg #[.complex .f64 x y,.float .f64 r]] W fun r w'=>r=.returned (.float .f64 R)∧Bw W w'))
  (k3:Hid (∀ W,Bw w W→Calls Tryz.prog 62 #[.agg #[.complex .f64 M N,.float .f64 Q],.float .f64 R] W fun r w'=>r=.returned (.tuple #[.agg #[.complex .f64 M N,.float .f64 R2],.int .i64 0])∧Bw W w')) :
  Calls Tryz.prog 39 #[.agg #[.complex .f64 x y,.float .f64 r]] w fun r w'=>r=.returned (.agg #[.complex .f64 M N,.float .f64 R2])∧Bw w w':=by
 obtain⟨V,hV⟩:∃ W,W=w.alloc (.cells #[.complex .f64 x y,.float .f64 r] 39):=⟨_,rfl⟩
 obtain⟨W,hW⟩:∃ W,W=V.alloc (.cells #[.complex .f64 0 0,.float .f64 0] 39):=⟨_,rfl⟩
 have hsV:V.heap.size=w.heap.size+1:=by rw[hV];simp
 have hb1:Bw w V:=by rw[hV];exact(Below.refl _ _).alloc (Nat.le_refl _) _
 have hb2:Bw V W:=by rw[hW];exact(Below.refl _ _).alloc (Nat.le_refl _) _
 have h1:BaB W w.heap.size x y r:=BaB.later (by rw[hV];exact BaB.new _ _ _ _) hb2
 have h2:BaB W (w.heap.size+1) 0 0 0:=by rw[hW,←hsV];exact BaB.new _ _ _ _
 have HX:Hid (BaB W w.heap.size x y r∧BaB W (w.heap.size+1) 0 0 0∧Bw w W):=⟨h1,h2,hb1.trans (hb2.mono hb1.size)⟩
 obtain⟨⟨z0,z1⟩,-⟩:=h1.facts
 rw[hV] at hW
 clear hV hsV hb1 hb2 h1 h2
 clear z0 z1
 go_enter Tryz.func39,Tryz.ntmps39
 go_upto_region 1 with fail
 rw[←hW]
 clear hW
 refine x_region follows_mixed [0,1,2,3,4,5,6,7,8,11] [9] [10] [6,7,8,9,10,11,5,12,13,4] [3] [[],[0],[1],[],[3],[2,4],[5],[6],[6],[8]] [7] 39 #[.complex .f64 0 0,.float .f64 0] W _ [isV (.pointer (some ⟨w.heap.size,0,none⟩)),isV (.complex .f64 x y),isV (.agg #[.complex .f64 M N,.float .f64 Q]),isV (.agg #[.complex .f64 x y,.float .f64 r]),isV (.float .f64 R),isV (.tuple #[.agg #[.complex .f64 M N,.float .f64 R2],.int .i64 0]),isV (.tuple #[.agg #[.complex .f64 M N,.float .f64 R2],.int .i64 0]),isV (.agg #[.complex .f64 M N,.float .f64 R2]),isV (.int .i64 0),isV (.int .i64 0)] (by kernel_rfl) ⟨isV_stays _,isV_stays _,isV_stays _,isV_stays _,isV_stays _,isV_stays _,isV_stays _,isV_stays _,isV_stays _,isV_stays _,trivial⟩ ⟨fun _ _ _ _ _ h=>h,fun _ _ _ _ _ h=>h,fun _ _ _ _ _ h=>h,fun _ _ _ _ _ h=>h,fun _ _ _ _ _ h=>h,fun _ _ _ _ _ h=>h,fun _ _ _ _ _ h=>h,fun _ _ _ _ _ h=>h,fun _ _ _ _ _ h=>h,fun _ _ _ _ _ h=>h,trivial⟩ (by show ∀ s ∈ [6,7,8,9,10,11,5,12,13,4] ++ [3],s<15;decide) ?_ ?_ ?_ (fun _=>by kernel_rfl) (by kernel_rfl) ?_ ?_
 ·intro k' hk U u h
  obtain rfl:k'=0:=Nat.lt_one_iff.1 hk
  have h9:u=.agg #[.complex .f64 M N,.float .f64 R2]:=h
  subst h9
  exact⟨_,rfl,rfl,by simp[Value.oneCell']⟩
 ·intro j hj o ho act U hb hoth hdep
  have hj':j<10:=hj
  have hbU:Bw w U:=HX.out.2.2.trans (hb.mono HX.out.2.2.size)
  have t1':act.tmps[(1:Nat)]?=some (Value.pointer (some ⟨w.heap.size,0,none⟩)):=(hoth 1 (by decide)).trans rfl
  have d1:=(HX.out.1.later hb).facts.1
  rcases(by omega:j=0∨j=1∨j=2∨j=3∨j=4∨j=5∨j=6∨j=7∨j=8∨j=9)with rfl|rfl|rfl|rfl|rfl|rfl|rfl|rfl|rfl|rfl
  ·obtain rfl:=Option.some.inj ho
   exact .inl ⟨rfl,owp_run1 (w':=U) (by simp[execOp,t1',eval_cstO,go_sem]) ⟨_,rfl,rfl,Below.refl _ _⟩⟩
  ·obtain rfl:=Option.some.inj ho
   have y0:act.tmps[(6:Nat)]?=_:=dV (hdep 0 (by simp[dL])) rfl
   exact .inl ⟨rfl,owp_run1 (w':=U) (by simp[execOp,Act.eval,y0,d1.1,go_sem]) ⟨_,rfl,rfl,Below.refl _ _⟩⟩
  ·obtain rfl:=Option.some.inj ho
   have y1:act.tmps[(7:Nat)]?=_:=dV (hdep 1 (by simp[dL])) rfl
   refine .inl ⟨rfl,owp_call rfl (enters Tryz.func35 (by kernel_rfl) (by kernel_rfl)) (vs:=#[.complex .f64 x y]) (by simp[eval_get y1]) ?_⟩
   refine(k1.out U hbU).mono ?_
   rintro r' w' ⟨rfl,hb'⟩
   exact⟨_,rfl,_,rfl,rfl,hb'⟩
  ·obtain rfl:=Option.some.inj ho
   exact .inl ⟨rfl,owp_ldBa rfl t1' d1.1 d1.2 ⟨_,rfl,rfl,Below.refl _ _⟩⟩
  ·obtain rfl:=Option.some.inj ho
   have y3:act.tmps[(9:Nat)]?=_:=dV (hdep 3 (by simp[dL])) rfl
   refine .inl ⟨rfl,owp_call rfl (enters Tryz.func63 (by kernel_rfl) (by kernel_rfl)) (vs:=#[.agg #[.complex .f64 x y,.float .f64 r]]) (by simp[eval_get y3]) ?_⟩
   refine(k2.out U hbU).mono ?_
   rintro r' w' ⟨rfl,hb'⟩
   exact⟨_,rfl,_,rfl,rfl,hb'⟩
  ·obtain rfl:=Option.some.inj ho
   have y2:act.tmps[(8:Nat)]?=_:=dV (hdep 2 (by simp[dL])) rfl
   have y4:act.tmps[(10:Nat)]?=_:=dV (hdep 4 (by simp[dL])) rfl
   refine .inl ⟨rfl,owp_call rfl (enters Tryz.func62 (by kernel_rfl) (by kernel_rfl)) (vs:=#[.agg #[.complex .f64 M N,.float .f64 Q],.float .f64 R]) (by simp[eval_get y2,eval_get y4]) ?_⟩
   refine(k3.out U hbU).mono ?_
   rintro r' w' ⟨rfl,hb'⟩
   exact⟨_,rfl,_,rfl,rfl,hb'⟩
  ·obtain rfl:=Option.some.inj ho
   have y5:act.tmps[(11:Nat)]?=_:=dV (hdep 5 (by simp[dL])) rfl
   exact .inl ⟨rfl,owp_move rfl y5 ⟨_,rfl,rfl,Below.refl _ _⟩⟩
  ·obtain rfl:=Option.some.inj ho
   have y6:act.tmps[(5:Nat)]?=_:=dV (hdep 6 (by simp[dL])) rfl
   exact .inl ⟨rfl,owp_extS rfl y6 rfl ⟨_,rfl,rfl,Below.refl _ _⟩⟩
  ·obtain rfl:=Option.some.inj ho
   have y6:act.tmps[(5:Nat)]?=_:=dV (hdep 6 (by simp[dL])) rfl
   exact .inl ⟨rfl,owp_extS rfl y6 rfl ⟨_,rfl,rfl,Below.refl _ _⟩⟩
  ·obtain rfl:=Option.some.inj ho
   have y8:act.tmps[(13:Nat)]?=_:=dV (hdep 8 (by simp[dL])) rfl
   exact .inl ⟨rfl,owp_assign rfl y8 ⟨_,rfl,rfl,Below.refl _ _⟩⟩
 ·intro k' hk
  obtain rfl:k'=0:=Nat.lt_one_iff.1 hk
  exact⟨_,rfl,rfl⟩
 ·intro k' hk
  obtain rfl:k'=0:=Nat.lt_one_iff.1 hk
  exact⟨_,rfl,rfl⟩
 ·intro u g U hb9 hu hg hap
  obtain⟨g0l,cs0,q0,z0⟩:=hg 0 (by decide)
  have q8:u 7=.agg #[.complex .f64 M N,.float .f64 R2]:=hu 7 (by show 7<10;decide)
  have q0':u 7=.agg cs0:=q0
  rw[q8] at q0'
  obtain rfl:=Value.agg.inj q0'
  obtain⟨g9,hg9⟩:∃ x,x=g 0:=⟨_,rfl⟩
  rw[←hg9] at z0 g0l
  have HY:Hid (BaB U g9 M N R2∧BaB U (w.heap.size+1) 0 0 0∧Bw w U):=⟨z0,HX.out.2.1.later hb9,HX.out.2.2.trans (hb9.mono HX.out.2.2.size)⟩
  clear hu hg hap q0 q0' q8 z0 g0l hb9 HX
  simp only[putL,show List.range 10 = [0,1,2,3,4,5,6,7,8,9] from rfl,show List.range 1 = [0] from rfl,List.length_cons,List.length_nil,List.getD_cons_zero,List.getD_cons_succ,List.map_cons,List.map_nil,List.cons_append,List.nil_append,List.foldl_cons,List.foldl_nil,Nat.reduceLT,Nat.reduceMod,Nat.reduceDiv,Nat.reduceMul,Nat.reduceAdd,Nat.reduceEqDiff,reduceIte,Nat.one_ne_zero,Act.put,List.setIfInBounds_toArray,List.set_cons_zero,List.set_cons_succ]
  rw[←hg9]
  clear hg9
  obtain⟨⟨z0,z1⟩,-⟩:=HY.out.1.facts
  obtain⟨⟨y0,y1⟩,y2,y3⟩:=HY.out.2.1.facts
  go_wp2_with fail
  refine bodyPost_ret (results_cell_row rfl _ _ (w.heap.size+1) 39 #[.complex .f64 M N,.float .f64 R2] (0,0) _ rfl (HY.out.2.1.set _ _ _) Tryz.underlying39 rfl (by kernel_rfl)) rfl ?_
  exact⟨rfl,below2c HY.out.2.2 (by omega) _ _⟩
theorem OSqrt_side (x y r M N R:Nat) (w:World) (hr:(FloatKind.f64.format.order r 0==some Ordering.eq)=false)
  (kv:Hid (∀ W,Calls Tryz.prog 34 #[.agg #[.complex .f64 x y,.float .f64 r]] W fun r w'=>r=.returned (.bool true)∧Bw W w'))
  (k1:Hid (∀ W,Bw w W→Calls Tryz.prog 37 #[.agg #[.complex .f64 x y,.float .f64 r]] W fun r w'=>r=.returned (.bool false)∧Bw W w'))
  (k2:Hid (∀ W,Bw w W→Calls Tryz.prog 39 #[.agg #[.complex .f64 x y,.float .f64 r]] W fun r w'=>r=.returned (.agg #[.complex .f64 M N,.float .f64 R])∧Bw W w')) :
  Calls Tryz.prog 14 #[.agg #[.complex .f64 x y,.float .f64 r]] w fun r w'=>r=.returned (.tuple #[.agg #[.complex .f64 M N,.float .f64 R],.int .i64 0,.int .i64 0])∧Bw w w':=by
 obtain⟨V,hV⟩:∃ W,W=w.alloc (.cells #[.complex .f64 x y,.float .f64 r] 39):=⟨_,rfl⟩
 obtain⟨W,hW⟩:∃ W,W=V.alloc (.cells #[.complex .f64 0 0,.float .f64 0] 39):=⟨_,rfl⟩
 have hsV:V.heap.size=w.heap.size+1:=by rw[hV];simp
 have hb1:Bw w V:=by rw[hV];exact(Below.refl _ _).alloc (Nat.le_refl _) _
 have hb2:Bw V W:=by rw[hW];exact(Below.refl _ _).alloc (Nat.le_refl _) _
 have h1:BaB W w.heap.size x y r:=BaB.later (by rw[hV];exact BaB.new _ _ _ _) hb2
 have h2:BaB W (w.heap.size+1) 0 0 0:=by rw[hW,←hsV];exact BaB.new _ _ _ _
 have HX:Hid (BaB W w.heap.size x y r∧BaB W (w.heap.size+1) 0 0 0∧Bw w W):=⟨h1,h2,hb1.trans (hb2.mono hb1.size)⟩
 obtain⟨⟨z0,z1⟩,-⟩:=h1.facts
 rw[hV] at hW
 clear hV hsV hb1 hb2 h1 h2
 go_enter Tryz.func14,Tryz.ntmps14
 go_upto_region 1 with fail
 rw[←hW]
 clear hW
 go_wp2_with fail
 refine(kv.out _).mono ?_
 rintro r' w1 ⟨rfl,hb1⟩
 have HD:Hid (BaB w1 w.heap.size x y r∧BaB w1 (w.heap.size+1) 0 0 0∧Bw w w1):=⟨HX.out.1.later hb1,HX.out.2.1.later hb1,HX.out.2.2.trans (hb1.mono HX.out.2.2.size)⟩
 clear hb1 HX z0 z1 kv
 obtain⟨⟨z0,z1⟩,-⟩:=HD.out.1.facts
 go_wp2_with fail
 refine(k1.out w1 HD.out.2.2).mono ?_
 rintro r' w2 ⟨rfl,hb1⟩
 have HE:Hid (BaB w2 w.heap.size x y r∧BaB w2 (w.heap.size+1) 0 0 0∧Bw w w2):=⟨HD.out.1.later hb1,HD.out.2.1.later hb1,HD.out.2.2.trans (hb1.mono HD.out.2.2.size)⟩
 clear hb1 HD z0 z1 k1
 obtain⟨⟨z0,z1⟩,-⟩:=HE.out.1.facts
 go_wp2_with fail
 refine(k2.out w2 HE.out.2.2).mono ?_
 rintro r' w3 ⟨rfl,hb1⟩
 have HF:Hid (BaB w3 (w.heap.size+1) 0 0 0∧Bw w w3):=⟨HE.out.2.1.later hb1,HE.out.2.2.trans (hb1.mono HE.out.2.2.size)⟩
 clear hb1 HE z0 z1 k2
 obtain⟨⟨y0,y1⟩,y2,y3⟩:=HF.out.1.facts
 go_wp2_with fail
 refine bodyPost_ret (results_cell_tmp2_rowO rfl _ _ (w.heap.size+1) 39 #[.complex .f64 M N,.float .f64 R] (0,0) _ rfl (HF.out.1.set _ _ _) Tryz.underlying39 rfl (by kernel_rfl)) rfl ?_
 exact⟨rfl,below2c HF.out.2 (by omega) _ _⟩
theorem OSqrt_no (x y r:Nat) (w:World)
  (kv:Hid (∀ W,Calls Tryz.prog 34 #[.agg #[.complex .f64 x y,.float .f64 r]] W fun r w'=>r=.returned (.bool false)∧Bw W w')) :
  Calls Tryz.prog 14 #[.agg #[.complex .f64 x y,.float .f64 r]] w fun r w'=>r=.returned (.tuple #[.agg #[.complex .f64 0 0,.float .f64 0],.int .i64 0,.int .i64 140])∧Bw w w':=by
 obtain⟨V,hV⟩:∃ W,W=w.alloc (.cells #[.complex .f64 x y,.float .f64 r] 39):=⟨_,rfl⟩
 obtain⟨W,hW⟩:∃ W,W=V.alloc (.cells #[.complex .f64 0 0,.float .f64 0] 39):=⟨_,rfl⟩
 have hsV:V.heap.size=w.heap.size+1:=by rw[hV];simp
 have hb1:Bw w V:=by rw[hV];exact(Below.refl _ _).alloc (Nat.le_refl _) _
 have hb2:Bw V W:=by rw[hW];exact(Below.refl _ _).alloc (Nat.le_refl _) _
 have h1:BaB W w.heap.size x y r:=BaB.later (by rw[hV];exact BaB.new _ _ _ _) hb2
 have h2:BaB W (w.heap.size+1) 0 0 0:=by rw[hW,←hsV];exact BaB.new _ _ _ _
 have HX:Hid (BaB W w.heap.size x y r∧BaB W (w.heap.size+1) 0 0 0∧Bw w W):=⟨h1,h2,hb1.trans (hb2.mono hb1.size)⟩
 obtain⟨⟨z0,z1⟩,-⟩:=h1.facts
 rw[hV] at hW
 clear hV hsV hb1 hb2 h1 h2
 go_enter Tryz.func14,Tryz.ntmps14
 go_upto_region 1 with fail
 rw[←hW]
 clear hW
 go_wp2_with fail
 refine(kv.out _).mono ?_
 rintro r' w1 ⟨rfl,hb1⟩
 have HD:Hid (BaB w1 w.heap.size x y r∧BaB w1 (w.heap.size+1) 0 0 0∧Bw w w1):=⟨HX.out.1.later hb1,HX.out.2.1.later hb1,HX.out.2.2.trans (hb1.mono HX.out.2.2.size)⟩
 clear hb1 HX z0 z1 kv
 obtain⟨⟨z0,z1⟩,-⟩:=HD.out.1.facts
 clear z0 z1
 obtain⟨⟨y0,y1⟩,y2,y3⟩:=HD.out.2.1.facts
 go_wp2_with fail
 refine bodyPost_ret (results_cell_tmp2_rowO rfl _ _ (w.heap.size+1) 39 #[.complex .f64 0 0,.float .f64 0] (0,0) _ rfl (HD.out.2.1.set _ _ _) Tryz.underlying39 rfl (by kernel_rfl)) rfl ?_
 exact⟨rfl,below2c HD.out.2.2 (by omega) _ _⟩
theorem OSqrt_point (x y r M N R:Nat) (sd:Int) (w:World) (hr:(FloatKind.f64.format.order r 0==some Ordering.eq)=true)
  (kv:Hid (∀ W,Calls Tryz.prog 34 #[.agg #[.complex .f64 x y,.float .f64 r]] W fun r w'=>r=.returned (.bool true)∧Bw W w'))
  (k1:Hid (∀ W,Bw w W→Calls Tryz.prog 35 #[.complex .f64 x y] W fun r w'=>r=.returned (.agg #[.complex .f64 M N,.float .f64 R])∧Bw W w'))
  (k2:Hid (∀ W,Calls Tryz.prog 36 #[.complex .f64 x y] W fun r w'=>r=.returned (.int .i64 sd)∧w'=W)) :
  Calls Tryz.prog 14 #[.agg #[.complex .f64 x y,.float .f64 r]] w fun r w'=>r=.returned (.tuple #[.agg #[.complex .f64 M N,.float .f64 R],.int .i64 sd,.int .i64 0])∧Bw w w':=by
 obtain⟨V,hV⟩:∃ W,W=w.alloc (.cells #[.complex .f64 x y,.float .f64 r] 39):=⟨_,rfl⟩
 obtain⟨W,hW⟩:∃ W,W=V.alloc (.cells #[.complex .f64 0 0,.float .f64 0] 39):=⟨_,rfl⟩
 have hsV:V.heap.size=w.heap.size+1:=by rw[hV];simp
 have hb1:Bw w V:=by rw[hV];exact(Below.refl _ _).alloc (Nat.le_refl _) _
 have hb2:Bw V W:=by rw[hW];exact(Below.refl _ _).alloc (Nat.le_refl _) _
 have h1:BaB W w.heap.size x y r:=BaB.later (by rw[hV];exact BaB.new _ _ _ _) hb2
 have h2:BaB W (w.heap.size+1) 0 0 0:=by rw[hW,←hsV];exact BaB.new _ _ _ _
 have HX:Hid (BaB W w.heap.size x y r∧BaB W (w.heap.size+1) 0 0 0∧Bw w W):=⟨h1,h2,hb1.trans (hb2.mono hb1.size)⟩
 obtain⟨⟨z0,z1⟩,-⟩:=h1.facts
 rw[hV] at hW
 clear hV hsV hb1 hb2 h1 h2
 go_enter Tryz.func14,Tryz.ntmps14
 go_upto_region 1 with fail
 rw[←hW]
 clear hW
 go_wp2_with fail
 refine(kv.out _).mono ?_
 rintro r' w1 ⟨rfl,hb1⟩
 have HD:Hid (BaB w1 w.heap.size x y r∧BaB w1 (w.heap.size+1) 0 0 0∧Bw w w1):=⟨HX.out.1.later hb1,HX.out.2.1.later hb1,HX.out.2.2.trans (hb1.mono HX.out.2.2.size)⟩
 clear hb1 HX z0 z1 kv
 obtain⟨⟨z0,z1⟩,-⟩:=HD.out.1.facts
 go_wp2_with fail
 refine q_region follows_mixed [0,1,2,3,4,5,7,8] [6] [14,15,16,17,18,19,3,4] [[],[0],[1],[],[3],[4],[5],[]] [[2]] [2] (fun _=>2) (fun _=>(w.heap.size+1)) w.heap.size 39 (fun cs=>cs.size=2) 2 w1 _ [isV (.pointer (some ⟨w.heap.size,0,none⟩)),isV (.complex .f64 x y),isV (.agg #[.complex .f64 M N,.float .f64 R]),isV (.pointer (some ⟨w.heap.size,0,none⟩)),isV (.complex .f64 x y),isV (.int .i64 sd),isV (.int .i64 sd),isV (.int .i64 0)] (by kernel_rfl) ⟨isV_stays _,isV_stays _,isV_stays _,isV_stays _,isV_stays _,isV_stays _,isV_stays _,isV_stays _,trivial⟩ ⟨fun _ _ _ _ _ _ _ h=>h,fun _ _ _ _ _ _ _ h=>h,fun _ _ _ _ _ _ _ h=>h,fun _ _ _ _ _ _ _ h=>h,fun _ _ _ _ _ _ _ h=>h,fun _ _ _ _ _ _ _ h=>h,fun _ _ _ _ _ _ _ h=>h,fun _ _ _ _ _ _ _ h=>h,trivial⟩ (by show ∀ s ∈ [14,15,16,17,18,19,3,4],s<27;decide) ?_ ?_ (by kernel_rfl) ?_ ?_ ?_ ?_ HD.out.2.2.size ?_
 ·intro i hi U u h
  obtain rfl:i=0:=Nat.lt_one_iff.1 hi
  have h9:u=.agg #[.complex .f64 M N,.float .f64 R]:=h
  subst h9
  exact⟨_,rfl,rfl,rfl,by simp[Value.oneCell']⟩
 ·intro j hj o ho act U hK hoth hdep hrd
  have hj':j<8:=hj
  have hbU:Bw w U:=HD.out.2.2.trans hK.below
  have t1':act.tmps[(1:Nat)]?=some (Value.pointer (some ⟨w.heap.size,0,none⟩)):=(hoth 1 (by decide)).trans rfl
  have d1:=(BaB.facts ((hK.keep w.heap.size HD.out.1.lt (fun k _=>by show w.heap.size≠w.heap.size+1;omega)).trans HD.out.1)).1
  rcases(by omega:j=0∨j=1∨j=2∨j=3∨j=4∨j=5∨j=6∨j=7)with rfl|rfl|rfl|rfl|rfl|rfl|rfl|rfl
  ·obtain rfl:=Option.some.inj ho
   exact .inl ⟨rfl,owp_run1 (w':=U) (by simp[execOp,t1',eval_cstO,go_sem]) ⟨_,rfl,rfl,Below.refl _ _⟩⟩
  ·obtain rfl:=Option.some.inj ho
   have y0:act.tmps[(14:Nat)]?=_:=dV (hdep 0 (by simp[dL])) rfl
   exact .inl ⟨rfl,owp_run1 (w':=U) (by simp[execOp,Act.eval,y0,d1.1,go_sem]) ⟨_,rfl,rfl,Below.refl _ _⟩⟩
  ·obtain rfl:=Option.some.inj ho
   have y1:act.tmps[(15:Nat)]?=_:=dV (hdep 1 (by simp[dL])) rfl
   refine .inl ⟨rfl,owp_call rfl (enters Tryz.func35 (by kernel_rfl) (by kernel_rfl)) (vs:=#[.complex .f64 x y]) (by simp[eval_get y1]) ?_⟩
   refine(k1.out U hbU).mono ?_
   rintro r' w' ⟨rfl,hb'⟩
   exact⟨_,rfl,_,rfl,rfl,hb'⟩
  ·obtain rfl:=Option.some.inj ho
   exact .inl ⟨rfl,owp_run1 (w':=U) (by simp[execOp,t1',eval_cstO,go_sem]) ⟨_,rfl,rfl,Below.refl _ _⟩⟩
  ·obtain rfl:=Option.some.inj ho
   have y3:act.tmps[(17:Nat)]?=_:=dV (hdep 3 (by simp[dL])) rfl
   exact .inl ⟨rfl,owp_run1 (w':=U) (by simp[execOp,Act.eval,y3,d1.1,go_sem]) ⟨_,rfl,rfl,Below.refl _ _⟩⟩
  ·obtain rfl:=Option.some.inj ho
   have y4:act.tmps[(18:Nat)]?=_:=dV (hdep 4 (by simp[dL])) rfl
   refine .inl ⟨rfl,owp_call rfl (enters Tryz.func36 (by kernel_rfl) (by kernel_rfl)) (vs:=#[.complex .f64 x y]) (by simp[eval_get y4]) ?_⟩
   refine(k2.out U).mono ?_
   rintro r' w' ⟨rfl,hw⟩
   exact⟨_,rfl,_,rfl,rfl,by rw[hw];exact Below.refl _ _⟩
  ·obtain rfl:=Option.some.inj ho
   have y5:act.tmps[(19:Nat)]?=_:=dV (hdep 5 (by simp[dL])) rfl
   exact .inl ⟨rfl,owp_assign rfl y5 ⟨_,rfl,rfl,Below.refl _ _⟩⟩
  ·obtain rfl:=Option.some.inj ho
   exact .inl ⟨rfl,owp_cstO rfl ⟨_,rfl,rfl,Below.refl _ _⟩⟩
 ·intro i hi
  obtain rfl:i=0:=Nat.lt_one_iff.1 hi
  exact⟨_,rfl,rfl⟩
 ·intro i hi
  exact⟨rfl,by decide⟩
 ·intro i hi
  exact⟨Nat.le_succ _,_,HD.out.2.1,rfl,rfl⟩
 ·intro i i' hi hi' _
  exact(Nat.lt_one_iff.1 hi).trans (Nat.lt_one_iff.1 hi').symm
 ·intro u U hK hu hcs
  obtain⟨csa,ya,z9⟩:=hcs 0 (by decide)
  have q8:u 2=.agg #[.complex .f64 M N,.float .f64 R]:=hu 2 (by show 2<8;decide)
  have ya':u 2=.agg csa:=ya
  rw[q8] at ya'
  obtain rfl:=Value.agg.inj ya'
  have HQ:Hid (U.heap[w.heap.size+1]?=some (.cells #[.complex .f64 M N,.float .f64 R] 39 (0,0))∧Bw w U):=⟨z9,HD.out.2.2.trans hK.below⟩
  have w7:u 7=.int .i64 0:=hu 7 (by show 7<8;decide)
  have w6:u 6=.int .i64 sd:=hu 6 (by show 6<8;decide)
  clear hu hcs ya' q8 z9 hK
  simp only[putL,show List.range 8 = [0,1,2,3,4,5,6,7] from rfl,List.length_cons,List.length_nil,List.getD_cons_zero,List.getD_cons_succ,List.map_cons,List.map_nil,List.cons_append,List.nil_append,List.foldl_cons,List.foldl_nil,Nat.reduceLT,Nat.reduceMod,Nat.reduceDiv,Nat.reduceMul,Nat.reduceAdd,Nat.reduceEqDiff,reduceIte,Nat.one_ne_zero,Act.put,List.setIfInBounds_toArray,List.set_cons_zero,List.set_cons_succ]
  rw[w6,w7]
  clear w6 w7
  go_wp2_with fail
  refine bodyPost_ret (results_cell_tmp2_rowO rfl _ _ (w.heap.size+1) 39 #[.complex .f64 M N,.float .f64 R] (0,0) _ rfl HQ.out.1 Tryz.underlying39 rfl (by kernel_rfl)) rfl ?_
  exact⟨rfl,HQ.out.2⟩
theorem OPrincipal_1 (x y F G f:Nat) (t t':Bool×Nat×Int) (w:World)
  (kO:Hid (∀ W,Bw w W→Calls Tryz.prog 18 #[.complex .f64 x y,.float .f64 0] W fun r w'=>r=.returned (.tuple #[.agg #[.complex .f64 x y,.float .f64 0],.int .i64 0])∧Bw W w'))
  (k0:Hid (∀ W,Bw w W→Calls Tryz.prog 19 #[.complex .f64 x y] W fun r w'=>∃ u,r=.returned u∧isPr t t' f w' u∧Bw W w'))
  (k2:Hid (∀ W u,Bw w W→isPr t t' f W u→Calls Tryz.prog 20 #[u,.int .i64 2] W fun r w'=>r=.returned (.complex .f64 F G)∧Bw W w')) :
  Calls Tryz.prog 5 #[.complex .f64 x y,.int .i64 2] w fun r w'=>r=.returned (.tuple #[.complex .f64 F G,.int .i64 0])∧Bw w w':=by
 have kv:=fun W=>pvalid 2 W
 rw[show isM 2=true by decide,if_pos rfl] at kv
 go_enter Tryz.func5,Tryz.ntmps5
 go_wp2_with fail
 refine(kv _).mono ?_
 rintro r w' ⟨rfl,hw⟩
 replace hw:=hw.symm
 subst hw
 go_wp2_with fail
 refine(kO.out _ (Below.refl _ _)).mono ?_
 rintro r w1 ⟨rfl,hb1⟩
 have hb2:Below w.heap.size w (w1.alloc (.cells #[.complex .f64 x y,.float .f64 0] 39)):=hb1.alloc hb1.size _
 have HA:Hid (Below w.heap.size w (w1.alloc (.cells #[.complex .f64 x y,.float .f64 0] 39))):=hb2
 clear hb1 hb2 kO
 go_wp2_with fail
 refine(k0.out _ HA.out).mono ?_
 rintro r w2 ⟨u,rfl,hu,hb1⟩
 have HB:Hid (isPr t t' f w2 u∧Bw w w2):=⟨hu,HA.out.trans (hb1.mono HA.out.size)⟩
 clear hu hb1 HA k0
 go_wp2_with fail
 refine(k2.out _ _ HB.out.2 HB.out.1).mono ?_
 rintro r w3 ⟨rfl,hb1⟩
 have HC:Hid (Bw w w3):=HB.out.2.trans (hb1.mono HB.out.2.size)
 clear hb1 HB k2
 go_wp2_with fail
 refine bodyPost_ret (results_tmp2 rfl _ _ _) rfl ?_
 exact⟨rfl,HC.out⟩
attribute [local go_sem] run_store_fltO run_store_cpxO
theorem L18of (a b r:Nat) (w:World):Calls Tryz.prog 15 #[.float .f64 a,.float .f64 b,.float .f64 r] w fun q w'=>q=.returned (.agg #[.complex .f64 a b,.float .f64 r])∧Bw w w':=by
 obtain⟨W,hW⟩:∃ W,W=w.alloc (.cells #[.complex .f64 0 0,.float .f64 0] 39):=⟨_,rfl⟩
 have HX:Hid (BaB W w.heap.size 0 0 0∧Bw w W):=⟨by rw[hW];exact BaB.new _ _ _ _,by rw[hW];exact(Below.refl _ _).alloc (Nat.le_refl _) _⟩
 obtain⟨⟨y0,y1⟩,y2,y3⟩:=HX.out.1.facts
 go_enter Tryz.func15,Tryz.ntmps15
 go_upto_region 1 with fail
 rw[←hW]
 clear hW
 go_wp2_with fail
 refine bodyPost_ret (results_cell_row rfl _ _ w.heap.size 39 #[.complex .f64 a b,.float .f64 r] (0,0) _ rfl (HX.out.1.set _ _ _) Tryz.underlying39 rfl (by kernel_rfl)) rfl ?_
 exact⟨rfl,below2c HX.out.2 (Nat.le_refl _) _ _⟩
theorem L14Same (x y r:Nat) (hx:x<18446744073709551616) (hy:y<18446744073709551616) (hr:r<18446744073709551616) (w:World) :
  Calls Tryz.prog 40 #[.agg #[.complex .f64 x y,.float .f64 r],.agg #[.complex .f64 x y,.float .f64 r]] w fun q w'=>q=.returned (.bool true)∧Bw w w':=by
 have k1:=fun W=>P6Same x y W (P6Like x hx) (P6Like y hy)
 have k2:=P6Like r hr
 obtain⟨V,hV⟩:∃ W,W=w.alloc (.cells #[.complex .f64 x y,.float .f64 r] 39):=⟨_,rfl⟩
 obtain⟨W,hW⟩:∃ W,W=V.alloc (.cells #[.complex .f64 x y,.float .f64 r] 39):=⟨_,rfl⟩
 have hsV:V.heap.size=w.heap.size+1:=by rw[hV];simp
 have hb1:Bw w V:=by rw[hV];exact(Below.refl _ _).alloc (Nat.le_refl _) _
 have hb2:Bw V W:=by rw[hW];exact(Below.refl _ _).alloc (Nat.le_refl _) _
 have h1:BaB W w.heap.size x y r:=BaB.later (by rw[hV];exact BaB.new _ _ _ _) hb2
 have h2:BaB W (w.heap.size+1) x y r:=by rw[hW,←hsV];exact BaB.new _ _ _ _
 have HB:Hid (Bw w W):=hb1.trans (hb2.mono hb1.size)
 obtain⟨⟨y0,y1⟩,-⟩:=h1.facts
 obtain⟨⟨z0,z1⟩,-⟩:=h2.facts
 rw[hV] at hW
 clear hV hsV hb1 hb2 h1 h2 hx hy hr
 go_enter Tryz.func40,Tryz.ntmps40
 go_upto_region 1 with fail
 rw[←hW]
 clear hW
 go_wp2_with fail
 refine(k1 _).mono ?_
 rintro r w' ⟨rfl,hw⟩
 replace hw:=hw.symm
 subst hw
 go_wp2_with fail
 refine(k2 _).mono ?_
 rintro r w' ⟨rfl,hw⟩
 replace hw:=hw.symm
 subst hw
 go_wp2_with fail
 go_ret
 exact⟨rfl,HB.out⟩
theorem L18same (x y r:Nat) (hx:x<18446744073709551616) (hy:y<18446744073709551616) (hr:r<18446744073709551616) (w:World) :
  Calls Tryz.prog 16 #[.agg #[.complex .f64 x y,.float .f64 r],.agg #[.complex .f64 x y,.float .f64 r]] w fun q w'=>q=.returned (.bool true)∧Bw w w':=by
 have k1:=fun W=>L14Same x y r hx hy hr W
 obtain⟨V,hV⟩:∃ W,W=w.alloc (.cells #[.complex .f64 x y,.float .f64 r] 39):=⟨_,rfl⟩
 obtain⟨W,hW⟩:∃ W,W=V.alloc (.cells #[.complex .f64 x y,.float .f64 r] 39):=⟨_,rfl⟩
 have hsV:V.heap.size=w.heap.size+1:=by rw[hV];simp
 have hb1:Bw w V:=by rw[hV];exact(Below.refl _ _).alloc (Nat.le_refl _) _
 have hb2:Bw V W:=by rw[hW];exact(Below.refl _ _).alloc (Nat.le_refl _) _
 have h1:BaB W w.heap.size x y r:=BaB.later (by rw[hV];exact BaB.new _ _ _ _) hb2
 have h2:BaB W (w.heap.size+1) x y r:=by rw[hW,←hsV];exact BaB.new _ _ _ _
 have HB:Hid (Bw w W):=hb1.trans (hb2.mono hb1.size)
 obtain⟨⟨y0,y1⟩,-⟩:=h1.facts
 obtain⟨⟨z0,z1⟩,-⟩:=h2.facts
 rw[hV] at hW
 clear hV hsV hb1 hb2 h1 h2 hx hy hr
 go_enter Tryz.func16,Tryz.ntmps16
 go_upto_region 1 with fail
 rw[←hW]
 clear hW
 go_wp2_with fail
 refine(k1 _).mono ?_
 rintro q w1 ⟨rfl,hb1⟩
 have HY:Hid (Bw w w1):=HB.out.trans (hb1.mono HB.out.size)
 clear hb1
 go_wp2_with fail
 go_ret
 exact⟨rfl,HY.out⟩
attribute [local go_sem] run_store_fltO run_store_cpxO
theorem Ovalid_no (w:World) :
  Calls Tryz.prog 34 #[.agg #[.complex .f64 0 0,.float .f64 13830554455654793216]] w fun r w'=>r=.returned (.bool false)∧Bw w w':=by
 have k1:=fun W=>Owhole (x:=0) (y:=0) (r:=13830554455654793216) (by decide) (by decide) (by decide) (by decide) W
 have k2:=fun W=>Ofinite (x:=0) (y:=0) (by decide) (by decide) (by decide) (by decide) W
 have k3:=fun W=>Ie.c9 13830554455654793216 (by decide) W
 rw[show cneg 13830554455654793216=true by decide +kernel] at k3
 have c:=cls_fin (a:=13830554455654793216) (by decide)
 have a1:(cls 13830554455654793216 != 1)=true:=by simpa using c.1
 have a2:(cls 13830554455654793216 != 2)=true:=by simpa using c.2
 clear c
 generalize cls 13830554455654793216=p at a1 a2 k3
 obtain⟨W,hW⟩:∃ W,W=w.alloc (.cells #[.complex .f64 0 0,.float .f64 13830554455654793216] 39):=⟨_,rfl⟩
 have HX:Hid (BaB W w.heap.size 0 0 13830554455654793216∧Bw w W):=⟨by rw[hW];exact BaB.new _ _ _ _,by rw[hW];exact(Below.refl _ _).alloc (Nat.le_refl _) _⟩
 obtain⟨⟨y0,y1⟩,-⟩:=HX.out.1.facts
 go_enter Tryz.func34,Tryz.ntmps34
 go_upto_region 1 with fail
 rw[←hW]
 clear hW
 go_wp2_with fail
 refine(k1 _).mono ?_
 rintro r' w1 ⟨rfl,hb1⟩
 have HY:Hid (BaB w1 w.heap.size 0 0 13830554455654793216∧Bw w w1):=⟨HX.out.1.later hb1,HX.out.2.trans (hb1.mono HX.out.2.size)⟩
 clear hb1 k1 HX y0 y1
 obtain⟨⟨y0,y1⟩,-⟩:=HY.out.1.facts
 go_wp2_with fail
 refine(k3 _).mono ?_
 rintro r' w' ⟨rfl,hw⟩
 replace hw:=hw.symm
 subst hw
 go_wp2_with fail
 refine(k2 _).mono ?_
 rintro r' w' ⟨rfl,hw⟩
 replace hw:=hw.symm
 subst hw
 go_wp2_with fail
 go_ret
 exact⟨rfl,HY.out.2⟩
theorem Osqrt_neg (w:World):Calls Tryz.prog 14 #[.agg #[.complex .f64 0 0,.float .f64 13830554455654793216]] w fun q w'=>q=.returned (.tuple #[.agg #[.complex .f64 0 0,.float .f64 0],.int .i64 0,.int .i64 140])∧Bw w w':=by
 refine OSqrt_no 0 0 13830554455654793216 w ?_
 exact fun W=>Ovalid_no W
theorem un_liftO (a:Int) (p d:Nat):un a p=un (a*(pU d:Int)) (p+d):=by
 unfold pU
 refine un_eq (K:=p+d) (by omega) ?_ ?_
 ·omega
 ·rw[Nat.sub_self,Nat.pow_zero]
  have e1:vz (p+d) (decide (a<0)) a.natAbs (-(p:Int))=a*((2^d:Nat):Int):=by
   unfold vz
   rw[sv_nat,show(-(p:Int)+((p+d:Nat):Int)).toNat=d by omega]
  rw[e1];simp
theorem un_dblO (R:Nat):un ((R:Nat):Int) 1075=un ((2*R:Nat):Int) 1076:=by
 have h:=un_liftO ((R:Nat):Int) 1075 1
 rw[h,show pU 1=2 from rfl]
 congr 1
 omega
theorem abs_liftO {a:Int} {b d:Nat} (h:a.natAbs<2^b):(a*(pU d:Int)).natAbs<2^(b+d):=by
 unfold pU
 rw[Int.natAbs_mul,Int.natAbs_natCast,Nat.pow_add]
 exact Nat.mul_lt_mul_of_pos_right h (Nat.two_pow_pos d)
theorem sq_ltO {m k:Nat} (h:m*m<2^(2*k)):m<2^k:=by
 rcases Nat.lt_or_ge m (2^k)with h1|h1
 ·exact h1
 ·have h2:=Nat.mul_le_mul h1 h1
  rw[←Nat.pow_add,show k+k=2*k by omega] at h2
  omega
theorem pow_upO {x a b:Nat} (h:x<2^a) (hab:a≤b):x<2^b:=Nat.lt_of_lt_of_le h (Nat.pow_le_pow_right (by decide) hab)
theorem int_natO {H:Nat} {b:Nat} (h:H<2^b):((H:Nat):Int).natAbs<2^b:=by rw[Int.natAbs_natCast];exact h
def hrO (R:Nat) (b:Bool):Nat:=2*R+if b then 0 else 1
theorem OhalfRoot_un {M H R b:Nat} {Xp:Int} {al s0 s9:Bool} {ao0 ao9:Option Addr} {n0 cap0 n9 cap9:Nat} {ex0 ex9:Int} {w:World} (hb:b≤20000) (hT:Tab32 w)
  (hXp:(Xp*(pU 1075:Int)).natAbs<2^b) (hM:M<2^b) (hH:(M:Int)+Xp*(pU 1075:Int)=(H:Int)) (r1:R*R≤H) (r2:H<(R+1)*(R+1))
  (p0:PN w (.agg #[.bool s0,.slice ao0 n0 cap0,.int .i64 ex0]) (un ((M:Nat):Int) 2149)) (p9:PN w (.agg #[.bool s9,.slice ao9 n9 cap9,.int .i64 ex9]) (un Xp 1074)) :
  Calls Tryz.prog 47 #[.agg #[.bool s0,.slice ao0 n0 cap0,.int .i64 ex0,.bool al],.agg #[.bool s9,.slice ao9 n9 cap9,.int .i64 ex9]] w fun r w'=>OutA w (un ((hrO R (al&&decide (R*R=H)):Nat):Int) 1076) r w':=by
 have e9:un Xp 1074=un (Xp*(pU 1075:Int)) 2149:=un_liftO Xp 1074 1075
 rw[e9] at p9
 have hm:((M:Nat):Int).natAbs<2^b:=int_natO hM
 have hh:=abs_add hm hXp
 rw[hH] at hh
 have hHb:H<2^(b+1):=by rw[Int.natAbs_natCast] at hh;exact hh
 have hRb:R<2^(b+1):=Nat.lt_of_le_of_lt (Nat.le_trans (Nat.le_mul_self R) r1) hHb
 have hR2:((2*R:Nat):Int).natAbs<2^(b+2):=by rw[Int.natAbs_natCast,show b+2=(b+1)+1 from rfl,Nat.pow_succ];omega
 have h1b:(1:Int).natAbs<2^(b+2):=by rw[show(1:Int).natAbs=1 from rfl];exact Nat.one_lt_two_pow (by omega)
 have key:=OhalfRoot_1 s0 ao0 n0 cap0 ex0 al (decide (R*R=H)) s9 ao9 n9 cap9 ex9 (un ((H:Nat):Int) 2149) (un ((H:Nat):Int) 2150) (un ((R:Nat):Int) 1075) (un 1 0) (un 1 1076) (un ((2*R+1:Nat):Int) 1076) w
  (fun W hW=>by
   have:=Oadded_op (padd_un (p:=2149) hm hXp (by omega) (by omega)) (hT.later hW) (p0.later hW) (p9.later hW)
   rw[hH] at this
   exact this)
  (fun W X hW hX=>pshift_un (p:=2149) (q:=2150) hh (by omega) (by omega) (by omega) (by omega) hX)
  (fun W X hW hX=>by
   have:=OrootAt_un (A:=H) (p:=2150) (P:=1075) (m:=R) (b:=b+1) hHb (by omega) (by omega) (by omega) (by rw[show 2*1075 - 2150=0 from rfl,Nat.pow_zero,Nat.mul_one];exact r1) (by rw[show 2*1075 - 2150=0 from rfl,Nat.pow_zero,Nat.mul_one];exact r2) (pow_upO (b:=60000) hRb (by omega)) (hT.later hW) hX
   rw[show 2*1075 - 2150=0 from rfl,Nat.pow_zero,Nat.mul_one] at this
   exact this)
  (fun W hW=>whole_pn (hT.later hW) (by decide))
  (fun W X hW hX=>pshift_un (b:=b+2) (p:=0) (q:=1076) h1b (by omega) (by omega) (by omega) (by omega) hX)
  (fun W X Y hW hX hY=>by
   rw[un_dblO] at hX
   have:=Oadded_op (padd_un (p:=1076) hR2 h1b (by omega) (by omega)) (hT.later hW) hX hY
   rw[show((2*R:Nat):Int)+1=((2*R+1:Nat):Int) by omega] at this
   exact this)
 have e:(if(al&&decide (R*R=H))then un ((R:Nat):Int) 1075 else un ((2*R+1:Nat):Int) 1076)=un ((hrO R (al&&decide (R*R=H)):Nat):Int) 1076:=by
  unfold hrO
  cases (al&&decide (R*R=H))
  ·rfl
  ·rw[if_pos rfl,if_pos rfl,un_dblO];rfl
 rw[e] at key
 exact key
theorem sU_ngtO {a:Nat} (h:a<18446744073709551616):sU (ngt a) = -sU a:=by
 unfold sU
 rw[fU_ngt h,ngt_neg h]
 cases neg a <;> simp
theorem pneg_unO {Z:Int} {b p:Nat} (h:Z.natAbs<2^b) (hb:b≤60000) (hp:p≤60000) {W:World} {X:Value} (hX:PN W X (un Z p)):Calls Tryz.prog 50 #[X] W fun r w'=>OutP W (un (-Z) p) r w':=by
 obtain⟨ao,cap,rfl,hI⟩:=hX
 have ok:=ok_un (p:=p) h hb hp
 have f:=ok.facts
 refine(negw_ok hI (by omega) ok).mono ?_
 rintro r w' ⟨v,rfl,hO,hB⟩
 have e:=gN_un (a:=Z) (p:=p)
 obtain⟨ao',cap',rfl,o1,o2,o3⟩:=hO.is
 have hI':Is w' (.slice ao' (dlen (un Z p).2.1) cap') (un Z p).2.1:=⟨ao',cap',rfl,o1,o2,o3⟩
 refine⟨_,_,_,_,_,rfl,⟨ao',cap',?_,?_⟩,hB⟩
 ·rw[←e]
  unfold gN
  by_cases h0:(un Z p).2.1=0
  ·have:=f.2.2.2.1 h0
   rw[if_pos h0,this,show dlen (false,0,(0:Int)).2.1=0 from dlen_zero]
   rfl
  ·rw[if_neg h0]
   have:0<dlen (un Z p).2.1:=by have:=dlen_pos h0;omega
   rw[decide_eq_true this,Bool.and_true]
 ·rw[←e]
  unfold gN
  by_cases h0:(un Z p).2.1=0
  ·rw[if_pos h0];rw[h0] at hI';exact hI'
  ·rw[if_neg h0];exact hI'
end Go.Proofs.YtgdhdailchonmabGreatDoor
