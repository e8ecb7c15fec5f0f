/- Own work: contracts of the program's functions, part 16: BBH BBI BB5 BB7 BB8 BBG. -/
import Derived.Test.YtapooodfgcjoaaaGreatA15
import Derived.Test.YtapooodfgcjoaaaGreatA11
import Derived.Test.YtapooodfgcjoaaaGreatA3
import Derived.Test.YtapooodfgcjoaaaGreatA4
import Derived.Test.YtapooodfgcjoaaaGreatA14

set_option maxHeartbeats 16000000
set_option maxRecDepth 200000
set_option linter.unusedVariables false
set_option linter.unusedSimpArgs false
namespace Go.Proofs.YtapooodfgcjoaaaGreat
open Go Go.RowKit Go.Fl64
theorem owp_ldDo {Q:Exit→Act→World→Prop} {o:Oper} {K:Act→World→Prop} {a:Act} {w:World} {s:Tmp} {g o':Nat} {s':Bool} {ao:Option Addr} {n cp:Nat} {e:Int} (hop:o.op=.load 45 (.tmp s)) (hs:a.tmps[s]?=some (.pointer (some ⟨g,o',none⟩))) (h0:w.cell? ⟨g,o',none⟩=some (.bool s')) (h1:w.cell? ⟨g,o'+1,none⟩=some (.slice ao n cp)) (h2:w.cell? ⟨g,o'+2,none⟩=some (.int .i64 e)) (h:K (a.put o.dst (.agg #[.bool s',.slice ao n cp,.int .i64 e])) w):o.wp Tryz.prog a w K Q :=
 owp_run1 (w':=w) (by simp[execOp,hop,eval_get hs,run_ldD g o' s' ao n cp e w h0 h1 h2]) h
theorem dapart_1 (s1:Bool) (ao1:Option Addr) (n1 cp1:Nat) (e1:Int) (s2:Bool) (ao2:Option Addr) (n2 cp2:Nat) (e2:Int) (TL TH TX TY T1 T2 TA TB RA RB:Bool×Nat×Int) (ng:Bool) (p q rr:Nat) (w:World)
  (hx1:DN w (.agg #[.bool s1,.slice ao1 n1 cp1,.int .i64 e1]) TL) (hx2:DN w (.agg #[.bool s2,.slice ao2 n2 cp2,.int .i64 e2]) TH) (hp:p≤1099511627776) (hq:q≤1099511627776) (hr:rr≤1099511627776)
  (kW:Hid (∀ (n:Nat) (W:World),n≤1099511627776→Calls Tryz.prog 24 #[.int .i64 (n:Nat)] W fun r w'=>OutD W (un (n:Nat) 0) r w'))
  (kX:Hid (∀ (W:World) X Y,DN W X TL→DN W Y (un (q:Nat) 0)→Calls Tryz.prog 33 #[X,Y] W fun r w'=>OutD W TX r w'))
  (kY:Hid (∀ (W:World) X Y,DN W X TH→DN W Y (un (q:Nat) 0)→Calls Tryz.prog 33 #[X,Y] W fun r w'=>OutD W TY r w'))
  (kLs:Hid (∀ (W:World) X Y,DN W X TX→DN W Y (un (p:Nat) 0)→Calls Tryz.prog 57 #[X,Y] W fun r w'=>OutD W T1 r w'))
  (kLt:Hid (∀ (W:World) X Y,DN W X TY→DN W Y (un (p:Nat) 0)→Calls Tryz.prog 57 #[X,Y] W fun r w'=>OutD W T2 r w'))
  (kS:Hid (∀ (W:World) X,DN W X T2→Calls Tryz.prog 58 #[X] W fun r w'=>r=.returned (.int .i64 (if ng then -1 else 1))∧Bw W w'))
  (kM:Hid (ng=true→∀ (W:World) X,DN W X T1→Calls Tryz.prog 50 #[X] W fun r w'=>OutD W TB r w'))
  (kN:Hid (ng=true→∀ (W:World) X,DN W X T2→Calls Tryz.prog 50 #[X] W fun r w'=>OutD W TA r w'))
  (hng:Hid (ng=false→T1=TA∧T2=TB))
  (kP:Hid (∀ (W:World) X,DN W X TA→Calls Tryz.prog 58 #[X] W fun r w'=>r=.returned (.int .i64 1)∧Bw W w'))
  (kU:Hid (∀ (W:World) X Y,DN W X TA→DN W Y (un (rr:Nat) 0)→Calls Tryz.prog 33 #[X,Y] W fun r w'=>OutD W RA r w'))
  (kV:Hid (∀ (W:World) X Y,DN W X TB→DN W Y (un (rr:Nat) 0)→Calls Tryz.prog 33 #[X,Y] W fun r w'=>OutD W RB r w')) :
  Calls Tryz.prog 18 #[.agg #[.bool s1,.slice ao1 n1 cp1,.int .i64 e1,.bool s2,.slice ao2 n2 cp2,.int .i64 e2],.int .i64 (p:Nat),.int .i64 (q:Nat),.int .i64 (rr:Nat)] w fun r w'=>∃ A C,r=.returned (.tuple #[A,C])∧DN w' A RA∧DN w' C RB∧Bw w w':=by
 obtain⟨Wa,hWa⟩:∃ W,W=w.alloc (.cells #[.bool s1,.slice ao1 n1 cp1,.int .i64 e1,.bool s2,.slice ao2 n2 cp2,.int .i64 e2] 47):=⟨_,rfl⟩
 obtain⟨W,hW⟩:∃ W,W=(Wa.alloc (.cells #[.bool false,.slice none 0 0,.int .i64 0] 45)).alloc (.cells #[.bool false,.slice none 0 0,.int .i64 0] 45):=⟨_,rfl⟩
 have hba:Bw w Wa:=by rw[hWa];exact(Below.refl _ _).alloc (Nat.le_refl _) _
 have hsa:Wa.heap.size=w.heap.size+1:=by rw[hWa];simp
 obtain⟨hy1,hy2,hy3,hy4⟩:=two29 _ _ hW
 rw[hsa] at hy1 hy2
 have hbW:Bw w W:=hba.trans (hy4.mono hba.size)
 have hz0:dzB Wa w.heap.size s1 ao1 n1 cp1 e1 s2 ao2 n2 cp2 e2 TL TH:=⟨by rw[hWa];exact heap_alloc_new _ _,hx1.later hba,hx2.later hba⟩
 obtain⟨gb,hgb⟩:∃ g,g=w.heap.size:=⟨_,rfl⟩
 obtain⟨gX,hgX⟩:∃ g,g=w.heap.size+1:=⟨_,rfl⟩
 obtain⟨gY,hgY⟩:∃ g,g=w.heap.size+1+1:=⟨_,rfl⟩
 rw[←hgX] at hy1
 rw[←hgX] at hy2
 have HAB:Hid (p≤1099511627776∧q≤1099511627776∧rr≤1099511627776):=⟨hp,hq,hr⟩
 have HS0:Hid ((dzB W gb s1 ao1 n1 cp1 e1 s2 ao2 n2 cp2 e2 TL TH)∧(W.heap[gX]?=some (.cells #[.bool false,.slice none 0 0,.int .i64 0] 45 (0,0)))∧(W.heap[gY]?=some (.cells #[.bool false,.slice none 0 0,.int .i64 0] 45 (0,0)))∧(Bw w W)∧(gX<gY)∧(w.heap.size<gX)):=⟨by rw[hgb];exact hz0.later hy4,hy1,by rw[hgY,←hgX];exact hy2,hbW,by omega,by omega⟩
 clear hx1 hx2 hbW hba hy1 hy2 hy3 hy4 hz0 hp hq hr
 go_enter Tryz.func18,Tryz.ntmps18
 go_upto_region 1 with fail
 rw[hWa] at hW
 rw[←hW,←hgY,←hgX,←hgb]
 clear hW hWa hsa hgb hgX hgY
 refine x_region follows_mixed [0,1,2,3,4,5,6,7] [8] [9] [12,13,14,15,16,17,18,19] [10] [[],[0],[],[2],[1,3],[],[5],[4,6]] [7] 45 #[.bool false,.slice none 0 0,.int .i64 0] W _ [isV (.pointer (some ⟨gb,0,none⟩)),isV (.agg #[.bool s1,.slice ao1 n1 cp1,.int .i64 e1]),isV (.int .i64 (q:Nat)),isD (un (q:Nat) 0),isD (TX),isV (.int .i64 (p:Nat)),isD (un (p:Nat) 0),isD (T1)] (by kernel_rfl) ⟨isV_stays _,isV_stays _,isV_stays _,isD_stays _,isD_stays _,isV_stays _,isD_stays _,isD_stays _,trivial⟩ ⟨fun _ _ _ _ _ h=>h,fun _ _ _ _ _ h=>h,fun _ _ _ _ _ h=>h,isD_rows8 _,isD_rows8 _,fun _ _ _ _ _ h=>h,isD_rows8 _,isD_rows8 _,trivial⟩ (by show ∀ s ∈ [12,13,14,15,16,17,18,19] ++ [10],s<47;decide) ?_ ?_ ?_ (fun _=>by kernel_rfl) Tryz.info45 ?_ ?_
 ·intro k' hk U u h
  obtain rfl:k'=0:=Nat.lt_one_iff.1 hk
  obtain⟨s9,ao9,n9,cp9,e9,rfl⟩:=DN.shape (show DN U u _ from h)
  exact⟨_,rfl,rfl,one3 rfl rfl⟩
 ·intro j hj o ho act U hb hoth hdep
  have hj':j<8:=hj
  have t4':act.tmps[(4:Nat)]?=some (Value.pointer (some ⟨gb,0,none⟩)):=(hoth 4 (by decide)).trans rfl
  have t1':act.tmps[(1:Nat)]?=some (Value.int .i64 (p:Nat)):=(hoth 1 (by decide)).trans rfl
  have t2':act.tmps[(2:Nat)]?=some (Value.int .i64 (q:Nat)):=(hoth 2 (by decide)).trans rfl
  have d6:=box_cells6 (HS0.out.1.later hb).1
  rcases(by omega:j=0∨j=1∨j=2∨j=3∨j=4∨j=5∨j=6∨j=7)with rfl|rfl|rfl|rfl|rfl|rfl|rfl|rfl
  ·obtain rfl:=Option.some.inj ho
   exact .inl ⟨rfl,owp_run1 (w':=U) (by simp[execOp,t4',eval_cst,go_sem]) ⟨_,rfl,rfl,Below.refl _ _⟩⟩
  ·obtain rfl:=Option.some.inj ho
   have y0:act.tmps[(12:Nat)]?=_:=dV (hdep 0 (by simp[dL])) rfl
   exact .inl ⟨rfl,owp_ldDo rfl y0 d6.1.1 d6.1.2.1 d6.1.2.2.1 ⟨_,rfl,rfl,Below.refl _ _⟩⟩
  ·obtain rfl:=Option.some.inj ho
   exact .inl ⟨rfl,owp_move rfl t2' ⟨_,rfl,rfl,Below.refl _ _⟩⟩
  ·obtain rfl:=Option.some.inj ho
   have y2:act.tmps[(14:Nat)]?=_:=dV (hdep 2 (by simp[dL])) rfl
   refine .inl ⟨rfl,owp_call rfl (enters Tryz.func24 (by kernel_rfl) (by kernel_rfl)) (vs:=#[.int .i64 (q:Nat)]) (by simp[eval_get y2]) ?_⟩
   refine(kW.out q U (by have:=HAB.out;omega)).mono ?_
   rintro r w' ⟨s9,ao9,n9,cp9,e9,rfl,hA9,hb'⟩
   exact⟨_,rfl,_,rfl,hA9,hb'⟩
  ·obtain rfl:=Option.some.inj ho
   have y1:act.tmps[(13:Nat)]?=_:=dV (hdep 1 (by simp[dL])) rfl
   obtain⟨u3,y30,v3⟩:=hdep 3 (by simp[dL])
   have y3:act.tmps[(15:Nat)]?=_:=y30
   refine .inl ⟨rfl,owp_call rfl (enters Tryz.func33 (by kernel_rfl) (by kernel_rfl)) (vs:=#[.agg #[.bool s1,.slice ao1 n1 cp1,.int .i64 e1],u3]) (by simp[eval_get y1,eval_get y3]) ?_⟩
   refine(kX.out U _ _ (HS0.out.1.later hb).2.1 v3).mono ?_
   rintro r w' ⟨s9,ao9,n9,cp9,e9,rfl,hA9,hb'⟩
   exact⟨_,rfl,_,rfl,hA9,hb'⟩
  ·obtain rfl:=Option.some.inj ho
   exact .inl ⟨rfl,owp_move rfl t1' ⟨_,rfl,rfl,Below.refl _ _⟩⟩
  ·obtain rfl:=Option.some.inj ho
   have y5:act.tmps[(17:Nat)]?=_:=dV (hdep 5 (by simp[dL])) rfl
   refine .inl ⟨rfl,owp_call rfl (enters Tryz.func24 (by kernel_rfl) (by kernel_rfl)) (vs:=#[.int .i64 (p:Nat)]) (by simp[eval_get y5]) ?_⟩
   refine(kW.out p U (by have:=HAB.out;omega)).mono ?_
   rintro r w' ⟨s9,ao9,n9,cp9,e9,rfl,hA9,hb'⟩
   exact⟨_,rfl,_,rfl,hA9,hb'⟩
  ·obtain rfl:=Option.some.inj ho
   obtain⟨u4,y40,v4⟩:=hdep 4 (by simp[dL])
   have y4:act.tmps[(16:Nat)]?=_:=y40
   obtain⟨u6,y60,v6⟩:=hdep 6 (by simp[dL])
   have y6:act.tmps[(18:Nat)]?=_:=y60
   refine .inl ⟨rfl,owp_call rfl (enters Tryz.func57 (by kernel_rfl) (by kernel_rfl)) (vs:=#[u4,u6]) (by simp[eval_get y4,eval_get y6]) ?_⟩
   refine(kLs.out U _ _ v4 v6).mono ?_
   rintro r w' ⟨s9,ao9,n9,cp9,e9,rfl,hA9,hb'⟩
   exact⟨_,rfl,_,rfl,hA9,hb'⟩
 ·intro k' hk
  obtain rfl:k'=0:=Nat.lt_one_iff.1 hk
  exact⟨_,rfl,rfl⟩
 ·intro k' hk
  obtain rfl:k'=0:=Nat.lt_one_iff.1 hk
  exact⟨_,rfl,rfl⟩
 ·intro u g U hb9 hu hg hap
  obtain⟨g0l,cs0,q0,z0⟩:=hg 0 (by decide)
  have q9:DN U (u 7) _:=hu 7 (by show 7<8;decide)
  have q0':u 7=.agg cs0:=q0
  rw[q0'] at q9
  obtain⟨s9,ao9,n9,cp9,e9,h9⟩:=DN.shape q9
  obtain rfl:=Value.agg.inj h9
  obtain⟨g9,hg9⟩:∃ x,x=g 0:=⟨_,rfl⟩
  rw[←hg9] at z0 g0l
  clear hu hg hap q0 q0'
  simp only[putL,show List.range 8 = [0,1,2,3,4,5,6,7] from rfl,show List.range 1 = [0] from rfl,List.length_cons,List.length_nil,List.getD_cons_zero,List.getD_cons_succ,List.map_cons,List.map_nil,List.cons_append,List.nil_append,List.foldl_cons,List.foldl_nil,Nat.reduceLT,Nat.reduceMod,Nat.reduceDiv,Nat.reduceMul,Nat.reduceAdd,Nat.reduceEqDiff,reduceIte,Nat.one_ne_zero,Act.put,List.setIfInBounds_toArray,List.set_cons_zero,List.set_cons_succ]
  rw[←hg9]
  clear hg9 
  obtain⟨Ugl,hr9⟩:∃ x,x=U:=⟨_,rfl⟩
  subst hr9
  obtain⟨gl,hr9⟩:∃ x,x=g9:=⟨_,rfl⟩
  subst hr9
  obtain⟨s3,hr9⟩:∃ x,x=s9:=⟨_,rfl⟩
  subst hr9
  obtain⟨ao3,hr9⟩:∃ x,x=ao9:=⟨_,rfl⟩
  subst hr9
  obtain⟨n3,hr9⟩:∃ x,x=n9:=⟨_,rfl⟩
  subst hr9
  obtain⟨cp3,hr9⟩:∃ x,x=cp9:=⟨_,rfl⟩
  subst hr9
  obtain⟨e3,hr9⟩:∃ x,x=e9:=⟨_,rfl⟩
  subst hr9
  have HS1:Hid ((dzB Ugl gb s1 ao1 n1 cp1 e1 s2 ao2 n2 cp2 e2 TL TH)∧(Ugl.heap[gX]?=some (.cells #[.bool false,.slice none 0 0,.int .i64 0] 45 (0,0)))∧(Ugl.heap[gY]?=some (.cells #[.bool false,.slice none 0 0,.int .i64 0] 45 (0,0)))∧(Bw w Ugl)∧(gX<gY)∧(w.heap.size<gX)∧(NbD Ugl gl s3 ao3 n3 cp3 e3 (T1))∧(gX<gl)∧(gY<gl)):=⟨HS0.out.1.later hb9,(hb9.block _ (Array.getElem?_eq_some_iff.1 HS0.out.2.1).1).trans HS0.out.2.1,(hb9.block _ (Array.getElem?_eq_some_iff.1 HS0.out.2.2.1).1).trans HS0.out.2.2.1,HS0.out.2.2.2.1.trans (hb9.mono HS0.out.2.2.2.1.size),HS0.out.2.2.2.2.1,HS0.out.2.2.2.2.2,⟨z0,q9⟩,Nat.lt_of_lt_of_le (Array.getElem?_eq_some_iff.1 HS0.out.2.1).1 g0l,Nat.lt_of_lt_of_le (Array.getElem?_eq_some_iff.1 HS0.out.2.2.1).1 g0l⟩
  clear HS0
  clear z0 q9 g0l hb9 h9
  go_upto_region 2 with fail
  refine x_region follows_mixed [0,1,2,3,4,5,6,7] [8] [9] [20,21,22,23,24,25,26,27] [11] [[],[0],[],[2],[1,3],[],[5],[4,6]] [7] 45 #[.bool false,.slice none 0 0,.int .i64 0] Ugl _ [isV (.pointer (some ⟨gb,3,none⟩)),isV (.agg #[.bool s2,.slice ao2 n2 cp2,.int .i64 e2]),isV (.int .i64 (q:Nat)),isD (un (q:Nat) 0),isD (TY),isV (.int .i64 (p:Nat)),isD (un (p:Nat) 0),isD (T2)] (by kernel_rfl) ⟨isV_stays _,isV_stays _,isV_stays _,isD_stays _,isD_stays _,isV_stays _,isD_stays _,isD_stays _,trivial⟩ ⟨fun _ _ _ _ _ h=>h,fun _ _ _ _ _ h=>h,fun _ _ _ _ _ h=>h,isD_rows8 _,isD_rows8 _,fun _ _ _ _ _ h=>h,isD_rows8 _,isD_rows8 _,trivial⟩ (by show ∀ s ∈ [20,21,22,23,24,25,26,27] ++ [11],s<47;decide) ?_ ?_ ?_ (fun _=>by kernel_rfl) Tryz.info45 ?_ ?_
  ·intro k' hk U u h
   obtain rfl:k'=0:=Nat.lt_one_iff.1 hk
   obtain⟨s9,ao9,n9,cp9,e9,rfl⟩:=DN.shape (show DN U u _ from h)
   exact⟨_,rfl,rfl,one3 rfl rfl⟩
  ·intro j hj o ho act U hb hoth hdep
   have hj':j<8:=hj
   have t4':act.tmps[(4:Nat)]?=some (Value.pointer (some ⟨gb,0,none⟩)):=(hoth 4 (by decide)).trans rfl
   have t1':act.tmps[(1:Nat)]?=some (Value.int .i64 (p:Nat)):=(hoth 1 (by decide)).trans rfl
   have t2':act.tmps[(2:Nat)]?=some (Value.int .i64 (q:Nat)):=(hoth 2 (by decide)).trans rfl
   have d6:=box_cells6 (HS1.out.1.later hb).1
   rcases(by omega:j=0∨j=1∨j=2∨j=3∨j=4∨j=5∨j=6∨j=7)with rfl|rfl|rfl|rfl|rfl|rfl|rfl|rfl
   ·obtain rfl:=Option.some.inj ho
    exact .inl ⟨rfl,owp_run1 (w':=U) (by simp[execOp,t4',eval_cst,go_sem]) ⟨_,rfl,rfl,Below.refl _ _⟩⟩
   ·obtain rfl:=Option.some.inj ho
    have y0:act.tmps[(20:Nat)]?=_:=dV (hdep 0 (by simp[dL])) rfl
    exact .inl ⟨rfl,owp_ldDo rfl y0 d6.1.2.2.2.1 d6.1.2.2.2.2.1 d6.1.2.2.2.2.2 ⟨_,rfl,rfl,Below.refl _ _⟩⟩
   ·obtain rfl:=Option.some.inj ho
    exact .inl ⟨rfl,owp_move rfl t2' ⟨_,rfl,rfl,Below.refl _ _⟩⟩
   ·obtain rfl:=Option.some.inj ho
    have y2:act.tmps[(22:Nat)]?=_:=dV (hdep 2 (by simp[dL])) rfl
    refine .inl ⟨rfl,owp_call rfl (enters Tryz.func24 (by kernel_rfl) (by kernel_rfl)) (vs:=#[.int .i64 (q:Nat)]) (by simp[eval_get y2]) ?_⟩
    refine(kW.out q U (by have:=HAB.out;omega)).mono ?_
    rintro r w' ⟨s9,ao9,n9,cp9,e9,rfl,hA9,hb'⟩
    exact⟨_,rfl,_,rfl,hA9,hb'⟩
   ·obtain rfl:=Option.some.inj ho
    have y1:act.tmps[(21:Nat)]?=_:=dV (hdep 1 (by simp[dL])) rfl
    obtain⟨u3,y30,v3⟩:=hdep 3 (by simp[dL])
    have y3:act.tmps[(23:Nat)]?=_:=y30
    refine .inl ⟨rfl,owp_call rfl (enters Tryz.func33 (by kernel_rfl) (by kernel_rfl)) (vs:=#[.agg #[.bool s2,.slice ao2 n2 cp2,.int .i64 e2],u3]) (by simp[eval_get y1,eval_get y3]) ?_⟩
    refine(kY.out U _ _ (HS1.out.1.later hb).2.2 v3).mono ?_
    rintro r w' ⟨s9,ao9,n9,cp9,e9,rfl,hA9,hb'⟩
    exact⟨_,rfl,_,rfl,hA9,hb'⟩
   ·obtain rfl:=Option.some.inj ho
    exact .inl ⟨rfl,owp_move rfl t1' ⟨_,rfl,rfl,Below.refl _ _⟩⟩
   ·obtain rfl:=Option.some.inj ho
    have y5:act.tmps[(25:Nat)]?=_:=dV (hdep 5 (by simp[dL])) rfl
    refine .inl ⟨rfl,owp_call rfl (enters Tryz.func24 (by kernel_rfl) (by kernel_rfl)) (vs:=#[.int .i64 (p:Nat)]) (by simp[eval_get y5]) ?_⟩
    refine(kW.out p U (by have:=HAB.out;omega)).mono ?_
    rintro r w' ⟨s9,ao9,n9,cp9,e9,rfl,hA9,hb'⟩
    exact⟨_,rfl,_,rfl,hA9,hb'⟩
   ·obtain rfl:=Option.some.inj ho
    obtain⟨u4,y40,v4⟩:=hdep 4 (by simp[dL])
    have y4:act.tmps[(24:Nat)]?=_:=y40
    obtain⟨u6,y60,v6⟩:=hdep 6 (by simp[dL])
    have y6:act.tmps[(26:Nat)]?=_:=y60
    refine .inl ⟨rfl,owp_call rfl (enters Tryz.func57 (by kernel_rfl) (by kernel_rfl)) (vs:=#[u4,u6]) (by simp[eval_get y4,eval_get y6]) ?_⟩
    refine(kLt.out U _ _ v4 v6).mono ?_
    rintro r w' ⟨s9,ao9,n9,cp9,e9,rfl,hA9,hb'⟩
    exact⟨_,rfl,_,rfl,hA9,hb'⟩
  ·intro k' hk
   obtain rfl:k'=0:=Nat.lt_one_iff.1 hk
   exact⟨_,rfl,rfl⟩
  ·intro k' hk
   obtain rfl:k'=0:=Nat.lt_one_iff.1 hk
   exact⟨_,rfl,rfl⟩
  ·intro u g U hb9 hu hg hap
   obtain⟨g0l,cs0,q0,z0⟩:=hg 0 (by decide)
   have q9:DN U (u 7) _:=hu 7 (by show 7<8;decide)
   have q0':u 7=.agg cs0:=q0
   rw[q0'] at q9
   obtain⟨s9,ao9,n9,cp9,e9,h9⟩:=DN.shape q9
   obtain rfl:=Value.agg.inj h9
   obtain⟨g9,hg9⟩:∃ x,x=g 0:=⟨_,rfl⟩
   rw[←hg9] at z0 g0l
   clear hu hg hap q0 q0'
   simp only[putL,show List.range 8 = [0,1,2,3,4,5,6,7] from rfl,show List.range 1 = [0] from rfl,List.length_cons,List.length_nil,List.getD_cons_zero,List.getD_cons_succ,List.map_cons,List.map_nil,List.cons_append,List.nil_append,List.foldl_cons,List.foldl_nil,Nat.reduceLT,Nat.reduceMod,Nat.reduceDiv,Nat.reduceMul,Nat.reduceAdd,Nat.reduceEqDiff,reduceIte,Nat.one_ne_zero,Act.put,List.setIfInBounds_toArray,List.set_cons_zero,List.set_cons_succ]
   rw[←hg9]
   clear hg9 
   obtain⟨Ugh,hr9⟩:∃ x,x=U:=⟨_,rfl⟩
   subst hr9
   obtain⟨gh,hr9⟩:∃ x,x=g9:=⟨_,rfl⟩
   subst hr9
   obtain⟨s4,hr9⟩:∃ x,x=s9:=⟨_,rfl⟩
   subst hr9
   obtain⟨ao4,hr9⟩:∃ x,x=ao9:=⟨_,rfl⟩
   subst hr9
   obtain⟨n4,hr9⟩:∃ x,x=n9:=⟨_,rfl⟩
   subst hr9
   obtain⟨cp4,hr9⟩:∃ x,x=cp9:=⟨_,rfl⟩
   subst hr9
   obtain⟨e4,hr9⟩:∃ x,x=e9:=⟨_,rfl⟩
   subst hr9
   have HS2:Hid ((dzB Ugh gb s1 ao1 n1 cp1 e1 s2 ao2 n2 cp2 e2 TL TH)∧(Ugh.heap[gX]?=some (.cells #[.bool false,.slice none 0 0,.int .i64 0] 45 (0,0)))∧(Ugh.heap[gY]?=some (.cells #[.bool false,.slice none 0 0,.int .i64 0] 45 (0,0)))∧(Bw w Ugh)∧(gX<gY)∧(w.heap.size<gX)∧(NbD Ugh gl s3 ao3 n3 cp3 e3 (T1))∧(gX<gl)∧(gY<gl)∧(NbD Ugh gh s4 ao4 n4 cp4 e4 (T2))∧(gX<gh)∧(gY<gh)∧(gl<gh)):=⟨HS1.out.1.later hb9,(hb9.block _ (Array.getElem?_eq_some_iff.1 HS1.out.2.1).1).trans HS1.out.2.1,(hb9.block _ (Array.getElem?_eq_some_iff.1 HS1.out.2.2.1).1).trans HS1.out.2.2.1,HS1.out.2.2.2.1.trans (hb9.mono HS1.out.2.2.2.1.size),HS1.out.2.2.2.2.1,HS1.out.2.2.2.2.2.1,HS1.out.2.2.2.2.2.2.1.later hb9,HS1.out.2.2.2.2.2.2.2.1,HS1.out.2.2.2.2.2.2.2.2,⟨z0,q9⟩,Nat.lt_of_lt_of_le (Array.getElem?_eq_some_iff.1 HS1.out.2.1).1 g0l,Nat.lt_of_lt_of_le (Array.getElem?_eq_some_iff.1 HS1.out.2.2.1).1 g0l,Nat.lt_of_lt_of_le HS1.out.2.2.2.2.2.2.1.lt g0l⟩
   clear HS1
   clear z0 q9 g0l hb9 h9
   obtain⟨⟨y0,y1,y2⟩,-⟩:=box_cells29 HS2.out.2.2.2.2.2.2.2.2.2.1.1
   have kk:=kS.out Ugh _ HS2.out.2.2.2.2.2.2.2.2.2.1.2
   go_wp2_with fail
   refine kk.mono ?_
   rintro r u3 ⟨rfl,hb⟩
   clear kk y0 y1 y2 kX kY kLs kLt kS
   have HS3:Hid ((u3.heap[gX]?=some (.cells #[.bool false,.slice none 0 0,.int .i64 0] 45 (0,0)))∧(u3.heap[gY]?=some (.cells #[.bool false,.slice none 0 0,.int .i64 0] 45 (0,0)))∧(Bw w u3)∧(gX<gY)∧(w.heap.size<gX)∧(NbD u3 gl s3 ao3 n3 cp3 e3 (T1))∧(gX<gl)∧(gY<gl)∧(NbD u3 gh s4 ao4 n4 cp4 e4 (T2))∧(gX<gh)∧(gY<gh)∧(gl<gh)):=⟨(hb.block _ (Array.getElem?_eq_some_iff.1 HS2.out.2.1).1).trans HS2.out.2.1,(hb.block _ (Array.getElem?_eq_some_iff.1 HS2.out.2.2.1).1).trans HS2.out.2.2.1,HS2.out.2.2.2.1.trans (hb.mono HS2.out.2.2.2.1.size),HS2.out.2.2.2.2.1,HS2.out.2.2.2.2.2.1,HS2.out.2.2.2.2.2.2.1.later hb,HS2.out.2.2.2.2.2.2.2.1,HS2.out.2.2.2.2.2.2.2.2.1,HS2.out.2.2.2.2.2.2.2.2.2.1.later hb,HS2.out.2.2.2.2.2.2.2.2.2.2.1,HS2.out.2.2.2.2.2.2.2.2.2.2.2.1,HS2.out.2.2.2.2.2.2.2.2.2.2.2.2⟩
   clear HS2
   clear hb
   have HO:Hid (gX<gY∧w.heap.size<gX∧gX<gl∧gY<gl∧gX<gh∧gY<gh∧gl<gh):=⟨HS3.out.2.2.2.1,HS3.out.2.2.2.2.1,HS3.out.2.2.2.2.2.2.1,HS3.out.2.2.2.2.2.2.2.1,HS3.out.2.2.2.2.2.2.2.2.2.1,HS3.out.2.2.2.2.2.2.2.2.2.2.1,HS3.out.2.2.2.2.2.2.2.2.2.2.2⟩
   cases ng
   ·obtain⟨rfl,rfl⟩:=hng.out rfl
    clear kM kN hng
    obtain⟨⟨y0,y1,y2⟩,-⟩:=box_cells29 HS3.out.2.2.2.2.2.1.1
    have kk:=kP.out u3 _ HS3.out.2.2.2.2.2.1.2
    go_wp2_with fail
    refine kk.mono ?_
    rintro r u5 ⟨rfl,hb⟩
    clear kk y0 y1 y2 kP
    have HS4:Hid ((u5.heap[gX]?=some (.cells #[.bool false,.slice none 0 0,.int .i64 0] 45 (0,0)))∧(u5.heap[gY]?=some (.cells #[.bool false,.slice none 0 0,.int .i64 0] 45 (0,0)))∧(Bw w u5)∧(gX<gY)∧(w.heap.size<gX)∧(NbD u5 gl s3 ao3 n3 cp3 e3 (T1))∧(gX<gl)∧(gY<gl)∧(NbD u5 gh s4 ao4 n4 cp4 e4 (T2))∧(gX<gh)∧(gY<gh)∧(gl<gh)):=⟨(hb.block _ (Array.getElem?_eq_some_iff.1 HS3.out.1).1).trans HS3.out.1,(hb.block _ (Array.getElem?_eq_some_iff.1 HS3.out.2.1).1).trans HS3.out.2.1,HS3.out.2.2.1.trans (hb.mono HS3.out.2.2.1.size),HS3.out.2.2.2.1,HS3.out.2.2.2.2.1,HS3.out.2.2.2.2.2.1.later hb,HS3.out.2.2.2.2.2.2.1,HS3.out.2.2.2.2.2.2.2.1,HS3.out.2.2.2.2.2.2.2.2.1.later hb,HS3.out.2.2.2.2.2.2.2.2.2.1,HS3.out.2.2.2.2.2.2.2.2.2.2.1,HS3.out.2.2.2.2.2.2.2.2.2.2.2⟩
    clear HS3
    clear hb
    go_upto_region 7 with fail
    have hbx:∀ i,i<2→∃ cs T,u5.heap[(fun k=>if k=0 then gX else gY:Nat→Nat) i]?=some (.cells cs T (0,0))∧NumC cs:=fun i hi=>by
     rcases(show i=0∨i=1 by omega)with rfl|rfl
     ·exact⟨_,_,HS4.out.1,_,_,_,_,_,rfl⟩
     ·exact⟨_,_,HS4.out.2.1,_,_,_,_,_,rfl⟩
    refine q_region follows_mixed [0,1,2,3,4,5,6,7] [8,9] [39,40,41,42,43,44,45,46] [[],[],[1],[0,2],[],[],[5],[4,6]] [[3],[7]] [3,7] (fun k=>if k=0 then 8 else 9) (fun k=>if k=0 then gX else gY) w.heap.size 45 NC3 3 u5 _ [isV (.agg #[.bool s3,.slice ao3 n3 cp3,.int .i64 e3]),isV (.int .i64 (rr:Nat)),isD (un (rr:Nat) 0),isD (RA),isV (.agg #[.bool s4,.slice ao4 n4 cp4,.int .i64 e4]),isV (.int .i64 (rr:Nat)),isD (un (rr:Nat) 0),isD (RB)] (by kernel_rfl) ⟨isV_stays _,isV_stays _,isD_stays _,isD_stays _,isV_stays _,isV_stays _,isD_stays _,isD_stays _,trivial⟩ ⟨isV_rows _ _ _,isV_rows _ _ _,isD_rows3 _,isD_rows3 _,isV_rows _ _ _,isV_rows _ _ _,isD_rows3 _,isD_rows3 _,trivial⟩ (by show ∀ s ∈ [39,40,41,42,43,44,45,46],s<47;decide) ?_ ?_ Tryz.info45 ?_ ?_ ?_ ?_ HS4.out.2.2.1.size ?_
    ·intro i hi U u h
     rcases(show i=0∨i=1 by have:i<2:=hi;omega)with rfl|rfl
     ·obtain⟨s9,ao9,n9,cp9,e9,rfl⟩:=DN.shape (show DN U u _ from h)
      exact⟨_,rfl,rfl,⟨_,_,_,_,_,rfl⟩,one3 rfl rfl⟩
     ·obtain⟨s9,ao9,n9,cp9,e9,rfl⟩:=DN.shape (show DN U u _ from h)
      exact⟨_,rfl,rfl,⟨_,_,_,_,_,rfl⟩,one3 rfl rfl⟩
    ·intro j hj o ho act U hK hoth hdep hrd
     have hj':j<8:=hj
     have t10':act.tmps[(10:Nat)]?=some (Value.pointer (some ⟨gl,0,none⟩)):=(hoth 10 (by decide)).trans rfl
     have t11':act.tmps[(11:Nat)]?=some (Value.pointer (some ⟨gh,0,none⟩)):=(hoth 11 (by decide)).trans rfl
     have t3':act.tmps[(3:Nat)]?=some (Value.int .i64 (rr:Nat)):=(hoth 3 (by decide)).trans rfl
     have da:=(box_cells29 ((hK.keep gl HS4.out.2.2.2.2.2.1.lt (fun k _=>by show gl≠if k=0 then gX else gY;have:=HO.out;split <;> omega)).trans HS4.out.2.2.2.2.2.1.1)).1
     have db:=(box_cells29 ((hK.keep gh HS4.out.2.2.2.2.2.2.2.2.1.lt (fun k _=>by show gh≠if k=0 then gX else gY;have:=HO.out;split <;> omega)).trans HS4.out.2.2.2.2.2.2.2.2.1.1)).1
     rcases(by omega:j=0∨j=1∨j=2∨j=3∨j=4∨j=5∨j=6∨j=7)with rfl|rfl|rfl|rfl|rfl|rfl|rfl|rfl
     ·obtain rfl:=Option.some.inj ho
      exact .inl ⟨rfl,owp_ldD rfl t10' da.1 da.2.1 da.2.2 ⟨_,rfl,rfl,Below.refl _ _⟩⟩
     ·obtain rfl:=Option.some.inj ho
      exact .inl ⟨rfl,owp_move rfl t3' ⟨_,rfl,rfl,Below.refl _ _⟩⟩
     ·obtain rfl:=Option.some.inj ho
      have y1:act.tmps[(40:Nat)]?=_:=dV (hdep 1 (by simp[dL])) rfl
      refine .inl ⟨rfl,owp_call rfl (enters Tryz.func24 (by kernel_rfl) (by kernel_rfl)) (vs:=#[.int .i64 (rr:Nat)]) (by simp[eval_get y1]) ?_⟩
      refine(kW.out rr U (by have:=HAB.out;omega)).mono ?_
      rintro r w' ⟨s9,ao9,n9,cp9,e9,rfl,hA9,hb'⟩
      exact⟨_,rfl,_,rfl,hA9,hb'⟩
     ·obtain rfl:=Option.some.inj ho
      have y0:act.tmps[(39:Nat)]?=_:=dV (hdep 0 (by simp[dL])) rfl
      obtain⟨u2,y20,v2⟩:=hdep 2 (by simp[dL])
      have y2:act.tmps[(41:Nat)]?=_:=y20
      refine .inl ⟨rfl,owp_call rfl (enters Tryz.func33 (by kernel_rfl) (by kernel_rfl)) (vs:=#[.agg #[.bool s3,.slice ao3 n3 cp3,.int .i64 e3],u2]) (by simp[eval_get y0,eval_get y2]) ?_⟩
      refine(kU.out U _ _ (HS4.out.2.2.2.2.2.1.2.kept hK hbx) v2).mono ?_
      rintro r w' ⟨s9,ao9,n9,cp9,e9,rfl,hA9,hb'⟩
      exact⟨_,rfl,_,rfl,hA9,hb'⟩
     ·obtain rfl:=Option.some.inj ho
      exact .inl ⟨rfl,owp_ldD rfl t11' db.1 db.2.1 db.2.2 ⟨_,rfl,rfl,Below.refl _ _⟩⟩
     ·obtain rfl:=Option.some.inj ho
      exact .inl ⟨rfl,owp_move rfl t3' ⟨_,rfl,rfl,Below.refl _ _⟩⟩
     ·obtain rfl:=Option.some.inj ho
      have y5:act.tmps[(44:Nat)]?=_:=dV (hdep 5 (by simp[dL])) rfl
      refine .inl ⟨rfl,owp_call rfl (enters Tryz.func24 (by kernel_rfl) (by kernel_rfl)) (vs:=#[.int .i64 (rr:Nat)]) (by simp[eval_get y5]) ?_⟩
      refine(kW.out rr U (by have:=HAB.out;omega)).mono ?_
      rintro r w' ⟨s9,ao9,n9,cp9,e9,rfl,hA9,hb'⟩
      exact⟨_,rfl,_,rfl,hA9,hb'⟩
     ·obtain rfl:=Option.some.inj ho
      have y4:act.tmps[(43:Nat)]?=_:=dV (hdep 4 (by simp[dL])) rfl
      obtain⟨u6,y60,v6⟩:=hdep 6 (by simp[dL])
      have y6:act.tmps[(45:Nat)]?=_:=y60
      refine .inl ⟨rfl,owp_call rfl (enters Tryz.func33 (by kernel_rfl) (by kernel_rfl)) (vs:=#[.agg #[.bool s4,.slice ao4 n4 cp4,.int .i64 e4],u6]) (by simp[eval_get y4,eval_get y6]) ?_⟩
      refine(kV.out U _ _ (HS4.out.2.2.2.2.2.2.2.2.1.2.kept hK hbx) v6).mono ?_
      rintro r w' ⟨s9,ao9,n9,cp9,e9,rfl,hA9,hb'⟩
      exact⟨_,rfl,_,rfl,hA9,hb'⟩
    ·intro i hi
     rcases(show i=0∨i=1 by have:i<2:=hi;omega)with rfl|rfl
     ·exact⟨_,rfl,rfl⟩
     ·exact⟨_,rfl,rfl⟩
    ·intro i hi
     rcases(show i=0∨i=1 by have:i<2:=hi;omega)with rfl|rfl
     ·exact⟨rfl,by decide⟩
     ·exact⟨rfl,by decide⟩
    ·intro i hi
     rcases(show i=0∨i=1 by have:i<2:=hi;omega)with rfl|rfl
     ·exact⟨by show w.heap.size≤gX;have:=HO.out;omega,_,HS4.out.1,rfl,_,_,_,_,_,rfl⟩
     ·exact⟨by show w.heap.size≤gY;have:=HO.out;omega,_,HS4.out.2.1,rfl,_,_,_,_,_,rfl⟩
    ·intro i i' hi hi' he
     have e:(if i=0 then gX else gY)=(if i'=0 then gX else gY):=he
     have h1:i<2:=hi
     have h2:i'<2:=hi'
     have:=HO.out
     split at e <;> split at e <;> omega
    ·intro u U hK hu hcs
     obtain⟨csa,ya,z9⟩:=hcs 0 (by decide)
     obtain⟨csb,yb,z8⟩:=hcs 1 (by decide)
     have q9:DN U (u 3) _:=hu 3 (by show 3<8;decide)
     have ya':u 3=.agg csa:=ya
     rw[ya'] at q9
     obtain⟨s9,ao9,n9,cp9,e9,h9⟩:=DN.shape q9
     obtain rfl:=Value.agg.inj h9
     have q8:DN U (u 7) _:=hu 7 (by show 7<8;decide)
     have yb':u 7=.agg csb:=yb
     rw[yb'] at q8
     obtain⟨s8,ao8,n8,cp8,e8,h8⟩:=DN.shape q8
     obtain rfl:=Value.agg.inj h8
     clear hu hcs ya ya' yb yb'
     simp only[putL,show List.range 8 = [0,1,2,3,4,5,6,7] from rfl,List.length_cons,List.length_nil,List.getD_cons_zero,List.getD_cons_succ,List.map_cons,List.map_nil,List.cons_append,List.nil_append,List.foldl_cons,List.foldl_nil,Nat.reduceLT,Nat.reduceMod,Nat.reduceDiv,Nat.reduceMul,Nat.reduceAdd,Nat.reduceEqDiff,reduceIte,Nat.one_ne_zero,Act.put,List.setIfInBounds_toArray,List.set_cons_zero,List.set_cons_succ]
     have HE:Hid (U.heap[gX]?=some (.cells #[.bool s9,.slice ao9 n9 cp9,.int .i64 e9] 45 (0,0))∧U.heap[gY]?=some (.cells #[.bool s8,.slice ao8 n8 cp8,.int .i64 e8] 45 (0,0))∧DN U (.agg #[.bool s9,.slice ao9 n9 cp9,.int .i64 e9]) RA∧DN U (.agg #[.bool s8,.slice ao8 n8 cp8,.int .i64 e8]) RB∧Bw w U):=⟨z9,z8,q9,q8,HS4.out.2.2.1.trans hK.below⟩
     clear z9 z8 q9 q8 hK hbx HS4
     go_wp2_with fail
     refine bodyPost_ret (results_cell2 rfl _ _ gX gY 45 #[.bool s9,.slice ao9 n9 cp9,.int .i64 e9] #[.bool s8,.slice ao8 n8 cp8,.int .i64 e8] (0,0) (0,0) _ rfl rfl HE.out.1 HE.out.2.1 Tryz.underlying45 rfl Tryz.info45 Tryz.info45) rfl ?_
     exact⟨_,_,rfl,HE.out.2.2.1,HE.out.2.2.2.1,HE.out.2.2.2.2⟩
   ·have kM1:=kM.out rfl
    have kN1:=kN.out rfl
    have HM:Hid _:=kM1
    have HN:Hid _:=kN1
    clear kM kN kM1 kN1 hng
    go_upto_region 4 with fail
    have hbx:∀ i,i<2→∃ cs T,u3.heap[(fun k=>if k=0 then gl else gh:Nat→Nat) i]?=some (.cells cs T (0,0))∧NumC cs:=fun i hi=>by
     rcases(show i=0∨i=1 by omega)with rfl|rfl
     ·exact⟨_,_,HS3.out.2.2.2.2.2.1.1,_,_,_,_,_,rfl⟩
     ·exact⟨_,_,HS3.out.2.2.2.2.2.2.2.2.1.1,_,_,_,_,_,rfl⟩
    refine q_region follows_mixed [0,1,2,3] [4,5] [31,32,33,34] [[],[0],[],[2]] [[1,2],[0,3]] [1,3] (fun k=>if k=0 then 10 else 11) (fun k=>if k=0 then gl else gh) w.heap.size 45 NC3 3 u3 _ [isV (.agg #[.bool s4,.slice ao4 n4 cp4,.int .i64 e4]),isD (TA),isV (.agg #[.bool s3,.slice ao3 n3 cp3,.int .i64 e3]),isD (TB)] (by kernel_rfl) ⟨isV_stays _,isD_stays _,isV_stays _,isD_stays _,trivial⟩ ⟨isV_rows _ _ _,isD_rows3 _,isV_rows _ _ _,isD_rows3 _,trivial⟩ (by show ∀ s ∈ [31,32,33,34],s<47;decide) ?_ ?_ Tryz.info45 ?_ ?_ ?_ ?_ HS3.out.2.2.1.size ?_
    ·intro i hi U u h
     rcases(show i=0∨i=1 by have:i<2:=hi;omega)with rfl|rfl
     ·obtain⟨s9,ao9,n9,cp9,e9,rfl⟩:=DN.shape (show DN U u _ from h)
      exact⟨_,rfl,rfl,⟨_,_,_,_,_,rfl⟩,one3 rfl rfl⟩
     ·obtain⟨s9,ao9,n9,cp9,e9,rfl⟩:=DN.shape (show DN U u _ from h)
      exact⟨_,rfl,rfl,⟨_,_,_,_,_,rfl⟩,one3 rfl rfl⟩
    ·intro j hj o ho act U hK hoth hdep hrd
     have hj':j<4:=hj
     have t10':act.tmps[(10:Nat)]?=some (Value.pointer (some ⟨gl,0,none⟩)):=(hoth 10 (by decide)).trans rfl
     have t11':act.tmps[(11:Nat)]?=some (Value.pointer (some ⟨gh,0,none⟩)):=(hoth 11 (by decide)).trans rfl
     rcases(by omega:j=0∨j=1∨j=2∨j=3)with rfl|rfl|rfl|rfl
     ·obtain rfl:=Option.some.inj ho
      have db:=(box_cells29 ((hrd 1 (by decide) (by simp[dL])).trans HS3.out.2.2.2.2.2.2.2.2.1.1)).1
      exact .inl ⟨rfl,owp_ldD rfl t11' db.1 db.2.1 db.2.2 ⟨_,rfl,rfl,Below.refl _ _⟩⟩
     ·obtain rfl:=Option.some.inj ho
      have y0:act.tmps[(31:Nat)]?=_:=dV (hdep 0 (by simp[dL])) rfl
      refine .inl ⟨rfl,owp_call rfl (enters Tryz.func50 (by kernel_rfl) (by kernel_rfl)) (vs:=#[.agg #[.bool s4,.slice ao4 n4 cp4,.int .i64 e4]]) (by simp[eval_get y0]) ?_⟩
      refine(HN.out U _ (HS3.out.2.2.2.2.2.2.2.2.1.2.kept hK hbx)).mono ?_
      rintro r w' ⟨s9,ao9,n9,cp9,e9,rfl,hA9,hb'⟩
      exact⟨_,rfl,_,rfl,hA9,hb'⟩
     ·obtain rfl:=Option.some.inj ho
      have da:=(box_cells29 ((hrd 0 (by decide) (by simp[dL])).trans HS3.out.2.2.2.2.2.1.1)).1
      exact .inl ⟨rfl,owp_ldD rfl t10' da.1 da.2.1 da.2.2 ⟨_,rfl,rfl,Below.refl _ _⟩⟩
     ·obtain rfl:=Option.some.inj ho
      have y2:act.tmps[(33:Nat)]?=_:=dV (hdep 2 (by simp[dL])) rfl
      refine .inl ⟨rfl,owp_call rfl (enters Tryz.func50 (by kernel_rfl) (by kernel_rfl)) (vs:=#[.agg #[.bool s3,.slice ao3 n3 cp3,.int .i64 e3]]) (by simp[eval_get y2]) ?_⟩
      refine(HM.out U _ (HS3.out.2.2.2.2.2.1.2.kept hK hbx)).mono ?_
      rintro r w' ⟨s9,ao9,n9,cp9,e9,rfl,hA9,hb'⟩
      exact⟨_,rfl,_,rfl,hA9,hb'⟩
    ·intro i hi
     rcases(show i=0∨i=1 by have:i<2:=hi;omega)with rfl|rfl
     ·exact⟨_,rfl,rfl⟩
     ·exact⟨_,rfl,rfl⟩
    ·intro i hi
     rcases(show i=0∨i=1 by have:i<2:=hi;omega)with rfl|rfl
     ·exact⟨rfl,by decide⟩
     ·exact⟨rfl,by decide⟩
    ·intro i hi
     rcases(show i=0∨i=1 by have:i<2:=hi;omega)with rfl|rfl
     ·exact⟨by show w.heap.size≤gl;have:=HO.out;omega,_,HS3.out.2.2.2.2.2.1.1,rfl,_,_,_,_,_,rfl⟩
     ·exact⟨by show w.heap.size≤gh;have:=HO.out;omega,_,HS3.out.2.2.2.2.2.2.2.2.1.1,rfl,_,_,_,_,_,rfl⟩
    ·intro i i' hi hi' he
     have e:(if i=0 then gl else gh)=(if i'=0 then gl else gh):=he
     have h1:i<2:=hi
     have h2:i'<2:=hi'
     have:=HO.out
     split at e <;> split at e <;> omega
    ·intro u U hK hu hcs
     obtain⟨csa,ya,z9⟩:=hcs 0 (by decide)
     obtain⟨csb,yb,z8⟩:=hcs 1 (by decide)
     have q9:DN U (u 1) _:=hu 1 (by show 1<4;decide)
     have ya':u 1=.agg csa:=ya
     rw[ya'] at q9
     obtain⟨s9,ao9,n9,cp9,e9,h9⟩:=DN.shape q9
     obtain rfl:=Value.agg.inj h9
     have q8:DN U (u 3) _:=hu 3 (by show 3<4;decide)
     have yb':u 3=.agg csb:=yb
     rw[yb'] at q8
     obtain⟨s8,ao8,n8,cp8,e8,h8⟩:=DN.shape q8
     obtain rfl:=Value.agg.inj h8
     clear hu hcs ya ya' yb yb'
     simp only[putL,show List.range 4 = [0,1,2,3] from rfl,List.length_cons,List.length_nil,List.getD_cons_zero,List.getD_cons_succ,List.map_cons,List.map_nil,List.cons_append,List.nil_append,List.foldl_cons,List.foldl_nil,Nat.reduceLT,Nat.reduceMod,Nat.reduceDiv,Nat.reduceMul,Nat.reduceAdd,Nat.reduceEqDiff,reduceIte,Nat.one_ne_zero,Act.put,List.setIfInBounds_toArray,List.set_cons_zero,List.set_cons_succ]
     have HE0:Hid ((U.heap[gX]?=some (.cells #[.bool false,.slice none 0 0,.int .i64 0] 45 (0,0)))∧(U.heap[gY]?=some (.cells #[.bool false,.slice none 0 0,.int .i64 0] 45 (0,0)))∧(Bw w U)∧(NbD U gl s9 ao9 n9 cp9 e9 (TA))∧(NbD U gh s8 ao8 n8 cp8 e8 (TB))):=⟨(hK.keep gX (Array.getElem?_eq_some_iff.1 HS3.out.1).1 (fun k _=>by show gX≠if k=0 then gl else gh;have:=HO.out;split <;> omega)).trans HS3.out.1,(hK.keep gY (Array.getElem?_eq_some_iff.1 HS3.out.2.1).1 (fun k _=>by show gY≠if k=0 then gl else gh;have:=HO.out;split <;> omega)).trans HS3.out.2.1,HS3.out.2.2.1.trans hK.below,⟨z9,q9⟩,⟨z8,q8⟩⟩
     clear z9 z8 q9 q8 hK hbx HS3 HM HN
     obtain⟨sa,hr9⟩:∃ x,x=s9:=⟨_,rfl⟩
     subst hr9
     obtain⟨aoa,hr9⟩:∃ x,x=ao9:=⟨_,rfl⟩
     subst hr9
     obtain⟨na,hr9⟩:∃ x,x=n9:=⟨_,rfl⟩
     subst hr9
     obtain⟨cpa,hr9⟩:∃ x,x=cp9:=⟨_,rfl⟩
     subst hr9
     obtain⟨ea,hr9⟩:∃ x,x=e9:=⟨_,rfl⟩
     subst hr9
     obtain⟨sb,hr9⟩:∃ x,x=s8:=⟨_,rfl⟩
     subst hr9
     obtain⟨aob,hr9⟩:∃ x,x=ao8:=⟨_,rfl⟩
     subst hr9
     obtain⟨nb,hr9⟩:∃ x,x=n8:=⟨_,rfl⟩
     subst hr9
     obtain⟨cpb,hr9⟩:∃ x,x=cp8:=⟨_,rfl⟩
     subst hr9
     obtain⟨eb,hr9⟩:∃ x,x=e8:=⟨_,rfl⟩
     subst hr9
     obtain⟨⟨y0,y1,y2⟩,-⟩:=box_cells29 HE0.out.2.2.2.1.1
     have kk:=kP.out U _ HE0.out.2.2.2.1.2
     go_wp2_with fail
     refine kk.mono ?_
     rintro r u5 ⟨rfl,hb⟩
     clear kk y0 y1 y2 kP
     have HS5:Hid ((u5.heap[gX]?=some (.cells #[.bool false,.slice none 0 0,.int .i64 0] 45 (0,0)))∧(u5.heap[gY]?=some (.cells #[.bool false,.slice none 0 0,.int .i64 0] 45 (0,0)))∧(Bw w u5)∧(NbD u5 gl sa aoa na cpa ea (TA))∧(NbD u5 gh sb aob nb cpb eb (TB))):=⟨(hb.block _ (Array.getElem?_eq_some_iff.1 HE0.out.1).1).trans HE0.out.1,(hb.block _ (Array.getElem?_eq_some_iff.1 HE0.out.2.1).1).trans HE0.out.2.1,HE0.out.2.2.1.trans (hb.mono HE0.out.2.2.1.size),HE0.out.2.2.2.1.later hb,HE0.out.2.2.2.2.later hb⟩
     clear HE0
     clear hb
     go_upto_region 7 with fail
     have hbx:∀ i,i<2→∃ cs T,u5.heap[(fun k=>if k=0 then gX else gY:Nat→Nat) i]?=some (.cells cs T (0,0))∧NumC cs:=fun i hi=>by
      rcases(show i=0∨i=1 by omega)with rfl|rfl
      ·exact⟨_,_,HS5.out.1,_,_,_,_,_,rfl⟩
      ·exact⟨_,_,HS5.out.2.1,_,_,_,_,_,rfl⟩
     refine q_region follows_mixed [0,1,2,3,4,5,6,7] [8,9] [39,40,41,42,43,44,45,46] [[],[],[1],[0,2],[],[],[5],[4,6]] [[3],[7]] [3,7] (fun k=>if k=0 then 8 else 9) (fun k=>if k=0 then gX else gY) w.heap.size 45 NC3 3 u5 _ [isV (.agg #[.bool sa,.slice aoa na cpa,.int .i64 ea]),isV (.int .i64 (rr:Nat)),isD (un (rr:Nat) 0),isD (RA),isV (.agg #[.bool sb,.slice aob nb cpb,.int .i64 eb]),isV (.int .i64 (rr:Nat)),isD (un (rr:Nat) 0),isD (RB)] (by kernel_rfl) ⟨isV_stays _,isV_stays _,isD_stays _,isD_stays _,isV_stays _,isV_stays _,isD_stays _,isD_stays _,trivial⟩ ⟨isV_rows _ _ _,isV_rows _ _ _,isD_rows3 _,isD_rows3 _,isV_rows _ _ _,isV_rows _ _ _,isD_rows3 _,isD_rows3 _,trivial⟩ (by show ∀ s ∈ [39,40,41,42,43,44,45,46],s<47;decide) ?_ ?_ Tryz.info45 ?_ ?_ ?_ ?_ HS5.out.2.2.1.size ?_
     ·intro i hi U u h
      rcases(show i=0∨i=1 by have:i<2:=hi;omega)with rfl|rfl
      ·obtain⟨s9,ao9,n9,cp9,e9,rfl⟩:=DN.shape (show DN U u _ from h)
       exact⟨_,rfl,rfl,⟨_,_,_,_,_,rfl⟩,one3 rfl rfl⟩
      ·obtain⟨s9,ao9,n9,cp9,e9,rfl⟩:=DN.shape (show DN U u _ from h)
       exact⟨_,rfl,rfl,⟨_,_,_,_,_,rfl⟩,one3 rfl rfl⟩
     ·intro j hj o ho act U hK hoth hdep hrd
      have hj':j<8:=hj
      have t10':act.tmps[(10:Nat)]?=some (Value.pointer (some ⟨gl,0,none⟩)):=(hoth 10 (by decide)).trans rfl
      have t11':act.tmps[(11:Nat)]?=some (Value.pointer (some ⟨gh,0,none⟩)):=(hoth 11 (by decide)).trans rfl
      have t3':act.tmps[(3:Nat)]?=some (Value.int .i64 (rr:Nat)):=(hoth 3 (by decide)).trans rfl
      have da:=(box_cells29 ((hK.keep gl HS5.out.2.2.2.1.lt (fun k _=>by show gl≠if k=0 then gX else gY;have:=HO.out;split <;> omega)).trans HS5.out.2.2.2.1.1)).1
      have db:=(box_cells29 ((hK.keep gh HS5.out.2.2.2.2.lt (fun k _=>by show gh≠if k=0 then gX else gY;have:=HO.out;split <;> omega)).trans HS5.out.2.2.2.2.1)).1
      rcases(by omega:j=0∨j=1∨j=2∨j=3∨j=4∨j=5∨j=6∨j=7)with rfl|rfl|rfl|rfl|rfl|rfl|rfl|rfl
      ·obtain rfl:=Option.some.inj ho
       exact .inl ⟨rfl,owp_ldD rfl t10' da.1 da.2.1 da.2.2 ⟨_,rfl,rfl,Below.refl _ _⟩⟩
      ·obtain rfl:=Option.some.inj ho
       exact .inl ⟨rfl,owp_move rfl t3' ⟨_,rfl,rfl,Below.refl _ _⟩⟩
      ·obtain rfl:=Option.some.inj ho
       have y1:act.tmps[(40:Nat)]?=_:=dV (hdep 1 (by simp[dL])) rfl
       refine .inl ⟨rfl,owp_call rfl (enters Tryz.func24 (by kernel_rfl) (by kernel_rfl)) (vs:=#[.int .i64 (rr:Nat)]) (by simp[eval_get y1]) ?_⟩
       refine(kW.out rr U (by have:=HAB.out;omega)).mono ?_
       rintro r w' ⟨s9,ao9,n9,cp9,e9,rfl,hA9,hb'⟩
       exact⟨_,rfl,_,rfl,hA9,hb'⟩
      ·obtain rfl:=Option.some.inj ho
       have y0:act.tmps[(39:Nat)]?=_:=dV (hdep 0 (by simp[dL])) rfl
       obtain⟨u2,y20,v2⟩:=hdep 2 (by simp[dL])
       have y2:act.tmps[(41:Nat)]?=_:=y20
       refine .inl ⟨rfl,owp_call rfl (enters Tryz.func33 (by kernel_rfl) (by kernel_rfl)) (vs:=#[.agg #[.bool sa,.slice aoa na cpa,.int .i64 ea],u2]) (by simp[eval_get y0,eval_get y2]) ?_⟩
       refine(kU.out U _ _ (HS5.out.2.2.2.1.2.kept hK hbx) v2).mono ?_
       rintro r w' ⟨s9,ao9,n9,cp9,e9,rfl,hA9,hb'⟩
       exact⟨_,rfl,_,rfl,hA9,hb'⟩
      ·obtain rfl:=Option.some.inj ho
       exact .inl ⟨rfl,owp_ldD rfl t11' db.1 db.2.1 db.2.2 ⟨_,rfl,rfl,Below.refl _ _⟩⟩
      ·obtain rfl:=Option.some.inj ho
       exact .inl ⟨rfl,owp_move rfl t3' ⟨_,rfl,rfl,Below.refl _ _⟩⟩
      ·obtain rfl:=Option.some.inj ho
       have y5:act.tmps[(44:Nat)]?=_:=dV (hdep 5 (by simp[dL])) rfl
       refine .inl ⟨rfl,owp_call rfl (enters Tryz.func24 (by kernel_rfl) (by kernel_rfl)) (vs:=#[.int .i64 (rr:Nat)]) (by simp[eval_get y5]) ?_⟩
       refine(kW.out rr U (by have:=HAB.out;omega)).mono ?_
       rintro r w' ⟨s9,ao9,n9,cp9,e9,rfl,hA9,hb'⟩
       exact⟨_,rfl,_,rfl,hA9,hb'⟩
      ·obtain rfl:=Option.some.inj ho
       have y4:act.tmps[(43:Nat)]?=_:=dV (hdep 4 (by simp[dL])) rfl
       obtain⟨u6,y60,v6⟩:=hdep 6 (by simp[dL])
       have y6:act.tmps[(45:Nat)]?=_:=y60
       refine .inl ⟨rfl,owp_call rfl (enters Tryz.func33 (by kernel_rfl) (by kernel_rfl)) (vs:=#[.agg #[.bool sb,.slice aob nb cpb,.int .i64 eb],u6]) (by simp[eval_get y4,eval_get y6]) ?_⟩
       refine(kV.out U _ _ (HS5.out.2.2.2.2.2.kept hK hbx) v6).mono ?_
       rintro r w' ⟨s9,ao9,n9,cp9,e9,rfl,hA9,hb'⟩
       exact⟨_,rfl,_,rfl,hA9,hb'⟩
     ·intro i hi
      rcases(show i=0∨i=1 by have:i<2:=hi;omega)with rfl|rfl
      ·exact⟨_,rfl,rfl⟩
      ·exact⟨_,rfl,rfl⟩
     ·intro i hi
      rcases(show i=0∨i=1 by have:i<2:=hi;omega)with rfl|rfl
      ·exact⟨rfl,by decide⟩
      ·exact⟨rfl,by decide⟩
     ·intro i hi
      rcases(show i=0∨i=1 by have:i<2:=hi;omega)with rfl|rfl
      ·exact⟨by show w.heap.size≤gX;have:=HO.out;omega,_,HS5.out.1,rfl,_,_,_,_,_,rfl⟩
      ·exact⟨by show w.heap.size≤gY;have:=HO.out;omega,_,HS5.out.2.1,rfl,_,_,_,_,_,rfl⟩
     ·intro i i' hi hi' he
      have e:(if i=0 then gX else gY)=(if i'=0 then gX else gY):=he
      have h1:i<2:=hi
      have h2:i'<2:=hi'
      have:=HO.out
      split at e <;> split at e <;> omega
     ·intro u U hK hu hcs
      obtain⟨csa,ya,z9⟩:=hcs 0 (by decide)
      obtain⟨csb,yb,z8⟩:=hcs 1 (by decide)
      have q9:DN U (u 3) _:=hu 3 (by show 3<8;decide)
      have ya':u 3=.agg csa:=ya
      rw[ya'] at q9
      obtain⟨s9,ao9,n9,cp9,e9,h9⟩:=DN.shape q9
      obtain rfl:=Value.agg.inj h9
      have q8:DN U (u 7) _:=hu 7 (by show 7<8;decide)
      have yb':u 7=.agg csb:=yb
      rw[yb'] at q8
      obtain⟨s8,ao8,n8,cp8,e8,h8⟩:=DN.shape q8
      obtain rfl:=Value.agg.inj h8
      clear hu hcs ya ya' yb yb'
      simp only[putL,show List.range 8 = [0,1,2,3,4,5,6,7] from rfl,List.length_cons,List.length_nil,List.getD_cons_zero,List.getD_cons_succ,List.map_cons,List.map_nil,List.cons_append,List.nil_append,List.foldl_cons,List.foldl_nil,Nat.reduceLT,Nat.reduceMod,Nat.reduceDiv,Nat.reduceMul,Nat.reduceAdd,Nat.reduceEqDiff,reduceIte,Nat.one_ne_zero,Act.put,List.setIfInBounds_toArray,List.set_cons_zero,List.set_cons_succ]
      have HE:Hid (U.heap[gX]?=some (.cells #[.bool s9,.slice ao9 n9 cp9,.int .i64 e9] 45 (0,0))∧U.heap[gY]?=some (.cells #[.bool s8,.slice ao8 n8 cp8,.int .i64 e8] 45 (0,0))∧DN U (.agg #[.bool s9,.slice ao9 n9 cp9,.int .i64 e9]) RA∧DN U (.agg #[.bool s8,.slice ao8 n8 cp8,.int .i64 e8]) RB∧Bw w U):=⟨z9,z8,q9,q8,HS5.out.2.2.1.trans hK.below⟩
      clear z9 z8 q9 q8 hK hbx HS5
      go_wp2_with fail
      refine bodyPost_ret (results_cell2 rfl _ _ gX gY 45 #[.bool s9,.slice ao9 n9 cp9,.int .i64 e9] #[.bool s8,.slice ao8 n8 cp8,.int .i64 e8] (0,0) (0,0) _ rfl rfl HE.out.1 HE.out.2.1 Tryz.underlying45 rfl Tryz.info45 Tryz.info45) rfl ?_
      exact⟨_,_,rfl,HE.out.2.2.1,HE.out.2.2.2.1,HE.out.2.2.2.2⟩
theorem sgnZ {x:Int} {q b:Nat} {A:Value} {w:World} (hx:x≠0) (hb:x.natAbs<2^b) (hb2:b≤60000) (hq:q≤60000) (h:DN w A (un x q)):Calls Tryz.prog 58 #[A] w fun r w'=>r=.returned (.int .i64 (if x<0 then -1 else 1))∧Bw w w':=by
 by_cases hn:x<0
 ·rw[if_pos hn]
  have k:=sgn_un (Z:=x.natAbs) (q:=q) (b:=b) (s:=true) (A:=A) (w:=w) (by omega) hb hb2 hq (by rw[if_pos rfl,show -((x.natAbs:Nat):Int)=x by omega];exact h)
  exact k
 ·rw[if_neg hn]
  have k:=sgn_un (Z:=x.natAbs) (q:=q) (b:=b) (s:=false) (A:=A) (w:=w) (by omega) hb hb2 hq (by rw[if_neg (by decide),show((x.natAbs:Nat):Int)=x by omega];exact h)
  exact k
def apL (ng:Bool) (lo hi:Int) (Q p q:Nat):Int:=if ng then(p:Int)*((2^Q:Nat):Int) - hi*q else lo*q - (p:Int)*((2^Q:Nat):Int)
def apH (ng:Bool) (lo hi:Int) (Q p q:Nat):Int:=if ng then(p:Int)*((2^Q:Nat):Int) - lo*q else hi*q - (p:Int)*((2^Q:Nat):Int)
theorem abs_sub2 {x y:Int} {k:Nat} (hx:x.natAbs<2^k) (hy:y.natAbs<2^k):(x - y).natAbs<2^(k+1):=by rw[Nat.pow_succ];omega
theorem dless0 {x:Int} {p k Q:Nat} {X Y:Value} {W:World} (hx:x.natAbs<2^k) (hp:p<2^41) (hk:Q+41≤k) (hk2:k≤40000) (hX:DN W X (un x (Q+0))) (hY:DN W Y (un (p:Nat) 0)) :
  Calls Tryz.prog 57 #[X,Y] W fun r w'=>OutD W (un (x - (p:Int)*((2^Q:Nat):Int)) Q) r w':=by
 rw[un_shift _ 0 Q,Nat.zero_add] at hY
 refine dlessZ (k:=k) hx ?_ (by omega) (by omega) hX hY
 refine Nat.lt_of_lt_of_le (shl_lt2 (k:=41) hp) (Nat.pow_le_pow_right (by decide) (by omega))
theorem dapart_ok {lo hi:Int} {Q p q rr:Nat} {ng:Bool} {U:Value} {w:World} (hU:DB w U (un lo Q) (un hi Q)) (hlo:lo.natAbs<2^(Q+3)) (hhi:hi.natAbs<2^(Q+3)) (hQ:Q≤1000) (hp:p≤1099511627776) (hq:q≤4294967296) (hr:rr≤4294967296)
  (hs:if ng then lo*q<(p:Int)*((2^Q:Nat):Int)∧hi*q<(p:Int)*((2^Q:Nat):Int) else(p:Int)*((2^Q:Nat):Int)<lo*q∧(p:Int)*((2^Q:Nat):Int)<hi*q) :
  Calls Tryz.prog 18 #[U,.int .i64 (p:Nat),.int .i64 (q:Nat),.int .i64 (rr:Nat)] w fun r w'=>∃ A C,r=.returned (.tuple #[A,C])∧DN w' A (un (apL ng lo hi Q p q*rr) Q)∧DN w' C (un (apH ng lo hi Q p q*rr) Q)∧Bw w w':=by
 have hq':q<2^33:=Nat.lt_of_le_of_lt hq (by decide)
 have hr':rr<2^33:=Nat.lt_of_le_of_lt hr (by decide)
 have hp':p<2^41:=Nat.lt_of_le_of_lt hp (by decide)
 have b1:(lo*(q:Int)).natAbs<2^(Q+44):=Nat.lt_of_lt_of_le (mul_lt2 hlo hq') (Nat.pow_le_pow_right (by decide) (by omega))
 have b2:(hi*(q:Int)).natAbs<2^(Q+44):=Nat.lt_of_lt_of_le (mul_lt2 hhi hq') (Nat.pow_le_pow_right (by decide) (by omega))
 have b3:((p:Int)*((2^Q:Nat):Int)).natAbs<2^(Q+44):=Nat.lt_of_lt_of_le (shl_lt2 (k:=41) hp') (Nat.pow_le_pow_right (by decide) (by omega))
 have d1:=abs_sub2 b1 b3
 have d2:=abs_sub2 b2 b3
 have d3:=abs_sub2 b3 b1
 have d4:=abs_sub2 b3 b2
 obtain⟨s1,ao1,n1,cp1,e1,s2,ao2,n2,cp2,e2,rfl,g1,g2⟩:=hU
 refine dapart_1 s1 ao1 n1 cp1 e1 s2 ao2 n2 cp2 e2 (un lo Q) (un hi Q) (un (lo*q) (Q+0)) (un (hi*q) (Q+0)) (un (lo*q - (p:Int)*((2^Q:Nat):Int)) Q) (un (hi*q - (p:Int)*((2^Q:Nat):Int)) Q) (un (apL ng lo hi Q p q) Q) (un (apH ng lo hi Q p q) Q) (un (apL ng lo hi Q p q*rr) Q) (un (apH ng lo hi Q p q*rr) Q) ng p q rr w g1 g2 hp (by omega) (by omega) ?_ ?_ ?_ ?_ ?_ ?_ ?_ ?_ ?_ ?_ ?_ ?_
 ·exact fun n W hn=>dwholeN (by omega)
 ·exact fun W X Y hX hY=>dmulZ (k:=Q+3) (l:=33) hlo (nat_lt2 hq') (by omega) (by omega) (by omega) (by omega) hX hY
 ·exact fun W X Y hX hY=>dmulZ (k:=Q+3) (l:=33) hhi (nat_lt2 hq') (by omega) (by omega) (by omega) (by omega) hX hY
 ·exact fun W X Y hX hY=>dless0 (k:=Q+44) b1 hp' (by omega) (by omega) hX hY
 ·exact fun W X Y hX hY=>dless0 (k:=Q+44) b2 hp' (by omega) (by omega) hX hY
 ·intro W X hX
  cases ng
  ·simp only[Bool.false_eq_true,if_false] at hs
   have k:=sgnZ (b:=Q+45) (by omega) d2 (by omega) (by omega) hX
   rw[if_neg (by omega)] at k
   exact k
  ·simp only[if_true] at hs
   have k:=sgnZ (b:=Q+45) (by omega) d2 (by omega) (by omega) hX
   rw[if_pos (by omega)] at k
   exact k
 ·rintro rfl W X hX
  have k:=gminus hX
  rw[gN_un] at k
  unfold apH
  rw[if_pos rfl,show(p:Int)*((2^Q:Nat):Int) - lo*q = -(lo*q - (p:Int)*((2^Q:Nat):Int)) by omega]
  exact k.mono fun r w' h=>outD h
 ·rintro rfl W X hX
  have k:=gminus hX
  rw[gN_un] at k
  unfold apL
  rw[if_pos rfl,show(p:Int)*((2^Q:Nat):Int) - hi*q = -(hi*q - (p:Int)*((2^Q:Nat):Int)) by omega]
  exact k.mono fun r w' h=>outD h
 ·rintro rfl
  exact⟨rfl,rfl⟩
 ·intro W X hX
  cases ng
  ·simp only[Bool.false_eq_true,if_false] at hs
   have k:=sgnZ (b:=Q+45) (x:=lo*q - (p:Int)*((2^Q:Nat):Int)) (by omega) d1 (by omega) (by omega) hX
   rw[if_neg (by omega)] at k
   exact k
  ·simp only[if_true] at hs
   have k:=sgnZ (b:=Q+45) (x:=(p:Int)*((2^Q:Nat):Int) - hi*q) (by omega) d4 (by omega) (by omega) hX
   rw[if_neg (by omega)] at k
   exact k
 ·intro W X Y hX hY
  exact dmulZ (k:=Q+45) (l:=33) (q:=0) (by unfold apL;cases ng <;> assumption) (nat_lt2 hr') (by omega) (by omega) (by omega) (by omega) hX hY
 ·intro W X Y hX hY
  exact dmulZ (k:=Q+45) (l:=33) (q:=0) (by unfold apH;cases ng <;> assumption) (nat_lt2 hr') (by omega) (by omega) (by omega) (by omega) hX hY
theorem side_num {lo hi:Int} {Q most a b c d p q:Nat} (hle:lo≤hi) (hP:Pair lo hi Q most a b c d) (hq:1≤q) (hqm:q≤most) :
  ((p:Int)*((2^Q:Nat):Int)<lo*q∧(p:Int)*b≤a*q)∨(hi*q<(p:Int)*((2^Q:Nat):Int)∧(c:Int)*q≤p*d):=by
 have hX:(0:Int)<((2^Q:Nat):Int):=by have:=Nat.two_pow_pos Q;omega
 have hb:=hP.b0
 have hd:=hP.d0
 have l2:=hP.hg
 have l3:=hP.lw
 have hmx:=hP.mx
 have n1:(b:Int)*c=a*d+1:=by have:=hP.nb;rw[←Int.natCast_mul,this];rfl
 generalize ((2^Q:Nat):Int)=X at *
 have no:(a:Int)*q<p*b→(p:Int)*d<c*q→False:=fun v1 v2=>by
  have:=btwn (a:=a) (b:=b) (c:=c) (d:=d) (p:=p) (q:=q) n1 (by omega) (by omega) v1 v2
  omega
 have qh:hi*d*q<c*X*q:=Int.mul_lt_mul_of_pos_right l2 (by omega)
 have ql:a*X*q<lo*b*q:=Int.mul_lt_mul_of_pos_right l3 (by omega)
 have ll:lo*q≤hi*q:=Int.mul_le_mul_of_nonneg_right hle (by omega)
 by_cases h:(p:Int)*X<lo*q
 ·refine .inl ⟨h,?_⟩
  apply Int.not_lt.1
  intro h2
  refine no h2 (Int.lt_of_mul_lt_mul_right (a:=X) ?_ (by omega))
  have m1:(p:Int)*X*d<lo*q*d:=Int.mul_lt_mul_of_pos_right h (by omega)
  have m2:lo*q*d≤hi*q*d:=Int.mul_le_mul_of_nonneg_right ll (by omega)
  rw[Int.mul_right_comm (p:Int) d X,Int.mul_right_comm (c:Int) q X]
  rw[Int.mul_right_comm hi q d] at m2
  omega
 ·have h':lo*q≤(p:Int)*X:=by omega
  have v1:(a:Int)*q<p*b:=by
   refine Int.lt_of_mul_lt_mul_right (a:=X) ?_ (by omega)
   have m1:lo*q*b≤(p:Int)*X*b:=Int.mul_le_mul_of_nonneg_right h' (by omega)
   rw[Int.mul_right_comm (p:Int) b X,Int.mul_right_comm (a:Int) q X]
   rw[Int.mul_right_comm lo q b] at m1
   omega
  have h3:hi*q<(p:Int)*X:=by
   apply Int.not_le.1
   intro h4
   refine no v1 (Int.lt_of_mul_lt_mul_right (a:=X) ?_ (by omega))
   have m1:(p:Int)*X*d≤hi*q*d:=Int.mul_le_mul_of_nonneg_right h4 (by omega)
   rw[Int.mul_right_comm (p:Int) d X,Int.mul_right_comm (c:Int) q X]
   rw[Int.mul_right_comm hi q d] at m1
   omega
  refine .inr ⟨h3,?_⟩
  apply Int.not_lt.1
  exact fun h2=>no v1 h2
theorem near_lo {lo hi X a b c d p q:Int} (hle:lo≤hi) (hb:0<b) (hd:0<d) (hq:0<q) (hX:0<X) (hm:hi*(2*(b*d))<(a*d+c*b)*X) :
  (p*b≤a*q→(lo*b - a*X)*q≤(hi*q - p*X)*b)∧(c*q≤p*d→(lo*b - a*X)*q≤(p*X - lo*q)*b):=by
 have hbq:0≤b*q:=Int.le_of_lt (Int.mul_pos hb hq)
 constructor
 ·intro h
  have m1:p*b*X≤a*q*X:=Int.mul_le_mul_of_nonneg_right h (by omega)
  have m2:lo*(b*q)≤hi*(b*q):=Int.mul_le_mul_of_nonneg_right hle hbq
  have e1:(lo*b - a*X)*q=lo*(b*q) - a*q*X:=by grind
  have e2:(hi*q - p*X)*b=hi*(b*q) - p*b*X:=by grind
  omega
 ·intro h
  have m1:c*q*(b*X)≤p*d*(b*X):=Int.mul_le_mul_of_nonneg_right h (Int.le_of_lt (Int.mul_pos hb hX))
  have m2:hi*(2*(b*d))*q<(a*d+c*b)*X*q:=Int.mul_lt_mul_of_pos_right hm hq
  have m3:lo*(2*(b*d)*q)≤hi*(2*(b*d)*q):=Int.mul_le_mul_of_nonneg_right hle (Int.le_of_lt (Int.mul_pos (Int.mul_pos (by omega) (Int.mul_pos hb hd)) hq))
  have e1:(lo*b - a*X)*q*d=lo*(b*q*d) - a*q*X*d:=by grind
  have e2:(p*X - lo*q)*b*d=p*d*(b*X) - lo*(b*q*d):=by grind
  have e3:hi*(2*(b*d))*q=hi*(2*(b*d)*q):=by grind
  have e4:(a*d+c*b)*X*q=a*q*X*d+c*q*(b*X):=by grind
  have e5:lo*(2*(b*d)*q)=2*(lo*(b*q*d)):=by grind
  refine Int.le_of_mul_le_mul_right (a:=d) ?_ hd
  omega
theorem near_hi {lo hi X a b c d p q:Int} (hle:lo≤hi) (hb:0<b) (hd:0<d) (hq:0<q) (hX:0<X) (hm:(a*d+c*b)*X<lo*(2*(b*d))) :
  (p*b≤a*q→(c*X - hi*d)*q≤(hi*q - p*X)*d)∧(c*q≤p*d→(c*X - hi*d)*q≤(p*X - lo*q)*d):=by
 have hdq:0≤d*q:=Int.le_of_lt (Int.mul_pos hd hq)
 constructor
 ·intro h
  have m1:p*b*(d*X)≤a*q*(d*X):=Int.mul_le_mul_of_nonneg_right h (Int.le_of_lt (Int.mul_pos hd hX))
  have m2:(a*d+c*b)*X*q<lo*(2*(b*d))*q:=Int.mul_lt_mul_of_pos_right hm hq
  have m3:lo*(2*(b*d)*q)≤hi*(2*(b*d)*q):=Int.mul_le_mul_of_nonneg_right hle (Int.le_of_lt (Int.mul_pos (Int.mul_pos (by omega) (Int.mul_pos hb hd)) hq))
  have e1:(c*X - hi*d)*q*b=c*q*(b*X) - hi*(b*q*d):=by grind
  have e2:(hi*q - p*X)*d*b=hi*(b*q*d) - p*b*(d*X):=by grind
  have e3:lo*(2*(b*d))*q=lo*(2*(b*d)*q):=by grind
  have e4:(a*d+c*b)*X*q=a*q*(d*X)+c*q*(b*X):=by grind
  have e5:hi*(2*(b*d)*q)=2*(hi*(b*q*d)):=by grind
  refine Int.le_of_mul_le_mul_right (a:=b) ?_ hb
  omega
 ·intro h
  have m1:c*q*X≤p*d*X:=Int.mul_le_mul_of_nonneg_right h (by omega)
  have m2:lo*(d*q)≤hi*(d*q):=Int.mul_le_mul_of_nonneg_right hle hdq
  have e1:(c*X - hi*d)*q=c*q*X - hi*(d*q):=by grind
  have e2:(p*X - lo*q)*d=p*d*X - lo*(d*q):=by grind
  omega
def SideOk (ng:Bool) (lo hi:Int) (Q p q:Nat):Prop:=if ng then lo*q<(p:Int)*((2^Q:Nat):Int)∧hi*q<(p:Int)*((2^Q:Nat):Int) else(p:Int)*((2^Q:Nat):Int)<lo*q∧(p:Int)*((2^Q:Nat):Int)<hi*q
theorem near_all {k most Q p q:Nat} {lo hi:Int} (h1:1≤k) (h8:k≤8) (hE:EB k 200 lo hi Q) (hm1:1≤most) (hm2:most≤1073741824) (hq:1≤q) (hqm:q≤most) :
  ∃ n1 n2:Bool,(endK k most 400 (whK k) 1 (whK k+1) 1).2≤most∧SideOk n1 lo hi Q (endK k most 400 (whK k) 1 (whK k+1) 1).1 (endK k most 400 (whK k) 1 (whK k+1) 1).2∧SideOk n2 lo hi Q p q ∧
   apL n1 lo hi Q (endK k most 400 (whK k) 1 (whK k+1) 1).1 (endK k most 400 (whK k) 1 (whK k+1) 1).2*q≤apH n2 lo hi Q p q*(endK k most 400 (whK k) 1 (whK k+1) 1).2:=by
 obtain⟨a,b,c,d,hP,hend,hmid⟩:=pair_start h1 h8 hE hm1 hm2
 have hle:=hE.le
 have hs:=side_num (p:=p) hle hP hq hqm
 have hX:(0:Int)<((2^Q:Nat):Int):=by have:=Nat.two_pow_pos Q;omega
 have hb:=hP.b0
 have hd:=hP.d0
 have l2:=hP.hg
 have l3:=hP.lw
 have lb:lo*b≤hi*b:=Int.mul_le_mul_of_nonneg_right hle (by omega)
 have ld:lo*d≤hi*d:=Int.mul_le_mul_of_nonneg_right hle (by omega)
 have lq:lo*q≤hi*q:=Int.mul_le_mul_of_nonneg_right hle (by omega)
 have e2:((2*b*d:Nat):Int)=2*((b:Int)*d):=by rw[Nat.mul_assoc,Int.natCast_mul,Int.natCast_mul];rfl
 have e3:((a*d+c*b:Nat):Int)=(a:Int)*d+c*b:=by rw[Int.natCast_add,Int.natCast_mul,Int.natCast_mul]
 rw[e2,e3] at hmid
 rw[hend]
 unfold SideOk apL apH
 cases hu:upK k (a*d+c*b) (2*b*d)
 ·rw[hu,if_neg (by decide)] at hmid
  rw[if_neg (by decide)]
  have hn:=near_lo (p:=p) (q:=q) hle (by omega) (by omega) (by omega) hX hmid
  rcases hs with ⟨x,y⟩|⟨x,y⟩
  ·exact⟨false,false,hP.bm,⟨l3,Int.lt_of_lt_of_le l3 lb⟩,⟨x,Int.lt_of_lt_of_le x lq⟩,hn.1 y⟩
  ·exact⟨false,true,hP.bm,⟨l3,Int.lt_of_lt_of_le l3 lb⟩,⟨Int.lt_of_le_of_lt lq x,x⟩,hn.2 y⟩
 ·rw[hu,if_pos rfl] at hmid
  rw[if_pos rfl]
  have hn:=near_hi (p:=p) (q:=q) hle (by omega) (by omega) (by omega) hX hmid
  rcases hs with ⟨x,y⟩|⟨x,y⟩
  ·exact⟨true,false,hP.dm,⟨Int.lt_of_le_of_lt ld l2,l2⟩,⟨x,Int.lt_of_lt_of_le x lq⟩,hn.1 y⟩
  ·exact⟨true,true,hP.dm,⟨Int.lt_of_le_of_lt ld l2,l2⟩,⟨Int.lt_of_le_of_lt lq x,x⟩,hn.2 y⟩
end Go.Proofs.YtapooodfgcjoaaaGreat
namespace Go.Proofs.YtapooodfgcjoaaaGreat
open Go.RowKit
theorem bdb_other2 {W:World} {g k:Nat} {a1:Option Addr} {n1 c1:Nat} {a2:Option Addr} {n2 c2:Nat} {q:Int} (h:BdB W k a1 n1 c1 a2 n2 c2 q) (hk:k≠g) (a b:Value):BdB ((W.setCell ⟨g,0,none⟩ a).setCell ⟨g,1,none⟩ b) k a1 n1 c1 a2 n2 c2 q:=by
 unfold BdB at *
 have h':¬ g=k:=fun e=>hk e.symm
 simp[World.setCell,Array.getElem?_modify,h',h]
theorem bbest_1 {a1 : Option Addr} {n1 c1 : Nat} {a2 : Option Addr} {n2 c2 : Nat} {q : Int} {wh most N : Nat} {R1 R2 : Nat} {w : World} (St : Nat → Nat → Nat → Nat → Nat → Prop)
    (kO : Hid (∀ W, Calls Tryz.prog 69 #[.int .u64 1] W fun r w' => ∃ ao l cap, r = .returned (.slice ao l cap) ∧ Hid (Is w' (.slice ao l cap) 1) ∧ Bw W w'))
    (kF : Hid (∀ W X, Bw w W → Is W X 1 → Calls Tryz.prog 27 #[.agg #[.slice a1 n1 c1, .slice a2 n2 c2, .int .i64 q], X] W fun r w' => ∃ ao l cap, r = .returned (.tuple #[.slice ao l cap, .bool true]) ∧ Hid (Is w' (.slice ao l cap) wh) ∧ Bw W w'))
    (hs0 : St N wh 1 (wh + 1) 1) (hwh : wh + 1 < 18446744073709551616) (hsz : Hid (∀ n a b c d, St n a b c d → b + d < 18446744073709551616))
    (kN : Hid (∀ n a b c d, St n a b c d → b + d ≤ most → ∃ m a' b' c' d' p s, m < n ∧ St m a' b' c' d' ∧ (∀ W, Calls Tryz.prog 88 #[.agg #[.int .u64 (a : Nat), .int .u64 (b : Nat)], .agg #[.int .u64 (c : Nat), .int .u64 (d : Nat)]] W fun r w' => r = .returned (.agg #[.int .u64 (p : Nat), .int .u64 (s : Nat)]) ∧ Bw W w') ∧
      ∀ W, Bw w W → Calls Tryz.prog 87 #[.agg #[.slice a1 n1 c1, .slice a2 n2 c2, .int .i64 q], .agg #[.int .u64 (a : Nat), .int .u64 (b : Nat)], .agg #[.int .u64 (c : Nat), .int .u64 (d : Nat)], .agg #[.int .u64 (p : Nat), .int .u64 (s : Nat)]] W fun r w' => r = .returned (.tuple #[.agg #[.int .u64 (a' : Nat), .int .u64 (b' : Nat)], .agg #[.int .u64 (c' : Nat), .int .u64 (d' : Nat)], .bool true]) ∧ Bw W w'))
    (kX : Hid (∀ n a b c d, St n a b c d → ¬ b + d ≤ most → ∃ (p s : Nat) (up : Bool), (∀ W, Calls Tryz.prog 90 #[.agg #[.int .u64 (a : Nat), .int .u64 (b : Nat)], .agg #[.int .u64 (c : Nat), .int .u64 (d : Nat)]] W fun r w' => r = .returned (.agg #[.int .u64 (p : Nat), .int .u64 (s : Nat)]) ∧ Bw W w') ∧
      (∀ W, Bw w W → Calls Tryz.prog 89 #[.agg #[.slice a1 n1 c1, .slice a2 n2 c2, .int .i64 q], .agg #[.int .u64 (p : Nat), .int .u64 (s : Nat)]] W fun r w' => r = .returned (.tuple #[.int .i64 (if up then 1 else -1), .bool true]) ∧ Bw W w') ∧ R1 = (if up then c else a) ∧ R2 = (if up then d else b)))
    (kW : Hid (∀ W X, Is W X wh → Calls Tryz.prog 86 #[X] W fun r w' => r = .returned (.int .u64 wh) ∧ Bw W w')) :
    Calls Tryz.prog 34 #[.agg #[.slice a1 n1 c1, .slice a2 n2 c2, .int .i64 q], .int .u64 most] w fun r w' => r = .returned (.tuple #[.agg #[.int .u64 R1, .int .u64 R2], .bool true]) ∧ Bw w w' := by
  have hPB : Hid (Bw w w) := Below.refl _ _
  have hl : Hid (∀ W W', Bw w W → Bw W W' → Bw w W') := fun W W' a b => a.trans (b.mono a.size)
  obtain ⟨V1, hV1⟩ : ∃ V, V = w.alloc (.cells #[.slice a1 n1 c1, .slice a2 n2 c2, .int .i64 q] 64) := ⟨_, rfl⟩
  obtain ⟨W, hW⟩ : ∃ V, V = V1.alloc (.cells #[.int .u64 0, .int .u64 0] 71) := ⟨_, rfl⟩
  have z1 : V1.heap.size = w.heap.size + 1 := by rw [hV1]; simp
  have b1 : Bw w V1 := by rw [hV1]; exact (Below.refl _ _).alloc (Nat.le_refl _) _
  have b2 : Bw V1 W := by rw [hW]; exact (Below.refl _ _).alloc (Nat.le_refl _) _
  have f2 : FcB W (w.heap.size + 1) 0 0 := by rw [hW, ← z1]; exact FcB.new _ _ _
  have g1 : BdB V1 w.heap.size a1 n1 c1 a2 n2 c2 q := by rw [hV1]; exact BdB.new _ _ _ _ _ _ _ _
  have bb := b1.trans (b2.mono b1.size)
  have HX : Hid (BdB W w.heap.size a1 n1 c1 a2 n2 c2 q ∧ FcB W (w.heap.size + 1) 0 0 ∧ Bw w W ∧ Bw w W) := ⟨g1.box b2, f2, bb, hl.out _ _ hPB.out bb⟩
  have HK : Hid (∀ w', Bw W w' → w'.cell? ⟨w.heap.size, 0, none⟩ = some (.slice a1 n1 c1) ∧ w'.cell? ⟨w.heap.size, 1, none⟩ = some (.slice a2 n2 c2) ∧ w'.cell? ⟨w.heap.size, 2, none⟩ = some (.int .i64 q)) := fun w' hb => (HX.out.1.box hb).facts.1
  have q1 : ∀ W', Bw W W' → Calls Tryz.prog 69 #[.int .u64 1] W' fun r w' => ∃ ao l cap, r = .returned (.slice ao l cap) ∧ Hid (Is w' (.slice ao l cap) 1) ∧ Bw W w' := fun W' h => (kO.out W').mono fun r w' ⟨ao, l, cap, e, hi, hb⟩ => ⟨ao, l, cap, e, hi, h.trans (hb.mono h.size)⟩
  have q2 : ∀ W' X, Bw W W' → Is W' X 1 → Calls Tryz.prog 27 #[.agg #[.slice a1 n1 c1, .slice a2 n2 c2, .int .i64 q], X] W' fun r w' => ∃ ao l cap, r = .returned (.tuple #[.slice ao l cap, .bool true]) ∧ Hid (Is w' (.slice ao l cap) wh) ∧ Bw W w' := fun W' X h hX => (kF.out W' X (hl.out _ _ HX.out.2.2.2 h) hX).mono fun r w' ⟨ao, l, cap, e, hi, hb⟩ => ⟨ao, l, cap, e, hi, h.trans (hb.mono h.size)⟩
  have hRr : Bw W W.drew := (Below.refl _ _).drew
  obtain ⟨k0, k1, k2⟩ := HK.out W (Below.refl _ _)
  rw [hV1] at hW
  clear z1 b1 b2 f2 g1 bb hV1
  go_enter Tryz.func34, Tryz.ntmps34
  go_upto_region 1 with fail
  rw [← hW]
  clear hW
  go_region_held3 (fun w' => w'.cell? ⟨w.heap.size, 0, none⟩ = some (.slice a1 n1 c1) ∧ w'.cell? ⟨w.heap.size, 1, none⟩ = some (.slice a2 n2 c2) ∧ w'.cell? ⟨w.heap.size, 2, none⟩ = some (.int .i64 q)) (first | (with_reducible assumption) | exact HK.out _ hRr | (refine HK.out _ ?_; with_reducible assumption))
    (first | (go_at_call 69; with_reducible refine (q1 _ hRr).mono ?_; rintro r w3 ⟨e1, l1, g1, rfl, E1, hb3⟩)
           | (go_at_call 27; with_reducible refine (q2 _ _ hb3 E1.out).mono ?_; rintro r w4 ⟨e2, l2, g2, rfl, E2, hb4⟩))
  have HY : Hid (BdB w4 w.heap.size a1 n1 c1 a2 n2 c2 q ∧ FcB w4 (w.heap.size + 1) 0 0 ∧ Bw w w4 ∧ Bw w w4) := ⟨HX.out.1.box hb4, HX.out.2.1.box hb4, HX.out.2.2.1.trans (hb4.mono HX.out.2.2.1.size), hl.out _ _ HX.out.2.2.2 hb4⟩
  have kk := kW.out w4 _ E2.out
  clear q1 q2 HK HX hRr k0 k1 k2 E1 E2 hb3 hb4 kO kF kW
  go_wp2_with fail
  refine kk.mono ?_
  rintro r w5 ⟨rfl, hb5⟩
  have HY5 : Hid (BdB w5 w.heap.size a1 n1 c1 a2 n2 c2 q ∧ FcB w5 (w.heap.size + 1) 0 0 ∧ Bw w w5 ∧ Bw w w5) := ⟨HY.out.1.box hb5, HY.out.2.1.box hb5, HY.out.2.2.1.trans (hb5.mono HY.out.2.2.1.size), hl.out _ _ HY.out.2.2.2 hb5⟩
  obtain ⟨V1, hV1⟩ : ∃ V, V = w5.alloc (.cells #[.int .u64 0, .int .u64 0] 71) := ⟨_, rfl⟩
  obtain ⟨V2, hV2⟩ : ∃ V, V = V1.alloc (.cells #[.int .u64 0, .int .u64 0] 71) := ⟨_, rfl⟩
  have z1 : V1.heap.size = w5.heap.size + 1 := by rw [hV1]; simp
  have b1 : Bw w5 V1 := by rw [hV1]; exact (Below.refl _ _).alloc (Nat.le_refl _) _
  have b2 : Bw V1 V2 := by rw [hV2]; exact (Below.refl _ _).alloc (Nat.le_refl _) _
  have f1 : FcB V1 w5.heap.size 0 0 := by rw [hV1]; exact FcB.new _ _ _
  have f2 : FcB V2 (w5.heap.size + 1) 0 0 := by rw [hV2, ← z1]; exact FcB.new _ _ _
  have f1' := f1.box b2
  have bb := b1.trans (b2.mono b1.size)
  have ww : IntKind.u64.wrap ((wh : Int) + 1) = ((wh + 1 : Nat) : Int) := by rw [IntKind.wrap_u64]; omega
  have hlt : w.heap.size + 1 < w5.heap.size := HY5.out.2.1.lt
  have HZ : Hid (BdB V2 w.heap.size a1 n1 c1 a2 n2 c2 q ∧ FcB V2 (w.heap.size + 1) 0 0 ∧ FcB V2 w5.heap.size 0 0 ∧ FcB V2 (w5.heap.size + 1) 0 0 ∧ Bw w V2 ∧ Bw w V2) := ⟨HY5.out.1.box bb, HY5.out.2.1.box bb, f1', f2, HY5.out.2.2.1.trans (bb.mono HY5.out.2.2.1.size), hl.out _ _ HY5.out.2.2.2 bb⟩
  obtain ⟨⟨x0, x1⟩, y0, y1⟩ := f1'.facts
  obtain ⟨⟨x2, x3⟩, y2, y3⟩ := f2.facts
  rw [hV1] at hV2
  clear kk hb5 HY HY5 hV1 z1 b1 b2 f1 f2 f1' bb
  go_upto_region 4 with (rw [← hV2]; clear hV2)
  obtain ⟨g9, hg9⟩ : ∃ g, g = w5.heap.size := ⟨_, rfl⟩
  obtain ⟨gT, hgT⟩ : ∃ g, g = w5.heap.size + 1 := ⟨_, rfl⟩
  obtain ⟨gb, hgb⟩ : ∃ g, g = w.heap.size := ⟨_, rfl⟩
  obtain ⟨gr, hgr⟩ : ∃ g, g = w.heap.size + 1 := ⟨_, rfl⟩
  obtain ⟨W6, hW6⟩ : ∃ V, V = (((V2.setCell ⟨w5.heap.size, 0, none⟩ (.int .u64 wh)).setCell ⟨w5.heap.size, 1, none⟩ (.int .u64 1)).setCell ⟨w5.heap.size + 1, 0, none⟩ (.int .u64 ((wh : Int) + 1))).setCell ⟨w5.heap.size + 1, 1, none⟩ (.int .u64 1) := ⟨_, rfl⟩
  have HL : Hid (gb < gr ∧ gr < g9 ∧ g9 < gT ∧ gb = w.heap.size) := ⟨by omega, by omega, by omega, hgb⟩
  rw [← hW6, ← hgT, ← hg9, ← hgr, ← hgb]
  have HS : Hid (BdB W6 gb a1 n1 c1 a2 n2 c2 q ∧ FcB W6 gr 0 0 ∧ FcB W6 g9 (wh : Nat) (1 : Nat) ∧ FcB W6 gT ((wh + 1 : Nat) : Int) (1 : Nat) ∧ Bw w W6) := by
    have hg := HL.out
    have e : (wh : Int) + 1 = ((wh + 1 : Nat) : Int) := by omega
    obtain ⟨h1, h2, h3, h4, h5, -⟩ := HZ.out
    rw [hW6, hgb, hgr, hg9, hgT, e]
    refine ⟨bdb_other2 (bdb_other2 h1 (by omega) _ _) (by omega) _ _, fcb_other (fcb_other h2 (by omega) _ _) (by omega) _ _, fcb_other (fcb_set h3 _ _) (by omega) _ _, fcb_set (fcb_other h4 (by omega) _ _) _ _, below_set (below_set h5 (by omega) _ _) (by omega) _ _⟩
  clear hW6 hg9 hgT hgb hgr HZ x0 x1 x2 x3 y0 y1 y2 y3 ww hlt hwh
  go_loopg [7] N (fun n v wr => ∃ a b c d : Nat, v = .bool true ∧ St n a b c d ∧ Hid (BdB wr gb a1 n1 c1 a2 n2 c2 q ∧ FcB wr gr 0 0 ∧ FcB wr g9 a b ∧ FcB wr gT c d ∧ Bw w wr))
  case atStart => exact ⟨_, _, _, _, rfl, hs0, HS⟩
  case round =>
    clear HS hs0
    obtain ⟨a, b, c, d, rfl, hst, HS⟩ := hrel
    have hbd := hsz.out _ _ _ _ _ hst
    have ww : IntKind.u64.wrap ((b : Int) + (d : Int)) = (b : Int) + (d : Int) := by rw [IntKind.wrap_u64]; omega
    obtain ⟨⟨y0, y1⟩, -⟩ := HS.out.2.2.1.facts
    obtain ⟨⟨y2, y3⟩, -⟩ := HS.out.2.2.2.1.facts
    by_cases hm : b + d ≤ most
    · have hm2 : (b : Int) + (d : Int) ≤ (most : Int) := by omega
      obtain ⟨m, a', b', c', d', p, s, hmn, hst', kB, kN1⟩ := kN.out _ _ _ _ _ hst hm
      have HM : Hid (m < gk) := hmn
      have HT : Hid (St m a' b' c' d') := hst'
      clear hmn hst' hm hbd hst kX kN hsz
      go_wp2_with fail
      clear ww hm2 y0 y1 y2 y3
      obtain ⟨s1, s2, s3, s4, s5⟩ := HS.out
      have hg := HL.out
      refine q_region follows_mixed [0, 1, 2, 3, 4, 5, 6, 7, 8, 9, 10, 13] [11, 12] [37, 38, 39, 40, 41, 42, 43, 36, 44, 45, 46, 7] [[], [], [], [], [], [3, 4], [0, 1, 2, 5], [6], [7], [7], [7], [10]] [[1, 3, 8], [2, 4, 9]] [8, 9] (fun k => if k = 0 then 9 else 10) (fun k => if k = 0 then g9 else gT) w.heap.size 71 (fun _ => True) 2 wr _ [isV (.agg #[.slice a1 n1 c1, .slice a2 n2 c2, .int .i64 q]), isV (.agg #[.int .u64 (a : Nat), .int .u64 (b : Nat)]), isV (.agg #[.int .u64 (c : Nat), .int .u64 (d : Nat)]), isV (.agg #[.int .u64 (a : Nat), .int .u64 (b : Nat)]), isV (.agg #[.int .u64 (c : Nat), .int .u64 (d : Nat)]), isV (.agg #[.int .u64 (p : Nat), .int .u64 (s : Nat)]), isV (.tuple #[.agg #[.int .u64 (a' : Nat), .int .u64 (b' : Nat)], .agg #[.int .u64 (c' : Nat), .int .u64 (d' : Nat)], .bool true]), isV (.tuple #[.agg #[.int .u64 (a' : Nat), .int .u64 (b' : Nat)], .agg #[.int .u64 (c' : Nat), .int .u64 (d' : Nat)], .bool true]), isV (.agg #[.int .u64 (a' : Nat), .int .u64 (b' : Nat)]), isV (.agg #[.int .u64 (c' : Nat), .int .u64 (d' : Nat)]), isV (.bool true), isV (.bool true)] (by kernel_rfl) ⟨isV_stays _, isV_stays _, isV_stays _, isV_stays _, isV_stays _, isV_stays _, isV_stays _, isV_stays _, isV_stays _, isV_stays _, isV_stays _, isV_stays _, trivial⟩ ⟨fun _ _ _ _ _ _ _ h => h, fun _ _ _ _ _ _ _ h => h, fun _ _ _ _ _ _ _ h => h, fun _ _ _ _ _ _ _ h => h, fun _ _ _ _ _ _ _ h => h, fun _ _ _ _ _ _ _ h => h, fun _ _ _ _ _ _ _ h => h, fun _ _ _ _ _ _ _ h => h, fun _ _ _ _ _ _ _ h => h, fun _ _ _ _ _ _ _ h => h, fun _ _ _ _ _ _ _ h => h, fun _ _ _ _ _ _ _ h => h, trivial⟩ (by show ∀ s ∈ [37, 38, 39, 40, 41, 42, 43, 36, 44, 45, 46, 7], s < 67; decide) ?_ ?_ fc_info ?_ ?_ ?_ ?_ s5.size ?_
      · intro i hi V u h
        rcases (show i = 0 ∨ i = 1 by have : i < 2 := hi; omega) with rfl | rfl
        · obtain rfl : u = _ := h
          exact ⟨_, rfl, rfl, trivial, by simp [Value.oneCell']⟩
        · obtain rfl : u = _ := h
          exact ⟨_, rfl, rfl, trivial, by simp [Value.oneCell']⟩
      · intro j hj o ho act V hK hoth hdep hrd
        have hj' : j < 12 := hj
        have hbU : Bw w V := s5.trans hK.below
        have t2' : act.tmps[(2 : Nat)]? = some (Value.pointer (some ⟨gb, 0, none⟩)) := (hoth 2 (by decide)).trans rfl
        have t9' : act.tmps[(9 : Nat)]? = some (Value.pointer (some ⟨g9, 0, none⟩)) := (hoth 9 (by decide)).trans rfl
        have t10' : act.tmps[(10 : Nat)]? = some (Value.pointer (some ⟨gT, 0, none⟩)) := (hoth 10 (by decide)).trans rfl
        rcases (by omega : j = 0 ∨ j = 1 ∨ j = 2 ∨ j = 3 ∨ j = 4 ∨ j = 5 ∨ j = 6 ∨ j = 7 ∨ j = 8 ∨ j = 9 ∨ j = 10 ∨ j = 11) with rfl | rfl | rfl | rfl | rfl | rfl | rfl | rfl | rfl | rfl | rfl | rfl
        · obtain rfl := Option.some.inj ho
          have hbx : BdB V gb a1 n1 c1 a2 n2 c2 q := (hK.keep gb s1.lt (fun k _ => by show gb ≠ if k = 0 then g9 else gT; split <;> omega)).trans s1
          obtain ⟨⟨e0, e1, e2⟩, -⟩ := hbx.facts
          exact .inl ⟨rfl, (owp_run1 (w' := V) (by simp [execOp, Act.eval, t2', e0, e1, e2, go_sem]) ⟨_, rfl, rfl, Below.refl _ _⟩)⟩
        · obtain rfl := Option.some.inj ho
          have hx : FcB V g9 a b := (hrd 0 (by decide) (by simp [dL])).trans s3
          obtain ⟨⟨e0, e1⟩, -⟩ := hx.facts
          exact .inl ⟨rfl, (owp_run1 (w' := V) (by simp [execOp, Act.eval, t9', e0, e1, go_sem]) ⟨_, rfl, rfl, Below.refl _ _⟩)⟩
        · obtain rfl := Option.some.inj ho
          have hx : FcB V gT c d := (hrd 1 (by decide) (by simp [dL])).trans s4
          obtain ⟨⟨e0, e1⟩, -⟩ := hx.facts
          exact .inl ⟨rfl, (owp_run1 (w' := V) (by simp [execOp, Act.eval, t10', e0, e1, go_sem]) ⟨_, rfl, rfl, Below.refl _ _⟩)⟩
        · obtain rfl := Option.some.inj ho
          have hx : FcB V g9 a b := (hrd 0 (by decide) (by simp [dL])).trans s3
          obtain ⟨⟨e0, e1⟩, -⟩ := hx.facts
          exact .inl ⟨rfl, (owp_run1 (w' := V) (by simp [execOp, Act.eval, t9', e0, e1, go_sem]) ⟨_, rfl, rfl, Below.refl _ _⟩)⟩
        · obtain rfl := Option.some.inj ho
          have hx : FcB V gT c d := (hrd 1 (by decide) (by simp [dL])).trans s4
          obtain ⟨⟨e0, e1⟩, -⟩ := hx.facts
          exact .inl ⟨rfl, (owp_run1 (w' := V) (by simp [execOp, Act.eval, t10', e0, e1, go_sem]) ⟨_, rfl, rfl, Below.refl _ _⟩)⟩
        · obtain rfl := Option.some.inj ho
          have y3 : act.tmps[(40 : Nat)]? = _ := dV (hdep 3 (by simp [dL])) rfl
          have y4 : act.tmps[(41 : Nat)]? = _ := dV (hdep 4 (by simp [dL])) rfl
          refine .inl ⟨rfl, owp_call rfl (enters Tryz.func88 (by kernel_rfl) (by kernel_rfl)) (vs := #[.agg #[.int .u64 (a : Nat), .int .u64 (b : Nat)], .agg #[.int .u64 (c : Nat), .int .u64 (d : Nat)]]) (by simp [eval_get y3, eval_get y4]) ?_⟩
          refine (kB V).mono ?_
          rintro r w' ⟨rfl, hb'⟩
          exact ⟨_, rfl, _, rfl, rfl, hb'⟩
        · obtain rfl := Option.some.inj ho
          have y0 : act.tmps[(37 : Nat)]? = _ := dV (hdep 0 (by simp [dL])) rfl
          have y1 : act.tmps[(38 : Nat)]? = _ := dV (hdep 1 (by simp [dL])) rfl
          have y2 : act.tmps[(39 : Nat)]? = _ := dV (hdep 2 (by simp [dL])) rfl
          have y5 : act.tmps[(42 : Nat)]? = _ := dV (hdep 5 (by simp [dL])) rfl
          refine .inl ⟨rfl, owp_call rfl (enters Tryz.func87 (by kernel_rfl) (by kernel_rfl)) (vs := #[.agg #[.slice a1 n1 c1, .slice a2 n2 c2, .int .i64 q], .agg #[.int .u64 (a : Nat), .int .u64 (b : Nat)], .agg #[.int .u64 (c : Nat), .int .u64 (d : Nat)], .agg #[.int .u64 (p : Nat), .int .u64 (s : Nat)]]) (by simp [eval_get y0, eval_get y1, eval_get y2, eval_get y5]) ?_⟩
          refine (kN1 V hbU).mono ?_
          rintro r w' ⟨rfl, hb'⟩
          exact ⟨_, rfl, _, rfl, rfl, hb'⟩
        · obtain rfl := Option.some.inj ho
          have y6 : act.tmps[(43 : Nat)]? = _ := dV (hdep 6 (by simp [dL])) rfl
          exact .inl ⟨rfl, owp_move rfl y6 ⟨_, rfl, rfl, Below.refl _ _⟩⟩
        · obtain rfl := Option.some.inj ho
          have y7 : act.tmps[(36 : Nat)]? = _ := dV (hdep 7 (by simp [dL])) rfl
          exact .inl ⟨rfl, (owp_run1 (w' := V) (by simp [execOp, Act.eval, y7, go_sem]) ⟨_, rfl, rfl, Below.refl _ _⟩)⟩
        · obtain rfl := Option.some.inj ho
          have y7 : act.tmps[(36 : Nat)]? = _ := dV (hdep 7 (by simp [dL])) rfl
          exact .inl ⟨rfl, (owp_run1 (w' := V) (by simp [execOp, Act.eval, y7, go_sem]) ⟨_, rfl, rfl, Below.refl _ _⟩)⟩
        · obtain rfl := Option.some.inj ho
          have y7 : act.tmps[(36 : Nat)]? = _ := dV (hdep 7 (by simp [dL])) rfl
          exact .inl ⟨rfl, (owp_run1 (w' := V) (by simp [execOp, Act.eval, y7, go_sem]) ⟨_, rfl, rfl, Below.refl _ _⟩)⟩
        · obtain rfl := Option.some.inj ho
          have y10 : act.tmps[(46 : Nat)]? = _ := dV (hdep 10 (by simp [dL])) rfl
          exact .inl ⟨rfl, owp_assign rfl y10 ⟨_, rfl, rfl, Below.refl _ _⟩⟩
      · intro k hk
        rcases (show k = 0 ∨ k = 1 by have : k < 2 := hk; omega) with rfl | rfl
        · exact ⟨_, rfl, rfl⟩
        · exact ⟨_, rfl, rfl⟩
      · intro k hk
        rcases (show k = 0 ∨ k = 1 by have : k < 2 := hk; omega) with rfl | rfl
        · exact ⟨rfl, by decide⟩
        · exact ⟨rfl, by decide⟩
      · intro k hk
        rcases (show k = 0 ∨ k = 1 by have : k < 2 := hk; omega) with rfl | rfl
        · exact ⟨by show w.heap.size ≤ g9; omega, _, s3, rfl, trivial⟩
        · exact ⟨by show w.heap.size ≤ gT; omega, _, s4, rfl, trivial⟩
      · intro k k' h h' he
        have e : (if k = 0 then g9 else gT) = (if k' = 0 then g9 else gT) := he
        have h1 : k < 2 := h
        have h2 : k' < 2 := h'
        split at e <;> split at e <;> omega
      · intro u V hK hu hcs
        obtain ⟨cs, y0, z0⟩ := hcs 0 (by decide)
        obtain ⟨cs', y1, z1⟩ := hcs 1 (by decide)
        have u8 : u 8 = .agg #[.int .u64 (a' : Nat), .int .u64 (b' : Nat)] := hu 8 (by decide)
        have u9 : u 9 = .agg #[.int .u64 (c' : Nat), .int .u64 (d' : Nat)] := hu 9 (by decide)
        have u11 : u 11 = .bool true := hu 11 (by decide)
        have y0' : u 8 = .agg cs := y0
        have y1' : u 9 = .agg cs' := y1
        rw [u8] at y0'
        rw [u9] at y1'
        obtain rfl := Value.agg.inj y0'
        obtain rfl := Value.agg.inj y1'
        have kp : ∀ g, g ≠ g9 → g ≠ gT → g < wr.heap.size → V.heap[g]? = wr.heap[g]? := fun g hg1 hg2 hl => hK.keep g hl (fun k _ => by show g ≠ if k = 0 then g9 else gT; split <;> assumption)
        have HS' : Hid (BdB V gb a1 n1 c1 a2 n2 c2 q ∧ FcB V gr 0 0 ∧ FcB V g9 a' b' ∧ FcB V gT c' d' ∧ Bw w V) := ⟨(kp gb (by omega) (by omega) s1.lt).trans s1, (kp gr (by omega) (by omega) s2.lt).trans s2, z0, z1, s5.trans hK.below⟩
        clear hcs hK y0 y1 y0' y1' z0 z1 hu kp s1 s2 s3 s4 s5 hg HS kB kN1 u8 u9
        simp only [putL, show List.range 12 = [0, 1, 2, 3, 4, 5, 6, 7, 8, 9, 10, 11] from rfl, List.length_cons, List.length_nil, List.getD_cons_zero, List.getD_cons_succ, List.map_cons, List.map_nil, List.cons_append, List.nil_append, List.foldl_cons, List.foldl_nil, Nat.reduceLT, Nat.reduceMod, Nat.reduceDiv, Nat.reduceMul, Nat.reduceAdd, Nat.reduceEqDiff, reduceIte, Nat.one_ne_zero, Act.put, List.setIfInBounds_toArray, List.set_cons_zero, List.set_cons_succ]
        rw [u11]
        clear u11
        go_wp2_with fail
        go_roundg m
        case measure => exact HM.out
        case rel => exact ⟨a', b', c', d', rfl, HT.out, HS'⟩
    · have hm2 : (most : Int) < (b : Int) + (d : Int) := by omega
      obtain ⟨p, s, up, kM, kA, hR1, hR2⟩ := kX.out _ _ _ _ _ hst hm
      have HR : Hid (R1 = (if up then c else a) ∧ R2 = (if up then d else b)) := ⟨hR1, hR2⟩
      clear hR1 hR2 hm hbd hst kX kN hsz
      go_wp2_with fail
      clear ww hm2 y0 y1 y2 y3
      have HK : Hid (∀ w', Bw wr w' → w'.cell? ⟨gb, 0, none⟩ = some (.slice a1 n1 c1) ∧ w'.cell? ⟨gb, 1, none⟩ = some (.slice a2 n2 c2) ∧ w'.cell? ⟨gb, 2, none⟩ = some (.int .i64 q) ∧ w'.cell? ⟨g9, 0, none⟩ = some (.int .u64 a) ∧ w'.cell? ⟨g9, 1, none⟩ = some (.int .u64 b) ∧ w'.cell? ⟨gT, 0, none⟩ = some (.int .u64 c) ∧ w'.cell? ⟨gT, 1, none⟩ = some (.int .u64 d)) := fun w' hb => by
        obtain ⟨⟨e0, e1, e2⟩, -⟩ := (HS.out.1.box hb).facts
        obtain ⟨⟨e3, e4⟩, -⟩ := (HS.out.2.2.1.box hb).facts
        obtain ⟨⟨e5, e6⟩, -⟩ := (HS.out.2.2.2.1.box hb).facts
        exact ⟨e0, e1, e2, e3, e4, e5, e6⟩
      obtain ⟨sv, hsv⟩ : ∃ sv : Int, sv = if up then 1 else -1 := ⟨_, rfl⟩
      rw [← hsv] at kA
      have HSV : Hid (sv = if up then 1 else -1) := hsv
      clear hsv
      have q1 : ∀ W', Bw wr W' → Calls Tryz.prog 90 #[.agg #[.int .u64 (a : Nat), .int .u64 (b : Nat)], .agg #[.int .u64 (c : Nat), .int .u64 (d : Nat)]] W' fun r w' => r = .returned (.agg #[.int .u64 (p : Nat), .int .u64 (s : Nat)]) ∧ Bw wr w' := fun W' h => (kM W').mono fun r w' ⟨e, hb⟩ => ⟨e, h.trans (hb.mono h.size)⟩
      have q2 : ∀ W', Bw wr W' → Calls Tryz.prog 89 #[.agg #[.slice a1 n1 c1, .slice a2 n2 c2, .int .i64 q], .agg #[.int .u64 (p : Nat), .int .u64 (s : Nat)]] W' fun r w' => r = .returned (.tuple #[.int .i64 sv, .bool true]) ∧ Bw wr w' := fun W' h => (kA W' (HS.out.2.2.2.2.trans (h.mono HS.out.2.2.2.2.size))).mono fun r w' ⟨e, hb⟩ => ⟨e, h.trans (hb.mono h.size)⟩
      have hRr : Bw wr wr.drew := (Below.refl _ _).drew
      obtain ⟨y0, y1, y2, y3, y4, y5, y6⟩ := HK.out wr (Below.refl _ _)
      clear kM kA
      go_region_held3 (fun w' => w'.cell? ⟨gb, 0, none⟩ = some (.slice a1 n1 c1) ∧ w'.cell? ⟨gb, 1, none⟩ = some (.slice a2 n2 c2) ∧ w'.cell? ⟨gb, 2, none⟩ = some (.int .i64 q) ∧ w'.cell? ⟨g9, 0, none⟩ = some (.int .u64 a) ∧ w'.cell? ⟨g9, 1, none⟩ = some (.int .u64 b) ∧ w'.cell? ⟨gT, 0, none⟩ = some (.int .u64 c) ∧ w'.cell? ⟨gT, 1, none⟩ = some (.int .u64 d)) (first | (with_reducible assumption) | exact HK.out _ hRr | (refine HK.out _ ?_; with_reducible assumption))
        (first | (go_at_call 90; with_reducible refine (q1 _ hRr).mono ?_; rintro r w8 ⟨rfl, hb8⟩)
               | (go_at_call 89; with_reducible refine (q2 _ hb8).mono ?_; rintro r w9 ⟨rfl, hb9⟩))
      have HY : Hid (FcB w9 gr 0 0 ∧ FcB w9 g9 a b ∧ FcB w9 gT c d ∧ Bw w w9) := ⟨HS.out.2.1.box hb9, HS.out.2.2.1.box hb9, HS.out.2.2.2.1.box hb9, HS.out.2.2.2.2.trans (hb9.mono HS.out.2.2.2.2.size)⟩
      clear HS HK q1 q2 hRr y0 y1 y2 y3 y4 y5 y6 hb8 hb9
      obtain ⟨⟨y0, y1⟩, y2, y3⟩ := HY.out.1.facts
      obtain ⟨⟨x0, x1⟩, -⟩ := HY.out.2.1.facts
      obtain ⟨⟨x2, x3⟩, -⟩ := HY.out.2.2.1.facts
      have hgr : w.heap.size ≤ gr := by have := HL.out; omega
      have hsv := HSV.out
      clear HSV
      cases up
      · obtain ⟨rfl, rfl⟩ := HR.out
        have hsv' : sv = -1 := hsv
        subst hsv'
        clear hsv
        go_wp2_with fail
        refine bodyPost_ret (results_ctK rfl _ _ gr 71 #[.int .u64 R1, .int .u64 R2] (0, 0) _ rfl (fcb_set HY.out.1 _ _) Tryz.underlying71 rfl fc_info) rfl ?_
        exact ⟨rfl, below_set HY.out.2.2.2 hgr _ _⟩
      · obtain ⟨rfl, rfl⟩ := HR.out
        have hsv' : sv = 1 := hsv
        subst hsv'
        clear hsv
        go_wp2_with fail
        refine bodyPost_ret (results_ctK rfl _ _ gr 71 #[.int .u64 R1, .int .u64 R2] (0, 0) _ rfl (fcb_set HY.out.1 _ _) Tryz.underlying71 rfl fc_info) rfl ?_
        exact ⟨rfl, below_set HY.out.2.2.2 hgr _ _⟩
theorem bbest {k most lo hi:Nat} {A:Value} {w:World} (h1:1≤k) (h8:k≤8) (hm:most≤1073741824) (hB:Brk Z0 128 lo hi (kM k) (kG k)) (hA:Bd2 w A lo hi ((128+kq k:Nat):Int)) (hx:dlen lo≤1000000) (hy:dlen hi≤1000000) :
  Calls Tryz.prog 34 #[A,.int .u64 most] w fun r w'=>r=.returned (.tuple #[.agg #[.int .u64 (endK k most 400 (whK k) 1 (whK k+1) 1).1,.int .u64 (endK k most 400 (whK k) 1 (whK k+1) 1).2],.bool true])∧Bw w w':=by
 have hq:kq k≤1:=(tk_num h1 h8).2.2.2.2.1
 have hw:=way_of (n:=399) (way_k h1 h8)
 have hAl:=hA
 obtain⟨a1,n1,c1,a2,n2,c2,rfl,i1,i2⟩:=hA
 obtain⟨R,hR⟩:∃ R,R=endK k most 400 (whK k) 1 (whK k+1) 1:=⟨_,rfl⟩
 rw[←hR]
 refine bbest_1 (wh:=whK k) (N:=400) (fun n a b c d=>wayK k n a b c d=true∧endK k most n a b c d=R) ?_ ?_ ⟨way_k h1 h8,hR.symm⟩ (by have:=hw.c1;omega) ?_ ?_ ?_ ?_
 ·intro W
  exact(c57 1 W (by decide)).mono fun r w' ⟨v,e1,e2,e3⟩=>by
   obtain⟨ao,l,cap,rfl⟩:=e2.is.shape
   exact⟨ao,l,cap,e1,e2.is,e3⟩
 ·intro W X hb hX
  exact bfloor1 h1 h8 hB (hAl.later hb) hX hx hy
 ·rintro(_|n) a b c d ⟨h,-⟩
  ·cases h
  ·have hv:=way_of h
   have:=hv.b1
   have:=hv.d1
   omega
 ·rintro(_|n) a b c d ⟨h,he⟩ hle
  ·cases h
  ·have hv:=way_of h
   obtain⟨v1,v2,v3,v4,v5,v6,-,-,-,-,-,-,vn⟩:=hv
   rcases vn with vn|⟨vs,vu,vd⟩
   ·omega
   ·have hag:=setl_ag h1 h8 hB vs
    have hkB:∀ W,Calls Tryz.prog 88 #[.agg #[.int .u64 (a:Nat),.int .u64 (b:Nat)],.agg #[.int .u64 (c:Nat),.int .u64 (d:Nat)]] W fun r w'=>r=.returned (.agg #[.int .u64 ((a+c:Nat):Int),.int .u64 ((b+d:Nat):Int)])∧Bw W w':=fun W=>bbetween (by omega) (by omega)
    have hkN:=fun(W:World) (hb:Bw w W)=>bnarrowed (a:=a) (b:=b) (c:=c) (d:=d) (hAl.later hb) hx hy (by omega) (show a+c<18446744073709551616 by omega) (show b+d<18446744073709551616 by omega) hag
    have he':(bif upK k (a+c) (b+d)then endK k most n (a+c) (b+d) c d else endK k most n a b (a+c) (b+d))=R:=by
     rw[←he]
     show _=bif Nat.ble (b+d) most then _ else _
     rw[Nat.ble_eq_true_of_le hle]
     rfl
    generalize upK k (a+c) (b+d)=up at *
    cases up
    ·exact⟨n,a,b,a+c,b+d,a+c,b+d,by omega,⟨vd rfl,he'⟩,hkB,hkN⟩
    ·exact⟨n,a+c,b+d,c,d,a+c,b+d,by omega,⟨vu rfl,he'⟩,hkB,hkN⟩
 ·rintro(_|n) a b c d ⟨h,he⟩ hle
  ·cases h
  ·have hv:=way_of h
   obtain⟨v1,v2,v3,v4,v5,v6,-,-,-,-,-,vm,-⟩:=hv
   have hag:=setl_ag h1 h8 hB vm
   have m1:a*d≤7516192768*1073741824:=Nat.mul_le_mul v3 v2
   have m2:c*b≤7516192768*1073741824:=Nat.mul_le_mul v4 v1
   have m3:2*b*d≤2147483648*1073741824:=Nat.mul_le_mul (by omega) v2
   refine⟨a*d+c*b,2*b*d,upK k (a*d+c*b) (2*b*d),fun W=>bmiddle (by omega) (by omega) (by omega),fun W hb=>bagainst (hAl.later hb) hx hy (by omega) (by omega) (by omega) hag,?_⟩
   have he':(bif upK k (a*d+c*b) (2*b*d) then(c,d) else(a,b))=R:=by
    rw[←he]
    show _=bif Nat.ble (b+d) most then _ else _
    rw[show Nat.ble (b+d) most=false by rw[Bool.eq_false_iff];intro hh;exact hle (Nat.le_of_ble_eq_true hh)]
    rfl
   rw[←he']
   cases upK k (a*d+c*b) (2*b*d)
   ·exact⟨rfl,rfl⟩
   ·exact⟨rfl,rfl⟩
 ·intro W X hX
  have hd:dlen (whK k)≤2:=(dlen_le 2 _).2 (Nat.lt_of_le_of_lt (Nat.le_trans (Nat.le_succ _) hw.c1) (by decide))
  refine(cword X (whK k) _ W hX rfl hd).mono ?_
  rintro r w' ⟨e,rfl⟩
  exact⟨e,Below.refl _ _⟩
theorem endK_le {k most:Nat} (hm:most≤1073741824):∀ (n a b c d:Nat),wayK k n a b c d=true→(endK k most n a b c d).1≤7516192768∧(endK k most n a b c d).2≤1073741824∧1≤(endK k most n a b c d).2
 | 0,_,_,_,_,h=>by cases h
 | n+1,a,b,c,d,h=>by
  have hv:=way_of h
  unfold endK
  cases hb:Nat.ble (b+d) most
  ·cases upK k (a*d+c*b) (2*b*d)
   ·exact⟨hv.a1,hv.b1,hv.b0⟩
   ·exact⟨hv.c1,hv.d1,hv.d0⟩
  ·have hle:=Nat.le_of_ble_eq_true hb
   rcases hv.nx with vn|⟨vs,vu,vd⟩
   ·omega
   ·cases hu:upK k (a+c) (b+d)
    ·exact endK_le hm n _ _ _ _ (vd hu)
    ·exact endK_le hm n _ _ _ _ (vu hu)
theorem best_bad {k n:Int} {w:World} (h:¬ (1≤k∧k≤8)∨n<1∨1073741824<n):Calls Tryz.prog 15 #[.int .i64 k,.int .i64 n] w fun r w'=>r=.returned (.tuple #[.int .i64 0,.int .i64 0,.int .i64 1])∧Bw w w':=by
 have kk:=isK (k:=k) (w:=w)
 by_cases hk:1≤k∧k≤8
 ·rw[decide_eq_true hk] at kk
  by_cases hn:n<1
  ·go_enter Tryz.func15,Tryz.ntmps15
   go_wp2_with (go_at_call 20;refine kk.mono ?_;rintro r w1 ⟨rfl,rfl⟩)
   refine bodyPost_ret (results_tmp3 rfl _ _ _) rfl ?_
   exact⟨rfl,Below.refl _ _⟩
  ·have hn2:1073741824<n:=by omega
   go_enter Tryz.func15,Tryz.ntmps15
   go_wp2_with (go_at_call 20;refine kk.mono ?_;rintro r w1 ⟨rfl,rfl⟩)
   refine bodyPost_ret (results_tmp3 rfl _ _ _) rfl ?_
   exact⟨rfl,Below.refl _ _⟩
 ·rw[decide_eq_false hk] at kk
  go_enter Tryz.func15,Tryz.ntmps15
  go_wp2_with (go_at_call 20;refine kk.mono ?_;rintro r w1 ⟨rfl,rfl⟩)
  refine bodyPost_ret (results_tmp3 rfl _ _ _) rfl ?_
  exact⟨rfl,Below.refl _ _⟩
theorem best_ok {k n:Nat} {w:World} (h1:1≤k) (h8:k≤8) (hn1:1≤n) (hn2:n≤1073741824):Calls Tryz.prog 15 #[.int .i64 k,.int .i64 n] w fun r w'=>r=.returned (.tuple #[.int .i64 (endK k n 400 (whK k) 1 (whK k+1) 1).1,.int .i64 (endK k n 400 (whK k) 1 (whK k+1) 1).2,.int .i64 0])∧Bw w w':=by
 have k1:=isK (k:=k) (w:=w)
 rw[decide_eq_true (⟨by omega,by omega⟩:1≤(k:Int)∧(k:Int)≤8)] at k1
 have HK:Hid (1≤k∧k≤8∧n≤1073741824):=⟨h1,h8,hn2⟩
 have hE:=endK_le hn2 400 _ _ _ _ (way_k h1 h8)
 obtain⟨R,hR⟩:∃ R,R=endK k n 400 (whK k) 1 (whK k+1) 1:=⟨_,rfl⟩
 have HR:Hid (R=endK k n 400 (whK k) 1 (whK k+1) 1):=hR
 rw[←hR] at hE ⊢
 obtain⟨p,q⟩:=R
 obtain⟨e1,e2,e3⟩:p≤7516192768∧q≤1073741824∧1≤q:=hE
 have hm1:¬ (n:Int)<1:=by omega
 have hm2:¬ 1073741824<(n:Int):=by omega
 have c1:IntKind.u64.wrap (n:Int)=(n:Int):=by rw[IntKind.wrap_u64];omega
 have c2:IntKind.i64.wrap (p:Int)=(p:Int):=by rw[IntKind.wrap_i64];omega
 have c3:IntKind.i64.wrap (q:Int)=(q:Int):=by rw[IntKind.wrap_i64];omega
 clear h1 h8 hR hn1 hn2 e1 e2 e3
 go_enter Tryz.func15,Tryz.ntmps15
 go_wp2_with (go_at_call 20;refine k1.mono ?_;rintro r wz ⟨rfl,hwz⟩;have hwz:=hwz.symm;subst hwz)
 clear k1 hm1 hm2
 go_loopw [7] (fun sp wr=>sp=.int .i64 128∧wr=w) (fun _ _=>0)
 case atStart=>exact⟨rfl,rfl⟩
 case round =>
  obtain⟨rfl,rfl⟩:=hrel
  have k3:=near_k (w:=wr) HK.out.1 HK.out.2.1 (show 128≤128 by decide) (by decide)
  go_wp2_with fail
  refine k3.mono ?_
  rintro r w2 ⟨lo,hi,hB,b1,m1,d1,b2,m2,d2,rfl,i1,i2,hb2⟩
  have hdl:=hB.dl (K:=135) (Nat.le_of_ble_eq_true (allD_k HK.out.1 HK.out.2.1).2.2.1) (Nat.le_of_ble_eq_true (allD_k HK.out.1 HK.out.2.1).2.2.2) (by decide)
  have k4:=bbest (w:=w2) (most:=n) HK.out.1 HK.out.2.1 HK.out.2.2 hB ⟨b1,m1,d1,b2,m2,d2,rfl,i1,i2⟩ (by omega) (by omega)
  rw[←HR.out] at k4
  have HB2:Hid (Bw wr w2):=hb2
  clear k3 hB i1 i2 hb2 hdl
  go_wp2_with fail
  refine k4.mono ?_
  rintro r w3 ⟨rfl,hb3⟩
  clear k4
  obtain⟨V,hV⟩:∃ V,V=w3.alloc (.cells #[.int .u64 0,.int .u64 0] 71):=⟨_,rfl⟩
  have f2:FcB V w3.heap.size 0 0:=by rw[hV];exact FcB.new _ _ _
  have bV:Bw w3 V:=by rw[hV];exact(Below.refl _ _).alloc (Nat.le_refl _) _
  have HZ:Hid (Bw wr V):=(HB2.out.trans (hb3.mono HB2.out.size)).trans (bV.mono (HB2.out.trans (hb3.mono HB2.out.size)).size)
  have HF:Hid (FcB V w3.heap.size 0 0∧wr.heap.size≤w3.heap.size):=⟨f2,(HB2.out.trans (hb3.mono HB2.out.size)).size⟩
  obtain⟨⟨y0,y1⟩,y2,y3⟩:=f2.facts
  clear f2 bV hb3 HB2
  go_upto_region 7 with (rw[←hV];clear hV)
  obtain⟨g9,hg9⟩:∃ g,g=w3.heap.size:=⟨_,rfl⟩
  obtain⟨W6,hW6⟩:∃ V',V'=(V.setCell ⟨w3.heap.size,0,none⟩ (.int .u64 p)).setCell ⟨w3.heap.size,1,none⟩ (.int .u64 q):=⟨_,rfl⟩
  have HS:Hid (FcB W6 g9 p q∧Bw wr W6):=by
   rw[hW6,hg9]
   exact⟨fcb_set HF.out.1 _ _,below_set HZ.out HF.out.2 _ _⟩
  rw[←hW6,←hg9]
  clear hW6 hg9 HZ HF y0 y1 y2 y3
  obtain⟨⟨y0,y1⟩,-⟩:=HS.out.1.facts
  go_quiet (fail)
  go_wp2_with fail
  refine bodyPost_ret (results_tmp3 rfl _ _ _) rfl ?_
  exact⟨rfl,HS.out.2.trans ((below_drewN _ _).mono HS.out.2.size)⟩
end Go.Proofs.YtapooodfgcjoaaaGreat
namespace Go.Proofs.YtapooodfgcjoaaaGreat
open Go Go.RowKit Go.Fl64
end Go.Proofs.YtapooodfgcjoaaaGreat
