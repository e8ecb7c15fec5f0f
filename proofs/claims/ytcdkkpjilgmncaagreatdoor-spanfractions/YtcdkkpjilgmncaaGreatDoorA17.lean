/- Own work: contracts of the program's functions, part 17: FR9 PQ2 FRB SNR SNN SNS SNK SNT SNU SNV FRC SNW SNX SNY SNZ. -/
import Derived.Test.YtcdkkpjilgmncaaGreatDoorA16
import Derived.Test.YtcdkkpjilgmncaaGreatDoorA15
import Derived.Test.YtcdkkpjilgmncaaGreatDoorA10
import Derived.Test.YtcdkkpjilgmncaaGreatDoorA9
import Derived.Test.YtcdkkpjilgmncaaGreatDoorA13

set_option maxHeartbeats 16000000
set_option maxRecDepth 200000
set_option linter.unusedVariables false
set_option linter.unusedSimpArgs false
namespace Go.Proofs.YtcdkkpjilgmncaaGreatDoor
open Go.RowKit Go.Fl64
theorem zero_fr (w:World):(zeroValue 45).run Tryz.prog w=.ok (.agg #[.bool false,.slice none 0 0,.int .i64 0,.bool false,.slice none 0 0,.int .i64 0]) w:=by kernel_rfl
theorem lt6F {k:Nat} (h:k<6):k=0∨k=1∨k=2∨k=3∨k=4∨k=5:=by omega
theorem lt2F {k:Nat} (h:k<2):k=0∨k=1:=by omega
def LI (X P Q:Nat) (w:World) (g3 g4 g5 g6 gR m:Nat) (wr:World):Prop:=∃ A B C D bp bq lp lq,B+D=m∧SI X P Q A B C D bp bq lp lq∧FB wr g3 (un (A:Int) 1074) (un (B:Int) 1074)∧FB wr g4 (un (C:Int) 1074) (un (D:Int) 1074)∧FB wr g5 (un (bp:Int) 0) (un (bq:Int) 0)∧FB wr g6 (un (lp:Int) 0) (un (lq:Int) 0)∧wr.heap[gR]?=some (.cells #[.bool false,.slice none 0 0,.int .i64 0,.bool false,.slice none 0 0,.int .i64 0] 45 (0,0))∧Bw w wr
theorem simp_1 (a b A B C D X P Q k:Nat) (w:World) (hT:Tab32 w) (hX:X<2^k) (hk:k≤10000) (hSI:SI X P Q A B C D 0 1 1 0)
  (k1:∀ W,Bw w W→Calls Tryz.prog 36 #[.float .f64 a] W fun r w'=>OutFv W (un (A:Int) 1074) (un (B:Int) 1074) r w')
  (k2:∀ W,Bw w W→Calls Tryz.prog 36 #[.float .f64 b] W fun r w'=>OutFv W (un (C:Int) 1074) (un (D:Int) 1074) r w')
  (k3:∀ W,Bw w W→Calls Tryz.prog 37 #[.int .i64 1] W fun r w'=>OutP W (un ((1:Nat):Int) 0) r w') :
  Calls Tryz.prog 13 #[.agg #[.float .f64 a,.float .f64 b]] w fun r w'=>OutFv w (un (P:Int) 0) (un (Q:Int) 0) r w':=by
 obtain⟨W,hW⟩:∃ W,W=(w.alloc (.cells #[.float .f64 a,.float .f64 b] 24)).alloc (.cells #[.bool false,.slice none 0 0,.int .i64 0,.bool false,.slice none 0 0,.int .i64 0] 45):=⟨_,rfl⟩
 obtain⟨hF,hN,hsz,hBW⟩:=two_new _ _ hW
 have HK1:Hid _:=k1
 have HK2:Hid _:=k2
 have HK3:Hid _:=k3
 have H0:Hid (Tab32 w∧X<2^k∧k≤10000∧SI X P Q A B C D 0 1 1 0):=⟨hT,hX,hk,hSI⟩
 have HF:Hid (W.heap[w.heap.size]?=some (.cells #[.float .f64 a,.float .f64 b] 24 (0,0))∧W.heap[w.heap.size+1]?=some (.cells #[.bool false,.slice none 0 0,.int .i64 0,.bool false,.slice none 0 0,.int .i64 0] 45 (0,0))∧Bw w W∧W.heap.size=w.heap.size+1+1):=⟨hF,hN,hBW,hsz⟩
 clear k1 k2 k3 hT hX hk hSI hF hN hBW hsz
 go_enter Tryz.func13,Tryz.ntmps13
 go_upto_region 1 with fail
 rw[←hW]
 clear hW
 go_cut [3,4] from 10 to 15 (fun p q wx=>∃ g3 g4,p=.pointer (some ⟨g3,0,none⟩)∧q=.pointer (some ⟨g4,0,none⟩)∧Hid (FB wx g3 (un (A:Int) 1074) (un (B:Int) 1074)∧FB wx g4 (un (C:Int) 1074) (un (D:Int) 1074)∧W.heap.size≤g3∧W.heap.size≤g4∧g3≠g4∧Bw W wx))
 case first =>
  obtain⟨hF,hN,hBW,hsz⟩:=HF.out
  have ld:∀ {V:World} {g:Nat} {o:Obj},Bw W V→W.heap[g]?=some o→V.heap[g]?=some o:=fun hb h=>(hb.block _ (Array.getElem?_eq_some_iff.1 h).1).trans h
  refine zL_region follows_mixed 6 2 10 3 [[],[0],[1],[],[3],[4]] [2,5] 45 #[.bool false,.slice none 0 0,.int .i64 0,.bool false,.slice none 0 0,.int .i64 0] W _
   [isV (.pointer (some ⟨w.heap.size,0,none⟩)),isV (.float .f64 a),isF (un (A:Int) 1074) (un (B:Int) 1074),isV (.pointer (some ⟨w.heap.size,1,none⟩)),isV (.float .f64 b),isF (un (C:Int) 1074) (un (D:Int) 1074)]
   (by kernel_rfl) ⟨isV_stays _,isV_stays _,isF_stays _ _,isV_stays _,isV_stays _,isF_stays _ _,trivial⟩ ⟨fun _ _ _ _ _ h=>h,fun _ _ _ _ _ h=>h,fun _ _ _ _ h1 h=>Fv.row6 h h1 _,fun _ _ _ _ _ h=>h,fun _ _ _ _ _ h=>h,fun _ _ _ _ h1 h=>Fv.row6 h h1 _,trivial⟩
   (by show 16≤53;decide) (by show 5≤53;decide) (.inl (by decide)) ?_ ?_ ?_ zero_fr (by kernel_rfl) ?_ ?_
  ·intro k' hk V u h
   rcases lt2F hk with rfl|rfl
   ·obtain⟨cs,h1,h2,-,h4⟩:=Fv.cells (show Fv V u (un (A:Int) 1074) (un (B:Int) 1074)from h)
    exact⟨cs,h1,h2,h4⟩
   ·obtain⟨cs,h1,h2,-,h4⟩:=Fv.cells (show Fv V u (un (C:Int) 1074) (un (D:Int) 1074)from h)
    exact⟨cs,h1,h2,h4⟩
  ·intro j hj o ho act V hbV hoth hdep
   have hc:=ld hbV hF
   have c0:V.cell? ⟨w.heap.size,0,none⟩=some (.float .f64 a):=by simp[World.cell?,hc]
   have c1:V.cell? ⟨w.heap.size,1,none⟩=some (.float .f64 b):=by simp[World.cell?,hc]
   rcases lt6F hj with rfl|rfl|rfl|rfl|rfl|rfl
   ·obtain rfl:=Option.some.inj ho
    have h0:act.tmps[(1:Nat)]?=some (Value.pointer (some ⟨w.heap.size,0,none⟩)):=(hoth 1 (by omega) (by omega)).trans rfl
    exact owp_run1 (w':=V) (v:=_) (by simp[execOp,eval_get h0,run_fieldI0]) ⟨_,rfl,rfl,Below.refl _ _⟩
   ·obtain rfl:=Option.some.inj ho
    obtain⟨u0,h0,v0⟩:=hdep 0 (by simp[dL])
    obtain rfl:u0=_:=v0
    exact owp_run1 (w':=V) (v:=.float .f64 a) (by simp[execOp,eval_get h0,run_loadF _ _ _ V c0]) ⟨_,rfl,rfl,Below.refl _ _⟩
   ·obtain rfl:=Option.some.inj ho
    obtain⟨u0,h0,v0⟩:=hdep 1 (by simp[dL])
    obtain rfl:u0=_:=v0
    refine owp_call rfl (enters Tryz.func36 (by kernel_rfl) (by kernel_rfl)) (vs:=#[.float .f64 a]) (by simp only[List.map_toArray,List.map_cons,List.map_nil];rw[eval_get h0]) ?_
    refine(HK1.out V (hBW.trans (hbV.mono hBW.size))).mono ?_
    rintro r w' ⟨U,rfl,hP,hb'⟩
    exact⟨_,rfl,_,rfl,hP,hb'⟩
   ·obtain rfl:=Option.some.inj ho
    have h0:act.tmps[(1:Nat)]?=some (Value.pointer (some ⟨w.heap.size,0,none⟩)):=(hoth 1 (by omega) (by omega)).trans rfl
    exact owp_run1 (w':=V) (v:=_) (by simp[execOp,eval_get h0,run_fieldI1]) ⟨_,rfl,rfl,Below.refl _ _⟩
   ·obtain rfl:=Option.some.inj ho
    obtain⟨u0,h0,v0⟩:=hdep 3 (by simp[dL])
    obtain rfl:u0=_:=v0
    exact owp_run1 (w':=V) (v:=.float .f64 b) (by simp[execOp,eval_get h0,run_loadF _ _ _ V c1]) ⟨_,rfl,rfl,Below.refl _ _⟩
   ·obtain rfl:=Option.some.inj ho
    obtain⟨u0,h0,v0⟩:=hdep 4 (by simp[dL])
    obtain rfl:u0=_:=v0
    refine owp_call rfl (enters Tryz.func36 (by kernel_rfl) (by kernel_rfl)) (vs:=#[.float .f64 b]) (by simp only[List.map_toArray,List.map_cons,List.map_nil];rw[eval_get h0]) ?_
    refine(HK2.out V (hBW.trans (hbV.mono hBW.size))).mono ?_
    rintro r w' ⟨U,rfl,hP,hb'⟩
    exact⟨_,rfl,_,rfl,hP,hb'⟩
  ·intro k' hk
   rcases lt2F hk with rfl|rfl <;> exact⟨_,rfl,rfl⟩
  ·intro k' hk
   rcases lt2F hk with rfl|rfl <;> exact⟨_,rfl,rfl⟩
  ·intro u g V hbV hu hg hap
   have e2:Fv V (u 2) (un (A:Int) 1074) (un (B:Int) 1074):=hu 2 (by omega)
   have e5:Fv V (u 5) (un (C:Int) 1074) (un (D:Int) 1074):=hu 5 (by omega)
   obtain⟨g0,cs0,x0,y0⟩:=hg 0 (by omega)
   obtain⟨g1,cs1,x1,y1⟩:=hg 1 (by omega)
   have x0':u 2=.agg cs0:=x0
   have x1':u 5=.agg cs1:=x1
   rw[x0'] at e2
   rw[x1'] at e5
   have HX:Hid (FB V (g 0) (un (A:Int) 1074) (un (B:Int) 1074)∧FB V (g 1) (un (C:Int) 1074) (un (D:Int) 1074)∧W.heap.size≤g 0∧W.heap.size≤g 1∧g 0≠g 1∧Bw W V):=⟨⟨cs0,y0,e2⟩,⟨cs1,y1,e5⟩,g0,g1,hap 0 1 (by omega) (by omega) (by omega),hbV⟩
   clear hu hg hap e2 e5 x0 x1 x0' x1' y0 y1 g0 g1 hF hN
   simp only[putL,show List.range 6 = [0,1,2,3,4,5] from rfl,show List.range 2 = [0,1] from rfl,List.map_cons,List.map_nil,List.cons_append,List.nil_append,List.foldl_cons,List.foldl_nil,Nat.reduceLT,Nat.reduceMod,Nat.reduceDiv,Nat.reduceMul,Nat.reduceAdd,Nat.reduceEqDiff,reduceIte,Nat.one_ne_zero,Act.put,List.setIfInBounds_toArray,List.set_cons_zero,List.set_cons_succ]
   go_wp2_with fail
   go_meet
   exact⟨_,_,rfl,rfl,HX⟩
 case rest =>
  obtain⟨wA,hwA⟩:∃ v:World,v=wc:=⟨_,rfl⟩
  subst hwA
  obtain⟨g3,g4,rfl,rfl,HG⟩:=hcut
  go_upto_region 2 with fail
  go_cut [5,6] from 10 to 19 (fun p q wx=>∃ g5 g6,p=.pointer (some ⟨g5,0,none⟩)∧q=.pointer (some ⟨g6,0,none⟩)∧Hid (FB wx g5 (un ((0:Nat):Int) 0) (un ((1:Nat):Int) 0)∧FB wx g6 (un ((1:Nat):Int) 0) (un ((0:Nat):Int) 0)∧wA.heap.size≤g5∧wA.heap.size≤g6∧g5≠g6∧Bw wA wx))
  case first =>
   have kk:=HK3.out wA (HF.out.2.2.1.trans (HG.out.2.2.2.2.2.mono HF.out.2.2.1.size))
   go_wp2_with fail
   refine kk.mono ?_
   rintro r w1 ⟨s1,ao1,n1,cp1,e1,rfl,hP1,hb1⟩
   clear kk
   have HB1:Hid (Bw wA w1∧PN w1 (.agg #[.bool s1,.slice ao1 n1 cp1,.int .i64 e1]) (un ((1:Nat):Int) 0)):=⟨hb1,hP1⟩
   clear hb1 hP1
   have kk:=HK3.out w1 ((HF.out.2.2.1.trans (HG.out.2.2.2.2.2.mono HF.out.2.2.1.size)).trans (HB1.out.1.mono (HF.out.2.2.1.trans (HG.out.2.2.2.2.2.mono HF.out.2.2.1.size)).size))
   go_wp2_with fail
   refine kk.mono ?_
   rintro r w2 ⟨s2,ao2,n2,cp2,e2,rfl,hP2,hb2⟩
   clear kk
   have HB2:Hid (Bw wA w2∧PN w2 (.agg #[.bool s1,.slice ao1 n1 cp1,.int .i64 e1]) (un ((1:Nat):Int) 0)∧PN w2 (.agg #[.bool s2,.slice ao2 n2 cp2,.int .i64 e2]) (un ((1:Nat):Int) 0)):=⟨HB1.out.1.trans (hb2.mono HB1.out.1.size),HB1.out.2.later hb2,hP2⟩
   clear hb2 hP2 HB1
   go_wp2_with fail
   obtain⟨W2,hW2⟩:∃ W2,W2=(w2.alloc (.cells #[.bool false,.slice none 0 0,.int .i64 0,.bool s1,.slice ao1 n1 cp1,.int .i64 e1] 45)).alloc (.cells #[.bool s2,.slice ao2 n2 cp2,.int .i64 e2,.bool false,.slice none 0 0,.int .i64 0] 45):=⟨_,rfl⟩
   obtain⟨y1,y2,y3,y4⟩:=two_new _ _ hW2
   have HX:Hid (FB W2 w2.heap.size (un ((0:Nat):Int) 0) (un ((1:Nat):Int) 0)∧FB W2 (w2.heap.size+1) (un ((1:Nat):Int) 0) (un ((0:Nat):Int) 0)∧wA.heap.size≤w2.heap.size∧wA.heap.size≤w2.heap.size+1∧w2.heap.size≠w2.heap.size+1∧Bw wA W2):=⟨⟨_,y1,_,_,_,_,_,_,_,_,_,_,rfl,by rw[show((0:Nat):Int)=0 from rfl,un_0];exact pn_nilN _,HB2.out.2.1.later y4⟩,⟨_,y2,_,_,_,_,_,_,_,_,_,_,rfl,HB2.out.2.2.later y4,by rw[show((0:Nat):Int)=0 from rfl,un_0];exact pn_nilN _⟩,HB2.out.1.size,by have:=HB2.out.1.size;omega,by omega,HB2.out.1.trans (y4.mono HB2.out.1.size)⟩
   rw[←hW2]
   clear hW2 y1 y2 y3 y4
   go_meet
   exact⟨_,_,rfl,rfl,HX⟩
  case rest =>
   obtain⟨wB,hwB⟩:∃ v:World,v=wc:=⟨_,rfl⟩
   subst hwB
   obtain⟨g5,g6,rfl,rfl,HH⟩:=hcut
   have HI:Hid (LI X P Q w g3 g4 g5 g6 (w.heap.size+1) (B+D) wB):=(by
    have hb1:=HG.out.2.2.2.2.2
    have hb2:=HH.out.2.2.2.2.2
    have hBA:Bw w wA:=HF.out.2.2.1.trans (hb1.mono HF.out.2.2.1.size)
    exact⟨A,B,C,D,0,1,1,0,rfl,H0.out.2.2.2,HG.out.1.later hb2,HG.out.2.1.later hb2,HH.out.1,HH.out.2.1,box_later (box_later HF.out.2.1 hb1 (lt_of_box HF.out.2.1)) hb2 (lt_of_box (box_later HF.out.2.1 hb1 (lt_of_box HF.out.2.1))),hBA.trans (hb2.mono hBA.size)⟩:LI X P Q w g3 g4 g5 g6 (w.heap.size+1) (B+D) wB)
   have HD:Hid (g3≠g4∧g5≠g6∧w.heap.size+1+1≤g3∧w.heap.size+1+1≤g4∧w.heap.size+1+1≤g5∧w.heap.size+1+1≤g6∧g3≠g5∧g3≠g6∧g4≠g5∧g4≠g6):=(by
    obtain⟨q1,q2,q3,q4,q5,q6⟩:=HG.out
    obtain⟨r1,r2,r3,r4,r5,r6⟩:=HH.out
    obtain⟨cs,q7,-⟩:=q1
    obtain⟨cs',q8,-⟩:=q2
    have:=lt_of_box q7
    have:=lt_of_box q8
    have:=HF.out.2.2.2
    have:=q6.size
    omega:g3≠g4∧g5≠g6∧w.heap.size+1+1≤g3∧w.heap.size+1+1≤g4∧w.heap.size+1+1≤g5∧w.heap.size+1+1≤g6∧g3≠g5∧g3≠g6∧g4≠g5∧g4≠g6)
   have H1:Hid (Tab32 w∧X<2^k∧k≤10000):=⟨H0.out.1,H0.out.2.1,H0.out.2.2.1⟩
   clear HF HG HH HK1 HK2 H0
   go_wp2_with fail
   go_loopg [7] (B+D) (fun m v wr=>LI X P Q w g3 g4 g5 g6 (w.heap.size+1) m wr)
   case atStart=>exact HI.out
   case round =>
    clear HI
    obtain⟨A1,B1,C1,D1,bp,bq,lp,lq,hm,hS,hf3,hf4,hf5,hf6,hR,hBw⟩:=hrel
    obtain⟨cs3,x3,s1,ao1,n1,cp1,e1,s2,ao2,n2,cp2,e2,hcs3,p1,p2⟩:=hf3
    obtain rfl:=Value.agg.inj hcs3
    have hf3':FB wr g3 (un (A1:Int) 1074) (un (B1:Int) 1074):=⟨_,x3,_,_,_,_,_,_,_,_,_,_,rfl,p1,p2⟩
    obtain⟨⟨c0,c1,c2,c3,c4,c5⟩,-⟩:=cells6F x3
    have hTr:Tab32 wr:=H1.out.1.later hBw
    have lt:∀ y,y≤X→y<2^k:=fun y hy=>Nat.lt_of_le_of_lt hy H1.out.2.1
    have kk:=floor_un hTr (⟨_,_,_,_,_,_,_,_,_,_,rfl,p1,p2⟩:Fv wr (.agg #[.bool s1,.slice ao1 n1 cp1,.int .i64 e1,.bool s2,.slice ao2 n2 cp2,.int .i64 e2]) (un (A1:Int) 1074) (un (B1:Int) 1074)) (lt _ hS.lA) (lt _ hS.lB) hS.hB (by have:=H1.out.2.2;omega)
    have HL:Hid (B1+D1=gk∧SI X P Q A1 B1 C1 D1 bp bq lp lq∧FB wr g3 (un (A1:Int) 1074) (un (B1:Int) 1074)∧FB wr g4 (un (C1:Int) 1074) (un (D1:Int) 1074)∧FB wr g5 (un (bp:Int) 0) (un (bq:Int) 0)∧FB wr g6 (un (lp:Int) 0) (un (lq:Int) 0)∧wr.heap[w.heap.size+1]?=some (.cells #[.bool false,.slice none 0 0,.int .i64 0,.bool false,.slice none 0 0,.int .i64 0] 45 (0,0))∧Bw w wr):=⟨hm,hS,hf3',hf4,hf5,hf6,hR,hBw⟩
    clear hm hS hf3' hf4 hf5 hf6 hR hBw x3 p1 p2 hTr hcs3
    by_cases h0:A1 % B1=0
    ·rw[decide_eq_true h0] at kk
     go_wp2_with fail
     refine kk.mono ?_
     rintro r w1 ⟨s7,ao7,n7,cp7,e7,rfl,hP7,hb7⟩
     clear kk c0 c1 c2 c3 c4 c5
     obtain⟨W1,hW1⟩:∃ W1,W1=(w1.alloc (.cells #[.bool s7,.slice ao7 n7 cp7,.int .i64 e7] 28)).alloc (.cells #[.bool s7,.slice ao7 n7 cp7,.int .i64 e7] 28):=⟨_,rfl⟩
     obtain⟨y1,y2,y3,y4⟩:=two_new _ _ hW1
     obtain⟨g7,hg7⟩:∃ g,g=w1.heap.size:=⟨_,rfl⟩
     have HM:Hid (W1.heap[g7]?=some (.cells #[.bool s7,.slice ao7 n7 cp7,.int .i64 e7] 28 (0,0))∧W1.heap[g7+1]?=some (.cells #[.bool s7,.slice ao7 n7 cp7,.int .i64 e7] 28 (0,0))∧PN W1 (.agg #[.bool s7,.slice ao7 n7 cp7,.int .i64 e7]) (un ((A1 / B1:Nat):Int) 0)∧Bw wr W1∧wr.heap.size≤g7):=(by rw[hg7];exact⟨y1,y2,hP7.later y4,hb7.trans (y4.mono hb7.size),hb7.size⟩)
     clear hP7 hb7 y1 y2 y3 y4
     go_upto_region 7 with fail
     rw[←hW1,←hg7]
     clear hW1 hg7
     have HBX:Hid (Bw wr W1):=HM.out.2.2.2.1
     have hn2:A1 / B1<2^(k+1):=pow_grow 1 (Nat.lt_of_le_of_lt (Nat.div_le_self _ _) (lt _ HL.out.2.1.lA))
     obtain⟨cs4,x4,s3,ao3,n3,cp3,e3,s4,ao4,n4,cp4,e4,hcs4,p3,p4⟩:=(HL.out.2.2.2.1.later HBX.out)
     obtain rfl:=Value.agg.inj hcs4
     obtain⟨⟨c0,c1,c2,c3,c4,c5⟩,-⟩:=cells6F x4
     obtain⟨⟨f0,f1,f2⟩,-⟩:=cells3N HM.out.2.1
     have kk:=below_un (k:=k+1) ((H1.out.1.later HL.out.2.2.2.2.2.2.2).later HBX.out) (⟨_,_,_,_,_,_,_,_,_,_,rfl,p3,p4⟩:Fv W1 (.agg #[.bool s3,.slice ao3 n3 cp3,.int .i64 e3,.bool s4,.slice ao4 n4 cp4,.int .i64 e4]) (un (C1:Int) 1074) (un (D1:Int) 1074)) HM.out.2.2.1 (pow_grow 1 (lt _ HL.out.2.1.lC)) (pow_grow 1 (lt _ HL.out.2.1.lD)) hn2 (by have:=H1.out.2.2;omega)
     rw[decide_eq_false (HL.out.2.1.whole h0).2] at kk
     clear x4 p3 p4 hcs4
     go_wp2_with fail
     refine kk.mono ?_
     rintro r w2 ⟨rfl,hb2⟩
     have HB3:Hid (Bw W1 w2):=hb2
     have HB2:Hid (Bw wr w2):=HBX.out.trans (hb2.mono HBX.out.size)
     clear kk hb2 c0 c1 c2 c3 c4 c5 f0 f1 f2
     obtain⟨cs5,x5,s3,ao3,n3,cp3,e3,s4,ao4,n4,cp4,e4,hcs5,p3,p4⟩:=(HL.out.2.2.2.2.1.later HB2.out)
     obtain rfl:=Value.agg.inj hcs5
     obtain⟨cs6,x6,s5,ao5,n5,cp5,e5,s6,ao6,n6,cp6,e6,hcs6,p5,p6⟩:=(HL.out.2.2.2.2.2.1.later HB2.out)
     obtain rfl:=Value.agg.inj hcs6
     obtain⟨⟨c0,c1,c2,c3,c4,c5⟩,-⟩:=cells6F x5
     obtain⟨⟨d0,d1,d2,d3,d4,d5⟩,-⟩:=cells6F x6
     obtain⟨⟨f0,f1,f2⟩,-⟩:=cells3N (box_later HM.out.2.1 HB3.out (lt_of_box HM.out.2.1))
     have kk:=cont_un (k:=k+1) ((H1.out.1.later HL.out.2.2.2.2.2.2.2).later HB2.out) (⟨_,_,_,_,_,_,_,_,_,_,rfl,p3,p4⟩:Fv w2 (.agg #[.bool s3,.slice ao3 n3 cp3,.int .i64 e3,.bool s4,.slice ao4 n4 cp4,.int .i64 e4]) (un (bp:Int) 0) (un (bq:Int) 0)) (⟨_,_,_,_,_,_,_,_,_,_,rfl,p5,p6⟩:Fv w2 (.agg #[.bool s5,.slice ao5 n5 cp5,.int .i64 e5,.bool s6,.slice ao6 n6 cp6,.int .i64 e6]) (un (lp:Int) 0) (un (lq:Int) 0)) (HM.out.2.2.1.later HB3.out) (pow_grow 1 (lt _ HL.out.2.1.lbp)) (pow_grow 1 (lt _ HL.out.2.1.lbq)) (pow_grow 1 (lt _ HL.out.2.1.llp)) (pow_grow 1 (lt _ HL.out.2.1.llq)) hn2 (by have:=H1.out.2.2;omega)
     clear x5 x6 p3 p4 p5 p6 hcs5 hcs6
     go_wp2_with fail
     refine kk.mono ?_
     rintro r w3 ⟨U,rfl,hU,hb3⟩
     clear kk c0 c1 c2 c3 c4 c5 d0 d1 d2 d3 d4 d5 f0 f1 f2
     obtain⟨s3,ao3,n3,cp3,e3,s4,ao4,n4,cp4,e4,rfl,p3,p4⟩:=hU
     have HX:Hid (w3.heap[w.heap.size+1]?=some (.cells #[.bool false,.slice none 0 0,.int .i64 0,.bool false,.slice none 0 0,.int .i64 0] 45 (0,0))∧Bw w w3∧PN w3 (.agg #[.bool s3,.slice ao3 n3 cp3,.int .i64 e3]) (un (P:Int) 0)∧PN w3 (.agg #[.bool s4,.slice ao4 n4 cp4,.int .i64 e4]) (un (Q:Int) 0)):=(by
      have hbb:Bw wr w3:=HB2.out.trans (hb3.mono HB2.out.size)
      have heq:=(HL.out.2.1.whole h0).1
      rw[heq.1,heq.2]
      exact⟨box_later HL.out.2.2.2.2.2.2.1 hbb (lt_of_box HL.out.2.2.2.2.2.2.1),HL.out.2.2.2.2.2.2.2.trans (hbb.mono HL.out.2.2.2.2.2.2.2.size),p3,p4⟩:w3.heap[w.heap.size+1]?=some (.cells #[.bool false,.slice none 0 0,.int .i64 0,.bool false,.slice none 0 0,.int .i64 0] 45 (0,0))∧Bw w w3∧PN w3 (.agg #[.bool s3,.slice ao3 n3 cp3,.int .i64 e3]) (un (P:Int) 0)∧PN w3 (.agg #[.bool s4,.slice ao4 n4 cp4,.int .i64 e4]) (un (Q:Int) 0))
     obtain⟨⟨c0,c1,c2,c3,c4,c5⟩,d0,d1,d2,d3,d4,d5⟩:=cells6F HX.out.1
     clear p3 p4 hb3
     go_wp2_with fail
     refine bodyPost_ret (results_cell_row rfl _ _ (w.heap.size+1) 45 #[.bool s3,.slice ao3 n3 cp3,.int .i64 e3,.bool s4,.slice ao4 n4 cp4,.int .i64 e4] (0,0) _ rfl (set6_at _ _ _ _ _ _ HX.out.1) Tryz.underlying45 rfl (by kernel_rfl)) rfl ?_
     exact⟨_,rfl,⟨_,_,_,_,_,_,_,_,_,_,rfl,HX.out.2.2.1.set6 HX.out.1 _ _ _ _ _ _,HX.out.2.2.2.set6 HX.out.1 _ _ _ _ _ _⟩,below_set6 HX.out.2.1 (by omega) _ _ _ _ _ _⟩
    ·rw[decide_eq_false h0] at kk
     go_wp2_with fail
     refine kk.mono ?_
     rintro r w1 ⟨s7,ao7,n7,cp7,e7,rfl,hP7,hb7⟩
     clear kk c0 c1 c2 c3 c4 c5
     obtain⟨W1,hW1⟩:∃ W1,W1=(w1.alloc (.cells #[.bool s7,.slice ao7 n7 cp7,.int .i64 e7] 28)).alloc (.cells #[.bool s7,.slice ao7 n7 cp7,.int .i64 e7] 28):=⟨_,rfl⟩
     obtain⟨y1,y2,y3,y4⟩:=two_new _ _ hW1
     obtain⟨g7,hg7⟩:∃ g,g=w1.heap.size:=⟨_,rfl⟩
     have HM:Hid (W1.heap[g7]?=some (.cells #[.bool s7,.slice ao7 n7 cp7,.int .i64 e7] 28 (0,0))∧W1.heap[g7+1]?=some (.cells #[.bool s7,.slice ao7 n7 cp7,.int .i64 e7] 28 (0,0))∧PN W1 (.agg #[.bool s7,.slice ao7 n7 cp7,.int .i64 e7]) (un ((A1 / B1:Nat):Int) 0)∧Bw wr W1∧wr.heap.size≤g7):=(by rw[hg7];exact⟨y1,y2,hP7.later y4,hb7.trans (y4.mono hb7.size),hb7.size⟩)
     clear hP7 hb7 y1 y2 y3 y4
     go_upto_region 6 with fail
     rw[←hW1,←hg7]
     clear hW1 hg7
     have hnk:A1 / B1<2^k:=Nat.lt_of_le_of_lt (Nat.div_le_self _ _) (lt _ HL.out.2.1.lA)
     have hk1:1<2^(k+1):=by rw[Nat.pow_succ];have:=Nat.two_pow_pos k;omega
     obtain⟨m7,m9,mP,mB,mg⟩:=HM.out
     have hwW:Bw w W1:=HL.out.2.2.2.2.2.2.2.trans (mB.mono HL.out.2.2.2.2.2.2.2.size)
     have hbx9:∀ i,i<1→∃ cs,W1.heap[(fun _=>g7+1) i]?=some (.cells cs 28 (0,0))∧NC3 cs:=fun i hi=>⟨_,m9,_,_,_,_,_,rfl⟩
     refine wrS_region follows_mixed 6 1 [29,30,31,28,32,33] [[],[],[0,1],[2],[3],[3]] [[4]] [4] (fun _=>9) (fun _=>g7+1) wr.heap.size 28 NC3 3 W1 _ [isV (.agg #[.bool s7,.slice ao7 n7 cp7,.int .i64 e7]),isP (un ((1:Nat):Int) 0),isT2 (un ((A1 / B1+1:Nat):Int) 0),isT2 (un ((A1 / B1+1:Nat):Int) 0),isP (un ((A1 / B1+1:Nat):Int) 0),isV (.int .i64 0)] (by kernel_rfl) ⟨isV_stays _,isP_stays _,isT2_stays _,isT2_stays _,isP_stays _,isV_stays _,trivial⟩ ⟨isV_rows _ _ _,isP_rows3 _,isT2_rows3 _,isT2_rows3 _,isP_rows3 _,isV_rows _ _ _,trivial⟩ ⟨rfl,by decide,by show ∀ s ∈ [29,30,31,28,32,33],s<53;decide⟩ ?_ ?_ Tryz.info28 ?_ ?_ ?_ (fun i i' hi hi' _=>by omega) mB.size ?_
     ·intro i hi V u h
      obtain rfl:i=0:=by omega
      exact PN.cells3 (show PN V u (un ((A1 / B1+1:Nat):Int) 0)from h)
     ·intro j hj o ho act V hK hoth hdep hrd
      have h7:V.heap[g7]?=some (.cells #[.bool s7,.slice ao7 n7 cp7,.int .i64 e7] 28 (0,0)):=(hK.keep g7 (lt_of_box m7) (fun i hi=>by show g7≠g7+1;omega)).trans m7
      have c3:=(cells3N h7).1
      have hBV:Bw w V:=HL.out.2.2.2.2.2.2.2.trans ((mB.trans hK.below).mono HL.out.2.2.2.2.2.2.2.size)
      rcases lt6F hj with rfl|rfl|rfl|rfl|rfl|rfl
      ·obtain rfl:=Option.some.inj ho
       have h0':act.tmps[(7:Nat)]?=some (Value.pointer (some ⟨g7,0,none⟩)):=(hoth 7 (by decide)).trans rfl
       exact owp_run1 (w':=V) (v:=.agg #[.bool s7,.slice ao7 n7 cp7,.int .i64 e7]) (by simp[execOp,eval_get h0',run_ldN _ 0 s7 ao7 n7 cp7 e7 V c3.1 c3.2.1 c3.2.2]) ⟨_,rfl,rfl,Below.refl _ _⟩
      ·obtain rfl:=Option.some.inj ho
       refine owp_call rfl (enters Tryz.func37 (by kernel_rfl) (by kernel_rfl)) (vs:=#[.int .i64 1]) (by simp only[List.map_toArray,List.map_cons,List.map_nil];rfl) ?_
       refine(HK3.out V hBV).mono ?_
       rintro r w' ⟨s',ao',n',cap',e',rfl,hP,hb'⟩
       exact⟨_,rfl,_,rfl,hP,hb'⟩
      ·obtain rfl:=Option.some.inj ho
       obtain⟨u0,q0,v0⟩:=hdep 0 (by simp[dL])
       obtain rfl:u0=_:=v0
       obtain⟨u1,q1,v1⟩:=hdep 1 (by simp[dL])
       have q0':act.tmps[(29:Nat)]?=_:=q0
       have q1':act.tmps[(30:Nat)]?=_:=q1
       refine owp_call rfl (enters Tryz.func39 (by kernel_rfl) (by kernel_rfl)) (vs:=#[.agg #[.bool s7,.slice ao7 n7 cp7,.int .i64 e7],u1]) (by simp only[List.map_toArray,List.map_cons,List.map_nil];rw[eval_get q0',eval_get q1']) ?_
       refine(paddN (k:=k+1) (pow_grow 1 hnk) hk1 (by have:=H1.out.2.2;omega) (by omega) V _ _ (H1.out.1.later hBV) (mP.keep3 hK hbx9) v1).mono ?_
       rintro r w' ⟨s',ao',n',cap',e',rfl,hP,hb'⟩
       exact⟨_,rfl,_,rfl,⟨_,_,_,_,_,rfl,hP⟩,hb'⟩
      ·obtain rfl:=Option.some.inj ho
       obtain⟨u0,q0,v0⟩:=hdep 2 (by simp[dL])
       have q0':act.tmps[(31:Nat)]?=_:=q0
       exact owp_move rfl q0' ⟨_,rfl,v0,Below.refl _ _⟩
      ·obtain rfl:=Option.some.inj ho
       obtain⟨u0,q0,s',ao',n',cap',e',rfl,hP⟩:=hdep 3 (by simp[dL])
       have q0':act.tmps[(28:Nat)]?=_:=q0
       exact owp_run1 (w':=V) (v:=.agg #[.bool s',.slice ao' n' cap',.int .i64 e']) (by simp[execOp,eval_get q0',Instr.extract]) ⟨_,rfl,hP,Below.refl _ _⟩
      ·obtain rfl:=Option.some.inj ho
       obtain⟨u0,q0,s',ao',n',cap',e',rfl,hP⟩:=hdep 3 (by simp[dL])
       have q0':act.tmps[(28:Nat)]?=_:=q0
       exact owp_run1 (w':=V) (v:=.int .i64 0) (by simp[execOp,eval_get q0',Instr.extract]) ⟨_,rfl,rfl,Below.refl _ _⟩
     ·intro i hi
      obtain rfl:i=0:=by omega
      exact⟨_,rfl,rfl⟩
     ·intro i hi
      exact⟨rfl,by show [29,30,31,28,32,33].contains 9=false;decide⟩
     ·intro i hi
      exact⟨by show wr.heap.size≤g7+1;omega,_,m9,rfl,_,_,_,_,_,rfl⟩
     ·intro u V2 hK hu hcs
      have e4':PN V2 (u 4) (un ((A1 / B1+1:Nat):Int) 0):=hu 4 (by omega)
      obtain⟨cs9,y9,z9⟩:=hcs 0 (by omega)
      have y9':u 4=.agg cs9:=y9
      obtain⟨s9,ao9,n9,cp9,e9,hsh⟩:=e4'.shape
      have hcs9:cs9 = #[.bool s9,.slice ao9 n9 cp9,.int .i64 e9]:=Value.agg.inj (y9'.symm.trans hsh)
      subst hcs9
      rw[hsh] at e4'
      have HN:Hid (V2.heap[g7]?=some (.cells #[.bool s7,.slice ao7 n7 cp7,.int .i64 e7] 28 (0,0))∧V2.heap[g7+1]?=some (.cells #[.bool s9,.slice ao9 n9 cp9,.int .i64 e9] 28 (0,0))∧PN V2 (.agg #[.bool s9,.slice ao9 n9 cp9,.int .i64 e9]) (un ((A1 / B1+1:Nat):Int) 0)∧PN V2 (.agg #[.bool s7,.slice ao7 n7 cp7,.int .i64 e7]) (un ((A1 / B1:Nat):Int) 0)):=⟨(hK.keep g7 (lt_of_box m7) (fun i hi=>by show g7≠g7+1;omega)).trans m7,z9,e4',mP.keep3 hK hbx9⟩
      have HBX:Hid (Bw wr V2):=mB.trans hK.below
      clear hu e4' hcs y9 y9' z9 hbx9
      simp only[putL,show List.range 6 = [0,1,2,3,4,5] from rfl,List.getD_cons_zero,List.getD_cons_succ,List.map_cons,List.map_nil,List.cons_append,List.nil_append,List.foldl_cons,List.foldl_nil,Nat.reduceLT,Nat.reduceMod,Nat.reduceDiv,Nat.reduceMul,Nat.reduceAdd,Nat.reduceEqDiff,reduceIte,Nat.one_ne_zero,Act.put,List.setIfInBounds_toArray,List.set_cons_zero,List.set_cons_succ]
      rw[hsh]
      have hmg:wr.heap.size≤g7:=mg
      clear m7 m9 mP mB mg hwW hK HM hsh
      have hn2:A1 / B1+1<2^(k+1):=by rw[Nat.pow_succ];have:=Nat.two_pow_pos k;omega
      go_upto_region 7 with fail
      by_cases hc:C1<(A1 / B1+1)*D1
      ·obtain⟨cs4,x4,s3,ao3,n3,cp3,e3,s4,ao4,n4,cp4,e4,hcs4,p3,p4⟩:=(HL.out.2.2.2.1.later HBX.out)
       obtain rfl:=Value.agg.inj hcs4
       obtain⟨⟨c0,c1,c2,c3,c4,c5⟩,-⟩:=cells6F x4
       obtain⟨⟨f0,f1,f2⟩,-⟩:=cells3N HN.out.2.1
       have kk:=below_un (k:=k+1) ((H1.out.1.later HL.out.2.2.2.2.2.2.2).later HBX.out) (⟨_,_,_,_,_,_,_,_,_,_,rfl,p3,p4⟩:Fv V2 (.agg #[.bool s3,.slice ao3 n3 cp3,.int .i64 e3,.bool s4,.slice ao4 n4 cp4,.int .i64 e4]) (un (C1:Int) 1074) (un (D1:Int) 1074)) HN.out.2.2.1 (pow_grow 1 (lt _ HL.out.2.1.lC)) (pow_grow 1 (lt _ HL.out.2.1.lD)) hn2 (by have:=H1.out.2.2;omega)
       rw[decide_eq_true hc] at kk
       clear x4 p3 p4 hcs4
       go_wp2_with fail
       refine kk.mono ?_
       rintro r w2 ⟨rfl,hb2⟩
       have HB3:Hid (Bw V2 w2):=hb2
       have HB2:Hid (Bw wr w2):=HBX.out.trans (hb2.mono HBX.out.size)
       clear kk hb2 c0 c1 c2 c3 c4 c5 f0 f1 f2
       obtain⟨hstep,hle1,hle2,hmes⟩:=HL.out.2.1.step h0 hc
       have HST:Hid (SI X P Q D1 (C1 - A1 / B1*D1) B1 (A1 - A1 / B1*B1) lp lq (bp+lp*(A1 / B1)) (bq+lq*(A1 / B1))∧A1 / B1*D1≤C1∧A1 / B1*B1≤A1∧(C1 - A1 / B1*D1)+(A1 - A1 / B1*B1)<B1+D1):=⟨hstep,hle1,hle2,hmes⟩
       clear hstep hle1 hle2 hmes
       go_upto_region 9 with fail
       have HW2:Hid (FB w2 g3 (un (A1:Int) 1074) (un (B1:Int) 1074)∧FB w2 g4 (un (C1:Int) 1074) (un (D1:Int) 1074)∧FB w2 g5 (un (bp:Int) 0) (un (bq:Int) 0)∧FB w2 g6 (un (lp:Int) 0) (un (lq:Int) 0)∧w2.heap[w.heap.size+1]?=some (.cells #[.bool false,.slice none 0 0,.int .i64 0,.bool false,.slice none 0 0,.int .i64 0] 45 (0,0))∧Bw w w2∧w2.heap[g7]?=some (.cells #[.bool s7,.slice ao7 n7 cp7,.int .i64 e7] 28 (0,0))∧PN w2 (.agg #[.bool s7,.slice ao7 n7 cp7,.int .i64 e7]) (un ((A1 / B1:Nat):Int) 0)∧g5<wr.heap.size∧g6<wr.heap.size∧g3<wr.heap.size∧g4<wr.heap.size):=(by
        obtain⟨-,-,q3,q4,q5,q6,qR,qB⟩:=HL.out
        have l3:=lt_of_box q3.choose_spec.1
        have l4:=lt_of_box q4.choose_spec.1
        have l5:=lt_of_box q5.choose_spec.1
        have l6:=lt_of_box q6.choose_spec.1
        exact⟨q3.later HB2.out,q4.later HB2.out,q5.later HB2.out,q6.later HB2.out,box_later qR HB2.out (lt_of_box qR),qB.trans (HB2.out.mono qB.size),box_later HN.out.1 HB3.out (lt_of_box HN.out.1),HN.out.2.2.2.later HB3.out,l5,l6,l3,l4⟩)
       obtain⟨q3,q4,q5,q6,qR,qB,q7,qP,l5,l6,l3,l4⟩:=HW2.out
       have hbox:∀ i,i<2→∃ cs,w2.heap[two g5 g6 i]?=some (.cells cs 45 (0,0))∧FrC cs:=fun i hi=>by
        rcases lt2F hi with rfl|rfl
        ·exact q5.frc
        ·exact q6.frc
       refine wrL_region follows_mixed 5 2 42 [[],[],[],[],[1,2,3]] [[0,1],[4,0,2]] [0,4] (fun i=>5+i) (two g5 g6) (w.heap.size+1+1) 45 FrC 6 w2 _ [isF (un (lp:Int) 0) (un (lq:Int) 0),isF (un (bp:Int) 0) (un (bq:Int) 0),isF (un (lp:Int) 0) (un (lq:Int) 0),isV (.agg #[.bool s7,.slice ao7 n7 cp7,.int .i64 e7]),isF (un ((bp+lp*(A1 / B1):Nat):Int) 0) (un ((bq+lq*(A1 / B1):Nat):Int) 0)] (by kernel_rfl) ⟨isF_stays _ _,isF_stays _ _,isF_stays _ _,isV_stays _,isF_stays _ _,trivial⟩ ⟨isF_rows _ _,isF_rows _ _,isF_rows _ _,isV_rows _ _ _,isF_rows _ _,trivial⟩ (by show 47≤53;decide) ?_ ?_ (by kernel_rfl) ?_ ?_ ?_ (two_inj HD.out.2.1) (by have:=qB.size;have:=lt_of_box qR;omega) ?_
       ·intro i hi V u h
        rcases lt2F hi with rfl|rfl
        ·exact Fv.cells (show Fv V u (un (lp:Int) 0) (un (lq:Int) 0)from h)
        ·exact Fv.cells (show Fv V u (un ((bp+lp*(A1 / B1):Nat):Int) 0) (un ((bq+lq*(A1 / B1):Nat):Int) 0)from h)
       ·intro j hj o ho act V hK hoth hdep hrd
        have ld6:∀ {t1 t2},FB w2 g6 t1 t2→V.heap[g6]?=w2.heap[g6]?→∃ cs,V.heap[g6]?=some (.cells cs 45 (0,0))∧cs.size=6∧Fv V (.agg cs) t1 t2:=fun hf he=>by
         obtain⟨cs,x1,x2⟩:=hf
         exact⟨cs,he.trans x1,x2.frc.size,x2.keep hK hbox⟩
        have ld5:∀ {t1 t2},FB w2 g5 t1 t2→V.heap[g5]?=w2.heap[g5]?→∃ cs,V.heap[g5]?=some (.cells cs 45 (0,0))∧cs.size=6∧Fv V (.agg cs) t1 t2:=fun hf he=>by
         obtain⟨cs,x1,x2⟩:=hf
         exact⟨cs,he.trans x1,x2.frc.size,x2.keep hK hbox⟩
        have h7:V.heap[g7]?=some (.cells #[.bool s7,.slice ao7 n7 cp7,.int .i64 e7] 28 (0,0)):=(hK.keep g7 (lt_of_box q7) (ne7 hmg l5 l6)).trans q7
        have c3:=(cells3N h7).1
        rcases lt5F hj with rfl|rfl|rfl|rfl|rfl
        ·obtain rfl:=Option.some.inj ho
         obtain⟨cs,x1,x2,x3⟩:=ld6 q6 (hrd 1 (by omega) (by simp[dL]))
         have h0':act.tmps[(6:Nat)]?=some (Value.pointer (some ⟨g6,0,none⟩)):=(hoth 6 (by omega)).trans rfl
         exact owp_run1 (w':=V) (v:=.agg cs) (by simp[execOp,eval_get h0',run_ldF _ _ V x1 x2]) ⟨_,rfl,x3,Below.refl _ _⟩
        ·obtain rfl:=Option.some.inj ho
         obtain⟨cs,x1,x2,x3⟩:=ld5 q5 (hrd 0 (by omega) (by simp[dL]))
         have h0':act.tmps[(5:Nat)]?=some (Value.pointer (some ⟨g5,0,none⟩)):=(hoth 5 (by omega)).trans rfl
         exact owp_run1 (w':=V) (v:=.agg cs) (by simp[execOp,eval_get h0',run_ldF _ _ V x1 x2]) ⟨_,rfl,x3,Below.refl _ _⟩
        ·obtain rfl:=Option.some.inj ho
         obtain⟨cs,x1,x2,x3⟩:=ld6 q6 (hrd 1 (by omega) (by simp[dL]))
         have h0':act.tmps[(6:Nat)]?=some (Value.pointer (some ⟨g6,0,none⟩)):=(hoth 6 (by omega)).trans rfl
         exact owp_run1 (w':=V) (v:=.agg cs) (by simp[execOp,eval_get h0',run_ldF _ _ V x1 x2]) ⟨_,rfl,x3,Below.refl _ _⟩
        ·obtain rfl:=Option.some.inj ho
         have h0':act.tmps[(7:Nat)]?=some (Value.pointer (some ⟨g7,0,none⟩)):=(hoth 7 (by omega)).trans rfl
         exact owp_run1 (w':=V) (v:=.agg #[.bool s7,.slice ao7 n7 cp7,.int .i64 e7]) (by simp[execOp,eval_get h0',run_ldN _ 0 s7 ao7 n7 cp7 e7 V c3.1 c3.2.1 c3.2.2]) ⟨_,rfl,rfl,Below.refl _ _⟩
        ·obtain rfl:=Option.some.inj ho
         obtain⟨u0,z0,v0⟩:=hdep 1 (by simp[dL])
         obtain⟨u1,z1,v1⟩:=hdep 2 (by simp[dL])
         obtain⟨u2,z2,v2⟩:=hdep 3 (by simp[dL])
         obtain rfl:u2=_:=v2
         refine owp_call rfl (enters Tryz.func41 (by kernel_rfl) (by kernel_rfl)) (vs:=#[u0,u1,.agg #[.bool s7,.slice ao7 n7 cp7,.int .i64 e7]]) (by simp only[List.map_toArray,List.map_cons,List.map_nil];rw[eval_get z0,eval_get z1,eval_get z2]) ?_
         have hTV:Tab32 V:=H1.out.1.later (below_keep qB hK (by omega))
         refine(cont_un (k:=k) hTV v0 v1 (qP.keep hK hbox) (lt _ HL.out.2.1.lbp) (lt _ HL.out.2.1.lbq) (lt _ HL.out.2.1.llp) (lt _ HL.out.2.1.llq) hnk (by have:=H1.out.2.2;omega)).mono ?_
         rintro r w' ⟨U,rfl,hP,hb'⟩
         exact⟨_,rfl,_,rfl,hP,hb'⟩
       ·intro i hi
        rcases lt2F hi with rfl|rfl <;> exact⟨_,rfl,rfl⟩
       ·intro i hi
        rcases lt2F hi with rfl|rfl
        ·exact⟨rfl,by decide⟩
        ·exact⟨rfl,by decide⟩
       ·intro i hi
        rcases lt2F hi with rfl|rfl
        ·obtain⟨cs,x1,x2⟩:=q5.frc
         exact⟨HD.out.2.2.2.2.1,cs,x1,x2.size,x2⟩
        ·obtain⟨cs,x1,x2⟩:=q6.frc
         exact⟨HD.out.2.2.2.2.2.1,cs,x1,x2.size,x2⟩
       ·intro u V hK hu hcs
        have d:=HD.out
        obtain⟨cs0,y0,y1⟩:=hcs 0 (by omega)
        obtain⟨cs1,y2,y3⟩:=hcs 1 (by omega)
        have f0:Fv V (u 0) (un (lp:Int) 0) (un (lq:Int) 0):=hu 0 (by omega)
        have f4:Fv V (u 4) (un ((bp+lp*(A1 / B1):Nat):Int) 0) (un ((bq+lq*(A1 / B1):Nat):Int) 0):=hu 4 (by omega)
        have y0':u 0=.agg cs0:=y0
        have y2':u 4=.agg cs1:=y2
        rw[y0'] at f0
        rw[y2'] at f4
        have ne:∀ {g:Nat},g≠g5→g≠g6→∀ i,i<2→g≠two g5 g6 i:=fun h1 h2 i hi=>by
         rcases lt2F hi with rfl|rfl
         ·exact h1
         ·exact h2
        have HV:Hid (FB V g3 (un (A1:Int) 1074) (un (B1:Int) 1074)∧FB V g4 (un (C1:Int) 1074) (un (D1:Int) 1074)∧FB V g5 (un (lp:Int) 0) (un (lq:Int) 0)∧FB V g6 (un ((bp+lp*(A1 / B1):Nat):Int) 0) (un ((bq+lq*(A1 / B1):Nat):Int) 0)∧V.heap[w.heap.size+1]?=some (.cells #[.bool false,.slice none 0 0,.int .i64 0,.bool false,.slice none 0 0,.int .i64 0] 45 (0,0))∧Bw w V∧V.heap[g7]?=some (.cells #[.bool s7,.slice ao7 n7 cp7,.int .i64 e7] 28 (0,0))∧PN V (.agg #[.bool s7,.slice ao7 n7 cp7,.int .i64 e7]) (un ((A1 / B1:Nat):Int) 0)) :=
         ⟨q3.keep hK hbox (ne d.2.2.2.2.2.2.1 d.2.2.2.2.2.2.2.1),q4.keep hK hbox (ne d.2.2.2.2.2.2.2.2.1 d.2.2.2.2.2.2.2.2.2),⟨cs0,y1,f0⟩,⟨cs1,y3,f4⟩,(hK.keep _ (lt_of_box qR) (ne (by omega) (by omega))).trans qR,below_keep qB hK (by omega),(hK.keep g7 (lt_of_box q7) (ne (by omega) (by omega))).trans q7,qP.keep hK hbox⟩
        clear hu hcs f0 f4 y0 y1 y2 y3 y0' y2' q3 q4 q5 q6 qR qB q7 qP hbox hK HW2
        simp only[putL,show List.range 5 = [0,1,2,3,4] from rfl,List.map_cons,List.map_nil,List.cons_append,List.nil_append,List.foldl_cons,List.foldl_nil,Nat.reduceLT,Nat.reduceMod,Nat.reduceDiv,Nat.reduceMul,Nat.reduceAdd,Nat.reduceEqDiff,reduceIte,Nat.one_ne_zero,Act.put,List.setIfInBounds_toArray,List.set_cons_zero,List.set_cons_succ]
        go_upto_region 10 with fail
        obtain⟨q3,q4,q5,q6,qR,qB,q7,qP⟩:=HV.out
        have hbox:∀ i,i<2→∃ cs,V.heap[two g3 g4 i]?=some (.cells cs 45 (0,0))∧FrC cs:=fun i hi=>by
         rcases lt2F hi with rfl|rfl
         ·exact q3.frc
         ·exact q4.frc
        refine wrL_region follows_mixed 6 2 47 [[],[],[0,1],[],[],[3,4]] [[2,3],[5,0]] [2,5] (fun i=>3+i) (two g3 g4) (w.heap.size+1+1) 45 FrC 6 V _ [isF (un (C1:Int) 1074) (un (D1:Int) 1074),isV (.agg #[.bool s7,.slice ao7 n7 cp7,.int .i64 e7]),isF (un (D1:Int) 1074) (un ((C1 - A1 / B1*D1:Nat):Int) 1074),isF (un (A1:Int) 1074) (un (B1:Int) 1074),isV (.agg #[.bool s7,.slice ao7 n7 cp7,.int .i64 e7]),isF (un (B1:Int) 1074) (un ((A1 - A1 / B1*B1:Nat):Int) 1074)] (by kernel_rfl) ⟨isF_stays _ _,isV_stays _,isF_stays _ _,isF_stays _ _,isV_stays _,isF_stays _ _,trivial⟩ ⟨isF_rows _ _,isV_rows _ _ _,isF_rows _ _,isF_rows _ _,isV_rows _ _ _,isF_rows _ _,trivial⟩ (by show 53≤53;decide) ?_ ?_ (by kernel_rfl) ?_ ?_ ?_ (two_inj HD.out.1) (by have:=qB.size;have:=lt_of_box qR;omega) ?_
        ·intro i hi V' u h
         rcases lt2F hi with rfl|rfl
         ·exact Fv.cells (show Fv V' u (un (D1:Int) 1074) (un ((C1 - A1 / B1*D1:Nat):Int) 1074)from h)
         ·exact Fv.cells (show Fv V' u (un (B1:Int) 1074) (un ((A1 - A1 / B1*B1:Nat):Int) 1074)from h)
        ·intro j hj o ho act V' hK hoth hdep hrd
         have ldg:∀ {g t1 t2},FB V g t1 t2→V'.heap[g]?=V.heap[g]?→∃ cs,V'.heap[g]?=some (.cells cs 45 (0,0))∧cs.size=6∧Fv V' (.agg cs) t1 t2:=fun hf he=>by
          obtain⟨cs,x1,x2⟩:=hf
          exact⟨cs,he.trans x1,x2.frc.size,x2.keep hK hbox⟩
         have h7:V'.heap[g7]?=some (.cells #[.bool s7,.slice ao7 n7 cp7,.int .i64 e7] 28 (0,0)):=(hK.keep g7 (lt_of_box q7) (ne7 hmg l3 l4)).trans q7
         have c3:=(cells3N h7).1
         have hTV:Tab32 V':=H1.out.1.later (below_keep qB hK (by omega))
         rcases lt6F hj with rfl|rfl|rfl|rfl|rfl|rfl
         ·obtain rfl:=Option.some.inj ho
          obtain⟨cs,x1,x2,x3⟩:=ldg q4 (hrd 1 (by omega) (by simp[dL]))
          have h0':act.tmps[(4:Nat)]?=some (Value.pointer (some ⟨g4,0,none⟩)):=(hoth 4 (by omega)).trans rfl
          exact owp_run1 (w':=V') (v:=.agg cs) (by simp[execOp,eval_get h0',run_ldF _ _ V' x1 x2]) ⟨_,rfl,x3,Below.refl _ _⟩
         ·obtain rfl:=Option.some.inj ho
          have h0':act.tmps[(7:Nat)]?=some (Value.pointer (some ⟨g7,0,none⟩)):=(hoth 7 (by omega)).trans rfl
          exact owp_run1 (w':=V') (v:=.agg #[.bool s7,.slice ao7 n7 cp7,.int .i64 e7]) (by simp[execOp,eval_get h0',run_ldN _ 0 s7 ao7 n7 cp7 e7 V' c3.1 c3.2.1 c3.2.2]) ⟨_,rfl,rfl,Below.refl _ _⟩
         ·obtain rfl:=Option.some.inj ho
          obtain⟨u0,z0,v0⟩:=hdep 0 (by simp[dL])
          obtain⟨u1,z1,v1⟩:=hdep 1 (by simp[dL])
          obtain rfl:u1=_:=v1
          refine owp_call rfl (enters Tryz.func42 (by kernel_rfl) (by kernel_rfl)) (vs:=#[u0,.agg #[.bool s7,.slice ao7 n7 cp7,.int .i64 e7]]) (by simp only[List.map_toArray,List.map_cons,List.map_nil];rw[eval_get z0,eval_get z1]) ?_
          refine(rest_un (k:=k) hTV v0 (qP.keep hK hbox) (lt _ HL.out.2.1.lC) (lt _ HL.out.2.1.lD) hnk HST.out.2.1 (by have:=H1.out.2.2;omega)).mono ?_
          rintro r w' ⟨U,rfl,hP,hb'⟩
          exact⟨_,rfl,_,rfl,hP,hb'⟩
         ·obtain rfl:=Option.some.inj ho
          obtain⟨cs,x1,x2,x3⟩:=ldg q3 (hrd 0 (by omega) (by simp[dL]))
          have h0':act.tmps[(3:Nat)]?=some (Value.pointer (some ⟨g3,0,none⟩)):=(hoth 3 (by omega)).trans rfl
          exact owp_run1 (w':=V') (v:=.agg cs) (by simp[execOp,eval_get h0',run_ldF _ _ V' x1 x2]) ⟨_,rfl,x3,Below.refl _ _⟩
         ·obtain rfl:=Option.some.inj ho
          have h0':act.tmps[(7:Nat)]?=some (Value.pointer (some ⟨g7,0,none⟩)):=(hoth 7 (by omega)).trans rfl
          exact owp_run1 (w':=V') (v:=.agg #[.bool s7,.slice ao7 n7 cp7,.int .i64 e7]) (by simp[execOp,eval_get h0',run_ldN _ 0 s7 ao7 n7 cp7 e7 V' c3.1 c3.2.1 c3.2.2]) ⟨_,rfl,rfl,Below.refl _ _⟩
         ·obtain rfl:=Option.some.inj ho
          obtain⟨u0,z0,v0⟩:=hdep 3 (by simp[dL])
          obtain⟨u1,z1,v1⟩:=hdep 4 (by simp[dL])
          obtain rfl:u1=_:=v1
          refine owp_call rfl (enters Tryz.func42 (by kernel_rfl) (by kernel_rfl)) (vs:=#[u0,.agg #[.bool s7,.slice ao7 n7 cp7,.int .i64 e7]]) (by simp only[List.map_toArray,List.map_cons,List.map_nil];rw[eval_get z0,eval_get z1]) ?_
          refine(rest_un (k:=k) hTV v0 (qP.keep hK hbox) (lt _ HL.out.2.1.lA) (lt _ HL.out.2.1.lB) hnk HST.out.2.2.1 (by have:=H1.out.2.2;omega)).mono ?_
          rintro r w' ⟨U,rfl,hP,hb'⟩
          exact⟨_,rfl,_,rfl,hP,hb'⟩
        ·intro i hi
         rcases lt2F hi with rfl|rfl <;> exact⟨_,rfl,rfl⟩
        ·intro i hi
         rcases lt2F hi with rfl|rfl
         ·exact⟨rfl,by decide⟩
         ·exact⟨rfl,by decide⟩
        ·intro i hi
         rcases lt2F hi with rfl|rfl
         ·obtain⟨cs,x1,x2⟩:=q3.frc
          exact⟨HD.out.2.2.1,cs,x1,x2.size,x2⟩
         ·obtain⟨cs,x1,x2⟩:=q4.frc
          exact⟨HD.out.2.2.2.1,cs,x1,x2.size,x2⟩
        ·intro u2 V' hK hu hcs
         have d:=HD.out
         obtain⟨cs0,y0,y1⟩:=hcs 0 (by omega)
         obtain⟨cs1,y2,y3⟩:=hcs 1 (by omega)
         have f0:Fv V' (u2 2) (un (D1:Int) 1074) (un ((C1 - A1 / B1*D1:Nat):Int) 1074):=hu 2 (by omega)
         have f4:Fv V' (u2 5) (un (B1:Int) 1074) (un ((A1 - A1 / B1*B1:Nat):Int) 1074):=hu 5 (by omega)
         have y0':u2 2=.agg cs0:=y0
         have y2':u2 5=.agg cs1:=y2
         rw[y0'] at f0
         rw[y2'] at f4
         have ne2:∀ {g:Nat},g≠g3→g≠g4→∀ i,i<2→g≠two g3 g4 i:=fun h1 h2 i hi=>by
          rcases lt2F hi with rfl|rfl
          ·exact h1
          ·exact h2
         have HV2:Hid (LI X P Q w g3 g4 g5 g6 (w.heap.size+1) ((C1 - A1 / B1*D1)+(A1 - A1 / B1*B1)) V') :=
          ⟨D1,C1 - A1 / B1*D1,B1,A1 - A1 / B1*B1,lp,lq,bp+lp*(A1 / B1),bq+lq*(A1 / B1),rfl,HST.out.1,⟨cs0,y1,f0⟩,⟨cs1,y3,f4⟩,q5.keep hK hbox (ne2 (Ne.symm d.2.2.2.2.2.2.1) (Ne.symm d.2.2.2.2.2.2.2.2.1)),q6.keep hK hbox (ne2 (Ne.symm d.2.2.2.2.2.2.2.1) (Ne.symm d.2.2.2.2.2.2.2.2.2)),(hK.keep _ (lt_of_box qR) (ne2 (by omega) (by omega))).trans qR,below_keep qB hK (by omega)⟩
         clear hu hcs f0 f4 y0 y1 y2 y3 y0' y2' q3 q4 q5 q6 qR qB q7 qP hbox hK HV
         simp only[putL,show List.range 6 = [0,1,2,3,4,5] from rfl,List.map_cons,List.map_nil,List.cons_append,List.nil_append,List.foldl_cons,List.foldl_nil,Nat.reduceLT,Nat.reduceMod,Nat.reduceDiv,Nat.reduceMul,Nat.reduceAdd,Nat.reduceEqDiff,reduceIte,Nat.one_ne_zero,Act.put,List.setIfInBounds_toArray,List.set_cons_zero,List.set_cons_succ]
         go_wp2_with fail
         go_roundg ((C1 - A1 / B1*D1)+(A1 - A1 / B1*B1))
         case measure=>have:=HST.out.2.2.2;have:=HL.out.1;omega
         case rel=>exact HV2.out
      ·obtain⟨cs4,x4,s3,ao3,n3,cp3,e3,s4,ao4,n4,cp4,e4,hcs4,p3,p4⟩:=(HL.out.2.2.2.1.later HBX.out)
       obtain rfl:=Value.agg.inj hcs4
       obtain⟨⟨c0,c1,c2,c3,c4,c5⟩,-⟩:=cells6F x4
       obtain⟨⟨f0,f1,f2⟩,-⟩:=cells3N HN.out.2.1
       have kk:=below_un (k:=k+1) ((H1.out.1.later HL.out.2.2.2.2.2.2.2).later HBX.out) (⟨_,_,_,_,_,_,_,_,_,_,rfl,p3,p4⟩:Fv V2 (.agg #[.bool s3,.slice ao3 n3 cp3,.int .i64 e3,.bool s4,.slice ao4 n4 cp4,.int .i64 e4]) (un (C1:Int) 1074) (un (D1:Int) 1074)) HN.out.2.2.1 (pow_grow 1 (lt _ HL.out.2.1.lC)) (pow_grow 1 (lt _ HL.out.2.1.lD)) hn2 (by have:=H1.out.2.2;omega)
       rw[decide_eq_false hc] at kk
       clear x4 p3 p4 hcs4
       go_wp2_with fail
       refine kk.mono ?_
       rintro r w2 ⟨rfl,hb2⟩
       have HB3:Hid (Bw V2 w2):=hb2
       have HB2:Hid (Bw wr w2):=HBX.out.trans (hb2.mono HBX.out.size)
       clear kk hb2 c0 c1 c2 c3 c4 c5 f0 f1 f2
       obtain⟨cs5,x5,s3,ao3,n3,cp3,e3,s4,ao4,n4,cp4,e4,hcs5,p3,p4⟩:=(HL.out.2.2.2.2.1.later HB2.out)
       obtain rfl:=Value.agg.inj hcs5
       obtain⟨cs6,x6,s5,ao5,n5,cp5,e5,s6,ao6,n6,cp6,e6,hcs6,p5,p6⟩:=(HL.out.2.2.2.2.2.1.later HB2.out)
       obtain rfl:=Value.agg.inj hcs6
       obtain⟨⟨c0,c1,c2,c3,c4,c5⟩,-⟩:=cells6F x5
       obtain⟨⟨d0,d1,d2,d3,d4,d5⟩,-⟩:=cells6F x6
       obtain⟨⟨f0,f1,f2⟩,-⟩:=cells3N (box_later HN.out.2.1 HB3.out (lt_of_box HN.out.2.1))
       have kk:=cont_un (k:=k+1) ((H1.out.1.later HL.out.2.2.2.2.2.2.2).later HB2.out) (⟨_,_,_,_,_,_,_,_,_,_,rfl,p3,p4⟩:Fv w2 (.agg #[.bool s3,.slice ao3 n3 cp3,.int .i64 e3,.bool s4,.slice ao4 n4 cp4,.int .i64 e4]) (un (bp:Int) 0) (un (bq:Int) 0)) (⟨_,_,_,_,_,_,_,_,_,_,rfl,p5,p6⟩:Fv w2 (.agg #[.bool s5,.slice ao5 n5 cp5,.int .i64 e5,.bool s6,.slice ao6 n6 cp6,.int .i64 e6]) (un (lp:Int) 0) (un (lq:Int) 0)) (HN.out.2.2.1.later HB3.out) (pow_grow 1 (lt _ HL.out.2.1.lbp)) (pow_grow 1 (lt _ HL.out.2.1.lbq)) (pow_grow 1 (lt _ HL.out.2.1.llp)) (pow_grow 1 (lt _ HL.out.2.1.llq)) hn2 (by have:=H1.out.2.2;omega)
       clear x5 x6 p3 p4 p5 p6 hcs5 hcs6
       go_wp2_with fail
       refine kk.mono ?_
       rintro r w3 ⟨U,rfl,hU,hb3⟩
       clear kk c0 c1 c2 c3 c4 c5 d0 d1 d2 d3 d4 d5 f0 f1 f2
       obtain⟨s3,ao3,n3,cp3,e3,s4,ao4,n4,cp4,e4,rfl,p3,p4⟩:=hU
       have HX:Hid (w3.heap[w.heap.size+1]?=some (.cells #[.bool false,.slice none 0 0,.int .i64 0,.bool false,.slice none 0 0,.int .i64 0] 45 (0,0))∧Bw w w3∧PN w3 (.agg #[.bool s3,.slice ao3 n3 cp3,.int .i64 e3]) (un (P:Int) 0)∧PN w3 (.agg #[.bool s4,.slice ao4 n4 cp4,.int .i64 e4]) (un (Q:Int) 0)):=(by
        have hbb:Bw wr w3:=HB2.out.trans (hb3.mono HB2.out.size)
        have heq:=HL.out.2.1.above h0 hc
        rw[heq.1,heq.2]
        exact⟨box_later HL.out.2.2.2.2.2.2.1 hbb (lt_of_box HL.out.2.2.2.2.2.2.1),HL.out.2.2.2.2.2.2.2.trans (hbb.mono HL.out.2.2.2.2.2.2.2.size),p3,p4⟩:w3.heap[w.heap.size+1]?=some (.cells #[.bool false,.slice none 0 0,.int .i64 0,.bool false,.slice none 0 0,.int .i64 0] 45 (0,0))∧Bw w w3∧PN w3 (.agg #[.bool s3,.slice ao3 n3 cp3,.int .i64 e3]) (un (P:Int) 0)∧PN w3 (.agg #[.bool s4,.slice ao4 n4 cp4,.int .i64 e4]) (un (Q:Int) 0))
       obtain⟨⟨c0,c1,c2,c3,c4,c5⟩,d0,d1,d2,d3,d4,d5⟩:=cells6F HX.out.1
       clear p3 p4 hb3
       go_wp2_with fail
       refine bodyPost_ret (results_cell_row rfl _ _ (w.heap.size+1) 45 #[.bool s3,.slice ao3 n3 cp3,.int .i64 e3,.bool s4,.slice ao4 n4 cp4,.int .i64 e4] (0,0) _ rfl (set6_at _ _ _ _ _ _ HX.out.1) Tryz.underlying45 rfl (by kernel_rfl)) rfl ?_
       exact⟨_,rfl,⟨_,_,_,_,_,_,_,_,_,_,rfl,HX.out.2.2.1.set6 HX.out.1 _ _ _ _ _ _,HX.out.2.2.2.set6 HX.out.1 _ _ _ _ _ _⟩,below_set6 HX.out.2.1 (by omega) _ _ _ _ _ _⟩
end Go.Proofs.YtcdkkpjilgmncaaGreatDoor
namespace Go.Proofs.YtcdkkpjilgmncaaGreatDoor
open Go.RowKit
def qrow (PVL PSL SL:List Nat) (D rd:List (List Nat)) (vs:List Nat) (i:Nat) (o:Oper):Bool :=
 o.after.all (fun e => !(Region.binds .any e)||decide (e.on<i))&&(PVL.contains i||PSL.contains i)
def qval (ops:Array Oper) (PVL SL:List Nat) (D:List (List Nat)) (j:Nat):Bool :=
 match ops[PVL.getD j 0]? with
 | some o=>o.dst==some (SL.getD j 0)&&(dL D j).all (fun j'=>decide (j'<PVL.length)&&vhas o (PVL.getD j' 0))
 | none=>false
def qsto (ops:Array Oper) (PVL PSL:List Nat) (rd:List (List Nat)) (vs:List Nat) (k:Nat):Bool :=
 match ops[PSL.getD k 0]? with
 | some o=>o.dst==none&&o.guard.isNone&&decide (vs.getD k 0<PVL.length)&&(dL rd k).contains (vs.getD k 0)&&(dL rd k).all (fun j=>decide (j<PVL.length)&&vhas o (PVL.getD j 0))
 | none=>false
def qchk (ops:Array Oper) (PVL PSL SL:List Nat) (D rd:List (List Nat)) (vs:List Nat):Bool :=
 ((List.range ops.size).all fun i=>match ops[i]? with|some o=>qrow PVL PSL SL D rd vs i o|none=>false)&&(List.range PVL.length).all (qval ops PVL SL D)&&(List.range PSL.length).all (qsto ops PVL PSL rd vs)&&decide (PVL++PSL).Nodup&&decide SL.Nodup&&decide (SL.length=PVL.length)
theorem getD_mem {l:List Nat} {j:Nat} (h:j<l.length):l.getD j 0 ∈ l:=by
 rw[List.getD_eq_getElem?_getD,List.getElem?_eq_getElem h]
 exact List.getElem_mem h
theorem getD_inj {l:List Nat} (hn:l.Nodup) {i j:Nat} (hi:i<l.length) (hj:j<l.length) (h:l.getD i 0=l.getD j 0):i=j:=by
 rw[List.getD_eq_getElem?_getD,List.getD_eq_getElem?_getD,List.getElem?_eq_getElem hi,List.getElem?_eq_getElem hj] at h
 exact(List.getElem_inj hn).1 h
theorem mem_getD {l:List Nat} {x:Nat} (h:x ∈ l):∃ j,j<l.length∧x=l.getD j 0:=by
 obtain⟨j,hj,e⟩:=List.mem_iff_getElem.1 h
 exact⟨j,hj,by rw[List.getD_eq_getElem?_getD,List.getElem?_eq_getElem hj];exact e.symm⟩
theorem q_region {P:Program} {ops:Array Oper} {Q:Exit→Act→World→Prop} {id:Nat} (hm:P.follows .mixedOrders=true) (PVL PSL SL:List Nat) (D rd:List (List Nat)) (vs:List Nat) (bx gs:Nat→Nat) (B:Nat) (T:TypeId) (C:Array Value→Prop) (z:Nat)
  (W0:World) (a0:Act) (L:List (World→Value→Prop)) (hchk:qchk ops PVL PSL SL D rd vs=true)
  (hV1:StaysAll L) (hV2:RowsAll T C L) (hsl:∀ s ∈ SL,s<a0.tmps.size)
  (hVs:∀ k,k<PSL.length→∀ w u,vL L (vs.getD k 0) w u→∃ cs:Array Value,u=.agg cs∧cs.size=z∧C cs∧cs.all (·.oneCell')=true)
  (hA:∀ j,j<PVL.length→∀ o,ops[PVL.getD j 0]?=some o→∀ (a:Act) (w:World),KeepB PSL.length gs B W0 w→(∀ s:Nat,SL.contains s=false→a.tmps[s]?=a0.tmps[s]?) →
   (∀ j' ∈ dL D j,∃ u,a.tmps[SL.getD j' 0]?=some u∧vL L j' w u)→(∀ k,k<PSL.length→j ∈ dL rd k→w.heap[gs k]?=W0.heap[gs k]?) →
   (o.guard=none∧o.wp P a w (fun a' w'=>∃ u,a'=a.put o.dst u∧vL L j w' u∧Bw w w') Q)∨wpOp P ops Q (PVL.getD j 0) (fun a' w'=>∃ u,a'=a.put o.dst u∧vL L j w' u∧Bw w w') a w)
  (hi:(P.info? T).map (·.size)=some z)
  (hst:∀ k,k<PSL.length→∃ o,ops[PSL.getD k 0]?=some o∧o.op=.store T (.tmp (bx k)) (.tmp (SL.getD (vs.getD k 0) 0)))
  (hbx:∀ k,k<PSL.length→a0.tmps[bx k]?=some (.pointer (some ⟨gs k,0,none⟩))∧SL.contains (bx k)=false)
  (hbox:∀ k,k<PSL.length→B≤gs k∧∃ cs,W0.heap[gs k]?=some (.cells cs T (0,0))∧cs.size=z∧C cs)
  (hgs:∀ k k',k<PSL.length→k'<PSL.length→gs k=gs k'→k=k') (hB:B≤W0.heap.size)
  (hQ:∀ (u:Nat→Value) (w:World),KeepB PSL.length gs B W0 w→(∀ j,j<PVL.length→vL L j w (u j)) →
   (∀ k,k<PSL.length→∃ cs,u (vs.getD k 0)=.agg cs∧w.heap[gs k]?=some (.cells cs T (0,0)))→Q .normal (putL a0 ((List.range PVL.length).map (fun j=>(SL.getD j 0,u j)))) w) :
  (Code.region id ops true).wp P Q a0 W0:=by
 unfold qchk at hchk
 simp only[Bool.and_eq_true,decide_eq_true_eq] at hchk
 obtain⟨⟨⟨⟨⟨h1,h2⟩,h3⟩,h4⟩,h5⟩,h6⟩:=hchk
 obtain⟨n1,n2,n3⟩:=List.nodup_append.1 h4
 have row:∀ {i o},ops[i]?=some o→qrow PVL PSL SL D rd vs i o=true:=fun {i o} ho=>by
  have:=List.all_eq_true.1 h1 i (List.mem_range.2 (Array.getElem?_eq_some_iff.1 ho).1)
  simp only[ho] at this
  exact this
 have val:∀ j,j<PVL.length→∃ o,ops[PVL.getD j 0]?=some o∧o.dst=some (SL.getD j 0)∧∀ j' ∈ dL D j,j'<PVL.length∧∃ e ∈ o.after,e.on=PVL.getD j' 0∧Region.binds .any e=true:=fun j hj=>by
  have:=List.all_eq_true.1 h2 j (List.mem_range.2 hj)
  unfold qval at this
  cases ho:ops[PVL.getD j 0]? with
  | none=>rw[ho] at this;cases this
  | some o =>
   rw[ho] at this
   simp only[Bool.and_eq_true] at this
   refine⟨o,rfl,by simpa using this.1,fun j' hj'=>?_⟩
   have:=List.all_eq_true.1 this.2 j' hj'
   rw[Bool.and_eq_true] at this
   exact⟨of_decide_eq_true this.1,vhas_ex this.2⟩
 have sto:∀ k,k<PSL.length→∃ o,ops[PSL.getD k 0]?=some o∧o.dst=none∧o.guard=none∧vs.getD k 0<PVL.length∧vs.getD k 0 ∈ dL rd k∧∀ j ∈ dL rd k,j<PVL.length∧∃ e ∈ o.after,e.on=PVL.getD j 0∧Region.binds .any e=true:=fun k hk=>by
  have:=List.all_eq_true.1 h3 k (List.mem_range.2 hk)
  unfold qsto at this
  cases ho:ops[PSL.getD k 0]? with
  | none=>rw[ho] at this;cases this
  | some o =>
   rw[ho] at this
   simp only[Bool.and_eq_true] at this
   obtain⟨⟨⟨⟨x1,x2⟩,x3⟩,x4⟩,x5⟩:=this
   refine⟨o,rfl,by simpa using x1,Option.isNone_iff_eq_none.1 x2,of_decide_eq_true x3,by simpa using x4,fun j hj=>?_⟩
   have:=List.all_eq_true.1 x5 j hj
   rw[Bool.and_eq_true] at this
   exact⟨of_decide_eq_true this.1,vhas_ex this.2⟩
 have hoth:∀ {s:Nat},SL.contains s=false→∀ j,j<PVL.length→s≠SL.getD j 0:=fun {s} h j hj e=>by
  have h7:=getD_mem (l:=SL) (j:=j) (by omega)
  rw[←e] at h7
  have:SL.contains s=true:=by simpa using h7
  rw[h] at this;cases this
 refine parq_region hm (fun j=>PVL.getD j 0) (fun k=>PSL.getD k 0) PVL.length PSL.length (fun j=>SL.getD j 0) bx (fun k=>vs.getD k 0) gs B (dL D) (dL rd) T C z W0 a0 (vL L) ?_ ?_ ?_ ?_ (fun j j' hj hj' e=>getD_inj n1 hj hj' e) (fun k k' hk hk' e=>getD_inj n2 hk hk' e) ?_ (fun j w w' u hb h=>vL_stays hV1 j w w' u hb h) (fun j w u g cs cs' y1 y2 h=>vL_rows hV2 j w u g cs cs' y1 y2 h) hVs ?_ ?_ hi ?_ ?_ hbox hgs hB (fun j hj=>hsl _ (getD_mem (by omega))) (fun j j' hj hj' e=>getD_inj h5 (by omega) (by omega) e) ?_
 ·intro i hi'
  have ho:ops[i]?=some ops[i]:=Array.getElem?_eq_getElem hi'
  have:=row ho
  unfold qrow at this
  rw[Bool.and_eq_true,Bool.or_eq_true] at this
  rcases this.2 with h|h
  ·exact .inl (mem_getD (by simpa using h))
  ·exact .inr (mem_getD (by simpa using h))
 ·intro j hj
  obtain⟨o,ho,-⟩:=val j hj
  exact(Array.getElem?_eq_some_iff.1 ho).1
 ·intro k hk
  obtain⟨o,ho,-⟩:=sto k hk
  exact(Array.getElem?_eq_some_iff.1 ho).1
 ·intro j k hj hk
  exact n3 _ (getD_mem hj) _ (getD_mem hk)
 ·intro i o ho e he hb
  have:=row ho
  unfold qrow at this
  rw[Bool.and_eq_true] at this
  have h7:=Array.all_eq_true_iff_forall_mem.1 this.1 e he
  rw[hb] at h7
  exact of_decide_eq_true (by simpa using h7)
 ·intro j hj j' hj'
  obtain⟨o,ho,-,hd⟩:=val j hj
  obtain⟨x1,x2⟩:=hd j' hj'
  refine⟨x1,fun o' ho'=>?_⟩
  obtain rfl:o=o':=Option.some.inj (ho.symm.trans ho')
  exact x2
 ·intro j hj a w hk ho1 hd hrd
  obtain⟨o,ho,hds,-⟩:=val j hj
  have h7:=hA j hj o ho a w hk (fun s hs=>ho1 s (hoth hs)) hd hrd
  rw[hds] at h7
  rcases h7 with ⟨hg,h7⟩|h7
  ·exact step_wanted ho hg h7
  ·exact h7
 ·intro k hk
  obtain⟨o,ho,hop⟩:=hst k hk
  obtain⟨o',ho',x1,x2,x3,x4,x5⟩:=sto k hk
  obtain rfl:o'=o:=Option.some.inj (ho'.symm.trans ho)
  exact⟨x3,o',ho,x2,hop,x1,x4,x5⟩
 ·intro k hk
  exact⟨(hbx k hk).1,hoth (hbx k hk).2⟩
 ·intro u a w hk hu hcs hs hd ho1
  have q1:((List.range PVL.length).map (fun j=>((SL.getD j 0,u j):Tmp×Value))).map (fun p:Tmp×Value=>p.1)=(List.range PVL.length).map (fun j=>SL.getD j 0):=by simp[Function.comp_def]
  have ha:=act_putL (a:=a) (a0:=a0) (l:=(List.range PVL.length).map (fun j=>((SL.getD j 0,u j):Tmp×Value))) (by
    rw[q1]
    refine List.pairwise_map.2 ((List.nodup_range (n:=PVL.length)).imp_of_mem ?_)
    intro x y hx hy hne he
    have:=List.mem_range.1 hx
    have:=List.mem_range.1 hy
    exact hne (getD_inj h5 (by omega) (by omega) he)) hs hd (by
    intro p hp
    obtain⟨i,hi,rfl⟩:=List.mem_map.1 hp
    exact(hu i (List.mem_range.1 hi)).1) (fun s hsn=>ho1 s (fun i hi he=>hsn (List.mem_map.2 ⟨_,List.mem_map.2 ⟨i,List.mem_range.2 hi,rfl⟩,he.symm⟩)))
  rw[ha]
  exact hQ u w hk (fun j hj=>(hu j hj).2) hcs
end Go.Proofs.YtcdkkpjilgmncaaGreatDoor
namespace Go.Proofs.YtcdkkpjilgmncaaGreatDoor
open Go.RowKit Go.Fl64
theorem results_c2t {P:Program} {fn:Func} {p q u:Tmp} {ty:TypeId} (h:fn.results = #[.cell p ty,.cell q ty,.tmp u]) (tmps:Array Value) (w:World) (g k:Nat) (t:TypeId) (cs ds:Array Value) (fr fs:Nat×Nat) (d:TypeDesc)
  (hp:tmps.getD p undef=.pointer (some ⟨g,0,none⟩)) (hq:tmps.getD q undef=.pointer (some ⟨k,0,none⟩)) (hg:w.heap[g]?=some (.cells cs t fr)) (hk:w.heap[k]?=some (.cells ds t fs))
  (hu:P.underlying ty=some d) (hd:(match d with | .struct _ | .array _ _=>true|_=>false)=true) (hi:(P.info? ty).map (·.size)=some cs.size) (hj:(P.info? ty).map (·.size)=some ds.size) :
  (results fn tmps).run P w=.ok (.tuple #[.agg cs,.agg ds,tmps.getD u undef]) w:=by
 have hp':tmps[p]?.getD undef=.pointer (some ⟨g,0,none⟩):=by simpa using hp
 have hq':tmps[q]?.getD undef=.pointer (some ⟨k,0,none⟩):=by simpa using hq
 simp[results,h,hp',hq',asAddr,run_loadVar_row w g t ty cs fr d hg hu hd hi,run_loadVar_row w k t ty ds fs d hk hu hd hj,Result.andThen]
def Out2N (W:World) (t1 t2:Bool×Nat×Int) (E:Int) (r:Ending) (w':World):Prop:=∃ (s1:Bool) (ao1:Option Addr) (n1 cp1:Nat) (e1:Int) (s2:Bool) (ao2:Option Addr) (n2 cp2:Nat) (e2:Int),r=.returned (.tuple #[.agg #[.bool s1,.slice ao1 n1 cp1,.int .i64 e1],.agg #[.bool s2,.slice ao2 n2 cp2,.int .i64 e2],.int .i64 E])∧PN w' (.agg #[.bool s1,.slice ao1 n1 cp1,.int .i64 e1]) t1∧PN w' (.agg #[.bool s2,.slice ao2 n2 cp2,.int .i64 e2]) t2∧Bw W w'
theorem psimp_no (a b:Nat) (w:World)
  (k1:∀ W,Bw w W→Calls Tryz.prog 12 #[.agg #[.float .f64 a,.float .f64 b]] W fun r w'=>r=.returned (.bool false)∧Bw W w') :
  Calls Tryz.prog 4 #[.agg #[.float .f64 a,.float .f64 b]] w fun r w'=>Out2N w nilN nilN 1 r w':=by
 obtain⟨W,hW⟩:∃ W,W=((w.alloc (.cells #[.float .f64 a,.float .f64 b] 24)).alloc (.cells #[.bool false,.slice none 0 0,.int .i64 0] 28)).alloc (.cells #[.bool false,.slice none 0 0,.int .i64 0] 28):=⟨_,rfl⟩
 obtain⟨hF,hN,hM,hBW⟩:=three_new _ _ _ hW
 have c0:W.cell? ⟨w.heap.size,0,none⟩=some (.float .f64 a):=by simp[World.cell?,hF]
 have c1:W.cell? ⟨w.heap.size,1,none⟩=some (.float .f64 b):=by simp[World.cell?,hF]
 have HF:Hid (W.heap[w.heap.size+1]?=some (.cells #[.bool false,.slice none 0 0,.int .i64 0] 28 (0,0))∧W.heap[w.heap.size+1+1]?=some (.cells #[.bool false,.slice none 0 0,.int .i64 0] 28 (0,0))∧Bw w W):=⟨hN,hM,hBW⟩
 have kk:=k1 W hBW
 clear k1 hF hN hM hBW
 go_enter Tryz.func4,Tryz.ntmps4
 go_upto_region 1 with fail
 rw[←hW]
 clear hW
 go_wp2_with fail
 refine kk.mono ?_
 rintro r w1 ⟨rfl,hb1⟩
 clear kk c0 c1
 have HG:Hid (w1.heap[w.heap.size+1]?=some (.cells #[.bool false,.slice none 0 0,.int .i64 0] 28 (0,0))∧w1.heap[w.heap.size+1+1]?=some (.cells #[.bool false,.slice none 0 0,.int .i64 0] 28 (0,0))∧Bw w w1):=⟨box_later HF.out.1 hb1 (lt_of_box HF.out.1),box_later HF.out.2.1 hb1 (lt_of_box HF.out.2.1),HF.out.2.2.trans (hb1.mono HF.out.2.2.size)⟩
 obtain⟨⟨x0,x1,x2⟩,x3,x4,x5⟩:=cells3N HG.out.1
 obtain⟨⟨y0,y1,y2⟩,y3,y4,y5⟩:=cells3N HG.out.2.1
 clear hb1 HF
 go_wp2_with fail
 obtain⟨V,hV⟩:∃ V,V=((w1.setCell ⟨w.heap.size+1,0,none⟩ (.bool false)).setCell ⟨w.heap.size+1,1,none⟩ (.slice none 0 0)).setCell ⟨w.heap.size+1,2,none⟩ (.int .i64 0):=⟨_,rfl⟩
 have v1:=set3_at (.bool false) (.slice none 0 0) (.int .i64 0) HG.out.1
 have v2:V.heap[w.heap.size+1+1]?=some (.cells #[.bool false,.slice none 0 0,.int .i64 0] 28 (0,0)):=by
  rw[hV,set_other _ _ _ _ _ (by omega),set_other _ _ _ _ _ (by omega),set_other _ _ _ _ _ (by omega)]
  exact HG.out.2.1
 rw[←hV] at v1 ⊢
 refine bodyPost_ret (results_c2t rfl _ _ (w.heap.size+1) (w.heap.size+1+1) 28 #[.bool false,.slice none 0 0,.int .i64 0] #[.bool false,.slice none 0 0,.int .i64 0] (0,0) (0,0) _ rfl rfl (by rw[set_other _ _ _ _ _ (by omega),set_other _ _ _ _ _ (by omega),set_other _ _ _ _ _ (by omega)];exact v1) (set3_at _ _ _ v2) Tryz.underlying28 rfl Tryz.info28 Tryz.info28) rfl ?_
 exact⟨_,_,_,_,_,_,_,_,_,_,rfl,pn_nilN _,pn_nilN _,below_set3 (by rw[hV];exact below_set3 HG.out.2.2 (by omega) _ _ _) (by omega) _ _ _⟩
theorem psimp_pos (a b x y:Nat) (t1 t2:Bool×Nat×Int) (w:World) (hlt:(FloatKind.f64.format.order b 0==some Ordering.lt)=false)
  (k1:∀ W,Bw w W→Calls Tryz.prog 12 #[.agg #[.float .f64 a,.float .f64 b]] W fun r w'=>r=.returned (.bool true)∧Bw W w')
  (k2:∀ W,Bw w W→Calls Tryz.prog 14 #[.agg #[.float .f64 a,.float .f64 b]] W fun r w'=>r=.returned (.agg #[.float .f64 x,.float .f64 y])∧Bw W w')
  (k3:∀ W,Bw w W→Calls Tryz.prog 13 #[.agg #[.float .f64 x,.float .f64 y]] W fun r w'=>OutFv W t1 t2 r w') :
  Calls Tryz.prog 4 #[.agg #[.float .f64 a,.float .f64 b]] w fun r w'=>Out2N w t1 t2 0 r w':=by
 obtain⟨W,hW⟩:∃ W,W=((w.alloc (.cells #[.float .f64 a,.float .f64 b] 24)).alloc (.cells #[.bool false,.slice none 0 0,.int .i64 0] 28)).alloc (.cells #[.bool false,.slice none 0 0,.int .i64 0] 28):=⟨_,rfl⟩
 obtain⟨hF,hN,hM,hBW⟩:=three_new _ _ _ hW
 have c0:W.cell? ⟨w.heap.size,0,none⟩=some (.float .f64 a):=by simp[World.cell?,hF]
 have c1:W.cell? ⟨w.heap.size,1,none⟩=some (.float .f64 b):=by simp[World.cell?,hF]
 have HF:Hid (W.heap[w.heap.size]?=some (.cells #[.float .f64 a,.float .f64 b] 24 (0,0))∧W.heap[w.heap.size+1]?=some (.cells #[.bool false,.slice none 0 0,.int .i64 0] 28 (0,0))∧W.heap[w.heap.size+1+1]?=some (.cells #[.bool false,.slice none 0 0,.int .i64 0] 28 (0,0))∧Bw w W):=⟨hF,hN,hM,hBW⟩
 have HK2:Hid _:=k2
 have HK3:Hid _:=k3
 have kk:=k1 W hBW
 clear k1 k2 k3 hF hN hM hBW
 go_enter Tryz.func4,Tryz.ntmps4
 go_upto_region 1 with fail
 rw[←hW]
 clear hW
 go_wp2_with fail
 refine kk.mono ?_
 rintro r w1 ⟨rfl,hb1⟩
 clear kk c0 c1
 have HG:Hid (w1.heap[w.heap.size]?=some (.cells #[.float .f64 a,.float .f64 b] 24 (0,0))∧w1.heap[w.heap.size+1]?=some (.cells #[.bool false,.slice none 0 0,.int .i64 0] 28 (0,0))∧w1.heap[w.heap.size+1+1]?=some (.cells #[.bool false,.slice none 0 0,.int .i64 0] 28 (0,0))∧Bw w w1):=⟨box_later HF.out.1 hb1 (lt_of_box HF.out.1),box_later HF.out.2.1 hb1 (lt_of_box HF.out.2.1),box_later HF.out.2.2.1 hb1 (lt_of_box HF.out.2.2.1),HF.out.2.2.2.trans (hb1.mono HF.out.2.2.2.size)⟩
 have c0:w1.cell? ⟨w.heap.size,0,none⟩=some (.float .f64 a):=by simp[World.cell?,HG.out.1]
 have c1:w1.cell? ⟨w.heap.size,1,none⟩=some (.float .f64 b):=by simp[World.cell?,HG.out.1]
 clear hb1 HF
 have kk:=HK2.out w1 HG.out.2.2.2
 go_wp2_with fail
 refine kk.mono ?_
 rintro r w2 ⟨rfl,hb2⟩
 clear kk c0 c1
 have HB2:Hid (Bw w1 w2):=hb2
 have kk:=HK3.out w2 (HG.out.2.2.2.trans (hb2.mono HG.out.2.2.2.size))
 clear hb2
 go_wp2_with fail
 refine kk.mono ?_
 rintro r w3 ⟨U,rfl,hU,hb3⟩
 clear kk
 obtain⟨s1,ao1,n1,cp1,e1,s2,ao2,n2,cp2,e2,rfl,p1,p2⟩:=hU
 obtain⟨W4,hW4⟩:∃ W4,W4=w3.alloc (.cells #[.bool s1,.slice ao1 n1 cp1,.int .i64 e1,.bool s2,.slice ao2 n2 cp2,.int .i64 e2] 45):=⟨_,rfl⟩
 obtain⟨g5,hg5⟩:∃ g,g=w3.heap.size:=⟨_,rfl⟩
 have hb4:Bw w3 W4:=by rw[hW4];exact(Below.refl _ _).alloc (Nat.le_refl _) _
 have hb14:Bw w1 W4:=(HB2.out.trans (hb3.mono HB2.out.size)).trans (hb4.mono (HB2.out.trans (hb3.mono HB2.out.size)).size)
 have HM:Hid (W4.heap[w.heap.size]?=some (.cells #[.float .f64 a,.float .f64 b] 24 (0,0))∧W4.heap[w.heap.size+1]?=some (.cells #[.bool false,.slice none 0 0,.int .i64 0] 28 (0,0))∧W4.heap[w.heap.size+1+1]?=some (.cells #[.bool false,.slice none 0 0,.int .i64 0] 28 (0,0))∧Bw w W4∧W4.heap[g5]?=some (.cells #[.bool s1,.slice ao1 n1 cp1,.int .i64 e1,.bool s2,.slice ao2 n2 cp2,.int .i64 e2] 45 (0,0))∧PN W4 (.agg #[.bool s1,.slice ao1 n1 cp1,.int .i64 e1]) t1∧PN W4 (.agg #[.bool s2,.slice ao2 n2 cp2,.int .i64 e2]) t2∧w1.heap.size≤g5):=⟨box_later HG.out.1 hb14 (lt_of_box HG.out.1),box_later HG.out.2.1 hb14 (lt_of_box HG.out.2.1),box_later HG.out.2.2.1 hb14 (lt_of_box HG.out.2.2.1),HG.out.2.2.2.trans (hb14.mono HG.out.2.2.2.size),by rw[hW4,hg5];exact heap_alloc_new _ _,p1.later hb4,p2.later hb4,by rw[hg5];exact Nat.le_trans HB2.out.size hb3.size⟩
 have c1:W4.cell? ⟨w.heap.size,1,none⟩=some (.float .f64 b):=by simp[World.cell?,HM.out.1]
 have HS:Hid (w.heap.size+1+1<w1.heap.size):=lt_of_box HG.out.2.2.1
 clear p1 p2 hb3 hb4 hb14 HB2 HG
 rw[hW4] at c1
 go_upto_region 6 with fail
 rw[←hW4,←hg5]
 clear hW4 hg5 c1
 obtain⟨m1,m2,m3,mB,m5,mP,mQ,mg⟩:=HM.out
 have hg5:w.heap.size+1+1<g5:=by have:=HS.out;omega
 have hbx2:∀ i,i<2→∃ cs,W4.heap[two (w.heap.size+1) (w.heap.size+1+1) i]?=some (.cells cs 28 (0,0))∧NC3 cs:=fun i hi=>by
  rcases lt2F hi with rfl|rfl
  ·exact⟨_,m2,_,_,_,_,_,rfl⟩
  ·exact⟨_,m3,_,_,_,_,_,rfl⟩
 have ne5:∀ i,i<2→g5≠two (w.heap.size+1) (w.heap.size+1+1) i:=fun i hi=>by
  rcases lt2F hi with rfl|rfl
  ·show g5≠w.heap.size+1;omega
  ·show g5≠w.heap.size+1+1;omega
 refine q_region follows_mixed [0,1,2,3,6] [4,5] [22,23,24,25,4] [[],[0],[],[2],[]] [[1],[3]] [1,3] (two 2 3) (two (w.heap.size+1) (w.heap.size+1+1)) w.heap.size 28 NC3 3 W4 _ [isV (.pointer (some ⟨g5,0,none⟩)),isV (.agg #[.bool s1,.slice ao1 n1 cp1,.int .i64 e1]),isV (.pointer (some ⟨g5,3,none⟩)),isV (.agg #[.bool s2,.slice ao2 n2 cp2,.int .i64 e2]),isV (.int .i64 0)] (by kernel_rfl) ⟨isV_stays _,isV_stays _,isV_stays _,isV_stays _,isV_stays _,trivial⟩ ⟨isV_rows _ _ _,isV_rows _ _ _,isV_rows _ _ _,isV_rows _ _ _,isV_rows _ _ _,trivial⟩ (by show ∀ s ∈ [22,23,24,25,4],s<26;decide) ?_ ?_ Tryz.info28 ?_ ?_ ?_ (two_inj (by omega)) mB.size ?_
 ·intro i hi V u h
  rcases lt2F hi with rfl|rfl
  ·obtain rfl:u=_:=h
   exact⟨_,rfl,rfl,⟨_,_,_,_,_,rfl⟩,one3 rfl rfl⟩
  ·obtain rfl:u=_:=h
   exact⟨_,rfl,rfl,⟨_,_,_,_,_,rfl⟩,one3 rfl rfl⟩
 ·intro j hj o ho act V hK hoth hdep hrd
  have h5:V.heap[g5]?=some (.cells #[.bool s1,.slice ao1 n1 cp1,.int .i64 e1,.bool s2,.slice ao2 n2 cp2,.int .i64 e2] 45 (0,0)):=(hK.keep g5 (lt_of_box m5) ne5).trans m5
  have c6:=(cells6F h5).1
  have hp5:act.tmps[(5:Nat)]?=some (Value.pointer (some ⟨g5,0,none⟩)):=(hoth 5 (by decide)).trans rfl
  rcases lt5F hj with rfl|rfl|rfl|rfl|rfl
  ·obtain rfl:=Option.some.inj ho
   exact .inl ⟨rfl,owp_run1 (w':=V) (v:=_) (by simp[execOp,eval_get hp5,run_fr0]) ⟨_,rfl,rfl,Below.refl _ _⟩⟩
  ·obtain rfl:=Option.some.inj ho
   obtain⟨u0,z0,v0⟩:=hdep 0 (by simp[dL])
   obtain rfl:u0=_:=v0
   have z0':act.tmps[(22:Nat)]?=_:=z0
   exact .inl ⟨rfl,owp_run1 (w':=V) (v:=.agg #[.bool s1,.slice ao1 n1 cp1,.int .i64 e1]) (by simp[execOp,eval_get z0',run_ldN _ 0 s1 ao1 n1 cp1 e1 V c6.1 c6.2.1 c6.2.2.1]) ⟨_,rfl,rfl,Below.refl _ _⟩⟩
  ·obtain rfl:=Option.some.inj ho
   exact .inl ⟨rfl,owp_run1 (w':=V) (v:=_) (by simp[execOp,eval_get hp5,run_fr1]) ⟨_,rfl,rfl,Below.refl _ _⟩⟩
  ·obtain rfl:=Option.some.inj ho
   obtain⟨u0,z0,v0⟩:=hdep 2 (by simp[dL])
   obtain rfl:u0=_:=v0
   have z0':act.tmps[(24:Nat)]?=_:=z0
   exact .inl ⟨rfl,owp_run1 (w':=V) (v:=.agg #[.bool s2,.slice ao2 n2 cp2,.int .i64 e2]) (by simp[execOp,eval_get z0',run_ldN _ 3 s2 ao2 n2 cp2 e2 V c6.2.2.2.1 c6.2.2.2.2.1 c6.2.2.2.2.2]) ⟨_,rfl,rfl,Below.refl _ _⟩⟩
  ·obtain rfl:=Option.some.inj ho
   exact .inl ⟨rfl,owp_run1 (w':=V) (v:=.int .i64 0) (by simp[execOp,Act.eval]) ⟨_,rfl,rfl,Below.refl _ _⟩⟩
 ·intro i hi
  rcases lt2F hi with rfl|rfl <;> exact⟨_,rfl,rfl⟩
 ·intro i hi
  rcases lt2F hi with rfl|rfl
  ·exact⟨rfl,by decide⟩
  ·exact⟨rfl,by decide⟩
 ·intro i hi
  rcases lt2F hi with rfl|rfl
  ·exact⟨by show w.heap.size≤w.heap.size+1;omega,_,m2,rfl,_,_,_,_,_,rfl⟩
  ·exact⟨by show w.heap.size≤w.heap.size+1+1;omega,_,m3,rfl,_,_,_,_,_,rfl⟩
 ·intro u V hK hu hcs
  obtain⟨csa,ya,za⟩:=hcs 0 (by decide)
  obtain⟨csb,yb,zb⟩:=hcs 1 (by decide)
  have fa:PN V (u 1) t1:=(by rw[show u 1=.agg #[.bool s1,.slice ao1 n1 cp1,.int .i64 e1] from hu 1 (by decide)];exact mP.keep3 hK hbx2)
  have fb:PN V (u 3) t2:=(by rw[show u 3=.agg #[.bool s2,.slice ao2 n2 cp2,.int .i64 e2] from hu 3 (by decide)];exact mQ.keep3 hK hbx2)
  have ya':u 1=.agg csa:=ya
  have yb':u 3=.agg csb:=yb
  rw[ya'] at fa
  rw[yb'] at fb
  obtain⟨sa,aoa,na,cpa,ea,ha⟩:=fa.shape
  obtain⟨sb,aob,nb,cpb,eb,hb⟩:=fb.shape
  obtain rfl:=Value.agg.inj ha
  obtain rfl:=Value.agg.inj hb
  have u4:u 4=.int .i64 0:=hu 4 (by decide)
  have HX:Hid (V.heap[w.heap.size+1]?=some (.cells #[.bool sa,.slice aoa na cpa,.int .i64 ea] 28 (0,0))∧V.heap[w.heap.size+1+1]?=some (.cells #[.bool sb,.slice aob nb cpb,.int .i64 eb] 28 (0,0))∧PN V (.agg #[.bool sa,.slice aoa na cpa,.int .i64 ea]) t1∧PN V (.agg #[.bool sb,.slice aob nb cpb,.int .i64 eb]) t2∧Bw w V):=⟨za,zb,fa,fb,mB.trans hK.below⟩
  clear hu hcs ya yb za zb ya' yb' fa fb ha hb hK m1 m2 m3 mB m5 mP mQ mg hbx2 ne5 HM
  simp only[putL,List.length_cons,List.length_nil,Nat.reduceAdd,show List.range 5 = [0,1,2,3,4] from rfl,List.getD_cons_zero,List.getD_cons_succ,List.map_cons,List.map_nil,List.cons_append,List.nil_append,List.foldl_cons,List.foldl_nil,Nat.reduceLT,Nat.reduceMod,Nat.reduceDiv,Nat.reduceMul,Nat.reduceEqDiff,reduceIte,Nat.one_ne_zero,Act.put,List.setIfInBounds_toArray,List.set_cons_zero,List.set_cons_succ]
  rw[u4]
  go_wp2_with fail
  refine bodyPost_ret (results_c2t rfl _ _ (w.heap.size+1) (w.heap.size+1+1) 28 #[.bool sa,.slice aoa na cpa,.int .i64 ea] #[.bool sb,.slice aob nb cpb,.int .i64 eb] (0,0) (0,0) _ rfl rfl HX.out.1 HX.out.2.1 Tryz.underlying28 rfl Tryz.info28 Tryz.info28) rfl ?_
  exact⟨_,_,_,_,_,_,_,_,_,_,rfl,HX.out.2.2.1,HX.out.2.2.2.1,HX.out.2.2.2.2⟩
theorem psimp_neg (a b x y:Nat) (t1 t2 t3:Bool×Nat×Int) (w:World) (hlt:(FloatKind.f64.format.order b 0==some Ordering.lt)=true)
  (k1:∀ W,Bw w W→Calls Tryz.prog 12 #[.agg #[.float .f64 a,.float .f64 b]] W fun r w'=>r=.returned (.bool true)∧Bw W w')
  (k2:∀ W,Bw w W→Calls Tryz.prog 14 #[.agg #[.float .f64 a,.float .f64 b]] W fun r w'=>r=.returned (.agg #[.float .f64 x,.float .f64 y])∧Bw W w')
  (k3:∀ W,Bw w W→Calls Tryz.prog 13 #[.agg #[.float .f64 x,.float .f64 y]] W fun r w'=>OutFv W t1 t2 r w')
  (k4:∀ W X,Bw w W→PN W X t1→Calls Tryz.prog 15 #[X] W fun r w'=>OutP W t3 r w') :
  Calls Tryz.prog 4 #[.agg #[.float .f64 a,.float .f64 b]] w fun r w'=>Out2N w t3 t2 0 r w':=by
 obtain⟨W,hW⟩:∃ W,W=((w.alloc (.cells #[.float .f64 a,.float .f64 b] 24)).alloc (.cells #[.bool false,.slice none 0 0,.int .i64 0] 28)).alloc (.cells #[.bool false,.slice none 0 0,.int .i64 0] 28):=⟨_,rfl⟩
 obtain⟨hF,hN,hM,hBW⟩:=three_new _ _ _ hW
 have c0:W.cell? ⟨w.heap.size,0,none⟩=some (.float .f64 a):=by simp[World.cell?,hF]
 have c1:W.cell? ⟨w.heap.size,1,none⟩=some (.float .f64 b):=by simp[World.cell?,hF]
 have HF:Hid (W.heap[w.heap.size]?=some (.cells #[.float .f64 a,.float .f64 b] 24 (0,0))∧W.heap[w.heap.size+1]?=some (.cells #[.bool false,.slice none 0 0,.int .i64 0] 28 (0,0))∧W.heap[w.heap.size+1+1]?=some (.cells #[.bool false,.slice none 0 0,.int .i64 0] 28 (0,0))∧Bw w W):=⟨hF,hN,hM,hBW⟩
 have HK2:Hid _:=k2
 have HK3:Hid _:=k3
 have HK4:Hid _:=k4
 clear k4
 have kk:=k1 W hBW
 clear k1 k2 k3 hF hN hM hBW
 go_enter Tryz.func4,Tryz.ntmps4
 go_upto_region 1 with fail
 rw[←hW]
 clear hW
 go_wp2_with fail
 refine kk.mono ?_
 rintro r w1 ⟨rfl,hb1⟩
 clear kk c0 c1
 have HG:Hid (w1.heap[w.heap.size]?=some (.cells #[.float .f64 a,.float .f64 b] 24 (0,0))∧w1.heap[w.heap.size+1]?=some (.cells #[.bool false,.slice none 0 0,.int .i64 0] 28 (0,0))∧w1.heap[w.heap.size+1+1]?=some (.cells #[.bool false,.slice none 0 0,.int .i64 0] 28 (0,0))∧Bw w w1):=⟨box_later HF.out.1 hb1 (lt_of_box HF.out.1),box_later HF.out.2.1 hb1 (lt_of_box HF.out.2.1),box_later HF.out.2.2.1 hb1 (lt_of_box HF.out.2.2.1),HF.out.2.2.2.trans (hb1.mono HF.out.2.2.2.size)⟩
 have c0:w1.cell? ⟨w.heap.size,0,none⟩=some (.float .f64 a):=by simp[World.cell?,HG.out.1]
 have c1:w1.cell? ⟨w.heap.size,1,none⟩=some (.float .f64 b):=by simp[World.cell?,HG.out.1]
 clear hb1 HF
 have kk:=HK2.out w1 HG.out.2.2.2
 go_wp2_with fail
 refine kk.mono ?_
 rintro r w2 ⟨rfl,hb2⟩
 clear kk c0 c1
 have HB2:Hid (Bw w1 w2):=hb2
 have kk:=HK3.out w2 (HG.out.2.2.2.trans (hb2.mono HG.out.2.2.2.size))
 clear hb2
 go_wp2_with fail
 refine kk.mono ?_
 rintro r w3 ⟨U,rfl,hU,hb3⟩
 clear kk
 obtain⟨s1,ao1,n1,cp1,e1,s2,ao2,n2,cp2,e2,rfl,p1,p2⟩:=hU
 obtain⟨W4,hW4⟩:∃ W4,W4=w3.alloc (.cells #[.bool s1,.slice ao1 n1 cp1,.int .i64 e1,.bool s2,.slice ao2 n2 cp2,.int .i64 e2] 45):=⟨_,rfl⟩
 obtain⟨g5,hg5⟩:∃ g,g=w3.heap.size:=⟨_,rfl⟩
 have hb4:Bw w3 W4:=by rw[hW4];exact(Below.refl _ _).alloc (Nat.le_refl _) _
 have hb14:Bw w1 W4:=(HB2.out.trans (hb3.mono HB2.out.size)).trans (hb4.mono (HB2.out.trans (hb3.mono HB2.out.size)).size)
 have HM:Hid (W4.heap[w.heap.size]?=some (.cells #[.float .f64 a,.float .f64 b] 24 (0,0))∧W4.heap[w.heap.size+1]?=some (.cells #[.bool false,.slice none 0 0,.int .i64 0] 28 (0,0))∧W4.heap[w.heap.size+1+1]?=some (.cells #[.bool false,.slice none 0 0,.int .i64 0] 28 (0,0))∧Bw w W4∧W4.heap[g5]?=some (.cells #[.bool s1,.slice ao1 n1 cp1,.int .i64 e1,.bool s2,.slice ao2 n2 cp2,.int .i64 e2] 45 (0,0))∧PN W4 (.agg #[.bool s1,.slice ao1 n1 cp1,.int .i64 e1]) t1∧PN W4 (.agg #[.bool s2,.slice ao2 n2 cp2,.int .i64 e2]) t2∧w1.heap.size≤g5):=⟨box_later HG.out.1 hb14 (lt_of_box HG.out.1),box_later HG.out.2.1 hb14 (lt_of_box HG.out.2.1),box_later HG.out.2.2.1 hb14 (lt_of_box HG.out.2.2.1),HG.out.2.2.2.trans (hb14.mono HG.out.2.2.2.size),by rw[hW4,hg5];exact heap_alloc_new _ _,p1.later hb4,p2.later hb4,by rw[hg5];exact Nat.le_trans HB2.out.size hb3.size⟩
 have c1:W4.cell? ⟨w.heap.size,1,none⟩=some (.float .f64 b):=by simp[World.cell?,HM.out.1]
 have HS:Hid (w.heap.size+1+1<w1.heap.size):=lt_of_box HG.out.2.2.1
 clear p1 p2 hb3 hb4 hb14 HB2 HG
 rw[hW4] at c1
 go_upto_region 5 with fail
 rw[←hW4,←hg5]
 clear hW4 hg5 c1
 obtain⟨m1,m2,m3,mB,m5,mP,mQ,mg⟩:=HM.out
 have hg5:w.heap.size+1+1<g5:=by have:=HS.out;omega
 have hbx2:∀ i,i<2→∃ cs,W4.heap[two (w.heap.size+1) (w.heap.size+1+1) i]?=some (.cells cs 28 (0,0))∧NC3 cs:=fun i hi=>by
  rcases lt2F hi with rfl|rfl
  ·exact⟨_,m2,_,_,_,_,_,rfl⟩
  ·exact⟨_,m3,_,_,_,_,_,rfl⟩
 have ne5:∀ i,i<2→g5≠two (w.heap.size+1) (w.heap.size+1+1) i:=fun i hi=>by
  rcases lt2F hi with rfl|rfl
  ·show g5≠w.heap.size+1;omega
  ·show g5≠w.heap.size+1+1;omega
 refine q_region follows_mixed [0,1,2,3,4,7] [5,6] [17,18,19,20,21,4] [[],[0],[1],[],[3],[]] [[2],[4]] [2,4] (two 2 3) (two (w.heap.size+1) (w.heap.size+1+1)) w.heap.size 28 NC3 3 W4 _ [isV (.pointer (some ⟨g5,0,none⟩)),isV (.agg #[.bool s1,.slice ao1 n1 cp1,.int .i64 e1]),isP t3,isV (.pointer (some ⟨g5,3,none⟩)),isV (.agg #[.bool s2,.slice ao2 n2 cp2,.int .i64 e2]),isV (.int .i64 0)] (by kernel_rfl) ⟨isV_stays _,isV_stays _,isP_stays _,isV_stays _,isV_stays _,isV_stays _,trivial⟩ ⟨isV_rows _ _ _,isV_rows _ _ _,isP_rows3 _,isV_rows _ _ _,isV_rows _ _ _,isV_rows _ _ _,trivial⟩ (by show ∀ s ∈ [17,18,19,20,21,4],s<26;decide) ?_ ?_ Tryz.info28 ?_ ?_ ?_ (two_inj (by omega)) mB.size ?_
 ·intro i hi V u h
  rcases lt2F hi with rfl|rfl
  ·exact PN.cells3 (show PN V u t3 from h)
  ·obtain rfl:u=_:=h
   exact⟨_,rfl,rfl,⟨_,_,_,_,_,rfl⟩,one3 rfl rfl⟩
 ·intro j hj o ho act V hK hoth hdep hrd
  have h5:V.heap[g5]?=some (.cells #[.bool s1,.slice ao1 n1 cp1,.int .i64 e1,.bool s2,.slice ao2 n2 cp2,.int .i64 e2] 45 (0,0)):=(hK.keep g5 (lt_of_box m5) ne5).trans m5
  have c6:=(cells6F h5).1
  have hp5:act.tmps[(5:Nat)]?=some (Value.pointer (some ⟨g5,0,none⟩)):=(hoth 5 (by decide)).trans rfl
  rcases lt6F hj with rfl|rfl|rfl|rfl|rfl|rfl
  ·obtain rfl:=Option.some.inj ho
   exact .inl ⟨rfl,owp_run1 (w':=V) (v:=_) (by simp[execOp,eval_get hp5,run_fr0]) ⟨_,rfl,rfl,Below.refl _ _⟩⟩
  ·obtain rfl:=Option.some.inj ho
   obtain⟨u0,z0,v0⟩:=hdep 0 (by simp[dL])
   obtain rfl:u0=_:=v0
   have z0':act.tmps[(17:Nat)]?=_:=z0
   exact .inl ⟨rfl,owp_run1 (w':=V) (v:=.agg #[.bool s1,.slice ao1 n1 cp1,.int .i64 e1]) (by simp[execOp,eval_get z0',run_ldN _ 0 s1 ao1 n1 cp1 e1 V c6.1 c6.2.1 c6.2.2.1]) ⟨_,rfl,rfl,Below.refl _ _⟩⟩
  ·obtain rfl:=Option.some.inj ho
   obtain⟨u0,z0,v0⟩:=hdep 1 (by simp[dL])
   obtain rfl:u0=_:=v0
   have z0':act.tmps[(18:Nat)]?=_:=z0
   refine .inl ⟨rfl,owp_call rfl (enters Tryz.func15 (by kernel_rfl) (by kernel_rfl)) (vs:=#[.agg #[.bool s1,.slice ao1 n1 cp1,.int .i64 e1]]) (by simp only[List.map_toArray,List.map_cons,List.map_nil];rw[eval_get z0']) ?_⟩
   refine(HK4.out V _ (mB.trans hK.below) (mP.keep3 hK hbx2)).mono ?_
   rintro r w' ⟨s',ao',n',cap',e',rfl,hP,hb'⟩
   exact⟨_,rfl,_,rfl,hP,hb'⟩
  ·obtain rfl:=Option.some.inj ho
   exact .inl ⟨rfl,owp_run1 (w':=V) (v:=_) (by simp[execOp,eval_get hp5,run_fr1]) ⟨_,rfl,rfl,Below.refl _ _⟩⟩
  ·obtain rfl:=Option.some.inj ho
   obtain⟨u0,z0,v0⟩:=hdep 3 (by simp[dL])
   obtain rfl:u0=_:=v0
   have z0':act.tmps[(20:Nat)]?=_:=z0
   exact .inl ⟨rfl,owp_run1 (w':=V) (v:=.agg #[.bool s2,.slice ao2 n2 cp2,.int .i64 e2]) (by simp[execOp,eval_get z0',run_ldN _ 3 s2 ao2 n2 cp2 e2 V c6.2.2.2.1 c6.2.2.2.2.1 c6.2.2.2.2.2]) ⟨_,rfl,rfl,Below.refl _ _⟩⟩
  ·obtain rfl:=Option.some.inj ho
   exact .inl ⟨rfl,owp_run1 (w':=V) (v:=.int .i64 0) (by simp[execOp,Act.eval]) ⟨_,rfl,rfl,Below.refl _ _⟩⟩
 ·intro i hi
  rcases lt2F hi with rfl|rfl <;> exact⟨_,rfl,rfl⟩
 ·intro i hi
  rcases lt2F hi with rfl|rfl
  ·exact⟨rfl,by decide⟩
  ·exact⟨rfl,by decide⟩
 ·intro i hi
  rcases lt2F hi with rfl|rfl
  ·exact⟨by show w.heap.size≤w.heap.size+1;omega,_,m2,rfl,_,_,_,_,_,rfl⟩
  ·exact⟨by show w.heap.size≤w.heap.size+1+1;omega,_,m3,rfl,_,_,_,_,_,rfl⟩
 ·intro u V hK hu hcs
  obtain⟨csa,ya,za⟩:=hcs 0 (by decide)
  obtain⟨csb,yb,zb⟩:=hcs 1 (by decide)
  have fa:PN V (u 2) t3:=hu 2 (by decide)
  have fb:PN V (u 4) t2:=(by rw[show u 4=.agg #[.bool s2,.slice ao2 n2 cp2,.int .i64 e2] from hu 4 (by decide)];exact mQ.keep3 hK hbx2)
  have ya':u 2=.agg csa:=ya
  have yb':u 4=.agg csb:=yb
  rw[ya'] at fa
  rw[yb'] at fb
  obtain⟨sa,aoa,na,cpa,ea,ha⟩:=fa.shape
  obtain⟨sb,aob,nb,cpb,eb,hb⟩:=fb.shape
  obtain rfl:=Value.agg.inj ha
  obtain rfl:=Value.agg.inj hb
  have u4:u 5=.int .i64 0:=hu 5 (by decide)
  have HX:Hid (V.heap[w.heap.size+1]?=some (.cells #[.bool sa,.slice aoa na cpa,.int .i64 ea] 28 (0,0))∧V.heap[w.heap.size+1+1]?=some (.cells #[.bool sb,.slice aob nb cpb,.int .i64 eb] 28 (0,0))∧PN V (.agg #[.bool sa,.slice aoa na cpa,.int .i64 ea]) t3∧PN V (.agg #[.bool sb,.slice aob nb cpb,.int .i64 eb]) t2∧Bw w V):=⟨za,zb,fa,fb,mB.trans hK.below⟩
  clear hu hcs ya yb za zb ya' yb' fa fb ha hb hK m1 m2 m3 mB m5 mP mQ mg hbx2 ne5 HM
  simp only[putL,List.length_cons,List.length_nil,Nat.reduceAdd,show List.range 6 = [0,1,2,3,4,5] from rfl,List.getD_cons_zero,List.getD_cons_succ,List.map_cons,List.map_nil,List.cons_append,List.nil_append,List.foldl_cons,List.foldl_nil,Nat.reduceLT,Nat.reduceMod,Nat.reduceDiv,Nat.reduceMul,Nat.reduceEqDiff,reduceIte,Nat.one_ne_zero,Act.put,List.setIfInBounds_toArray,List.set_cons_zero,List.set_cons_succ]
  rw[u4]
  go_wp2_with fail
  refine bodyPost_ret (results_c2t rfl _ _ (w.heap.size+1) (w.heap.size+1+1) 28 #[.bool sa,.slice aoa na cpa,.int .i64 ea] #[.bool sb,.slice aob nb cpb,.int .i64 eb] (0,0) (0,0) _ rfl rfl HX.out.1 HX.out.2.1 Tryz.underlying28 rfl Tryz.info28 Tryz.info28) rfl ?_
  exact⟨_,_,_,_,_,_,_,_,_,_,rfl,HX.out.2.2.1,HX.out.2.2.2.1,HX.out.2.2.2.2⟩
attribute [local go_sem] run_store_flt
attribute [local go_sem] run_store_flt
attribute [local go_sem] run_store_flt
attribute [local go_sem] run_store_flt
theorem sturned (a b:Nat) (w:World) (ha:a<18446744073709551616) (hb:b<18446744073709551616) :
  Calls Tryz.prog 43 #[.agg #[.float .f64 a,.float .f64 b]] w fun r w'=>r=.returned (.agg #[.float .f64 (pl (ngt b)),.float .f64 (pl (ngt a))])∧Bw w w':=by
 have n1:∀ w,(Op.unary UnOp.neg (.float .f64 a)).run Tryz.prog w=.ok (.float .f64 (ngt a)) w:=fun w=>by rw[←negF a ha];rfl
 have n2:∀ w,(Op.unary UnOp.neg (.float .f64 b)).run Tryz.prog w=.ok (.float .f64 (ngt b)) w:=fun w=>by rw[←negF b hb];rfl
 have k:=fun W=>sbetween (ngt b) (ngt a) W (ngt_lt hb) (ngt_lt ha)
 generalize pl (ngt a)=A at *
 generalize pl (ngt b)=C at *
 obtain⟨W,hW⟩:∃ W,W=((w.alloc (.cells #[.float .f64 a,.float .f64 b] 24)).alloc (.cells #[.float .f64 0,.float .f64 0] 24)):=⟨_,rfl⟩
 have HX:Hid (Bw w W∧IvB W (w.heap.size) a b∧IvB W (w.heap.size+1) 0 0):=by
  rw[hW]
  exact⟨bxs2_0 w a b 0 0,bxs2_1 w a b 0 0,bxs2_2 w a b 0 0⟩
 have HK:Hid (∀ w',Bw W w'→IvF w' (w.heap.size) a b∧IvF w' (w.heap.size+1) 0 0):=fun w' hb=>⟨(HX.out.2.1).later hb,(HX.out.2.2).later hb⟩
 obtain⟨⟨c0,c1,z0,z1⟩,⟨c2,c3,z2,z3⟩⟩:=HK.out W (Below.refl _ _)
 have kk:=k W
 clear k ha hb
 go_enter Tryz.func43,Tryz.ntmps43
 go_upto_region 1 with fail
 rw[←hW]
 clear hW
 go_wp2_with fail
 refine kk.mono ?_
 rintro r w1 ⟨rfl,hb1⟩
 clear kk c0 c1 c2 c3 z0 z1 z2 z3
 obtain⟨⟨c0,c1,z0,z1⟩,⟨c2,c3,z2,z3⟩⟩:=HK.out w1 hb1
 have HB:Hid (Bw w w1):=HX.out.1.trans (hb1.mono HX.out.1.size)
 have HR:Hid (IvB w1 (w.heap.size+1) 0 0):=HX.out.2.2.box hb1
 clear hb1 HK HX n1 n2
 go_wp2
 refine bodyPost_ret (results_cell_row rfl _ _ (w.heap.size+1) 24 #[.float .f64 C,.float .f64 A] (0,0) _ rfl (HR.out.set _ _) Tryz.underlying24 rfl iv_info) rfl ?_
 exact⟨rfl,below_store2 HB.out (by omega) _ _⟩
theorem smag_1 (a b x y m:Nat) (p q:Bool) (w:World) (o1:(FloatKind.f64.format.order a 0==some Ordering.gt||FloatKind.f64.format.order a 0==some Ordering.eq)=p) (o2:(FloatKind.f64.format.order b 0==some Ordering.lt||FloatKind.f64.format.order b 0==some Ordering.eq)=q)
  (n1:∀ w,(Op.unary UnOp.neg (.float .f64 a)).run Tryz.prog w=.ok (.float .f64 (ngt a)) w)
  (hm:p=false→q=false→∀ W ts t,(Builtin.max_ ts t #[.float .f64 (ngt a),.float .f64 b]).run Tryz.prog W=.ok (.float .f64 m) W)
  (k:∀ W,Calls Tryz.prog 43 #[.agg #[.float .f64 a,.float .f64 b]] W fun r w'=>r=.returned (.agg #[.float .f64 x,.float .f64 y])∧Bw W w') :
  Calls Tryz.prog 14 #[.agg #[.float .f64 a,.float .f64 b]] w fun r w'=>r=.returned (if p then .agg #[.float .f64 a,.float .f64 b] else if q then .agg #[.float .f64 x,.float .f64 y] else .agg #[.float .f64 0,.float .f64 m])∧Bw w w':=by
 generalize hR:(if p then .agg #[.float .f64 a,.float .f64 b] else if q then .agg #[.float .f64 x,.float .f64 y] else .agg #[.float .f64 0,.float .f64 m]:Value)=R
 have HRV:Hid ((if p then .agg #[.float .f64 a,.float .f64 b] else if q then .agg #[.float .f64 x,.float .f64 y] else .agg #[.float .f64 0,.float .f64 m]:Value)=R):=hR
 clear hR
 have HM:Hid (p=false→q=false→∀ W ts t,(Builtin.max_ ts t #[.float .f64 (ngt a),.float .f64 b]).run Tryz.prog W=.ok (.float .f64 m) W):=hm
 obtain⟨W,hW⟩:∃ W,W=((w.alloc (.cells #[.float .f64 a,.float .f64 b] 24)).alloc (.cells #[.float .f64 0,.float .f64 0] 24)):=⟨_,rfl⟩
 have HX:Hid (Bw w W∧IvB W (w.heap.size) a b∧IvB W (w.heap.size+1) 0 0):=by
  rw[hW]
  exact⟨bxs2_0 w a b 0 0,bxs2_1 w a b 0 0,bxs2_2 w a b 0 0⟩
 have HK:Hid (∀ w',Bw W w'→IvF w' (w.heap.size) a b∧IvF w' (w.heap.size+1) 0 0):=fun w' hb=>⟨(HX.out.2.1).later hb,(HX.out.2.2).later hb⟩
 obtain⟨⟨c0,c1,z0,z1⟩,⟨c2,c3,z2,z3⟩⟩:=HK.out W (Below.refl _ _)
 have kk:=k W
 clear k hm
 go_enter Tryz.func14,Tryz.ntmps14
 go_upto_region 1 with fail
 rw[←hW]
 clear hW
 cases p
 ·cases q
  ·have hm:=HM.out rfl rfl
   have HR:Hid (IvB W (w.heap.size+1) 0 0):=HX.out.2.2
   go_wp2
   refine bodyPost_ret (results_cell_row rfl _ _ (w.heap.size+1) 24 #[.float .f64 0,.float .f64 m] (0,0) _ rfl (HR.out.set _ _) Tryz.underlying24 rfl iv_info) rfl ?_
   exact⟨congrArg Ending.returned HRV.out,below_store2 HX.out.1 (by omega) _ _⟩
  ·clear HM
   go_wp2_with fail
   refine kk.mono ?_
   rintro r w1 ⟨rfl,hb1⟩
   clear kk c0 c1 c2 c3 z0 z1 z2 z3
   obtain⟨⟨c0,c1,z0,z1⟩,⟨c2,c3,z2,z3⟩⟩:=HK.out w1 hb1
   have HB:Hid (Bw w w1):=HX.out.1.trans (hb1.mono HX.out.1.size)
   have HR:Hid (IvB w1 (w.heap.size+1) 0 0):=HX.out.2.2.box hb1
   clear hb1 HK HX
   go_wp2
   refine bodyPost_ret (results_cell_row rfl _ _ (w.heap.size+1) 24 #[.float .f64 x,.float .f64 y] (0,0) _ rfl (HR.out.set _ _) Tryz.underlying24 rfl iv_info) rfl ?_
   exact⟨congrArg Ending.returned HRV.out,below_store2 HB.out (by omega) _ _⟩
 ·clear HM
  have HR:Hid (IvB W (w.heap.size+1) 0 0):=HX.out.2.2
  go_wp2
  refine bodyPost_ret (results_cell_row rfl _ _ (w.heap.size+1) 24 #[.float .f64 a,.float .f64 b] (0,0) _ rfl (HR.out.set _ _) Tryz.underlying24 rfl iv_info) rfl ?_
  exact⟨congrArg Ending.returned HRV.out,below_store2 HX.out.1 (by omega) _ _⟩
theorem tF_zero8 {a:Nat} (h:mag a=0):tF a=(false,0,0):=by
 obtain⟨-,-,-,f4,-⟩:=(tF_ok a).facts
 refine f4 ?_
 unfold tF cn
 have hm:Ie.mant a=0:=by
  have e:=(val_mant a (by omega)).1
  rw[h,val_zero] at e
  have hp:=Nat.two_pow_pos (Ie.lp a+1074).toNat
  rcases Nat.mul_eq_zero.1 e.symm with h|h
  ·exact h
  ·omega
 rw[if_pos hm]
theorem cmpI_neg_iff (x y:Int):(cmpI x y<0↔x<y)∧(0<cmpI x y↔y<x):=by
 unfold cmpI
 constructor
 ·split
  ·omega
  ·split <;> omega
 ·split
  ·omega
  ·split <;> omega
theorem vz_tF8 {a:Nat} (ha:a<18446744073709551616) (hf:mag a<9218868437227405312):vz 5000000 (tF a).1 (tF a).2.1 (tF a).2.2=vz 5000000 (nN a) (nM a) (Ie.sE a):=by
 obtain⟨M,hM,hl⟩:=sM_lt a ha
 have hc:=cn_parts a M ha hf hM
 have hn:nM a=M:=by unfold nM;rw[hM];rfl
 have hb:0≤Ie.sE a+(5000000:Nat):=by
  have:=(sE_le a).1
  omega
 rw[←hc,vz_cn hb,hn]
 unfold nN
 by_cases h0:mag a=0
 ·have:M=0:=by
   rcases of_parts a M ha hf hM with ⟨h1,h2⟩|⟨h1,h2,-,h3,h4⟩
   ·omega
   ·exfalso
    have e:=tF_zero8 h0
    rw[←hc] at e
    unfold cn at e
    by_cases hM0:M=0
    ·omega
    ·rw[if_neg hM0] at e
     have e2:M / 2^tz M=0:=congrArg (fun t=>t.2.1) e
     have hs:=tz_spec M M (Nat.le_refl _) hM0
     rw[e2] at hs
     have:=hs.1
     omega
  subst this
  unfold vz
  rw[sv_zero,sv_zero]
 ·rw[if_neg h0]
theorem tF_e5000000 (a:Nat):0≤(tF a).2.2+(5000000:Nat):=by
 obtain⟨f1,f2,f3,f4,f5⟩:=(tF_ok a).facts
 omega
theorem sE_e5000000 {a:Nat} (ha:a<18446744073709551616) (hf:mag a<9218868437227405312):0≤Ie.sE a+(5000000:Nat):=by
 have:=(sE_le a).1
 omega
theorem ord_tF8 {a b:Nat} (ha:a<18446744073709551616) (hb:b<18446744073709551616) (fa:mag a<9218868437227405312) (fb:mag b<9218868437227405312) :
  ordN (tF a).1 (tF a).2.1 (tF a).2.2 (tF b).1 (tF b).2.1 (tF b).2.2=cmpI (stp a) (stp b):=by
 rw[ordN_vz (tF_e5000000 a) (tF_e5000000 b),vz_tF8 ha fa,vz_tF8 hb fb,←ordN_vz (sE_e5000000 ha fa) (sE_e5000000 hb fb)]
 exact ord_num fa fb
attribute [local go_sem] run_store_flt
def mgX (a b:Nat):Nat:=if le 0 a then a else if le b 0 then pl (ngt b)else 0
def mgY (a b:Nat):Nat:=if le 0 a then b else if le b 0 then pl (ngt a)else fMax (ngt a) b
theorem smag (a b:Nat) (w:World) (ha:a<18446744073709551616) (hb:b<18446744073709551616) (na:isNaN a=false) (nb:isNaN b=false) :
  Calls Tryz.prog 14 #[.agg #[.float .f64 a,.float .f64 b]] w fun r w'=>r=.returned (.agg #[.float .f64 (mgX a b),.float .f64 (mgY a b)])∧Bw w w':=by
 have k:=smag_1 a b (pl (ngt b)) (pl (ngt a)) (fMax (ngt a) b) (le 0 a) (le b 0) w (ord_ge a 0 ha (by omega)) (ord_le b 0 hb (by omega)) (fun w=>by rw[←negF a ha];rfl) (fun _ _ W ts t=>run_fmax W ts t _ _ (ngt_lt ha) hb (by rw[ngt_nan8 ha];exact na) nb) (fun W=>sturned a b W ha hb)
 unfold mgX mgY
 cases h1:le 0 a
 ·cases h2:le b 0
  ·rw[h1,h2] at k;exact k
  ·rw[h1,h2] at k;exact k
 ·rw[h1] at k;exact k
def sU (a:Nat):Int:=if neg a then -((fU a:Nat):Int) else((fU a:Nat):Int)
theorem tF_sU (a:Nat):tF a=un (sU a) 1074:=by
 have hl:=(Ie.lp_bound a).1
 unfold tF
 refine un_eq (K:=1074) (Nat.le_refl _) (by omega) ?_
 unfold sU vz sv fU
 rw[Nat.sub_self,Nat.pow_zero,Int.natCast_mul]
 cases neg a
 ·simp
 ·simp[Int.neg_mul]
def bU:Nat:=2200
theorem fU_lt (a:Nat):fU a<2^bU:=by
 unfold fU
 have h1:=Ie.mant_bound a
 have h2:=(Ie.lp_bound a).2
 obtain⟨e,he⟩:∃ e,e=(Ie.lp a+1074).toNat:=⟨_,rfl⟩
 rw[←he]
 have h3:Ie.mant a<2^53:=by omega
 have h4:Ie.mant a*2^e<2^53*2^e:=Nat.mul_lt_mul_of_pos_right h3 (Nat.two_pow_pos _)
 rw[←Nat.pow_add] at h4
 exact Nat.lt_of_lt_of_le h4 (Nat.pow_le_pow_right (by decide) (by unfold bU;omega))
theorem sU_lt (a:Nat):(sU a).natAbs<2^bU:=by
 have:=fU_lt a
 unfold sU
 split
 ·rw[Int.natAbs_neg,Int.natAbs_natCast];exact this
 ·rw[Int.natAbs_natCast];exact this
def pU (n:Nat):Nat:=2^n
theorem pU_pos (n:Nat):0<pU n:=Nat.two_pow_pos n
def kU:Nat:=pU 1074
theorem kU_pos:0<kU:=pU_pos 1074
theorem pU_lt {n m:Nat} (h:n<m):pU n<2^m:=Nat.pow_lt_pow_right (by decide) h
theorem kU_lt:kU<2^bU:=pU_lt (by unfold bU;decide)
theorem un_pU (Z:Int) (n:Nat):un Z 0=un (Z*(pU n:Int)) n:=by
 have h:=vz_un (K:=n) (p:=0) Z (by omega)
 have e1:=(un_e (p:=0) (Nat.lt_two_pow_self (n:=Z.natAbs))).2.2
 conv=>lhs;rw[show un Z 0=cn (un Z 0).1 (un Z 0).2.1 (un Z 0).2.2 from(cn_idem _ _ _).symm]
 refine un_eq (K:=n) (Nat.le_refl _) (by omega) ?_
 rw[h,Nat.sub_self,Nat.pow_zero,Nat.sub_zero]
 unfold pU
 simp
theorem un_kU (Z:Int):un Z 0=un (Z*(kU:Int)) 1074:=un_pU Z 1074
attribute [local go_sem] run_store_flt
attribute [local go_sem] run_store_flt
attribute [local go_sem] run_store_flt
attribute [local go_sem] run_store_flt
end Go.Proofs.YtcdkkpjilgmncaaGreatDoor
