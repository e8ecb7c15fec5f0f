/- Own work: contracts of the program's functions, part 22: DUJ DSQ DUK DUL DUM DUN DUO. -/
import Derived.Test.YtfkaogdmlcdceaaGreatDoorA21
import Derived.Test.YtfkaogdmlcdceaaGreatDoorA16
import Derived.Test.YtfkaogdmlcdceaaGreatDoorA19

set_option maxHeartbeats 16000000
set_option maxRecDepth 200000
set_option linter.unusedVariables false
set_option linter.unusedSimpArgs false
namespace Go.Proofs.YtfkaogdmlcdceaaGreatDoor
open Go Go.RowKit Go.Fl64
theorem d4shortest_1 (f:Nat) (X N X2:Int) (tA t1 tF1 tF2 tB:Bool×Nat×Int) (tL tU tH:Int→Bool×Nat×Int) (ex p q:Int→Bool) (FL FH:Int→Nat) (c:Int) (od up:Bool) (D S:List UInt8) (z:Nat) (w:World)
  (hXN:Hid (-1000≤X∧X≤1000∧1≤N∧N≤20))
  (hH:Hid (∀ n,(ex n=true→tH n=tL n)∧(ex n=false→tH n=tU n)))
  (kA:∀ W,Calls Tryz.prog 35 #[.float .f64 f] W fun r w'=>OutQ W tA r w')
  (kPl:Hid (∀ W X',DN W X' tA→Calls Tryz.prog 81 #[X'] W fun r w'=>r=.returned (.int .i64 X)∧Bw W w'))
  (kS:Hid (∀ n,1≤n→n≤N→∀ W A,DN W A tA→Calls Tryz.prog 82 #[A,.int .i64 (n - 1 - X)] W fun r w'=>OutS W (tL n) (ex n) r w'))
  (kW:Hid (∀ W,Calls Tryz.prog 46 #[.int .i64 1] W fun r w'=>OutQ W t1 r w'))
  (kU:Hid (∀ n,1≤n→n≤N→∀ W A B,DN W A (tL n)→DN W B t1→Calls Tryz.prog 83 #[A,B] W fun r w'=>OutQ W (tU n) r w'))
  (kB1:Hid (∀ n,1≤n→n≤N→∀ W A,DN W A (tL n)→Calls Tryz.prog 84 #[A,.int .i64 (n - 1 - X)] W fun r w'=>r=.returned (.float .f64 (FL n))∧Bw W w'))
  (kB2:Hid (∀ n,1≤n→n≤N→∀ W A,DN W A (tH n)→Calls Tryz.prog 84 #[A,.int .i64 (n - 1 - X)] W fun r w'=>r=.returned (.float .f64 (FH n))∧Bw W w'))
  (hp:Hid (∀ n,1≤n→n≤N→(FloatKind.f64.format.order (FL n) f==some Ordering.eq)=p n∧(FloatKind.f64.format.order (FH n) f==some Ordering.eq)=q n))
  (hlt:Hid (∀ n,1≤n→n<N→p n=false∧q n=false)) (hat:Hid (p N=true∨q N=true))
  (kF1:Hid (∀ W A B,DN W A tA→DN W B (tL N)→Calls Tryz.prog 85 #[A,B,.int .i64 (N - 1 - X)] W fun r w'=>OutQ W tF1 r w'))
  (kF2:Hid (∀ W A B,DN W A tA→DN W B (tH N)→Calls Tryz.prog 85 #[A,B,.int .i64 (N - 1 - X)] W fun r w'=>OutQ W tF2 r w'))
  (kO:Hid (∀ W A B,DN W A tF1→DN W B tF2→Calls Tryz.prog 49 #[A,B] W fun r w'=>r=.returned (.int .i64 c)∧Bw W w'))
  (kD:Hid (∀ W A,DN W A (tL N)→Calls Tryz.prog 86 #[A] W fun r w'=>r=.returned (.bool od)∧Bw W w'))
  (hup:Hid ((p N=false→up=true)∧(p N=true→q N=false→up=false)∧(p N=true→q N=true→(0<c∧up=true)∨(c=0∧up=od)∨(c<0∧up=false))))
  (hB:Hid ((up=true→tB=tH N)∧(up=false→tB=tL N)))
  (kDe:Hid (∀ W A,DN W A tB→Calls Tryz.prog 36 #[A] W fun r w'=>r=.returned (.string ⟨(D++List.replicate z 48).toArray⟩)∧Bw W w'))
  (hD:Hid (1≤D.length∧D.length+z≤1000∧X+(D.length+z:Nat) - N=X2∧(∀ x,D.getLast?=some x→x≠48))) :
  Calls Tryz.prog 28 #[.float .f64 f] w fun r w'=>r=.returned (.tuple #[.string ⟨D.toArray⟩,.int .i64 X2])∧Bw w w':=by
 have q1:=kA w
 obtain⟨Sy,hSy⟩:∃ Sy:Nat→ByteArray,∀ y,Sy y=⟨(D++List.replicate y 48).toArray⟩:=⟨_,fun _=>rfl⟩
 have HSY:Hid (∀ y,Sy y=⟨(D++List.replicate y 48).toArray⟩):=hSy
 have HSZ:Hid (∀ y,(Sy y).size=D.length+y):=fun y=>by rw[hSy];show(D++List.replicate y 48).length=_;simp
 clear kA hSy
 go_enter Tryz.func28,Tryz.ntmps28
 go_upto_region 1 with fail
 go_wp2_with fail
 refine q1.mono ?_
 rintro r w1 ⟨s1,ao1,n1,cp1,e1,rfl,hd1,hb1⟩
 obtain⟨V,hV⟩:∃ V,V=w1.alloc (.cells #[.bool s1,.slice ao1 n1 cp1,.int .i64 e1] 54):=⟨_,rfl⟩
 obtain⟨gA,hgA⟩:∃ gA,gA=w1.heap.size:=⟨_,rfl⟩
 have H1:Hid (NbQ V gA s1 ao1 n1 cp1 e1 tA∧Bw w V∧w.heap.size≤gA):=by
  have hbV:Bw w1 V:=by rw[hV];exact(Below.refl _ _).alloc (Nat.le_refl _) _
  exact⟨⟨by rw[hV,hgA];exact heap_alloc_new _ _,hd1.later hbV⟩,hb1.trans (hbV.mono hb1.size),by rw[hgA];exact hb1.size⟩
 clear q1 hd1 hb1
 go_upto_region 2 with fail
 rw[←hV,←hgA]
 clear hV hgA
 obtain⟨⟨c0,c1,c2⟩,-⟩:=box_cells29 H1.out.1.1
 have q1:=kPl.out V _ H1.out.1.2
 go_wp2_with fail
 refine q1.mono ?_
 rintro r w2 ⟨rfl,hb2⟩
 have H2:Hid (NbQ w2 gA s1 ao1 n1 cp1 e1 tA∧Bw w w2∧w.heap.size≤gA):=⟨H1.out.1.later hb2,H1.out.2.1.trans (hb2.mono H1.out.2.1.size),H1.out.2.2⟩
 clear q1 hb2 H1 c0 c1 c2
 go_upto_region 4 with fail
 go_loopw [5,6] (fun xv v wr=>∃ n:Int,xv=.int .i64 X∧v=.int .i64 n∧Hid (1≤n∧n≤N)∧Hid (NbQ wr gA s1 ao1 n1 cp1 e1 tA∧Bw w wr∧w.heap.size≤gA)) (fun _ v _=>(N - intOf v).toNat)
 case atStart=>exact⟨1,rfl,rfl,⟨by omega,hXN.out.2.2.1⟩,H2⟩
 case round =>
  obtain⟨n,rfl,rfl,hn,HI⟩:=hrel
  clear H2
  have u1:IntKind.i64.wrap (n - 1)=n - 1:=by have:=hn.out;have:=hXN.out;rw[IntKind.wrap_i64];omega
  have u2:IntKind.i64.wrap (n - 1 - X)=n - 1 - X:=by have:=hn.out;have:=hXN.out;rw[IntKind.wrap_i64];omega
  have u3:IntKind.i64.wrap (n+1)=n+1:=by have:=hn.out;have:=hXN.out;rw[IntKind.wrap_i64];omega
  obtain⟨⟨c0,c1,c2⟩,-⟩:=box_cells29 HI.out.1.1
  have q1:=kS.out n hn.out.1 hn.out.2 wr _ HI.out.1.2
  go_wp2_with fail
  refine q1.mono ?_
  rintro r w3 ⟨s2,ao2,n2,cp2,e2,rfl,hd3,hb3⟩
  obtain⟨V2,hV2⟩:∃ V2,V2=w3.alloc (.cells #[.bool s2,.slice ao2 n2 cp2,.int .i64 e2] 54):=⟨_,rfl⟩
  obtain⟨gL,hgL⟩:∃ gL,gL=w3.heap.size:=⟨_,rfl⟩
  have H2:Hid (NbQ V2 gA s1 ao1 n1 cp1 e1 tA∧NbQ V2 gL s2 ao2 n2 cp2 e2 (tL n)∧Bw w V2∧w.heap.size≤gA∧gA<gL):=by
   have hbV:Bw w3 V2:=by rw[hV2];exact(Below.refl _ _).alloc (Nat.le_refl _) _
   have hb:=hb3.trans (hbV.mono hb3.size)
   exact⟨HI.out.1.later hb,⟨by rw[hV2,hgL];exact heap_alloc_new _ _,hd3.later hbV⟩,HI.out.2.1.trans (hb.mono HI.out.2.1.size),HI.out.2.2,by rw[hgL];exact Nat.lt_of_lt_of_le HI.out.1.lt hb3.size⟩
  clear q1 hd3 hb3 HI c0 c1 c2 u1 u2
  go_upto_region 7 with fail
  rw[←hV2,←hgL]
  clear hV2 hgL
  obtain⟨⟨c0,c1,c2⟩,-⟩:=box_cells29 H2.out.2.1.1
  obtain⟨V3,hV3⟩:∃ V3,V3=V2.alloc (.cells #[.bool s2,.slice ao2 n2 cp2,.int .i64 e2] 54):=⟨_,rfl⟩
  obtain⟨gH,hgH⟩:∃ gH,gH=V2.heap.size:=⟨_,rfl⟩
  have H3:Hid (NbQ V3 gA s1 ao1 n1 cp1 e1 tA∧NbQ V3 gL s2 ao2 n2 cp2 e2 (tL n)∧NbQ V3 gH s2 ao2 n2 cp2 e2 (tL n)∧Bw w V3∧w.heap.size≤gA∧gA<gL∧gL<gH):=by
   have hbV:Bw V2 V3:=by rw[hV3];exact(Below.refl _ _).alloc (Nat.le_refl _) _
   have h4:V3.heap[V2.heap.size]?=some (.cells #[.bool s2,.slice ao2 n2 cp2,.int .i64 e2] 54 (0,0)):=by rw[hV3];exact heap_alloc_new _ _
   have h5:=H2.out.2.1.2.later hbV
   have h6:=H2.out.2.1.later hbV
   exact⟨H2.out.1.later hbV,h6,⟨by rw[hgH];exact h4,h5⟩,H2.out.2.2.1.trans (hbV.mono H2.out.2.2.1.size),H2.out.2.2.2.1,H2.out.2.2.2.2,by rw[hgH];exact H2.out.2.1.lt⟩
  go_upto_region 8 with fail
  rw[←hV3,←hgH]
  clear hV3 hgH H2 c0 c1 c2
  go_upto_if 34 with fail
  go_cut [10,16,17,18,19] from 9 to 37 (fun v v16 v17 v18 v19 wx=>v=Value.pointer (some ⟨gH,0,none⟩)∧v16=.float .f64 f∧v17=.agg #[.bool s1,.slice ao1 n1 cp1,.int .i64 e1]∧v18=.agg #[.bool s1,.slice ao1 n1 cp1,.int .i64 e1]∧v19=.int .i64 X∧∃ (s3:Bool) (ao3:Option Addr) (n3 cp3:Nat) (e3:Int),Hid (NbQ wx gA s1 ao1 n1 cp1 e1 tA∧NbQ wx gL s2 ao2 n2 cp2 e2 (tL n)∧NbQ wx gH s3 ao3 n3 cp3 e3 (tH n)∧Bw w wx∧w.heap.size≤gA∧gA<gL∧gL<gH))
  case first =>
   rcases(by cases ex n <;> simp:ex n=true∨ex n=false)with hE|hE
   ·rw[hE]
    have H4:Hid (NbQ V3 gA s1 ao1 n1 cp1 e1 tA∧NbQ V3 gL s2 ao2 n2 cp2 e2 (tL n)∧NbQ V3 gH s2 ao2 n2 cp2 e2 (tH n)∧Bw w V3∧w.heap.size≤gA∧gA<gL∧gL<gH):=by rw[(hH.out n).1 hE];exact H3
    clear H3
    go_wp2_with fail
    go_meet
    exact⟨rfl,rfl,rfl,rfl,rfl,_,_,_,_,_,H4⟩
   ·rw[hE]
    go_upto_region 9 with fail
    have hbx:∀ i,i<1→∃ cs,V3.heap[(fun _=>gH:Nat→Nat) i]?=some (.cells cs 54 (0,0))∧NC3 cs:=fun i hi=>⟨_,H3.out.2.2.1.1,_,_,_,_,_,rfl⟩
    refine q_region follows_mixed [0,1,2] [3] [35,36,37] [[],[],[0,1]] [[2]] [2] (fun _=>10) (fun _=>gH) (gH) 54 NC3 3 V3 _ [isV (.agg #[.bool s2,.slice ao2 n2 cp2,.int .i64 e2]),isD (t1),isD (tU n)] (by kernel_rfl) ⟨isV_stays _,isD_stays _,isD_stays _,trivial⟩ ⟨isV_rows _ _ _,isD_rows3 _,isD_rows3 _,trivial⟩ (by show ∀ s ∈ [35,36,37],s<108;decide) ?_ ?_ Tryz.info54 ?_ ?_ ?_ ?_ (Nat.le_of_lt H3.out.2.2.1.lt) ?_
    ·intro i hi U u h
     obtain rfl:i=0:=Nat.lt_one_iff.1 hi
     obtain⟨s9,ao9,n9,cp9,e9,rfl⟩:=DN.shape (show DN U u _ from h)
     exact⟨_,rfl,rfl,⟨_,_,_,_,_,rfl⟩,one3 rfl rfl⟩
    ·intro j hj o ho act U hK hoth hdep hrd
     have hj':j<3:=hj
     have t8':act.tmps[(8:Nat)]?=some (Value.pointer (some ⟨gL,0,none⟩)):=(hoth 8 (by decide)).trans rfl
     have t10':act.tmps[(10:Nat)]?=some (Value.pointer (some ⟨gH,0,none⟩)):=(hoth 10 (by decide)).trans rfl
     have dLo:U.heap[gL]?=some (.cells #[.bool s2,.slice ao2 n2 cp2,.int .i64 e2] 54 (0,0)):=(hK.keep gL (by have:=H3.out.2.2.2.2.2.2;have:=H3.out.2.2.1.lt;omega) (fun i hi=>by show gL≠gH;have:=H3.out.2.2.2.2.2.2;omega)).trans H3.out.2.1.1
     have d8:=(box_cells29 dLo).1
     rcases(by omega:j=0∨j=1∨j=2)with rfl|rfl|rfl
     ·obtain rfl:=Option.some.inj ho
      exact .inl ⟨rfl,owp_ldD rfl t8' d8.1 d8.2.1 d8.2.2 ⟨_,rfl,rfl,Below.refl _ _⟩⟩
     ·obtain rfl:=Option.some.inj ho
      refine .inl ⟨rfl,owp_call rfl (enters Tryz.func46 (by kernel_rfl) (by kernel_rfl)) (vs:=#[(Value.int IntKind.i64 1)]) (by simp[eval_cst]) ?_⟩
      refine(kW.out U).mono ?_
      rintro r w' ⟨s9,ao9,n9,cp9,e9,rfl,hA9,hb'⟩
      exact⟨_,rfl,_,rfl,hA9,hb'⟩
     ·obtain rfl:=Option.some.inj ho
      have y0:act.tmps[(35:Nat)]?=_:=dV (hdep 0 (by simp[dL])) rfl
      obtain⟨u1,y10,v1⟩:=hdep 1 (by simp[dL])
      have y1:act.tmps[(36:Nat)]?=_:=y10
      refine .inl ⟨rfl,owp_call rfl (enters Tryz.func83 (by kernel_rfl) (by kernel_rfl)) (vs:=#[.agg #[.bool s2,.slice ao2 n2 cp2,.int .i64 e2],u1]) (by simp[eval_get y0,eval_get y1]) ?_⟩
      refine(kU.out n hn.out.1 hn.out.2 U _ _ (H3.out.2.1.2.keepN hK hbx) v1).mono ?_
      rintro r w' ⟨s9,ao9,n9,cp9,e9,rfl,hA9,hb'⟩
      exact⟨_,rfl,_,rfl,hA9,hb'⟩
    ·intro i hi
     obtain rfl:i=0:=Nat.lt_one_iff.1 hi
     exact⟨_,rfl,rfl⟩
    ·intro i hi
     exact⟨rfl,by decide⟩
    ·intro i hi
     exact⟨by show gH≤gH;omega,_,H3.out.2.2.1.1,rfl,_,_,_,_,_,rfl⟩
    ·intro i i' hi hi' _
     exact(Nat.lt_one_iff.1 hi).trans (Nat.lt_one_iff.1 hi').symm
    ·intro u U hK hu hcs
     obtain⟨csa,ya,z9⟩:=hcs 0 (by decide)
     have q9:DN U (u 2) _:=hu 2 (by show 2<3;decide)
     have ya':u 2=.agg csa:=ya
     rw[ya'] at q9
     obtain⟨s9,ao9,n9,cp9,e9,h9⟩:=DN.shape q9
     obtain rfl:=Value.agg.inj h9
     clear hu hcs ya ya'
     simp only[putL,show List.range 3 = [0,1,2] from rfl,List.length_cons,List.length_nil,List.getD_cons_zero,List.getD_cons_succ,List.map_cons,List.map_nil,List.cons_append,List.nil_append,List.foldl_cons,List.foldl_nil,Nat.reduceLT,Nat.reduceMod,Nat.reduceDiv,Nat.reduceMul,Nat.reduceAdd,Nat.reduceEqDiff,reduceIte,Nat.one_ne_zero,Act.put,List.setIfInBounds_toArray,List.set_cons_zero,List.set_cons_succ]
     have hkA:U.heap[gA]?=some (.cells #[.bool s1,.slice ao1 n1 cp1,.int .i64 e1] 54 (0,0)):=(hK.keep gA (by have:=H3.out.2.2.2.2.2;have:=H3.out.2.2.1.lt;omega) (fun i hi=>by show gA≠gH;have:=H3.out.2.2.2.2.2;omega)).trans H3.out.1.1
     have hkL:U.heap[gL]?=some (.cells #[.bool s2,.slice ao2 n2 cp2,.int .i64 e2] 54 (0,0)):=(hK.keep gL (by have:=H3.out.2.2.2.2.2.2;have:=H3.out.2.2.1.lt;omega) (fun i hi=>by show gL≠gH;have:=H3.out.2.2.2.2.2.2;omega)).trans H3.out.2.1.1
     have H4:Hid (∃ (s3:Bool) (ao3:Option Addr) (n3 cp3:Nat) (e3:Int),NbQ U gA s1 ao1 n1 cp1 e1 tA∧NbQ U gL s2 ao2 n2 cp2 e2 (tL n)∧NbQ U gH s3 ao3 n3 cp3 e3 (tH n)∧Bw w U∧w.heap.size≤gA∧gA<gL∧gL<gH):=by
      rw[(hH.out n).2 hE]
      exact⟨s9,ao9,n9,cp9,e9,⟨hkA,H3.out.1.2.keepN hK hbx⟩,⟨hkL,H3.out.2.1.2.keepN hK hbx⟩,⟨z9,q9⟩,H3.out.2.2.2.1.trans (hK.below.mono (by have:=H3.out.2.2.2.2;omega)),H3.out.2.2.2.2⟩
     clear hkA hkL hK z9 q9 H3 hbx
     go_wp2_with fail
     go_meet
     obtain⟨s3,ao3,n3,cp3,e3,h⟩:=H4.out
     exact⟨rfl,rfl,rfl,rfl,rfl,_,_,_,_,_,h⟩
  case rest =>
  obtain⟨rfl,rfl,rfl,rfl,rfl,s3,ao3,n3,cp3,e3,H5⟩:=hcut
  clear H3
  have H3:=H5
  clear H5
  obtain⟨pn,hpn⟩:∃ pn,pn=p n:=⟨_,rfl⟩
  obtain⟨qn,hqn⟩:∃ qn,qn=q n:=⟨_,rfl⟩
  have hpe:(FloatKind.f64.format.order (FL n) f==some Ordering.eq)=pn:=by rw[hpn];exact(hp.out n hn.out.1 hn.out.2).1
  have hqe:(FloatKind.f64.format.order (FH n) f==some Ordering.eq)=qn:=by rw[hqn];exact(hp.out n hn.out.1 hn.out.2).2
  have HPQ:Hid (pn=p n∧qn=q n):=⟨hpn,hqn⟩
  clear hpn hqn
  go_upto_region 10 with fail
  refine r_region [0,1,2,3,4,5,6,7,8,9,10,11] [38,39,40,41,42,43,44,45,46,47,11,12] [[],[],[0,1],[],[2,3],[],[],[5,6],[],[7,8],[4],[9]] wc _ [isV (.agg #[.bool s2,.slice ao2 n2 cp2,.int .i64 e2]),isV (.int .i64 (n - 1 - X)),isV (.float .f64 (FL n)),isV (.float .f64 f),isV (.bool pn),isV (.agg #[.bool s3,.slice ao3 n3 cp3,.int .i64 e3]),isV (.int .i64 (n - 1 - X)),isV (.float .f64 (FH n)),isV (.float .f64 f),isV (.bool qn),isV (.bool pn),isV (.bool qn)] (by kernel_rfl) ⟨isV_stays _,isV_stays _,isV_stays _,isV_stays _,isV_stays _,isV_stays _,isV_stays _,isV_stays _,isV_stays _,isV_stays _,isV_stays _,isV_stays _,trivial⟩ (by show ∀ s ∈ [38,39,40,41,42,43,44,45,46,47,11,12],s<108;decide) ?_ ?_
  ·intro j hj o ho act U hb hoth hdep
   have hj':j<12:=hj
   have t8':act.tmps[(8:Nat)]?=some (Value.pointer (some ⟨gL,0,none⟩)):=(hoth 8 (by decide)).trans rfl
   have t10':act.tmps[(10:Nat)]?=some (Value.pointer (some ⟨gH,0,none⟩)):=(hoth 10 (by decide)).trans rfl
   have t7':act.tmps[(7:Nat)]?=some (Value.int .i64 (n - 1 - X)):=(hoth 7 (by decide)).trans rfl
   have t0':act.tmps[(0:Nat)]?=some (Value.float .f64 f):=(hoth 0 (by decide)).trans rfl
   have d8:=(box_cells29 (H3.out.2.1.later hb).1).1
   have d10:=(box_cells29 (H3.out.2.2.1.later hb).1).1
   rcases(by omega:j=0∨j=1∨j=2∨j=3∨j=4∨j=5∨j=6∨j=7∨j=8∨j=9∨j=10∨j=11)with rfl|rfl|rfl|rfl|rfl|rfl|rfl|rfl|rfl|rfl|rfl|rfl
   ·obtain rfl:=Option.some.inj ho
    exact .inl ⟨rfl,owp_ldD rfl t8' d8.1 d8.2.1 d8.2.2 ⟨_,rfl,rfl,Below.refl _ _⟩⟩
   ·obtain rfl:=Option.some.inj ho
    exact .inl ⟨rfl,owp_move rfl t7' ⟨_,rfl,rfl,Below.refl _ _⟩⟩
   ·obtain rfl:=Option.some.inj ho
    have y0:act.tmps[(38:Nat)]?=_:=dV (hdep 0 (by simp[dL])) rfl
    have y1:act.tmps[(39:Nat)]?=_:=dV (hdep 1 (by simp[dL])) rfl
    refine .inl ⟨rfl,owp_call rfl (enters Tryz.func84 (by kernel_rfl) (by kernel_rfl)) (vs:=#[.agg #[.bool s2,.slice ao2 n2 cp2,.int .i64 e2],.int .i64 (n - 1 - X)]) (by simp[eval_get y0,eval_get y1]) ?_⟩
    refine(kB1.out n hn.out.1 hn.out.2 U _ (H3.out.2.1.later hb).2).mono ?_
    rintro r w' ⟨rfl,hb'⟩
    exact⟨_,rfl,_,rfl,rfl,hb'⟩
   ·obtain rfl:=Option.some.inj ho
    exact .inl ⟨rfl,owp_move rfl t0' ⟨_,rfl,rfl,Below.refl _ _⟩⟩
   ·obtain rfl:=Option.some.inj ho
    have y2:act.tmps[(40:Nat)]?=_:=dV (hdep 2 (by simp[dL])) rfl
    have y3:act.tmps[(41:Nat)]?=_:=dV (hdep 3 (by simp[dL])) rfl
    exact .inl ⟨rfl,owp_run1 (w':=U) (by simp[execOp,y2,y3,eval_cst,go_sem,hpe]) ⟨_,rfl,rfl,Below.refl _ _⟩⟩
   ·obtain rfl:=Option.some.inj ho
    exact .inl ⟨rfl,owp_ldD rfl t10' d10.1 d10.2.1 d10.2.2 ⟨_,rfl,rfl,Below.refl _ _⟩⟩
   ·obtain rfl:=Option.some.inj ho
    exact .inl ⟨rfl,owp_move rfl t7' ⟨_,rfl,rfl,Below.refl _ _⟩⟩
   ·obtain rfl:=Option.some.inj ho
    have y5:act.tmps[(43:Nat)]?=_:=dV (hdep 5 (by simp[dL])) rfl
    have y6:act.tmps[(44:Nat)]?=_:=dV (hdep 6 (by simp[dL])) rfl
    refine .inl ⟨rfl,owp_call rfl (enters Tryz.func84 (by kernel_rfl) (by kernel_rfl)) (vs:=#[.agg #[.bool s3,.slice ao3 n3 cp3,.int .i64 e3],.int .i64 (n - 1 - X)]) (by simp[eval_get y5,eval_get y6]) ?_⟩
    refine(kB2.out n hn.out.1 hn.out.2 U _ (H3.out.2.2.1.later hb).2).mono ?_
    rintro r w' ⟨rfl,hb'⟩
    exact⟨_,rfl,_,rfl,rfl,hb'⟩
   ·obtain rfl:=Option.some.inj ho
    exact .inl ⟨rfl,owp_move rfl t0' ⟨_,rfl,rfl,Below.refl _ _⟩⟩
   ·obtain rfl:=Option.some.inj ho
    have y7:act.tmps[(45:Nat)]?=_:=dV (hdep 7 (by simp[dL])) rfl
    have y8:act.tmps[(46:Nat)]?=_:=dV (hdep 8 (by simp[dL])) rfl
    exact .inl ⟨rfl,owp_run1 (w':=U) (by simp[execOp,y7,y8,eval_cst,go_sem,hqe]) ⟨_,rfl,rfl,Below.refl _ _⟩⟩
   ·obtain rfl:=Option.some.inj ho
    have y4:act.tmps[(42:Nat)]?=_:=dV (hdep 4 (by simp[dL])) rfl
    exact .inl ⟨rfl,owp_assign rfl y4 ⟨_,rfl,rfl,Below.refl _ _⟩⟩
   ·obtain rfl:=Option.some.inj ho
    have y9:act.tmps[(47:Nat)]?=_:=dV (hdep 9 (by simp[dL])) rfl
    exact .inl ⟨rfl,owp_assign rfl y9 ⟨_,rfl,rfl,Below.refl _ _⟩⟩
  ·intro u W9 hb9 hu
   have u10:u 10=.bool pn:=hu 10 (by show 10<12;decide)
   have u11:u 11=.bool qn:=hu 11 (by show 11<12;decide)
   clear hu
   simp only[putL,show List.range 12 = [0,1,2,3,4,5,6,7,8,9,10,11] from rfl,List.length_cons,List.length_nil,List.getD_cons_zero,List.getD_cons_succ,List.map_cons,List.map_nil,List.cons_append,List.nil_append,List.foldl_cons,List.foldl_nil,Nat.reduceLT,Nat.reduceMod,Nat.reduceDiv,Nat.reduceMul,Nat.reduceAdd,Nat.reduceEqDiff,reduceIte,Nat.one_ne_zero,Act.put,List.setIfInBounds_toArray,List.set_cons_zero,List.set_cons_succ]
   rw[u10,u11]
   clear u10 u11
   have H4:Hid (NbQ W9 gA s1 ao1 n1 cp1 e1 tA∧NbQ W9 gL s2 ao2 n2 cp2 e2 (tL n)∧NbQ W9 gH s3 ao3 n3 cp3 e3 (tH n)∧Bw w W9∧w.heap.size≤gA∧gA<gL∧gL<gH):=⟨H3.out.1.later hb9,H3.out.2.1.later hb9,H3.out.2.2.1.later hb9,H3.out.2.2.2.1.trans (hb9.mono H3.out.2.2.2.1.size),H3.out.2.2.2.2⟩
   clear hb9 H3 hpe hqe
   go_upto_region 11 with fail
   go_cut [53] from 48 to 52 (fun v wx=>v=.bool (!pn && !qn)∧wx=W9)
   case first =>
    cases pn <;> cases qn
    all_goals
     go_wp2_with fail
     go_meet
     exact⟨rfl,rfl⟩
   case rest =>
   obtain⟨rfl,rfl⟩:=hcut
   obtain⟨st,hst⟩:∃ st,st=(!pn && !qn):=⟨_,rfl⟩
   rw[←hst]
   have HST:Hid (st=(!pn && !qn)):=hst
   clear hst
   rcases(by cases st <;> simp:st=true∨st=false)with hE|hE
   ·subst hE
    have hnN:Hid (n<N):=(by
     obtain⟨e1,e2⟩:=HPQ.out
     have e3:=HST.out
     have h1:=hn.out
     rcases Int.lt_or_eq_of_le h1.2 with h2|h2
     ·exact h2
     ·exfalso
      rw[h2] at e1 e2
      rcases hat.out with h3|h3
      ·rw[h3] at e1;rw[e1] at e3;exact absurd e3 (by cases qn <;> decide)
      ·rw[h3] at e2;rw[e2] at e3;exact absurd e3 (by cases pn <;> decide):n<N)
    clear HPQ HST
    go_wp2_with fail
    exact⟨⟨n+1,rfl,rfl,(by have:=hnN.out;have:=hn.out;exact⟨by omega,by omega⟩:1≤n+1∧n+1≤N),H4.out.1,H4.out.2.2.2.1,H4.out.2.2.2.2.1⟩,by have:=hnN.out;simp[intOf];omega⟩
   ·subst hE
    have hnN:Hid (n=N):=(by
     obtain⟨e1,e2⟩:=HPQ.out
     have e3:=HST.out
     have h1:=hn.out
     rcases Int.lt_or_eq_of_le h1.2 with h2|h2
     ·exfalso
      obtain⟨h3,h4⟩:=hlt.out n h1.1 h2
      rw[e1,e2,h3,h4] at e3
      exact absurd e3 (by decide)
     ·exact h2:n=N)
    obtain⟨nv,hnv⟩:∃ nv,nv=N:=⟨_,rfl⟩
    have hnn:=hnN.out
    rw[←hnv] at hnn hat hup hB kF1 kF2 kD hD
    subst hnn
    clear HST hlt hnv
    obtain⟨⟨c0,c1,c2⟩,-⟩:=box_cells29 H4.out.2.1.1
    obtain⟨V4,hV4⟩:∃ V4,V4=wc.alloc (.cells #[.bool s2,.slice ao2 n2 cp2,.int .i64 e2] 54):=⟨_,rfl⟩
    obtain⟨gB,hgB⟩:∃ gB,gB=wc.heap.size:=⟨_,rfl⟩
    have H5:Hid (NbQ V4 gA s1 ao1 n1 cp1 e1 tA∧NbQ V4 gL s2 ao2 n2 cp2 e2 (tL n)∧NbQ V4 gH s3 ao3 n3 cp3 e3 (tH n)∧Bw w V4∧w.heap.size≤gA∧gA<gL∧gL<gH∧NbQ V4 gB s2 ao2 n2 cp2 e2 (tL n)∧gH<gB):=by
     have hbV:Bw wc V4:=by rw[hV4];exact(Below.refl _ _).alloc (Nat.le_refl _) _
     have h4:V4.heap[wc.heap.size]?=some (.cells #[.bool s2,.slice ao2 n2 cp2,.int .i64 e2] 54 (0,0)):=by rw[hV4];exact heap_alloc_new _ _
     exact⟨H4.out.1.later hbV,H4.out.2.1.later hbV,H4.out.2.2.1.later hbV,H4.out.2.2.2.1.trans (hbV.mono H4.out.2.2.2.1.size),H4.out.2.2.2.2.1,H4.out.2.2.2.2.2.1,H4.out.2.2.2.2.2.2,⟨by rw[hgB];exact h4,H4.out.2.1.2.later hbV⟩,by rw[hgB];exact H4.out.2.2.1.lt⟩
    go_upto_region 13 with fail
    rw[←hV4,←hgB]
    clear hV4 hgB H4 c0 c1 c2
    have H4:=H5
    clear H5
    refine r_region [0,1,2,3,4,5,6,7,8,9] [55,56,57,58,59,60,61,62,63,14] [[],[],[],[0,1,2],[],[],[],[4,5,6],[3,7],[8]] V4 _ [isV (.agg #[.bool s1,.slice ao1 n1 cp1,.int .i64 e1]),isV (.agg #[.bool s2,.slice ao2 n2 cp2,.int .i64 e2]),isV (.int .i64 (n - 1 - X)),isD (tF1),isV (.agg #[.bool s1,.slice ao1 n1 cp1,.int .i64 e1]),isV (.agg #[.bool s3,.slice ao3 n3 cp3,.int .i64 e3]),isV (.int .i64 (n - 1 - X)),isD (tF2),isV (.int .i64 c),isV (.int .i64 c)] (by kernel_rfl) ⟨isV_stays _,isV_stays _,isV_stays _,isD_stays _,isV_stays _,isV_stays _,isV_stays _,isD_stays _,isV_stays _,isV_stays _,trivial⟩ (by show ∀ s ∈ [55,56,57,58,59,60,61,62,63,14],s<108;decide) ?_ ?_
    ·intro j hj o ho act U hb hoth hdep
     have hj':j<10:=hj
     have t4':act.tmps[(4:Nat)]?=some (Value.pointer (some ⟨gA,0,none⟩)):=(hoth 4 (by decide)).trans rfl
     have t8':act.tmps[(8:Nat)]?=some (Value.pointer (some ⟨gL,0,none⟩)):=(hoth 8 (by decide)).trans rfl
     have t10':act.tmps[(10:Nat)]?=some (Value.pointer (some ⟨gH,0,none⟩)):=(hoth 10 (by decide)).trans rfl
     have t7':act.tmps[(7:Nat)]?=some (Value.int .i64 (n - 1 - X)):=(hoth 7 (by decide)).trans rfl
     have d4:=(box_cells29 (H4.out.1.later hb).1).1
     have d8:=(box_cells29 (H4.out.2.1.later hb).1).1
     have d10:=(box_cells29 (H4.out.2.2.1.later hb).1).1
     rcases(by omega:j=0∨j=1∨j=2∨j=3∨j=4∨j=5∨j=6∨j=7∨j=8∨j=9)with rfl|rfl|rfl|rfl|rfl|rfl|rfl|rfl|rfl|rfl
     ·obtain rfl:=Option.some.inj ho
      exact .inl ⟨rfl,owp_ldD rfl t4' d4.1 d4.2.1 d4.2.2 ⟨_,rfl,rfl,Below.refl _ _⟩⟩
     ·obtain rfl:=Option.some.inj ho
      exact .inl ⟨rfl,owp_ldD rfl t8' d8.1 d8.2.1 d8.2.2 ⟨_,rfl,rfl,Below.refl _ _⟩⟩
     ·obtain rfl:=Option.some.inj ho
      exact .inl ⟨rfl,owp_move rfl t7' ⟨_,rfl,rfl,Below.refl _ _⟩⟩
     ·obtain rfl:=Option.some.inj ho
      have y0:act.tmps[(55:Nat)]?=_:=dV (hdep 0 (by simp[dL])) rfl
      have y1:act.tmps[(56:Nat)]?=_:=dV (hdep 1 (by simp[dL])) rfl
      have y2:act.tmps[(57:Nat)]?=_:=dV (hdep 2 (by simp[dL])) rfl
      refine .inl ⟨rfl,owp_call rfl (enters Tryz.func85 (by kernel_rfl) (by kernel_rfl)) (vs:=#[.agg #[.bool s1,.slice ao1 n1 cp1,.int .i64 e1],.agg #[.bool s2,.slice ao2 n2 cp2,.int .i64 e2],.int .i64 (n - 1 - X)]) (by simp[eval_get y0,eval_get y1,eval_get y2]) ?_⟩
      refine(kF1.out U _ _ (H4.out.1.later hb).2 (H4.out.2.1.later hb).2).mono ?_
      rintro r w' ⟨s9,ao9,n9,cp9,e9,rfl,hA9,hb'⟩
      exact⟨_,rfl,_,rfl,hA9,hb'⟩
     ·obtain rfl:=Option.some.inj ho
      exact .inl ⟨rfl,owp_ldD rfl t4' d4.1 d4.2.1 d4.2.2 ⟨_,rfl,rfl,Below.refl _ _⟩⟩
     ·obtain rfl:=Option.some.inj ho
      exact .inl ⟨rfl,owp_ldD rfl t10' d10.1 d10.2.1 d10.2.2 ⟨_,rfl,rfl,Below.refl _ _⟩⟩
     ·obtain rfl:=Option.some.inj ho
      exact .inl ⟨rfl,owp_move rfl t7' ⟨_,rfl,rfl,Below.refl _ _⟩⟩
     ·obtain rfl:=Option.some.inj ho
      have y4:act.tmps[(59:Nat)]?=_:=dV (hdep 4 (by simp[dL])) rfl
      have y5:act.tmps[(60:Nat)]?=_:=dV (hdep 5 (by simp[dL])) rfl
      have y6:act.tmps[(61:Nat)]?=_:=dV (hdep 6 (by simp[dL])) rfl
      refine .inl ⟨rfl,owp_call rfl (enters Tryz.func85 (by kernel_rfl) (by kernel_rfl)) (vs:=#[.agg #[.bool s1,.slice ao1 n1 cp1,.int .i64 e1],.agg #[.bool s3,.slice ao3 n3 cp3,.int .i64 e3],.int .i64 (n - 1 - X)]) (by simp[eval_get y4,eval_get y5,eval_get y6]) ?_⟩
      refine(kF2.out U _ _ (H4.out.1.later hb).2 (H4.out.2.2.1.later hb).2).mono ?_
      rintro r w' ⟨s9,ao9,n9,cp9,e9,rfl,hA9,hb'⟩
      exact⟨_,rfl,_,rfl,hA9,hb'⟩
     ·obtain rfl:=Option.some.inj ho
      obtain⟨u3,y30,v3⟩:=hdep 3 (by simp[dL])
      have y3:act.tmps[(58:Nat)]?=_:=y30
      obtain⟨u7,y70,v7⟩:=hdep 7 (by simp[dL])
      have y7:act.tmps[(62:Nat)]?=_:=y70
      refine .inl ⟨rfl,owp_call rfl (enters Tryz.func49 (by kernel_rfl) (by kernel_rfl)) (vs:=#[u3,u7]) (by simp[eval_get y3,eval_get y7]) ?_⟩
      refine(kO.out U _ _ v3 v7).mono ?_
      rintro r w' ⟨rfl,hb'⟩
      exact⟨_,rfl,_,rfl,rfl,hb'⟩
     ·obtain rfl:=Option.some.inj ho
      have y8:act.tmps[(63:Nat)]?=_:=dV (hdep 8 (by simp[dL])) rfl
      exact .inl ⟨rfl,owp_assign rfl y8 ⟨_,rfl,rfl,Below.refl _ _⟩⟩
    ·intro u W9 hb9 hu
     have u9:u 9=.int .i64 c:=hu 9 (by show 9<10;decide)
     clear hu
     simp only[putL,show List.range 10 = [0,1,2,3,4,5,6,7,8,9] from rfl,List.length_cons,List.length_nil,List.getD_cons_zero,List.getD_cons_succ,List.map_cons,List.map_nil,List.cons_append,List.nil_append,List.foldl_cons,List.foldl_nil,Nat.reduceLT,Nat.reduceMod,Nat.reduceDiv,Nat.reduceMul,Nat.reduceAdd,Nat.reduceEqDiff,reduceIte,Nat.one_ne_zero,Act.put,List.setIfInBounds_toArray,List.set_cons_zero,List.set_cons_succ]
     rw[u9]
     clear u9
     have H5:Hid (NbQ W9 gA s1 ao1 n1 cp1 e1 tA∧NbQ W9 gL s2 ao2 n2 cp2 e2 (tL n)∧NbQ W9 gH s3 ao3 n3 cp3 e3 (tH n)∧Bw w W9∧w.heap.size≤gA∧gA<gL∧gL<gH∧NbQ W9 gB s2 ao2 n2 cp2 e2 (tL n)∧gH<gB):=⟨H4.out.1.later hb9,H4.out.2.1.later hb9,H4.out.2.2.1.later hb9,H4.out.2.2.2.1.trans (hb9.mono H4.out.2.2.2.1.size),H4.out.2.2.2.2.1,H4.out.2.2.2.2.2.1,H4.out.2.2.2.2.2.2.1,H4.out.2.2.2.2.2.2.2.1.later hb9,H4.out.2.2.2.2.2.2.2.2⟩
     clear hb9 H4
     have HC:Hid ((pn=false→up=true)∧(pn=true→qn=false→up=false)∧(pn=true→qn=true→(0<c∧up=true)∨(c=0∧up=od)∨(c<0∧up=false))):=by
      rw[HPQ.out.1,HPQ.out.2]
      exact hup.out
     clear HPQ hup
     go_upto_region 14 with fail
     go_cut [13,80] from 11 to 79 (fun v13 v wx=>v13=Value.pointer (some ⟨gB,0,none⟩)∧v=.bool up∧Hid (NbQ wx gA s1 ao1 n1 cp1 e1 tA∧NbQ wx gL s2 ao2 n2 cp2 e2 (tL n)∧NbQ wx gH s3 ao3 n3 cp3 e3 (tH n)∧Bw w wx∧w.heap.size≤gA∧gA<gL∧gL<gH∧NbQ wx gB s2 ao2 n2 cp2 e2 (tL n)∧gH<gB))
     case first =>
      rcases(by cases pn <;> simp:pn=false∨pn=true)with e1|e1
      ·have e3:=HC.out.1 e1
       subst e1 e3
       clear HC
       go_wp2_with fail
       go_meet
       exact⟨rfl,rfl,H5⟩
      ·rcases(by cases qn <;> simp:qn=false∨qn=true)with e2|e2
       ·have e3:=HC.out.2.1 e1 e2
        subst e1 e2 e3
        clear HC
        go_wp2_with fail
        go_meet
        exact⟨rfl,rfl,H5⟩
       ·have e4:=HC.out.2.2 e1 e2
        subst e1 e2
        clear HC
        rcases e4 with ⟨hc,rfl⟩|⟨rfl,rfl⟩|⟨hc,rfl⟩
        ·go_wp2_with fail
         go_meet
         exact⟨rfl,rfl,H5⟩
        ·obtain⟨⟨c0,c1,c2⟩,-⟩:=box_cells29 H5.out.2.1.1
         have q1:=kD.out W9 _ H5.out.2.1.2
         cases up
         all_goals
          go_wp2_with fail
          refine q1.mono ?_
          rintro r wq ⟨rfl,hbq⟩
          have H6:Hid (NbQ wq gA s1 ao1 n1 cp1 e1 tA∧NbQ wq gL s2 ao2 n2 cp2 e2 (tL n)∧NbQ wq gH s3 ao3 n3 cp3 e3 (tH n)∧Bw w wq∧w.heap.size≤gA∧gA<gL∧gL<gH∧NbQ wq gB s2 ao2 n2 cp2 e2 (tL n)∧gH<gB):=⟨H5.out.1.later hbq,H5.out.2.1.later hbq,H5.out.2.2.1.later hbq,H5.out.2.2.2.1.trans (hbq.mono H5.out.2.2.2.1.size),H5.out.2.2.2.2.1,H5.out.2.2.2.2.2.1,H5.out.2.2.2.2.2.2.1,H5.out.2.2.2.2.2.2.2.1.later hbq,H5.out.2.2.2.2.2.2.2.2⟩
          clear q1 hbq H5 c0 c1 c2
          go_wp2_with fail
          go_meet
          exact⟨rfl,rfl,H6⟩
        ·have hc1:¬ (0:Int)<c:=by omega
         have hc2:(c==0)=false:=by rw[beq_eq_false_iff_ne];omega
         clear hc
         go_wp2_with fail
         go_meet
         exact⟨rfl,rfl,H5⟩
     case rest =>
     obtain⟨rfl,rfl,H6⟩:=hcut
     clear HC H5
     rcases(by cases up <;> simp:up=true∨up=false)with hE|hE
     ·subst hE
      have hBB:=hB.out.1 rfl
      subst hBB
      obtain⟨⟨c0,c1,c2⟩,-⟩:=box_cells29 H6.out.2.2.1.1
      obtain⟨⟨d0,d1,d2⟩,f0,f1,f2⟩:=box_cells29 H6.out.2.2.2.2.2.2.2.1.1
      obtain⟨V5,hV5⟩:∃ V5,V5=(((wc.setCell ⟨gB,0,none⟩ (.bool s3)).setCell ⟨gB,1,none⟩ (.slice ao3 n3 cp3)).setCell ⟨gB,2,none⟩ (.int .i64 e3)):=⟨_,rfl⟩
      have H7:Hid (NbQ V5 gB s3 ao3 n3 cp3 e3 (tH n)∧Bw w V5):=by
       rw[hV5]
       exact⟨H6.out.2.2.2.2.2.2.2.1.put H6.out.2.2.1.2,below_store3 H6.out.2.2.2.1 (by have:=H6.out;omega) _ _ _⟩
      go_upto_region 16 with fail
      rw[←hV5]
      clear hV5 H6 c0 c1 c2 d0 d1 d2 f0 f1 f2
      obtain⟨⟨c0,c1,c2⟩,-⟩:=box_cells29 H7.out.1.1
      have q1:=kDe.out V5 _ H7.out.1.2
      rw[←HSY.out] at q1
      go_wp2_with fail
      refine q1.mono ?_
      rintro r w5 ⟨rfl,hb5⟩
      have H8:Hid (Bw w w5):=H7.out.2.trans (hb5.mono H7.out.2.size)
      clear q1 hb5 H7 c0 c1 c2
      have g1:=HSZ.out z
      obtain⟨k1,k2,k3,-⟩:=hD.out
      have k4:=hXN.out
      have k5:=hnN.out
      obtain⟨L,hL⟩:∃ L,L=D.length+z:=⟨_,rfl⟩
      rw[←hL] at g1 k2 k3
      have u4:IntKind.i64.wrap (X+(L:Int))=X+(L:Int):=by rw[IntKind.wrap_i64];omega
      have u5:IntKind.i64.wrap (X+(L:Int) - n)=X2:=by rw[IntKind.wrap_i64];omega
      clear hL k1 k2 k3 k4 k5
      go_upto_region 18 with fail
      clear u4 u5 g1
      go_loopg [15] z (fun g v wr=>g≤z∧v=.string (Sy g)∧wr=w5)
      case atStart=>exact⟨Nat.le_refl _,rfl,rfl⟩
      case round =>
       obtain⟨hgz,rfl,rfl⟩:=hrel
       have HG:Hid (gk≤z):=hgz
       clear hgz
       have g1:=HSZ.out gk
       obtain⟨M,hM⟩:∃ M,M=D.length+gk:=⟨_,rfl⟩
       have HM:Hid (M=D.length+gk∧1≤D.length∧M≤1000):=by have:=HG.out;obtain⟨k1,k2,-,-⟩:=hD.out;exact⟨hM,k1,by omega⟩
       rw[←hM] at g1
       clear hM
       obtain⟨k,hk⟩:∃ k:Nat,k=M - 1:=⟨_,rfl⟩
       have HK:Hid (k=M - 1):=hk
       have u4:IntKind.i64.wrap ((M:Int) - 1)=(k:Int):=by have:=HM.out;rw[IntKind.wrap_i64];omega
       clear hk
       have hk0:(0:Int)≤(k:Int):=by omega
       have hkM:k<M:=by have:=HM.out;have:=HK.out;omega
       have hkM':(k:Int)<(M:Int):=by omega
       have hkM2:(k:Int)≤(M:Int):=by omega
       by_cases hg0:gk=0
       ·by_cases hM1:(1:Int)<(M:Int)
        ·obtain⟨b,hb⟩:∃ b:Nat,b=bL (D++List.replicate gk 48) k:=⟨_,rfl⟩
         have hg:∀ (h:k<(Sy gk).size),((Sy gk)[k]'h).toNat=b:=by
          intro h
          rw[hb]
          have:=bL_get (D++List.replicate gk 48) k (by rw[←HSY.out];exact h)
          simp only[HSY.out]
          exact this
         have hb48:((b:Int)==48)=false:=by
          rw[beq_eq_false_iff_ne]
          intro h9
          have h10:D.getLast?=some (D[k]'(by have:=HM.out;omega)):=by
           rw[List.getLast?_eq_getElem?]
           have:=HM.out
           have:=HK.out
           rw[show D.length - 1=k by omega]
           exact List.getElem?_eq_getElem _
          have h11:=hD.out.2.2.2 _ h10
          apply h11
          have h12:b=(D[k]'(by have:=HM.out;omega)).toNat:=by
           have h13:D++List.replicate gk 48=D:=by rw[hg0];simp
           rw[hb,h13]
           unfold bL
           rw[List.getElem?_eq_getElem (by have:=HM.out;omega)]
           rfl
          apply UInt8.toNat_inj.1
          rw[←h12]
          show b=48
          omega
         have HG0:Hid (gk=0):=hg0
         clear hb hg0
         go_wp2_with fail
         go_ret2
         exact⟨by rw[HSY.out,HG0.out];simp,H8.out⟩
        ·have HG0:Hid (gk=0):=hg0
         clear hg0
         go_wp2_with fail
         go_ret2
         exact⟨by rw[HSY.out,HG0.out];simp,H8.out⟩
       ·have hM1:(1:Int)<(M:Int):=by have:=HM.out;omega
        have hg:∀ (h:k<(Sy gk).size),((Sy gk)[k]'h).toNat=48:=by
         intro h
         have e1:=bL_get (D++List.replicate gk 48) k (by rw[←HSY.out];exact h)
         simp only[HSY.out]
         rw[e1]
         unfold bL
         have:=HM.out
         have:=HK.out
         rw[List.getElem?_append_right (by omega),List.getElem?_replicate,if_pos (by omega)]
         rfl
        have et:(Sy gk).extract 0 k=Sy (gk - 1):=by
         rw[HSY.out,HSY.out,ext_take]
         have:=HM.out
         have:=HK.out
         congr 2
         rw[List.take_append,List.take_of_length_le (by omega),List.take_replicate]
         congr 2
         omega
        have HG0:Hid (gk≠0):=hg0
        clear hg0
        go_wp2_with fail
        go_roundg (gk - 1)
        case measure=>have:=HG0.out;omega
        case rel=>exact⟨by have:=HG.out;omega,rfl,rfl⟩
     ·subst hE
      have hBB:=hB.out.2 rfl
      subst hBB
      have H7:Hid (NbQ wc gB s2 ao2 n2 cp2 e2 (tL n)∧Bw w wc):=⟨H6.out.2.2.2.2.2.2.2.1,H6.out.2.2.2.1⟩
      clear H6
      go_upto_region 16 with fail
      obtain⟨⟨c0,c1,c2⟩,-⟩:=box_cells29 H7.out.1.1
      have q1:=kDe.out wc _ H7.out.1.2
      rw[←HSY.out] at q1
      go_wp2_with fail
      refine q1.mono ?_
      rintro r w5 ⟨rfl,hb5⟩
      have H8:Hid (Bw w w5):=H7.out.2.trans (hb5.mono H7.out.2.size)
      clear q1 hb5 H7 c0 c1 c2
      have g1:=HSZ.out z
      obtain⟨k1,k2,k3,-⟩:=hD.out
      have k4:=hXN.out
      have k5:=hnN.out
      obtain⟨L,hL⟩:∃ L,L=D.length+z:=⟨_,rfl⟩
      rw[←hL] at g1 k2 k3
      have u4:IntKind.i64.wrap (X+(L:Int))=X+(L:Int):=by rw[IntKind.wrap_i64];omega
      have u5:IntKind.i64.wrap (X+(L:Int) - n)=X2:=by rw[IntKind.wrap_i64];omega
      clear hL k1 k2 k3 k4 k5
      go_upto_region 18 with fail
      clear u4 u5 g1
      go_loopg [15] z (fun g v wr=>g≤z∧v=.string (Sy g)∧wr=w5)
      case atStart=>exact⟨Nat.le_refl _,rfl,rfl⟩
      case round =>
       obtain⟨hgz,rfl,rfl⟩:=hrel
       have HG:Hid (gk≤z):=hgz
       clear hgz
       have g1:=HSZ.out gk
       obtain⟨M,hM⟩:∃ M,M=D.length+gk:=⟨_,rfl⟩
       have HM:Hid (M=D.length+gk∧1≤D.length∧M≤1000):=by have:=HG.out;obtain⟨k1,k2,-,-⟩:=hD.out;exact⟨hM,k1,by omega⟩
       rw[←hM] at g1
       clear hM
       obtain⟨k,hk⟩:∃ k:Nat,k=M - 1:=⟨_,rfl⟩
       have HK:Hid (k=M - 1):=hk
       have u4:IntKind.i64.wrap ((M:Int) - 1)=(k:Int):=by have:=HM.out;rw[IntKind.wrap_i64];omega
       clear hk
       have hk0:(0:Int)≤(k:Int):=by omega
       have hkM:k<M:=by have:=HM.out;have:=HK.out;omega
       have hkM':(k:Int)<(M:Int):=by omega
       have hkM2:(k:Int)≤(M:Int):=by omega
       by_cases hg0:gk=0
       ·by_cases hM1:(1:Int)<(M:Int)
        ·obtain⟨b,hb⟩:∃ b:Nat,b=bL (D++List.replicate gk 48) k:=⟨_,rfl⟩
         have hg:∀ (h:k<(Sy gk).size),((Sy gk)[k]'h).toNat=b:=by
          intro h
          rw[hb]
          have:=bL_get (D++List.replicate gk 48) k (by rw[←HSY.out];exact h)
          simp only[HSY.out]
          exact this
         have hb48:((b:Int)==48)=false:=by
          rw[beq_eq_false_iff_ne]
          intro h9
          have h10:D.getLast?=some (D[k]'(by have:=HM.out;omega)):=by
           rw[List.getLast?_eq_getElem?]
           have:=HM.out
           have:=HK.out
           rw[show D.length - 1=k by omega]
           exact List.getElem?_eq_getElem _
          have h11:=hD.out.2.2.2 _ h10
          apply h11
          have h12:b=(D[k]'(by have:=HM.out;omega)).toNat:=by
           have h13:D++List.replicate gk 48=D:=by rw[hg0];simp
           rw[hb,h13]
           unfold bL
           rw[List.getElem?_eq_getElem (by have:=HM.out;omega)]
           rfl
          apply UInt8.toNat_inj.1
          rw[←h12]
          show b=48
          omega
         have HG0:Hid (gk=0):=hg0
         clear hb hg0
         go_wp2_with fail
         go_ret2
         exact⟨by rw[HSY.out,HG0.out];simp,H8.out⟩
        ·have HG0:Hid (gk=0):=hg0
         clear hg0
         go_wp2_with fail
         go_ret2
         exact⟨by rw[HSY.out,HG0.out];simp,H8.out⟩
       ·have hM1:(1:Int)<(M:Int):=by have:=HM.out;omega
        have hg:∀ (h:k<(Sy gk).size),((Sy gk)[k]'h).toNat=48:=by
         intro h
         have e1:=bL_get (D++List.replicate gk 48) k (by rw[←HSY.out];exact h)
         simp only[HSY.out]
         rw[e1]
         unfold bL
         have:=HM.out
         have:=HK.out
         rw[List.getElem?_append_right (by omega),List.getElem?_replicate,if_pos (by omega)]
         rfl
        have et:(Sy gk).extract 0 k=Sy (gk - 1):=by
         rw[HSY.out,HSY.out,ext_take]
         have:=HM.out
         have:=HK.out
         congr 2
         rw[List.take_append,List.take_of_length_le (by omega),List.take_replicate]
         congr 2
         omega
        have HG0:Hid (gk≠0):=hg0
        clear hg0
        go_wp2_with fail
        go_roundg (gk - 1)
        case measure=>have:=HG0.out;omega
        case rel=>exact⟨by have:=HG.out;omega,rfl,rfl⟩
theorem dg_fU {a:Nat} (h:mag a≠0):fU a≠0:=by
 have h2:=Ie.mant_ne (a:=a) h
 unfold fU
 exact Nat.ne_of_gt (Nat.mul_pos (by omega) (Nat.two_pow_pos _))
theorem dg_o0 {a:Nat} (ha:a<18446744073709551616) (hf:mag a≤9218868437227405312):(FloatKind.f64.format.order a 0==some Ordering.eq)=decide (mag a=0):=by
 have o:=ord_eq a 0 ha (by decide)
 have h1:isNaN a=false:=by unfold isNaN;exact decide_eq_false (by omega)
 have hs:stp a=if neg a then -(mag a:Int) else(mag a:Int):=by unfold stp sgn;rfl
 unfold eq at o
 rw[h1,show stp 0=0 by decide] at o
 rw[o]
 by_cases h:mag a=0
 ·rw[decide_eq_true h,decide_eq_true (by rw[hs];split <;> omega)]
  rfl
 ·rw[decide_eq_false h,decide_eq_false (by rw[hs];split <;> omega)]
  simp
theorem itoa_lenQ {x:Int} (h : -5000≤x∧x≤5000):(Lib.itoa x).length≤100:=by
 have:=Lib.itoa_length_le x (by omega) (by omega)
 omega
theorem sg_if (s:Bool):(if s then(⟨#[45]⟩:ByteArray) else⟨#[]⟩)=⟨(sgL s []).toArray⟩∧(sgL s []).length≤1:=by cases s <;> exact⟨rfl,by decide⟩
theorem sg_app (s:Bool) (t:List UInt8):sgL s []++t=sgL s t:=by cases s <;> rfl
theorem dcR_ten {N:Nat} (h:N≠0):∀ j,dcR (N*10^j)=dcR N++List.replicate j 48
 | 0=>by simp
 | j+1=>by
  have hp:0<10^j:=Nat.pow_pos (by decide)
  have h1:N*10^(j+1)=N*10^j*10:=by rw[Nat.pow_succ,Nat.mul_assoc]
  have h2:N*10^j≠0:=Nat.mul_ne_zero h (by omega)
  rw[h1,dcR_step (by omega),Nat.mul_div_cancel _ (by decide),dcR_ten h j,Nat.mul_mod_left,List.replicate_succ',List.append_assoc]
  rfl
theorem trimR_app (L:List UInt8):∀ j,Lib.trimRightB (L++List.replicate j 48) 48=Lib.trimRightB L 48
 | 0=>by simp
 | j+1=>by
  rw[List.replicate_succ',←List.append_assoc]
  have h:=trimR_app L j
  unfold Lib.trimRightB at *
  rw[List.reverse_append]
  simp
theorem trimR_split (L:List UInt8):∃ z,L=Lib.trimRightB L 48++List.replicate z 48∧∀ x,(Lib.trimRightB L 48).getLast?=some x→x≠48:=by
 refine⟨(L.reverse.takeWhile (· == 48)).length,?_,?_⟩
 ·have h1:=List.takeWhile_append_dropWhile (p:=(· == (48:UInt8))) (l:=L.reverse)
  have h2:L.reverse.takeWhile (· == (48:UInt8))=List.replicate (L.reverse.takeWhile (· == (48:UInt8))).length 48:=by
   rw[List.eq_replicate_iff]
   refine⟨rfl,fun b hb=>?_⟩
   have:=List.all_takeWhile (p:=(· == (48:UInt8))) (l:=L.reverse)
   have h3:=List.all_eq_true.1 this b hb
   simpa using h3
  unfold Lib.trimRightB
  have h3:=congrArg List.reverse h1
  rw[List.reverse_append,List.reverse_reverse] at h3
  conv=>lhs;rw[←h3]
  generalize List.takeWhile (fun x=>x==(48:UInt8)) L.reverse=t at *
  congr 1
  rw[h2]
  simp
 ·intro x hx
  unfold Lib.trimRightB at hx
  rw[List.getLast?_reverse] at hx
  have h:=List.head?_dropWhile_not (· == (48:UInt8)) L.reverse
  rw[hx] at h
  intro h9
  rw[h9] at h
  exact absurd h (by decide)
theorem trimR_ne:∀ N:Nat,N≠0→1≤(Lib.trimRightB (dcR N) 48).length:=by
 intro N
 induction N using Nat.strongRecOn with
 | ind N ih =>
  intro h
  rw[dcR_step h]
  by_cases h1:N % 10=0
  ·rw[h1]
   have h2:=trimR_app (dcR (N / 10)) 1
   rw[show List.replicate 1 (48:UInt8) = [UInt8.ofNat (48+0)] from rfl] at h2
   rw[h2]
   exact ih (N / 10) (by omega) (by omega)
  ·obtain⟨c,hc⟩:∃ c,c=UInt8.ofNat (48+N % 10):=⟨_,rfl⟩
   have hc8:(c==(48:UInt8))=false:=by
    rw[beq_eq_false_iff_ne,hc]
    intro h9
    have h10:=congrArg UInt8.toNat h9
    rw[UInt8.toNat_ofNat'] at h10
    have:(48:UInt8).toNat=48:=rfl
    omega
   rw[←hc]
   unfold Lib.trimRightB
   rw[List.reverse_append,List.reverse_singleton,List.singleton_append,List.dropWhile_cons,hc8]
   simp
theorem loD_ne {a i:Nat} (hi:i≤16) (h0:0<a) (h:a<9218868437227405312):loD a i≠0:=by
 have h1:=loD_fw hi h0 h
 obtain⟨g1,-⟩:=shG_b h0 h
 obtain⟨f1,f2⟩:=fwG (i:=i) h
 have h3:=fwU_le i
 have h4:=fwU_pos i
 intro h9
 rw[h9,Nat.zero_mul] at h1
 omega
theorem fU_ne {a:Nat} (h0:0<a) (h:a<9218868437227405312):fU a≠0:=dg_fU (by unfold mag;omega)
theorem lo_b {a i:Nat} (hi:i≤16) (hk : -2000≤(i:Int) - shX a∧(i:Int) - shX a≤2000) (h0:0<a) (h:a<9218868437227405312):loD a i<2^(bU+hT8)∧loD a i+1<2^(bU+hT8+1)∧hiD a i<2^(bU+hT8+1)∧hiD a i≠0:=by
 obtain⟨k1,k2,-⟩:=scF_lt (fU_lt a) hk
 have h9:=loD_ne hi h0 h
 refine⟨k1,k2,?_,?_⟩
 ·unfold hiD
  split
  ·exact Nat.lt_trans (Nat.lt_succ_self _) k2
  ·exact k2
 ·unfold hiD
  split
  ·exact h9
  ·exact Nat.succ_ne_zero _
theorem bs_b {a:Nat} (h1:loD a (shJ a)+1<2^(bU+hT8+1)) (h2:loD a (shJ a)≠0):bsD a<2^(bU+hT8+1)∧bsD a≠0:=by
 unfold bsD
 split
 ·exact⟨Nat.lt_trans (Nat.lt_succ_self _) h1,h2⟩
 ·exact⟨h1,Nat.succ_ne_zero _⟩
theorem sh_text {a:Nat} (hbs:bsD a≠0) (h0:0<a) (h:a<9218868437227405312):∃ z,dcD (bsD a)=shD a++List.replicate z 48∧1≤(shD a).length∧(shD a).length+z≤1000∧shX a+((shD a).length+z:Nat) - ((shJ a:Int)+1)=shE a∧(∀ x,(shD a).getLast?=some x→x≠48):=by
 have hJ:=shJ_le a
 obtain⟨z,hz1,hz2⟩:=trimR_split (dcR (bsD a))
 have hF:shF a=bsD a*10^(16 - shJ a):=shF_doc h0 h
 have eT:dcT (shF a)=dcR (bsD a)++List.replicate (16 - shJ a) 48:=by rw[dcT_eq,hF,dcR_ten hbs]
 have hD:shD a=Lib.trimRightB (dcR (bsD a)) 48:=by unfold shD;rw[eT,trimR_app]
 have hN1:=trimR_ne (bsD a) hbs
 have h1:=shF_len (shOk h0 h)
 have hE:shE a=(dcT (shF a)).length - 1 - (16 - shX a):=rfl
 have e:dcD (bsD a)=dcR (bsD a):=by unfold dcD;rw[if_neg hbs]
 rw[←hD] at hz1 hz2 hN1
 have hz3:=congrArg List.length hz1
 rw[eT,List.length_append,List.length_replicate] at h1 hE
 rw[List.length_append,List.length_replicate] at hz3
 rw[e]
 clear e hD eT hF hbs h
 refine⟨z,hz1,hN1,by omega,?_,hz2⟩
 rw[hE]
 omega
theorem up_pure {Q r low:Nat} {ex p q A up od:Bool} {c:Int} (hr:r<Q) (hx:ex=true→p=true∧q=true∧r=0) (hA:A=decide (Q<2*r∨(2*r=Q∧low % 2=1)))
  (hc:c=cmpI ((r:Nat):Int) (((if ex then r else Q - r):Nat):Int)) (hod:od=decide (low % 2=1)) (hup:up=(!p||(q&&(decide (0<c)||(decide (c=0)&&od))))) :
  ((p=false→up=true)∧(p=true→q=false→up=false)∧(p=true→q=true→(0<c∧up=true)∨(c=0∧up=od)∨(c<0∧up=false)))∧(ex=false→(up=true↔(p=false∨(q=true∧A=true)))):=by
 refine⟨⟨fun h=>by rw[hup,h];rfl,fun h1 h2=>by rw[hup,h1,h2];rfl,fun h1 h2=>?_⟩,fun he=>?_⟩
 ·rw[h1,h2] at hup
  rcases Int.lt_trichotomy c 0 with h|h|h
  ·refine .inr (.inr ⟨h,?_⟩)
   rw[hup,decide_eq_false (by omega),decide_eq_false (by omega)]
   rfl
  ·refine .inr (.inl ⟨h,?_⟩)
   rw[hup,decide_eq_false (by omega),decide_eq_true h]
   cases od <;> rfl
  ·refine .inl ⟨h,?_⟩
   rw[hup,decide_eq_true h]
   rfl
 ·rw[he,if_neg (by decide)] at hc
  have hAc:A=(decide (0<c)||(decide (c=0)&&od)):=by
   rw[hA,hod,Bool.eq_iff_iff]
   simp only[Bool.or_eq_true,Bool.and_eq_true,decide_eq_true_iff]
   rcases cmpI_cases ((r:Nat):Int) ((Q - r:Nat):Int)with ⟨g1,g2⟩|⟨g1,g2⟩|⟨g1,g2⟩
   ·rw[hc,g2];omega
   ·rw[hc,g2];omega
   ·rw[hc,g2];omega
  rw[hup,←hAc]
  cases p <;> cases q <;> cases A <;> simp
theorem d4shortest {a:Nat} (h0:0<a) (h:a<9218868437227405312) (w:World) :
  Calls Tryz.prog 28 #[.float .f64 a] w fun r w'=>r=.returned (.tuple #[.string ⟨(shD a).toArray⟩,.int .i64 (shE a)])∧Bw w w':=by
 have hA:=fU_lt a
 have hA0:=fU_ne h0 h
 have hw : -400≤shX a∧shX a≤400:=(woX_spec hA hA0).2.2
 have hJ:=shJ_le a
 have ha:a<18446744073709551616:=by omega
 have hb1:bU+hT8≤12000∧bU+hT8+1≤12000∧bU+hT8≤40000∧bU+hT8+1≤40000∧bU+hT8+1≤59000∧bU+hT8≤20000∧bU+hT8+1≤20000∧bU+hT8≤60000∧bU+hT8≤90000∧hT8+bU≤90000:=by have hb:=bU_eq;have h8:=hT8_eq;omega
 obtain⟨l1,l2,l3,l4,l5,l6,l7,l8,l9,l10⟩:=hb1
 have hk:∀ i:Nat,i≤16 → -2000≤(i:Int) - shX a∧(i:Int) - shX a≤2000:=fun i hi=>by omega
 have ix:∀ n:Int,1≤n→n≤(shJ a:Int)+1→(n - 1).toNat≤16∧n - 1 - shX a=((n - 1).toNat:Int) - shX a∧(n<(shJ a:Int)+1→(n - 1).toNat<shJ a):=fun n h1 h2=>by omega
 have hXN : -1000≤shX a∧shX a≤1000∧1≤(shJ a:Int)+1∧(shJ a:Int)+1≤20:=by omega
 have eJ:((shJ a:Int)+1 - 1).toNat=shJ a:=by omega
 have eK:(shJ a:Int)+1 - 1 - shX a=(shJ a:Int) - shX a:=by omega
 clear hw
 have hlo:∀ i,i≤16→loD a i<2^(bU+hT8)∧loD a i+1<2^(bU+hT8+1)∧hiD a i<2^(bU+hT8+1)∧hiD a i≠0:=fun i hi=>lo_b hi (hk i hi) h0 h
 obtain⟨hbl,hbs⟩:=bs_b (hlo _ hJ).2.1 (loD_ne hJ h0 h)
 obtain⟨z,z1,z2,z3,z4,z5⟩:=sh_text hbs h0 h
 obtain⟨p,hp⟩:∃ p:Int→Bool,p=fun n=>decide (shL a≤fwL (shT a) (n - 1).toNat):=⟨_,rfl⟩
 obtain⟨q,hq⟩:∃ q:Int→Bool,q=fun n=>if exD a (n - 1).toNat then p n else decide (fwL (shT a) (n - 1).toNat+fwU (n - 1).toNat≤shH a):=⟨_,rfl⟩
 have hpd:∀ n,p n=decide (shL a≤fwL (shT a) (n - 1).toNat):=fun n=>by rw[hp]
 have hqd:∀ n,q n=if exD a (n - 1).toNat then p n else decide (fwL (shT a) (n - 1).toNat+fwU (n - 1).toNat≤shH a):=fun n=>by rw[hq]
 clear hp hq
 obtain⟨c,hc⟩:∃ c:Int,c=cmpI (((frD (fU a) (loD a (shJ a)) ((shJ a:Int) - shX a)).natAbs:Nat):Int) (((frD (fU a) (hiD a (shJ a)) ((shJ a:Int) - shX a)).natAbs:Nat):Int):=⟨_,rfl⟩
 obtain⟨od,hod⟩:∃ od,od=decide (loD a (shJ a) % 2=1):=⟨_,rfl⟩
 obtain⟨up,hup⟩:∃ up,up=(!p ((shJ a:Int)+1)||(q ((shJ a:Int)+1)&&(decide (0<c)||(decide (c=0)&&od)))):=⟨_,rfl⟩
 obtain⟨j1,j2⟩:=shJ_spec h0 h
 have hpJ:=hpd ((shJ a:Int)+1)
 have hqJ:=hqd ((shJ a:Int)+1)
 rw[eJ] at hpJ hqJ
 obtain⟨fd1,fd2,fd3⟩:=hlo _ hJ
 obtain⟨b1,b2,b3⟩:=scF_lt hA (hk _ hJ)
 obtain⟨f1,f2⟩:=fr_low (fU a) ((shJ a:Int) - shX a)
 obtain⟨-,r2⟩:=sc_eq (fU a) ((shJ a:Int) - shX a)
 have e1:(frD (fU a) (loD a (shJ a)) ((shJ a:Int) - shX a)).natAbs=scR (fU a) ((shJ a:Int) - shX a):=f1
 have e2:(frD (fU a) (hiD a (shJ a)) ((shJ a:Int) - shX a)).natAbs=if exD a (shJ a)then scR (fU a) ((shJ a:Int) - shX a)else tnU ((shJ a:Int) - shX a)*kU - scR (fU a) ((shJ a:Int) - shX a):=by
  unfold hiD
  split
  ·exact f1
  ·exact f2
 have r3:(if exD a (shJ a)then scR (fU a) ((shJ a:Int) - shX a)else tnU ((shJ a:Int) - shX a)*kU - scR (fU a) ((shJ a:Int) - shX a))≤tnU ((shJ a:Int) - shX a)*kU:=by
  split
  ·exact Nat.le_of_lt r2
  ·exact Nat.sub_le _ _
 obtain⟨U1,U2⟩:=up_pure (ex:=exD a (shJ a)) (p:=p ((shJ a:Int)+1)) (q:=q ((shJ a:Int)+1)) (A:=shA a) (up:=up) (od:=od) (c:=c) r2 (fun he=>by
  obtain⟨g1,g2⟩:=ex_lo hJ h0 h he
  have g3:p ((shJ a:Int)+1)=true:=by rw[hpJ];exact decide_eq_true g1
  exact⟨g3,by rw[hqJ,if_pos he];exact g3,g2⟩) (shA_doc hJ h0 h) (by rw[hc,e1,e2]) hod hup
 refine d4shortest_1 a (shX a) ((shJ a:Int)+1) (shE a) (un ((fU a:Nat):Int) 1074) (un 1 0) (un (((frD (fU a) (loD a (shJ a)) ((shJ a:Int) - shX a)).natAbs:Nat):Int) 1074) (un (((frD (fU a) (hiD a (shJ a)) ((shJ a:Int) - shX a)).natAbs:Nat):Int) 1074) (un ((bsD a:Nat):Int) 0) (fun n=>un ((loD a (n - 1).toNat:Nat):Int) 0) (fun n=>un ((loD a (n - 1).toNat+1:Nat):Int) 0) (fun n=>un ((hiD a (n - 1).toNat:Nat):Int) 0) (fun n=>exD a (n - 1).toNat) p q (fun n=>bkF (loD a (n - 1).toNat) (n - 1 - shX a)) (fun n=>bkF (hiD a (n - 1).toNat) (n - 1 - shX a)) c od up (shD a) [] z w ?_ ?_ ?_ ?_ ?_ ?_ ?_ ?_ ?_ ?_ ?_ ?_ ?_ ?_ ?_ ?_ ?_ ?_ ?_ ?_
 ·exact hXN
 ·intro n
  refine⟨fun h=>?_,fun h=>?_⟩
  ·show un ((hiD a (n - 1).toNat:Nat):Int) 0=un ((loD a (n - 1).toNat:Nat):Int) 0
   unfold hiD;rw[if_pos h]
  ·show un ((hiD a (n - 1).toNat:Nat):Int) 0=un ((loD a (n - 1).toNat+1:Nat):Int) 0
   unfold hiD;rw[if_neg (by rw[h];decide)]
 ·exact fun W=>d4abs ha W
 ·exact fun W X' hX'=>d4Place hA hA0 hX'
 ·intro n h1 h2 W X' hX'
  obtain⟨i1,i2,i3⟩:=ix n h1 h2
  have:=d4scaled hA (hk _ i1) hX'
  rw[←i2] at this
  show Calls _ _ _ _ fun r w'=>OutS W (un ((loD a (n - 1).toNat:Nat):Int) 0) (exD a (n - 1).toNat) r w'
  unfold loD exD
  rw[←i2]
  exact this
 ·exact fun W=>(dwholeU (n:=1) (by decide) W).mono fun r w' h=>outQ h
 ·intro n h1 h2 W X' Y hX' hY
  obtain⟨i1,i2,i3⟩:=ix n h1 h2
  have h:=gplusS (un_gn (p:=0) (nat_lt (hlo _ i1).1) l9 (by decide)) (un_gn (p:=0) (show((1:Int)).natAbs<2^1 by decide) (by decide) (by decide)) hX' hY (.inl (by rw[un_nnS,show((1:Int))=((1:Nat):Int)from rfl,un_nnS]))
  rw[gS_un] at h
  exact h.mono fun r w' h=>outQ h
 ·intro n h1 h2 W X' hX'
  obtain⟨i1,i2,i3⟩:=ix n h1 h2
  exact d4back (loD_ne i1 h0 h) (hlo _ i1).1 l3 (by rw[i2];exact hk _ i1) hX'
 ·intro n h1 h2 W X' hX'
  obtain⟨i1,i2,i3⟩:=ix n h1 h2
  exact d4back (hlo _ i1).2.2.2 (hlo _ i1).2.2.1 l4 (by rw[i2];exact hk _ i1) hX'
 ·intro n h1 h2
  obtain⟨i1,i2,i3⟩:=ix n h1 h2
  have e1:=bk_eq (a:=a) (loD_ne i1 h0 h) (hlo _ i1).1 l3 (hk _ i1) h0 h
  have e2:=bk_eq (a:=a) (hlo _ i1).2.2.2 (hlo _ i1).2.2.1 l4 (hk _ i1) h0 h
  rw[bk_lo i1 h0 h] at e1
  refine⟨?_,?_⟩
  ·rw[i2,hpd,Bool.eq_iff_iff,e1,decide_eq_true_iff]
  ·rw[i2,hqd]
   by_cases he:exD a (n - 1).toNat=true
   ·rw[if_pos he,hpd,Bool.eq_iff_iff,e2,decide_eq_true_iff]
    unfold hiD
    rw[if_pos he,bk_lo i1 h0 h]
   ·rw[if_neg he,Bool.eq_iff_iff,e2,decide_eq_true_iff]
    unfold hiD
    rw[if_neg he,bk_hi i1 h0 h]
 ·intro n h1 h2
  obtain⟨i1,i2,i3⟩:=ix n h1 (Int.le_of_lt h2)
  obtain⟨k1,k2⟩:=j1 (n - 1).toNat (i3 h2)
  have e1:p n=false:=by rw[hpd];exact decide_eq_false k1
  refine⟨e1,?_⟩
  rw[hqd]
  split
  ·exact e1
  ·exact decide_eq_false k2
 ·by_cases he:exD a (shJ a)=true
  ·left
   rw[hpJ]
   exact decide_eq_true (ex_lo hJ h0 h he).1
  ·rcases j2 with j2|j2
   ·left;rw[hpJ];exact decide_eq_true j2
   ·right;rw[hqJ,if_neg he];exact decide_eq_true j2
 ·intro W X' Y hX' hY
  rw[eK]
  rw[eJ] at hY
  exact d4far hA fd1 l6 (hk _ hJ) hX' hY
 ·intro W X' Y hX' hY
  rw[eK]
  rw[eJ] at hY
  exact d4far hA fd3.1 l7 (hk _ hJ) hX' hY
 ·intro W X' Y hX' hY
  rw[hc]
  rw[e1] at hX' ⊢
  rw[e2] at hY ⊢
  exact dorderU (nat_lt (Nat.lt_trans r2 b3)) (nat_lt (Nat.lt_of_le_of_lt r3 b3)) l10 l10 (by decide) hX' hY
 ·intro W X' hX'
  rw[eJ] at hX'
  rw[hod]
  exact d4odd fd1 l8 hX'
 ·exact U1
 ·show(up=true→un ((bsD a:Nat):Int) 0=un ((hiD a ((shJ a:Int)+1 - 1).toNat:Nat):Int) 0)∧(up=false→un ((bsD a:Nat):Int) 0=un ((loD a ((shJ a:Int)+1 - 1).toNat:Nat):Int) 0)
  rw[eJ]
  by_cases he:exD a (shJ a)=true
  ·have g1:=(ex_lo hJ h0 h he).1
   have g2:bsD a=loD a (shJ a):=by unfold bsD;rw[if_pos ⟨g1,.inl he⟩]
   have g3:hiD a (shJ a)=loD a (shJ a):=by unfold hiD;rw[if_pos he]
   rw[g2,g3]
   exact⟨fun _=>rfl,fun _=>rfl⟩
  ·have g3:hiD a (shJ a)=loD a (shJ a)+1:=by unfold hiD;rw[if_neg he]
   have g4:=U2 (by simpa using he)
   rw[hpJ,hqJ,if_neg he,decide_eq_false_iff_not,decide_eq_true_iff] at g4
   rw[g3]
   constructor
   ·intro hu
    have g5:=g4.1 hu
    have g2:bsD a=loD a (shJ a)+1:=by
     unfold bsD
     rw[if_neg]
     rintro⟨g6,g7|g7⟩
     ·exact he g7
     ·rcases g5 with g5|g5
      ·exact g5 g6
      ·exact g7 g5
    rw[g2]
   ·intro hu
    have g2:bsD a=loD a (shJ a):=by
     unfold bsD
     rw[if_pos]
     refine⟨Classical.byContradiction fun g6=>?_,.inr fun g6=>?_⟩
     ·rw[g4.2 (.inl g6)] at hu;exact absurd hu (by decide)
     ·rw[g4.2 (.inr g6)] at hu;exact absurd hu (by decide)
    rw[g2]
 ·intro W X' hX'
  have:=dDecimal hX' hbl l5
  rw[←z1]
  exact this
 ·exact⟨z2,z3,z4,z5⟩
theorem d4Exact_w (f:Nat) (t:ByteArray) (w:World)
  (kW:∀ W,Calls Tryz.prog 27 #[.float .f64 f] W fun r w'=>r=.returned (.tuple #[.string t,.bool true])∧w'=W) :
  Calls Tryz.prog 10 #[.float .f64 f] w fun r w'=>r=.returned (.string t)∧w'=w:=by
 go_enter Tryz.func10,Tryz.ntmps10
 go_wp2_with (go_at_call 27;refine(kW _).mono ?_;rintro r w' ⟨rfl,hw⟩;replace hw:=hw.symm;subst hw)
 go_ret
 exact⟨rfl,rfl⟩
theorem d4Exact_a (f:Nat) (x:Int) (sg D R:ByteArray) (tA:Bool×Nat×Int) (w:World)
  (kW:∀ W,Calls Tryz.prog 27 #[.float .f64 f] W fun r w'=>r=.returned (.tuple #[.string sg,.bool false])∧w'=W)
  (kA:Hid (∀ W,Calls Tryz.prog 35 #[.float .f64 f] W fun r w'=>OutQ W tA r w'))
  (kE:Hid (∀ W s ao n cp e,DN W (.agg #[.bool s,.slice ao n cp,.int .i64 e]) tA→x=e))
  (hx:0≤x)
  (kD:Hid (∀ W X,DN W X tA→Calls Tryz.prog 36 #[X] W fun r w'=>r=.returned (.string D)∧Bw W w'))
  (hsz:sg.size+D.size≤9223372036854775807) (hR:Hid (sg++D=R)) :
  Calls Tryz.prog 10 #[.float .f64 f] w fun r w'=>r=.returned (.string R)∧Bw w w':=by
 have q1:=kA.out w
 go_enter Tryz.func10,Tryz.ntmps10
 go_wp2_with (go_at_call 27;refine(kW _).mono ?_;rintro r w' ⟨rfl,hw⟩;replace hw:=hw.symm;subst hw)
 refine q1.mono ?_
 rintro r w1 ⟨s1,ao1,n1,cp1,e1,rfl,hd1,hb1⟩
 have he1:=kE.out w1 s1 ao1 n1 cp1 e1 hd1
 subst he1
 obtain⟨V,hV⟩:∃ V,V=w1.alloc (.cells #[.bool s1,.slice ao1 n1 cp1,.int .i64 x] 54):=⟨_,rfl⟩
 obtain⟨gA,hgA⟩:∃ gA,gA=w1.heap.size:=⟨_,rfl⟩
 have H1:Hid (NbQ V gA s1 ao1 n1 cp1 x tA∧Bw w V):=by
  have hbV:Bw w1 V:=by rw[hV];exact(Below.refl _ _).alloc (Nat.le_refl _) _
  exact⟨⟨by rw[hV,hgA];exact heap_alloc_new _ _,hd1.later hbV⟩,hb1.trans (hbV.mono hb1.size)⟩
 clear q1 hd1 hb1 kW kA kE
 go_upto_region 5 with fail
 rw[←hV,←hgA]
 clear hV hgA
 obtain⟨⟨c0,c1,c2⟩,-⟩:=box_cells29 H1.out.1.1
 have q1:=kD.out V _ H1.out.1.2
 go_wp2_with fail
 refine q1.mono ?_
 rintro r w3 ⟨rfl,hb3⟩
 have HB3:Hid (Bw w w3):=H1.out.2.trans (hb3.mono H1.out.2.size)
 clear q1 hb3 H1 c0 c1 c2
 go_wp2_with fail
 go_ret
 exact⟨by rw[←hR.out];rfl,HB3.out⟩
theorem d4Exact_b (f:Nat) (x:Int) (sg D R:ByteArray) (tA:Bool×Nat×Int) (w:World)
  (kW:∀ W,Calls Tryz.prog 27 #[.float .f64 f] W fun r w'=>r=.returned (.tuple #[.string sg,.bool false])∧w'=W)
  (kA:Hid (∀ W,Calls Tryz.prog 35 #[.float .f64 f] W fun r w'=>OutQ W tA r w'))
  (kE:Hid (∀ W s ao n cp e,DN W (.agg #[.bool s,.slice ao n cp,.int .i64 e]) tA→x=e))
  (n:Int) (T:ByteArray) (tT tF tS tN:Bool×Nat×Int) (hx:¬ 0≤x) (hn:IntKind.i64.wrap (-x)=n) (hn2:IntKind.i64.wrap (-n)=x)
  (kT:Hid (∀ W,Calls Tryz.prog 38 #[.int .i64 n] W fun r w'=>OutQ W tT r w'))
  (kC1:Hid (∀ W X,DN W X tT→Calls Tryz.prog 37 #[X,.int .i64 x] W fun r w'=>OutQ W tF r w'))
  (kC2:Hid (∀ W X,DN W X tA→Calls Tryz.prog 37 #[X,.int .i64 n] W fun r w'=>OutQ W tS r w'))
  (kM:Hid (∀ W X Y,DN W X tS→DN W Y tF→Calls Tryz.prog 39 #[X,Y] W fun r w'=>OutQ W tN r w'))
  (kD:Hid (∀ W X,DN W X tN→Calls Tryz.prog 36 #[X] W fun r w'=>r=.returned (.string D)∧Bw W w'))
  (kP:Hid (∀ W,Calls Tryz.prog 40 #[.string D,.int .i64 n] W fun r w'=>r=.returned (.string T)∧Bw W w'))
  (hsz:sg.size+T.size≤9223372036854775807) (hR:Hid (sg++T=R)) :
  Calls Tryz.prog 10 #[.float .f64 f] w fun r w'=>r=.returned (.string R)∧Bw w w':=by
 have q1:=kA.out w
 go_enter Tryz.func10,Tryz.ntmps10
 go_wp2_with (go_at_call 27;refine(kW _).mono ?_;rintro r w' ⟨rfl,hw⟩;replace hw:=hw.symm;subst hw)
 refine q1.mono ?_
 rintro r w1 ⟨s1,ao1,n1,cp1,e1,rfl,hd1,hb1⟩
 have he1:=kE.out w1 s1 ao1 n1 cp1 e1 hd1
 subst he1
 obtain⟨V,hV⟩:∃ V,V=w1.alloc (.cells #[.bool s1,.slice ao1 n1 cp1,.int .i64 x] 54):=⟨_,rfl⟩
 obtain⟨gA,hgA⟩:∃ gA,gA=w1.heap.size:=⟨_,rfl⟩
 have H1:Hid (NbQ V gA s1 ao1 n1 cp1 x tA∧Bw w V):=by
  have hbV:Bw w1 V:=by rw[hV];exact(Below.refl _ _).alloc (Nat.le_refl _) _
  exact⟨⟨by rw[hV,hgA];exact heap_alloc_new _ _,hd1.later hbV⟩,hb1.trans (hbV.mono hb1.size)⟩
 clear q1 hd1 hb1 kW kA kE
 go_upto_region 5 with fail
 rw[←hV,←hgA]
 clear hV hgA
 obtain⟨⟨c0,c1,c2⟩,-⟩:=box_cells29 H1.out.1.1
 have q1:=kT.out V
 go_wp2_with fail
 refine q1.mono ?_
 rintro r w2 ⟨s3,ao3,n3,cp3,e3,rfl,hd2,hb2⟩
 have H3:Hid (NbQ w2 gA s1 ao1 n1 cp1 x tA∧Bw w w2):=⟨H1.out.1.later hb2,H1.out.2.trans (hb2.mono H1.out.2.size)⟩
 have q2:=kC1.out w2 _ hd2
 clear q1 hb2 hd2 H1 c0 c1 c2
 go_wp2_with fail
 refine q2.mono ?_
 rintro r w3 ⟨s2,ao2,n2,cp2,e2,rfl,hd3,hb3⟩
 obtain⟨V2,hV2⟩:∃ V2,V2=w3.alloc (.cells #[.bool s2,.slice ao2 n2 cp2,.int .i64 e2] 54):=⟨_,rfl⟩
 obtain⟨gF,hgF⟩:∃ gF,gF=w3.heap.size:=⟨_,rfl⟩
 have H2:Hid (NbQ V2 gA s1 ao1 n1 cp1 x tA∧NbQ V2 gF s2 ao2 n2 cp2 e2 tF∧Bw w V2):=by
  have hbV:Bw w3 V2:=by rw[hV2];exact(Below.refl _ _).alloc (Nat.le_refl _) _
  have hb:=hb3.trans (hbV.mono hb3.size)
  exact⟨H3.out.1.later hb,⟨by rw[hV2,hgF];exact heap_alloc_new _ _,hd3.later hbV⟩,H3.out.2.trans (hb.mono H3.out.2.size)⟩
 clear q2 hd3 hb3 H3 hn hn2 hx
 go_upto_region 9 with fail
 rw[←hV2,←hgF]
 clear hV2 hgF
 refine x_region follows_mixed [0,1,2,3,4] [5] [6] [33,34,35,36,37] [8] [[],[],[0,1],[],[2,3]] [4] 54 #[.bool false,.slice none 0 0,.int .i64 0] V2 _ [isV (.agg #[.bool s1,.slice ao1 n1 cp1,.int .i64 x]),isV (.int .i64 n),isD (tS),isV (.agg #[.bool s2,.slice ao2 n2 cp2,.int .i64 e2]),isD (tN)] (by kernel_rfl) ⟨isV_stays _,isV_stays _,isD_stays _,isV_stays _,isD_stays _,trivial⟩ ⟨fun _ _ _ _ _ h=>h,fun _ _ _ _ _ h=>h,isD_rows8 _,fun _ _ _ _ _ h=>h,isD_rows8 _,trivial⟩ (by show ∀ s ∈ [33,34,35,36,37] ++ [8],s<44;decide) ?_ ?_ ?_ zero_num8 Tryz.info54 ?_ ?_
 ·intro k' hk U u h
  obtain rfl:k'=0:=Nat.lt_one_iff.1 hk
  obtain⟨s9,ao9,n9,cp9,e9,rfl⟩:=DN.shape (show DN U u _ from h)
  exact⟨_,rfl,rfl,one3 rfl rfl⟩
 ·intro j hj o ho act U hb hoth hdep
  have hj':j<5:=hj
  have t5':act.tmps[(5:Nat)]?=some (Value.pointer (some ⟨gA,0,none⟩)):=(hoth 5 (by decide)).trans rfl
  have t7':act.tmps[(7:Nat)]?=some (Value.pointer (some ⟨gF,0,none⟩)):=(hoth 7 (by decide)).trans rfl
  have t6':act.tmps[(6:Nat)]?=some (Value.int .i64 n):=(hoth 6 (by decide)).trans rfl
  have d5:=(box_cells29 (H2.out.1.later hb).1).1
  have d7:=(box_cells29 (H2.out.2.1.later hb).1).1
  rcases(by omega:j=0∨j=1∨j=2∨j=3∨j=4)with rfl|rfl|rfl|rfl|rfl
  ·obtain rfl:=Option.some.inj ho
   exact .inl ⟨rfl,owp_ldD rfl t5' d5.1 d5.2.1 d5.2.2 ⟨_,rfl,rfl,Below.refl _ _⟩⟩
  ·obtain rfl:=Option.some.inj ho
   exact .inl ⟨rfl,owp_move rfl t6' ⟨_,rfl,rfl,Below.refl _ _⟩⟩
  ·obtain rfl:=Option.some.inj ho
   have y0:act.tmps[(33:Nat)]?=_:=dV (hdep 0 (by simp[dL])) rfl
   have y1:act.tmps[(34:Nat)]?=_:=dV (hdep 1 (by simp[dL])) rfl
   refine .inl ⟨rfl,owp_call rfl (enters Tryz.func37 (by kernel_rfl) (by kernel_rfl)) (vs:=#[.agg #[.bool s1,.slice ao1 n1 cp1,.int .i64 x],.int .i64 n]) (by simp[eval_get y0,eval_get y1]) ?_⟩
   refine(kC2.out U _ (H2.out.1.later hb).2).mono ?_
   rintro r w' ⟨s9,ao9,n9,cp9,e9,rfl,hA9,hb'⟩
   exact⟨_,rfl,_,rfl,hA9,hb'⟩
  ·obtain rfl:=Option.some.inj ho
   exact .inl ⟨rfl,owp_ldD rfl t7' d7.1 d7.2.1 d7.2.2 ⟨_,rfl,rfl,Below.refl _ _⟩⟩
  ·obtain rfl:=Option.some.inj ho
   obtain⟨u2,y20,v2⟩:=hdep 2 (by simp[dL])
   have y2:act.tmps[(35:Nat)]?=_:=y20
   have y3:act.tmps[(36:Nat)]?=_:=dV (hdep 3 (by simp[dL])) rfl
   refine .inl ⟨rfl,owp_call rfl (enters Tryz.func39 (by kernel_rfl) (by kernel_rfl)) (vs:=#[u2,.agg #[.bool s2,.slice ao2 n2 cp2,.int .i64 e2]]) (by simp[eval_get y2,eval_get y3]) ?_⟩
   refine(kM.out U _ _ v2 (H2.out.2.1.later hb).2).mono ?_
   rintro r w' ⟨s9,ao9,n9,cp9,e9,rfl,hA9,hb'⟩
   exact⟨_,rfl,_,rfl,hA9,hb'⟩
 ·intro k' hk
  obtain rfl:k'=0:=Nat.lt_one_iff.1 hk
  exact⟨_,rfl,rfl⟩
 ·intro k' hk
  obtain rfl:k'=0:=Nat.lt_one_iff.1 hk
  exact⟨_,rfl,rfl⟩
 ·intro u g U hb9 hu hg hap
  obtain⟨g0l,cs0,q0,z0⟩:=hg 0 (by decide)
  have q9:DN U (u 4) _:=hu 4 (by show 4<5;decide)
  have q0':u 4=.agg cs0:=q0
  rw[q0'] at q9
  obtain⟨s9,ao9,n9,cp9,e9,h9⟩:=DN.shape q9
  obtain rfl:=Value.agg.inj h9
  obtain⟨g9,hg9⟩:∃ x,x=g 0:=⟨_,rfl⟩
  rw[←hg9] at z0 g0l
  clear hu hg hap q0 q0'
  simp only[putL,show List.range 5 = [0,1,2,3,4] from rfl,show List.range 1 = [0] from rfl,List.length_cons,List.length_nil,List.getD_cons_zero,List.getD_cons_succ,List.map_cons,List.map_nil,List.cons_append,List.nil_append,List.foldl_cons,List.foldl_nil,Nat.reduceLT,Nat.reduceMod,Nat.reduceDiv,Nat.reduceMul,Nat.reduceAdd,Nat.reduceEqDiff,reduceIte,Nat.one_ne_zero,Act.put,List.setIfInBounds_toArray,List.set_cons_zero,List.set_cons_succ]
  rw[←hg9]
  clear hg9 
  have H4:Hid (NbQ U g9 s9 ao9 n9 cp9 e9 tN∧Bw w U):=⟨⟨z0,q9⟩,H2.out.2.2.trans (hb9.mono H2.out.2.2.size)⟩
  clear hb9 z0 q9 H2 g0l h9
  obtain⟨⟨c0,c1,c2⟩,-⟩:=box_cells29 H4.out.1.1
  have q1:=kD.out U _ H4.out.1.2
  go_wp2_with fail
  refine q1.mono ?_
  rintro r w5 ⟨rfl,hb5⟩
  have HB5:Hid (Bw w w5):=H4.out.2.trans (hb5.mono H4.out.2.size)
  have q2:=kP.out w5
  clear q1 hb5 H4 c0 c1 c2
  go_wp2_with fail
  refine q2.mono ?_
  rintro r w6 ⟨rfl,hb6⟩
  have HB6:Hid (Bw w w6):=HB5.out.trans (hb6.mono HB5.out.size)
  clear q2 hb6 HB5
  go_wp2_with fail
  go_ret
  exact⟨by rw[←hR.out];rfl,HB6.out⟩
def exT (a:Nat):List UInt8:=if 9218868437227405312<mag a then [110,97,110] else if mag a=9218868437227405312 then sgL (neg a) [105,110,102] else sgL (neg a) (ptL (dcT (uN a (exP a) 2)) (exP a))
theorem DExactA {a:Nat} {w:World} (hT:Tab32 w) (hI:Ie.Tab w) (ha:a<18446744073709551616) :
  Calls Tryz.prog 9 #[.float .f64 a] w fun r w'=>r=.returned (.string ⟨(exT a).toArray⟩)∧Bw w w':=by
 unfold exT
 rcases(by omega:9218868437227405312<mag a∨mag a=9218868437227405312∨mag a<9218868437227405312)with hf|hf|hf
 ·rw[if_pos hf]
  refine DExact_1 a _ w ?_
  intro W g1 hW b1
  have kC:=fun V=>Ie.c9 a ha V
  rw[cls_nan hf] at kC
  refine(Dtold_nan a _ _ W kC).mono ?_
  rintro r w' ⟨rfl,rfl⟩
  exact⟨rfl,Below.refl _ _⟩
 ·rw[if_neg (by omega),if_pos hf]
  obtain⟨c1,c2⟩:=cls_inf hf
  refine DExact_1 a _ w ?_
  intro W g1 hW b1
  have kC:=fun V=>Ie.c9 a ha V
  rw[c1,c2] at kC
  refine(Dtold_inf a _ _ W kC).mono ?_
  rintro r w' ⟨rfl,rfl⟩
  exact⟨rfl,Below.refl _ _⟩
 ·rw[if_neg (by omega),if_neg (by omega)]
  exact DExact hT hI ha hf
theorem un_3 {A p:Nat} (h:A≠0):(un ((A:Nat):Int) p).2.2=(tz A:Int) - (p:Int):=by rw[un_partsB A p h]
theorem exP_fU {a:Nat} (h:fU a≠0):exP a=max 0 (1074 - (tz (fU a):Int)):=by
 have e:(un (sZ a) kP).2.2=(tz (fU a):Int) - (kP:Int):=by
  unfold sZ
  have h1:=un_sgn (P:=kP) (neg a) h
  rw[h1]
 unfold exP
 rw[e,kP_eq]
 congr 1
 omega
theorem exP_0 {a:Nat} (h:fU a=0):exP a=0:=by
 have e:sZ a=0:=by have:=sZ_abs a;omega
 unfold exP
 rw[e,un_zero]
 rfl
theorem ex_key {A k p:Nat} (h:A≠0) (hk:p≤tz A+k):2^p ∣ A*10^k:=by
 have h1:=(tz_spec _ _ (Nat.le_refl _) h).1
 have h2:(10:Nat)^k=2^k*5^k:=by rw[←Nat.mul_pow]
 have h3:A*10^k=2^(tz A+k)*(A / 2^tz A*5^k):=by
  have h4:A*10^k=2^tz A*(A / 2^tz A)*(2^k*5^k):=by rw[h1,h2]
  rw[h4,Nat.pow_add]
  ac_rfl
 rw[h3]
 exact Nat.dvd_trans (Nat.pow_dvd_pow 2 hk) (Nat.dvd_mul_right _ _)
theorem ex_whole {A k:Nat} {ng:Bool} (hd:kU ∣ A*10^k):rdN A (k:Int) ng 2=scF A k∧scF A k*kU=A*10^k:=by
 obtain⟨t1,t2⟩:=tn_p k
 have e:scE A k=true:=by
  unfold scE
  rw[t1,t2,Nat.one_mul]
  exact decide_eq_true (Nat.mod_eq_zero_of_dvd hd)
 refine⟨by unfold rdN;rw[if_pos e],?_⟩
 unfold scF
 rw[t1,t2,Nat.one_mul]
 exact Nat.div_mul_cancel hd
theorem un_wholeE {A N:Nat} (h:N*kU=A):un ((A:Nat):Int) 1074=un ((N:Nat):Int) 0:=by
 have h1:=un_shiftD (N:Int) 0 kP
 rw[kU_kP,←Int.natCast_mul,h,Nat.zero_add,kP_eq] at h1
 exact h1.symm
theorem pt_0 {d:List UInt8} (h:1≤d.length):ptL d 0=d:=by
 unfold ptL
 rw[if_pos (by decide),show nzL (1 - (d.length:Int)) = [] by unfold nzL;rw[show(1 - (d.length:Int)).toNat=0 by omega];rfl,show nzL (-0) = [] from rfl,List.append_nil,List.nil_append]
theorem d4ExactA {a:Nat} (w:World) (ha:a<18446744073709551616) :
  Calls Tryz.prog 10 #[.float .f64 a] w fun r w'=>r=.returned (.string ⟨(exT a).toArray⟩)∧Bw w w':=by
 unfold exT
 rcases(by omega:9218868437227405312<mag a∨mag a=9218868437227405312∨mag a<9218868437227405312)with hf|hf|hf
 ·rw[if_pos hf]
  refine(d4Exact_w a _ w (fun W=>d4word_nan a (neg a) W (fun W=>Ie.c33 a ha W) (word_on ha hf))).mono ?_
  rintro r w' ⟨rfl,rfl⟩
  exact⟨rfl,Below.refl _ _⟩
 ·rw[if_neg (by omega),if_pos hf]
  obtain⟨o1,o2⟩:=word_o1 ha hf
  refine(d4Exact_w a _ w (fun W=>d4word_inf a (neg a) W (fun W=>Ie.c33 a ha W) o1 o2)).mono ?_
  rintro r w' ⟨rfl,rfl⟩
  exact⟨rfl,Below.refl _ _⟩
 ·rw[if_neg (by omega),if_neg (by omega)]
  have hb:=exP_b a
  have he:0≤exP a∧exP a≤1100:=by unfold exP;omega
  obtain⟨k,hk⟩:∃ k:Nat,exP a=(k:Int):=⟨(exP a).toNat,by omega⟩
  have hk2:k≤1100:=by omega
  have hd:kU ∣ fU a*10^k:=by
   by_cases h0:fU a=0
   ·rw[h0,Nat.zero_mul];exact Nat.dvd_zero _
   ·have h1:=exP_fU h0
    rw[←kU_kP]
    exact ex_key h0 (by rw[kP_eq];omega)
  obtain⟨N1,N2⟩:=ex_whole (ng:=neg a) hd
  have e:=uN_rd (a:=a) (k:=exP a) (m:=2) (by omega)
  have hN:=uN_lt (a:=a) (m:=2) (pl:=exP a) (by omega) (by omega)
  rw[dcT_eq,←pt_dcD _ he.1]
  rw[e] at hN ⊢
  rw[hk] at hN ⊢
  rw[N1] at hN ⊢
  obtain⟨l1,l2⟩:=dcD_len hN
  have l3:=Nat.le_trans l1 dk5
  have l4:=pt_len (d:=dcD (scF (fU a) k)) (p:=(k:Int))
  have hbs:(if neg a=true then(⟨#[45]⟩:ByteArray) else⟨#[]⟩).size≤1:=by split;exact Nat.le_refl 1;exact Nat.zero_le 1
  have kE:Hid (∀ (W:World) (s:Bool) (ao:Option Addr) (n cp:Nat) (e:Int),DN W (.agg #[.bool s,.slice ao n cp,.int .i64 e]) (un ((fU a:Nat):Int) 1074)→(un ((fU a:Nat):Int) 1074).2.2=e):=by
   rintro W s ao n cp e ⟨ao',cap,h,-⟩
   have h1:=Value.agg.inj h
   simp at h1
   exact h1.2.2.symm
  have hx3:(un ((fU a:Nat):Int) 1074).2.2=0∧fU a=0∨fU a≠0∧(un ((fU a:Nat):Int) 1074).2.2=(tz (fU a):Int) - 1074:=by
   by_cases h0:fU a=0
   ·left;rw[h0];exact⟨by rw[show((0:Nat):Int)=0 from rfl,un_zero],rfl⟩
   ·right;exact⟨h0,un_3 h0⟩
  have hkx:(k:Int)=max 0 (-(un ((fU a:Nat):Int) 1074).2.2):=by
   rw[←hk]
   rcases hx3 with ⟨h1,h2⟩|⟨h1,h2⟩
   ·rw[exP_0 h2,h1];rfl
   ·rw[exP_fU h1,h2,Int.neg_sub]
  have hlo : -1074≤(un ((fU a:Nat):Int) 1074).2.2:=by
   rcases hx3 with ⟨h1,h2⟩|⟨h1,h2⟩ <;> omega
  clear hx3
  generalize hxx:(un ((fU a:Nat):Int) 1074).2.2=x at *
  have hk0:0≤x→k=0:=by clear N1 N2 hd hN l1 l2 l3 l4 e kE hxx hb;omega
  have hkn:¬ 0≤x→x = -(k:Int):=by clear N1 N2 hd hN l1 l2 l3 l4 e kE hxx hb;omega
  have hk7:¬ 0≤x→k≤1074:=by clear N1 N2 hd hN l1 l2 l3 l4 e kE hxx hb;omega
  have hbq:bU≤90000:=by rw[bU_eq];omega
  by_cases hx:0≤x
  ·obtain rfl:=hk0 hx
   rw[Nat.pow_zero,Nat.mul_one] at N2
   have eP:ptL (dcD (scF (fU a) ((0:Nat):Int))) ((0:Nat):Int)=dcD (scF (fU a) ((0:Nat):Int)):=by
    exact pt_0 l2
   rw[eP] at l4 ⊢
   refine d4Exact_a a x _ ⟨(dcD (scF (fU a) ((0:Nat):Int))).toArray⟩ _ _ w (fun W=>d4word ha hf W) (fun W=>d4abs ha W) kE hx ?_ ?_ (sg_two _ _)
   ·intro W X hX
    rw[un_wholeE N2] at hX
    exact dDecimal hX hN dk6
   ·have e9:=bsz (dcD (scF (fU a) ((0:Nat):Int)))
    omega
  ·have hkn:=hkn hx
   have hk7:=hk7 hx
   clear hkx hk0
   refine d4Exact_b a x _ ⟨(dcD (scF (fU a) (k:Int))).toArray⟩ _ _ w (fun W=>d4word ha hf W) (fun W=>d4abs ha W) kE (k:Int) ⟨(ptL (dcD (scF (fU a) (k:Int))) (k:Int)).toArray⟩ (un ((10^k:Nat):Int) 0) (un ((10^k:Nat):Int) k) (un ((fU a:Nat):Int) (1074 - k)) (un ((fU a*10^k:Nat):Int) 1074) hx (by rw[hkn,IntKind.wrap_i64];omega) (by rw[hkn,IntKind.wrap_i64];omega) (fun W=>(d2ten k W (by omega)).mono fun r w' h=>outQ h) ?_ ?_ ?_ ?_ (fun W=>d4pointed _ (k:Int) W (by omega) l2 (by omega)) ?_ (sg_two _ _)
   ·intro W X hX
    have h:=gscaled (k:=x) (un_gn (nat_lt (ten_ltN k)) (by omega) (by omega)) hX (by omega)
    rw[gK_un (q:=k) (by omega)] at h
    exact h.mono fun r w' h=>outQ h
   ·intro W X hX
    have h:=gscaled (k:=(k:Int)) (un_gn (nat_lt (fU_lt a)) hbq (by omega)) hX (by omega)
    rw[gK_un (q:=1074 - k) (by omega)] at h
    exact h.mono fun r w' h=>outQ h
   ·intro W X Y hX hY
    have h:=gtimes (un_gn (nat_lt (fU_lt a)) hbq (by omega)) (un_gn (nat_lt (ten_ltN k)) (by omega) (by omega)) hX hY
    rw[gM_un,←Int.natCast_mul,Nat.sub_add_cancel hk7] at h
    exact h.mono fun r w' h=>outQ h
   ·intro W X hX
    rw[un_wholeE N2] at hX
    exact dDecimal hX hN dk6
   ·have e9:=bsz (ptL (dcD (scF (fU a) (k:Int))) (k:Int))
    omega
theorem shD_pos {a:Nat} (h0:0<a) (h:a<9218868437227405312):1≤(shD a).length∧∀ x,(shD a).getLast?=some x→x≠48:=by
 have hJ:=shJ_le a
 have hw : -400≤shX a∧shX a≤400:=(woX_spec (fU_lt a) (fU_ne h0 h)).2.2
 have hk : -2000≤(shJ a:Int) - shX a∧(shJ a:Int) - shX a≤2000:=by omega
 obtain⟨b1,b2⟩:=bs_b (lo_b hJ hk h0 h).2.1 (loD_ne hJ h0 h)
 obtain⟨z,z1,z2,z3,z4,z5⟩:=sh_text b2 h0 h
 exact⟨z2,z5⟩
def shTx (a:Nat):List UInt8:=if 9218868437227405312<mag a then [110,97,110] else if mag a=9218868437227405312 then sgL (neg a) [105,110,102] else if mag a=0 then sgL (neg a) [48] else sgL (neg a) (shS (mag a))
theorem shE_b {a:Nat} (h0:0<a) (h:a<9218868437227405312):(shD a).length≤36 ∧ -1000≤shE a∧shE a≤1000:=by
 have ok:=shOk h0 h
 have hx:=ok.x
 have hl:=shF_len ok
 have hl2:(shD a).length≤36:=Nat.le_trans (trimR_len _ _) hl
 have hE : -1000≤shE a∧shE a≤1000:=by unfold shE;omega
 exact⟨hl2,hE⟩
theorem DShortestA {a:Nat} {w:World} (hT:Tab32 w) (hI:Ie.Tab w) (h10:Tab10 w) (ha:a<18446744073709551616) :
  Calls Tryz.prog 7 #[.float .f64 a] w fun r w'=>r=.returned (.string ⟨(shTx a).toArray⟩)∧Bw w w':=by
 unfold shTx
 rcases(by omega:9218868437227405312<mag a∨mag a=9218868437227405312∨mag a<9218868437227405312)with hf|hf|hf
 ·rw[if_pos hf]
  refine DShortest_1 a _ w ?_
  intro W g1 hW b1
  have kC:=fun V=>Ie.c9 a ha V
  rw[cls_nan hf] at kC
  refine(Dtold_nan a _ _ W kC).mono ?_
  rintro r w' ⟨rfl,rfl⟩
  exact⟨rfl,Below.refl _ _⟩
 ·rw[if_neg (by omega),if_pos hf]
  obtain⟨c1,c2⟩:=cls_inf hf
  refine DShortest_1 a _ w ?_
  intro W g1 hW b1
  have kC:=fun V=>Ie.c9 a ha V
  rw[c1,c2] at kC
  refine(Dtold_inf a _ _ W kC).mono ?_
  rintro r w' ⟨rfl,rfl⟩
  exact⟨rfl,Below.refl _ _⟩
 ·rw[if_neg (by omega),if_neg (by omega)]
  obtain⟨c1,c2,c3⟩:=cls_fin hf
  have ho:=dg_o0 ha (Nat.le_of_lt hf)
  by_cases hz:mag a=0
  ·rw[if_pos hz]
   rw[decide_eq_true hz] at ho
   refine DShortest_1 a _ w ?_
   intro W g1 hW b1
   have kC:=fun V=>Ie.c9 a ha V
   rw[c3] at kC
   refine Dtold_fin a _ _ (neg a) _ _ W c1 c2 (by decide) kC (enters Tryz.func23 (by kernel_rfl) (by kernel_rfl)) ?_
   refine(DShort1_0 a g1 W b1 ho).mono ?_
   rintro r w' ⟨rfl,rfl⟩
   exact⟨rfl,Below.refl _ _⟩
  ·rw[if_neg hz]
   rw[decide_eq_false hz] at ho
   have hm0:0<mag a:=by omega
   obtain⟨hl2,hE⟩:=shE_b hm0 hf
   obtain⟨hd,-⟩:=shD_pos hm0 hf
   have ok:=shOk hm0 hf
   have hlen:(shS (mag a)).length≤20000:=shS_len hl2 hE
   refine DShortest_1 a _ w ?_
   intro W g1 hW b1
   have kC:=fun V=>Ie.c9 a ha V
   rw[c3] at kC
   refine Dtold_fin a _ _ (neg a) _ _ W c1 c2 hlen kC (enters Tryz.func23 (by kernel_rfl) (by kernel_rfl)) ?_
   refine DShort1_1 a (mag a) (shE (mag a)) (shD (mag a)) (shS (mag a)) g1 W b1 ho (by omega) (by omega) (fun V=>c159 a ha V) ?_ ?_ ?_
   ·exact Dshortest (hT.later hW) (Tab.later hI hW) ok
   ·intro hc V hV
    unfold shS
    rw[if_pos hc]
    exact Dexpon_1 (shD (mag a)) (Lib.itoa (shE (mag a))) (shE (mag a)) V hd (by omega) (by have:=Lib.itoa_length_le (shE (mag a)) (by omega) (by omega);show(Lib.itoa (shE (mag a))).length≤100;omega) (fun U hU=>Ditoa (by omega) (((h10.later hW).later hV).later hU))
   ·intro hc V hV
    unfold shS
    rw[if_neg hc]
    exact Dpointed (by omega) (by omega) (knz V)
def hxTx (a:Nat):List UInt8:=if 9218868437227405312<mag a then [110,97,110] else if mag a=9218868437227405312 then sgL (neg a) [105,110,102] else sgL (neg a) (hxT a)
theorem DHexA {a:Nat} {w:World} (hI:Ie.Tab w) (h10:Tab10 w) (ha:a<18446744073709551616) :
  Calls Tryz.prog 11 #[.float .f64 a] w fun r w'=>r=.returned (.string ⟨(hxTx a).toArray⟩)∧Bw w w':=by
 unfold hxTx
 rcases(by omega:9218868437227405312<mag a∨mag a=9218868437227405312∨mag a<9218868437227405312)with hf|hf|hf
 ·rw[if_pos hf]
  refine DHex_1 a _ w ?_
  intro W g1 hW b1
  have kC:=fun V=>Ie.c9 a ha V
  rw[cls_nan hf] at kC
  refine(Dtold_nan a _ _ W kC).mono ?_
  rintro r w' ⟨rfl,rfl⟩
  exact⟨rfl,Below.refl _ _⟩
 ·rw[if_neg (by omega),if_pos hf]
  obtain⟨c1,c2⟩:=cls_inf hf
  refine DHex_1 a _ w ?_
  intro W g1 hW b1
  have kC:=fun V=>Ie.c9 a ha V
  rw[c1,c2] at kC
  refine(Dtold_inf a _ _ W kC).mono ?_
  rintro r w' ⟨rfl,rfl⟩
  exact⟨rfl,Below.refl _ _⟩
 ·rw[if_neg (by omega),if_neg (by omega)]
  exact DHex hI h10 ha hf
end Go.Proofs.YtfkaogdmlcdceaaGreatDoor
