/- Own work: contracts of the program's functions, part 17: DCY DD8 DD9 DDA DDB DD3 DDC DDD DDE DDF DDG DDH DDI DRA DRB DRC DRD DRE DRX DRF DRG DSB DSC DSD. -/
import Derived.Test.YthhaamilfioddaaGreatDoorA16
import Derived.Test.YthhaamilfioddaaGreatDoorA10
import Derived.Test.YthhaamilfioddaaGreatDoorA11
import Derived.Test.YthhaamilfioddaaGreatDoorA12
import Derived.Test.YthhaamilfioddaaGreatDoorA9

set_option maxHeartbeats 16000000
set_option maxRecDepth 200000
set_option linter.unusedVariables false
set_option linter.unusedSimpArgs false
namespace Go.Proofs.YthhaamilfioddaaGreatDoor
open Go.RowKit Go.Fl64
def fwU (j:Nat):Nat:=10^(16 - j)
def fwL (t j:Nat):Nat:=t / 2 / fwU j*fwU j
theorem fwU_pos (j:Nat):0<fwU j:=Nat.pow_pos (by decide)
theorem fwU_le (j:Nat):fwU j≤10000000000000000:=Nat.le_trans (Nat.pow_le_pow_right (by decide) (Nat.sub_le 16 j)) (by decide)
theorem fwU_next {j:Nat} (h:1<fwU j):fwU j / 10=fwU (j+1)∧j<16:=by
 have hj:j<16:=by
  rcases Nat.lt_or_ge j 16 with h1|h1
  ·exact h1
  ·have:fwU j=1:=by unfold fwU;rw[Nat.sub_eq_zero_of_le h1]
   omega
 refine⟨?_,hj⟩
 unfold fwU
 rw[show 16 - j=(16 - (j+1))+1 by omega,Nat.pow_succ,Nat.mul_div_cancel _ (by decide)]
theorem fwL_le (t j:Nat):fwL t j≤t / 2:=Nat.div_mul_le_self _ _
theorem tdivN (a b:Nat):Int.tdiv (a:Int) (b:Int)=((a / b:Nat):Int):=by simp
theorem Dfewest_1 (f:Nat) (s1:Bool) (ao1:Option Addr) (n1 cp1:Nat) (e1:Int) (s2:Bool) (ao2:Option Addr) (n2 cp2:Nat) (e2:Int) (s3:Bool) (ao3:Option Addr) (n3 cp3:Nat) (e3:Int) (t1 t2 ta td tn tp:Bool×Nat×Int) (is ab:Bool) (LS MS TW J F:Nat) (w:World) (h1:PN w (.agg #[.bool s1,.slice ao1 n1 cp1,.int .i64 e1]) t1) (h2:PN w (.agg #[.bool s2,.slice ao2 n2 cp2,.int .i64 e2]) t2) (h3:PN w (.agg #[.bool s3,.slice ao3 n3 cp3,.int .i64 e3]) ta) (hLS:LS<4611686018427387904) (hMS:MS<4611686018427387904) (hTW:TW<4611686018427387904)
  (hJ1:Hid (∀ j,j<J→1<fwU j∧fwL TW j<LS∧MS<fwL TW j+fwU j)) (hJ2:Hid (¬ (1<fwU J∧fwL TW J<LS∧MS<fwL TW J+fwU J)))
  (hab:Hid (ab=(decide (fwU J<TW - 2*fwL TW J)||(decide (TW - 2*fwL TW J=fwU J)&&(!is||decide (fwL TW J / fwU J % 2=1))))))
  (hF:Hid (F=if fwL TW J<LS∨(ab=true∧fwL TW J+fwU J≤MS)then fwL TW J+fwU J else fwL TW J))
  (k1:Hid (∀ W,Bw w W→PN W (.agg #[.bool s1,.slice ao1 n1 cp1,.int .i64 e1]) t1→PN W (.agg #[.bool s2,.slice ao2 n2 cp2,.int .i64 e2]) t2→Calls Tryz.prog 130 #[.float .f64 f,.agg #[.bool s1,.slice ao1 n1 cp1,.int .i64 e1,.bool s2,.slice ao2 n2 cp2,.int .i64 e2]] W fun r w'=>r=.returned (.tuple #[.int .u64 (LS:Nat),.int .u64 (MS:Nat)])∧Bw W w'))
  (k2:Hid (∀ W X,Bw w W→PN W X ta→Calls Tryz.prog 107 #[X,.int .i64 1] W fun r w'=>OutA W td r w'))
  (k3:Hid (∀ W X,Bw w W→PN W (.agg #[.bool s1,.slice ao1 n1 cp1,.int .i64 e1]) t1→PN W (.agg #[.bool s2,.slice ao2 n2 cp2,.int .i64 e2]) t2→PN W X td→Calls Tryz.prog 58 #[.agg #[.bool s1,.slice ao1 n1 cp1,.int .i64 e1,.bool s2,.slice ao2 n2 cp2,.int .i64 e2],X] W fun r w'=>OutFl W tn is r w'))
  (k4:Hid (∀ W X,Bw w W→PN W X tn→Calls Tryz.prog 53 #[X] W fun r w'=>r=.returned (.int .u64 (TW:Nat))∧Bw W w'))
  (k5:Hid (∀ W,Bw w W→Calls Tryz.prog 49 #[.int .i64 10,.int .i64 16] W fun r w'=>OutA W tp r w'))
  (k6:Hid (∀ W X,Bw w W→PN W X tp→Calls Tryz.prog 53 #[X] W fun r w'=>r=.returned (.int .u64 (fwU 0:Nat))∧Bw W w')) :
  Calls Tryz.prog 83 #[.float .f64 f,.agg #[.bool s3,.slice ao3 n3 cp3,.int .i64 e3],.agg #[.bool s1,.slice ao1 n1 cp1,.int .i64 e1,.bool s2,.slice ao2 n2 cp2,.int .i64 e2]] w fun r w'=>r=.returned (.int .u64 (F:Nat))∧Bw w w':=by
 obtain⟨W,hW⟩:∃ W,W=(w.alloc (.cells #[.bool s3,.slice ao3 n3 cp3,.int .i64 e3] 49)).alloc (.cells #[.bool s1,.slice ao1 n1 cp1,.int .i64 e1,.bool s2,.slice ao2 n2 cp2,.int .i64 e2] 84):=⟨_,rfl⟩
 obtain⟨z1,z2,z3,z4⟩:=two_new _ _ hW
 have H0:Hid (W.heap[w.heap.size+1]?=some (.cells #[.bool s1,.slice ao1 n1 cp1,.int .i64 e1,.bool s2,.slice ao2 n2 cp2,.int .i64 e2] 84 (0,0))∧PN W (.agg #[.bool s1,.slice ao1 n1 cp1,.int .i64 e1]) t1∧PN W (.agg #[.bool s2,.slice ao2 n2 cp2,.int .i64 e2]) t2∧Bw w W∧PBx W w.heap.size s3 ao3 n3 cp3 e3 ta):=⟨z2,h1.later z4,h2.later z4,z4,⟨z1,h3.later z4⟩⟩
 have kk:=k1.out W z4 (h1.later z4) (h2.later z4)
 obtain⟨c0,c1,c2,c3,c4,c5⟩:=(cells6F z2).1
 clear k1 h1 h2 h3 z1 z2 z3 z4
 go_enter Tryz.func83,Tryz.ntmps83
 go_upto_region 1 with fail
 rw[←hW]
 clear hW
 go_wp2_with fail
 refine kk.mono ?_
 rintro r w1 ⟨rfl,hb1⟩
 have H1:Hid (w1.heap[w.heap.size+1]?=some (.cells #[.bool s1,.slice ao1 n1 cp1,.int .i64 e1,.bool s2,.slice ao2 n2 cp2,.int .i64 e2] 84 (0,0))∧PN w1 (.agg #[.bool s1,.slice ao1 n1 cp1,.int .i64 e1]) t1∧PN w1 (.agg #[.bool s2,.slice ao2 n2 cp2,.int .i64 e2]) t2∧Bw w w1∧PBx w1 w.heap.size s3 ao3 n3 cp3 e3 ta):=⟨box_later H0.out.1 hb1 (lt_of_box H0.out.1),H0.out.2.1.later hb1,H0.out.2.2.1.later hb1,H0.out.2.2.2.1.trans (hb1.mono H0.out.2.2.2.1.size),H0.out.2.2.2.2.later hb1⟩
 clear kk hb1 H0 c0 c1 c2 c3 c4 c5
 go_upto_region 2 with fail
 obtain⟨mS,p1,p2,hBW,m1⟩:=H1.out
 refine x_region follows_mixed [0,1,2,3,4,5,6,9] [7] [8] [23,24,25,26,22,27,28,10] [9] [[],[],[1],[0,2],[3],[4],[4],[6]] [5] 49 #[.bool false,.slice none 0 0,.int .i64 0] w1 _ [isV (.agg #[.bool s1,.slice ao1 n1 cp1,.int .i64 e1,.bool s2,.slice ao2 n2 cp2,.int .i64 e2]),isV (.agg #[.bool s3,.slice ao3 n3 cp3,.int .i64 e3]),isP (td),isW2 tn is,isW2 tn is,isP (tn),isV (.bool is),isV (.bool is)] (by kernel_rfl) ⟨isV_stays _,isV_stays _,isP_stays _,isW2_stays _ _,isW2_stays _ _,isP_stays _,isV_stays _,isV_stays _,trivial⟩ ⟨fun _ _ _ _ _ h=>h,fun _ _ _ _ _ h=>h,isP_rows8 _,isW2_rows _ _,isW2_rows _ _,isP_rows8 _,fun _ _ _ _ _ h=>h,fun _ _ _ _ _ h=>h,trivial⟩ (by show ∀ s ∈ [23,24,25,26,22,27,28,10] ++ [9],s<101;decide) ?_ ?_ ?_ zeroN8 Tryz.info49 ?_ ?_
 ·intro k' hk U u h
  obtain rfl:k'=0:=Nat.lt_one_iff.1 hk
  obtain⟨ao,cap,rfl,-⟩:=(show PN U u (tn)from h)
  exact⟨_,rfl,rfl,one3 rfl rfl⟩
 ·intro j hj o ho act U hb hoth hdep
  have hj':j<8:=hj
  have hbU:Bw w U:=hBW.trans (hb.mono hBW.size)
  have t4':act.tmps[(4:Nat)]?=some (Value.pointer (some ⟨w.heap.size,0,none⟩)):=(hoth 4 (by decide)).trans rfl
  have t5':act.tmps[(5:Nat)]?=some (Value.pointer (some ⟨w.heap.size+1,0,none⟩)):=(hoth 5 (by decide)).trans rfl
  have d4:=(cells3N (box_later m1.1 hb (lt_of_box m1.1))).1
  have d5:=(cells6F (box_later mS hb (lt_of_box mS))).1
  rcases(by omega:j=0∨j=1∨j=2∨j=3∨j=4∨j=5∨j=6∨j=7)with rfl|rfl|rfl|rfl|rfl|rfl|rfl|rfl
  ·obtain rfl:=Option.some.inj ho
   exact .inl ⟨rfl,owp_ldS rfl t5' (by simp[go_sem,d5.1,d5.2.1,d5.2.2.1,d5.2.2.2.1,d5.2.2.2.2.1,d5.2.2.2.2.2]) ⟨_,rfl,rfl,Below.refl _ _⟩⟩
  ·obtain rfl:=Option.some.inj ho
   exact .inl ⟨rfl,owp_ldP (f:=0) rfl t4' d4.1 d4.2.1 d4.2.2 ⟨_,rfl,rfl,Below.refl _ _⟩⟩
  ·obtain rfl:=Option.some.inj ho
   have y1:act.tmps[(24:Nat)]?=_:=dV (hdep 1 (by simp[dL])) rfl
   refine .inl ⟨rfl,owp_call rfl (enters Tryz.func107 (by kernel_rfl) (by kernel_rfl)) (map2k y1) ?_⟩
   refine(k2.out U _ hbU (m1.2.later hb)).mono ?_
   rintro r w' ⟨_,_,_,_,_,rfl,hA,hb'⟩
   exact⟨_,rfl,_,rfl,hA,hb'⟩
  ·obtain rfl:=Option.some.inj ho
   have y0:act.tmps[(23:Nat)]?=_:=dV (hdep 0 (by simp[dL])) rfl
   obtain⟨u2,y2a,v2⟩:=hdep 2 (by simp[dL])
   have y2:act.tmps[(25:Nat)]?=_:=y2a
   refine .inl ⟨rfl,owp_call rfl (enters Tryz.func58 (by kernel_rfl) (by kernel_rfl)) (map2 y0 y2) ?_⟩
   refine(k3.out U _ hbU (p1.later hb) (p2.later hb) v2).mono ?_
   rintro r w' ⟨_,_,_,_,_,rfl,hA,hb'⟩
   exact⟨_,rfl,_,rfl,⟨_,rfl,hA⟩,hb'⟩
  ·obtain rfl:=Option.some.inj ho
   obtain⟨u3,y3a,v3⟩:=hdep 3 (by simp[dL])
   have y3:act.tmps[(26:Nat)]?=_:=y3a
   exact .inl ⟨rfl,owp_move rfl y3 ⟨_,rfl,v3,Below.refl _ _⟩⟩
  ·obtain rfl:=Option.some.inj ho
   obtain⟨u4,y4a,A,rfl,vA⟩:=hdep 4 (by simp[dL])
   have y4:act.tmps[(22:Nat)]?=_:=y4a
   exact .inl ⟨rfl,owp_extS rfl y4 rfl ⟨_,rfl,vA,Below.refl _ _⟩⟩
  ·obtain rfl:=Option.some.inj ho
   obtain⟨u4,y4a,A,rfl,vA⟩:=hdep 4 (by simp[dL])
   have y4:act.tmps[(22:Nat)]?=_:=y4a
   exact .inl ⟨rfl,owp_extS rfl y4 rfl ⟨_,rfl,rfl,Below.refl _ _⟩⟩
  ·obtain rfl:=Option.some.inj ho
   have y6:act.tmps[(28:Nat)]?=_:=dV (hdep 6 (by simp[dL])) rfl
   exact .inl ⟨rfl,owp_assign rfl y6 ⟨_,rfl,rfl,Below.refl _ _⟩⟩
 ·intro k' hk
  obtain rfl:k'=0:=Nat.lt_one_iff.1 hk
  exact⟨_,rfl,rfl⟩
 ·intro k' hk
  obtain rfl:k'=0:=Nat.lt_one_iff.1 hk
  exact⟨_,rfl,rfl⟩
 ·intro u g W3 hb3 hu hg hap
  obtain⟨g0,cs0,q0,z0⟩:=hg 0 (by decide)
  have q7:PN W3 (u 5) (tn):=hu 5 (by decide)
  have q0':u 5=.agg cs0:=q0
  rw[q0'] at q7
  obtain⟨s5,ao5,n5,cp5,e5,h5⟩:=q7.shape1
  obtain rfl:=Value.agg.inj h5
  obtain⟨gqN,hgS⟩:∃ x,x=g 0:=⟨_,rfl⟩
  rw[←hgS] at z0 g0
  have u7:u 7=.bool is:=hu 7 (by decide)
  have H3:Hid (Bw w W3∧PBx W3 gqN s5 ao5 n5 cp5 e5 tn):=⟨hBW.trans (hb3.mono hBW.size),⟨z0,q7⟩⟩
  clear hu hg hap hb3 m1 mS p1 p2 hBW H1 q0 q0' z0 g0 q7 h5 k2 k3
  simp only[putL,show List.range 8 = [0,1,2,3,4,5,6,7] from rfl,show List.range 1 = [0] from rfl,List.length_cons,List.length_nil,List.getD_cons_zero,List.getD_cons_succ,List.map_cons,List.map_nil,List.cons_append,List.nil_append,List.foldl_cons,List.foldl_nil,Nat.reduceLT,Nat.reduceMod,Nat.reduceDiv,Nat.reduceMul,Nat.reduceAdd,Nat.reduceEqDiff,reduceIte,Nat.one_ne_zero,Act.put,List.setIfInBounds_toArray,List.set_cons_zero,List.set_cons_succ]
  rw[←hgS]
  clear hgS
  rw[u7]
  clear u7
  obtain⟨⟨d0,d1,d2⟩,-⟩:=box_cells H3.out.2.1
  have kk:=k4.out W3 _ H3.out.1 H3.out.2.2
  clear k4
  go_wp2_with fail
  refine kk.mono ?_
  rintro r w4 ⟨rfl,hb4⟩
  have H4:Hid (Bw w w4):=H3.out.1.trans (hb4.mono H3.out.1.size)
  have kk2:=k5.out w4 H4.out
  clear kk d0 d1 d2 hb4 H3 k5
  go_wp2_with fail
  refine kk2.mono ?_
  rintro r w5 ⟨s6,ao6,n6,cp6,e6,rfl,hA,hb5⟩
  have H5:Hid (Bw w w5):=H4.out.trans (hb5.mono H4.out.size)
  have kk3:=k6.out w5 _ H5.out hA
  clear kk2 hb5 H4 k6 hA
  go_wp2_with fail
  refine kk3.mono ?_
  rintro r w6 ⟨rfl,hb6⟩
  have H6:Hid (Bw w w6):=H5.out.trans (hb6.mono H5.out.size)
  clear kk3 hb6 H5
  go_upto_region 5 with fail
  obtain⟨U,hU⟩:∃ U,U=fwU 0:=⟨_,rfl⟩
  have HU:Hid (U=fwU 0∧0<U∧U≤10000000000000000):=⟨hU,by rw[hU];exact fwU_pos 0,by rw[hU];exact fwU_le 0⟩
  rw[←hU]
  clear hU
  have hU0:0<U:=HU.out.2.1
  have hUn:((U:Int)==0)=false:=by rw[beq_eq_false_iff_ne];omega
  obtain⟨T2,hT2⟩:∃ T2,T2=TW / 2:=⟨_,rfl⟩
  have HT2:Hid (T2=TW / 2):=hT2
  obtain⟨q,hq⟩:∃ q,q=T2 / U:=⟨_,rfl⟩
  obtain⟨l0,hl⟩:∃ l0,l0=q*U:=⟨_,rfl⟩
  have Hl0:Hid (l0=fwL TW 0):=(by rw[hl,hq,hT2,HU.out.1];rfl:l0=fwL TW 0)
  have b1:l0≤T2:=by rw[hl,hq];exact Nat.div_mul_le_self _ _
  have b2:q≤T2:=by rw[hq];exact Nat.div_le_self _ _
  have b3:T2<4611686018427387904:=by omega
  have e1:Int.tdiv (TW:Int) 2=(T2:Int):=by rw[hT2];exact tdivN _ _
  have e2:Int.tdiv (T2:Int) (U:Int)=(q:Int):=by rw[hq];exact tdivN _ _
  have e3:(q:Int)*(U:Int)=(l0:Int):=by rw[hl];exact(Int.natCast_mul _ _).symm
  have w1:IntKind.u64.wrap (T2:Int)=(T2:Int):=by rw[IntKind.wrap_u64];omega
  have w2:IntKind.u64.wrap (q:Int)=(q:Int):=by rw[IntKind.wrap_u64];omega
  have w3:IntKind.u64.wrap (l0:Int)=(l0:Int):=by rw[IntKind.wrap_u64];omega
  clear hT2 hq hl
  go_wp2
  clear e1 e2 e3 w1 w2 w3 b1 b2 hU0 hUn
  go_loopg [12,13] J (fun m u l wr=>∃ j:Nat,j+m=J∧u=.int .u64 (fwU j:Nat)∧l=.int .u64 (fwL TW j:Nat)∧wr=w6)
  case atStart=>exact⟨0,by omega,by rw[HU.out.1],by rw[Hl0.out],rfl⟩
  case round =>
   obtain⟨j,hjm,rfl,rfl,hwr⟩:=hrel
   replace hwr:=hwr.symm
   subst hwr
   have HJM:Hid (j+gk=J):=hjm
   clear Hl0 HU hjm
   obtain⟨Uj,hUj⟩:∃ Uj,Uj=fwU j:=⟨_,rfl⟩
   obtain⟨Lj,hLj⟩:∃ Lj,Lj=fwL TW j:=⟨_,rfl⟩
   have HUL:Hid (Uj=fwU j∧Lj=fwL TW j∧Lj=T2 / Uj*Uj):=⟨hUj,hLj,by rw[hLj,hUj,HT2.out];rfl⟩
   have b0:0<Uj:=by rw[hUj];exact fwU_pos j
   have b1:Uj≤10000000000000000:=by rw[hUj];exact fwU_le j
   have b2:Lj≤T2:=by rw[HUL.out.2.2];exact Nat.div_mul_le_self _ _
   have b4:T2≤TW:=by rw[HT2.out];exact Nat.div_le_self _ _
   rw[←hUj,←hLj]
   clear hUj hLj
   have w0:IntKind.u64.wrap ((Lj:Int)+(Uj:Int))=(Lj:Int)+(Uj:Int):=by rw[IntKind.wrap_u64];omega
   by_cases hlt:j<J
   ·obtain⟨x1,x2,x3⟩:=hJ1.out j hlt
    rw[←HUL.out.1] at x1 x3
    rw[←HUL.out.2.1] at x2 x3
    obtain⟨n1',n2'⟩:=fwU_next (j:=j) (by rw[←HUL.out.1];exact x1)
    have c1:(1:Int)<(Uj:Int):=by omega
    have c2:(Lj:Int)<(LS:Int):=by omega
    have c3:(MS:Int)<(Lj:Int)+(Uj:Int):=by omega
    obtain⟨Uk,hUk⟩:∃ Uk,Uk=Uj / 10:=⟨_,rfl⟩
    have HK:Hid (Uk=fwU (j+1)):=(by rw[hUk,HUL.out.1];exact n1':Uk=fwU (j+1))
    have hk0:0<Uk:=by rw[HK.out];exact fwU_pos _
    have hkn:((Uk:Int)==0)=false:=by rw[beq_eq_false_iff_ne];omega
    obtain⟨q,hq⟩:∃ q,q=T2 / Uk:=⟨_,rfl⟩
    obtain⟨l0,hl⟩:∃ l0,l0=q*Uk:=⟨_,rfl⟩
    have Hl0:Hid (l0=fwL TW (j+1)):=(by rw[hl,hq,HT2.out,HK.out];rfl:l0=fwL TW (j+1))
    have d1:l0≤T2:=by rw[hl,hq];exact Nat.div_mul_le_self _ _
    have d2:q≤T2:=by rw[hq];exact Nat.div_le_self _ _
    have a0:Int.tdiv (Uj:Int) 10=(Uk:Int):=by rw[hUk];exact tdivN _ _
    have a1:Int.tdiv (TW:Int) 2=(T2:Int):=by rw[HT2.out];exact tdivN _ _
    have a2:Int.tdiv (T2:Int) (Uk:Int)=(q:Int):=by rw[hq];exact tdivN _ _
    have a3:(q:Int)*(Uk:Int)=(l0:Int):=by rw[hl];exact(Int.natCast_mul _ _).symm
    have w4:IntKind.u64.wrap (Uk:Int)=(Uk:Int):=by rw[IntKind.wrap_u64];omega
    have w1:IntKind.u64.wrap (T2:Int)=(T2:Int):=by rw[IntKind.wrap_u64];omega
    have w2:IntKind.u64.wrap (q:Int)=(q:Int):=by rw[IntKind.wrap_u64];omega
    have w3:IntKind.u64.wrap (l0:Int)=(l0:Int):=by rw[IntKind.wrap_u64];omega
    clear hq hl hUk x1 x2 x3 n1' n2'
    go_wp2
    go_roundg (gk - 1)
    case measure=>have:=HJM.out;omega
    case rel=>exact⟨j+1,by have:=HJM.out;omega,by rw[HK.out],by rw[Hl0.out],rfl⟩
   ·obtain rfl:j=J:=by have:=HJM.out;omega
    have hst:=hJ2.out
    rw[←HUL.out.1,←HUL.out.2.1] at hst
    go_upto_region 6 with fail
    go_cut [52] from 39 to 51 (fun v wx=>v=.bool false∧wx=w6)
    case first =>
     by_cases x1:1<Uj
     ·have c1:(1:Int)<(Uj:Int):=by omega
      by_cases x2:Lj<LS
      ·have c2:(Lj:Int)<(LS:Int):=by omega
       have c3:¬ (MS:Int)<(Lj:Int)+(Uj:Int):=fun h=>hst ⟨x1,x2,by omega⟩
       clear hst x1 x2
       go_wp2
       go_meet
       exact⟨rfl,rfl⟩
      ·have c2:¬ (Lj:Int)<(LS:Int):=by omega
       clear hst x1 x2
       go_wp2
       go_meet
       exact⟨rfl,rfl⟩
     ·have c1:¬ (1:Int)<(Uj:Int):=by omega
      clear hst x1
      go_wp2
      go_meet
      exact⟨rfl,rfl⟩
    case rest =>
    obtain⟨rfl,hwr⟩:=hcut
    replace hwr:=hwr.symm
    subst hwr
    clear hst hlt hJ1 hJ2
    have hab':=hab.out
    have hF':=hF.out
    rw[←HUL.out.1,←HUL.out.2.1] at hab' hF'
    obtain⟨Q,hQ⟩:∃ Q,Q=Lj / Uj:=⟨_,rfl⟩
    rw[←hQ] at hab'
    obtain⟨fr,hfr⟩:∃ fr,fr=TW - 2*Lj:=⟨_,rfl⟩
    rw[←hfr] at hab'
    have h2L:2*Lj≤TW:=by have:=HT2.out;omega
    obtain⟨D,hD⟩:∃ D,D=2*Lj:=⟨_,rfl⟩
    have v1:IntKind.u64.wrap (2*(Lj:Int))=(D:Int):=by rw[IntKind.wrap_u64];omega
    have v2:IntKind.u64.wrap ((TW:Int) - (D:Int))=(fr:Int):=by rw[IntKind.wrap_u64];omega
    have HAB:Hid (ab=(decide (Uj<fr)||(decide (fr=Uj)&&(!is||decide (Q % 2=1))))):=hab'
    have HF:Hid (F=if Lj<LS∨(ab=true∧Lj+Uj≤MS)then Lj+Uj else Lj):=hF'
    have v3:Int.tdiv (Lj:Int) (Uj:Int)=(Q:Int):=by rw[hQ];exact tdivN _ _
    have v4:IntKind.u64.wrap (Q:Int)=(Q:Int):=by
     have:Q≤Lj:=by rw[hQ];exact Nat.div_le_self _ _
     rw[IntKind.wrap_u64];omega
    have v5:((Uj:Int)==0)=false:=by rw[beq_eq_false_iff_ne];omega
    have hfrb:fr≤TW:=by omega
    clear hab' hF' hQ hfr h2L hD hab hF
    go_upto_region 9 with fail
    go_upto_region 10 with fail
    clear v1 v2
    go_cut [15] from 65 to 83 (fun v wx=>v=.bool ab∧wx=w6)
    case first =>
     by_cases x1:Uj<fr
     ·have c1:(Uj:Int)<(fr:Int):=by omega
      have HA:Hid (ab=true):=(by rw[HAB.out,decide_eq_true x1];rfl:ab=true)
      go_wp2
      go_meet
      exact⟨by rw[HA.out],rfl⟩
     ·have c1:¬ (Uj:Int)<(fr:Int):=by omega
      by_cases x2:fr=Uj
      ·have c2:((fr:Int)==(Uj:Int))=true:=by rw[beq_iff_eq];omega
       cases is
       ·have HA:Hid (ab=true):=(by rw[HAB.out,decide_eq_true x2];simp:ab=true)
        clear x1 x2 HAB HF
        go_wp2
        go_meet
        exact⟨by rw[HA.out],rfl⟩
       ·obtain⟨o,ho⟩:∃ o,o=decide (Q % 2=1):=⟨_,rfl⟩
        have HA:Hid (ab=o):=(by rw[HAB.out,decide_eq_false x1,decide_eq_true x2,ho];simp:ab=o)
        have v6:Int.tmod (Q:Int) 2=((Q % 2:Nat):Int):=by rw[Int.tmod_eq_emod_of_nonneg (by omega)];omega
        have v7:IntKind.u64.wrap ((Q % 2:Nat):Int)=((Q % 2:Nat):Int):=by rw[IntKind.wrap_u64];omega
        have v8:(((Q % 2:Nat):Int)==1)=o:=by
         rw[ho]
         by_cases h:Q % 2=1
         ·rw[h];rfl
         ·rw[decide_eq_false h,beq_eq_false_iff_ne];omega
        generalize Q % 2=q2 at *
        clear x1 x2 ho HAB HF
        go_wp2
        go_meet
        exact⟨by rw[HA.out],rfl⟩
      ·have c2:((fr:Int)==(Uj:Int))=false:=by rw[beq_eq_false_iff_ne];omega
       have HA:Hid (ab=false):=(by rw[HAB.out,decide_eq_false x1,decide_eq_false x2];rfl:ab=false)
       clear x2 x1
       go_wp2
       go_meet
       exact⟨by rw[HA.out],rfl⟩
    case rest =>
    obtain⟨rfl,hwr⟩:=hcut
    replace hwr:=hwr.symm
    subst hwr
    clear HAB v3 v4 v5 hfrb
    obtain⟨cb,hcb⟩:∃ cb,cb=decide (Lj<LS∨(ab=true∧Lj+Uj≤MS)):=⟨_,rfl⟩
    have HC:Hid (cb=decide (Lj<LS∨(ab=true∧Lj+Uj≤MS))):=hcb
    clear hcb
    go_upto_region 11 with fail
    go_cut [96] from 84 to 95 (fun v wx=>v=.bool cb∧wx=w6)
    case first =>
     by_cases x1:Lj<LS
     ·have c1:(Lj:Int)<(LS:Int):=by omega
      have HA:Hid (cb=true):=(by rw[HC.out];exact decide_eq_true (.inl x1):cb=true)
      clear x1
      go_wp2
      go_meet
      exact⟨by rw[HA.out],rfl⟩
     ·have c1:¬ (Lj:Int)<(LS:Int):=by omega
      cases ab
      ·have HA:Hid (cb=false):=(by rw[HC.out];exact decide_eq_false (fun h=>h.elim x1 (fun h=>absurd h.1 (by decide))):cb=false)
       clear x1
       go_wp2
       go_meet
       exact⟨by rw[HA.out],rfl⟩
      ·by_cases x2:Lj+Uj≤MS
       ·have c2:(Lj:Int)+(Uj:Int)≤(MS:Int):=by omega
        have HA:Hid (cb=true):=(by rw[HC.out];exact decide_eq_true (.inr ⟨rfl,x2⟩):cb=true)
        clear x1 x2
        go_wp2
        go_meet
        exact⟨by rw[HA.out],rfl⟩
       ·have c2:¬ (Lj:Int)+(Uj:Int)≤(MS:Int):=by omega
        have HA:Hid (cb=false):=(by rw[HC.out];exact decide_eq_false (fun h=>h.elim x1 (fun h=>x2 h.2)):cb=false)
        clear x1 x2
        go_wp2
        go_meet
        exact⟨by rw[HA.out],rfl⟩
    case rest =>
    obtain⟨rfl,hwr⟩:=hcut
    replace hwr:=hwr.symm
    subst hwr
    have HFF:Hid (F=if cb=true then Lj+Uj else Lj):=(by rw[HF.out,HC.out];simp only[decide_eq_true_eq]:F=if cb=true then Lj+Uj else Lj)
    clear HF HC
    cases cb
    ·obtain rfl:F=Lj:=HFF.out
     go_wp2
     go_ret
     exact⟨rfl,H6.out⟩
    ·obtain rfl:F=Lj+Uj:=HFF.out
     go_wp2
     go_ret
     exact⟨by push_cast;rfl,H6.out⟩
end Go.Proofs.YthhaamilfioddaaGreatDoor
namespace Go.Proofs.YthhaamilfioddaaGreatDoor
open Go Go.RowKit Go.Fl64
def nextP (a:Nat):Nat:=if mag a=0 then 1 else if neg a then a - 1 else a+1
theorem nextP_3 (a:Nat) (w:World) (hn:(FloatKind.f64.format.order a a != some Ordering.eq)=false) (h2:((a:Int)==9218868437227405312)=false) (h3:(FloatKind.f64.format.order a 0==some Ordering.eq)=true) :
  Calls Tryz.prog 198 #[.float .f64 a] w fun r w'=>r=.returned (.float .f64 1)∧w'=w:=by
 have kb:=Ie.run_bits
 have kf:=Ie.run_frombits
 go_enter Tryz.func198,Tryz.ntmps198
 go_wp2
 go_ret
 exact⟨rfl,rfl⟩
theorem nextP_4 (a:Nat) (r:Int) (w:World) (hn:(FloatKind.f64.format.order a a != some Ordering.eq)=false) (h2:((a:Int)==9218868437227405312)=false) (h3:(FloatKind.f64.format.order a 0==some Ordering.eq)=false) (h4:(bits .and .u64 (a:Int) 9223372036854775808 != 0)=true) (h5:IntKind.u64.wrap ((a:Int) - 1)=r) :
  Calls Tryz.prog 198 #[.float .f64 a] w fun e w'=>e=.returned (.float .f64 r.toNat)∧w'=w:=by
 have kb:=Ie.run_bits
 have kf:=Ie.run_frombits
 go_enter Tryz.func198,Tryz.ntmps198
 go_wp2
 go_ret
 exact⟨rfl,rfl⟩
theorem nextP_5 (a:Nat) (r:Int) (w:World) (hn:(FloatKind.f64.format.order a a != some Ordering.eq)=false) (h2:((a:Int)==9218868437227405312)=false) (h3:(FloatKind.f64.format.order a 0==some Ordering.eq)=false) (h4:(bits .and .u64 (a:Int) 9223372036854775808 != 0)=false) (h5:IntKind.u64.wrap ((a:Int)+1)=r) :
  Calls Tryz.prog 198 #[.float .f64 a] w fun e w'=>e=.returned (.float .f64 r.toNat)∧w'=w:=by
 have kb:=Ie.run_bits
 have kf:=Ie.run_frombits
 go_enter Tryz.func198,Tryz.ntmps198
 go_wp2
 go_ret
 exact⟨rfl,rfl⟩
theorem nextP_ok (a:Nat) (ha:a<18446744073709551616) (hn:mag a<9218868437227405312) (w:World) :
  Calls Tryz.prog 198 #[.float .f64 a] w fun r w'=>r=.returned (.float .f64 (nextP a))∧w'=w:=by
 have n1:isNaN a=false:=decide_eq_false (by omega)
 have q1:=self_ne a ha
 rw[n1] at q1
 have q2:((a:Int)==9218868437227405312)=false:=by
  rw[beq_eq_false_iff_ne]
  intro h
  have:a=9218868437227405312:=by omega
  rw[this] at hn
  revert hn;decide
 have q3:=unought ha
 have q3':(FloatKind.f64.format.order a 0==some Ordering.eq)=decide (mag a=0):=by
  have:(FloatKind.f64.format.order a 0 != some Ordering.eq) = !(FloatKind.f64.format.order a 0==some Ordering.eq):=rfl
  rw[this] at q3
  revert q3
  cases (FloatKind.f64.format.order a 0==some Ordering.eq) <;> cases decide (mag a=0) <;> simp
 have q4:(bits .and .u64 (a:Int) 9223372036854775808 != 0)=neg a:=by
  rw[and_sign a ha]
  cases neg a <;> decide
 unfold nextP
 by_cases h0:mag a=0
 ·rw[if_pos h0]
  rw[decide_eq_true h0] at q3'
  exact nextP_3 a w q1 q2 q3'
 ·rw[if_neg h0]
  rw[decide_eq_false h0] at q3'
  cases hs:neg a
  ·rw[hs] at q4
   have h9:a<9223372036854775808:=by unfold neg at hs;simpa using hs
   rw[if_neg (by decide)]
   exact nextP_5 a ((a+1:Nat):Int) w q1 q2 q3' q4 (by rw[IntKind.wrap_u64];omega)
  ·rw[hs] at q4
   have h9:9223372036854775808≤a:=by unfold neg at hs;simpa using hs
   rw[if_pos rfl]
   exact nextP_4 a ((a - 1:Nat):Int) w q1 q2 q3' q4 (by rw[IntKind.wrap_u64];omega)
theorem ptop_ok {t:Bool×Nat×Int} {X:Value} {w:World} (ok:Ok t) (h:PN w X t):Calls Tryz.prog 128 #[X] w fun r w'=>r=.returned (.int .i64 ((bl t.2.1:Nat)+t.2.2))∧Bw w w':=by
 obtain⟨pa,pc,rfl,i1⟩:=h
 have f:=ok.facts
 refine pTop_1 t.1 pa _ pc t.2.2 _ w (fun W g hW hg=>?_) (fun W' hW'=>c75 (i1.later hW') (by omega) (by omega) (by omega))
 have:=maybe1 hg (i1.later hW) (by omega)
 have ok':okN t.1 (dlen t.2.1) t.2.1 t.2.2=true:=ok
 rw[ok'] at this
 exact this
theorem ptop_un {A p b:Nat} (h:A<2^b) (h0:A≠0) (hb:b≤60000) (hp:p≤60000) {W:World} {X:Value} (hX:PN W X (un (A:Int) p)) :
  Calls Tryz.prog 128 #[X] W fun r w'=>r=.returned (.int .i64 ((bl A:Nat) - (p:Int)))∧Bw W w':=by
 have k:=ptop_ok (ok_un (nabs h) hb hp) hX
 have sp:=(tz_spec _ _ (Nat.le_refl _) h0).1
 have e1:(un (A:Int) p).2.1=A / 2^tz A:=by unfold un cn;rw[Int.natAbs_natCast,if_neg h0]
 have e2:(un (A:Int) p).2.2=(tz A:Int) - p:=by unfold un cn;rw[Int.natAbs_natCast,if_neg h0];show -(p:Int)+(tz A:Int)=_;omega
 have hx:A / 2^tz A≠0:=by intro h9;rw[h9,Nat.mul_zero] at sp;omega
 have e3:bl A=bl (A / 2^tz A)+tz A:=by
  have:=bl_shlD (x:=A / 2^tz A) (k:=tz A) hx
  rw[Nat.mul_comm,sp] at this
  exact this
 rw[e1,e2] at k
 rw[e3]
 rw[show((bl (A / 2^tz A)+tz A:Nat):Int) - (p:Int)=((bl (A / 2^tz A):Nat):Int)+((tz A:Int) - p) by push_cast;omega]
 exact k
theorem run_neg_gD {R:Nat} (h:R<9218868437227405312) (W:World):(Op.unary UnOp.neg (Value.float .f64 R)).run Tryz.prog W=.ok (.float .f64 (R+9223372036854775808)) W:=by
 have hn:Op.negFloat .f64 R=R+9223372036854775808:=by rw[Fl64.negF R (by omega)];unfold Fl64.ngt Fl64.neg;simp;omega
 rw[←hn];rfl
theorem run_neg_hD {R:Nat} (h:R<9218868437227405312) (W:World):(Op.unary UnOp.neg (Value.float .f64 (R+9223372036854775808))).run Tryz.prog W=.ok (.float .f64 R) W:=by
 have hn:Op.negFloat .f64 (R+9223372036854775808)=R:=by rw[Fl64.negF _ (by omega)];unfold Fl64.ngt Fl64.neg;simp
 have h2:(Op.unary UnOp.neg (Value.float .f64 (R+9223372036854775808))).run Tryz.prog W=.ok (.float .f64 (Op.negFloat .f64 (R+9223372036854775808))) W:=rfl
 rw[h2,hn]
theorem Dprev {a:Nat} (h0:0<a) (h1:a<9218868437227405312) (w:World):Calls Tryz.prog 168 #[.float .f64 a] w fun r w'=>r=.returned (.float .f64 (a - 1))∧w'=w:=by
 have hm:mag (a+9223372036854775808)=a:=by unfold mag;omega
 have k:=nextP_ok (a+9223372036854775808) (by omega) (by rw[hm];exact h1)
 have e:nextP (a+9223372036854775808)=a - 1+9223372036854775808:=by
  unfold nextP
  rw[hm,if_neg (by omega),if_pos (by unfold neg;exact decide_eq_true (by omega))]
  omega
 rw[e] at k
 have n1:=run_neg_gD h1
 have n2:=run_neg_hD (R:=a - 1) (by omega)
 generalize a - 1=c at *
 clear e hm h0 h1
 go_enter Tryz.func168,Tryz.ntmps168
 go_wp2_with (first|(go_at_call 198;refine(k _).mono ?_;rintro r w' ⟨rfl,hw⟩;replace hw:=hw.symm;subst hw))
 go_ret
 exact⟨rfl,rfl⟩
def utF (a:Nat):Nat:=Ie.mk false 1 (Ie.lp a) 2 9221120237041090561
theorem Dunit {a:Nat} (ha:a<18446744073709551616) (hf:mag a<9218868437227405312) (w:World):Calls Tryz.prog 169 #[.float .f64 a] w fun r w'=>r=.returned (.float .f64 (utF a))∧w'=w:=by
 obtain⟨c1,c2,-⟩:=cls_fin hf
 have kC:=fun V=>Ie.c9 a ha V
 have kL:=fun V=>Ie.c47 a ha V
 have kM:=fun V=>Ie.c24 false 1 (Ie.lp a) 2 (by omega) V
 have hc1:(cls a==1)=false:=by rw[beq_eq_false_iff_ne];exact c1
 have hc2:(cls a==2)=false:=by rw[beq_eq_false_iff_ne];exact c2
 unfold utF
 generalize cls a=c at *
 generalize Ie.lp a=L at *
 generalize Ie.mk false 1 L 2 9221120237041090561=F at *
 clear c1 c2 ha hf
 go_enter Tryz.func169,Tryz.ntmps169
 go_wp2_with (first|(go_at_call 47;refine(kC _).mono ?_;rintro r w' ⟨rfl,hw⟩;replace hw:=hw.symm;subst hw)|(go_at_call 88;refine(kL _).mono ?_;rintro r w' ⟨rfl,hw⟩;replace hw:=hw.symm;subst hw)|(go_at_call 77;refine(kM _).mono ?_;rintro r w' ⟨rfl,hw⟩;replace hw:=hw.symm;subst hw))
 go_ret
 exact⟨rfl,rfl⟩
def woX0 (A:Nat):Int:=((bl A:Nat) - (kP:Int) - 1)*1262611 / 4194304
def woX (A:Nat):Int:=if 0<unF (A:Int) (tnO (-woX0 A - 1)) (tnU (-woX0 A - 1))then woX0 A+1 else woX0 A
theorem bl_bU {A:Nat} (h:A<2^bU) (h0:A≠0):1≤bl A∧bl A≤2200:=by
 refine⟨?_,(bl_le A bU).2 h⟩
 rcases Nat.lt_or_ge 0 (bl A)with h1|h1
 ·exact h1
 ·have:=(bl_le A 0).1 h1
  rw[Nat.pow_zero] at this
  omega
theorem woX0_b {A:Nat} (h:A<2^bU) (h0:A≠0) : -400≤woX0 A∧woX0 A≤400:=by
 have hb:=bl_bU h h0
 have hk:=kP_eq
 unfold woX0
 generalize kP=x at *
 omega
theorem woX_b {A:Nat} (h:A<2^bU) (h0:A≠0) : -400≤woX A∧woX A≤401:=by
 have:=woX0_b h h0
 unfold woX
 split <;> omega
theorem Dworth {A:Nat} {X:Value} {w:World} (hT:Tab32 w) (h:A<2^bU) (h0:A≠0) (hX:PN w X (un (A:Int) kP)) :
  Calls Tryz.prog 81 #[X] w fun r w'=>r=.returned (.int .i64 (woX A))∧Bw w w':=by
 obtain⟨s3,ao3,n3,cp3,e3,rfl⟩:=hX.shape
 have hb:=bl_bU h h0
 have hw:=woX0_b h h0
 have hk:=kP_eq
 obtain⟨t1,t2,t3,t4⟩:=tn_lt (pl := -woX0 A - 1) (by omega) (by omega)
 have hF:=unF_lt (Z:=(A:Int)) (k:=bU) (l:=dB) (nabs h) t1 t3
 have k:=Dworth_1 s3 ao3 n3 cp3 e3 ((bl A:Nat) - (kP:Int)) (woX0 A) (if unF (A:Int) (tnO (-woX0 A - 1)) (tnU (-woX0 A - 1))=0 then 0 else if unF (A:Int) (tnO (-woX0 A - 1)) (tnU (-woX0 A - 1))<0 then -1 else 1) (un ((tnO (-woX0 A - 1):Nat):Int) 0) (un ((tnU (-woX0 A - 1):Nat):Int) 0) (un (A:Int) kP) (un (unF (A:Int) (tnO (-woX0 A - 1)) (tnU (-woX0 A - 1))) 0) (unX (A:Int) (tnO (-woX0 A - 1)) (tnU (-woX0 A - 1))) w hX (by omega) (by omega) rfl
  (fun W hW hX=>ptop_un (b:=bU) h h0 (by rw[bU_eq];omega) (by omega) hX)
  (fun W hW=>DtenTo (hT.later hW) (by omega) (by omega) (fun n hn=>klen hn))
  (fun s1 ao1 n1 cp1 e1 s2 ao2 n2 cp2 e2 s3 ao3 n3 cp3 e3 W hW q1 q2 q3=>Dfloor (Z:=(A:Int)) (O:=tnO (-woX0 A - 1)) (U:=tnU (-woX0 A - 1)) (p:=kP) (k:=bU) (l:=dB) (hT.later hW) ⟨_,_,_,_,_,_,_,_,_,_,rfl,q1,q2⟩ q3 (nabs h) t1 t2 t3 dk1)
  (fun W X hW hX=>psgn_un hF (Nat.le_of_lt dk3) (by omega) hX)
  (by show -1≤_∧_≤1;split <;> (try split) <;> omega)
 have e:(if 0<(if unF (A:Int) (tnO (-woX0 A - 1)) (tnU (-woX0 A - 1))=0 then(0:Int)else if unF (A:Int) (tnO (-woX0 A - 1)) (tnU (-woX0 A - 1))<0 then -1 else 1)then woX0 A+1 else woX0 A)=woX A:=by
  unfold woX
  generalize unF (A:Int) (tnO (-woX0 A - 1)) (tnU (-woX0 A - 1))=u
  by_cases c1:u=0
  ·rw[if_pos c1,c1]
  ·rw[if_neg c1]
   by_cases c2:u<0
   ·rw[if_pos c2,if_neg (by decide),if_neg (by omega)]
   ·rw[if_neg c2,if_pos (by decide),if_pos (by omega)]
 rw[e] at k
 exact k
def kQ:Nat:=1075
theorem kQ_eq:(kP:Int) - (-1)=kQ:=rfl
theorem kQ_n:kQ=kP+1:=rfl
def shX (a:Nat):Int:=woX (fU a)
def shO (a:Nat):Nat:=tnO (16 - shX a)
def shU (a:Nat):Nat:=tnU (16 - shX a)
def flQ (Z:Int) (a:Nat):Int:=Z*(shO a:Int) / ((shU a*2^kQ:Nat):Int)
def exq (Z:Int) (a:Nat):Bool:=decide (Z*(shO a:Int) % ((shU a*2^kQ:Nat):Int)=0)
def nrF (Z:Int):Nat:=tfF (un Z kQ).1 true (un Z kQ).2.1 (un Z kQ).2.2 2
def isR (Z:Int) (a:Nat):Bool:=(FloatKind.f64.format.order (nrF Z) a==some Ordering.eq)
def loZ (a:Nat):Int:=sZ (a - 1)+sZ a
def hiZ (a:Nat):Int:=sZ a*2+sZ (utF a)
def shN (a:Nat):Nat:=(flQ (loZ a) a).toNat
def shM (a:Nat):Nat:=(flQ (hiZ a) a).toNat
def shL (a:Nat):Nat:=if exq (loZ a) a&&isR (loZ a) a then shN a else shN a+1
def shH (a:Nat):Nat:=if exq (hiZ a) a && !isR (hiZ a) a then shM a - 1 else shM a
def shTz (a:Nat):Int:=sZ a*(shO a:Int) / ((shU a*2^kP1:Nat):Int)
def shT (a:Nat):Nat:=(shTz a).toNat
def shI (a:Nat):Bool:=decide (sZ a*(shO a:Int) % ((shU a*2^kP1:Nat):Int)=0)
structure ShOk (a:Nat):Prop where
 pos:0<a
 fin:a<9218868437227405312
 ut:utF a<9218868437227405312
 lo:0≤flQ (loZ a) a
 lo2:shN a<2305843009213693952
 hi:0<flQ (hiZ a) a
 hi2:shM a<2305843009213693952
 tw:0≤shTz a
 tw2:shT a<2305843009213693952
theorem mag_small {a:Nat} (h:a<9218868437227405312):mag a<9218868437227405312:=by unfold mag;omega
theorem ShOk.x {a:Nat} (h:ShOk a) : -400≤shX a∧shX a≤401:=by
 refine woX_b (fU_lt a) ?_
 intro h0
 have h1:mag a=a:=by unfold mag;have:=h.fin;omega
 have h2:=Ie.mant_ne (a:=a) (by rw[h1];have:=h.pos;omega)
 unfold fU at h0
 rcases Nat.mul_eq_zero.1 h0 with h3|h3
 ·exact h2 h3
 ·exact absurd h3 (Nat.ne_of_gt (Nat.two_pow_pos _))
theorem loZ_lt (a:Nat):(loZ a).natAbs<2^(bU+1+1):=by
 have h1:=sZ_lt (a - 1)
 have h2:=sZ_lt a
 unfold loZ
 exact pow_grow 1 (abs_add h1 h2)
theorem hiZ_lt (a:Nat):(hiZ a).natAbs<2^(bU+1+1):=by
 have h1:=sZ_lt a
 have h2:=sZ_lt (utF a)
 unfold hiZ
 have h3:(sZ a*2).natAbs<2^(bU+1):=by rw[Nat.pow_succ];omega
 exact abs_add h3 (pow_grow 1 h2)
theorem dk7:bU+1+1+dB+kQ≤60000:=by have h1:=kP_eq;have h2:=bU_eq;have h3:=dB_le;rw[kQ_n];generalize kP=x at *; generalize bU=y at *; generalize dB=z at *; omega
theorem dk8:bU+1+1≤60000:=by have h2:=bU_eq;generalize bU=y at *; omega
theorem dk9:kQ≤60000∧kP≤60000∧kP1≤60000:=by decide
theorem dkA:bU+dB+kP1≤60000:=by have h1:kP1=1073:=rfl;have h2:=bU_eq;have h3:=dB_le;generalize kP1=x at *; generalize bU=y at *; generalize dB=z at *; omega
theorem DisReadAs {Z:Int} {a:Nat} {X:Value} {w:World} (hT:Tab32 w) (hZ:Z.natAbs<2^(bU+1+1)) (hX:PN w X (un Z kQ)) :
  Calls Tryz.prog 170 #[X,.float .f64 a] w fun r w'=>r=.returned (.bool (isR Z a))∧Bw w w':=by
 obtain⟨s3,ao3,n3,cp3,e3,rfl⟩:=hX.shape
 exact DisReadAs_1 s3 ao3 n3 cp3 e3 (un Z kQ) a (nrF Z) (isR Z a) 0 w hX (fun W hW hX=>pround (hT.later hW) (ok_un hZ dk8 dk9.1) hX (by omega)) rfl
theorem DreadAs {a:Nat} {S:Value} {w:World} (hT:Tab32 w) (hI:Ie.Tab w) (ok:ShOk a) (hS:Fv w S (un ((shO a:Nat):Int) 0) (un ((shU a:Nat):Int) 0)) :
  Calls Tryz.prog 130 #[.float .f64 a,S] w fun r w'=>r=.returned (.tuple #[.int .u64 (shL a:Nat),.int .u64 (shH a:Nat)])∧Bw w w':=by
 obtain⟨s1,ao1,n1,cp1,e1,s2,ao2,n2,cp2,e2,rfl,p1,p2⟩:=hS
 have hx:=ok.x
 have hfin:=ok.fin
 have hpos:=ok.pos
 obtain⟨t1,t2,t3,t4⟩:=tn_lt (pl:=16 - shX a) (by omega) (by omega)
 have ha:a<18446744073709551616:=by omega
 have hut:=ok.ut
 have fl:∀ (Z:Int),Z.natAbs<2^(bU+1+1)→∀ W X,Bw w W→PN W (.agg #[.bool s1,.slice ao1 n1 cp1,.int .i64 e1]) (un ((shO a:Nat):Int) 0)→PN W (.agg #[.bool s2,.slice ao2 n2 cp2,.int .i64 e2]) (un ((shU a:Nat):Int) 0)→PN W X (un Z kQ)→Calls Tryz.prog 58 #[.agg #[.bool s1,.slice ao1 n1 cp1,.int .i64 e1,.bool s2,.slice ao2 n2 cp2,.int .i64 e2],X] W fun r w'=>OutFl W (un (flQ Z a) 0) (exq Z a) r w':=by
  intro Z hZ W X hW q1 q2 hX
  exact Dfloor (Z:=Z) (O:=shO a) (U:=shU a) (p:=kQ) (k:=bU+1+1) (l:=dB) (hT.later hW) ⟨_,_,_,_,_,_,_,_,_,_,rfl,q1,q2⟩ hX hZ t1 t2 t3 dk7
 have wd:∀ (Z:Int),0≤flQ Z a→(flQ Z a).toNat<2305843009213693952→∀ W X,PN W X (un (flQ Z a) 0)→Calls Tryz.prog 53 #[X] W fun r w'=>r=.returned (.int .u64 ((flQ Z a).toNat:Nat))∧Bw W w':=by
  intro Z h1 h2 W X hX
  rw[show flQ Z a=(((flQ Z a).toNat:Nat):Int) by omega] at hX
  exact Dword (by omega) hX
 refine DreadAs_1 a (a - 1) (utF a) s1 ao1 n1 cp1 e1 s2 ao2 n2 cp2 e2 _ _ (un (sZ a) kP) (un (sZ (a - 1)) kP) (un (loZ a) kP) (un (loZ a) kQ) (un (sZ (utF a)) kP) (un (sZ (utF a)) kQ) (un (hiZ a) kQ) (un (flQ (loZ a) a) 0) (un (flQ (hiZ a) a) 0) (exq (loZ a) a) (exq (hiZ a) a) (isR (loZ a) a) (isR (hiZ a) a) (shN a) (shM a) (shL a) (shH a) w rfl rfl p1 p2 (by have:=ok.lo2;omega) (by have:=ok.hi2;omega) (by show 0<shM a;have:=ok.hi;unfold shM;omega) ?_ ?_ ?_ ?_ ?_ ?_ ?_ ?_ ?_ (fl _ (loZ_lt a)) ?_ ?_ (fl _ (hiZ_lt a)) ?_ ?_
 ·intro W hW
  exact Dexact (hT.later hW) (Tab.later hI hW) ha (mag_small hfin)
 ·intro W
  refine(Dprev hpos hfin W).mono ?_
  rintro r w' ⟨rfl,rfl⟩
  exact⟨rfl,Below.refl _ _⟩
 ·intro W hW
  exact Dexact (hT.later hW) (Tab.later hI hW) (by omega) (mag_small (by omega))
 ·intro W X Y hW hX hY
  exact Dadded_op (padd_un (p:=kP) (k:=bU) (sZ_lt _) (sZ_lt _) (by rw[bU_eq];omega) dk9.2.1) (hT.later hW) hX hY
 ·intro W X hW hX
  exact Dshifted (b:=bU+1+1) (loZ_lt a) dk8 dk9.2.1 dk9.1 kQ_eq hX
 ·intro W
  refine(Dunit ha (mag_small hfin) W).mono ?_
  rintro r w' ⟨rfl,rfl⟩
  exact⟨rfl,Below.refl _ _⟩
 ·intro W hW
  exact Dexact (hT.later hW) (Tab.later hI hW) (by omega) (mag_small hut)
 ·intro W X hW hX
  exact Dshifted (b:=bU) (sZ_lt _) (by rw[bU_eq];omega) dk9.2.1 dk9.1 kQ_eq hX
 ·intro W X Y hW hX hY
  have e:un (sZ a) kP=un (sZ a*2) kQ:=un_shiftD (sZ a) kP 1
  rw[e] at hX
  exact Dadded_op (padd_un (p:=kQ) (k:=bU+1) (by have:=sZ_lt a;rw[Nat.pow_succ];omega) (pow_grow 1 (sZ_lt _)) (by rw[bU_eq];omega) dk9.1) (hT.later hW) hX hY
 ·intro W X hW hX
  exact wd _ ok.lo ok.lo2 W X hX
 ·intro _ W X hW hX
  exact DisReadAs (hT.later hW) (loZ_lt a) hX
 ·intro W X hW hX
  exact wd _ (Int.le_of_lt ok.hi) ok.hi2 W X hX
 ·intro _ W X hW hX
  exact DisReadAs (hT.later hW) (hiZ_lt a) hX
def fwS (L H T:Nat):Nat→Nat→Nat
 | 0,j=>j
 | n+1,j=>if 1<fwU j∧fwL T j<L∧H<fwL T j+fwU j then fwS L H T n (j+1)else j
theorem fwS_spec (L H T:Nat):∀ n j,n+j=16→(∀ i,i<j→1<fwU i∧fwL T i<L∧H<fwL T i+fwU i) →
  (∀ i,i<fwS L H T n j→1<fwU i∧fwL T i<L∧H<fwL T i+fwU i)∧¬ (1<fwU (fwS L H T n j)∧fwL T (fwS L H T n j)<L∧H<fwL T (fwS L H T n j)+fwU (fwS L H T n j)):=by
 intro n
 induction n with
 | zero =>
  intro j hj h
  obtain rfl:j=16:=by omega
  exact⟨h,fun g=>absurd g.1 (by show ¬ 1<fwU 16;decide)⟩
 | succ n ih =>
  intro j hj h
  unfold fwS
  by_cases c:1<fwU j∧fwL T j<L∧H<fwL T j+fwU j
  ·rw[if_pos c]
   refine ih (j+1) (by omega) (fun i hi=>?_)
   by_cases e:i=j
   ·rw[e];exact c
   ·exact h i (by omega)
  ·rw[if_neg c]
   exact⟨h,c⟩
def shJ (a:Nat):Nat:=fwS (shL a) (shH a) (shT a) 16 0
def shA (a:Nat):Bool:=decide (fwU (shJ a)<shT a - 2*fwL (shT a) (shJ a))||(decide (shT a - 2*fwL (shT a) (shJ a)=fwU (shJ a))&&(!shI a||decide (fwL (shT a) (shJ a) / fwU (shJ a) % 2=1)))
def shF (a:Nat):Nat:=if fwL (shT a) (shJ a)<shL a∨(shA a=true∧fwL (shT a) (shJ a)+fwU (shJ a)≤shH a)then fwL (shT a) (shJ a)+fwU (shJ a)else fwL (shT a) (shJ a)
theorem shF_lt {a:Nat} (ok:ShOk a):shF a<18446744073709551616:=by
 have h1:=fwL_le (shT a) (shJ a)
 have h2:=fwU_le (shJ a)
 have h3:=ok.tw2
 unfold shF
 split <;> omega
theorem shL_lt {a:Nat} (ok:ShOk a):shL a<4611686018427387904∧shH a<4611686018427387904:=by
 have h1:=ok.lo2
 have h2:=ok.hi2
 unfold shL shH
 constructor <;> split <;> omega
theorem Dfewest {a:Nat} {X S:Value} {w:World} (hT:Tab32 w) (hI:Ie.Tab w) (ok:ShOk a) (hX:PN w X (un (sZ a) kP)) (hS:Fv w S (un ((shO a:Nat):Int) 0) (un ((shU a:Nat):Int) 0)) :
  Calls Tryz.prog 83 #[.float .f64 a,X,S] w fun r w'=>r=.returned (.int .u64 (shF a:Nat))∧Bw w w':=by
 obtain⟨s1,ao1,n1,cp1,e1,s2,ao2,n2,cp2,e2,rfl,p1,p2⟩:=hS
 obtain⟨s3,ao3,n3,cp3,e3,rfl⟩:=hX.shape
 have hx:=ok.x
 obtain⟨t1,t2,t3,t4⟩:=tn_lt (pl:=16 - shX a) (by omega) (by omega)
 obtain⟨j1,j2⟩:=fwS_spec (shL a) (shH a) (shT a) 16 0 rfl (fun i hi=>absurd hi (Nat.not_lt_zero _))
 obtain⟨l1,l2⟩:=shL_lt ok
 have htw:=ok.tw
 have htw2:=ok.tw2
 refine Dfewest_1 a s1 ao1 n1 cp1 e1 s2 ao2 n2 cp2 e2 s3 ao3 n3 cp3 e3 _ _ _ (un (sZ a) kP1) (un (shTz a) 0) (un ((10^16:Nat):Int) 0) (shI a) (shA a) (shL a) (shH a) (shT a) (shJ a) (shF a) w p1 p2 hX l1 l2 (by omega) j1 j2 rfl rfl ?_ ?_ ?_ ?_ ?_ ?_
 ·intro W hW q1 q2
  exact DreadAs (hT.later hW) (Tab.later hI hW) ok ⟨_,_,_,_,_,_,_,_,_,_,rfl,q1,q2⟩
 ·intro W X hW hX
  exact Dshifted (b:=bU) (sZ_lt _) (by rw[bU_eq];omega) dk9.2.1 dk9.2.2 kP1_eq hX
 ·intro W X hW q1 q2 hX
  exact Dfloor (Z:=sZ a) (O:=shO a) (U:=shU a) (p:=kP1) (k:=bU) (l:=dB) (hT.later hW) ⟨_,_,_,_,_,_,_,_,_,_,rfl,q1,q2⟩ hX (sZ_lt a) t1 t2 t3 dkA
 ·intro W X hW hX
  rw[show shTz a=((shT a:Nat):Int) by unfold shT;omega] at hX
  exact Dword (by omega) hX
 ·intro W hW
  exact Dpower (bs:=10) (n:=16) (b:=60) (hT.later hW) (by omega) (by omega) (by omega) (by decide) (by omega) (fun V=>c156 16 (by omega) V)
 ·intro W X hW hX
  have e9:fwU 0=10000000000000000:=by decide
  rw[e9]
  have e8:(10:Nat)^16=10000000000000000:=by decide
  rw[e8] at hX
  exact Dword (N:=10000000000000000) (by decide) hX
def shD (a:Nat):List UInt8:=Lib.trimRightB (dcT (shF a)) 48
def shE (a:Nat):Int:=(dcT (shF a)).length - 1 - (16 - shX a)
theorem shF_len {a:Nat} (ok:ShOk a):(dcT (shF a)).length≤36:=by
 have:=dcT_len (N:=shF a) (b:=64) (by rw[show(2:Nat)^64=18446744073709551616 from by decide];exact shF_lt ok)
 omega
theorem trimR_len (L:List UInt8) (c:UInt8):(Lib.trimRightB L c).length≤L.length:=by
 unfold Lib.trimRightB
 rw[List.length_reverse]
 have:=(List.dropWhile_sublist (fun x=>x==c) (l:=L.reverse)).length_le
 rw[List.length_reverse] at this
 exact this
theorem Dshortest {a:Nat} {w:World} (hT:Tab32 w) (hI:Ie.Tab w) (ok:ShOk a) :
  Calls Tryz.prog 40 #[.float .f64 a] w fun r w'=>r=.returned (.tuple #[.string ⟨(shD a).toArray⟩,.int .i64 (shE a)])∧Bw w w':=by
 have hx:=ok.x
 have hfin:=ok.fin
 have hpos:=ok.pos
 have hn:neg a=false:=by unfold neg;exact decide_eq_false (by omega)
 have hz:sZ a=((fU a:Nat):Int):=by unfold sZ;rw[hn];rfl
 have hf0:fU a≠0:=by
  intro h0
  have h1:mag a=a:=by unfold mag;omega
  have h2:=Ie.mant_ne (a:=a) (by rw[h1];omega)
  unfold fU at h0
  rcases Nat.mul_eq_zero.1 h0 with h3|h3
  ·exact h2 h3
  ·exact absurd h3 (Nat.ne_of_gt (Nat.two_pow_pos _))
 have hl:=shF_len ok
 refine Dshortest_1 a (shX a) (shF a) (un (sZ a) kP) (un ((shO a:Nat):Int) 0) (un ((shU a:Nat):Int) 0) (un ((shF a:Nat):Int) 0) (dcT (shF a)) (shD a) w (by omega) (by omega) ?_ ?_ ?_ ?_ ?_ ?_ ?_
 ·intro W hW
  exact Dexact (hT.later hW) (Tab.later hI hW) (by omega) (mag_small hfin)
 ·intro W X hW hX
  rw[hz] at hX
  exact Dworth (hT.later hW) (fU_lt a) hf0 hX
 ·intro W hW
  exact DtenTo (hT.later hW) (by omega) (by omega) (fun n hn=>klen hn)
 ·intro W X S hW hX hS
  exact Dfewest (hT.later hW) (Tab.later hI hW) ok hX hS
 ·intro W hW
  exact DofWord (hT.later hW) (shF_lt ok)
 ·intro W X hW hX
  exact DwholeText (b:=64) (hT.later hW) (by rw[show(2:Nat)^64=18446744073709551616 from by decide];exact shF_lt ok) (by omega) hX
 ·intro W hW
  have:=Tryz.strings_TrimRight_one ⟨(dcT (shF a)).toArray⟩ 48 (by decide) W (by show(dcT (shF a)).length≤_;omega)
  refine this.mono ?_
  rintro r w' ⟨rfl,rfl⟩
  exact⟨rfl,Below.refl _ _⟩
def shS (a:Nat):List UInt8:=if shE a < -5∨20<shE a then exL (shD a) (Lib.itoa (shE a))else ptL (shD a) ((shD a).length - 1 - shE a)
theorem exL_len (d t:List UInt8):(exL d t).length≤d.length+t.length+3:=by
 unfold exL
 rw[List.length_append,List.length_append,List.length_cons,List.length_take]
 by_cases h:1<d.length
 ·rw[if_pos h,List.length_cons,List.length_drop];omega
 ·rw[if_neg h,List.length_nil];omega
theorem shS_len {a:Nat} (hl2:(shD a).length≤36) (hE : -1000≤shE a∧shE a≤1000):(shS a).length≤20000:=by
 have h1:=Lib.itoa_length_le (shE a) (by omega) (by omega)
 have h3:=exL_len (shD a) (Lib.itoa (shE a))
 have h2:=pt_len (d:=shD a) (p:=(shD a).length - 1 - shE a)
 unfold shS
 generalize shD a=D at *
 generalize shE a=E at *
 generalize Lib.itoa E=I at *
 by_cases h:E < -5∨20<E
 ·rw[if_pos h];omega
 ·rw[if_neg h];omega
theorem DShortest {a:Nat} {w:World} (hT:Tab32 w) (hI:Ie.Tab w) (h10:Tab10 w) (ok:ShOk a) (hd:0<(shD a).length) :
  Calls Tryz.prog 19 #[.float .f64 a] w fun r w'=>r=.returned (.string ⟨(shS a).toArray⟩)∧Bw w w':=by
 have hfin:=ok.fin
 have hpos:=ok.pos
 have hx:=ok.x
 have hl:=shF_len ok
 have hl2:(shD a).length≤36:=Nat.le_trans (trimR_len _ _) hl
 have hE : -1000≤shE a∧shE a≤1000:=by unfold shE;omega
 obtain⟨c1,c2,c3⟩:=cls_fin (mag_small hfin)
 have hn:neg a=false:=by unfold neg;exact decide_eq_false (by omega)
 have hlen:(shS a).length≤20000:=shS_len hl2 hE
 have e:sgL (neg a) (shS a)=shS a:=by unfold sgL;rw[hn,if_neg (by decide)]
 rw[←e]
 refine DShortest_1 a _ w ?_
 intro W g1 hW b1
 have kC:=fun V=>Ie.c9 a (by omega) V
 rw[c3] at kC
 refine Dtold_fin a _ _ (neg a) _ _ W c1 c2 hlen kC (enters Tryz.func39 (by kernel_rfl) (by kernel_rfl)) ?_
 refine DShort1_1 a a (shE a) (shD a) (shS a) g1 W b1 ?_ (by omega) (by omega) (fun V=>?_) ?_ ?_ ?_
 ·have q3:=unought (a:=a) (by omega)
  have h1:mag a≠0:=by unfold mag;omega
  rw[decide_eq_false h1] at q3
  have e9:(FloatKind.f64.format.order a 0 != some Ordering.eq) = !(FloatKind.f64.format.order a 0==some Ordering.eq):=rfl
  rw[e9] at q3
  simpa using q3
 ·have h1:mag a=a:=by unfold mag;omega
  have:=c159 a (by omega) V
  rw[h1] at this
  exact this
 ·exact Dshortest (hT.later hW) (Tab.later hI hW) ok
 ·intro hc V hV
  unfold shS
  rw[if_pos hc]
  exact Dexpon_1 (shD a) (Lib.itoa (shE a)) (shE a) V hd (by omega) (by have:=Lib.itoa_length_le (shE a) (by omega) (by omega);show(Lib.itoa (shE a)).length≤100;omega) (fun U hU=>Ditoa (by omega) (((h10.later hW).later hV).later hU))
 ·intro hc V hV
  unfold shS
  rw[if_neg hc]
  exact Dpointed (by omega) (by omega) (knz V)
def rdA (s:List UInt8) (m:Int):Nat×Int :=
 if ¬ (1≤m∧m≤3) then(0,1)else if 1048576<s.length then(0,2)
 else if csD s = [105,110,102] then((if csS s<0 then 18442240474082181120 else 9218868437227405312),0)else if csD s = [110,97,110] then(9221120237041090561,0)
 else if psOk (csD s)=false then(0,3)else if 1100<(psD (csD s)).length then(0,2)
 else(rdFl (decide (csS s<0)) (psb (csD s)) (psD (csD s)) (psH (csD s)) (psX (csD s)) m,0)
theorem exX_le (E:List UInt8) : -6000≤exX E∧exX E≤6000:=by
 unfold exX
 split
 ·have h:=rdE_le (csD E) (csD E).length
  have hsg:csS E=1∨csS E = -1:=by unfold csS;split <;> simp
  rcases hsg with h1|h1 <;> rw[h1] <;> omega
 ·omega
theorem psX_le (L:List UInt8) : -6000≤psX L∧psX L≤6000:=by
 unfold psX
 split
 ·exact exX_le _
 ·omega
theorem psb_or (L:List UInt8):(psb L=((10:Nat):Int)∧True)∨(psb L=((16:Nat):Int)∧True):=by
 unfold psb
 split
 ·exact .inr ⟨rfl,trivial⟩
 ·exact .inl ⟨rfl,trivial⟩
theorem psOk_dg {L:List UInt8} (h:psOk L=true):allDg (psD L) (psb L)=true:=by
 unfold psOk at h
 rw[Bool.and_eq_true] at h
 have h2:=h.2
 unfold dgO at h2
 rw[Bool.and_eq_true] at h2
 exact h2.1
theorem psH_le (L:List UInt8):psH L≤(psD L).length:=by unfold psH psD;rw[List.length_append];omega
theorem DRead {s:List UInt8} {m:Int} {w:World} (hT:Tab32 w) :
  Calls Tryz.prog 17 #[.string ⟨s.toArray⟩,.int .i64 m] w fun r w'=>r=.returned (.tuple #[.float .f64 (rdA s m).1,.int .i64 (rdA s m).2])∧Bw w w':=by
 unfold rdA
 have k0:=DisMode m
 by_cases hm:1≤m∧m≤3
 ·rw[if_neg (not_not_intro hm)]
  rw[decide_eq_true hm] at k0
  by_cases hL:1048576<s.length
  ·rw[if_pos hL]
   exact DRead_long s m w hL k0
  ·rw[if_neg hL]
   have kC:=fun W=>DcutSign s W (by omega)
   have hdl:=csD_len s
   have hsg:csS s=1∨csS s = -1:=by unfold csS;split <;> simp
   by_cases h1:csD s = [105,110,102]
   ·rw[if_pos h1]
    refine DRead_inf s (csD s) m (csS s) _ w (by omega) k0 kC h1 (fun W=>?_)
    rcases hsg with e|e
    ·rw[e,if_neg (by decide)];exact cinf_p W
    ·rw[e,if_pos (by decide)];exact cinf_m W
   ·rw[if_neg h1]
    by_cases h2:csD s = [110,97,110]
    ·rw[if_pos h2]
     exact DRead_nan s (csD s) m (csS s) _ w (by omega) k0 kC h2 (fun W=>Ie.c52 W)
    ·rw[if_neg h2]
     have g1:(csD s == [105,110,102])=false:=by rw[beq_eq_false_iff_ne];exact h1
     have g2:(csD s == [110,97,110])=false:=by rw[beq_eq_false_iff_ne];exact h2
     by_cases h3:psOk (csD s)=false
     ·rw[if_pos h3]
      refine DRead_form s (csD s) m (csS s) w (by omega) k0 kC g1 g2 (fun W hW=>?_)
      refine(Dsplit (csD s) W (by omega)).mono ?_
      rintro r w' ⟨b',D,h,x,rfl,-,hb⟩
      exact⟨b',D,h,x,by rw[h3],hb⟩
     ·rw[if_neg h3]
      have h3':psOk (csD s)=true:=by simpa using h3
      have kS:∀ W,Calls Tryz.prog 37 #[.string ⟨(csD s).toArray⟩] W fun r w'=>r=.returned (.tuple #[.agg #[.int .i64 (psb (csD s)),.string ⟨(psD (csD s)).toArray⟩,.int .i64 (psH (csD s):Int),.int .i64 (psX (csD s))],.bool true])∧Bw W w':=fun W=>by
       refine(Dsplit (csD s) W (by omega)).mono ?_
       rintro r w' ⟨b',D,h,x,rfl,hh,hb⟩
       obtain⟨e1,e2,e3,e4⟩:=hh h3'
       exact⟨by rw[e1,e2,e3,e4,h3'],hb⟩
      by_cases h4:1100<(psD (csD s)).length
      ·rw[if_pos h4]
       exact DRead_digits s (csD s) (psD (csD s)) m (csS s) _ _ _ w (by omega) k0 kC g1 g2 (fun W _=>kS W) h4
      ·rw[if_neg h4]
       refine DRead_ok s (csD s) (psD (csD s)) m (csS s) _ _ _ w (by omega) k0 kC g1 g2 (fun W _=>kS W) _ (by omega) (fun W hW=>?_)
       have hdg:=psOk_dg h3'
       have hx:=psX_le (csD s)
       have hh:=psH_le (csD s)
       rcases psb_or (csD s)with ⟨e,-⟩|⟨e,-⟩
       ·rw[e] at hdg ⊢
        exact Drounded (hT.later hW) (.inl rfl) hdg (by omega) (by omega) hx hm
       ·rw[e] at hdg ⊢
        exact Drounded (hT.later hW) (.inr rfl) hdg (by omega) (by omega) hx hm
 ·rw[if_pos hm]
  rw[decide_eq_false hm] at k0
  exact DRead_mode s m w k0
theorem wk_1:rdA [48,46,49] 2=(4591870180066957722,0):=by decide +kernel
theorem wk_2:rdA [45,49,101,45,52,48,48] 1=(9223372036854775809,0):=by decide +kernel
theorem wk_3:(rdA [49,120] 2).2=3:=by decide +kernel
theorem wk_4:sgL (neg 4612811918334230528) (ptL (dcT (uN 4612811918334230528 0 2)) 0) = [50]:=by decide +kernel
theorem wk_5:sgL (neg 4602678819172646912) (ptL (dcT (uN 4602678819172646912 (exP 4602678819172646912) 2)) (exP 4602678819172646912)) = [48,46,53]:=by decide +kernel
theorem wk_6:sgL (neg 4591870180066957722) (hxT 4591870180066957722) = [48,120,49,46,57,57,57,57,57,57,57,57,57,57,57,57,97,112,45,52]:=by decide +kernel
theorem wk_7:ShOk 4599075939470750515:=⟨by decide,by decide,by decide +kernel,by decide +kernel,by decide +kernel,by decide +kernel,by decide +kernel,by decide +kernel,by decide +kernel⟩
theorem wk_8:ShOk 4921056587992461136:=⟨by decide,by decide,by decide +kernel,by decide +kernel,by decide +kernel,by decide +kernel,by decide +kernel,by decide +kernel,by decide +kernel⟩
theorem wk_9:shS 4599075939470750515 = [48,46,51]∧0<(shD 4599075939470750515).length:=by decide +kernel
theorem wk_A:shS 4921056587992461136 = [49,101,50,49]∧0<(shD 4921056587992461136).length:=by decide +kernel
theorem Dlike (a b:Nat) (ha:a<18446744073709551616) (hb:b<18446744073709551616) (w:World) :
  Calls Tryz.prog 18 #[.float .f64 a,.float .f64 b] w fun r w'=>r=.returned (.bool (same a b))∧w'=w:=by
 have kb:=Ie.run_bits
 have q1:=self_ne a ha
 have q2:=self_ne b hb
 have e:same a b=(((a:Int)==(b:Int))||(isNaN a&&isNaN b)):=rfl
 rw[e]
 clear e
 cases ha':isNaN a
 ·rw[ha'] at q1
  clear q2 ha'
  go_enter Tryz.func18,Tryz.ntmps18
  go_wp2
  go_ret
  exact⟨by simp,rfl⟩
 ·rw[ha'] at q1
  clear ha'
  cases hb':isNaN b
  ·rw[hb'] at q2
   clear hb'
   go_enter Tryz.func18,Tryz.ntmps18
   go_wp2
   go_ret
   exact⟨by simp,rfl⟩
  ·rw[hb'] at q2
   clear hb'
   go_enter Tryz.func18,Tryz.ntmps18
   go_wp2
   go_ret
   exact⟨by simp,rfl⟩
theorem same_selfD (a:Nat):same a a=true:=by unfold same;simp
theorem Dworks_1 (e3:Nat) (w:World)
  (k1:∀ W,Bw w W→Calls Tryz.prog 17 #[.string ⟨#[48,46,49]⟩,.int .i64 2] W fun r w'=>r=.returned (.tuple #[.float .f64 4591870180066957722,.int .i64 0])∧Bw W w')
  (k2:∀ W,Bw w W→Calls Tryz.prog 17 #[.string ⟨#[45,49,101,45,52,48,48]⟩,.int .i64 1] W fun r w'=>r=.returned (.tuple #[.float .f64 9223372036854775809,.int .i64 0])∧Bw W w')
  (k3:∀ W,Bw w W→Calls Tryz.prog 17 #[.string ⟨#[49,120]⟩,.int .i64 2] W fun r w'=>r=.returned (.tuple #[.float .f64 e3,.int .i64 3])∧Bw W w')
  (k4:∀ W,Bw w W→Calls Tryz.prog 6 #[.float .f64 4612811918334230528,.int .i64 0,.int .i64 2] W fun r w'=>r=.returned (.tuple #[.string ⟨#[50]⟩,.int .i64 0])∧Bw W w')
  (k5:∀ W,Bw w W→Calls Tryz.prog 19 #[.float .f64 4599075939470750515] W fun r w'=>r=.returned (.string ⟨#[48,46,51]⟩)∧Bw W w')
  (k6:∀ W,Bw w W→Calls Tryz.prog 19 #[.float .f64 4921056587992461136] W fun r w'=>r=.returned (.string ⟨#[49,101,50,49]⟩)∧Bw W w')
  (k7:∀ W,Bw w W→Calls Tryz.prog 20 #[.float .f64 4591870180066957722] W fun r w'=>r=.returned (.string ⟨#[48,120,49,46,57,57,57,57,57,57,57,57,57,57,57,57,97,112,45,52]⟩)∧Bw W w')
  (k8:∀ W,Bw w W→Calls Tryz.prog 21 #[.float .f64 4602678819172646912] W fun r w'=>r=.returned (.string ⟨#[48,46,53]⟩)∧Bw W w')
  (m1:∀ W,Calls Tryz.prog 18 #[.float .f64 4591870180066957722,.float .f64 4591870180066957722] W fun r w'=>r=.returned (.bool true)∧w'=W)
  (m2:∀ W,Calls Tryz.prog 18 #[.float .f64 9223372036854775809,.float .f64 9223372036854775809] W fun r w'=>r=.returned (.bool true)∧w'=W) :
  Calls Tryz.prog 5 #[] w fun r w'=>r=.returned (.bool true)∧Bw w w':=by
 have q1:=k1 w (Below.refl _ _)
 have K2:Hid _:=k2
 have K3:Hid _:=k3
 have K4:Hid _:=k4
 have K5:Hid _:=k5
 have K6:Hid _:=k6
 have K7:Hid _:=k7
 have K8:Hid _:=k8
 clear k1 k2 k3 k4 k5 k6 k7 k8
 go_enter Tryz.func5,Tryz.ntmps5
 go_wp2_with fail
 refine q1.mono ?_
 rintro r w1 ⟨rfl,b1⟩
 have B1:Hid (Bw w w1):=b1
 have q2:=K2.out w1 b1
 clear q1 b1 K2
 go_wp2_with fail
 refine q2.mono ?_
 rintro r w2 ⟨rfl,b2⟩
 have B2:Hid (Bw w w2):=B1.out.trans (b2.mono B1.out.size)
 have q3:=K3.out w2 B2.out
 clear q2 b2 B1 K3
 go_wp2_with fail
 refine q3.mono ?_
 rintro r w3 ⟨rfl,b3⟩
 have B3:Hid (Bw w w3):=B2.out.trans (b3.mono B2.out.size)
 have q4:=K4.out w3 B3.out
 clear q3 b3 B2 K4
 go_wp2_with fail
 refine q4.mono ?_
 rintro r w4 ⟨rfl,b4⟩
 have B4:Hid (Bw w w4):=B3.out.trans (b4.mono B3.out.size)
 have q5:=K5.out w4 B4.out
 clear q4 b4 B3 K5
 go_wp2_with fail
 refine(m1 _).mono ?_
 rintro r w' ⟨rfl,hw⟩
 replace hw:=hw.symm
 subst hw
 clear m1
 go_wp2_with fail
 refine(m2 _).mono ?_
 rintro r w' ⟨rfl,hw⟩
 replace hw:=hw.symm
 subst hw
 clear m2
 go_wp2_with fail
 refine q5.mono ?_
 rintro r w5 ⟨rfl,b5⟩
 have B5:Hid (Bw w w5):=B4.out.trans (b5.mono B4.out.size)
 have q6:=K6.out w5 B5.out
 clear q5 b5 B4 K6
 go_wp2_with fail
 refine q6.mono ?_
 rintro r w6 ⟨rfl,b6⟩
 have B6:Hid (Bw w w6):=B5.out.trans (b6.mono B5.out.size)
 have q7:=K7.out w6 B6.out
 clear q6 b6 B5 K7
 go_wp2_with fail
 refine q7.mono ?_
 rintro r w7 ⟨rfl,b7⟩
 have B7:Hid (Bw w w7):=B6.out.trans (b7.mono B6.out.size)
 have q8:=K8.out w7 B7.out
 clear q7 b7 B6 K8
 go_wp2_with fail
 refine q8.mono ?_
 rintro r w8 ⟨rfl,b8⟩
 have B8:Hid (Bw w w8):=B7.out.trans (b8.mono B7.out.size)
 clear q8 b8 B7
 go_wp2
 go_ret
 exact⟨rfl,B8.out⟩
theorem Dworks {w:World} (hT:Tab32 w) (hI:Ie.Tab w) (h10:Tab10 w):Calls Tryz.prog 5 #[] w fun r w'=>r=.returned (.bool true)∧Bw w w':=by
 have like:∀ a,a<18446744073709551616→∀ W,Calls Tryz.prog 18 #[.float .f64 a,.float .f64 a] W fun r w'=>r=.returned (.bool true)∧w'=W:=fun a ha W=>by
  have:=Dlike a a ha ha W
  rw[same_selfD] at this
  exact this
 refine Dworks_1 (rdA [49,120] 2).1 w ?_ ?_ ?_ ?_ ?_ ?_ ?_ ?_ (like _ (by decide)) (like _ (by decide))
 ·intro W hW
  have:=DRead (s := [48,46,49]) (m:=2) (hT.later hW)
  rw[wk_1] at this
  exact this
 ·intro W hW
  have:=DRead (s := [45,49,101,45,52,48,48]) (m:=1) (hT.later hW)
  rw[wk_2] at this
  exact this
 ·intro W hW
  have:=DRead (s := [49,120]) (m:=2) (hT.later hW)
  rw[wk_3] at this
  exact this
 ·intro W hW
  have:=DFixed (a:=4612811918334230528) (pl:=0) (m:=2) (hT.later hW) (Tab.later hI hW) (by decide) (by decide) (by decide) (by decide) (by decide)
  rw[wk_4] at this
  exact this
 ·intro W hW
  have:=DShortest (hT.later hW) (Tab.later hI hW) (h10.later hW) wk_7 wk_9.2
  rw[wk_9.1] at this
  exact this
 ·intro W hW
  have:=DShortest (hT.later hW) (Tab.later hI hW) (h10.later hW) wk_8 wk_A.2
  rw[wk_A.1] at this
  exact this
 ·intro W hW
  have:=DHex (a:=4591870180066957722) (Tab.later hI hW) (h10.later hW) (by decide) (by decide)
  rw[wk_6] at this
  exact this
 ·intro W hW
  have:=DExact (a:=4602678819172646912) (hT.later hW) (Tab.later hI hW) (by decide) (by decide)
  rw[wk_5] at this
  exact this
theorem stp_pos {a:Nat} (h:a≤9218868437227405312):stp a=(a:Int):=by
 have h1:neg a=false:=by unfold neg;exact decide_eq_false (by omega)
 have h2:mag a=a:=by unfold mag;omega
 unfold stp sgn
 rw[h1,h2];rfl
theorem lt_pos {a b:Nat} (ha:a≤9218868437227405312) (hb:b≤9218868437227405312):lt a b=decide (a<b):=by
 have h1:isNaN a=false:=by unfold isNaN mag;exact decide_eq_false (by omega)
 have h2:isNaN b=false:=by unfold isNaN mag;exact decide_eq_false (by omega)
 have e1:=stp_pos ha
 have e2:=stp_pos hb
 unfold lt
 rw[h1,h2,e1,e2]
 by_cases h:a<b
 ·rw[decide_eq_true h,decide_eq_true (by omega)];rfl
 ·rw[decide_eq_false h,decide_eq_false (by omega)];rfl
theorem eq_pos {a b:Nat} (ha:a≤9218868437227405312) (hb:b≤9218868437227405312):eq a b=decide (a=b):=by
 have h1:isNaN a=false:=by unfold isNaN mag;exact decide_eq_false (by omega)
 have h2:isNaN b=false:=by unfold isNaN mag;exact decide_eq_false (by omega)
 have e1:=stp_pos ha
 have e2:=stp_pos hb
 unfold eq
 rw[h1,h2,e1,e2]
 by_cases h:a=b
 ·rw[decide_eq_true h,decide_eq_true (by omega)];rfl
 ·rw[decide_eq_false h,decide_eq_false (by omega)];rfl
end Go.Proofs.YthhaamilfioddaaGreatDoor
namespace Go.Proofs.YthhaamilfioddaaGreatDoor
open Go.RowKit Go.Fl64
end Go.Proofs.YthhaamilfioddaaGreatDoor
namespace Go.Proofs.YthhaamilfioddaaGreatDoor
open Go Go.RowKit Go.Fl64
theorem eval_cst (a:Act) (v:Value):a.eval (.const v)=v:=rfl
def BC (U:World) (v:Value) (L:List UInt8):Prop:=∃ ao cap,v=.slice ao L.length cap∧(L ≠ []→∃ g,ao=some ⟨g,0,none⟩∧∀ i (h:i<L.length),U.cell? ⟨g,i,none⟩=some (.int .u8 (L[i].toNat:Int)))
theorem OB.bc {w wr:World} {v:Value} {L:List UInt8} (h:OB w wr v L):BC wr v L:=by
 obtain⟨⟨hlen,h|⟨g,cp,cur,rfl,hg1,hg2,hg3,hg4,hg5,hg6⟩⟩,hBB⟩:=h
 ·have hl:=h.2
  exact⟨none,0,by rw[h.1,hl],fun hL=>absurd (List.length_eq_zero_iff.1 hl) hL⟩
 ·refine⟨_,_,rfl,fun hL=>⟨g,rfl,fun i hi=>?_⟩⟩
  rw[Lib.cell_of_heap hg2]
  have h8:(cur.toList.take (L.length*1))[i]?=(Lib.byteCells L)[i]?:=by rw[hg6]
  rw[List.getElem?_take_of_lt (by omega)] at h8
  rw[←Array.getElem?_toList,h8]
  simp[Lib.byteCells,hi]
theorem conv_nil (w:World) (ao:Option Addr) (cap:Nat):(convert 52 9 (.slice ao 0 cap)).run Tryz.prog w=.ok (.string ⟨#[]⟩) w:=by
 cases ao with
 | some a=>exact run_convert_bytes_back (P:=Tryz.prog) w 52 9 5 a cap [] Tryz.underlying52 Tryz.underlying5 Tryz.underlying9 (fun j hj=>absurd hj (Nat.not_lt_zero _))
 | none =>
  rw[run_convert_bytes_string w 52 9 5 none 0 cap Tryz.underlying52 Tryz.underlying5 Tryz.underlying9]
  rfl
theorem BC.conv {U:World} {v:Value} {L:List UInt8} (h:BC U v L):(convert 52 9 v).run Tryz.prog U=.ok (.string ⟨L.toArray⟩) U:=by
 obtain⟨ao,cap,rfl,h2⟩:=h
 by_cases hL:L = []
 ·subst hL
  exact conv_nil U ao cap
 ·obtain⟨g,rfl,h4⟩:=h2 hL
  exact run_convert_bytes_back (P:=Tryz.prog) U 52 9 5 ⟨g,0,none⟩ cap L Tryz.underlying52 Tryz.underlying5 Tryz.underlying9 (fun i hi=>by
   have ea:(⟨g,0,none⟩:Addr).add i=⟨g,i,none⟩:=by simp[Addr.add,eq_comm]
   rw[ea]
   exact h4 i hi)
def NbQ (W:World) (g:Nat) (s:Bool) (ao:Option Addr) (n cp:Nat) (e:Int) (T:Bool×Nat×Int):Prop:=W.heap[g]?=some (.cells #[.bool s,.slice ao n cp,.int .i64 e] 30 (0,0))∧DN W (.agg #[.bool s,.slice ao n cp,.int .i64 e]) T
theorem NbQ.later {W w':World} {g:Nat} {s:Bool} {ao:Option Addr} {n cp:Nat} {e:Int} {T:Bool×Nat×Int} (h:NbQ W g s ao n cp e T) (hb:Bw W w'):NbQ w' g s ao n cp e T :=
 ⟨box_later h.1 hb (Array.getElem?_eq_some_iff.1 h.1).1,h.2.later hb⟩
theorem gat_storeQ {W:World} {ao:Option Addr} {n z g:Nat} {x y v:Value} {s0:Bool} {ao0:Option Addr} {n0 cp0:Nat} {e0:Int} (h:At W ao n z) (hE:W.heap[g]?=some (.cells #[.bool s0,.slice ao0 n0 cp0,.int .i64 e0] 30 (0,0))):At (((W.setCell ⟨g,0,none⟩ x).setCell ⟨g,1,none⟩ y).setCell ⟨g,2,none⟩ v) ao n z:=by
 obtain⟨bb,o,h1,h2⟩:=h
 refine⟨bb,o,h1,fun i hi=>?_⟩
 have hc:=h2 i hi
 have hne:bb≠g:=by
  rintro rfl
  simp only[World.cell?,hE] at hc
  rcases(show o+i=0∨o+i=1∨o+i=2∨3≤o+i by omega)with e|e|e|e
  ·rw[e] at hc;simp at hc
  ·rw[e] at hc;simp at hc
  ·rw[e] at hc;simp at hc
  ·rw[Array.getElem?_eq_none (by simpa using e)] at hc;cases hc
 rw[cell_far3 hne]
 exact hc
theorem DN.storeQ {W:World} {A:Value} {t:Bool×Nat×Int} {g:Nat} {s0:Bool} {ao0:Option Addr} {n0 cp0:Nat} {e0:Int} (h:DN W A t) (hE:W.heap[g]?=some (.cells #[.bool s0,.slice ao0 n0 cp0,.int .i64 e0] 30 (0,0))) (x y v:Value):DN (((W.setCell ⟨g,0,none⟩ x).setCell ⟨g,1,none⟩ y).setCell ⟨g,2,none⟩ v) A t:=by
 obtain⟨ao,cap,h1,h2⟩:=h
 exact⟨ao,cap,h1,h2.nil,gat_storeQ h2.at_ hE,h2.le,h2.small⟩
theorem NbQ.put {W:World} {g:Nat} {s:Bool} {ao:Option Addr} {n cp:Nat} {e:Int} {T:Bool×Nat×Int} (h:NbQ W g s ao n cp e T) {s':Bool} {ao':Option Addr} {n' cp':Nat} {e':Int} {T':Bool×Nat×Int} (hd:DN W (.agg #[.bool s',.slice ao' n' cp',.int .i64 e']) T') :
  NbQ (((W.setCell ⟨g,0,none⟩ (.bool s')).setCell ⟨g,1,none⟩ (.slice ao' n' cp')).setCell ⟨g,2,none⟩ (.int .i64 e')) g s' ao' n' cp' e' T' :=
 ⟨store3_29 _ _ _ h.1,hd.storeQ h.1 _ _ _⟩
theorem heap_otherQ {W:World} {g k:Nat} {o:Obj} (h:W.heap[k]?=some o) (hk:k≠g) (x y v:Value):(((W.setCell ⟨g,0,none⟩ x).setCell ⟨g,1,none⟩ y).setCell ⟨g,2,none⟩ v).heap[k]?=some o:=by
 have h':¬ g=k:=fun e=>hk e.symm
 simp[World.setCell,Array.getElem?_modify,h',h]
theorem NbQ.other {W:World} {g k:Nat} {s:Bool} {ao:Option Addr} {n cp:Nat} {e:Int} {T:Bool×Nat×Int} (h:NbQ W k s ao n cp e T) {s0:Bool} {ao0:Option Addr} {n0 cp0:Nat} {e0:Int} (hE:W.heap[g]?=some (.cells #[.bool s0,.slice ao0 n0 cp0,.int .i64 e0] 30 (0,0))) (hk:k≠g) (x y v:Value) :
  NbQ (((W.setCell ⟨g,0,none⟩ x).setCell ⟨g,1,none⟩ y).setCell ⟨g,2,none⟩ v) k s ao n cp e T :=
 ⟨heap_otherQ h.1 hk _ _ _,h.2.storeQ hE _ _ _⟩
theorem run_bs1F (d:Int) (w:World):(Instr.buildSlice 28 1 #[(0,.int .u32 d)]).run Tryz.prog w=.ok (.slice (some ⟨w.heap.size,0,none⟩) 1 1) (w.alloc (.cells #[.int .u32 d] 57)):=by kernel_rfl
theorem run_cvF (d:Nat) (w:World) (h:d<256):(convert 5 57 (.int .u8 (d:Int))).run Tryz.prog w=.ok (.int .u32 (d:Int)) w:=by
 have e:(convert 5 57 (.int .u8 (d:Int))).run Tryz.prog w=.ok (.int .u32 (IntKind.u32.wrap (d:Int))) w:=by kernel_rfl
 rw[e,IntKind.wrap_u32,Int.emod_eq_of_lt (by omega) (by omega)]
theorem run_ixF (s:ByteArray) (j c:Nat) (h:j<s.size) (hc:(s[j]'h).toNat=c) (w:World):(Instr.index 9 (.string s) (.int .i64 (j:Int))).run Tryz.prog w=.ok (.int .u8 (c:Int)) w:=by
 rw[run_index_string w 9 s .i64 (j:Int) (by kernel_rfl),dif_pos ⟨by omega,by omega⟩]
 have:(s[(j:Int).toNat]'(by omega)).toNat=c:=hc
 rw[this]
theorem ir_stays (x:Nat):Stays (fun w u=>Ir w u x):=fun _ _ _ hb h=>Ir.later h hb
theorem cell1_stays (d:Nat):Stays (fun w u=>∃ g,u=.slice (some ⟨g,0,none⟩) 1 1∧w.cell? ⟨g,0,none⟩=some (.int .u32 (d:Int))):=fun _ _ _ hb h=>by
 obtain⟨g,h1,h2⟩:=h
 exact⟨g,h1,(hb.cell (World.block_lt_of_cell? _ _ h2)).trans h2⟩
theorem dg_dF {d:Nat} (h:d<16):dg d 0=d:=by unfold dg;rw[Nat.pow_zero,Nat.div_one];exact Nat.mod_eq_of_lt (Nat.lt_trans h (by decide))
theorem dlen_dF {d:Nat} (h:d<16):dlen d≤1:=(dlen_le _ _).2 (by rw[Nat.pow_one];exact Nat.lt_trans h (by decide))
theorem at_dF {V:World} {g d m:Nat} (hm:m≤1) (hcl:V.cell? ⟨g,0,none⟩=some (.int .u32 (d:Int))) (h:d<16):At V (some ⟨g,0,none⟩) m d:=by
 refine⟨g,0,fun _=>rfl,fun i hi=>?_⟩
 obtain rfl:i=0:=by omega
 rw[dg_dF h]
 exact hcl
theorem ir_newd (U:World) (d:Nat) (h0:0<d) (h:d<16):Ir (U.alloc (.cells #[.int .u32 (d:Int)] 57)) (.slice (some ⟨U.heap.size,0,none⟩) 1 1) d:=by
 have hd:dlen d=1:=by
  have h1:=dlen_dF h
  have h2:=dlen_pos (x:=d) (by omega)
  omega
 refine⟨_,1,by rw[hd],by rw[hd];omega,?_⟩
 rw[hd]
 refine at_dF (Nat.le_refl _) ?_ h
 simp only[World.cell?,heap_alloc_new]
 rfl
theorem ir_new10 (U:World):Ir (U.alloc (.cells #[.int .u32 10] 57)) (.slice (some ⟨U.heap.size,0,none⟩) 1 1) 10:=ir_newd U 10 (by decide) (by decide)
theorem ir_nilF (w:World):Ir w (.slice none 0 0) 0:=⟨none,0,by rw[dlen_zero],by rw[dlen_zero];omega,0,0,fun h=>by rw[dlen_zero] at h;omega,fun i hi=>by rw[dlen_zero] at hi;omega⟩
theorem dvP_lt10 {D:List UInt8} (h:∀ j,j<D.length→dgB (bL D j)<10):∀ k,k≤D.length→dvP 10 D k<10^k
 | 0,_=>by simp[dvP]
 | k+1,hk=>by
  have h1:=dvP_lt10 h k (by omega)
  have h2:=h k (by omega)
  show dvP 10 D k*10+dgB (bL D k)<10^(k+1)
  rw[Nat.pow_succ]
  omega
theorem dlen_10 {x k:Nat} (h:x<10^k):dlen x≤k:=(dlen_le _ _).2 (Nat.lt_of_lt_of_le h (Nat.pow_le_pow_left (by decide) _))
theorem d2digits (L:List UInt8) (n:Nat) (w:World) (hn:Hid (n=L.length)) (hL:n≤2000) (hd:Hid (∀ j,j<n→48≤bL L j∧bL L j≤57)) :
  Calls Tryz.prog 28 #[.string ⟨L.toArray⟩] w fun r w'=>∃ A,r=.returned A∧DN w' A (un (dvP 10 L n:Nat) 0)∧Bw w w':=by
 obtain⟨R,hR⟩:∃ R:ByteArray,R=⟨L.toArray⟩:=⟨_,rfl⟩
 have hRs:R.size=n:=by rw[hR,hn.out];rfl
 have hRg:∀ k (h:k<R.size),(R[k]'h).toNat=bL L k:=by subst hR;exact bL_get L
 have HR:Hid (R=⟨L.toArray⟩):=hR
 rw[←hR]
 clear hR
 have HRg:Hid (∀ k (h:k<R.size),(R[k]'h).toNat=bL L k):=hRg
 clear hRg
 have HQ:Hid (∀ j,j<n→dgB (bL L j)<10∧dgB (bL L j)=bL L j - 48):=(fun j hj=>by
  have:=hd.out j hj
  unfold dgB
  constructor <;> (split <;> omega):∀ j,j<n→dgB (bL L j)<10∧dgB (bL L j)=bL L j - 48)
 obtain⟨W,hW⟩:∃ W,W=w.alloc (.cells #[.bool false,.slice none 0 0,.int .i64 0] 30):=⟨_,rfl⟩
 have HW:Hid (Bw w W∧W.heap[w.heap.size]?=some (.cells #[.bool false,.slice none 0 0,.int .i64 0] 30 (0,0))):=⟨by rw[hW];exact(Below.refl _ _).alloc (Nat.le_refl _) _,by rw[hW];exact heap_alloc_new _ _⟩
 go_enter Tryz.func28,Tryz.ntmps28
 go_wp2_with fail
 rw[←hW]
 clear hW
 go_loopw [3,4] (fun v x wr=>∃ i:Nat,i≤n∧x=.int .i64 (i:Nat)∧Ir wr v (dvP 10 L i)∧Bw W wr) (fun _ x _=>n - (intOf x).toNat)
 case atStart=>exact⟨0,Nat.zero_le _,rfl,ir_nilF W,Below.refl _ _⟩
 case round =>
  obtain⟨i,hi,rfl,HV,HB0⟩:=hrel
  have HB:Hid (Bw W wr):=HB0
  clear HB0
  have HVV:Hid (Ir wr _ (dvP 10 L i)):=HV
  clear HV
  have hxl:dvP 10 L i<10^i:=dvP_lt10 (fun j hj=>(HQ.out j (by have:=hn.out;omega)).1) i (by have:=hn.out;omega)
  have hx1:=dlen_10 hxl
  have hx2:dlen (dvP 10 L i*10)≤i+1:=dlen_10 (by rw[Nat.pow_succ];omega)
  obtain⟨x,hX⟩:∃ x,x=dvP 10 L i:=⟨_,rfl⟩
  rw[←hX] at HVV hx1 hx2
  have HX:Hid (x=dvP 10 L i):=hX
  clear hX hxl
  obtain⟨ao,cap,rfl,hcap,hAt⟩:=HVV.out
  clear HVV
  by_cases hin:i<n
  ·have hii:(i:Int)<(n:Int):=by omega
   have hiR:i<R.size:=by omega
   obtain⟨c,hc⟩:∃ c,c=bL L i:=⟨_,rfl⟩
   have hRc:(R[i]'hiR).toNat=c:=by rw[hc];exact HRg.out i hiR
   have h1:=HQ.out i hin
   have h2:=hd.out i hin
   obtain⟨d,hdd⟩:∃ d,d=dgB (bL L i):=⟨_,rfl⟩
   rw[←hdd,←hc] at h1
   rw[←hc] at h2
   have hdl:d<16:=by omega
   have hw2:IntKind.u8.wrap ((c:Int) - 48)=(d:Int):=by rw[IntKind.wrap_u8];omega
   have HD:Hid (d=dgB (bL L i)):=hdd
   clear hdd hc
   go_upto_region 5 with fail
   refine valL_region follows_mixed 11 11 [[],[],[0,1],[],[],[3,4],[5],[6],[7],[8],[2,9]] wr _ [isV (.slice ao (dlen x) cap),fun w u=>Ir w u 10,fun w u=>Ir w u (x*10),isV (.string R),isV (.int .i64 (i:Nat)),isV (.int .u8 (c:Nat)),isV (.int .u8 (d:Nat)),isV (.int .u32 (d:Nat)),fun w u=>∃ g,u=.slice (some ⟨g,0,none⟩) 1 1∧w.cell? ⟨g,0,none⟩=some (.int .u32 (d:Int)),fun w u=>Ir w u d,fun w u=>Ir w u (x*10+d)] (by kernel_rfl) ⟨isV_stays _,ir_stays 10,ir_stays (x*10),isV_stays _,isV_stays _,isV_stays _,isV_stays _,isV_stays _,cell1_stays d,ir_stays d,ir_stays (x*10+d),trivial⟩ (by show 22≤24;decide) ?_ ?_
   ·intro j hj o ho act U hb hoth hdep
    have hj':j<11:=hj
    have t3':act.tmps[(3:Nat)]?=some (Value.slice ao (dlen x) cap):=(hoth 3 (by omega)).trans rfl
    have t0':act.tmps[(0:Nat)]?=some (Value.string R):=(hoth 0 (by omega)).trans rfl
    have t4':act.tmps[(4:Nat)]?=some (Value.int .i64 (i:Nat)):=(hoth 4 (by omega)).trans rfl
    rcases(by omega:j=0∨j=1∨j=2∨j=3∨j=4∨j=5∨j=6∨j=7∨j=8∨j=9∨j=10)with rfl|rfl|rfl|rfl|rfl|rfl|rfl|rfl|rfl|rfl|rfl
    ·obtain rfl:=Option.some.inj ho
     exact owp_move rfl t3' ⟨_,rfl,rfl,Below.refl _ _⟩
    ·obtain rfl:=Option.some.inj ho
     refine owp_run1 (w':=U.alloc (.cells #[.int .u32 (10:Int)] 57)) (v:=.slice (some ⟨U.heap.size,0,none⟩) 1 1) (by simp[execOp,eval_cst,run_bs1F (10:Int) U]) ⟨_,rfl,ir_new10 U,(Below.refl _ _).alloc (Nat.le_refl _) _⟩
    ·obtain rfl:=Option.some.inj ho
     have y0:act.tmps[(11:Nat)]?=_:=dV (hdep 0 (by simp[dL])) rfl
     obtain⟨u1,y10,v1⟩:=hdep 1 (by simp[dL])
     have y1:act.tmps[(12:Nat)]?=_:=y10
     refine owp_call rfl (enters Tryz.func31 (by kernel_rfl) (by kernel_rfl)) (vs:=#[.slice ao (dlen x) cap,u1]) (by simp[eval_get y0,eval_get y1]) ?_
     refine(rprod (x:=x) (y:=10) ((show Ir wr _ x from⟨ao,cap,rfl,hcap,hAt⟩).later hb) v1 (by omega) (Nat.le_trans (dlen_dF (by decide:10<16)) (by decide))).mono ?_
     rintro r w' ⟨v,rfl,hO,hb'⟩
     exact⟨_,rfl,_,rfl,hO.is.ir,hb'⟩
    ·obtain rfl:=Option.some.inj ho
     exact owp_move rfl t0' ⟨_,rfl,rfl,Below.refl _ _⟩
    ·obtain rfl:=Option.some.inj ho
     exact owp_move rfl t4' ⟨_,rfl,rfl,Below.refl _ _⟩
    ·obtain rfl:=Option.some.inj ho
     have y3:act.tmps[(14:Nat)]?=_:=dV (hdep 3 (by simp[dL])) rfl
     have y4:act.tmps[(15:Nat)]?=_:=dV (hdep 4 (by simp[dL])) rfl
     exact owp_run1 (w':=U) (v:=.int .u8 (c:Int)) (by simp[execOp,eval_get y3,eval_get y4,run_ixF R i c (by omega) hRc U]) ⟨_,rfl,rfl,Below.refl _ _⟩
    ·obtain rfl:=Option.some.inj ho
     have y5:act.tmps[(16:Nat)]?=_:=dV (hdep 5 (by simp[dL])) rfl
     exact owp_run1 (w':=U) (v:=.int .u8 (d:Int)) (by simp[execOp,y5,go_sem,hw2]) ⟨_,rfl,rfl,Below.refl _ _⟩
    ·obtain rfl:=Option.some.inj ho
     have y6:act.tmps[(17:Nat)]?=_:=dV (hdep 6 (by simp[dL])) rfl
     exact owp_run1 (w':=U) (v:=.int .u32 (d:Int)) (by simp[execOp,eval_get y6,run_cvF d U (by omega)]) ⟨_,rfl,rfl,Below.refl _ _⟩
    ·obtain rfl:=Option.some.inj ho
     have y7:act.tmps[(18:Nat)]?=_:=dV (hdep 7 (by simp[dL])) rfl
     refine owp_run1 (w':=U.alloc (.cells #[.int .u32 (d:Int)] 57)) (v:=.slice (some ⟨U.heap.size,0,none⟩) 1 1) (by simp[execOp,eval_get y7,eval_cst,run_bs1F (d:Int) U]) ⟨_,rfl,⟨_,rfl,?_⟩,(Below.refl _ _).alloc (Nat.le_refl _) _⟩
     simp only[World.cell?,heap_alloc_new]
     rfl
    ·obtain rfl:=Option.some.inj ho
     obtain⟨u8,y80,v8⟩:=hdep 8 (by simp[dL])
     have y8:act.tmps[(19:Nat)]?=_:=y80
     obtain⟨g,rfl,hcl⟩:=v8
     refine owp_call rfl (enters Tryz.func64 (by kernel_rfl) (by kernel_rfl)) (by simp[eval_get y8];rfl) ?_
     refine(r40 (some ⟨g,0,none⟩) 1 1 d U (dlen_dF hdl) (by omega) (by omega) (at_dF (Nat.le_refl _) hcl hdl)).mono ?_
     rintro r w' ⟨rfl,rfl⟩
     exact⟨_,rfl,_,rfl,⟨_,_,rfl,dlen_dF hdl,at_dF (dlen_dF hdl) hcl hdl⟩,Below.refl _ _⟩
    ·obtain rfl:=Option.some.inj ho
     obtain⟨u2,y20,v2⟩:=hdep 2 (by simp[dL])
     have y2:act.tmps[(13:Nat)]?=_:=y20
     obtain⟨u9,y90,v9⟩:=hdep 9 (by simp[dL])
     have y9:act.tmps[(20:Nat)]?=_:=y90
     refine owp_call rfl (enters Tryz.func63 (by kernel_rfl) (by kernel_rfl)) (vs:=#[u2,u9]) (by simp[eval_get y2,eval_get y9]) ?_
     refine(rsum (x:=x*10) (y:=d) v2 v9 (by omega) (by have:=dlen_dF hdl;omega)).mono ?_
     rintro r w' ⟨v,rfl,hI,hb'⟩
     exact⟨_,rfl,_,rfl,hI,hb'⟩
   ·intro o ho u W9 hb9 hu
    have hop:o.op=.assign (.tmp 21):=by rw[←Option.some.inj ho];rfl
    have hds:o.dst=some 3:=by rw[←Option.some.inj ho];rfl
    clear ho
    have u10:(fun w u=>Ir w u (x*10+d)) W9 (u 10):=hu 10 (by show 10<11;decide)
    clear hu
    simp only[putL,show List.range 11 = [0,1,2,3,4,5,6,7,8,9,10] from rfl,List.length_cons,List.length_nil,List.getD_cons_zero,List.getD_cons_succ,List.map_cons,List.map_nil,List.cons_append,List.nil_append,List.foldl_cons,List.foldl_nil,Nat.reduceLT,Nat.reduceMod,Nat.reduceDiv,Nat.reduceMul,Nat.reduceAdd,Nat.reduceEqDiff,reduceIte,Nat.one_ne_zero,Act.put,List.setIfInBounds_toArray,List.set_cons_zero,List.set_cons_succ]
    refine owp_assign (v:=u 10) hop rfl ?_
    rw[hds]
    simp only[Act.put,List.setIfInBounds_toArray,List.set_cons_zero,List.set_cons_succ]
    have HF:Hid (Ir W9 (u 10) (x*10+d)∧Bw W W9):=⟨u10,HB.out.trans (hb9.mono HB.out.size)⟩
    clear u10 hb9
    go_wp2_with fail
    refine⟨⟨i+1,by omega,rfl,?_,HF.out.2⟩,by simp only[intOf];omega⟩
    show Ir W9 (u 10) (dvP 10 L i*10+(dgB (bL L i)))
    rw[←HX.out,←HD.out]
    exact HF.out.1
  ·obtain rfl:i=n:=by omega
   have hii:¬ (i:Int)<(i:Int):=by omega
   have k9:=rnorm (neg:=false) (v:=.slice ao (dlen x) cap) (x:=x) (e:=0) (w:=wr) ⟨ao,cap,rfl,hcap,hAt⟩ (by omega) (by omega)
   clear hAt hcap
   go_wp2_with fail
   refine k9.mono ?_
   rintro r w1 ⟨A,rfl,hA,hb1⟩
   clear k9
   have hD:DN w1 A (un ((x:Nat):Int) 0):=by
    have h9:=hA.dn
    unfold un
    rw[decide_eq_false (by omega),Int.natAbs_natCast]
    exact h9
   obtain⟨s1,ao1,n1,cp1,e1,rfl⟩:=hD.shape
   have hbx:=box_later HW.out.2 (HB.out.trans (hb1.mono HB.out.size)) (lt_of_box HW.out.2)
   have HD9:Hid (DN w1 (.agg #[.bool s1,.slice ao1 n1 cp1,.int .i64 e1]) (un ((x:Nat):Int) 0)∧w1.heap[w.heap.size]?=some (.cells #[.bool false,.slice none 0 0,.int .i64 0] 30 (0,0))∧Bw w w1):=⟨hD,hbx,by
    have h1:=HB.out.trans (hb1.mono HB.out.size)
    exact HW.out.1.trans (h1.mono HW.out.1.size)⟩
   obtain⟨⟨c0,c1,c2⟩,f0,f1,f2⟩:=box_cells29 hbx
   clear hA hb1 hD hbx
   go_wp2_with fail
   refine bodyPost_ret (results_cell_row rfl _ _ (w.heap.size) 30 #[.bool s1,.slice ao1 n1 cp1,.int .i64 e1] (0,0) _ rfl (store3_29 _ _ _ HD9.out.2.1) Tryz.underlying30 rfl Tryz.info30) rfl ?_
   exact⟨_,rfl,by rw[←HX.out];exact HD9.out.1.storeQ HD9.out.2.1 _ _ _,below_store3 HD9.out.2.2 (Nat.le_refl _) _ _ _⟩
def TnB (w:World) (g3 g4:Nat) (a b:Nat) (wr:World) (s1:Bool) (ao1:Option Addr) (n1 cp1:Nat) (e1:Int) (s2:Bool) (ao2:Option Addr) (n2 cp2:Nat) (e2:Int):Prop :=
 NbQ wr g3 s1 ao1 n1 cp1 e1 (un ((10^a:Nat):Int) 0)∧NbQ wr g4 s2 ao2 n2 cp2 e2 (un ((10^b:Nat):Int) 0)∧wr.heap[w.heap.size]?=some (.cells #[.bool false,.slice none 0 0,.int .i64 0] 30 (0,0))∧Bw w wr∧w.heap.size<g3∧g3<g4∧g4<wr.heap.size
theorem TnB.put3 {w wr w':World} {g3 g4 a b a':Nat} {s1:Bool} {ao1:Option Addr} {n1 cp1:Nat} {e1:Int} {s2:Bool} {ao2:Option Addr} {n2 cp2:Nat} {e2:Int} {s3:Bool} {ao3:Option Addr} {n3 cp3:Nat} {e3:Int} (h:TnB w g3 g4 a b wr s1 ao1 n1 cp1 e1 s2 ao2 n2 cp2 e2) (hb:Bw wr w') (hd:DN w' (.agg #[.bool s3,.slice ao3 n3 cp3,.int .i64 e3]) (un ((10^a':Nat):Int) 0)):TnB w g3 g4 a' b (((w'.setCell ⟨g3,0,none⟩ (.bool s3)).setCell ⟨g3,1,none⟩ (.slice ao3 n3 cp3)).setCell ⟨g3,2,none⟩ (.int .i64 e3)) s3 ao3 n3 cp3 e3 s2 ao2 n2 cp2 e2:=by
 obtain⟨h1,h2,h3,h4,h5,h6,h7⟩:=h
 have hs:=hb.size
 have b1:=h1.later hb
 refine⟨b1.put hd,(h2.later hb).other b1.1 (by omega) _ _ _,heap_otherQ (box_later h3 hb (by omega)) (by omega) _ _ _,below_store3 (h4.trans (hb.mono h4.size)) (by omega) _ _ _,h5,h6,by simp[World.setCell];omega⟩
theorem TnB.put4 {w wr w':World} {g3 g4 a b b':Nat} {s1:Bool} {ao1:Option Addr} {n1 cp1:Nat} {e1:Int} {s2:Bool} {ao2:Option Addr} {n2 cp2:Nat} {e2:Int} {s3:Bool} {ao3:Option Addr} {n3 cp3:Nat} {e3:Int} (h:TnB w g3 g4 a b wr s1 ao1 n1 cp1 e1 s2 ao2 n2 cp2 e2) (hb:Bw wr w') (hd:DN w' (.agg #[.bool s3,.slice ao3 n3 cp3,.int .i64 e3]) (un ((10^b':Nat):Int) 0)):TnB w g3 g4 a b' (((w'.setCell ⟨g4,0,none⟩ (.bool s3)).setCell ⟨g4,1,none⟩ (.slice ao3 n3 cp3)).setCell ⟨g4,2,none⟩ (.int .i64 e3)) s1 ao1 n1 cp1 e1 s3 ao3 n3 cp3 e3:=by
 obtain⟨h1,h2,h3,h4,h5,h6,h7⟩:=h
 have hs:=hb.size
 have b2:=h2.later hb
 refine⟨(h1.later hb).other b2.1 (by omega) _ _ _,b2.put hd,heap_otherQ (box_later h3 hb (by omega)) (by omega) _ _ _,below_store3 (h4.trans (hb.mono h4.size)) (by omega) _ _ _,h5,h6,by simp[World.setCell];omega⟩
theorem dtimes0 {x y:Int} {k l:Nat} {X Y:Value} {w:World} (hx:x.natAbs<2^k) (hy:y.natAbs<2^l) (hk:k≤90000) (hl:l≤90000) (h1:DN w X (un x 0)) (h2:DN w Y (un y 0)):Calls Tryz.prog 8 #[X,Y] w fun r w'=>∃ A,r=.returned A∧DN w' A (un (x*y) 0)∧Bw w w':=by
 have h:=gtimes (un_gn hx hk (by omega)) (un_gn hy hl (by omega)) h1 h2
 rw[gM_un] at h
 exact h
theorem ten_ltQ (a:Nat):(((10^a:Nat):Int)).natAbs<2^(4*a+1):=by
 rw[Int.natAbs_natCast]
 have h:10^a≤2^(4*a):=by rw[Nat.pow_mul];exact Nat.pow_le_pow_left (by decide) _
 rw[Nat.pow_succ]
 have:=Nat.two_pow_pos (4*a)
 omega
theorem tenmul (a b:Nat):((10^a:Nat):Int)*((10^b:Nat):Int)=((10^(a+b):Nat):Int):=by rw[Nat.pow_add];push_cast;rfl
theorem ktimes10 (a b:Nat) (ha:a≤10000) (hb:b≤10000) {X Y:Value} {w:World} (h1:DN w X (un ((10^a:Nat):Int) 0)) (h2:DN w Y (un ((10^b:Nat):Int) 0)):Calls Tryz.prog 8 #[X,Y] w fun r w'=>∃ s ao n cp e,r=.returned (.agg #[.bool s,.slice ao n cp,.int .i64 e])∧DN w' (.agg #[.bool s,.slice ao n cp,.int .i64 e]) (un ((10^(a+b):Nat):Int) 0)∧Bw w w':=by
 refine(dtimes0 (ten_ltQ a) (ten_ltQ b) (by omega) (by omega) h1 h2).mono ?_
 rintro r w' ⟨A,rfl,hA,hb'⟩
 rw[tenmul] at hA
 obtain⟨s,ao,n,cp,e,rfl⟩:=hA.shape
 exact⟨s,ao,n,cp,e,rfl,hA,hb'⟩
theorem knorm (U:World) (g:Nat) (hg:g=U.heap.size) (d:Nat) (di:Int) (hdi:di=(d:Int)) (h0:0<d) (h:d<16):Calls Tryz.prog 30 #[.bool false,.slice (some ⟨g,0,none⟩) 1 1,.int .i64 0] (U.alloc (.cells #[.int .u32 di] 57)) fun r w'=>∃ s ao n cp e,r=.returned (.agg #[.bool s,.slice ao n cp,.int .i64 e])∧DN w' (.agg #[.bool s,.slice ao n cp,.int .i64 e]) (un ((d:Nat):Int) 0)∧Bw U w':=by
 subst hdi hg
 have hi:=ir_newd U d h0 h
 have hl:=dlen_dF h
 refine(rnorm (neg:=false) (x:=d) (e:=0) hi (by omega) (by omega)).mono ?_
 rintro r w' ⟨A,rfl,hA,hb⟩
 have hD:DN w' A (un ((d:Nat):Int) 0):=by
  have:=hA.dn
  unfold un
  rw[decide_eq_false (by omega),Int.natAbs_natCast]
  exact this
 obtain⟨s,ao,n,cp,e,rfl⟩:=hD.shape
 refine⟨s,ao,n,cp,e,rfl,hD,?_⟩
 have hb0:Below U.heap.size U (U.alloc (.cells #[.int .u32 (d:Int)] 57)):=(Below.refl _ _).alloc (Nat.le_refl _) _
 exact hb0.trans (hb.mono hb0.size)
theorem d2ten (N:Nat) (w:World) (hN:N≤2000) :
  Calls Tryz.prog 10 #[.int .i64 N] w fun r w'=>∃ A,r=.returned A∧DN w' A (un ((10^N:Nat):Int) 0)∧Bw w w':=by
 obtain⟨W,hW⟩:∃ W,W=w.alloc (.cells #[.bool false,.slice none 0 0,.int .i64 0] 30):=⟨_,rfl⟩
 have hsz:W.heap.size=w.heap.size+1:=by rw[hW];simp
 have HW:Hid (Bw w W∧W.heap[w.heap.size]?=some (.cells #[.bool false,.slice none 0 0,.int .i64 0] 30 (0,0))∧W.heap.size=w.heap.size+1):=⟨by rw[hW];exact(Below.refl _ _).alloc (Nat.le_refl _) _,by rw[hW];exact heap_alloc_new _ _,hsz⟩
 clear hsz
 have k1:=knorm W (w.heap.size+1) HW.out.2.2.symm 1 1 rfl (by decide) (by decide)
 go_enter Tryz.func10,Tryz.ntmps10
 go_wp2_with fail
 rw[←hW]
 clear hW
 refine k1.mono ?_
 rintro r w1 ⟨s1,ao1,n1,cp1,e1,rfl,hd1,hb1⟩
 clear k1
 obtain⟨V,hV⟩:∃ V,V=w1.alloc (.cells #[.bool s1,.slice ao1 n1 cp1,.int .i64 e1] 30):=⟨_,rfl⟩
 obtain⟨g3,hg3⟩:∃ g3,g3=w1.heap.size:=⟨_,rfl⟩
 have k2:=knorm V (g3+1) (by rw[hV,hg3];simp) 10 10 rfl (by decide) (by decide)
 have H1:Hid (NbQ V g3 s1 ao1 n1 cp1 e1 (un ((10^0:Nat):Int) 0)∧Bw W V∧W.heap.size≤g3∧V.heap.size=g3+1):=by
  have hbV:Bw w1 V:=by rw[hV];exact(Below.refl _ _).alloc (Nat.le_refl _) _
  refine⟨⟨by rw[hV,hg3];exact heap_alloc_new _ _,hd1.later hbV⟩,hb1.trans (hbV.mono hb1.size),by rw[hg3];exact hb1.size,by rw[hV,hg3];simp⟩
 clear hd1 hb1
 go_upto_region 2 with fail
 rw[←hV,←hg3]
 clear hV hg3
 have hVs:=H1.out.2.2.2
 go_wp2_with fail
 refine k2.mono ?_
 rintro r w2 ⟨s2,ao2,n2,cp2,e2,rfl,hd2,hb2⟩
 clear k2 hVs
 obtain⟨V2,hV2⟩:∃ V2,V2=w2.alloc (.cells #[.bool s2,.slice ao2 n2 cp2,.int .i64 e2] 30):=⟨_,rfl⟩
 obtain⟨g4,hg4⟩:∃ g4,g4=w2.heap.size:=⟨_,rfl⟩
 have HT:Hid (TnB w g3 g4 0 1 V2 s1 ao1 n1 cp1 e1 s2 ao2 n2 cp2 e2):=by
  have hbV:Bw w2 V2:=by rw[hV2];exact(Below.refl _ _).alloc (Nat.le_refl _) _
  have hV:Bw V V2:=hb2.trans (hbV.mono hb2.size)
  have hWV:Bw W V2:=H1.out.2.1.trans (hV.mono H1.out.2.1.size)
  have h3:=HW.out.2.2
  have h4:=hb2.size
  have h5:=H1.out.2.2
  have h6:V2.heap.size=w2.heap.size+1:=by rw[hV2];simp
  refine⟨H1.out.1.later hV,⟨by rw[hV2,hg4];exact heap_alloc_new _ _,hd2.later hbV⟩,box_later HW.out.2.1 hWV (by omega),HW.out.1.trans (hWV.mono HW.out.1.size),by omega,by omega,by omega⟩
 clear hd2 hb2 H1
 go_upto_region 3 with fail
 rw[←hV2,←hg4]
 clear hV2 hg4 HW
 go_loopw [0] (fun v wr=>∃ (n a b:Nat) (s1:Bool) (ao1:Option Addr) (n1 cp1:Nat) (e1:Int) (s2:Bool) (ao2:Option Addr) (n2 cp2:Nat) (e2:Int),n≤2000∧v=.int .i64 (n:Nat)∧a+b*n=N∧Hid (TnB w g3 g4 a b wr s1 ao1 n1 cp1 e1 s2 ao2 n2 cp2 e2)) (fun v _=>(intOf v).toNat)
 case atStart=>exact⟨N,0,1,_,_,_,_,_,_,_,_,_,_,hN,rfl,by omega,HT⟩
 case round =>
  obtain⟨n,a,b,s1,ao1,n1,cp1,e1,s2,ao2,n2,cp2,e2,hn,rfl,hab,HI⟩:=hrel
  clear HT
  by_cases h0:0<n
  ·have h0':(0:Int)<(n:Int):=by omega
   have hb1:b*1≤b*n:=Nat.mul_le_mul_left _ h0
   have hbN:b≤2000:=by omega
   have haN:a≤2000:=by omega
   have hq:Int.tdiv (n:Int) 2=((n / 2:Nat):Int):=by rw[Int.tdiv_eq_ediv_of_nonneg (by omega)];omega
   have hr:Int.tmod (n:Int) 2=((n % 2:Nat):Int):=by rw[Int.tmod_eq_emod_of_nonneg (by omega)];omega
   have hq2:n / 2≤2000:=by omega
   obtain⟨q,hqq⟩:∃ q,q=n / 2:=⟨_,rfl⟩
   rw[←hqq] at hq hq2
   have HQL:Hid (q<n):=(by omega:q<n)
   have hsq:∀ (U:World),DN U (.agg #[.bool s2,.slice ao2 n2 cp2,.int .i64 e2]) (un ((10^b:Nat):Int) 0)→_:=fun U h=>ktimes10 b b (by omega) (by omega) h h
   by_cases hodd:n % 2=1
   ·rw[hodd] at hr
    have HNN:Hid (a+b+(b+b)*q=N):=(by
     have e:n=2*q+1:=by omega
     rw[e] at hab
     have e2:b*(2*q+1)=b+(b+b)*q:=by rw[Nat.mul_add,Nat.add_mul,Nat.mul_one,Nat.mul_comm 2 q,←Nat.mul_assoc,Nat.mul_two];omega
     omega:a+b+(b+b)*q=N)
    have k1:=ktimes10 a b (by omega) (by omega) HI.out.1.2 HI.out.2.1.2
    obtain⟨⟨c0,c1,c2⟩,-⟩:=box_cells29 HI.out.1.1
    obtain⟨⟨d0,d1,d2⟩,-⟩:=box_cells29 HI.out.2.1.1
    clear hab hodd hqq
    go_wp2_with fail
    refine k1.mono ?_
    rintro r w3 ⟨s3,ao3,n3,cp3,e3,rfl,hd3,hb3⟩
    clear k1 c0 c1 c2 d0 d1 d2
    have HI3:Hid (TnB w g3 g4 (a+b) b (((w3.setCell ⟨g3,0,none⟩ (.bool s3)).setCell ⟨g3,1,none⟩ (.slice ao3 n3 cp3)).setCell ⟨g3,2,none⟩ (.int .i64 e3)) s3 ao3 n3 cp3 e3 s2 ao2 n2 cp2 e2):=HI.out.put3 hb3 hd3
    obtain⟨⟨c0,c1,c2⟩,f0,f1,f2⟩:=box_cells29 (HI.out.1.later hb3).1
    clear hd3 hb3 HI
    go_upto_region 6 with fail
    obtain⟨U,hU⟩:∃ U,U=(((w3.setCell ⟨g3,0,none⟩ (.bool s3)).setCell ⟨g3,1,none⟩ (.slice ao3 n3 cp3)).setCell ⟨g3,2,none⟩ (.int .i64 e3)):=⟨_,rfl⟩
    rw[←hU] at HI3 ⊢
    clear hU c0 c1 c2 f0 f1 f2
    have k2:=hsq U HI3.out.2.1.2
    obtain⟨⟨d0,d1,d2⟩,-⟩:=box_cells29 HI3.out.2.1.1
    go_wp2_with fail
    refine k2.mono ?_
    rintro r w4 ⟨s4,ao4,n4,cp4,e4,rfl,hd4,hb4⟩
    clear k2 d0 d1 d2
    have HI4:Hid (TnB w g3 g4 (a+b) (b+b) (((w4.setCell ⟨g4,0,none⟩ (.bool s4)).setCell ⟨g4,1,none⟩ (.slice ao4 n4 cp4)).setCell ⟨g4,2,none⟩ (.int .i64 e4)) s3 ao3 n3 cp3 e3 s4 ao4 n4 cp4 e4):=HI3.out.put4 hb4 hd4
    obtain⟨⟨d0,d1,d2⟩,f0,f1,f2⟩:=box_cells29 (HI3.out.2.1.later hb4).1
    clear hd4 hb4 HI3 hsq
    go_wp2_with fail
    exact⟨⟨q,a+b,b+b,_,_,_,_,_,_,_,_,_,_,hq2,rfl,HNN.out,HI4⟩,by have hql:=HQL.out;simp[intOf];omega⟩
   ·have hev:n % 2=0:=by omega
    rw[hev] at hr
    have HNN:Hid (a+(b+b)*q=N):=(by
     have e:n=2*q:=by omega
     rw[e] at hab
     have e2:b*(2*q)=(b+b)*q:=by rw[←Nat.mul_two,Nat.mul_assoc]
     omega:a+(b+b)*q=N)
    have k2:=hsq wr HI.out.2.1.2
    obtain⟨⟨d0,d1,d2⟩,-⟩:=box_cells29 HI.out.2.1.1
    clear hab hodd hqq hev
    go_wp2_with fail
    refine k2.mono ?_
    rintro r w4 ⟨s4,ao4,n4,cp4,e4,rfl,hd4,hb4⟩
    clear k2 d0 d1 d2
    have HI4:Hid (TnB w g3 g4 a (b+b) (((w4.setCell ⟨g4,0,none⟩ (.bool s4)).setCell ⟨g4,1,none⟩ (.slice ao4 n4 cp4)).setCell ⟨g4,2,none⟩ (.int .i64 e4)) s1 ao1 n1 cp1 e1 s4 ao4 n4 cp4 e4):=HI.out.put4 hb4 hd4
    obtain⟨⟨d0,d1,d2⟩,f0,f1,f2⟩:=box_cells29 (HI.out.2.1.later hb4).1
    clear hd4 hb4 HI hsq
    go_wp2_with fail
    exact⟨⟨q,a,b+b,_,_,_,_,_,_,_,_,_,_,hq2,rfl,HNN.out,HI4⟩,by have hql:=HQL.out;simp[intOf];omega⟩
  ·obtain rfl:n=0:=by omega
   obtain rfl:a=N:=by omega
   obtain⟨⟨c0,c1,c2⟩,-⟩:=box_cells29 HI.out.1.1
   obtain⟨⟨d0,d1,d2⟩,f0,f1,f2⟩:=box_cells29 HI.out.2.2.1
   go_wp2_with fail
   refine bodyPost_ret (results_cell_row rfl _ _ (w.heap.size) 30 #[.bool s1,.slice ao1 n1 cp1,.int .i64 e1] (0,0) _ rfl (store3_29 _ _ _ HI.out.2.2.1) Tryz.underlying30 rfl Tryz.info30) rfl ?_
   exact⟨_,rfl,HI.out.1.2.storeQ HI.out.2.2.1 _ _ _,below_store3 HI.out.2.2.2.1 (Nat.le_refl _) _ _ _⟩
def rvD (N:Nat):List UInt8:=(dcR N).reverse
theorem rvD_len {N b:Nat} (h:N<10^b):(rvD N).length≤b:=by
 unfold rvD
 rw[List.length_reverse,←dcR_f h]
 clear h
 induction b generalizing N with
 | zero=>simp[dcF]
 | succ b ih =>
  unfold dcF
  split
  ·simp
  ·rw[List.length_append,List.length_singleton]
   have:=ih (N:=N / 10)
   omega
end Go.Proofs.YthhaamilfioddaaGreatDoor
