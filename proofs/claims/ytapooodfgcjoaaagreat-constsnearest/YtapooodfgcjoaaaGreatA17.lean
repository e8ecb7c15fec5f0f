/- Own work: contracts of the program's functions, part 17: BBJ. -/
import Derived.Test.YtapooodfgcjoaaaGreatA16

set_option maxHeartbeats 16000000
set_option maxRecDepth 200000
set_option linter.unusedVariables false
set_option linter.unusedSimpArgs false
namespace Go.Proofs.YtapooodfgcjoaaaGreat
open Go Go.RowKit Go.Fl64
theorem nearest_bad {k n op oq:Int} {w:World} (h:¬ (1≤k∧k≤8)∨n<1∨1073741824<n):Calls Tryz.prog 6 #[.int .i64 k,.int .i64 n,.agg #[.int .i64 op,.int .i64 oq]] w fun r w'=>r=.returned (.bool true)∧Bw w w':=by
 have kB:=fun W=>best_bad (w:=W) h
 have kS:=fun W=>bsure (w:=W)
 obtain⟨V,hV⟩:∃ V,V=w.alloc (.cells #[.int .i64 op,.int .i64 oq] 42):=⟨_,rfl⟩
 have hb:Bw w V:=by rw[hV];exact(Below.refl _ _).alloc (Nat.le_refl _) _
 have hy0:V.cell? ⟨w.heap.size,0,none⟩=some (.int .i64 op):=by rw[hV];simp
 have hy1:V.cell? ⟨w.heap.size,1,none⟩=some (.int .i64 oq):=by rw[hV];simp
 have HB:Hid (Bw w V):=hb
 clear hb
 by_cases h1:k<1
 ·clear h
  go_enter Tryz.func6,Tryz.ntmps6
  go_upto_region 1 with fail
  rw[←hV]
  clear hV
  go_quiet (fail)
  go_wp2_with fail
  refine(kB _).mono ?_
  rintro r w1 ⟨rfl,hb1⟩
  have H0:Below w.heap.size w (V.drewN nq):=HB.out.trans ((below_drewN V nq).mono HB.out.size)
  have H1:Hid (Bw w w1):=H0.trans (hb1.mono H0.size)
  clear H0
  clear hb1 hy0 hy1 kB
  go_wp2_with fail
  refine(kS _).mono ?_
  rintro r w2 ⟨rfl,hb2⟩
  go_wp2_with fail
  go_ret
  exact⟨rfl,H1.out.trans (hb2.mono H1.out.size)⟩
 ·by_cases h2:8<k
  ·clear h
   go_enter Tryz.func6,Tryz.ntmps6
   go_upto_region 1 with fail
   rw[←hV]
   clear hV
   go_quiet (fail)
   go_wp2_with fail
   refine(kB _).mono ?_
   rintro r w1 ⟨rfl,hb1⟩
   have H0:Below w.heap.size w (V.drewN nq):=HB.out.trans ((below_drewN V nq).mono HB.out.size)
   have H1:Hid (Bw w w1):=H0.trans (hb1.mono H0.size)
   clear H0
   clear hb1 hy0 hy1 kB
   go_wp2_with fail
   refine(kS _).mono ?_
   rintro r w2 ⟨rfl,hb2⟩
   go_wp2_with fail
   go_ret
   exact⟨rfl,H1.out.trans (hb2.mono H1.out.size)⟩
  ·by_cases h3:n<1
   ·clear h
    go_enter Tryz.func6,Tryz.ntmps6
    go_upto_region 1 with fail
    rw[←hV]
    clear hV
    go_quiet (fail)
    go_wp2_with fail
    refine(kB _).mono ?_
    rintro r w1 ⟨rfl,hb1⟩
    have H0:Below w.heap.size w (V.drewN nq):=HB.out.trans ((below_drewN V nq).mono HB.out.size)
    have H1:Hid (Bw w w1):=H0.trans (hb1.mono H0.size)
    clear H0
    clear hb1 hy0 hy1 kB
    go_wp2_with fail
    refine(kS _).mono ?_
    rintro r w2 ⟨rfl,hb2⟩
    go_wp2_with fail
    go_ret
    exact⟨rfl,H1.out.trans (hb2.mono H1.out.size)⟩
   ·have h4:1073741824<n:=by omega
    clear h
    go_enter Tryz.func6,Tryz.ntmps6
    go_upto_region 1 with fail
    rw[←hV]
    clear hV
    go_quiet (fail)
    go_wp2_with fail
    refine(kB _).mono ?_
    rintro r w1 ⟨rfl,hb1⟩
    have H0:Below w.heap.size w (V.drewN nq):=HB.out.trans ((below_drewN V nq).mono HB.out.size)
    have H1:Hid (Bw w w1):=H0.trans (hb1.mono H0.size)
    clear H0
    clear hb1 hy0 hy1 kB
    go_wp2_with fail
    refine(kS _).mono ?_
    rintro r w2 ⟨rfl,hb2⟩
    go_wp2_with fail
    go_ret
    exact⟨rfl,H1.out.trans (hb2.mono H1.out.size)⟩
theorem two_put {u W':World} {sA:Bool} {aoA:Option Addr} {nA cpA:Nat} {eA:Int} {sB:Bool} {aoB:Option Addr} {nB cpB:Nat} {eB:Int} {TA TB:Bool×Nat×Int} (hA:DN u (.agg #[.bool sA,.slice aoA nA cpA,.int .i64 eA]) TA) (hB:DN u (.agg #[.bool sB,.slice aoB nB cpB,.int .i64 eB]) TB)
  (hW:W'=(u.alloc (.cells #[.bool sA,.slice aoA nA cpA,.int .i64 eA] 45)).alloc (.cells #[.bool sB,.slice aoB nB cpB,.int .i64 eB] 45)) :
  NbD W' u.heap.size sA aoA nA cpA eA TA∧NbD W' (u.heap.size+1) sB aoB nB cpB eB TB∧Bw u W':=by
 obtain⟨y1,y2,y3,y4⟩:=two29 _ _ hW
 exact⟨⟨y1,hA.later y4⟩,⟨y2,hB.later y4⟩,y4⟩
theorem apL_lt {lo hi:Int} {Q p q:Nat} (ng:Bool) (hlo:lo.natAbs<2^(Q+3)) (hhi:hi.natAbs<2^(Q+3)) (hp:p≤1099511627776) (hq:q≤4294967296):(apL ng lo hi Q p q).natAbs<2^(Q+45):=by
 have b1:(lo*(q:Int)).natAbs<2^(Q+44):=Nat.lt_of_lt_of_le (mul_lt2 (l:=33) hlo (by omega)) (Nat.pow_le_pow_right (by decide) (by omega))
 have b2:(hi*(q:Int)).natAbs<2^(Q+44):=Nat.lt_of_lt_of_le (mul_lt2 (l:=33) hhi (by omega)) (Nat.pow_le_pow_right (by decide) (by omega))
 have b3:((p:Int)*((2^Q:Nat):Int)).natAbs<2^(Q+44):=Nat.lt_of_lt_of_le (shl_lt2 (k:=41) (by omega)) (Nat.pow_le_pow_right (by decide) (by omega))
 unfold apL
 cases ng
 ·exact abs_sub2 b1 b3
 ·exact abs_sub2 b3 b2
theorem apH_lt {lo hi:Int} {Q p q:Nat} (ng:Bool) (hlo:lo.natAbs<2^(Q+3)) (hhi:hi.natAbs<2^(Q+3)) (hp:p≤1099511627776) (hq:q≤4294967296):(apH ng lo hi Q p q).natAbs<2^(Q+45):=by
 have b1:(lo*(q:Int)).natAbs<2^(Q+44):=Nat.lt_of_lt_of_le (mul_lt2 (l:=33) hlo (by omega)) (Nat.pow_le_pow_right (by decide) (by omega))
 have b2:(hi*(q:Int)).natAbs<2^(Q+44):=Nat.lt_of_lt_of_le (mul_lt2 (l:=33) hhi (by omega)) (Nat.pow_le_pow_right (by decide) (by omega))
 have b3:((p:Int)*((2^Q:Nat):Int)).natAbs<2^(Q+44):=Nat.lt_of_lt_of_le (shl_lt2 (k:=41) (by omega)) (Nat.pow_le_pow_right (by decide) (by omega))
 unfold apH
 cases ng
 ·exact abs_sub2 b2 b3
 ·exact abs_sub2 b3 b1
theorem nearest_ok {k n:Nat} {op oq:Int} {w:World} (h1:1≤k) (h8:k≤8) (hn1:1≤n) (hn2:n≤1073741824) (ho : -9223372036854775808≤op∧op≤9223372036854775807) (hoq : -9223372036854775808≤oq∧oq≤9223372036854775807):Calls Tryz.prog 6 #[.int .i64 (k:Nat),.int .i64 (n:Nat),.agg #[.int .i64 op,.int .i64 oq]] w fun r w'=>r=.returned (.bool true)∧Bw w w':=by
 have kB:=fun W=>best_ok (w:=W) h1 h8 hn1 hn2
 have kS:=fun W=>bsure (w:=W)
 have kE:=fun(W:World)=>enc_k (pl:=200) (w:=W) h1 h8 (by decide) (by decide) (gdn0 W) (gdn0 W)
 have hE:=endK_le hn2 400 _ _ _ _ (way_k h1 h8)
 obtain⟨R,hR⟩:∃ R,R=endK k n 400 (whK k) 1 (whK k+1) 1:=⟨_,rfl⟩
 have kN:∀ (lo hi:Int) (Q p q:Nat),EB k 200 lo hi Q→1≤q→q≤n→∃ n1 n2:Bool,R.2≤n∧SideOk n1 lo hi Q R.1 R.2∧SideOk n2 lo hi Q p q∧apL n1 lo hi Q R.1 R.2*q≤apH n2 lo hi Q p q*R.2:=fun lo hi Q p q hE a b=>by rw[hR];exact near_all h1 h8 hE hn1 hn2 a b
 have kD:∀ (lo hi:Int) (Q:Nat),EB k 200 lo hi Q→lo.natAbs<2^(Q+3)∧hi.natAbs<2^(Q+3)∧Q≤1000:=fun lo hi Q hE=>⟨(lo_doc h1 h8 hE).2.1,(lo_doc h1 h8 hE).2.2,by have:=hE.q2;omega⟩
 have hb3:R.2≤n:=by
  obtain⟨lo,hi,Q,hE,-⟩:=kE w
  obtain⟨n1,n2,h,-⟩:=kN lo hi Q 0 1 hE (Nat.le_refl _) hn1
  exact h
 rw[←hR] at kB hE
 obtain⟨P,D⟩:=R
 obtain⟨e1,e2,e3⟩:P≤7516192768∧D≤1073741824∧1≤D:=hE
 have hb3':D≤n:=hb3
 have HK:Hid (1≤k∧k≤8∧1≤n∧n≤1073741824∧P≤7516192768∧1≤D∧D≤n):=⟨h1,h8,hn1,hn2,e1,e3,hb3'⟩
 have HN:Hid (∀ (lo hi:Int) (Q p q:Nat),EB k 200 lo hi Q→1≤q→q≤n→∃ n1 n2:Bool,SideOk n1 lo hi Q P D∧SideOk n2 lo hi Q p q∧apL n1 lo hi Q P D*q≤apH n2 lo hi Q p q*D):=fun lo hi Q p q hE a b=>by
  obtain⟨n1,n2,-,x⟩:=kN lo hi Q p q hE a b
  exact⟨n1,n2,x⟩
 have HD:Hid (∀ (lo hi:Int) (Q:Nat),EB k 200 lo hi Q→lo.natAbs<2^(Q+3)∧hi.natAbs<2^(Q+3)∧Q≤1000):=kD
 have c1:¬ (D:Int)<1:=by omega
 have c2:¬ (n:Int)<(D:Int):=by omega
 have c3:¬ (P:Int)<0:=by omega
 have c4:¬ 8589934592<(P:Int):=by omega
 clear h1 h8 hn1 hn2 e1 e2 e3 hb3 hb3' hR kN kD
 obtain⟨V,hV⟩:∃ V,V=w.alloc (.cells #[.int .i64 op,.int .i64 oq] 42):=⟨_,rfl⟩
 have hb:Bw w V:=by rw[hV];exact(Below.refl _ _).alloc (Nat.le_refl _) _
 have hy0:V.cell? ⟨w.heap.size,0,none⟩=some (.int .i64 op):=by rw[hV];simp
 have hy1:V.cell? ⟨w.heap.size,1,none⟩=some (.int .i64 oq):=by rw[hV];simp
 have HB:Hid (Bw w V):=hb
 clear hb
 go_enter Tryz.func6,Tryz.ntmps6
 go_upto_region 1 with fail
 rw[←hV]
 clear hV
 go_quiet (fail)
 go_wp2_with fail
 refine(kB _).mono ?_
 rintro r w1 ⟨rfl,hb1⟩
 have H0:Below w.heap.size w (V.drewN nq):=HB.out.trans ((below_drewN V nq).mono HB.out.size)
 have H1:Hid (Bw w w1):=H0.trans (hb1.mono H0.size)
 clear H0 hb1 hy0 hy1 kB HB
 obtain⟨lo,hi,Q,hEB,kk⟩:=kE w1
 have HE:Hid (EB k 200 lo hi Q):=hEB
 clear hEB kE
 go_wp2_with fail
 refine kk.mono ?_
 rintro r u2 ⟨U,rfl,⟨s1,ao1,m1,cp1,e1,s2,ao2,m2,cp2,e2,rfl,hd1,hd2⟩,hb2⟩
 clear kk
 obtain⟨V4,hV4⟩:∃ V,V=u2.alloc (.cells #[.bool false,.slice none 0 0,.int .i64 0,.bool false,.slice none 0 0,.int .i64 0] 47):=⟨_,rfl⟩
 have hbV4:Bw u2 V4:=by rw[hV4];exact(Below.refl _ _).alloc (Nat.le_refl _) _
 have hzV4:V4.heap[u2.heap.size]?=some (.cells #[.bool false,.slice none 0 0,.int .i64 0,.bool false,.slice none 0 0,.int .i64 0] 47 (0,0)):=by rw[hV4];exact heap_alloc_new _ _
 obtain⟨⟨y0,y1,y2,y3,y4,y5⟩,f0,f1,f2,f3,f4,f5⟩:=box_cells6 hzV4
 have HZ:Hid (DN u2 (.agg #[.bool s1,.slice ao1 m1 cp1,.int .i64 e1]) (un lo Q)∧DN u2 (.agg #[.bool s2,.slice ao2 m2 cp2,.int .i64 e2]) (un hi Q)∧Bw w u2∧Bw u2 V4∧V4.heap[u2.heap.size]?=some (.cells #[.bool false,.slice none 0 0,.int .i64 0,.bool false,.slice none 0 0,.int .i64 0] 47 (0,0))):=⟨hd1,hd2,H1.out.trans (hb2.mono H1.out.size),hbV4,hzV4⟩
 clear hd1 hd2 hb2 hbV4 hzV4 H1
 go_upto_region 8 with (rw[←hV4];clear hV4)
 obtain⟨gb,hgb⟩:∃ g,g=u2.heap.size:=⟨_,rfl⟩
 obtain⟨W5,hW5⟩:∃ V,V=(((((V4.setCell ⟨u2.heap.size,0,none⟩ (.bool s1)).setCell ⟨u2.heap.size,1,none⟩ (.slice ao1 m1 cp1)).setCell ⟨u2.heap.size,2,none⟩ (.int .i64 e1)).setCell ⟨u2.heap.size,3,none⟩ (.bool s2)).setCell ⟨u2.heap.size,4,none⟩ (.slice ao2 m2 cp2)).setCell ⟨u2.heap.size,5,none⟩ (.int .i64 e2):=⟨_,rfl⟩
 have HF:Hid (dzB W5 gb s1 ao1 m1 cp1 e1 s2 ao2 m2 cp2 e2 (un lo Q) (un hi Q)∧Bw w W5):=(by
  obtain⟨q1,q2,q3,q4,q5⟩:=HZ.out
  have hb:Bw w W5:=by rw[hW5];exact below_store6 (q3.trans (q4.mono q3.size)) q3.size _ _ _ _ _ _
  refine⟨⟨?_,?_,?_⟩,hb⟩
  ·rw[hW5,hgb];exact store6 _ _ _ _ _ _ q5
  ·rw[hW5];exact(q1.later q4).store6 q5 _ _ _ _ _ _
  ·rw[hW5];exact(q2.later q4).store6 q5 _ _ _ _ _ _:dzB W5 gb s1 ao1 m1 cp1 e1 s2 ao2 m2 cp2 e2 (un lo Q) (un hi Q)∧Bw w W5)
 rw[←hW5,←hgb]
 clear hW5 hgb HZ y0 y1 y2 y3 y4 y5 f0 f1 f2 f3 f4 f5
 obtain⟨⟨y0,y1,y2,y3,y4,y5⟩,-⟩:=box_cells6 HF.out.1.1
 go_upto_region 10 with fail
 obtain⟨q,hq⟩:∃ q:Nat,(q:Int)=max 1 (min oq (n:Int)):=⟨(max 1 (min oq (n:Int))).toNat,Int.toNat_of_nonneg (Int.le_trans (by decide) (Int.le_max_left _ _))⟩
 obtain⟨p,hp⟩:∃ p:Nat,(p:Int)=max 0 (min op (wrap64 (10*(q:Int)))):=⟨(max 0 (min op (wrap64 (10*(q:Int))))).toNat,Int.toNat_of_nonneg (Int.le_max_left _ _)⟩
 rw[←hq,←hp]
 have HP:Hid (1≤q∧q≤n∧p≤10737418240):=by
  have hk:=HK.out
  have e:wrap64 (10*(q:Int))=10*(q:Int):=by unfold wrap64;omega
  rw[e] at hp
  exact⟨by omega,by omega,by omega⟩
 clear hq hp
 obtain⟨n1,n2,x1,x2,x3⟩:=HN.out lo hi Q p q HE.out HP.out.1 HP.out.2.1
 obtain⟨d1,d2,d3⟩:=HD.out lo hi Q HE.out
 have HX:Hid (apL n1 lo hi Q P D*q≤apH n2 lo hi Q p q*D∧lo.natAbs<2^(Q+3)∧hi.natAbs<2^(Q+3)∧Q≤1000∧SideOk n1 lo hi Q P D∧SideOk n2 lo hi Q p q):=⟨x3,d1,d2,d3,x1,x2⟩
 have kk:=dapart_ok (w:=W5) (rr:=q) (U:=.agg #[.bool s1,.slice ao1 m1 cp1,.int .i64 e1,.bool s2,.slice ao2 m2 cp2,.int .i64 e2]) ⟨_,_,_,_,_,_,_,_,_,_,rfl,HF.out.1.2.1,HF.out.1.2.2⟩ d1 d2 d3 (by have:=HK.out;omega) (by have:=HK.out;omega) (by have:=HK.out;have:=HP.out;omega) x1
 clear x1 x2 x3 d1 d2 d3 HN HD
 go_wp2_with fail
 refine kk.mono ?_
 rintro r u6 ⟨A,C,rfl,dA,dC,hb6⟩
 have HF2:Hid (dzB u6 gb s1 ao1 m1 cp1 e1 s2 ao2 m2 cp2 e2 (un lo Q) (un hi Q)∧Bw w u6):=⟨HF.out.1.later hb6,HF.out.2.trans (hb6.mono HF.out.2.size)⟩
 clear kk hb6 HF y0 y1 y2 y3 y4 y5
 obtain⟨sA,aoA,nA,cpA,eA,rfl⟩:=dA.shape
 obtain⟨sB,aoB,nB,cpB,eB,rfl⟩:=dC.shape
 obtain⟨W7,hW⟩:∃ W,W=(u6.alloc (.cells #[.bool sA,.slice aoA nA cpA,.int .i64 eA] 45)).alloc (.cells #[.bool sB,.slice aoB nB cpB,.int .i64 eB] 45):=⟨_,rfl⟩
 have hp:=two_put dA dC hW
 obtain⟨gA,hgA⟩:∃ g,g=u6.heap.size:=⟨_,rfl⟩
 obtain⟨gB,hgB⟩:∃ g,g=u6.heap.size+1:=⟨_,rfl⟩
 clear dA dC
 go_upto_region 11 with fail
 rw[←hW,←hgB,←hgA]
 have HG:Hid (NbD W7 gA sA aoA nA cpA eA (un (apL n1 lo hi Q P D*q) Q)∧dzB W7 gb s1 ao1 m1 cp1 e1 s2 ao2 m2 cp2 e2 (un lo Q) (un hi Q)∧Bw w W7):=⟨by rw[hgA];exact hp.1,HF2.out.1.later hp.2.2,HF2.out.2.trans (hp.2.2.mono HF2.out.2.size)⟩
 clear hW hp HF2 hgA hgB
 obtain⟨⟨y0,y1,y2,y3,y4,y5⟩,-⟩:=box_cells6 HG.out.2.1.1
 have kk:=dapart_ok (w:=W7) (rr:=D) (U:=.agg #[.bool s1,.slice ao1 m1 cp1,.int .i64 e1,.bool s2,.slice ao2 m2 cp2,.int .i64 e2]) ⟨_,_,_,_,_,_,_,_,_,_,rfl,HG.out.2.1.2.1,HG.out.2.1.2.2⟩ HX.out.2.1 HX.out.2.2.1 HX.out.2.2.2.1 (by have:=HP.out;omega) (by have:=HK.out;have:=HP.out;omega) (by have:=HK.out;omega) HX.out.2.2.2.2.2
 go_wp2_with fail
 refine kk.mono ?_
 rintro r u8 ⟨A,C,rfl,dA,dC,hb8⟩
 have HG2:Hid (NbD u8 gA sA aoA nA cpA eA (un (apL n1 lo hi Q P D*q) Q)∧Bw w u8):=⟨HG.out.1.later hb8,HG.out.2.2.trans (hb8.mono HG.out.2.2.size)⟩
 clear kk hb8 HG y0 y1 y2 y3 y4 y5
 obtain⟨sE,aoE,nE,cpE,eE,rfl⟩:=dA.shape
 obtain⟨sF,aoF,nF,cpF,eF,rfl⟩:=dC.shape
 obtain⟨W9,hW⟩:∃ W,W=(u8.alloc (.cells #[.bool sE,.slice aoE nE cpE,.int .i64 eE] 45)).alloc (.cells #[.bool sF,.slice aoF nF cpF,.int .i64 eF] 45):=⟨_,rfl⟩
 have hp:=two_put dA dC hW
 obtain⟨gE,hgE⟩:∃ g,g=u8.heap.size:=⟨_,rfl⟩
 obtain⟨gF,hgF⟩:∃ g,g=u8.heap.size+1:=⟨_,rfl⟩
 clear dA dC
 go_upto_region 12 with fail
 rw[←hW,←hgF,←hgE]
 have HH:Hid (NbD W9 gA sA aoA nA cpA eA (un (apL n1 lo hi Q P D*q) Q)∧NbD W9 gF sF aoF nF cpF eF (un (apH n2 lo hi Q p q*D) Q)∧Bw w W9):=⟨HG2.out.1.later hp.2.2,by rw[hgF];exact hp.2.1,HG2.out.2.trans (hp.2.2.mono HG2.out.2.size)⟩
 clear hW hp HG2 hgE hgF
 obtain⟨⟨y0,y1,y2⟩,-⟩:=box_cells29 HH.out.1.1
 obtain⟨⟨z0,z1,z2⟩,-⟩:=box_cells29 HH.out.2.1.1
 have b1:=apL_lt n1 (p:=P) (q:=D) HX.out.2.1 HX.out.2.2.1 (by have:=HK.out;omega) (by have:=HK.out;omega)
 have b2:=apH_lt n2 (p:=p) (q:=q) HX.out.2.1 HX.out.2.2.1 (by have:=HP.out;omega) (by have:=HK.out;have:=HP.out;omega)
 have kk:=dorderZ (k:=Q+45+33) (l:=Q+45+33) (mul_lt2 b1 (n:=q) (l:=33) (by have:=HK.out;have:=HP.out;omega)) (mul_lt2 b2 (n:=D) (l:=33) (by have:=HK.out;omega)) (by have:=HX.out.2.2.2.1;omega) (by have:=HX.out.2.2.2.1;omega) (by have:=HX.out.2.2.2.1;omega) HH.out.1.2 HH.out.2.1.2
 obtain⟨v,hv⟩:∃ v,v=cmpI (apL n1 lo hi Q P D*q) (apH n2 lo hi Q p q*D):=⟨_,rfl⟩
 have hv0:v≤0:=by rw[hv];exact by have:=HX.out.1;unfold cmpI;split;omega;split <;> omega
 rw[←hv] at kk
 clear b1 b2 hv
 go_wp2_with fail
 refine kk.mono ?_
 rintro r uA ⟨rfl,hbA⟩
 have HJ:Hid (Bw w uA):=HH.out.2.2.trans (hbA.mono HH.out.2.2.size)
 clear kk hbA HH y0 y1 y2 z0 z1 z2
 go_wp2_with fail
 refine(kS _).mono ?_
 rintro r uB ⟨rfl,hbB⟩
 go_wp2_with fail
 go_ret
 exact⟨rfl,HJ.out.trans (hbB.mono HJ.out.size)⟩
theorem constsNearest_ok (k n op oq:Int) (w:World) (ho : -9223372036854775808≤op∧op≤9223372036854775807) (hoq : -9223372036854775808≤oq∧oq≤9223372036854775807):Calls Tryz.prog 6 #[.int .i64 k,.int .i64 n,.agg #[.int .i64 op,.int .i64 oq]] w fun r w'=>r=.returned (.bool true)∧Bw w w':=by
 by_cases h:¬ (1≤k∧k≤8)∨n<1∨1073741824<n
 ·exact nearest_bad h
 ·obtain⟨k',rfl⟩:∃ k':Nat,k=k':=⟨k.toNat,by omega⟩
  obtain⟨n',rfl⟩:∃ n':Nat,n=n':=⟨n.toNat,by omega⟩
  exact nearest_ok (by omega) (by omega) (by omega) (by omega) ho hoq
end Go.Proofs.YtapooodfgcjoaaaGreat
