/- Own work: contracts of the program's functions, part 12: VV6 SN1 SN2 SN3 SN4 SN5 SN6 SN7 SN8 SN9 SNB SNC SND SNE FR7 DC2 RA1 RA2 SP1 DC3 DC4 SNP PX DL2 PQ PW PW2 PQ2 PZ PZ2. -/
import Derived.Test.YtgdhdailchonmabGreatDoorA11
import Derived.Test.YtgdhdailchonmabGreatDoorA10
import Derived.Test.YtgdhdailchonmabGreatDoorA5
import Derived.Test.YtgdhdailchonmabGreatDoorA9
import Derived.Test.YtgdhdailchonmabGreatDoorA8
import Derived.Test.YtgdhdailchonmabGreatDoorA2
import Derived.Test.YtgdhdailchonmabGreatDoorA4

set_option maxHeartbeats 16000000
set_option maxRecDepth 200000
set_option linter.unusedVariables false
set_option linter.unusedSimpArgs false
namespace Go.Proofs.YtgdhdailchonmabGreatDoor
open Go Go.RowKit Go.Fl64
theorem rt_small {x m:Nat} {e:Int} (hx:dlen x≤2048) (he:e≤65536) (h:m*m≤rtQ x e ((1076:Nat):Int)) {k:Nat} (hk:133224≤2*k):m<2^k:=by
 have hb:x<2^(32*2048):=by
  have hB:∀ n,B^n=2^(32*n):=fun n=>by
   have:(B:Nat)=2^32:=by decide
   rw[this,←Nat.pow_mul]
  have:=(dlen_le _ _).1 hx
  generalize 2048=n at *
  rwa [hB] at this
 have hq:rtQ x e ((1076:Nat):Int)<2^(2*k):=by
  have hb2:((32*2048:Nat):Int)+(e+2*((1076:Nat):Int))≤((2*k:Nat):Int):=by omega
  generalize 32*2048=bb at *
  exact rtQ_lt hb hb2
 apply Decidable.byContradiction
 intro hc
 have h1:2^k*2^k≤m*m:=Nat.mul_le_mul (by omega) (by omega)
 rw[←Nat.pow_add,show k+k=2*k by omega] at h1
 omega
theorem one_lt_pow {k:Nat} (h:1≤k):1<2^k:=Nat.one_lt_two_pow (by omega)
theorem one_bg:Bg ((false,1,-1075):Bool×Nat×Int) (-65536) 131073:=by
 refine⟨by decide +kernel,.inr ⟨by decide,by decide,one_lt_pow ?_⟩⟩
 show 1≤((131073:Int) - (-1075)).toNat
 omega
theorem pn_one {W:World} {b:Nat} {m:Value} (h:Own W b m 1):PN W (.agg #[.bool false,m,.int .i64 (-1075)]) (false,1,-1075):=by
 obtain⟨ao,cap,rfl,q1,q2,q3⟩:=h.is
 exact⟨ao,cap,rfl,ao,cap,rfl,q1,q2,q3⟩
theorem UU_def (K:Nat):UU K=2^(K - 1074):=rfl
theorem UU_two {M:Nat} (h:M=68924):UU 70000=4*2^M:=by
 rw[UU_def,show(70000 - 1074:Nat)=M+2 by omega,Nat.pow_add];omega
theorem up_vals {c p q:Bool×Nat×Int} {mP mQ M:Nat} (oc:Ok c) (op:Ok p) (oq:Ok q) (hp0:p.1=false) (hq0:q.1=false) (hM:M=68924) (bR:Bg (cn false (mP+mQ) (-1076)) (-65536) 131072)
  (p1:mP*mP≤rtQ p.2.1 p.2.2 ((1076:Nat):Int)) (p2:rtQ p.2.1 p.2.2 ((1076:Nat):Int)<(mP+1)*(mP+1)) (q1:mQ*mQ≤rtQ q.2.1 q.2.2 ((1076:Nat):Int)) (q2:rtQ q.2.1 q.2.2 ((1076:Nat):Int)<(mQ+1)*(mQ+1)) {xP xQ:Bool}
  (hxP:xP=(decide (0≤p.2.2+2*((1076:Nat):Int)∨p.2.1=0)&&decide (mP*mP=rtQ p.2.1 p.2.2 ((1076:Nat):Int)))) (hxQ:xQ=(decide (0≤q.2.2+2*((1076:Nat):Int)∨q.2.1=0)&&decide (mQ*mQ=rtQ q.2.1 q.2.2 ((1076:Nat):Int)))) {F F2:Nat}
  (hF:F=tfF (tS c (cn false (mP+mQ) (-1076))).1 true (tS c (cn false (mP+mQ) (-1076))).2.1 (tS c (cn false (mP+mQ) (-1076))).2.2 3)
  (hF2:F2=tfF (tS (tS c (cn false (mP+mQ) (-1076))) (false,1,-1075)).1 true (tS (tS c (cn false (mP+mQ) (-1076))) (false,1,-1075)).2.1 (tS (tS c (cn false (mP+mQ) (-1076))) (false,1,-1075)).2.2 3) :
  Gf F∧Gf F2∧(lt 9218868437227405311 (mag F)=false→(tD (tF F) c).1=false)∧∃ n,Lst c p q n∧upRes xP xQ F F2 (stR F (nextA F) (agN c p q (stp F)))=upA c p q n:=by
 have bL:Bg (tS c (cn false (mP+mQ) (-1076))) (-65536) 131073:=oc.bg.add bR
 have bH:Bg (tS (tS c (cn false (mP+mQ) (-1076))) (false,1,-1075)) (-65536) 131074:=bL.add one_bg
 obtain⟨gF,s2,s3,s4⟩:=up_spec bL (by omega) hF
 obtain⟨gF2,-,r3,r4⟩:=up_spec bH (by omega) hF2
 have vL:=oc.bg.vadd (K:=70000) bR (by omega) (by omega) (by omega)
 have vH:=bL.vadd (K:=70000) one_bg (by omega) (by omega) (by omega)
 have vR:vz 70000 (cn false (mP+mQ) (-1076)).1 (cn false (mP+mQ) (-1076)).2.1 (cn false (mP+mQ) (-1076)).2.2=((mP*2^M:Nat):Int)+((mQ*2^M:Nat):Int):=by
  rw[vz_cn (by omega)]
  unfold vz sv
  rw[if_neg (by decide),show((-1076:Int)+(70000:Nat)).toNat=M by omega]
  rw[←Int.natCast_mul,Nat.add_mul,Int.natCast_add]
 have v1:vz 70000 ((false,1,-1075):Bool×Nat×Int).1 ((false,1,-1075):Bool×Nat×Int).2.1 ((false,1,-1075):Bool×Nat×Int).2.2=2*((2^M:Nat):Int):=by
  show vz 70000 false 1 (-1075)=_
  unfold vz sv
  rw[if_neg (by decide),show((-1075:Int)+(70000:Nat)).toNat=M+1 by omega,Nat.pow_succ]
  omega
 obtain⟨f1,f2,f3,-,-⟩:=op.facts
 obtain⟨g1,g2,g3,-,-⟩:=oq.facts
 have P:=root_scale (K:=70000+70000) (N:=2*M) (M:=M) (x:=p.2.1) (e:=p.2.2) (pl:=1076) (m:=mP) (by omega) (by omega) rfl p1 p2
 have Q:=root_scale (K:=70000+70000) (N:=2*M) (M:=M) (x:=q.2.1) (e:=q.2.2) (pl:=1076) (m:=mQ) (by omega) (by omega) rfl q1 q2
 have vP:vz (70000+70000) p.1 p.2.1 p.2.2=((p.2.1*2^(p.2.2+((70000+70000:Nat):Int)).toNat:Nat):Int):=by
  unfold vz sv;rw[hp0,if_neg (by decide),←Int.natCast_mul]
 have vQ:vz (70000+70000) q.1 q.2.1 q.2.2=((q.2.1*2^(q.2.2+((70000+70000:Nat):Int)).toNat:Nat):Int):=by
  unfold vz sv;rw[hq0,if_neg (by decide),←Int.natCast_mul]
 have hUp:0<2^M:=Nat.two_pow_pos _
 have hUU:((UU 70000:Nat):Int)=4*((2^M:Nat):Int):=by rw[UU_two hM];omega
 have hag:∀ n,agN c p q n=agI (vz 70000 c.1 c.2.1 c.2.2) (vz (70000+70000) p.1 p.2.1 p.2.2) (vz (70000+70000) q.1 q.2.1 q.2.2) (fvN n*(4*((2^M:Nat):Int))):=fun n=>by unfold agN;rw[hUU]
 rw[hUU] at s2 s3 r3
 rw[vR] at vL
 rw[v1] at vH
 refine⟨gF,gF2,fun hinf=>?_,?_⟩
 ·rw[inf_stp gF,decide_eq_false_iff_not] at hinf
  have s3:=s3.resolve_left hinf
  have hfin:=gF.fin (by have:=gF.hi;omega)
  rw[(d_bg oc (tF_bg F)).neg (K:=70000),d_val oc (tF_bg F),vz_num5 gF.lt hfin,stp_val,hUU,decide_eq_false (by omega)]
 ·generalize 2^M=U at *
  generalize p.2.1*2^(p.2.2+((70000+70000:Nat):Int)).toNat=PP at *
  generalize q.2.1*2^(q.2.2+((70000+70000:Nat):Int)).toNat=QQ at *
  refine up_core (a:=((mP*U:Nat):Int)) (b:=((mQ*U:Nat):Int)) (U:=(U:Int)) (VL:=vz 70000 (tS c (cn false (mP+mQ) (-1076))).1 (tS c (cn false (mP+mQ) (-1076))).2.1 (tS c (cn false (mP+mQ) (-1076))).2.2) (VH:=vz 70000 (tS (tS c (cn false (mP+mQ) (-1076))) (false,1,-1075)).1 (tS (tS c (cn false (mP+mQ) (-1076))) (false,1,-1075)).2.1 (tS (tS c (cn false (mP+mQ) (-1076))) (false,1,-1075)).2.2) hag (by omega) (by omega) (by omega) ?_ ?_ ?_ ?_ ?_ ?_ (by omega) (by omega) gF s2 s3 s4 gF2 r3 r4
  ·rw[vP,←Int.natCast_mul];exact Int.ofNat_le.2 P.1
  ·have h:=P.2.1
   rw[Nat.add_mul,Nat.one_mul] at h
   rw[vP,←Int.natCast_add,←Int.natCast_mul];exact Int.ofNat_lt.2 h
  ·rw[vQ,←Int.natCast_mul];exact Int.ofNat_le.2 Q.1
  ·have h:=Q.2.1
   rw[Nat.add_mul,Nat.one_mul] at h
   rw[vQ,←Int.natCast_add,←Int.natCast_mul];exact Int.ofNat_lt.2 h
  ·intro h
   rw[vP,←Int.natCast_mul,P.2.2 (by rw[←hxP];exact h)]
  ·intro h
   rw[vQ,←Int.natCast_mul,Q.2.2 (by rw[←hxQ];exact h)]
theorem pup_ok {c p q:Bool×Nat×Int} {A B C:Value} {w:World} (hT:Tab32 w) (hI:Ie.Tab w) (oc:Ok c) (op:Ok p) (oq:Ok q) (hp0:p.1=false) (hq0:q.1=false) (h1:PN w A c) (h2:PN w B p) (h3:PN w C q) :
  Calls Tryz.prog 118 #[A,B,C] w fun r w'=>∃ n,r=.returned (.tuple #[.float .f64 (upA c p q n),.int .i64 0])∧Lst c p q n∧Bw w w':=by
 have h1':=h1
 have h2':=h2
 have h3':=h3
 obtain⟨ua,uc,rfl,i1⟩:=h1
 obtain⟨va,vc,rfl,i2⟩:=h2
 obtain⟨wa,wk,rfl,i3⟩:=h3
 obtain⟨c1,c2,c3,-,-⟩:=oc.facts
 obtain⟨f1,f2,f3,-,-⟩:=op.facts
 obtain⟨g1,g2,g3,-,-⟩:=oq.facts
 obtain⟨mP,p1,p2⟩:=root_ex (rtQ p.2.1 p.2.2 ((1076:Nat):Int))
 obtain⟨mQ,q1,q2⟩:=root_ex (rtQ q.2.1 q.2.2 ((1076:Nat):Int))
 have sP:=rt_small f1 f3 p1 (k:=66612) (by omega)
 have sQ:=rt_small g1 g3 q1 (k:=66612) (by omega)
 have hB:∀ n,B^n=2^(32*n):=fun n=>by
  have:(B:Nat)=2^32:=by decide
  rw[this,←Nat.pow_mul]
 obtain⟨k,hk⟩:∃ k:Nat,k=66612:=⟨_,rfl⟩
 rw[←hk] at sP sQ
 have sR:mP+mQ<2^(k+1):=by rw[Nat.pow_succ];omega
 have lP:dlen mP≤100000:=(dlen_le _ _).2 (by
  obtain⟨n,hn⟩:∃ n:Nat,n=100000:=⟨_,rfl⟩
  rw[←hn,hB]
  exact Nat.lt_of_lt_of_le sP (Nat.pow_le_pow_right (by omega) (by omega)))
 have lQ:dlen mQ≤100000:=(dlen_le _ _).2 (by
  obtain⟨n,hn⟩:∃ n:Nat,n=100000:=⟨_,rfl⟩
  rw[←hn,hB]
  exact Nat.lt_of_lt_of_le sQ (Nat.pow_le_pow_right (by omega) (by omega)))
 have lR:dlen (mP+mQ)≤100000:=(dlen_le _ _).2 (by
  obtain⟨n,hn⟩:∃ n:Nat,n=100000:=⟨_,rfl⟩
  rw[←hn,hB]
  exact Nat.lt_of_lt_of_le sR (Nat.pow_le_pow_right (by omega) (by omega)))
 have bR:Bg (cn false (mP+mQ) (-1076)) (-65536) 131072:=⟨cn_idemV _ _ _,Fits.cn (.inr ⟨by omega,by omega,Nat.lt_of_lt_of_le sR (Nat.pow_le_pow_right (by omega) (by omega))⟩)⟩
 have bL:Bg (tS c (cn false (mP+mQ) (-1076))) (-65536) 131073:=oc.bg.add bR
 have bH:Bg (tS (tS c (cn false (mP+mQ) (-1076))) (false,1,-1075)) (-65536) 131074:=bL.add one_bg
 have dq:∀ {x:Nat} {e:Int},dlen x≤2048→e≤65536→dlen (rtQ x e ((1076:Nat):Int))≤1000000:=fun {x e} hx he=>(dlen_le _ _).2 (by
  have hb:x<2^(32*2048):=by
   have:=(dlen_le _ _).1 hx
   generalize 2048=n at *
   rwa [hB] at this
  obtain⟨n,hn⟩:∃ n:Nat,n=1000000:=⟨_,rfl⟩
  rw[←hn,hB]
  have hb2:((32*2048:Nat):Int)+(e+2*((1076:Nat):Int))≤((32*n:Nat):Int):=by omega
  generalize 32*2048=bb at *
  exact rtQ_lt hb hb2)
 obtain⟨F,hF⟩:∃ F,F=tfF (tS c (cn false (mP+mQ) (-1076))).1 true (tS c (cn false (mP+mQ) (-1076))).2.1 (tS c (cn false (mP+mQ) (-1076))).2.2 3:=⟨_,rfl⟩
 obtain⟨F2,hF2⟩:∃ F2,F2=tfF (tS (tS c (cn false (mP+mQ) (-1076))) (false,1,-1075)).1 true (tS (tS c (cn false (mP+mQ) (-1076))) (false,1,-1075)).2.1 (tS (tS c (cn false (mP+mQ) (-1076))) (false,1,-1075)).2.2 3:=⟨_,rfl⟩
 obtain⟨xP,hxP⟩:∃ xP,xP=(decide (0≤p.2.2+2*((1076:Nat):Int)∨p.2.1=0)&&decide (mP*mP=rtQ p.2.1 p.2.2 ((1076:Nat):Int))):=⟨_,rfl⟩
 obtain⟨xQ,hxQ⟩:∃ xQ,xQ=(decide (0≤q.2.2+2*((1076:Nat):Int)∨q.2.1=0)&&decide (mQ*mQ=rtQ q.2.1 q.2.2 ((1076:Nat):Int))):=⟨_,rfl⟩
 obtain⟨gF,gF2,hd,n,hn,he⟩:=up_vals oc op oq hp0 hq0 rfl bR p1 p2 q1 q2 hxP hxQ hF hF2
 have lL:=bL.lg (by omega) (by omega) (by omega) (by omega)
 have lH:=bH.lg (by omega) (by omega) (by omega) (by omega)
 have lc:=oc.bg.lg (by omega) (by omega) (by omega) (by omega)
 have lRg:=bR.lg (by omega) (by omega) (by omega) (by omega)
 have l1:=one_bg.lg (by omega) (by omega) (by omega) (by omega)
 have rnd:∀ {t:Bool×Nat×Int} {W:World} {X:Value},Lg t→Bw w W→PN W X t→Calls Tryz.prog 79 #[X,.int .i64 3] W fun r w'=>r=.returned (.float .f64 (tfF t.1 true t.2.1 t.2.2 3))∧Bw W w':=fun {t W X} o hW h=>by
  obtain⟨ao,cap,rfl,i⟩:=h
  obtain⟨-,b1,b2,b3⟩:=o
  exact c106 (hT.later hW) i (by omega) (by omega) (by omega)
 have rt:∀ {t:Bool×Nat×Int} {m:Nat} {W:World} {ao:Option Addr} {cap:Nat},dlen t.2.1≤2048 → -65536≤t.2.2→t.2.2≤65536→m*m≤rtQ t.2.1 t.2.2 ((1076:Nat):Int)→rtQ t.2.1 t.2.2 ((1076:Nat):Int)<(m+1)*(m+1)→Is W (.slice ao (dlen t.2.1) cap) t.2.1→Calls Tryz.prog 97 #[NumV false (.slice ao (dlen t.2.1) cap) t.2.2,.int .i64 1076] W fun r w'=>∃ v,r=.returned (.tuple #[v,.bool (decide (0≤t.2.2+2*((1076:Nat):Int)∨t.2.1=0)&&decide (m*m=rtQ t.2.1 t.2.2 ((1076:Nat):Int)))])∧Own w' W.heap.size v m∧Bw W w':=fun {t m W ao cap} b1 b2 b3 m1 m2 i=>by
  refine(c102 (neg:=false) (place:=((1076:Nat):Int)) i (by omega) (dq b1 b3) (by omega) (by omega)).mono ?_
  rintro r w' ⟨v,m',rfl,ho,n1,n2,hb⟩
  obtain rfl:=root_uniqT n1 n2 m1 m2
  exact⟨v,rfl,ho,hb⟩
 rw[hp0] at h2'
 rw[hq0] at h3'
 rw[hp0,hq0]
 have hmb:∀ (W:World) (g:Nat),Bw w W→W.heap[g]?=some (.cells #[.bool c.1,.slice ua (dlen c.2.1) uc,.int .i64 c.2.2,.bool false,.slice va (dlen p.2.1) vc,.int .i64 p.2.2,.bool false,.slice wa (dlen q.2.1) wk,.int .i64 q.2.2] 47 (0,0))→Calls Tryz.prog 76 #[.slice (some ⟨g,0,none⟩) 3 3] W fun r w'=>r=.returned (.bool true)∧Bw W w':=fun W g hW hg=>by
  have k:=maybe3 hg (i1.later hW) (i2.later hW) (i3.later hW) (by omega) (by omega) (by omega)
  have o1:okN c.1 (dlen c.2.1) c.2.1 c.2.2=true:=oc
  have o2:okN false (dlen p.2.1) p.2.1 p.2.2=true:=by rw[←hp0];exact op
  have o3:okN false (dlen q.2.1) q.2.1 q.2.2=true:=by rw[←hq0];exact oq
  rw[o1,o2,o3] at k
  exact k
 refine(up_all c.1 xP xQ ua va wa (dlen c.2.1) uc (dlen p.2.1) vc (dlen q.2.1) wk mP mQ F F2 (stR F (nextA F) (agN c p q (stp F))) c.2.2 p.2.2 q.2.2 w hT lP lQ (by omega)
  (sumN c.1 c.2.1 c.2.2 (cn false (mP+mQ) (-1076)).1 (cn false (mP+mQ) (-1076)).2.1 (cn false (mP+mQ) (-1076)).2.2).1
  (sumN (tS c (cn false (mP+mQ) (-1076))).1 (tS c (cn false (mP+mQ) (-1076))).2.1 (tS c (cn false (mP+mQ) (-1076))).2.2 ((false,1,-1075):Bool×Nat×Int).1 ((false,1,-1075):Bool×Nat×Int).2.1 ((false,1,-1075):Bool×Nat×Int).2.2).1
  (sumN c.1 c.2.1 c.2.2 (cn false (mP+mQ) (-1076)).1 (cn false (mP+mQ) (-1076)).2.1 (cn false (mP+mQ) (-1076)).2.2).2.1
  (sumN (tS c (cn false (mP+mQ) (-1076))).1 (tS c (cn false (mP+mQ) (-1076))).2.1 (tS c (cn false (mP+mQ) (-1076))).2.2 ((false,1,-1075):Bool×Nat×Int).1 ((false,1,-1075):Bool×Nat×Int).2.1 ((false,1,-1075):Bool×Nat×Int).2.2).2.1
  (sumN c.1 c.2.1 c.2.2 (cn false (mP+mQ) (-1076)).1 (cn false (mP+mQ) (-1076)).2.1 (cn false (mP+mQ) (-1076)).2.2).2.2
  (sumN (tS c (cn false (mP+mQ) (-1076))).1 (tS c (cn false (mP+mQ) (-1076))).2.1 (tS c (cn false (mP+mQ) (-1076))).2.2 ((false,1,-1075):Bool×Nat×Int).1 ((false,1,-1075):Bool×Nat×Int).2.1 ((false,1,-1075):Bool×Nat×Int).2.2).2.2
  gF.lt gF2.lt ?_ ?_ ?_ ?_ hmb ?_ ?_ ?_).mono ?_
 ·intro W a b hW hN
  rw[hF]
  exact rnd lL hW hN.pn
 ·intro W a b hW hN
  rw[hF2]
  exact rnd lH hW hN.pn
 ·intro W a b m b' hW hN hO
  exact psum_lg (hT.later hW) lL l1 hN.pn (pn_one hO)
 ·intro W m b hW hN
  exact psum_lg (hT.later hW) lc lRg (h1'.later hW) hN.pn
 ·intro W hW
  rw[hxP]
  exact rt f1 f2 f3 p1 p2 (i2.later hW)
 ·intro W hW
  rw[hxQ]
  exact rt g1 g2 g3 q1 q2 (i3.later hW)
 ·intro _ _ hinf W hW
  have hfin:mag F<9218868437227405312:=by
   have h:=hinf
   rw[inf_stp gF,decide_eq_false_iff_not] at h
   exact gF.fin (by have:=gF.hi;omega)
  exact settled_ok (hT.later hW) (Tab.later hI hW) oc op oq gF.lt hfin (hd hinf) (h1'.later hW) (h2'.later hW) (h3'.later hW)
 rintro r w' ⟨rfl,hb⟩
 exact⟨n,by rw[←he],hn,hb⟩
end Go.Proofs.YtgdhdailchonmabGreatDoor
/- Floats in order: not above, the lesser and the greater of two; intervals that may be. -/
namespace Go.Fl64
def le (a b:Nat):Bool := !isNaN a && !isNaN b&&decide (stp a≤stp b)
theorem ord_le (a b:Nat) (ha:a<18446744073709551616) (hb:b<18446744073709551616):(FloatKind.f64.format.order a b==some Ordering.lt||FloatKind.f64.format.order a b==some Ordering.eq)=le a b:=by
 rw[ord_lt a b ha hb,ord_eq a b ha hb]
 unfold lt eq le
 cases isNaN a <;> cases isNaN b <;> simp
 rw[←Bool.decide_or]
 exact decide_eq_decide.2 (by omega)
def pl (a:Nat):Nat:=if a=9223372036854775808 then 0 else a
end Go.Fl64
namespace Go.Proofs.YtgdhdailchonmabGreatDoor
open Go.RowKit Go.Fl64
theorem run_store_flt (P:Program) (w:World) (a:Addr) (m:Mode) (k:FloatKind) (n:Nat):(store a (.float k n) m).run P w=stored P w a (.float k n) m:=run_store P w a _ m rfl
attribute [local go_sem] run_store_flt
attribute [local go_sem] run_store_flt
attribute [local go_sem] run_store_flt
attribute [local go_sem] run_store_flt
attribute [local go_sem] run_store_flt
attribute [local go_sem] run_store_flt
attribute [local go_sem] run_store_flt
attribute [local go_sem] run_store_flt
def OutN8 (W:World) (t:Bool×Nat×Int) (r:Ending) (w':World):Prop:=∃ s ao n cap e,r=.returned (.tuple #[.agg #[.bool s,.slice ao n cap,.int .i64 e],.int .i64 0])∧PN w' (.agg #[.bool s,.slice ao n cap,.int .i64 e]) t∧Bw W w'
def tSh (t:Bool×Nat×Int) (k:Int):Bool×Nat×Int:=if t.2.1=0 then(false,0,0) else(t.1,t.2.1,t.2.2+k)
theorem pshift {t:Bool×Nat×Int} {A:Value} {k0:Int} {w:World} (ok:Ok t) (h:PN w A t) (hk1:¬ k0 < -65536 - t.2.2) (hk2:¬ 65536 - t.2.2<k0) :
  Calls Tryz.prog 71 #[A,.int .i64 k0] w fun r w'=>OutN8 w (tSh t k0) r w':=by
 obtain⟨pa,pc,rfl,i1⟩:=h
 obtain⟨f1,f2,f3,f4,f5⟩:=ok.facts
 have km:∀ W g,Bw w W→W.heap[g]?=some (.cells #[.bool t.1,.slice pa (dlen t.2.1) pc,.int .i64 t.2.2] 47 (0,0))→Calls Tryz.prog 76 #[.slice (some ⟨g,0,none⟩) 1 1] W fun r w'=>r=.returned (.bool true)∧Bw W w':=fun W g hW hg=>by
  have:=maybe1 hg (i1.later hW) (by omega)
  rw[show okN t.1 (dlen t.2.1) t.2.1 t.2.2=true from ok] at this
  exact this
 unfold tSh
 by_cases h0:t.2.1=0
 ·rw[if_pos h0]
  have hd:dlen t.2.1=0:=by rw[h0,dlen_zero]
  rw[hd] at km ⊢
  refine(shift_1 t.1 pa pc t.2.2 k0 w km).mono ?_
  rintro r w' ⟨rfl,hb⟩
  exact⟨_,_,_,_,_,rfl,⟨none,0,by rw[dlen_zero],by rw[dlen_zero];exact is_nil _⟩,hb⟩
 ·rw[if_neg h0]
  refine(shift_3 t.1 pa (dlen t.2.1) pc t.2.2 k0 w t.2.1 i1 (by omega) (by omega) (by have:=dlen_pos h0;simp;omega) (by omega) (by omega) hk1 hk2 km).mono ?_
  rintro r w' ⟨v,rfl,ho,hb⟩
  obtain⟨ao,cap,rfl,h1,h2,h3⟩:=ho.is
  exact⟨_,_,_,_,_,rfl,⟨ao,cap,rfl,ao,cap,rfl,h1,h2,h3⟩,hb⟩
def fU (a:Nat):Nat:=Ie.mant a*2^(Ie.lp a+1074).toNat
theorem whole_pn {n:Int} {w:World} (hT:Tab32 w) (hn : -9223372036854775808≤n∧n≤9223372036854775807):Calls Tryz.prog 72 #[.int .i64 n] w fun r w'=>OutP w (un n 0) r w':=by
 refine(c12 hT hn).mono ?_
 rintro r w' ⟨A,rfl,hN,hb⟩
 have hp:=hN.pn
 obtain⟨s,ao,m,cap,e,rfl⟩:=hp.shape
 exact⟨_,_,_,_,_,rfl,hp,hb⟩
def nilN:Bool×Nat×Int:=(false,0,0)
theorem un_0 (p:Nat):un 0 p=nilN:=by unfold un cn nilN;rw[if_pos (by decide)]
theorem pn_nilN (w:World):PN w (.agg #[.bool false,.slice none 0 0,.int .i64 0]) nilN:=⟨none,0,by unfold nilN;rw[dlen_zero],by unfold nilN;rw[dlen_zero];exact is_nil w⟩
def PBx (W:World) (g:Nat) (s1:Bool) (ao1:Option Addr) (n1 cp1:Nat) (e1:Int) (t:Bool×Nat×Int):Prop:=W.heap[g]?=some (.cells #[.bool s1,.slice ao1 n1 cp1,.int .i64 e1] 47 (0,0))∧PN W (.agg #[.bool s1,.slice ao1 n1 cp1,.int .i64 e1]) t
theorem PBx.later {W V:World} {g:Nat} {s1:Bool} {ao1:Option Addr} {n1 cp1:Nat} {e1:Int} {t:Bool×Nat×Int} (h:PBx W g s1 ao1 n1 cp1 e1 t) (hb:Bw W V):PBx V g s1 ao1 n1 cp1 e1 t:=⟨box_later h.1 hb (lt_of_box h.1),h.2.later hb⟩
theorem pshift_un {a k:Int} {p q b:Nat} {X:Value} {w:World} (ha:a.natAbs<2^b) (hb:b≤60000) (hp:p≤60000) (hq:q≤60000) (hk:(p:Int) - k=q) (hX:PN w X (un a p)) :
  Calls Tryz.prog 71 #[X,.int .i64 k] w fun r w'=>OutN8 w (un a q) r w':=by
 have e:=un_e (p:=p) ha
 have e2:=un_e (p:=q) ha
 have g:tSh (un a p) k=un a q:=gK_un hk
 have e3:(un a p).2.2=0∨(un a q).2.2=(un a p).2.2+k:=by
  by_cases h0:(un a p).2.1=0
  ·left
   rw[show a=0 from un_sign.2.1 h0,un_0]
   rfl
  ·right
   rw[←g]
   unfold tSh
   rw[if_neg h0]
 have k1:=pshift (k0:=k) (ok_un ha hb hp) hX (by omega) (by omega)
 rw[g] at k1
 exact k1
theorem obox4 {w:World} {g:Nat} {a b c d:Value} {T:TypeId} (h:w.heap[g]?=some (.cells #[a,b,c,d] T (0,0))) :
  (w.cell? ⟨g,0,none⟩=some a∧w.cell? ⟨g,1,none⟩=some b∧w.cell? ⟨g,2,none⟩=some c∧w.cell? ⟨g,3,none⟩=some d)∧(w.frozen? ⟨g,0,none⟩=false∧w.frozen? ⟨g,1,none⟩=false∧w.frozen? ⟨g,2,none⟩=false∧w.frozen? ⟨g,3,none⟩=false):=by
 simp[World.cell?,World.frozen?,h]
theorem ostore4 {w:World} {g:Nat} {a b c d:Value} {T:TypeId} (a1 b1 c1 d1:Value) (h:w.heap[g]?=some (.cells #[a,b,c,d] T (0,0))) :
  ((((w.setCell ⟨g,0,none⟩ a1).setCell ⟨g,1,none⟩ b1).setCell ⟨g,2,none⟩ c1).setCell ⟨g,3,none⟩ d1).heap[g]?=some (.cells #[a1,b1,c1,d1] T (0,0)):=by
 simp[World.setCell,Array.getElem?_modify,h]
theorem obelow4 {B:Nat} {w0 w:World} {g:Nat} (h:Below B w0 w) (hg:B≤g) (a1 b1 c1 d1:Value):Below B w0 ((((w.setCell ⟨g,0,none⟩ a1).setCell ⟨g,1,none⟩ b1).setCell ⟨g,2,none⟩ c1).setCell ⟨g,3,none⟩ d1) :=
 (((h.setCell hg _).setCell hg _).setCell hg _).setCell hg _
theorem opn_far {w w':World} {A:Value} {t:Bool×Nat×Int} {g:Nat} (h:PN w A t) (hno:∀ i k,w.cell? ⟨g,i,none⟩≠some (.int .u32 k)) (hk:∀ q:Addr,q.block≠g→w'.cell? q=w.cell? q):PN w' A t:=by
 obtain⟨ao,cap,h1,ao',cap',e',h2,h3,bb,o,g1,g2⟩:=h
 refine⟨ao,cap,h1,ao',cap',e',h2,h3,bb,o,g1,fun i hi=>?_⟩
 have c:=g2 i hi
 by_cases hb:bb=g
 ·subst hb
  exact absurd c (hno _ _)
 ·rw[hk _ hb]
  exact c
theorem ofar {w:World} {g i:Nat} {q:Addr} (h:q.block≠g) (v:Value):(w.setCell ⟨g,i,none⟩ v).cell? q=w.cell? q:=World.cell?_setCell_other _ _ _ _ (fun e=>h (by rw[←e]))
theorem opn_store4 {w:World} {A:Value} {t:Bool×Nat×Int} {g:Nat} {T:TypeId} (h:PN w A t) (hg:w.heap[g]?=some (.cells #[.bool false,.slice none 0 0,.int .i64 0,.bool false] T (0,0))) (a b c d:Value):PN ((((w.setCell ⟨g,0,none⟩ a).setCell ⟨g,1,none⟩ b).setCell ⟨g,2,none⟩ c).setCell ⟨g,3,none⟩ d) A t :=
 opn_far (g:=g) h (fun i k=>by rcases i with _|_|_|_|i <;> simp[World.cell?,hg]) (fun q hq=>by rw[ofar hq,ofar hq,ofar hq,ofar hq])
theorem Oexact_1 (a:Nat) (t:Bool×Nat×Int) (w:World)
  (k:∀ W,Bw w W→Calls Tryz.prog 73 #[.float .f64 a] W fun r w'=>∃ s ao n cap e,r=.returned (.tuple #[.agg #[.bool s,.slice ao n cap,.int .i64 e],.int .i64 0])∧PN w' (.agg #[.bool s,.slice ao n cap,.int .i64 e]) t∧Bw W w') :
  Calls Tryz.prog 48 #[.float .f64 a] w fun r w'=>OutA w t r w':=by
 obtain⟨W,hW⟩:∃ W,W=w.alloc (.cells #[.bool false,.slice none 0 0,.int .i64 0] 47):=⟨_,rfl⟩
 have HX:Hid (Bw w W∧W.heap[w.heap.size]?=some (.cells #[.bool false,.slice none 0 0,.int .i64 0] 47 (0,0))):=⟨by rw[hW];exact(Below.refl _ _).alloc (Nat.le_refl _) _,by rw[hW];exact heap_alloc_new _ _⟩
 have k1:=k W HX.out.1
 clear k
 go_enter Tryz.func48,Tryz.ntmps48
 go_wp2_with fail
 rw[←hW]
 clear hW
 refine k1.mono ?_
 rintro r w1 ⟨s1,ao1,n1,cap1,ex1,rfl,hA,hb1⟩
 obtain⟨W1,hW1⟩:∃ W1,W1=w1.alloc (.cells #[.bool s1,.slice ao1 n1 cap1,.int .i64 ex1] 47):=⟨_,rfl⟩
 have hb2:Bw W W1:=by rw[hW1];exact hb1.alloc hb1.size _
 have HY:Hid (PN W1 (.agg #[.bool s1,.slice ao1 n1 cap1,.int .i64 ex1]) t∧Bw w W1∧W1.heap[w1.heap.size]?=some (.cells #[.bool s1,.slice ao1 n1 cap1,.int .i64 ex1] 47 (0,0))∧W1.heap[w.heap.size]?=some (.cells #[.bool false,.slice none 0 0,.int .i64 0] 47 (0,0))) :=
  ⟨by rw[hW1];exact hA.later ((Below.refl _ _).alloc (Nat.le_refl _) _),HX.out.1.trans (hb2.mono HX.out.1.size),by rw[hW1];exact heap_alloc_new _ _,box_later HX.out.2 hb2 (lt_of_box HX.out.2)⟩
 clear k1 hA hb1 hb2
 go_upto_region 2 with fail
 rw[←hW1]
 clear hW1
 generalize w1.heap.size=g1 at *
 obtain⟨⟨a0,a1,a2⟩,-⟩:=box_cells HY.out.2.2.1
 obtain⟨⟨x1,x2,x3⟩,x4,x5,x6⟩:=box_cells HY.out.2.2.2
 go_wp2
 refine bodyPost_ret (results_cell_row rfl _ _ w.heap.size 47 #[.bool s1,.slice ao1 n1 cap1,.int .i64 ex1] (0,0) _ rfl (store3 _ _ _ HY.out.2.2.2) Tryz.underlying47 rfl Tryz.info47) rfl ?_
 exact⟨_,_,_,_,_,rfl,pn_store HY.out.1 HY.out.2.2.2 _ _ _,below_store3 HY.out.2.1 (Nat.le_refl _) _ _ _⟩
theorem Oadded_1 (na nb:Bool) (ua va:Option Addr) (un uc vn vc:Nat) (ea eb:Int) (t:Bool×Nat×Int) (w:World)
  (k:∀ W,Bw w W→Calls Tryz.prog 69 #[.agg #[.bool na,.slice ua un uc,.int .i64 ea],.agg #[.bool nb,.slice va vn vc,.int .i64 eb]] W fun r w'=>∃ s ao n cap e,r=.returned (.tuple #[.agg #[.bool s,.slice ao n cap,.int .i64 e],.int .i64 0])∧PN w' (.agg #[.bool s,.slice ao n cap,.int .i64 e]) t∧Bw W w') :
  Calls Tryz.prog 45 #[.agg #[.bool na,.slice ua un uc,.int .i64 ea],.agg #[.bool nb,.slice va vn vc,.int .i64 eb]] w fun r w'=>OutA w t r w':=by
 obtain⟨W,hW⟩:∃ W,W=((w.alloc (.cells #[.bool na,.slice ua un uc,.int .i64 ea] 47)).alloc (.cells #[.bool nb,.slice va vn vc,.int .i64 eb] 47)).alloc (.cells #[.bool false,.slice none 0 0,.int .i64 0] 47):=⟨_,rfl⟩
 obtain⟨hA,hB,hC,hsz,hBW⟩:=boxes3 _ _ _ hW
 obtain⟨⟨a0,a1,a2⟩,-⟩:=box_cells hA
 obtain⟨⟨b0,b1,b2⟩,-⟩:=box_cells hB
 have HX:Hid (Bw w W∧W.heap[w.heap.size+1+1]?=some (.cells #[.bool false,.slice none 0 0,.int .i64 0] 47 (0,0))):=⟨hBW,hC⟩
 have k1:=k W HX.out.1
 clear k hA hB hC hBW hsz
 rw[hW] at a0 a1 a2 b0 b1 b2
 go_enter Tryz.func45,Tryz.ntmps45
 go_wp2_with fail
 rw[←hW]
 clear hW a0 a1 a2 b0 b1 b2
 refine k1.mono ?_
 rintro r w1 ⟨s1,ao1,n1,cap1,ex1,rfl,hA,hb1⟩
 obtain⟨W1,hW1⟩:∃ W1,W1=w1.alloc (.cells #[.bool s1,.slice ao1 n1 cap1,.int .i64 ex1] 47):=⟨_,rfl⟩
 have hb2:Bw W W1:=by rw[hW1];exact hb1.alloc hb1.size _
 have HY:Hid (PN W1 (.agg #[.bool s1,.slice ao1 n1 cap1,.int .i64 ex1]) t∧Bw w W1∧W1.heap[w1.heap.size]?=some (.cells #[.bool s1,.slice ao1 n1 cap1,.int .i64 ex1] 47 (0,0))∧W1.heap[w.heap.size+1+1]?=some (.cells #[.bool false,.slice none 0 0,.int .i64 0] 47 (0,0))) :=
  ⟨by rw[hW1];exact hA.later ((Below.refl _ _).alloc (Nat.le_refl _) _),HX.out.1.trans (hb2.mono HX.out.1.size),by rw[hW1];exact heap_alloc_new _ _,box_later HX.out.2 hb2 (lt_of_box HX.out.2)⟩
 clear k1 hA hb1 hb2
 go_upto_region 2 with fail
 rw[←hW1]
 clear hW1
 generalize w1.heap.size=g1 at *
 obtain⟨⟨c0,c1,c2⟩,-⟩:=box_cells HY.out.2.2.1
 obtain⟨⟨x1,x2,x3⟩,x4,x5,x6⟩:=box_cells HY.out.2.2.2
 go_wp2
 refine bodyPost_ret (results_cell_row rfl _ _ (w.heap.size+1+1) 47 #[.bool s1,.slice ao1 n1 cap1,.int .i64 ex1] (0,0) _ rfl (store3 _ _ _ HY.out.2.2.2) Tryz.underlying47 rfl Tryz.info47) rfl ?_
 exact⟨_,_,_,_,_,rfl,pn_store HY.out.1 HY.out.2.2.2 _ _ _,below_store3 HY.out.2.1 (by omega) _ _ _⟩
theorem Oexact_ok (a:Nat) (ha:a<18446744073709551616) (hf:mag a<9218868437227405312) (w:World) (hT:Tab32 w) (hI:Ie.Tab w):Calls Tryz.prog 48 #[.float .f64 a] w fun r w'=>OutA w (tF a) r w':=by
 obtain⟨m,hm,hml⟩:=sM_lt a ha
 refine Oexact_1 a (tF a) w fun W hW=>(of_fin a m ha W (hT.later hW) (Tab.later hI hW) hf hm).mono ?_
 rintro r w' ⟨A,rfl,hN,hb⟩
 have hp:=hN.pn
 rw[cn_parts a m ha hf hm] at hp
 obtain⟨s,ao,n,cap,e,rfl⟩:=hp.shape
 exact⟨s,ao,n,cap,e,rfl,hp,hb⟩
theorem Oadded_op {t1 t2 t3:Bool×Nat×Int} (h:Op2 69 t1 t2 t3) {X Y:Value} {w:World} (hT:Tab32 w) (h1:PN w X t1) (h2:PN w Y t2):Calls Tryz.prog 45 #[X,Y] w fun r w'=>OutA w t3 r w':=by
 obtain⟨s,ao,n,cap,e,rfl⟩:=h1.shape
 obtain⟨s',ao',n',cap',e',rfl⟩:=h2.shape
 exact Oadded_1 s s' ao ao' n cap n' cap' e e' t3 w fun W hW=>h W _ _ (hT.later hW) (h1.later hW) (h2.later hW)
theorem Osquare_1 (a:Nat) (t ts:Bool×Nat×Int) (w:World)
  (k:Hid (∀ W,Bw w W→Calls Tryz.prog 48 #[.float .f64 a] W fun r w'=>OutA W t r w'))
  (km:Hid (∀ W X Y,Bw w W→PN W X t→PN W Y t→Calls Tryz.prog 70 #[X,Y] W fun r w'=>∃ s ao n cap e,r=.returned (.tuple #[.agg #[.bool s,.slice ao n cap,.int .i64 e],.int .i64 0])∧PN w' (.agg #[.bool s,.slice ao n cap,.int .i64 e]) ts∧Bw W w')) :
  Calls Tryz.prog 46 #[.float .f64 a] w fun r w'=>OutA w ts r w':=by
 obtain⟨W,hW⟩:∃ W,W=w.alloc (.cells #[.bool false,.slice none 0 0,.int .i64 0] 47):=⟨_,rfl⟩
 have HX:Hid (Bw w W∧W.heap[w.heap.size]?=some (.cells #[.bool false,.slice none 0 0,.int .i64 0] 47 (0,0))):=⟨by rw[hW];exact(Below.refl _ _).alloc (Nat.le_refl _) _,by rw[hW];exact heap_alloc_new _ _⟩
 go_enter Tryz.func46,Tryz.ntmps46
 go_wp2_with fail
 rw[←hW]
 clear hW
 refine(k.out W HX.out.1).mono ?_
 rintro r v1 ⟨s1,ao1,n1,cap1,ex1,rfl,hA,hb1⟩
 have HA:Hid (PN v1 (.agg #[.bool s1,.slice ao1 n1 cap1,.int .i64 ex1]) t∧Bw W v1):=⟨hA,hb1⟩
 clear hA hb1
 go_wp2_with fail
 refine(k.out v1 (HX.out.1.trans (HA.out.2.mono HX.out.1.size))).mono ?_
 rintro r v2 ⟨s2,ao2,n2,cap2,ex2,rfl,hA,hb1⟩
 have HC:Hid (PN v2 (.agg #[.bool s1,.slice ao1 n1 cap1,.int .i64 ex1]) t∧PN v2 (.agg #[.bool s2,.slice ao2 n2 cap2,.int .i64 ex2]) t∧Bw W v2):=⟨HA.out.1.later hb1,hA,HA.out.2.trans (hb1.mono HA.out.2.size)⟩
 clear hA hb1 HA
 go_wp2_with fail
 refine(km.out v2 _ _ (HX.out.1.trans (HC.out.2.2.mono HX.out.1.size)) HC.out.1 HC.out.2.1).mono ?_
 rintro r w1 ⟨s1,ao1,n1,cap1,ex1,rfl,hA,hb0⟩
 have hb1:=HC.out.2.2.trans (hb0.mono HC.out.2.2.size)
 obtain⟨W1,hW1⟩:∃ W1,W1=w1.alloc (.cells #[.bool s1,.slice ao1 n1 cap1,.int .i64 ex1] 47):=⟨_,rfl⟩
 have hb2:Bw W W1:=by rw[hW1];exact hb1.alloc hb1.size _
 have HY:Hid (PN W1 (.agg #[.bool s1,.slice ao1 n1 cap1,.int .i64 ex1]) ts∧Bw w W1∧W1.heap[w1.heap.size]?=some (.cells #[.bool s1,.slice ao1 n1 cap1,.int .i64 ex1] 47 (0,0))∧W1.heap[w.heap.size]?=some (.cells #[.bool false,.slice none 0 0,.int .i64 0] 47 (0,0))) :=
  ⟨by rw[hW1];exact hA.later ((Below.refl _ _).alloc (Nat.le_refl _) _),HX.out.1.trans (hb2.mono HX.out.1.size),by rw[hW1];exact heap_alloc_new _ _,box_later HX.out.2 hb2 (lt_of_box HX.out.2)⟩
 clear k km hA hb0 hb1 hb2 HC
 go_upto_region 2 with fail
 rw[←hW1]
 clear hW1
 generalize w1.heap.size=g1 at *
 obtain⟨⟨a0,a1,a2⟩,-⟩:=box_cells HY.out.2.2.1
 obtain⟨⟨x1,x2,x3⟩,x4,x5,x6⟩:=box_cells HY.out.2.2.2
 go_wp2
 refine bodyPost_ret (results_cell_row rfl _ _ w.heap.size 47 #[.bool s1,.slice ao1 n1 cap1,.int .i64 ex1] (0,0) _ rfl (store3 _ _ _ HY.out.2.2.2) Tryz.underlying47 rfl Tryz.info47) rfl ?_
 exact⟨_,_,_,_,_,rfl,pn_store HY.out.1 HY.out.2.2.2 _ _ _,below_store3 HY.out.2.1 (Nat.le_refl _) _ _ _⟩
def OutCt (W:World) (t:Bool×Nat×Int) (al:Bool) (r:Ending) (w':World):Prop:=∃ s ao n cap e,r=.returned (.agg #[.bool s,.slice ao n cap,.int .i64 e,.bool al])∧PN w' (.agg #[.bool s,.slice ao n cap,.int .i64 e]) t∧Bw W w'
theorem OrootAt_1 (s0:Bool) (ao0:Option Addr) (n0 cap0:Nat) (ex0 p:Int) (t:Bool×Nat×Int) (al:Bool) (w:World)
  (k:∀ W,Bw w W→Calls Tryz.prog 68 #[.agg #[.bool s0,.slice ao0 n0 cap0,.int .i64 ex0],.int .i64 p] W fun r w'=>∃ s ao n cap e,r=.returned (.tuple #[.agg #[.bool s,.slice ao n cap,.int .i64 e],.bool al,.int .i64 0])∧PN w' (.agg #[.bool s,.slice ao n cap,.int .i64 e]) t∧Bw W w') :
  Calls Tryz.prog 44 #[.agg #[.bool s0,.slice ao0 n0 cap0,.int .i64 ex0],.int .i64 p] w fun r w'=>OutCt w t al r w':=by
 obtain⟨Wa,hWa⟩:∃ W,W=w.alloc (.cells #[.bool s0,.slice ao0 n0 cap0,.int .i64 ex0] 47):=⟨_,rfl⟩
 obtain⟨W,hW⟩:∃ W,W=Wa.alloc (.cells #[.bool false,.slice none 0 0,.int .i64 0,.bool false] 72):=⟨_,rfl⟩
 have hsa:Wa.heap.size=w.heap.size+1:=by rw[hWa];simp
 have hba:Bw w Wa:=by rw[hWa];exact(Below.refl _ _).alloc (Nat.le_refl _) _
 have hbW:Bw Wa W:=by rw[hW];exact(Below.refl _ _).alloc (Nat.le_refl _) _
 have hA0:Wa.heap[w.heap.size]?=some (.cells #[.bool s0,.slice ao0 n0 cap0,.int .i64 ex0] 47 (0,0)):=by rw[hWa];exact heap_alloc_new _ _
 have hA:W.heap[w.heap.size]?=some (.cells #[.bool s0,.slice ao0 n0 cap0,.int .i64 ex0] 47 (0,0)):=box_later hA0 hbW (lt_of_box hA0)
 have hC:W.heap[w.heap.size+1]?=some (.cells #[.bool false,.slice none 0 0,.int .i64 0,.bool false] 72 (0,0)):=by rw[hW,←hsa];exact heap_alloc_new _ _
 obtain⟨⟨a0,a1,a2⟩,-⟩:=box_cells hA
 have HX:Hid (Bw w W∧W.heap[w.heap.size+1]?=some (.cells #[.bool false,.slice none 0 0,.int .i64 0,.bool false] 72 (0,0))):=⟨hba.trans (hbW.mono hba.size),hC⟩
 have k1:=k W HX.out.1
 rw[hWa] at hW
 clear k hA hA0 hC hba hbW hsa hWa
 go_enter Tryz.func44,Tryz.ntmps44
 go_upto_region 1 with fail
 rw[←hW]
 clear hW
 go_wp2_with fail
 refine k1.mono ?_
 rintro r w1 ⟨s1,ao1,n1,cap1,ex1,rfl,hA,hb1⟩
 obtain⟨W1,hW1⟩:∃ W1,W1=w1.alloc (.cells #[.bool s1,.slice ao1 n1 cap1,.int .i64 ex1] 47):=⟨_,rfl⟩
 have hb2:Bw W W1:=by rw[hW1];exact hb1.alloc hb1.size _
 have HY:Hid (PN W1 (.agg #[.bool s1,.slice ao1 n1 cap1,.int .i64 ex1]) t∧Bw w W1∧W1.heap[w1.heap.size]?=some (.cells #[.bool s1,.slice ao1 n1 cap1,.int .i64 ex1] 47 (0,0))∧W1.heap[w.heap.size+1]?=some (.cells #[.bool false,.slice none 0 0,.int .i64 0,.bool false] 72 (0,0))) :=
  ⟨by rw[hW1];exact hA.later ((Below.refl _ _).alloc (Nat.le_refl _) _),HX.out.1.trans (hb2.mono HX.out.1.size),by rw[hW1];exact heap_alloc_new _ _,(hb2.block _ (Array.getElem?_eq_some_iff.1 HX.out.2).1).trans HX.out.2⟩
 clear k1 hA hb1 hb2 a0 a1 a2
 go_upto_region 2 with fail
 rw[←hW1]
 clear hW1
 generalize w1.heap.size=g1 at *
 obtain⟨⟨a0,a1,a2⟩,-⟩:=box_cells HY.out.2.2.1
 obtain⟨⟨x1,x2,x3,x4⟩,y1,y2,y3,y4⟩:=obox4 HY.out.2.2.2
 go_wp2
 refine bodyPost_ret (results_cell_row rfl _ _ (w.heap.size+1) 72 #[.bool s1,.slice ao1 n1 cap1,.int .i64 ex1,.bool al] (0,0) _ rfl (ostore4 _ _ _ _ HY.out.2.2.2) Tryz.underlying72 rfl (by kernel_rfl)) rfl ?_
 exact⟨_,_,_,_,_,rfl,opn_store4 HY.out.1 HY.out.2.2.2 _ _ _ _,obelow4 HY.out.2.1 (by omega) _ _ _ _⟩
theorem un_posO {A p:Nat} (h:A≠0):un ((A:Nat):Int) p=(false,A / 2^tz A,(tz A:Int) - (p:Int)):=by
 unfold un cn
 rw[Int.natAbs_natCast,if_neg h,decide_eq_false (by omega)]
 refine Prod.ext rfl (Prod.ext rfl ?_)
 show -(p:Int)+(tz A:Int)=(tz A:Int) - (p:Int)
 omega
theorem rtQ_un {A p P:Nat} (hp:p≤2*P):rtQ (un ((A:Nat):Int) p).2.1 (un ((A:Nat):Int) p).2.2 P=A*2^(2*P - p)∧(0≤(un ((A:Nat):Int) p).2.2+2*(P:Int)∨(un ((A:Nat):Int) p).2.1=0):=by
 by_cases h:A=0
 ·subst h
  rw[show un ((0:Nat):Int) p=nilN from un_0 p]
  refine⟨?_,.inr rfl⟩
  unfold rtQ nilN
  split <;> simp
 ·rw[un_posO h]
  have ht:=(tz_spec A A (Nat.le_refl _) h).1
  refine⟨?_,.inl (by show 0≤(tz A:Int) - (p:Int)+2*(P:Int);omega)⟩
  unfold rtQ
  rw[if_pos (by show 0≤(tz A:Int) - (p:Int)+2*(P:Int);omega)]
  show A / 2^tz A*2^((tz A:Int) - (p:Int)+2*(P:Int)).toNat=_
  rw[show((tz A:Int) - (p:Int)+2*(P:Int)).toNat=tz A+(2*P - p) by omega,Nat.pow_add,←Nat.mul_assoc,Nat.mul_comm (A / 2^tz A),ht]
theorem proot_un {A p P m b:Nat} {X:Value} {w:World} (hA:A<2^b) (hb:b≤60000) (hp:p≤2*P) (hP:P≤20000) (hm1:m*m≤A*2^(2*P - p)) (hm2:A*2^(2*P - p)<(m+1)*(m+1)) (hmb:m<2^60000) (hT:Tab32 w) (hX:PN w X (un ((A:Nat):Int) p)) :
  Calls Tryz.prog 68 #[X,.int .i64 (P:Nat)] w fun r w'=>∃ s ao n cap e,r=.returned (.tuple #[.agg #[.bool s,.slice ao n cap,.int .i64 e],.bool (decide (m*m=A*2^(2*P - p))),.int .i64 0])∧PN w' (.agg #[.bool s,.slice ao n cap,.int .i64 e]) (un ((m:Nat):Int) P)∧Bw w w':=by
 have ho:=ok_un (Z:=((A:Nat):Int)) (p:=p) (b:=b) (by rw[Int.natAbs_natCast];exact hA) hb (by omega)
 obtain⟨q1,q2⟩:=rtQ_un (A:=A) hp
 have hs:(un ((A:Nat):Int) p).1=false:=by
  by_cases h:A=0
  ·subst h;rw[show un ((0:Nat):Int) p=nilN from un_0 p];rfl
  ·rw[un_posO h]
 have f:=ho.facts
 have ho':=ho
 unfold Ok at ho'
 rw[hs] at ho'
 obtain⟨ua,uc,rfl,i1⟩:=hX
 rw[hs]
 refine(root_ok (x:=(un ((A:Nat):Int) p).2.1) (ea:=(un ((A:Nat):Int) p).2.2) (place:=(P:Int)) i1 hT f.1 ho' ⟨f.2.1,f.2.2.1⟩ (by omega)).mono ?_
 rintro r w' ⟨m',hm',h⟩
 rw[q1] at hm' h
 obtain rfl:=isqrt_eq ⟨hm1,hm2⟩ hm'
 rw[decide_eq_true q2,Bool.true_and] at h
 have hk:=okR_un (Z:=((m:Nat):Int)) (p:=P) (b:=60000) (by rw[Int.natAbs_natCast];exact hmb) (by omega) (by omega)
 rw[Int.natAbs_natCast,decide_eq_false (by omega)] at hk
 obtain⟨s1,ao1,n1,cap1,e1,rfl,h2,h3⟩:=held3_pn h hk
 refine⟨_,_,_,_,_,rfl,?_,h3⟩
 have e:un ((m:Nat):Int) P=cn false m (-(P:Int)):=by
  unfold un
  rw[Int.natAbs_natCast,decide_eq_false (by omega)]
 rw[e]
 exact h2
theorem OrootAt_un {A p P m b:Nat} {X:Value} {w:World} (hA:A<2^b) (hb:b≤60000) (hp:p≤2*P) (hP:P≤20000) (hm1:m*m≤A*2^(2*P - p)) (hm2:A*2^(2*P - p)<(m+1)*(m+1)) (hmb:m<2^60000) (hT:Tab32 w) (hX:PN w X (un ((A:Nat):Int) p)) :
  Calls Tryz.prog 44 #[X,.int .i64 (P:Nat)] w fun r w'=>OutCt w (un ((m:Nat):Int) P) (decide (m*m=A*2^(2*P - p))) r w':=by
 obtain⟨s,ao,n,cap,e,rfl⟩:=hX.shape
 exact OrootAt_1 s ao n cap e P _ _ w fun W hW=>proot_un hA hb hp hP hm1 hm2 hmb (hT.later hW) (hX.later hW)
theorem OhalfRoot_1 (s0:Bool) (ao0:Option Addr) (n0 cap0:Nat) (ex0:Int) (al al2:Bool) (s9:Bool) (ao9:Option Addr) (n9 cap9:Nat) (ex9:Int) (t3 t4 t5 tw tm t6:Bool×Nat×Int) (w:World)
  (kA:Hid (∀ W,Bw w W→Calls Tryz.prog 45 #[.agg #[.bool s0,.slice ao0 n0 cap0,.int .i64 ex0],.agg #[.bool s9,.slice ao9 n9 cap9,.int .i64 ex9]] W fun r w'=>OutA W t3 r w'))
  (kS:Hid (∀ W X,Bw w W→PN W X t3→Calls Tryz.prog 71 #[X,.int .i64 (-1)] W fun r w'=>OutN8 W t4 r w'))
  (kR:Hid (∀ W X,Bw w W→PN W X t4→Calls Tryz.prog 44 #[X,.int .i64 1075] W fun r w'=>OutCt W t5 al2 r w'))
  (kW:Hid (∀ W,Bw w W→Calls Tryz.prog 72 #[.int .i64 1] W fun r w'=>OutP W tw r w'))
  (kS2:Hid (∀ W X,Bw w W→PN W X tw→Calls Tryz.prog 71 #[X,.int .i64 (-1076)] W fun r w'=>OutN8 W tm r w'))
  (kA2:Hid (∀ W X Y,Bw w W→PN W X t5→PN W Y tm→Calls Tryz.prog 45 #[X,Y] W fun r w'=>OutA W t6 r w')) :
  Calls Tryz.prog 47 #[.agg #[.bool s0,.slice ao0 n0 cap0,.int .i64 ex0,.bool al],.agg #[.bool s9,.slice ao9 n9 cap9,.int .i64 ex9]] w fun r w'=>OutA w (if al&&al2 then t5 else t6) r w':=by
 obtain⟨T,hT⟩:∃ T,T=if al&&al2 then t5 else t6:=⟨_,rfl⟩
 rw[←hT]
 have HT:Hid (T=if al&&al2 then t5 else t6):=hT
 clear hT
 obtain⟨Wa,hWa⟩:∃ W,W=w.alloc (.cells #[.bool s0,.slice ao0 n0 cap0,.int .i64 ex0,.bool al] 72):=⟨_,rfl⟩
 obtain⟨W,hW⟩:∃ W,W=(Wa.alloc (.cells #[.bool s9,.slice ao9 n9 cap9,.int .i64 ex9] 47)).alloc (.cells #[.bool false,.slice none 0 0,.int .i64 0] 47):=⟨_,rfl⟩
 have hsa:Wa.heap.size=w.heap.size+1:=by rw[hWa];simp
 have hba:Bw w Wa:=by rw[hWa];exact(Below.refl _ _).alloc (Nat.le_refl _) _
 obtain⟨y1,y2,y3,y4⟩:=two29 _ _ hW
 have hA0:Wa.heap[w.heap.size]?=some (.cells #[.bool s0,.slice ao0 n0 cap0,.int .i64 ex0,.bool al] 72 (0,0)):=by rw[hWa];exact heap_alloc_new _ _
 have hA:W.heap[w.heap.size]?=some (.cells #[.bool s0,.slice ao0 n0 cap0,.int .i64 ex0,.bool al] 72 (0,0)):=(y4.block _ (Array.getElem?_eq_some_iff.1 hA0).1).trans hA0
 rw[hsa] at y1 y2
 have HX:Hid (Bw w W∧W.heap[w.heap.size]?=some (.cells #[.bool s0,.slice ao0 n0 cap0,.int .i64 ex0,.bool al] 72 (0,0))∧W.heap[w.heap.size+1+1]?=some (.cells #[.bool false,.slice none 0 0,.int .i64 0] 47 (0,0))):=⟨hba.trans (y4.mono hba.size),hA,y2⟩
 obtain⟨⟨a0,a1,a2,a3⟩,-⟩:=obox4 hA
 obtain⟨⟨b0,b1,b2⟩,-⟩:=box_cells y1
 rw[hWa] at hW
 clear y1 y2 y3 y4 hA0 hA hba hsa hWa
 go_enter Tryz.func47,Tryz.ntmps47
 go_upto_region 1 with fail
 rw[←hW]
 clear hW
 have kk:=kA.out W HX.out.1
 go_wp2_with fail
 refine kk.mono ?_
 rintro r v1 ⟨s1,ao1,n1,cap1,ex1,rfl,hA,hb1⟩
 have HA:Hid (PN v1 (.agg #[.bool s1,.slice ao1 n1 cap1,.int .i64 ex1]) t3∧Bw W v1):=⟨hA,hb1⟩
 clear hA hb1 kk a0 a1 a2 a3 b0 b1 b2 kA
 have kk:=kS.out v1 _ (HX.out.1.trans (HA.out.2.mono HX.out.1.size)) HA.out.1
 go_wp2_with fail
 refine kk.mono ?_
 rintro r v2 ⟨s2,ao2,n2,cap2,ex2,rfl,hA,hb0⟩
 have hb1:=HA.out.2.trans (hb0.mono HA.out.2.size)
 obtain⟨W1,hW1⟩:∃ W1,W1=v2.alloc (.cells #[.bool s2,.slice ao2 n2 cap2,.int .i64 ex2] 47):=⟨_,rfl⟩
 have hb2:Bw W W1:=by rw[hW1];exact hb1.alloc hb1.size _
 have HB:Hid (PN W1 (.agg #[.bool s2,.slice ao2 n2 cap2,.int .i64 ex2]) t4∧Bw W W1∧W1.heap[v2.heap.size]?=some (.cells #[.bool s2,.slice ao2 n2 cap2,.int .i64 ex2] 47 (0,0))):=⟨by rw[hW1];exact hA.later ((Below.refl _ _).alloc (Nat.le_refl _) _),hb2,by rw[hW1];exact heap_alloc_new _ _⟩
 clear kk hA hb0 hb1 hb2 HA kS
 go_upto_region 2 with fail
 rw[←hW1]
 clear hW1
 generalize v2.heap.size=g2 at *
 obtain⟨⟨a0,a1,a2⟩,-⟩:=box_cells HB.out.2.2
 have kk:=kR.out W1 _ (HX.out.1.trans (HB.out.2.1.mono HX.out.1.size)) HB.out.1
 go_wp2_with fail
 refine kk.mono ?_
 rintro r v3 ⟨s3,ao3,n3,cap3,ex3,rfl,hA,hb0⟩
 have hb1:=HB.out.2.1.trans (hb0.mono HB.out.2.1.size)
 obtain⟨W2,hW2⟩:∃ W1,W1=v3.alloc (.cells #[.bool s3,.slice ao3 n3 cap3,.int .i64 ex3,.bool al2] 72):=⟨_,rfl⟩
 have hb2:Bw W W2:=by rw[hW2];exact hb1.alloc hb1.size _
 have HC:Hid (PN W2 (.agg #[.bool s3,.slice ao3 n3 cap3,.int .i64 ex3]) t5∧Bw w W2∧W2.heap[v3.heap.size]?=some (.cells #[.bool s3,.slice ao3 n3 cap3,.int .i64 ex3,.bool al2] 72 (0,0))∧W2.heap[w.heap.size]?=some (.cells #[.bool s0,.slice ao0 n0 cap0,.int .i64 ex0,.bool al] 72 (0,0))∧W2.heap[w.heap.size+1+1]?=some (.cells #[.bool false,.slice none 0 0,.int .i64 0] 47 (0,0))) :=
  ⟨by rw[hW2];exact hA.later ((Below.refl _ _).alloc (Nat.le_refl _) _),HX.out.1.trans (hb2.mono HX.out.1.size),by rw[hW2];exact heap_alloc_new _ _,(hb2.block _ (Array.getElem?_eq_some_iff.1 HX.out.2.1).1).trans HX.out.2.1,box_later HX.out.2.2 hb2 (lt_of_box HX.out.2.2)⟩
 clear kk hA hb0 hb1 hb2 HB kR HX a0 a1 a2
 go_upto_region 3 with fail
 rw[←hW2]
 clear hW2
 generalize v3.heap.size=g3 at *
 obtain⟨⟨a0,a1,a2,a3⟩,-⟩:=obox4 HC.out.2.2.1
 obtain⟨⟨b0,b1,b2,b3⟩,-⟩:=obox4 HC.out.2.2.2.1
 obtain⟨⟨x1,x2,x3⟩,x4,x5,x6⟩:=box_cells HC.out.2.2.2.2
 cases al
 ·have hTt:=HT.out
  simp only[Bool.false_and,Bool.false_eq_true,if_false] at hTt
  subst hTt
  go_wp2_with fail
  refine(kW.out W2 HC.out.2.1).mono ?_
  rintro r v4 ⟨s4,ao4,n4,cap4,ex4,rfl,hA,hb4⟩
  have HD:Hid (PN v4 (.agg #[.bool s4,.slice ao4 n4 cap4,.int .i64 ex4]) tw∧Bw W2 v4):=⟨hA,hb4⟩
  clear hA hb4 kW
  have kk:=kS2.out v4 _ (HC.out.2.1.trans (HD.out.2.mono HC.out.2.1.size)) HD.out.1
  go_wp2_with fail
  refine kk.mono ?_
  rintro r v5 ⟨s5,ao5,n5,cap5,ex5,rfl,hA,hb0⟩
  have hb1:=HD.out.2.trans (hb0.mono HD.out.2.size)
  obtain⟨W3,hW3⟩:∃ W1,W1=v5.alloc (.cells #[.bool s5,.slice ao5 n5 cap5,.int .i64 ex5] 47):=⟨_,rfl⟩
  have hb2:Bw W2 W3:=by rw[hW3];exact hb1.alloc hb1.size _
  have HE:Hid (PN W3 (.agg #[.bool s5,.slice ao5 n5 cap5,.int .i64 ex5]) tm∧PN W3 (.agg #[.bool s3,.slice ao3 n3 cap3,.int .i64 ex3]) t5∧Bw w W3∧W3.heap[v5.heap.size]?=some (.cells #[.bool s5,.slice ao5 n5 cap5,.int .i64 ex5] 47 (0,0))∧W3.heap[g3]?=some (.cells #[.bool s3,.slice ao3 n3 cap3,.int .i64 ex3,.bool al2] 72 (0,0))∧W3.heap[w.heap.size+1+1]?=some (.cells #[.bool false,.slice none 0 0,.int .i64 0] 47 (0,0))) :=
   ⟨by rw[hW3];exact hA.later ((Below.refl _ _).alloc (Nat.le_refl _) _),HC.out.1.later hb2,HC.out.2.1.trans (hb2.mono HC.out.2.1.size),by rw[hW3];exact heap_alloc_new _ _,(hb2.block _ (Array.getElem?_eq_some_iff.1 HC.out.2.2.1).1).trans HC.out.2.2.1,box_later HC.out.2.2.2.2 hb2 (lt_of_box HC.out.2.2.2.2)⟩
  clear kk hA hb0 hb1 hb2 HD HC kS2 a0 a1 a2 a3 b0 b1 b2 b3 x1 x2 x3 x4 x5 x6
  go_upto_region 6 with fail
  rw[←hW3]
  clear hW3
  generalize v5.heap.size=g5 at *
  obtain⟨⟨a0,a1,a2,a3⟩,-⟩:=obox4 HE.out.2.2.2.2.1
  obtain⟨⟨b0,b1,b2⟩,-⟩:=box_cells HE.out.2.2.2.1
  have kk:=kA2.out W3 _ _ HE.out.2.2.1 HE.out.2.1 HE.out.1
  go_wp2_with fail
  refine kk.mono ?_
  rintro r v6 ⟨s6,ao6,n6,cap6,ex6,rfl,hA,hb0⟩
  have HG:Hid (PN v6 (.agg #[.bool s6,.slice ao6 n6 cap6,.int .i64 ex6]) T∧Bw w v6∧v6.heap[w.heap.size+1+1]?=some (.cells #[.bool false,.slice none 0 0,.int .i64 0] 47 (0,0))):=⟨hA,HE.out.2.2.1.trans (hb0.mono HE.out.2.2.1.size),box_later HE.out.2.2.2.2.2 hb0 (lt_of_box HE.out.2.2.2.2.2)⟩
  clear kk hA hb0 HE kA2 a0 a1 a2 a3 b0 b1 b2
  obtain⟨⟨x1,x2,x3⟩,x4,x5,x6⟩:=box_cells HG.out.2.2
  go_wp2_with fail
  refine bodyPost_ret (results_cell_row rfl _ _ (w.heap.size+1+1) 47 #[.bool s6,.slice ao6 n6 cap6,.int .i64 ex6] (0,0) _ rfl (store3 _ _ _ HG.out.2.2) Tryz.underlying47 rfl Tryz.info47) rfl ?_
  exact⟨_,_,_,_,_,rfl,pn_store HG.out.1 HG.out.2.2 _ _ _,below_store3 HG.out.2.1 (by omega) _ _ _⟩
 ·cases al2
  ·have hTt:=HT.out
   simp only[Bool.and_false,Bool.false_eq_true,if_false] at hTt
   subst hTt
   go_wp2_with fail
   refine(kW.out W2 HC.out.2.1).mono ?_
   rintro r v4 ⟨s4,ao4,n4,cap4,ex4,rfl,hA,hb4⟩
   have HD:Hid (PN v4 (.agg #[.bool s4,.slice ao4 n4 cap4,.int .i64 ex4]) tw∧Bw W2 v4):=⟨hA,hb4⟩
   clear hA hb4 kW
   have kk:=kS2.out v4 _ (HC.out.2.1.trans (HD.out.2.mono HC.out.2.1.size)) HD.out.1
   go_wp2_with fail
   refine kk.mono ?_
   rintro r v5 ⟨s5,ao5,n5,cap5,ex5,rfl,hA,hb0⟩
   have hb1:=HD.out.2.trans (hb0.mono HD.out.2.size)
   obtain⟨W3,hW3⟩:∃ W1,W1=v5.alloc (.cells #[.bool s5,.slice ao5 n5 cap5,.int .i64 ex5] 47):=⟨_,rfl⟩
   have hb2:Bw W2 W3:=by rw[hW3];exact hb1.alloc hb1.size _
   have HE:Hid (PN W3 (.agg #[.bool s5,.slice ao5 n5 cap5,.int .i64 ex5]) tm∧PN W3 (.agg #[.bool s3,.slice ao3 n3 cap3,.int .i64 ex3]) t5∧Bw w W3∧W3.heap[v5.heap.size]?=some (.cells #[.bool s5,.slice ao5 n5 cap5,.int .i64 ex5] 47 (0,0))∧W3.heap[g3]?=some (.cells #[.bool s3,.slice ao3 n3 cap3,.int .i64 ex3,.bool false] 72 (0,0))∧W3.heap[w.heap.size+1+1]?=some (.cells #[.bool false,.slice none 0 0,.int .i64 0] 47 (0,0))) :=
    ⟨by rw[hW3];exact hA.later ((Below.refl _ _).alloc (Nat.le_refl _) _),HC.out.1.later hb2,HC.out.2.1.trans (hb2.mono HC.out.2.1.size),by rw[hW3];exact heap_alloc_new _ _,(hb2.block _ (Array.getElem?_eq_some_iff.1 HC.out.2.2.1).1).trans HC.out.2.2.1,box_later HC.out.2.2.2.2 hb2 (lt_of_box HC.out.2.2.2.2)⟩
   clear kk hA hb0 hb1 hb2 HD HC kS2 a0 a1 a2 a3 b0 b1 b2 b3 x1 x2 x3 x4 x5 x6
   go_upto_region 6 with fail
   rw[←hW3]
   clear hW3
   generalize v5.heap.size=g5 at *
   obtain⟨⟨a0,a1,a2,a3⟩,-⟩:=obox4 HE.out.2.2.2.2.1
   obtain⟨⟨b0,b1,b2⟩,-⟩:=box_cells HE.out.2.2.2.1
   have kk:=kA2.out W3 _ _ HE.out.2.2.1 HE.out.2.1 HE.out.1
   go_wp2_with fail
   refine kk.mono ?_
   rintro r v6 ⟨s6,ao6,n6,cap6,ex6,rfl,hA,hb0⟩
   have HG:Hid (PN v6 (.agg #[.bool s6,.slice ao6 n6 cap6,.int .i64 ex6]) T∧Bw w v6∧v6.heap[w.heap.size+1+1]?=some (.cells #[.bool false,.slice none 0 0,.int .i64 0] 47 (0,0))):=⟨hA,HE.out.2.2.1.trans (hb0.mono HE.out.2.2.1.size),box_later HE.out.2.2.2.2.2 hb0 (lt_of_box HE.out.2.2.2.2.2)⟩
   clear kk hA hb0 HE kA2 a0 a1 a2 a3 b0 b1 b2
   obtain⟨⟨x1,x2,x3⟩,x4,x5,x6⟩:=box_cells HG.out.2.2
   go_wp2_with fail
   refine bodyPost_ret (results_cell_row rfl _ _ (w.heap.size+1+1) 47 #[.bool s6,.slice ao6 n6 cap6,.int .i64 ex6] (0,0) _ rfl (store3 _ _ _ HG.out.2.2) Tryz.underlying47 rfl Tryz.info47) rfl ?_
   exact⟨_,_,_,_,_,rfl,pn_store HG.out.1 HG.out.2.2 _ _ _,below_store3 HG.out.2.1 (by omega) _ _ _⟩
  ·have hTt:=HT.out
   simp only[Bool.and_self,if_true] at hTt
   subst hTt
   clear kW kS2 kA2
   go_wp2_with fail
   refine bodyPost_ret (results_cell_row rfl _ _ (w.heap.size+1+1) 47 #[.bool s3,.slice ao3 n3 cap3,.int .i64 ex3] (0,0) _ rfl (store3 _ _ _ HC.out.2.2.2.2) Tryz.underlying47 rfl Tryz.info47) rfl ?_
   exact⟨_,_,_,_,_,rfl,pn_store HC.out.1 HC.out.2.2.2.2 _ _ _,below_store3 HC.out.2.1 (by omega) _ _ _⟩
end Go.Proofs.YtgdhdailchonmabGreatDoor
namespace Go.Proofs.YtgdhdailchonmabGreatDoor
open Go.RowKit
structure ParX (pv pa ps:Nat→Nat) (W0:World) (a0:Act) (m n:Nat) (slot bx:Nat→Tmp) (vs:Nat→Nat) (T:TypeId) (zs:Array Value) (V:Nat→World→Value→Prop) (listed:Array Bool) (a:Act) (w:World):Prop where
 below:Bw W0 w
 size:a.tmps.size=a0.tmps.size
 defers:a.defers=a0.defers
 other:∀ s,(∀ j,j<m→s≠slot j)→(∀ k,k<n→s≠bx k)→a.tmps[s]?=a0.tmps[s]?
 val:∀ j,j<m→listed.getD (pv j) false=true→∃ u,a.tmps[slot j]?=some u∧V j w u
 box:∀ k,k<n→listed.getD (pa k) false=true→∃ g cs,a.tmps[bx k]?=some (.pointer (some ⟨g,0,none⟩))∧W0.heap.size≤g∧w.heap[g]?=some (.cells cs T (0,0))∧cs.size=zs.size ∧
  (listed.getD (ps k) false=true→a.tmps[slot (vs k)]?=some (.agg cs))∧(listed.getD (ps k) false=false→cs=zs)
 apart:∀ k k',k<n→k'<n→k≠k'→listed.getD (pa k) false=true→listed.getD (pa k') false=true→a.tmps[bx k]?≠a.tmps[bx k']?
 stored:∀ k,k<n→listed.getD (ps k) false=true→listed.getD (pa k) false=true∧listed.getD (pv (vs k)) false=true
theorem parx_region {P:Program} {ops:Array Oper} {Q:Exit→Act→World→Prop} {id:Nat} (hm:P.follows .mixedOrders=true) (pv pa ps:Nat→Nat) (m n:Nat) (slot bx:Nat→Tmp) (vs:Nat→Nat) (dep:Nat→List Nat) (T:TypeId) (zs:Array Value)
  (W0:World) (a0:Act) (V:Nat→World→Value→Prop) (hall0:∀ i,i<ops.size→(∃ j,j<m∧i=pv j)∨(∃ k,k<n∧i=pa k)∨∃ k,k<n∧i=ps k)
  (hpv:∀ j,j<m→pv j<ops.size) (hpa:∀ k,k<n→pa k<ops.size) (hps:∀ k,k<n→ps k<ops.size)
  (hvv:∀ j j',j<m→j'<m→pv j=pv j'→j=j') (haa:∀ k k',k<n→k'<n→pa k=pa k'→k=k') (hss:∀ k k',k<n→k'<n→ps k=ps k'→k=k')
  (hva:∀ j k,j<m→k<n→pv j≠pa k) (hvs:∀ j k,j<m→k<n→pv j≠ps k) (has:∀ k k',k<n→k'<n→pa k≠ps k')
  (hord:∀ (i:Nat) (o:Oper),ops[i]?=some o→∀ e ∈ o.after,Region.binds .any e=true→e.on<i)
  (hV1:∀ j w w' u,Bw w w'→V j w u→V j w' u)
  (hV2:∀ j w u g cs',w.heap[g]?=some (.cells zs T (0,0))→V j w u→V j (w.setRow g cs') u)
  (hVs:∀ k,k<n→∀ w u,V (vs k) w u→∃ cs:Array Value,u=.agg cs∧cs.size=zs.size∧cs.all (·.oneCell')=true)
  (hdep:∀ j,j<m→∀ j' ∈ dep j,j'<m∧∀ o,ops[pv j]?=some o→∃ e ∈ o.after,e.on=pv j'∧Region.binds .any e=true)
  (hA:∀ j,j<m→∀ (a:Act) (w:World),Bw W0 w→(∀ s,(∀ j,j<m→s≠slot j)→(∀ k,k<n→s≠bx k)→a.tmps[s]?=a0.tmps[s]?) →
   (∀ j' ∈ dep j,∃ u,a.tmps[slot j']?=some u∧V j' w u)→wpOp P ops Q (pv j) (fun a' w'=>∃ u,a'=a.put (some (slot j)) u∧V j w' u∧Bw w w') a w)
  (hal:∀ k,k<n→∃ o,ops[pa k]?=some o∧o.guard=none∧o.op=.alloc T∧o.dst=some (bx k))
  (hz:∀ w,(zeroValue T).run P w=.ok (.agg zs) w) (hi:(P.info? T).map (·.size)=some zs.size)
  (hst:∀ k,k<n→vs k<m∧∃ o,ops[ps k]?=some o∧o.guard=none∧o.op=.store T (.tmp (bx k)) (.tmp (slot (vs k)))∧o.dst=none∧(∃ e ∈ o.after,e.on=pa k∧Region.binds .any e=true)∧(∃ e ∈ o.after,e.on=pv (vs k)∧Region.binds .any e=true))
  (hin:∀ j,j<m→slot j<a0.tmps.size) (hbin:∀ k,k<n→bx k<a0.tmps.size)
  (hinj:∀ j j',j<m→j'<m→slot j=slot j'→j=j') (hbinj:∀ k k',k<n→k'<n→bx k=bx k'→k=k') (hsb:∀ j k,j<m→k<n→slot j≠bx k)
  (hQ:∀ (u:Nat→Value) (g:Nat→Nat) (a:Act) (w:World),Bw W0 w→(∀ j,j<m→a.tmps[slot j]?=some (u j)∧V j w (u j)) →
   (∀ k,k<n→a.tmps[bx k]?=some (.pointer (some ⟨g k,0,none⟩))∧W0.heap.size≤g k∧∃ cs,u (vs k)=.agg cs∧w.heap[g k]?=some (.cells cs T (0,0))) →
   (∀ k k',k<n→k'<n→k≠k'→g k≠g k')→a.tmps.size=a0.tmps.size→a.defers=a0.defers→(∀ s,(∀ j,j<m→s≠slot j)→(∀ k,k<n→s≠bx k)→a.tmps[s]?=a0.tmps[s]?)→Q .normal a w) :
  (Code.region id ops true).wp P Q a0 W0:=by
 refine wp_region_any hm ?_
 refine wpAny_inv (ParX pv pa ps W0 a0 m n slot bx vs T zs V) ?_ ?_ ops.size _ a0 _ (by simp) ?_ (by simp)
 ·-- a step
  intro listed a w i hl hI hr
  obtain⟨hun,o,ho,hall⟩:=mem_ready.1 hr
  have hunf:=not_listed hun
  have hio:i<ops.size:=(Array.getElem?_eq_some_iff.1 ho).1
  have hil:i<listed.size:=by omega
  have hset:=listed_set hil
  have hne:∀ x,x≠i→(listed.setIfInBounds i true).getD x false=listed.getD x false:=fun x hx=>getD_set_ne false (Ne.symm hx)
  rcases hall0 i hio with ⟨i,him,rfl⟩|⟨k,hk,rfl⟩|⟨k,hk,rfl⟩
  ·have nv:∀ j,j<m→j≠i→pv j≠pv i:=fun j hj e e2=>e (hvv j i hj him e2)
   have na:∀ k,k<n→pa k≠pv i:=fun k hk e=>hva i k him hk e.symm
   have ns:∀ k,k<n→ps k≠pv i:=fun k hk e=>hvs i k him hk e.symm
   refine wpOp_mono ?_ (hA i him a w hI.below hI.other fun j' hj'=>?_)
   ·rintro a' w' ⟨u,rfl,hu,hb⟩
    have hlt:slot i<a.tmps.size:=by rw[hI.size];exact hin i him
    refine⟨hI.below.trans (hb.mono hI.below.size),by rw[put_size];exact hI.size,by rw[put_defers];exact hI.defers,fun s h1 h2=>?_,fun j hj h1=>?_,fun k hk h1=>?_,fun k k' hk hk' hkk h1 h2=>?_,fun k hk h1=>?_⟩
    ·rw[put_get_ne (h1 i him)];exact hI.other s h1 h2
    ·by_cases e:j=i
     ·subst e;exact⟨u,put_get hlt,hu⟩
     ·rw[hne _ (nv j hj e)] at h1
      obtain⟨u',g1,g2⟩:=hI.val j hj h1
      exact⟨u',by rw[put_get_ne (fun e2=>e (hinj j i hj him e2))];exact g1,hV1 _ _ _ _ hb g2⟩
    ·rw[hne _ (na k hk)] at h1
     obtain⟨g,cs,g1,g2,g3,g4,g5,g6⟩:=hI.box k hk h1
     refine⟨g,cs,by rw[put_get_ne (Ne.symm (hsb i k him hk))];exact g1,g2,(hb.block g (Array.getElem?_eq_some_iff.1 g3).1).trans g3,g4,fun h2=>?_,fun h2=>g6 (by rw[←hne (ps k) (ns k hk)];exact h2)⟩
     rw[hne _ (ns k hk)] at h2
     have h3:=(hI.stored k hk h2).2
     have h4:vs k≠i:=fun e=>by rw[e,hunf] at h3;cases h3
     rw[put_get_ne (fun e2=>h4 (hinj _ _ (hst k hk).1 him e2))]
     exact g5 h2
    ·rw[hne _ (na k hk)] at h1
     rw[hne _ (na k' hk')] at h2
     rw[put_get_ne (Ne.symm (hsb i k him hk)),put_get_ne (Ne.symm (hsb i k' him hk'))]
     exact hI.apart k k' hk hk' hkk h1 h2
    ·rw[hne _ (ns k hk)] at h1
     obtain⟨h2,h3⟩:=hI.stored k hk h1
     exact⟨getD_set_true h2,getD_set_true h3⟩
   ·obtain⟨h1,h2⟩:=hdep i him j' hj'
    obtain⟨e,he,h3,hbd⟩:=h2 o ho
    exact hI.val _ h1 (by rw[←h3];exact hall e he hbd)
  ·have nv:∀ j,j<m→pv j≠pa k:=fun j hj=>hva j k hj hk
   have na:∀ k1,k1<n→k1≠k→pa k1≠pa k:=fun k1 hk1 e e2=>e (haa k1 k hk1 hk e2)
   have ns:∀ k1,k1<n→ps k1≠pa k:=fun k1 hk1 e=>has k k1 hk hk1 e.symm
   obtain⟨o',ho',hg,hop,hd⟩:=hal k hk
   refine step_alloc ho' hg hop hz ?_
   rw[hd]
   have hlt:bx k<a.tmps.size:=by rw[hI.size];exact hbin k hk
   have hbw:Below w.heap.size w (w.alloc (.cells zs T)):=(Below.refl _ _).alloc (Nat.le_refl _) _
   refine⟨hI.below.trans (hbw.mono hI.below.size),by rw[put_size];exact hI.size,by rw[put_defers];exact hI.defers,fun s h1 h2=>?_,fun j hj h1=>?_,fun k1 hk1 h1=>?_,fun k1 k2 hk1 hk2 hkk h1 h2=>?_,fun k1 hk1 h1=>?_⟩
   ·rw[put_get_ne (h2 k hk)];exact hI.other s h1 h2
   ·rw[hne _ (nv j hj)] at h1
    obtain⟨u',g1,g2⟩:=hI.val j hj h1
    exact⟨u',by rw[put_get_ne (hsb j k hj hk)];exact g1,hV1 _ _ _ _ hbw g2⟩
   ·by_cases e:k1=k
    ·subst e
     refine⟨w.heap.size,zs,put_get hlt,hI.below.size,heap_alloc_new _ _,rfl,fun h2=>?_,fun _=>rfl⟩
     rw[hne _ (ns k1 hk)] at h2
     have:=(hI.stored k1 hk h2).1
     rw[hunf] at this
     cases this
    ·rw[hne _ (na k1 hk1 e)] at h1
     obtain⟨g,cs,g1,g2,g3,g4,g5,g6⟩:=hI.box k1 hk1 h1
     refine⟨g,cs,by rw[put_get_ne (fun e2=>e (hbinj _ _ hk1 hk e2))];exact g1,g2,(hbw.block g (Array.getElem?_eq_some_iff.1 g3).1).trans g3,g4,fun h2=>?_,fun h2=>g6 (by rw[←hne (ps k1) (ns k1 hk1)];exact h2)⟩
     rw[hne _ (ns k1 hk1)] at h2
     rw[put_get_ne (hsb _ k (hst k1 hk1).1 hk)]
     exact g5 h2
   ·have old:∀ k1,k1<n→k1≠k→listed.getD (pa k1) false=true→a.tmps[bx k1]?≠some (.pointer (some ⟨w.heap.size,0,none⟩)):=fun k1 hk1 e h1 h2=>by
     obtain⟨g,cs,g1,g2,g3,g4,g5,g6⟩:=hI.box k1 hk1 h1
     have hlt:=(Array.getElem?_eq_some_iff.1 g3).1
     rw[g1] at h2
     simp only[Option.some.injEq,Value.pointer.injEq,Addr.mk.injEq] at h2
     omega
    by_cases e1:k1=k
    ·subst e1
     rw[hne _ (na k2 hk2 (Ne.symm hkk))] at h2
     rw[put_get hlt,put_get_ne (fun e2=>hkk (hbinj _ _ hk hk2 e2.symm))]
     exact Ne.symm (old k2 hk2 (Ne.symm hkk) h2)
    ·rw[hne _ (na k1 hk1 e1)] at h1
     by_cases e2:k2=k
     ·subst e2
      rw[put_get hlt,put_get_ne (fun e2=>e1 (hbinj _ _ hk1 hk e2))]
      exact old k1 hk1 e1 h1
     ·rw[hne _ (na k2 hk2 e2)] at h2
      rw[put_get_ne (fun e3=>e1 (hbinj _ _ hk1 hk e3)),put_get_ne (fun e3=>e2 (hbinj _ _ hk2 hk e3))]
      exact hI.apart k1 k2 hk1 hk2 hkk h1 h2
   ·rw[hne _ (ns k1 hk1)] at h1
    obtain⟨h2,h3⟩:=hI.stored k1 hk1 h1
    exact⟨getD_set_true h2,getD_set_true h3⟩
  ·have nv:∀ j,j<m→pv j≠ps k:=fun j hj=>hvs j k hj hk
   have na:∀ k1,k1<n→pa k1≠ps k:=fun k1 hk1=>has k1 k hk1 hk
   have ns:∀ k1,k1<n→k1≠k→ps k1≠ps k:=fun k1 hk1 e e2=>e (hss k1 k hk1 hk e2)
   obtain⟨hvm,o',ho',hg,hop,hd,⟨e1,he1,hon1,hb1⟩,e2,he2,hon2,hb2⟩:=hst k hk
   obtain rfl:o'=o:=Option.some.inj (ho'.symm.trans ho)
   have l1:=hall e1 he1 hb1
   have l2:=hall e2 he2 hb2
   rw[hon1] at l1
   rw[hon2] at l2
   obtain⟨u,hu1,hu2⟩:=hI.val _ hvm l2
   obtain⟨cs,rfl,hc1,hc2⟩:=hVs k hk w u hu2
   obtain⟨g,old,g1,g2,g3,g4,g5,g6⟩:=hI.box k hk l1
   rw[g6 hunf] at g3 g4
   refine step_store ho' hg hop g1 hu1 g3 (by rw[hc1];exact hi) (by omega) hc2 ?_
   rw[hd]
   show ParX pv pa ps W0 a0 m n slot bx vs T zs V _ a _
   refine⟨below_row hI.below g2 _,hI.size,hI.defers,hI.other,fun j hj h1=>?_,fun k1 hk1 h1=>?_,fun k1 k2 hk1 hk2 hkk h1 h2=>?_,fun k1 hk1 h1=>?_⟩
   ·rw[hne _ (nv j hj)] at h1
    obtain⟨u',q1,q2⟩:=hI.val j hj h1
    exact⟨u',q1,hV2 _ _ _ _ _ g3 q2⟩
   ·rw[hne _ (na k1 hk1)] at h1
    by_cases e:k1=k
    ·subst e
     exact⟨g,cs,g1,g2,setRow_heap w g _ cs T _ g3,hc1,fun _=>hu1,fun h2=>by rw[hset] at h2;cases h2⟩
    ·obtain⟨g',cs',q1,q2,q3,q4,q5,q6⟩:=hI.box k1 hk1 h1
     have hgg:g'≠g:=fun e2=>by
      subst e2
      exact hI.apart k1 k hk1 hk e h1 l1 (q1.trans g1.symm)
     refine⟨g',cs',q1,q2,(setRow_other w g g' cs hgg).trans q3,q4,fun h2=>?_,fun h2=>q6 (by rw[←hne (ps k1) (ns k1 hk1 e)];exact h2)⟩
     rw[hne _ (ns k1 hk1 e)] at h2
     exact q5 h2
   ·rw[hne _ (na k1 hk1)] at h1
    rw[hne _ (na k2 hk2)] at h2
    exact hI.apart k1 k2 hk1 hk2 hkk h1 h2
   ·by_cases e:k1=k
    ·subst e
     exact⟨getD_set_true l1,getD_set_true l2⟩
    ·rw[hne _ (ns k1 hk1 e)] at h1
     obtain⟨h2,h3⟩:=hI.stored k1 hk1 h1
     exact⟨getD_set_true h2,getD_set_true h3⟩
 ·-- the end: all have come up
  intro listed a w hl hI hr
  have hfull:∀ i,i<ops.size→listed.getD i false=true:=by
   intro i
   induction i using Nat.strongRecOn with
   | _ i ih =>
    intro hi
    cases hx:listed.getD i false with
    | true=>rfl
    | false =>
     exfalso
     have ho:ops[i]?=some ops[i]:=Array.getElem?_eq_getElem hi
     have:i ∈ Region.ready .any ops listed:=by
      refine mem_ready.2 ⟨?_,ops[i],ho,fun e he hbe=>ih e.on (hord i _ ho e he hbe) (Nat.lt_trans (hord i _ ho e he hbe) hi)⟩
      have hil:i<listed.size:=by omega
      simp only[Array.getD_eq_getD_getElem?,Array.getElem?_eq_getElem hil,Option.getD_some] at hx ⊢
      exact hx
     rw[hr] at this
     cases this
  have hval:∀ j,∃ u,j<m→a.tmps[slot j]?=some u∧V j w u:=fun j=>by
   by_cases hj:j<m
   ·obtain⟨u,h1,h2⟩:=hI.val j hj (hfull _ (hpv j hj))
    exact⟨u,fun _=>⟨h1,h2⟩⟩
   ·exact⟨undef,fun h=>absurd h hj⟩
  obtain⟨u,hu⟩:=Classical.axiomOfChoice hval
  have hbox:∀ k,∃ g,k<n→a.tmps[bx k]?=some (.pointer (some ⟨g,0,none⟩))∧W0.heap.size≤g∧∃ cs,u (vs k)=.agg cs∧w.heap[g]?=some (.cells cs T (0,0)):=fun k=>by
   by_cases hk:k<n
   ·obtain⟨g,cs,h1,h2,h3,h4,h5,-⟩:=hI.box k hk (hfull _ (hpa k hk))
    refine⟨g,fun _=>⟨h1,h2,cs,?_,h3⟩⟩
    have h6:=h5 (hfull _ (hps k hk))
    rw[(hu _ (hst k hk).1).1] at h6
    exact Option.some.inj h6
   ·exact⟨0,fun h=>absurd h hk⟩
  obtain⟨g,hg⟩:=Classical.axiomOfChoice hbox
  exact hQ u g a w hI.below hu hg (fun k k' hk hk' hkk e=>hI.apart k k' hk hk' hkk (hfull _ (hpa k hk)) (hfull _ (hpa k' hk')) (by rw[(hg k hk).1,(hg k' hk').1,e])) hI.size hI.defers hI.other
 ·-- the start
  have h0:∀ x,(Array.replicate ops.size false).getD x false=true→False:=fun x h=>by
   simp[Array.getD_eq_getD_getElem?,Array.getElem?_replicate] at h
   split at h <;> simp at h
  exact⟨(Below.refl _ _).drew,rfl,rfl,fun _ _ _=>rfl,fun j _ h=>(h0 _ h).elim,fun k _ h=>(h0 _ h).elim,fun k k' _ _ _ h=>(h0 _ h).elim,fun k _ h=>(h0 _ h).elim⟩
structure KeepB (n:Nat) (gs:Nat→Nat) (B:Nat) (W0 w:World):Prop where
 below:Below B W0 w
 size:W0.heap.size≤w.heap.size
 keep:∀ b,b<W0.heap.size→(∀ k,k<n→b≠gs k)→w.heap[b]?=W0.heap[b]?
theorem KeepB.step {n:Nat} {gs:Nat→Nat} {B:Nat} {W0 w w':World} (h:KeepB n gs B W0 w) (hB:B≤W0.heap.size) (hb:Bw w w'):KeepB n gs B W0 w' :=
 ⟨h.below.trans (hb.mono (Nat.le_trans hB h.size)),Nat.le_trans h.size hb.size,fun b h1 h2=>(hb.block b (Nat.lt_of_lt_of_le h1 h.size)).trans (h.keep b h1 h2)⟩
theorem KeepB.row {n:Nat} {gs:Nat→Nat} {B:Nat} {W0 w:World} (h:KeepB n gs B W0 w) {k:Nat} (hk:k<n) (hB:B≤gs k) (cs:Array Value):KeepB n gs B W0 (w.setRow (gs k) cs) :=
 ⟨below_row h.below hB _,by simpa using h.size,fun b h1 h2=>(setRow_other w (gs k) b cs (h2 k hk)).trans (h.keep b h1 h2)⟩
structure ParQ (pv ps:Nat→Nat) (rd:Nat→List Nat) (W0:World) (a0:Act) (m n:Nat) (slot:Nat→Tmp) (vs gs:Nat→Nat) (B:Nat) (T:TypeId) (C:Array Value→Prop) (z:Nat) (V:Nat→World→Value→Prop) (listed:Array Bool) (a:Act) (w:World):Prop where
 kept:KeepB n gs B W0 w
 size:a.tmps.size=a0.tmps.size
 defers:a.defers=a0.defers
 other:∀ s,(∀ j,j<m→s≠slot j)→a.tmps[s]?=a0.tmps[s]?
 val:∀ j,j<m→listed.getD (pv j) false=true→∃ u,a.tmps[slot j]?=some u∧V j w u
 box:∀ k,k<n→∃ cs,w.heap[gs k]?=some (.cells cs T (0,0))∧cs.size=z∧C cs∧(listed.getD (ps k) false=true→a.tmps[slot (vs k)]?=some (.agg cs))∧(listed.getD (ps k) false=false→w.heap[gs k]?=W0.heap[gs k]?)
 stored:∀ k,k<n→listed.getD (ps k) false=true→∀ j ∈ rd k,listed.getD (pv j) false=true
theorem parq_region {P:Program} {ops:Array Oper} {Q:Exit→Act→World→Prop} {id:Nat} (hm:P.follows .mixedOrders=true) (pv ps:Nat→Nat) (m n:Nat) (slot bx:Nat→Tmp) (vs gs:Nat→Nat) (B:Nat) (dep rd:Nat→List Nat) (T:TypeId) (C:Array Value→Prop) (z:Nat)
  (W0:World) (a0:Act) (V:Nat→World→Value→Prop) (hcov:∀ i,i<ops.size→(∃ j,j<m∧i=pv j)∨∃ k,k<n∧i=ps k) (hpv:∀ j,j<m→pv j<ops.size) (hps:∀ k,k<n→ps k<ops.size) (dvs:∀ j k,j<m→k<n→pv j≠ps k) (ivv:∀ j j',j<m→j'<m→pv j=pv j'→j=j') (iss:∀ k k',k<n→k'<n→ps k=ps k'→k=k')
  (hord:∀ (i:Nat) (o:Oper),ops[i]?=some o→∀ e ∈ o.after,Region.binds .any e=true→e.on<i)
  (hV1:∀ j w w' u,Bw w w'→V j w u→V j w' u)
  (hV2:∀ j w u g cs cs',w.heap[g]?=some (.cells cs T (0,0))→C cs→V j w u→V j (w.setRow g cs') u)
  (hVs:∀ k,k<n→∀ w u,V (vs k) w u→∃ cs:Array Value,u=.agg cs∧cs.size=z∧C cs∧cs.all (·.oneCell')=true)
  (hdep:∀ j,j<m→∀ j' ∈ dep j,j'<m∧∀ o,ops[pv j]?=some o→∃ e ∈ o.after,e.on=pv j'∧Region.binds .any e=true)
  (hA:∀ j,j<m→∀ (a:Act) (w:World),KeepB n gs B W0 w→(∀ s,(∀ j,j<m→s≠slot j)→a.tmps[s]?=a0.tmps[s]?) →
   (∀ j' ∈ dep j,∃ u,a.tmps[slot j']?=some u∧V j' w u)→(∀ k,k<n→j ∈ rd k→w.heap[gs k]?=W0.heap[gs k]?)→wpOp P ops Q (pv j) (fun a' w'=>∃ u,a'=a.put (some (slot j)) u∧V j w' u∧Bw w w') a w)
  (hi:(P.info? T).map (·.size)=some z)
  (hst:∀ k,k<n→vs k<m∧∃ o,ops[ps k]?=some o∧o.guard=none∧o.op=.store T (.tmp (bx k)) (.tmp (slot (vs k)))∧o.dst=none∧vs k ∈ rd k∧∀ j ∈ rd k,j<m∧∃ e ∈ o.after,e.on=pv j∧Region.binds .any e=true)
  (hbx:∀ k,k<n→a0.tmps[bx k]?=some (.pointer (some ⟨gs k,0,none⟩))∧∀ j,j<m→bx k≠slot j)
  (hbox:∀ k,k<n→B≤gs k∧∃ cs,W0.heap[gs k]?=some (.cells cs T (0,0))∧cs.size=z∧C cs)
  (hgs:∀ k k',k<n→k'<n→gs k=gs k'→k=k') (hB:B≤W0.heap.size)
  (hin:∀ j,j<m→slot j<a0.tmps.size)
  (hinj:∀ j j',j<m→j'<m→slot j=slot j'→j=j')
  (hQ:∀ (u:Nat→Value) (a:Act) (w:World),KeepB n gs B W0 w→(∀ j,j<m→a.tmps[slot j]?=some (u j)∧V j w (u j)) →
   (∀ k,k<n→∃ cs,u (vs k)=.agg cs∧w.heap[gs k]?=some (.cells cs T (0,0))) →
   a.tmps.size=a0.tmps.size→a.defers=a0.defers→(∀ s,(∀ j,j<m→s≠slot j)→a.tmps[s]?=a0.tmps[s]?)→Q .normal a w) :
  (Code.region id ops true).wp P Q a0 W0:=by
 have hvrd:∀ k,k<n→vs k ∈ rd k:=fun k hk=>by
  obtain⟨_,_,_,_,_,_,h,_⟩:=hst k hk
  exact h
 refine wp_region_any hm ?_
 refine wpAny_inv (ParQ pv ps rd W0 a0 m n slot vs gs B T C z V) ?_ ?_ ops.size _ a0 _ (by simp) ?_ (by simp)
 ·-- a step
  intro listed a w i hl hI hr
  obtain⟨hun,o,ho,hall⟩:=mem_ready.1 hr
  have hunf:=not_listed hun
  have hio:i<ops.size:=(Array.getElem?_eq_some_iff.1 ho).1
  have hil:i<listed.size:=by omega
  have hset:=listed_set hil
  have hne:∀ x,x≠i→(listed.setIfInBounds i true).getD x false=listed.getD x false:=fun x hx=>getD_set_ne false (Ne.symm hx)
  rcases hcov i hio with ⟨i,him,rfl⟩|⟨k,hk,rfl⟩
  ·refine wpOp_mono ?_ (hA i him a w hI.kept hI.other (fun j' hj'=>?_) (fun k hk hjk=>?_))
   ·rintro a' w' ⟨u,rfl,hu,hb⟩
    have hlt:slot i<a.tmps.size:=by rw[hI.size];exact hin i him
    refine⟨hI.kept.step hB hb,by rw[put_size];exact hI.size,by rw[put_defers];exact hI.defers,fun s h1=>?_,fun j hj h1=>?_,fun k hk=>?_,fun k hk h1 jr hjr=>?_⟩
    ·rw[put_get_ne (h1 i him)];exact hI.other s h1
    ·by_cases e:j=i
     ·subst e;exact⟨u,put_get hlt,hu⟩
     ·rw[hne (pv j) (fun e2=>e (ivv j i hj him e2))] at h1
      obtain⟨u',g1,g2⟩:=hI.val j hj h1
      exact⟨u',by rw[put_get_ne (fun e2=>e (hinj j i hj him e2))];exact g1,hV1 _ _ _ _ hb g2⟩
    ·obtain⟨cs,g3,g4,g5,g6,g7⟩:=hI.box k hk
     refine⟨cs,(hb.block _ (Array.getElem?_eq_some_iff.1 g3).1).trans g3,g4,g5,fun h2=>?_,fun h2=>(hb.block _ (Array.getElem?_eq_some_iff.1 g3).1).trans (g7 (by rw[←hne (ps k) (Ne.symm (dvs i k him hk))];exact h2))⟩
     rw[hne _ (Ne.symm (dvs i k him hk))] at h2
     have h3:=hI.stored k hk h2 (vs k) (hvrd k hk)
     have h4:vs k≠i:=fun e=>by rw[e,hunf] at h3;cases h3
     rw[put_get_ne (fun e2=>h4 (hinj _ _ (hst k hk).1 him e2))]
     exact g6 h2
    ·rw[hne _ (Ne.symm (dvs i k him hk))] at h1
     exact getD_set_true (hI.stored k hk h1 jr hjr)
   ·obtain⟨h1,h2⟩:=hdep i him j' hj'
    obtain⟨e,he,hon,hbd⟩:=h2 o ho
    exact hI.val _ h1 (by rw[←hon];exact hall e he hbd)
   ·obtain⟨cs,g3,g4,g5,g6,g7⟩:=hI.box k hk
    refine g7 ?_
    cases hs:listed.getD (ps k) false
    ·rfl
    ·have h3:=hI.stored k hk hs i hjk
     rw[hunf] at h3;cases h3
  ·obtain⟨hvm,o',ho',hg,hop,hd,hvr,hrd⟩:=hst k hk
   obtain rfl:o'=o:=Option.some.inj (ho'.symm.trans ho)
   have lr:∀ j ∈ rd k,listed.getD (pv j) false=true:=fun j hj=>by
    obtain⟨-,e2,he2,hon2,hb2⟩:=hrd j hj
    rw[←hon2]
    exact hall e2 he2 hb2
   have l2:=lr _ hvr
   obtain⟨u,hu1,hu2⟩:=hI.val _ hvm l2
   obtain⟨cs,rfl,hc1,hcC,hc2⟩:=hVs k hk w u hu2
   obtain⟨old,g3,g4,g5,g6,-⟩:=hI.box k hk
   have hbk:a.tmps[bx k]?=some (.pointer (some ⟨gs k,0,none⟩)):=by rw[hI.other _ (hbx k hk).2];exact(hbx k hk).1
   refine step_store ho' hg hop hbk hu1 g3 (by rw[hc1];exact hi) (by omega) hc2 ?_
   rw[hd]
   show ParQ pv ps rd W0 a0 m n slot vs gs B T C z V _ a _
   refine⟨hI.kept.row hk (hbox k hk).1 _,hI.size,hI.defers,hI.other,fun j hj h1=>?_,fun k1 hk1=>?_,fun k1 hk1 h1 jr hjr=>?_⟩
   ·rw[hne (pv j) (dvs j k hj hk)] at h1
    obtain⟨u',q1,q2⟩:=hI.val j hj h1
    exact⟨u',q1,hV2 _ _ _ _ _ _ g3 g5 q2⟩
   ·by_cases e:k1=k
    ·subst e
     exact⟨cs,setRow_heap w (gs k1) old cs T _ g3,hc1,hcC,fun _=>hu1,fun h2=>by rw[hset] at h2;cases h2⟩
    ·obtain⟨cs',q3,q4,q5,q6,q7⟩:=hI.box k1 hk1
     have hgg:gs k1≠gs k:=fun e2=>e (hgs k1 k hk1 hk e2)
     refine⟨cs',(setRow_other w (gs k) (gs k1) cs hgg).trans q3,q4,q5,fun h2=>?_,fun h2=>(setRow_other w (gs k) (gs k1) cs hgg).trans (q7 (by rw[←hne (ps k1) (fun e2=>e (iss k1 k hk1 hk e2))];exact h2))⟩
     rw[hne _ (fun e2=>e (iss k1 k hk1 hk e2))] at h2
     exact q6 h2
   ·by_cases e:k1=k
    ·subst e
     exact getD_set_true (lr jr hjr)
    ·rw[hne _ (fun e2=>e (iss k1 k hk1 hk e2))] at h1
     exact getD_set_true (hI.stored k1 hk1 h1 jr hjr)
 ·-- the end: all have come up
  intro listed a w hl hI hr
  have hfull:∀ i,i<ops.size→listed.getD i false=true:=by
   intro i
   induction i using Nat.strongRecOn with
   | _ i ih =>
    intro hi
    cases hx:listed.getD i false with
    | true=>rfl
    | false =>
     exfalso
     have ho:ops[i]?=some ops[i]:=Array.getElem?_eq_getElem hi
     have:i ∈ Region.ready .any ops listed:=by
      refine mem_ready.2 ⟨?_,ops[i],ho,fun e he hbe=>ih e.on (hord i _ ho e he hbe) (Nat.lt_trans (hord i _ ho e he hbe) hi)⟩
      have hil:i<listed.size:=by omega
      simp only[Array.getD_eq_getD_getElem?,Array.getElem?_eq_getElem hil,Option.getD_some] at hx ⊢
      exact hx
     rw[hr] at this
     cases this
  have hval:∀ j,∃ u,j<m→a.tmps[slot j]?=some u∧V j w u:=fun j=>by
   by_cases hj:j<m
   ·obtain⟨u,h1,h2⟩:=hI.val j hj (hfull (pv j) (hpv j hj))
    exact⟨u,fun _=>⟨h1,h2⟩⟩
   ·exact⟨undef,fun h=>absurd h hj⟩
  obtain⟨u,hu⟩:=Classical.axiomOfChoice hval
  refine hQ u a w hI.kept hu (fun k hk=>?_) hI.size hI.defers hI.other
  obtain⟨cs,h3,h4,h5,h6,-⟩:=hI.box k hk
  have h7:=h6 (hfull _ (hps k hk))
  rw[(hu _ (hst k hk).1).1] at h7
  exact⟨cs,Option.some.inj h7,h3⟩
 ·-- the start
  have h0:∀ x,(Array.replicate ops.size false).getD x false=true→False:=fun x h=>by
   simp[Array.getD_eq_getD_getElem?,Array.getElem?_replicate] at h
   split at h <;> simp at h
  refine⟨⟨(Below.refl _ _).drew,Nat.le_refl _,fun _ _ _=>rfl⟩,rfl,rfl,fun _ _=>rfl,fun j _ h=>(h0 _ h).elim,fun k hk=>?_,fun k _ h=>(h0 _ h).elim⟩
  obtain⟨-,cs,h1,h2,h3⟩:=hbox k hk
  exact⟨cs,h1,h2,h3,fun h=>(h0 _ h).elim,fun _=>rfl⟩
def RowsAll (T:TypeId) (C:Array Value→Prop):List (World→Value→Prop)→Prop
 | []=>True
 | P :: r=>(∀ w u g cs cs',w.heap[g]?=some (.cells cs T (0,0))→C cs→P w u→P (w.setRow g cs') u)∧RowsAll T C r
theorem vL_rows {T:TypeId} {C:Array Value→Prop}:∀ {L:List (World→Value→Prop)},RowsAll T C L→∀ j w u g cs cs',w.heap[g]?=some (.cells cs T (0,0))→C cs→vL L j w u→vL L j (w.setRow g cs') u
 | [],_,j=>fun w u g cs cs' _ _ h=>by simp[vL] at h
 | P :: r,hL,0=>hL.1
 | P :: r,hL,j+1=>fun w u g cs cs' h1 h2 h=>vL_rows hL.2 j w u g cs cs' h1 h2 h
theorem isV_rows (x:Value) (T:TypeId) (C:Array Value→Prop):∀ w u g cs cs',w.heap[g]?=some (.cells cs T (0,0))→C cs→isV x w u→isV x (w.setRow g cs') u:=fun _ _ _ _ _ _ _ h=>h
def qrow (PVL PSL SL:List Nat) (D rd:List (List Nat)) (vs:List Nat) (i:Nat) (o:Oper):Bool :=
 o.after.all (fun e => !(Region.binds .any e)||decide (e.on<i))&&(PVL.contains i||PSL.contains i)
def qval (ops:Array Oper) (PVL SL:List Nat) (D:List (List Nat)) (j:Nat):Bool :=
 match ops[PVL.getD j 0]? with
 | some o=>o.dst==some (SL.getD j 0)&&(dL D j).all (fun j'=>decide (j'<PVL.length)&&vhas o (PVL.getD j' 0))
 | none=>false
def qsto (ops:Array Oper) (PVL PSL:List Nat) (rd:List (List Nat)) (vs:List Nat) (k:Nat):Bool :=
 match ops[PSL.getD k 0]? with
 | some o=>o.dst==none&&o.guard.isNone&&decide (vs.getD k 0<PVL.length)&&(dL rd k).contains (vs.getD k 0)&&(dL rd k).all (fun j=>decide (j<PVL.length)&&vhas o (PVL.getD j 0))
 | none=>false
def qchk (ops:Array Oper) (PVL PSL SL:List Nat) (D rd:List (List Nat)) (vs:List Nat):Bool :=
 ((List.range ops.size).all fun i=>match ops[i]? with|some o=>qrow PVL PSL SL D rd vs i o|none=>false)&&(List.range PVL.length).all (qval ops PVL SL D)&&(List.range PSL.length).all (qsto ops PVL PSL rd vs)&&decide (PVL++PSL).Nodup&&decide SL.Nodup&&decide (SL.length=PVL.length)
theorem getD_mem {l:List Nat} {j:Nat} (h:j<l.length):l.getD j 0 ∈ l:=by
 rw[List.getD_eq_getElem?_getD,List.getElem?_eq_getElem h]
 exact List.getElem_mem h
theorem getD_inj {l:List Nat} (hn:l.Nodup) {i j:Nat} (hi:i<l.length) (hj:j<l.length) (h:l.getD i 0=l.getD j 0):i=j:=by
 rw[List.getD_eq_getElem?_getD,List.getD_eq_getElem?_getD,List.getElem?_eq_getElem hi,List.getElem?_eq_getElem hj] at h
 exact(List.getElem_inj hn).1 h
theorem mem_getD {l:List Nat} {x:Nat} (h:x ∈ l):∃ j,j<l.length∧x=l.getD j 0:=by
 obtain⟨j,hj,e⟩:=List.mem_iff_getElem.1 h
 exact⟨j,hj,by rw[List.getD_eq_getElem?_getD,List.getElem?_eq_getElem hj];exact e.symm⟩
theorem q_region {P:Program} {ops:Array Oper} {Q:Exit→Act→World→Prop} {id:Nat} (hm:P.follows .mixedOrders=true) (PVL PSL SL:List Nat) (D rd:List (List Nat)) (vs:List Nat) (bx gs:Nat→Nat) (B:Nat) (T:TypeId) (C:Array Value→Prop) (z:Nat)
  (W0:World) (a0:Act) (L:List (World→Value→Prop)) (hchk:qchk ops PVL PSL SL D rd vs=true)
  (hV1:StaysAll L) (hV2:RowsAll T C L) (hsl:∀ s ∈ SL,s<a0.tmps.size)
  (hVs:∀ k,k<PSL.length→∀ w u,vL L (vs.getD k 0) w u→∃ cs:Array Value,u=.agg cs∧cs.size=z∧C cs∧cs.all (·.oneCell')=true)
  (hA:∀ j,j<PVL.length→∀ o,ops[PVL.getD j 0]?=some o→∀ (a:Act) (w:World),KeepB PSL.length gs B W0 w→(∀ s:Nat,SL.contains s=false→a.tmps[s]?=a0.tmps[s]?) →
   (∀ j' ∈ dL D j,∃ u,a.tmps[SL.getD j' 0]?=some u∧vL L j' w u)→(∀ k,k<PSL.length→j ∈ dL rd k→w.heap[gs k]?=W0.heap[gs k]?) →
   (o.guard=none∧o.wp P a w (fun a' w'=>∃ u,a'=a.put o.dst u∧vL L j w' u∧Bw w w') Q)∨wpOp P ops Q (PVL.getD j 0) (fun a' w'=>∃ u,a'=a.put o.dst u∧vL L j w' u∧Bw w w') a w)
  (hi:(P.info? T).map (·.size)=some z)
  (hst:∀ k,k<PSL.length→∃ o,ops[PSL.getD k 0]?=some o∧o.op=.store T (.tmp (bx k)) (.tmp (SL.getD (vs.getD k 0) 0)))
  (hbx:∀ k,k<PSL.length→a0.tmps[bx k]?=some (.pointer (some ⟨gs k,0,none⟩))∧SL.contains (bx k)=false)
  (hbox:∀ k,k<PSL.length→B≤gs k∧∃ cs,W0.heap[gs k]?=some (.cells cs T (0,0))∧cs.size=z∧C cs)
  (hgs:∀ k k',k<PSL.length→k'<PSL.length→gs k=gs k'→k=k') (hB:B≤W0.heap.size)
  (hQ:∀ (u:Nat→Value) (w:World),KeepB PSL.length gs B W0 w→(∀ j,j<PVL.length→vL L j w (u j)) →
   (∀ k,k<PSL.length→∃ cs,u (vs.getD k 0)=.agg cs∧w.heap[gs k]?=some (.cells cs T (0,0)))→Q .normal (putL a0 ((List.range PVL.length).map (fun j=>(SL.getD j 0,u j)))) w) :
  (Code.region id ops true).wp P Q a0 W0:=by
 unfold qchk at hchk
 simp only[Bool.and_eq_true,decide_eq_true_eq] at hchk
 obtain⟨⟨⟨⟨⟨h1,h2⟩,h3⟩,h4⟩,h5⟩,h6⟩:=hchk
 obtain⟨n1,n2,n3⟩:=List.nodup_append.1 h4
 have row:∀ {i o},ops[i]?=some o→qrow PVL PSL SL D rd vs i o=true:=fun {i o} ho=>by
  have:=List.all_eq_true.1 h1 i (List.mem_range.2 (Array.getElem?_eq_some_iff.1 ho).1)
  simp only[ho] at this
  exact this
 have val:∀ j,j<PVL.length→∃ o,ops[PVL.getD j 0]?=some o∧o.dst=some (SL.getD j 0)∧∀ j' ∈ dL D j,j'<PVL.length∧∃ e ∈ o.after,e.on=PVL.getD j' 0∧Region.binds .any e=true:=fun j hj=>by
  have:=List.all_eq_true.1 h2 j (List.mem_range.2 hj)
  unfold qval at this
  cases ho:ops[PVL.getD j 0]? with
  | none=>rw[ho] at this;cases this
  | some o =>
   rw[ho] at this
   simp only[Bool.and_eq_true] at this
   refine⟨o,rfl,by simpa using this.1,fun j' hj'=>?_⟩
   have:=List.all_eq_true.1 this.2 j' hj'
   rw[Bool.and_eq_true] at this
   exact⟨of_decide_eq_true this.1,vhas_ex this.2⟩
 have sto:∀ k,k<PSL.length→∃ o,ops[PSL.getD k 0]?=some o∧o.dst=none∧o.guard=none∧vs.getD k 0<PVL.length∧vs.getD k 0 ∈ dL rd k∧∀ j ∈ dL rd k,j<PVL.length∧∃ e ∈ o.after,e.on=PVL.getD j 0∧Region.binds .any e=true:=fun k hk=>by
  have:=List.all_eq_true.1 h3 k (List.mem_range.2 hk)
  unfold qsto at this
  cases ho:ops[PSL.getD k 0]? with
  | none=>rw[ho] at this;cases this
  | some o =>
   rw[ho] at this
   simp only[Bool.and_eq_true] at this
   obtain⟨⟨⟨⟨x1,x2⟩,x3⟩,x4⟩,x5⟩:=this
   refine⟨o,rfl,by simpa using x1,Option.isNone_iff_eq_none.1 x2,of_decide_eq_true x3,by simpa using x4,fun j hj=>?_⟩
   have:=List.all_eq_true.1 x5 j hj
   rw[Bool.and_eq_true] at this
   exact⟨of_decide_eq_true this.1,vhas_ex this.2⟩
 have hoth:∀ {s:Nat},SL.contains s=false→∀ j,j<PVL.length→s≠SL.getD j 0:=fun {s} h j hj e=>by
  have h7:=getD_mem (l:=SL) (j:=j) (by omega)
  rw[←e] at h7
  have:SL.contains s=true:=by simpa using h7
  rw[h] at this;cases this
 refine parq_region hm (fun j=>PVL.getD j 0) (fun k=>PSL.getD k 0) PVL.length PSL.length (fun j=>SL.getD j 0) bx (fun k=>vs.getD k 0) gs B (dL D) (dL rd) T C z W0 a0 (vL L) ?_ ?_ ?_ ?_ (fun j j' hj hj' e=>getD_inj n1 hj hj' e) (fun k k' hk hk' e=>getD_inj n2 hk hk' e) ?_ (fun j w w' u hb h=>vL_stays hV1 j w w' u hb h) (fun j w u g cs cs' y1 y2 h=>vL_rows hV2 j w u g cs cs' y1 y2 h) hVs ?_ ?_ hi ?_ ?_ hbox hgs hB (fun j hj=>hsl _ (getD_mem (by omega))) (fun j j' hj hj' e=>getD_inj h5 (by omega) (by omega) e) ?_
 ·intro i hi'
  have ho:ops[i]?=some ops[i]:=Array.getElem?_eq_getElem hi'
  have:=row ho
  unfold qrow at this
  rw[Bool.and_eq_true,Bool.or_eq_true] at this
  rcases this.2 with h|h
  ·exact .inl (mem_getD (by simpa using h))
  ·exact .inr (mem_getD (by simpa using h))
 ·intro j hj
  obtain⟨o,ho,-⟩:=val j hj
  exact(Array.getElem?_eq_some_iff.1 ho).1
 ·intro k hk
  obtain⟨o,ho,-⟩:=sto k hk
  exact(Array.getElem?_eq_some_iff.1 ho).1
 ·intro j k hj hk
  exact n3 _ (getD_mem hj) _ (getD_mem hk)
 ·intro i o ho e he hb
  have:=row ho
  unfold qrow at this
  rw[Bool.and_eq_true] at this
  have h7:=Array.all_eq_true_iff_forall_mem.1 this.1 e he
  rw[hb] at h7
  exact of_decide_eq_true (by simpa using h7)
 ·intro j hj j' hj'
  obtain⟨o,ho,-,hd⟩:=val j hj
  obtain⟨x1,x2⟩:=hd j' hj'
  refine⟨x1,fun o' ho'=>?_⟩
  obtain rfl:o=o':=Option.some.inj (ho.symm.trans ho')
  exact x2
 ·intro j hj a w hk ho1 hd hrd
  obtain⟨o,ho,hds,-⟩:=val j hj
  have h7:=hA j hj o ho a w hk (fun s hs=>ho1 s (hoth hs)) hd hrd
  rw[hds] at h7
  rcases h7 with ⟨hg,h7⟩|h7
  ·exact step_wanted ho hg h7
  ·exact h7
 ·intro k hk
  obtain⟨o,ho,hop⟩:=hst k hk
  obtain⟨o',ho',x1,x2,x3,x4,x5⟩:=sto k hk
  obtain rfl:o'=o:=Option.some.inj (ho'.symm.trans ho)
  exact⟨x3,o',ho,x2,hop,x1,x4,x5⟩
 ·intro k hk
  exact⟨(hbx k hk).1,hoth (hbx k hk).2⟩
 ·intro u a w hk hu hcs hs hd ho1
  have q1:((List.range PVL.length).map (fun j=>((SL.getD j 0,u j):Tmp×Value))).map (fun p:Tmp×Value=>p.1)=(List.range PVL.length).map (fun j=>SL.getD j 0):=by simp[Function.comp_def]
  have ha:=act_putL (a:=a) (a0:=a0) (l:=(List.range PVL.length).map (fun j=>((SL.getD j 0,u j):Tmp×Value))) (by
    rw[q1]
    refine List.pairwise_map.2 ((List.nodup_range (n:=PVL.length)).imp_of_mem ?_)
    intro x y hx hy hne he
    have:=List.mem_range.1 hx
    have:=List.mem_range.1 hy
    exact hne (getD_inj h5 (by omega) (by omega) he)) hs hd (by
    intro p hp
    obtain⟨i,hi,rfl⟩:=List.mem_map.1 hp
    exact(hu i (List.mem_range.1 hi)).1) (fun s hsn=>ho1 s (fun i hi he=>hsn (List.mem_map.2 ⟨_,List.mem_map.2 ⟨i,List.mem_range.2 hi,rfl⟩,he.symm⟩)))
  rw[ha]
  exact hQ u w hk (fun j hj=>(hu j hj).2) hcs
def ZRowsAll (T:TypeId) (zs:Array Value):List (World→Value→Prop)→Prop
 | []=>True
 | P :: r=>(∀ w u g cs',w.heap[g]?=some (.cells zs T (0,0))→P w u→P (w.setRow g cs') u)∧ZRowsAll T zs r
theorem vL_zrows {T:TypeId} {zs:Array Value}:∀ {L:List (World→Value→Prop)},ZRowsAll T zs L→∀ j w u g cs',w.heap[g]?=some (.cells zs T (0,0))→vL L j w u→vL L j (w.setRow g cs') u
 | [],_,j=>fun w u g cs' _ h=>by simp[vL] at h
 | P :: r,hL,0=>hL.1
 | P :: r,hL,j+1=>fun w u g cs' h1 h=>vL_zrows hL.2 j w u g cs' h1 h
end Go.Proofs.YtgdhdailchonmabGreatDoor
