/- Own work: contracts of the program's functions, part 20: DRG DRM DRH DRI DRK DRL DRJ DRN. -/
import Derived.Test.YtkcmhaknalomjaaGreatDoorA19

set_option maxHeartbeats 16000000
set_option maxRecDepth 200000
set_option linter.unusedVariables false
set_option linter.unusedSimpArgs false
namespace Go.Proofs.YtkcmhaknalomjaaGreatDoor
open Go Go.RowKit Go.Fl64
def TnB (w:World) (g3 g4:Nat) (a b:Nat) (wr:World) (s1:Bool) (ao1:Option Addr) (n1 cp1:Nat) (e1:Int) (s2:Bool) (ao2:Option Addr) (n2 cp2:Nat) (e2:Int):Prop :=
 NbQ wr g3 s1 ao1 n1 cp1 e1 (un ((10^a:Nat):Int) 0)∧NbQ wr g4 s2 ao2 n2 cp2 e2 (un ((10^b:Nat):Int) 0)∧wr.heap[w.heap.size]?=some (.cells #[.bool false,.slice none 0 0,.int .i64 0] 69 (0,0))∧Bw w wr∧w.heap.size<g3∧g3<g4∧g4<wr.heap.size
theorem TnB.put3 {w wr w':World} {g3 g4 a b a':Nat} {s1:Bool} {ao1:Option Addr} {n1 cp1:Nat} {e1:Int} {s2:Bool} {ao2:Option Addr} {n2 cp2:Nat} {e2:Int} {s3:Bool} {ao3:Option Addr} {n3 cp3:Nat} {e3:Int} (h:TnB w g3 g4 a b wr s1 ao1 n1 cp1 e1 s2 ao2 n2 cp2 e2) (hb:Bw wr w') (hd:DN w' (.agg #[.bool s3,.slice ao3 n3 cp3,.int .i64 e3]) (un ((10^a':Nat):Int) 0)):TnB w g3 g4 a' b (((w'.setCell ⟨g3,0,none⟩ (.bool s3)).setCell ⟨g3,1,none⟩ (.slice ao3 n3 cp3)).setCell ⟨g3,2,none⟩ (.int .i64 e3)) s3 ao3 n3 cp3 e3 s2 ao2 n2 cp2 e2:=by
 obtain⟨h1,h2,h3,h4,h5,h6,h7⟩:=h;have hs:=hb.size;have b1:=h1.later hb;refine⟨b1.put hd,(h2.later hb).other b1.1 (by omega) _ _ _,qG8 (qQ h3 hb (by omega)) (by omega) _ _ _,qQ3 (h4.trans (hb.mono h4.size)) (by omega) _ _ _,h5,h6,by simp[World.setCell];omega⟩
theorem TnB.put4 {w wr w':World} {g3 g4 a b b':Nat} {s1:Bool} {ao1:Option Addr} {n1 cp1:Nat} {e1:Int} {s2:Bool} {ao2:Option Addr} {n2 cp2:Nat} {e2:Int} {s3:Bool} {ao3:Option Addr} {n3 cp3:Nat} {e3:Int} (h:TnB w g3 g4 a b wr s1 ao1 n1 cp1 e1 s2 ao2 n2 cp2 e2) (hb:Bw wr w') (hd:DN w' (.agg #[.bool s3,.slice ao3 n3 cp3,.int .i64 e3]) (un ((10^b':Nat):Int) 0)):TnB w g3 g4 a b' (((w'.setCell ⟨g4,0,none⟩ (.bool s3)).setCell ⟨g4,1,none⟩ (.slice ao3 n3 cp3)).setCell ⟨g4,2,none⟩ (.int .i64 e3)) s1 ao1 n1 cp1 e1 s3 ao3 n3 cp3 e3:=by
 obtain⟨h1,h2,h3,h4,h5,h6,h7⟩:=h;have hs:=hb.size;have b2:=h2.later hb;refine⟨(h1.later hb).other b2.1 (by omega) _ _ _,b2.put hd,qG8 (qQ h3 hb (by omega)) (by omega) _ _ _,qQ3 (h4.trans (hb.mono h4.size)) (by omega) _ _ _,h5,h6,by simp[World.setCell];omega⟩
theorem yW0 {x y:Int} {k l:Nat} {X Y:Value} {w:World} (hx:x.natAbs<2^k) (hy:y.natAbs<2^l) (hk:k≤90000) (hl:l≤90000) (h1:DN w X (un x 0)) (h2:DN w Y (un y 0)):Calls Tryz.prog 50 #[X,Y] w fun r w'=>∃ A,r=.returned A∧DN w' A (un (x*y) 0)∧Bw w w':=by
 have h:=yN2 (qS8 hx hk (by omega)) (qS8 hy hl (by omega)) h1 h2
 rw[yK8] at h;exact h
theorem qD4 (a:Nat):(((10^a:Nat):Int)).natAbs<2^(4*a+1):=by
 rw[xM7];have h:10^a≤2^(4*a):=by rw[Nat.pow_mul];exact Nat.pow_le_pow_left (by decide) _
 rw[xP0];have:=xN0 (4*a)
 omega
theorem yI0 (a b:Nat):((10^a:Nat):Int)*((10^b:Nat):Int)=((10^(a+b):Nat):Int):=by rw[xM9];push_cast;rfl
theorem zG7 (a b:Nat) (ha:a≤10000) (hb:b≤10000) {X Y:Value} {w:World} (h1:DN w X (un ((10^a:Nat):Int) 0)) (h2:DN w Y (un ((10^b:Nat):Int) 0)):Calls Tryz.prog 50 #[X,Y] w fun r w'=>∃ s ao n cp e,r=.returned (.agg #[.bool s,.slice ao n cp,.int .i64 e])∧DN w' (.agg #[.bool s,.slice ao n cp,.int .i64 e]) (un ((10^(a+b):Nat):Int) 0)∧Bw w w':=by
 refine(yW0 (qD4 a) (qD4 b) (by omega) (by omega) h1 h2).mono ?_
 rintro r w' ⟨A,rfl,hA,hb'⟩;rw[yI0] at hA;obtain⟨s,ao,n,cp,e,rfl⟩:=hA.shape;exact⟨s,ao,n,cp,e,rfl,hA,hb'⟩
theorem xY6 (U:World) (g:Nat) (hg:g=U.heap.size) (d:Nat) (di:Int) (hdi:di=(d:Int)) (h0:0<d) (h:d<16):Calls Tryz.prog 112 #[.bool false,.slice (some ⟨g,0,none⟩) 1 1,.int .i64 0] (U.alloc (.cells #[.int .u32 di] 125)) fun r w'=>∃ s ao n cp e,r=.returned (.agg #[.bool s,.slice ao n cp,.int .i64 e])∧DN w' (.agg #[.bool s,.slice ao n cp,.int .i64 e]) (un ((d:Nat):Int) 0)∧Bw U w':=by
 subst hdi hg;have hi:=zW0 U d h0 h;have hl:=qN1 h;refine(zX1 (neg:=false) (x:=d) (e:=0) hi (by omega) (by omega)).mono ?_
 rintro r w' ⟨A,rfl,hA,hb⟩;have hD:DN w' A (un ((d:Nat):Int) 0):=by
  have:=hA.dn
  unfold un;rw[xB9 (by omega),xM7]
  exact this
 obtain⟨s,ao,n,cp,e,rfl⟩:=hD.shape;refine⟨s,ao,n,cp,e,rfl,hD,?_⟩
 have hb0:Below U.heap.size U (U.alloc (.cells #[.int .u32 (d:Int)] 125)):=(xB7 _ _).alloc (xB6 _) _;exact hb0.trans (hb.mono hb0.size)
theorem xV (N:Nat) (w:World) (hN:N≤2000) :
  Calls Tryz.prog 49 #[.int .i64 N] w fun r w'=>∃ A,r=.returned A∧DN w' A (un ((10^N:Nat):Int) 0)∧Bw w w':=by
 obtain⟨W,hW⟩:∃ W,W=w.alloc (.cells #[.bool false,.slice none 0 0,.int .i64 0] 69):=⟨_,rfl⟩;have hsz:W.heap.size=w.heap.size+1:=by rw[hW];simp
 have HW:Hid (Bw w W∧W.heap[w.heap.size]?=some (.cells #[.bool false,.slice none 0 0,.int .i64 0] 69 (0,0))∧W.heap.size=w.heap.size+1):=⟨by rw[hW];exact(xB7 _ _).alloc (xB6 _) _,by rw[hW];exact xM3 _ _,hsz⟩
 clear hsz;have k1:=xY6 W (w.heap.size+1) HW.out.2.2.symm 1 1 rfl (by decide) (by decide)
 go_enter Tryz.func49,Tryz.ntmps49
 go_wp2_with fail;rw[←hW];clear hW;refine k1.mono ?_;rintro r w1 ⟨s1,ao1,n1,cp1,e1,rfl,hd1,hb1⟩;clear k1;obtain⟨V,hV⟩:∃ V,V=w1.alloc (.cells #[.bool s1,.slice ao1 n1 cp1,.int .i64 e1] 69):=⟨_,rfl⟩;obtain⟨g3,hg3⟩:∃ g3,g3=w1.heap.size:=⟨_,rfl⟩;have k2:=xY6 V (g3+1) (by rw[hV,hg3];simp) 10 10 rfl (by decide) (by decide)
 have H1:Hid (NbQ V g3 s1 ao1 n1 cp1 e1 (un ((10^0:Nat):Int) 0)∧Bw W V∧W.heap.size≤g3∧V.heap.size=g3+1):=by
  have hbV:Bw w1 V:=by rw[hV];exact(xB7 _ _).alloc (xB6 _) _
  refine⟨⟨by rw[hV,hg3];exact xM3 _ _,hd1.later hbV⟩,hb1.trans (hbV.mono hb1.size),by rw[hg3];exact hb1.size,by rw[hV,hg3];simp⟩
 clear hd1 hb1
 go_upto_region 2 with fail;rw[←hV,←hg3];clear hV hg3;have hVs:=H1.out.2.2.2
 go_wp2_with fail;refine k2.mono ?_;rintro r w2 ⟨s2,ao2,n2,cp2,e2,rfl,hd2,hb2⟩;clear k2 hVs;obtain⟨V2,hV2⟩:∃ V2,V2=w2.alloc (.cells #[.bool s2,.slice ao2 n2 cp2,.int .i64 e2] 69):=⟨_,rfl⟩;obtain⟨g4,hg4⟩:∃ g4,g4=w2.heap.size:=⟨_,rfl⟩;have HT:Hid (TnB w g3 g4 0 1 V2 s1 ao1 n1 cp1 e1 s2 ao2 n2 cp2 e2):=by
  have hbV:Bw w2 V2:=by rw[hV2];exact(xB7 _ _).alloc (xB6 _) _
  have hV:Bw V V2:=hb2.trans (hbV.mono hb2.size);have hWV:Bw W V2:=H1.out.2.1.trans (hV.mono H1.out.2.1.size);have h3:=HW.out.2.2;have h4:=hb2.size;have h5:=H1.out.2.2;have h6:V2.heap.size=w2.heap.size+1:=by rw[hV2];simp
  refine⟨H1.out.1.later hV,⟨by rw[hV2,hg4];exact xM3 _ _,hd2.later hbV⟩,qQ HW.out.2.1 hWV (by omega),HW.out.1.trans (hWV.mono HW.out.1.size),by omega,by omega,by omega⟩
 clear hd2 hb2 H1
 go_upto_region 3 with fail;rw[←hV2,←hg4];clear hV2 hg4 HW
 go_loopw [0] (fun v wr=>∃ (n a b:Nat) (s1:Bool) (ao1:Option Addr) (n1 cp1:Nat) (e1:Int) (s2:Bool) (ao2:Option Addr) (n2 cp2:Nat) (e2:Int),n≤2000∧v=.int .i64 (n:Nat)∧a+b*n=N∧Hid (TnB w g3 g4 a b wr s1 ao1 n1 cp1 e1 s2 ao2 n2 cp2 e2)) (fun v _=>(intOf v).toNat)
 case atStart=>exact⟨N,0,1,_,_,_,_,_,_,_,_,_,_,hN,rfl,by omega,HT⟩
 case round =>
  obtain⟨n,a,b,s1,ao1,n1,cp1,e1,s2,ao2,n2,cp2,e2,hn,rfl,hab,HI⟩:=hrel;clear HT;by_cases h0:0<n
  ·have h0':(0:Int)<(n:Int):=by omega
   have hb1:b*1≤b*n:=xN8 _ h0;have hbN:b≤2000:=by omega
   have haN:a≤2000:=by omega
   have hq:Int.tdiv (n:Int) 2=((n / 2:Nat):Int):=by rw[Int.tdiv_eq_ediv_of_nonneg (by omega)];omega
   have hr:Int.tmod (n:Int) 2=((n % 2:Nat):Int):=by rw[Int.tmod_eq_emod_of_nonneg (by omega)];omega
   have hq2:n / 2≤2000:=by omega
   obtain⟨q,hqq⟩:∃ q,q=n / 2:=⟨_,rfl⟩;rw[←hqq] at hq hq2;have HQL:Hid (q<n):=(by omega:q<n)
   have hsq:∀ (U:World),DN U (.agg #[.bool s2,.slice ao2 n2 cp2,.int .i64 e2]) (un ((10^b:Nat):Int) 0)→_:=fun U h=>zG7 b b (by omega) (by omega) h h
   by_cases hodd:n % 2=1
   ·rw[hodd] at hr;have HNN:Hid (a+b+(b+b)*q=N):=(by
     have e:n=2*q+1:=by omega
     rw[e] at hab;have e2:b*(2*q+1)=b+(b+b)*q:=by rw[Nat.mul_add,Nat.add_mul,xP6,xP 2 q,←xP1,Nat.mul_two];omega
     omega:a+b+(b+b)*q=N)
    have k1:=zG7 a b (by omega) (by omega) HI.out.1.2 HI.out.2.1.2
    obtain⟨⟨c0,c1,c2⟩,-⟩:=qQ2 HI.out.1.1;obtain⟨⟨d0,d1,d2⟩,-⟩:=qQ2 HI.out.2.1.1;clear hab hodd hqq
    go_wp2_with fail;refine k1.mono ?_;rintro r w3 ⟨s3,ao3,n3,cp3,e3,rfl,hd3,hb3⟩;clear k1 c0 c1 c2 d0 d1 d2;have HI3:Hid (TnB w g3 g4 (a+b) b (((w3.setCell ⟨g3,0,none⟩ (.bool s3)).setCell ⟨g3,1,none⟩ (.slice ao3 n3 cp3)).setCell ⟨g3,2,none⟩ (.int .i64 e3)) s3 ao3 n3 cp3 e3 s2 ao2 n2 cp2 e2):=HI.out.put3 hb3 hd3;obtain⟨⟨c0,c1,c2⟩,f0,f1,f2⟩:=qQ2 (HI.out.1.later hb3).1;clear hd3 hb3 HI
    go_upto_region 6 with fail;obtain⟨U,hU⟩:∃ U,U=(((w3.setCell ⟨g3,0,none⟩ (.bool s3)).setCell ⟨g3,1,none⟩ (.slice ao3 n3 cp3)).setCell ⟨g3,2,none⟩ (.int .i64 e3)):=⟨_,rfl⟩;rw[←hU] at HI3 ⊢;clear hU c0 c1 c2 f0 f1 f2;have k2:=hsq U HI3.out.2.1.2;obtain⟨⟨d0,d1,d2⟩,-⟩:=qQ2 HI3.out.2.1.1
    go_wp2_with fail;refine k2.mono ?_;rintro r w4 ⟨s4,ao4,n4,cp4,e4,rfl,hd4,hb4⟩;clear k2 d0 d1 d2;have HI4:Hid (TnB w g3 g4 (a+b) (b+b) (((w4.setCell ⟨g4,0,none⟩ (.bool s4)).setCell ⟨g4,1,none⟩ (.slice ao4 n4 cp4)).setCell ⟨g4,2,none⟩ (.int .i64 e4)) s3 ao3 n3 cp3 e3 s4 ao4 n4 cp4 e4):=HI3.out.put4 hb4 hd4;obtain⟨⟨d0,d1,d2⟩,f0,f1,f2⟩:=qQ2 (HI3.out.2.1.later hb4).1;clear hd4 hb4 HI3 hsq
    go_wp2_with fail;exact⟨⟨q,a+b,b+b,_,_,_,_,_,_,_,_,_,_,hq2,rfl,HNN.out,HI4⟩,by have hql:=HQL.out;simp[intOf];omega⟩
   ·have hev:n % 2=0:=by omega
    rw[hev] at hr;have HNN:Hid (a+(b+b)*q=N):=(by
     have e:n=2*q:=by omega
     rw[e] at hab;have e2:b*(2*q)=(b+b)*q:=by rw[←Nat.mul_two,xP1]
     omega:a+(b+b)*q=N)
    have k2:=hsq wr HI.out.2.1.2;obtain⟨⟨d0,d1,d2⟩,-⟩:=qQ2 HI.out.2.1.1;clear hab hodd hqq hev
    go_wp2_with fail;refine k2.mono ?_;rintro r w4 ⟨s4,ao4,n4,cp4,e4,rfl,hd4,hb4⟩;clear k2 d0 d1 d2;have HI4:Hid (TnB w g3 g4 a (b+b) (((w4.setCell ⟨g4,0,none⟩ (.bool s4)).setCell ⟨g4,1,none⟩ (.slice ao4 n4 cp4)).setCell ⟨g4,2,none⟩ (.int .i64 e4)) s1 ao1 n1 cp1 e1 s4 ao4 n4 cp4 e4):=HI.out.put4 hb4 hd4;obtain⟨⟨d0,d1,d2⟩,f0,f1,f2⟩:=qQ2 (HI.out.2.1.later hb4).1;clear hd4 hb4 HI hsq
    go_wp2_with fail;exact⟨⟨q,a,b+b,_,_,_,_,_,_,_,_,_,_,hq2,rfl,HNN.out,HI4⟩,by have hql:=HQL.out;simp[intOf];omega⟩
  ·obtain rfl:n=0:=by omega
   obtain rfl:a=N:=by omega
   obtain⟨⟨c0,c1,c2⟩,-⟩:=qQ2 HI.out.1.1;obtain⟨⟨d0,d1,d2⟩,f0,f1,f2⟩:=qQ2 HI.out.2.2.1
   go_wp2_with fail;refine xM4 (xP7 rfl _ _ (w.heap.size) 69 #[.bool s1,.slice ao1 n1 cp1,.int .i64 e1] (0,0) _ rfl (qX2 _ _ _ HI.out.2.2.1) Tryz.underlying69 rfl Tryz.info69) rfl ?_;exact⟨_,rfl,HI.out.1.2.storeQ HI.out.2.2.1 _ _ _,qQ3 HI.out.2.2.2.1 (xB6 _) _ _ _⟩
theorem yH0 {Z P:Nat} (s:Bool) (hZ:Z≠0):un (if s then -(Z:Int) else(Z:Int)) P=(s,Z / 2^tz Z,(tz Z:Int) - (P:Int)):=by
 cases s
 ·rw[if_neg (by decide)]
  unfold un cn;rw[xM7,if_neg hZ,xB9 (by omega)]
  simp;omega
 ·rw[if_pos rfl];unfold un cn;rw[Int.natAbs_neg,xM7,if_neg hZ,xN (by omega)]
  simp;omega
theorem yH2 {U:Nat} (hU:U≠0):un (U:Int) 0=(false,U / 2^tz U,(tz U:Int)):=by
 unfold un cn;rw[xM7,if_neg hU,xB9 (by omega)]
 simp
theorem yJ1 {x y a c K:Nat} (hy:y≠0) (K':Int) (hK:K'=(K:Int)):x*2^a*2^K / (y*2^c)=x*2^((a:Int)+K' - min ((a:Int)+K') c).toNat / (y*2^((c:Int) - min ((a:Int)+K') c).toNat)∧(x*2^a*2^K % (y*2^c)=0↔x*2^((a:Int)+K' - min ((a:Int)+K') c).toNat % (y*2^((c:Int) - min ((a:Int)+K') c).toNat)=0):=by
 subst hK;rw[xP1,←xM9];by_cases h:c≤a+K
 ·obtain⟨d,hd⟩:∃ d,a+K=d+c:=⟨a+K - c,by omega⟩
  have e1:((a:Int)+(K:Int) - min ((a:Int)+(K:Int)) c).toNat=d:=by omega
  have e2:((c:Int) - min ((a:Int)+(K:Int)) c).toNat=0:=by omega
  rw[e1,e2,hd,xP2,xP6,xM9,←xP1];have hp:=xN0 c;refine⟨Nat.mul_div_mul_right _ _ hp,?_⟩
  rw[Nat.mul_mod_mul_right];constructor
  ·intro h9;rcases Nat.mul_eq_zero.1 h9 with h9|h9
   ·exact h9
   ·omega
  ·intro h9;rw[h9,Nat.zero_mul]
 ·obtain⟨d,hd⟩:∃ d,c=d+(a+K):=⟨c - (a+K),by omega⟩
  have e1:((a:Int)+(K:Int) - min ((a:Int)+(K:Int)) c).toNat=0:=by omega
  have e2:((c:Int) - min ((a:Int)+(K:Int)) c).toNat=d:=by omega
  rw[e1,e2,hd,xP2,xP6,xM9 2 d (a+K),←xP1];have hp:=xN0 (a+K);refine⟨Nat.mul_div_mul_right _ _ hp,?_⟩
  rw[Nat.mul_mod_mul_right];constructor
  ·intro h9;rcases Nat.mul_eq_zero.1 h9 with h9|h9
   ·exact h9
   ·omega
  ·intro h9;rw[h9,Nat.zero_mul]
theorem zR0 {Z U P K:Nat} (s:Bool) {m:Int} (hm:1≤m∧m≤3) (hZ:Z≠0) (hU:U≠0) (hK:64≤bl (Z*2^K / U)) :
  rtF (un (if s then -(Z:Int) else(Z:Int)) P) (un (U:Int) 0) m=tfF s (decide (Z*2^K % U=0)) (Z*2^K / U) (-((P:Int)+(K:Int))) m:=by
 rw[yH0 s hZ,yH2 hU];have sU:=(qX1 _ _ (xB6 _) hU).1;have sZ':=(qX1 _ _ (xB6 _) hZ).1;have hx:Z / 2^tz Z≠0:=by intro h9;rw[h9,Nat.mul_zero] at sZ';omega
 have hy:U / 2^tz U≠0:=by intro h9;rw[h9,Nat.mul_zero] at sU;omega
 rw[xP] at sU sZ';generalize hgy:U / 2^tz U=y at *;generalize hgx:Z / 2^tz Z=x at *;generalize tz U=c at *;generalize tz Z=a at *;clear hgx hgy;obtain⟨f1,f2⟩:=yJ1 (x:=x) (y:=y) (a:=a) (c:=c) (K:=K) hy (K:Int) rfl;rw[sZ',sU] at f1 f2;have hk:64+bl y≤bl x+(max 0 (64+(bl y:Int) - (bl x:Int))).toNat:=by omega
 have hd:decide (Z*2^K % U=0)=decide (x*2^((a:Int)+(K:Int) - min ((a:Int)+(K:Int)) c).toNat % (y*2^((c:Int) - min ((a:Int)+(K:Int)) c).toNat)=0):=by
  rw[decide_eq_decide];exact f2
 have eX:ovX x ((a:Int) - P) c ((P:Int)+K)=x*2^((a:Int)+(K:Int) - min ((a:Int)+(K:Int)) c).toNat:=by
  unfold ovX;congr 2;congr 1;omega
 have eY:ovY y ((a:Int) - P) c ((P:Int)+K)=y*2^((c:Int) - min ((a:Int)+(K:Int)) c).toNat:=by
  unfold ovY;congr 2;congr 1;omega
 have h:=zG0 (s:=s) (x:=x) (y:=y) (k:=(max 0 (64+(bl y:Int) - (bl x:Int))).toNat) (ea:=(a:Int) - P) (eb:=c) (P:=(P:Int)+K) hm hy (yD7 hx hy hk) (by rw[eX,eY,←f1];exact hK)
 rw[eX,eY] at h;rw[hd,f1,←h];unfold rtF rtK;simp
theorem qI6 {Z P:Nat} (s:Bool) {m:Int} (hm:1≤m∧m≤3) (hZ:Z≠0):rtF (un (if s then -(Z:Int) else(Z:Int)) P) (un ((1:Nat):Int) 0) m=tfF s true Z (-(P:Int)) m:=by
 have hb:64≤bl (Z*2^64 / 1):=by
  rw[Nat.div_one];refine zI4 (n:=63) ?_;have h1:1≤Z:=Nat.one_le_iff_ne_zero.2 hZ;have h2:1*2^64≤Z*2^64:=xN2 _ h1;exact xN5 (by decide) h2
 rw[zR0 s hm hZ (by decide) hb,Nat.div_one,Nat.mod_one,xN rfl,qI3 hm]
 congr 1
 omega
theorem yA6 {Z:Nat} (s:Bool) {e m:Int} (hm:1≤m∧m≤3) (hZ:Z≠0):tfF s true (Z / 2^tz Z) ((tz Z:Int)+e) m=tfF s true Z e m:=by
 have sZ:=(qX1 _ _ (xB6 _) hZ).1;rw[xP] at sZ;have h:=qI3 (s:=s) (x:=Z / 2^tz Z) (n:=tz Z) (e:=e) hm;rw[sZ] at h;rw[h];congr 1
 omega
theorem yF5 {Z U P c:Nat} (s:Bool) {m:Int} (hm:1≤m∧m≤3) (hZ:Z≠0) (hU:U≠0) (hc:1025≤c) (h:U*2^(P+c)≤Z) {y:Nat} {f:Int} (hy:y≠0) (hf:1024<(bl y:Int)+f) :
  rtF (un (if s then -(Z:Int) else(Z:Int)) P) (un (U:Int) 0) m=tfF s true y f m:=by
 have h1:2^(P+c)≤Z / U:=by
  rw[Nat.le_div_iff_mul_le (by omega),xP]
  exact h
 have h2:=zI4 h1;have hK:64≤bl (Z*2^0 / U):=by rw[xP2,xP6];omega
 rw[zR0 s hm hZ hU hK];refine zS0 hm (.inl hK) hy ?_ hf;rw[xP2,xP6];push_cast;omega
theorem yD6 {Z U P:Nat} (s:Bool) {m:Int} (hm:1≤m∧m≤3) (hZ:Z≠0) (hU:U≠0) {c:Nat} (hc:1077≤c) (h:Z*2^c≤U*2^P) {y:Nat} {f:Int} (hy:y≠0) (hf:(bl y:Int)+f < -1075) :
  rtF (un (if s then -(Z:Int) else(Z:Int)) P) (un (U:Int) 0) m=tfF s true y f m:=by
 obtain⟨K,hKd⟩:∃ K,K=64+bl U:=⟨_,rfl⟩;have hK:64≤bl (Z*2^K / U):=by
  refine yD7 hZ hU ?_;omega
 rw[zR0 s hm hZ hU hK];refine qR9 hm (.inl hK) hy ?_ hf;have h1:Z*2^K / U*2^c≤2^(P+K):=by
  have h3:Z*2^K / U*2^c≤Z*2^K*2^c / U:=by
   rw[Nat.le_div_iff_mul_le (by omega)]
   have:=xD3 (Z*2^K) U
   calc Z*2^K / U*2^c*U=Z*2^K / U*U*2^c:=by rw[Nat.mul_right_comm]
    _≤Z*2^K*2^c:=xN2 _ this
  refine xN5 h3 ?_;rw[Nat.mul_right_comm];have h4:Z*2^c*2^K / U≤U*2^P*2^K / U:=Nat.div_le_div_right (xN2 _ h);rw[xP1 U,Nat.mul_div_cancel_left _ (by omega),←xM9] at h4
  exact h4
 have h5:bl (Z*2^K / U)+c≤P+K+1:=by
  have h6:Z*2^K / U≠0:=by intro h9;rw[h9] at hK;simp[bl] at hK
  rw[←zJ4 h6];refine(qJ2 _ _).2 (xN4 h1 (Nat.pow_lt_pow_right (by decide) (by omega)))
 omega
theorem xX9 {t:Bool×Nat×Int} (hc:cn t.1 t.2.1 t.2.2=t) (h0:t.2.1≠0):t.2.1 % 2=1:=by
 have h1:=(qX1 _ _ (xB6 _) h0).2;have h2:t.2.1 / 2^tz t.2.1=t.2.1:=by
  have:=congrArg (fun u:Bool×Nat×Int=>u.2.1) hc
  unfold cn at this;rw[if_neg h0] at this;exact this
 rw[h2] at h1;exact h1
theorem dtoQ {t:Bool×Nat×Int} {m:Int} (o:Gn t) (hm:1≤m∧m≤3) {W:World} {A:Value} (h:DN W A t):Calls Tryz.prog 148 #[A,.int .i64 m] W fun r w'=>r=.returned (.float .f64 (toD t m))∧Bw W w':=by
 obtain⟨ao,cap,rfl,hA⟩:=h;unfold toD;by_cases h0:t.2.1=0
 ·rw[if_pos h0,h0,qQ5];exact rto_0 t.1 ao cap t.2.2 m W
 ·rw[if_neg h0,qM2 hm];exact rto hA.at_ hA.le (xX9 o.1 h0) (by have:=o.2.1;omega) (by have:=o.2.2.1;omega) (by have:=o.2.2.2;omega) hm
theorem dratQ {t1 t2:Bool×Nat×Int} {m:Int} (hx:dlen t1.2.1≤2048) (hy:dlen t2.2.1≤2048) (ha : -65536≤t1.2.2∧t1.2.2≤65536) (hb : -65536≤t2.2.2∧t2.2.2≤65536) (hx0:t1.2.1≠0) (hy0:t2.2.1≠0) (hm:1≤m∧m≤3) {W:World} {A B:Value} (h1:DN W A t1) (h2:DN W B t2) :
  Calls Tryz.prog 150 #[A,B,.int .i64 m] W fun r w'=>r=.returned (.float .f64 (rtF t1 t2 m))∧Bw W w':=by
 obtain⟨ao,cap,rfl,hA⟩:=h1;obtain⟨ao',cap',rfl,hA'⟩:=h2;exact yZ8 hA hA' hx hy ha hb hx0 hy0 hm (k:=rtK t1 t2) (by unfold rtK;omega)
theorem qX7 {W:World} {g:Nat} {a b c d e f:Value} {T:TypeId} (h:W.heap[g]?=some (.cells #[a,b,c,d,e,f] T (0,0))):W.cell? ⟨g,0,none⟩=some a∧W.cell? ⟨g,1,none⟩=some b∧W.cell? ⟨g,2,none⟩=some c∧W.cell? ⟨g,3,none⟩=some d∧W.cell? ⟨g,4,none⟩=some e∧W.cell? ⟨g,5,none⟩=some f:=by
 simp[World.cell?,h]
def VdB (w:World) (g:Nat) (TX:Array Value) (wx:World) (s1:Bool) (ao1:Option Addr) (n1 cp1:Nat) (e1:Int) (t:Bool×Nat×Int):Prop :=
 NbQ wx g s1 ao1 n1 cp1 e1 t∧wx.heap[w.heap.size]?=some (.cells TX 50 (0,0))∧Bw w wx∧w.heap.size<g
theorem VdB.later {w wx w':World} {g:Nat} {TX:Array Value} {s1:Bool} {ao1:Option Addr} {n1 cp1:Nat} {e1:Int} {t:Bool×Nat×Int} (h:VdB w g TX wx s1 ao1 n1 cp1 e1 t) (hb:Bw wx w'):VdB w g TX w' s1 ao1 n1 cp1 e1 t:=by
 obtain⟨h1,h2,h3,h4⟩:=h;exact⟨h1.later hb,qQ h2 hb (qQ6 h2),h3.trans (hb.mono h3.size),h4⟩
theorem VdB.put {w wx w':World} {g:Nat} {TX:Array Value} {s1:Bool} {ao1:Option Addr} {n1 cp1:Nat} {e1:Int} {s2:Bool} {ao2:Option Addr} {n2 cp2:Nat} {e2:Int} {t t':Bool×Nat×Int} (h:VdB w g TX wx s1 ao1 n1 cp1 e1 t) (hb:Bw wx w') (hd:DN w' (.agg #[.bool s2,.slice ao2 n2 cp2,.int .i64 e2]) t'):VdB w g TX (((w'.setCell ⟨g,0,none⟩ (.bool s2)).setCell ⟨g,1,none⟩ (.slice ao2 n2 cp2)).setCell ⟨g,2,none⟩ (.int .i64 e2)) s2 ao2 n2 cp2 e2 t':=by
 obtain⟨h1,h2,h3,h4⟩:=h.later hb;exact⟨h1.put hd,qG8 h2 (by omega) _ _ _,qQ3 h3 (by omega) _ _ _,h4⟩
def OutQ (W:World) (t:Bool×Nat×Int) (r:Ending) (w':World):Prop:=∃ (s1:Bool) (ao1:Option Addr) (n1 cp1:Nat) (e1:Int),r=.returned (.agg #[.bool s1,.slice ao1 n1 cp1,.int .i64 e1])∧DN w' (.agg #[.bool s1,.slice ao1 n1 cp1,.int .i64 e1]) t∧Bw W w'
theorem outQ {W w':World} {t:Bool×Nat×Int} {r:Ending} (h:∃ A,r=.returned A∧DN w' A t∧Bw W w'):OutQ W t r w':=by
 obtain⟨A,rfl,hA,hb⟩:=h;obtain⟨s,ao,n,cp,e,rfl⟩:=hA.shape;exact⟨s,ao,n,cp,e,rfl,hA,hb⟩
theorem gn_gN {t:Bool×Nat×Int} (h:Gn t):Gn (gN t):=by
 unfold gN;by_cases h0:t.2.1=0
 ·rw[if_pos h0];exact⟨by unfold cn;rw[if_pos rfl],by simp only[qQ5];omega,by simp only;omega,by simp only;omega⟩
 ·rw[if_neg h0];refine⟨?_,h.2⟩
  have hc:=h.1;unfold cn at hc ⊢;rw[if_neg h0] at hc ⊢;have h1:=congrArg (fun u:Bool×Nat×Int=>u.2) hc;simp only at h1 ⊢
  rw[h1]
theorem qW (L:List UInt8):(⟨L.toArray⟩:ByteArray).toList=L:=by
 rw[ByteArray.toList_eq]
theorem zH4 {k:Int}:gK k (un 1 0)=(false,1,k):=by
 have e:un 1 0=(false,1,0):=by decide +kernel
 rw[e];unfold gK;rw[if_neg (by decide)]
 simp
theorem gn_gM {Z:Int} {p b:Nat} (h:Z.natAbs<2^b) (hb:b≤8000) (hp:p≤4000) (tn:Nat) (ht:tn≤2000):Gn (gM (un Z p) (un ((10^tn:Nat):Int) 0)):=by
 rw[yK8];refine qS8 (b:=b+(4*tn+1)) ?_ (by omega) (by omega)
 rw[Int.natAbs_mul,xM9];exact Nat.mul_lt_mul_of_lt_of_le h (xD2 (qD4 tn)) (xN0 _)
theorem yH1 {Z:Int} {p b:Nat} (h:Z.natAbs<2^b) (hb:b≤60000) (hp:p≤60000) (h0:Z≠0):dlen (un Z p).2.1≤2048∧(-65536≤(un Z p).2.2∧(un Z p).2.2≤65536)∧(un Z p).2.1≠0:=by
 have h1:=un_e (p:=p) h;have h2:=zQ0 (zV8 (p:=p) h);refine⟨by omega,by omega,?_⟩
 have hz:Z.natAbs≠0:=by omega
 unfold un cn;rw[if_neg hz];have h3:=(qX1 _ _ (xB6 _) hz).1;intro h9;simp only at h9
 rw[h9,Nat.mul_zero] at h3;omega
theorem zE3 (neg hx:Bool) (wd R:ByteArray) (be ex m:Int) (D:List UInt8) (n j:Nat) (F:Nat) (TN TM:Bool×Nat×Int) (tv xv ten:Int) (w:World) (hhx:hx=false) (hR:Hid (R=⟨D.toArray⟩)) (hn:R.size=n) (hL:n≤1100) (hbe:0≤be∧be≤1100) (hex : -1000000000≤ex∧ex≤1000000000) (hm:1≤m∧m≤3)
  (hj:j<n) (hz:Hid (∀ k,k<j→bL D k=48)) (hnz:Hid (bL D j≠48)) (hdg:Hid (∀ k,k<n→48≤bL D k∧bL D k≤57))
  (htv:tv=ex - be) (hxv:xv=tv+((n - j:Nat):Int)) (hN:Hid ((400<xv→TN=(false,1,2000)∧ten=0)∧(xv < -400→TN=(false,1,-2000)∧ten=0)∧(-400≤xv∧xv≤400→TN=un (dvP 10 (D.drop j) (n - j):Nat) 0∧ten=tv)))
  (hTM:Hid (TM=if neg then gN TN else TN)) (hF1:Hid (∀ tn:Nat,ten=(tn:Int)→toD (gM TM (un ((10^tn:Nat):Int) 0)) m=F)) (hF2:Hid (∀ tn:Nat,0<tn→ten = -(tn:Int)→rtF TM (un ((10^tn:Nat):Int) 0) m=F))
  (Z:Int) (pz bz:Nat) (hZ:Hid (TM=un Z pz)) (hZb:Hid (Z.natAbs<2^bz)) (hZ0:Z≠0) (hbz:bz≤8000) (hpz:pz≤4000) (hten : -2000≤ten∧ten≤2000) :
  Calls Tryz.prog 85 #[.agg #[.bool neg,.string wd,.bool hx,.string R,.int .i64 be,.int .i64 ex],.int .i64 m] w fun r w'=>r=.returned (.float .f64 F)∧Bw w w':=by
 subst hhx;obtain⟨W,hW⟩:∃ W,W=w.alloc (.cells #[.bool neg,.string wd,.bool false,.string R,.int .i64 be,.int .i64 ex] 50):=⟨_,rfl⟩;have HW:Hid (Bw w W∧W.heap[w.heap.size]?=some (.cells #[.bool neg,.string wd,.bool false,.string R,.int .i64 be,.int .i64 ex] 50 (0,0))):=⟨by rw[hW];exact(xB7 _ _).alloc (xB6 _) _,by rw[hW];exact xM3 _ _⟩
 obtain⟨c0,c1,c2,c3,c4,c5⟩:=qX7 HW.out.2;have hRg:∀ k (h:k<R.size),(R[k]'h).toNat=bL D k:=by rw[hR.out];exact qP8 D
 have HRg:Hid (∀ k (h:k<R.size),(R[k]'h).toNat=bL D k):=hRg;clear hRg
 go_enter Tryz.func85,Tryz.ntmps85
 go_upto_region 1 with fail;rw[←hW];clear hW
 go_upto_region 12 with fail
 go_wp2_with fail
 go_loopw [8] (fun v wr=>∃ i:Nat,i≤j∧v=.int .i64 (i:Nat)∧wr=W) (fun v _=>n - (intOf v).toNat)
 case atStart=>exact⟨0,xM0 _,rfl,rfl⟩
 case round =>
  obtain⟨i,hi,rfl,rfl⟩:=hrel;have hin:(i:Int)<(n:Int):=by omega
  have hiR:i<R.size:=by omega
  have hg2:=HRg.out i;have hwi:IntKind.i64.wrap ((i:Int)+1)=(i:Int)+1:=by rw[xM1];omega
  by_cases hij:i<j
  ·rw[hz.out i hij] at hg2
   go_wp2;exact⟨⟨i+1,by omega,by congr 1,trivial⟩,by simp[intOf];omega⟩
  ·obtain rfl:i=j:=by omega
   obtain⟨c,hc⟩:∃ c,c=bL D i:=⟨_,rfl⟩;have hcn:¬ (c:Int)=48:=by rw[hc];have:=hnz.out;omega
   rw[←hc] at hg2;clear hc;have hw1:IntKind.i64.wrap (ex - be)=tv:=by rw[xM1];omega
   obtain⟨q,hq⟩:∃ q,q=n - i:=⟨_,rfl⟩;rw[←hq] at hxv;have hw2:IntKind.i64.wrap (tv+(q:Int))=xv:=by rw[xM1];omega
   have HT:Hid (tv=ex - be∧xv=tv+(q:Int)):=⟨htv,hxv⟩;clear htv hxv;obtain⟨S,hS⟩:∃ S,R.extract i n=S:=⟨_,rfl⟩;have hS2:S=⟨(D.drop i).toArray⟩:=by
    rw[←hS];have hDn:n=D.length:=by rw[←hn,hR.out];rfl
    have h9:=hR.out;subst h9;rw[hDn];exact qJ6 D i
   have hSs:S.size=q:=by rw[hS2,hq];show(D.drop i).length=_;rw[List.length_drop,←hn,hR.out];rfl
   have hSe:S.toList.isEmpty=false:=by
    rw[hS2];show(⟨(D.drop i).toArray⟩:ByteArray).toList.isEmpty=false
    rw[qW];have h9:(D.drop i).length=q:=by rw[hS2] at hSs;exact hSs
    cases hd:D.drop i with
    | nil=>rw[hd] at h9;simp at h9;omega
    | cons a b=>rfl
   have kG:=yJ6 (D.drop i) q wr (by show q=(D.drop i).length;rw[hS2] at hSs;exact hSs.symm) (by omega) (fun k hk=>by
    have:=hdg.out (i+k) (by omega)
    unfold bL at this ⊢;rw[List.getElem?_drop];exact this)
   rw[←hS2] at kG;have HQ:Hid (q=n - i):=hq;clear hq hS2
   go_wp2_with fail;refine(kG.mono fun r w' h=>outQ h).mono ?_
   rintro r w1 ⟨s1,ao1,n1,cp1,e1,rfl,hd1,hb1⟩;clear kG;obtain⟨V,hV⟩:∃ V,V=w1.alloc (.cells #[.bool s1,.slice ao1 n1 cp1,.int .i64 e1] 69):=⟨_,rfl⟩;obtain⟨g,hg⟩:∃ g,g=w1.heap.size:=⟨_,rfl⟩;have HV0:Hid (VdB w g #[.bool neg,.string wd,.bool false,.string R,.int .i64 be,.int .i64 ex] V s1 ao1 n1 cp1 e1 (un (dvP 10 (D.drop i) q:Nat) 0)):=by
    have hbV:Bw w1 V:=by rw[hV];exact(xB7 _ _).alloc (xB6 _) _
    have hb2:=hb1.trans (hbV.mono hb1.size);have h8:=qQ6 HW.out.2;refine⟨⟨by rw[hV,hg];exact xM3 _ _,hd1.later hbV⟩,qQ HW.out.2 hb2 h8,HW.out.1.trans (hb2.mono HW.out.1.size),?_⟩
    have:=hb1.size
    omega
   clear hd1 hb1 c0 c1 c2 c3 c4 c5
   go_upto_block 4 with fail;rw[←hV,←hg];clear hV hg
   go_cut [10] from 81 to 90 (fun v wx=>v=.int .i64 ten∧∃ (s5:Bool) (ao5:Option Addr) (n5 cp5:Nat) (e5:Int),Hid (VdB w g #[.bool neg,.string wd,.bool false,.string R,.int .i64 be,.int .i64 ex] wx s5 ao5 n5 cp5 e5 TN))
   case first =>
    by_cases hbig:400<xv
    ·have HN9:=hN.out.1 hbig;have kW:=zY6 (n:=1) (by omega) V
     go_wp2_with fail;refine(kW.mono fun r w' h=>outQ h).mono ?_
     rintro r w2 ⟨s2,ao2,n2,cp2,e2,rfl,hd2,hb2⟩;have kS:=qA0 (k:=2000) (qS8 (b:=1) (by decide) (by omega) (by omega)) hd2 (by omega)
     rw[zH4] at kS;clear kW
     go_wp2_with fail;refine(kS.mono fun r w' h=>outQ h).mono ?_
     rintro r w3 ⟨s3,ao3,n3,cp3,e3,rfl,hd3,hb3⟩;have hb23:=hb2.trans (hb3.mono hb2.size);have HV3:Hid (VdB w g #[.bool neg,.string wd,.bool false,.string R,.int .i64 be,.int .i64 ex] (((w3.setCell ⟨g,0,none⟩ (.bool s3)).setCell ⟨g,1,none⟩ (.slice ao3 n3 cp3)).setCell ⟨g,2,none⟩ (.int .i64 e3)) s3 ao3 n3 cp3 e3 TN):=by rw[(HN9:TN=_∧ten=0).1];exact HV0.out.put hb23 hd3
     obtain⟨⟨c0,c1,c2⟩,f0,f1,f2⟩:=qQ2 (HV0.out.later hb23).1.1;clear kS hd2 hb2 hd3 hb3 hb23;have hten:=(HN9:TN=_∧ten=0).2;clear HN9 HV0
     go_wp2_with fail
     go_meet
     exact⟨by rw[hten],_,_,_,_,_,HV3⟩
    ·by_cases htin:xv < -400
     ·have HN9:=hN.out.2.1 htin;have kW:=zY6 (n:=1) (by omega) V
      go_wp2_with fail;refine(kW.mono fun r w' h=>outQ h).mono ?_
      rintro r w2 ⟨s2,ao2,n2,cp2,e2,rfl,hd2,hb2⟩;have kS:=qA0 (k := -2000) (qS8 (b:=1) (by decide) (by omega) (by omega)) hd2 (by omega)
      rw[zH4] at kS;clear kW
      go_wp2_with fail;refine(kS.mono fun r w' h=>outQ h).mono ?_
      rintro r w3 ⟨s3,ao3,n3,cp3,e3,rfl,hd3,hb3⟩;have hb23:=hb2.trans (hb3.mono hb2.size);have HV3:Hid (VdB w g #[.bool neg,.string wd,.bool false,.string R,.int .i64 be,.int .i64 ex] (((w3.setCell ⟨g,0,none⟩ (.bool s3)).setCell ⟨g,1,none⟩ (.slice ao3 n3 cp3)).setCell ⟨g,2,none⟩ (.int .i64 e3)) s3 ao3 n3 cp3 e3 TN):=by rw[(HN9:TN=_∧ten=0).1];exact HV0.out.put hb23 hd3
      obtain⟨⟨c0,c1,c2⟩,f0,f1,f2⟩:=qQ2 (HV0.out.later hb23).1.1;clear kS hd2 hb2 hd3 hb3 hb23;have hten:=(HN9:TN=_∧ten=0).2;clear HN9 HV0
      go_wp2_with fail
      go_meet
      exact⟨by rw[hten],_,_,_,_,_,HV3⟩
     ·have HN9:=hN.out.2.2 (by omega)
      go_wp2_with fail
      go_meet
      exact⟨by rw[HN9.2],_,_,_,_,_,by rw[HN9.1,←HQ.out];exact HV0⟩
   case rest =>
    obtain⟨rfl,s6,ao6,n6,cp6,e6,HV6⟩:=hcut;clear HV0;obtain⟨c0,c1,c2,c3,c4,c5⟩:=qX7 HV6.out.2.1
    go_upto_if 92 with fail
    go_cut [] from 93 to 94 (fun wx=>∃ (s5:Bool) (ao5:Option Addr) (n5 cp5:Nat) (e5:Int),Hid (VdB w g #[.bool neg,.string wd,.bool false,.string R,.int .i64 be,.int .i64 ex] wx s5 ao5 n5 cp5 e5 TM))
    case first =>
     cases neg
     ·go_wp2_with fail
      go_meet
      have h9:TM=TN:=by rw[hTM.out];simp
      exact⟨_,_,_,_,_,by rw[h9];exact HV6⟩
     ·obtain⟨⟨d0,d1,d2⟩,f0,f1,f2⟩:=qQ2 HV6.out.1.1;have kM:=yN3 HV6.out.1.2
      go_wp2_with fail;refine(kM.mono fun r w' h=>outQ h).mono ?_
      rintro r w3 ⟨s3,ao3,n3,cp3,e3,rfl,hd3,hb3⟩;have HV3:Hid (VdB w g #[.bool true,.string wd,.bool false,.string R,.int .i64 be,.int .i64 ex] (((w3.setCell ⟨g,0,none⟩ (.bool s3)).setCell ⟨g,1,none⟩ (.slice ao3 n3 cp3)).setCell ⟨g,2,none⟩ (.int .i64 e3)) s3 ao3 n3 cp3 e3 TM):=by(have h9:TM=gN TN:=by(rw[hTM.out];simp));rw[h9];exact HV6.out.put hb3 hd3
      clear d0 d1 d2 f0 f1 f2;obtain⟨⟨d0,d1,d2⟩,f0,f1,f2⟩:=qQ2 (HV6.out.later hb3).1.1;clear kM hd3 hb3 HV6 c0 c1 c2 c3 c4 c5
      go_wp2_with fail
      go_meet
      exact⟨_,_,_,_,_,HV3⟩
    case rest =>
     obtain⟨s5,ao5,n5,cp5,e5,HV⟩:=hcut;clear HV6 c0 c1 c2 c3 c4 c5;have HZ:Hid (Gn TM∧(∀ tn:Nat,tn≤2000→Gn (gM TM (un ((10^tn:Nat):Int) 0)))∧dlen TM.2.1≤2048∧(-65536≤TM.2.2∧TM.2.2≤65536)∧TM.2.1≠0):=by
      rw[hZ.out];exact⟨qS8 hZb.out (by omega) (by omega),fun tn ht=>gn_gM hZb.out hbz hpz tn ht,yH1 hZb.out (by omega) (by omega) hZ0⟩
     have oT:Hid (∀ tn:Nat,tn≤2000→dlen (un ((10^tn:Nat):Int) 0).2.1≤2048∧(-65536≤(un ((10^tn:Nat):Int) 0).2.2∧(un ((10^tn:Nat):Int) 0).2.2≤65536)∧(un ((10^tn:Nat):Int) 0).2.1≠0):=(fun tn ht=>yH1 (qD4 tn) (by omega) (by omega) (by have:=Nat.pow_pos (n:=tn) (show 0<10 by decide);omega):∀ tn:Nat,tn≤2000→dlen (un ((10^tn:Nat):Int) 0).2.1≤2048∧(-65536≤(un ((10^tn:Nat):Int) 0).2.2∧(un ((10^tn:Nat):Int) 0).2.2≤65536)∧(un ((10^tn:Nat):Int) 0).2.1≠0)
     by_cases ht0:0≤ten
     ·obtain⟨tn,rfl⟩:∃ tn:Nat,ten=(tn:Int):=⟨ten.toNat,by omega⟩
      have hFF:=hF1.out tn rfl;have HFF:Hid _:=hFF;clear hFF
      go_upto_region 30 with fail;refine qU1 [0,1,2,3,4,5,6] [97,98,99,100,101,102,4] [[],[],[1],[0,2],[],[3,4],[5]] wc _ [isV (.agg #[.bool s5,.slice ao5 n5 cp5,.int .i64 e5]),isV (.int .i64 (tn:Nat)),isD (un ((10^tn:Nat):Int) 0),isD (gM TM (un ((10^tn:Nat):Int) 0)),isV (.int .i64 m),isV (.float .f64 F),isV (.float .f64 F)] (by kernel_rfl) ⟨qQ1 _,qQ1 _,qU9 _,qU9 _,qQ1 _,qQ1 _,qQ1 _,trivial⟩ (by show ∀ s ∈ [97,98,99,100,101,102,4],s<109;decide) ?_ ?_
      ·intro j hj o ho act U hb hoth hdep;have hj':j<7:=hj;have t12':act.tmps[(12:Nat)]?=some (Value.pointer (some ⟨g,0,none⟩)):=(hoth 12 (by decide)).trans rfl
       have t10':act.tmps[(10:Nat)]?=some (Value.int .i64 (tn:Nat)):=(hoth 10 (by decide)).trans rfl
       have t1':act.tmps[(1:Nat)]?=some (Value.int .i64 m):=(hoth 1 (by decide)).trans rfl
       have d0:=(qQ2 (HV.out.later hb).1.1).1;rcases(by omega:j=0∨j=1∨j=2∨j=3∨j=4∨j=5∨j=6)with rfl|rfl|rfl|rfl|rfl|rfl|rfl
       ·obtain rfl:=xB8 ho;exact .inl ⟨rfl,zY0 rfl t12' d0.1 d0.2.1 d0.2.2 ⟨_,rfl,rfl,xB7 _ _⟩⟩
       ·obtain rfl:=xB8 ho;exact .inl ⟨rfl,qZ6 rfl t10' ⟨_,rfl,rfl,xB7 _ _⟩⟩
       ·obtain rfl:=xB8 ho;have y1:act.tmps[(98:Nat)]?=_:=dV (hdep 1 (by simp[dL])) rfl
        refine .inl ⟨rfl,qQ9 rfl (qZ5 Tryz.func49 (by kernel_rfl) (by kernel_rfl)) (vs:=#[.int .i64 (tn:Nat)]) (by simp[qZ y1]) ?_⟩
        refine(xV tn U (by omega)).mono ?_
        rintro r w' ⟨A,rfl,hA,hb'⟩;exact⟨_,rfl,_,rfl,hA,hb'⟩
       ·obtain rfl:=xB8 ho;have y0:act.tmps[(97:Nat)]?=_:=dV (hdep 0 (by simp[dL])) rfl
        obtain⟨u2,y20,v2⟩:=hdep 2 (by simp[dL])
        have y2:act.tmps[(99:Nat)]?=_:=y20;refine .inl ⟨rfl,qQ9 rfl (qZ5 Tryz.func50 (by kernel_rfl) (by kernel_rfl)) (vs:=#[.agg #[.bool s5,.slice ao5 n5 cp5,.int .i64 e5],u2]) (by simp[qZ y0,qZ y2]) ?_⟩
        refine(yN2 HZ.out.1 (qS8 (qD4 tn) (by omega) (by omega)) (HV.out.later hb).1.2 v2).mono ?_
        rintro r w' ⟨A,rfl,hA,hb'⟩;exact⟨_,rfl,_,rfl,hA,hb'⟩
       ·obtain rfl:=xB8 ho;exact .inl ⟨rfl,qZ6 rfl t1' ⟨_,rfl,rfl,xB7 _ _⟩⟩
       ·obtain rfl:=xB8 ho;obtain⟨u3,y30,v3⟩:=hdep 3 (by simp[dL])
        have y3:act.tmps[(100:Nat)]?=_:=y30;have y4:act.tmps[(101:Nat)]?=_:=dV (hdep 4 (by simp[dL])) rfl
        refine .inl ⟨rfl,qQ9 rfl (qZ5 Tryz.func148 (by kernel_rfl) (by kernel_rfl)) (vs:=#[u3,.int .i64 m]) (by simp[qZ y3,qZ y4]) ?_⟩
        refine(dtoQ (HZ.out.2.1 tn (by omega)) hm v3).mono ?_
        rintro r w' ⟨rfl,hb'⟩;exact⟨_,rfl,_,rfl,(by rw[←HFF.out];rfl),hb'⟩
       ·obtain rfl:=xB8 ho;have y5:act.tmps[(102:Nat)]?=_:=dV (hdep 5 (by simp[dL])) rfl
        exact .inl ⟨rfl,qX0 rfl y5 ⟨_,rfl,rfl,xB7 _ _⟩⟩
      ·intro u W9 hb9 hu;have u6:u 6=.float .f64 F:=hu 6 (by show 6<7;decide)
       clear hu;simp only[putL,show List.range 7 = [0,1,2,3,4,5,6] from rfl,List.length_cons,List.length_nil,List.getD_cons_zero,List.getD_cons_succ,List.map_cons,List.map_nil,List.cons_append,List.nil_append,List.foldl_cons,List.foldl_nil,Nat.reduceLT,Nat.reduceMod,Nat.reduceDiv,Nat.reduceMul,Nat.reduceAdd,Nat.reduceEqDiff,reduceIte,Nat.one_ne_zero,Act.put,List.setIfInBounds_toArray,List.set_cons_zero,List.set_cons_succ];rw[u6];clear u6;have HB9:Hid (Bw wc W9):=hb9;clear hb9
       go_wp2
       go_ret;exact⟨rfl,HV.out.2.2.1.trans (HB9.out.mono HV.out.2.2.1.size)⟩
     ·obtain⟨tn,htn⟩:∃ tn:Nat,ten = -(tn:Int):=⟨(-ten).toNat,by omega⟩
      have hFF:=hF2.out tn (by omega) htn
      have HFF:Hid _:=hFF;subst htn;clear hFF
      go_upto_region 31 with fail;refine qU1 [0,1,2,3,4,5,6] [103,104,105,106,107,108,4] [[],[],[1],[2],[],[0,3,4],[5]] wc _ [isV (.agg #[.bool s5,.slice ao5 n5 cp5,.int .i64 e5]),isV (.int .i64 (-(tn:Nat):Int)),isV (.int .i64 (tn:Nat)),isD (un ((10^tn:Nat):Int) 0),isV (.int .i64 m),isV (.float .f64 F),isV (.float .f64 F)] (by kernel_rfl) ⟨qQ1 _,qQ1 _,qQ1 _,qU9 _,qQ1 _,qQ1 _,qQ1 _,trivial⟩ (by show ∀ s ∈ [103,104,105,106,107,108,4],s<109;decide) ?_ ?_
      ·intro j hj o ho act U hb hoth hdep;have hj':j<7:=hj;have t12':act.tmps[(12:Nat)]?=some (Value.pointer (some ⟨g,0,none⟩)):=(hoth 12 (by decide)).trans rfl
       have t10':act.tmps[(10:Nat)]?=some (Value.int .i64 (-(tn:Nat):Int)):=(hoth 10 (by decide)).trans rfl
       have t1':act.tmps[(1:Nat)]?=some (Value.int .i64 m):=(hoth 1 (by decide)).trans rfl
       have d0:=(qQ2 (HV.out.later hb).1.1).1;rcases(by omega:j=0∨j=1∨j=2∨j=3∨j=4∨j=5∨j=6)with rfl|rfl|rfl|rfl|rfl|rfl|rfl
       ·obtain rfl:=xB8 ho;exact .inl ⟨rfl,zY0 rfl t12' d0.1 d0.2.1 d0.2.2 ⟨_,rfl,rfl,xB7 _ _⟩⟩
       ·obtain rfl:=xB8 ho;exact .inl ⟨rfl,qZ6 rfl t10' ⟨_,rfl,rfl,xB7 _ _⟩⟩
       ·obtain rfl:=xB8 ho;have y1:act.tmps[(104:Nat)]?=_:=dV (hdep 1 (by simp[dL])) rfl
        exact .inl ⟨rfl,zG3 (x := -(tn:Int)) (by omega) rfl y1 ⟨_,rfl,(congrArg (Value.int .i64) (Int.neg_neg (tn:Int)):Value.int .i64 (-(-(tn:Int)))=.int .i64 (tn:Int)),xB7 _ _⟩⟩
       ·obtain rfl:=xB8 ho;have y2:act.tmps[(105:Nat)]?=_:=dV (hdep 2 (by simp[dL])) rfl
        refine .inl ⟨rfl,qQ9 rfl (qZ5 Tryz.func49 (by kernel_rfl) (by kernel_rfl)) (vs:=#[.int .i64 (tn:Nat)]) (by simp[qZ y2]) ?_⟩
        refine(xV tn U (by omega)).mono ?_
        rintro r w' ⟨A,rfl,hA,hb'⟩;exact⟨_,rfl,_,rfl,hA,hb'⟩
       ·obtain rfl:=xB8 ho;exact .inl ⟨rfl,qZ6 rfl t1' ⟨_,rfl,rfl,xB7 _ _⟩⟩
       ·obtain rfl:=xB8 ho;have y0:act.tmps[(103:Nat)]?=_:=dV (hdep 0 (by simp[dL])) rfl
        obtain⟨u3,y30,v3⟩:=hdep 3 (by simp[dL])
        have y3:act.tmps[(106:Nat)]?=_:=y30;have y4:act.tmps[(107:Nat)]?=_:=dV (hdep 4 (by simp[dL])) rfl
        refine .inl ⟨rfl,qQ9 rfl (qZ5 Tryz.func150 (by kernel_rfl) (by kernel_rfl)) (vs:=#[.agg #[.bool s5,.slice ao5 n5 cp5,.int .i64 e5],u3,.int .i64 m]) (by simp[qZ y0,qZ y3,qZ y4]) ?_⟩
        refine(dratQ HZ.out.2.2.1 (oT.out tn (by omega)).1 HZ.out.2.2.2.1 (oT.out tn (by omega)).2.1 HZ.out.2.2.2.2 (oT.out tn (by omega)).2.2 hm (HV.out.later hb).1.2 v3).mono ?_
        rintro r w' ⟨rfl,hb'⟩;exact⟨_,rfl,_,rfl,(by rw[←HFF.out];rfl),hb'⟩
       ·obtain rfl:=xB8 ho;have y5:act.tmps[(108:Nat)]?=_:=dV (hdep 5 (by simp[dL])) rfl
        exact .inl ⟨rfl,qX0 rfl y5 ⟨_,rfl,rfl,xB7 _ _⟩⟩
      ·intro u W9 hb9 hu;have u6:u 6=.float .f64 F:=hu 6 (by show 6<7;decide)
       clear hu;simp only[putL,show List.range 7 = [0,1,2,3,4,5,6] from rfl,List.length_cons,List.length_nil,List.getD_cons_zero,List.getD_cons_succ,List.map_cons,List.map_nil,List.cons_append,List.nil_append,List.foldl_cons,List.foldl_nil,Nat.reduceLT,Nat.reduceMod,Nat.reduceDiv,Nat.reduceMul,Nat.reduceAdd,Nat.reduceEqDiff,reduceIte,Nat.one_ne_zero,Act.put,List.setIfInBounds_toArray,List.set_cons_zero,List.set_cons_succ];rw[u6];clear u6;have HB9:Hid (Bw wc W9):=hb9;clear hb9
       go_wp2
       go_ret;exact⟨rfl,HV.out.2.2.1.trans (HB9.out.mono HV.out.2.2.1.size)⟩
theorem xJ6 (neg:Bool) (wd R:ByteArray) (be ex m:Int) (D:List UInt8) (n:Nat) (w:World) (hR:Hid (R=⟨D.toArray⟩)) (hn:R.size=n) (hL:n≤1100)
  (hz:Hid (∀ k,k<n→bL D k=48)) :
  Calls Tryz.prog 85 #[.agg #[.bool neg,.string wd,.bool false,.string R,.int .i64 be,.int .i64 ex],.int .i64 m] w fun r w'=>r=.returned (.float .f64 0)∧Bw w w':=by
 obtain⟨W,hW⟩:∃ W,W=w.alloc (.cells #[.bool neg,.string wd,.bool false,.string R,.int .i64 be,.int .i64 ex] 50):=⟨_,rfl⟩;have HW:Hid (Bw w W∧W.heap[w.heap.size]?=some (.cells #[.bool neg,.string wd,.bool false,.string R,.int .i64 be,.int .i64 ex] 50 (0,0))∧W.heap.size=w.heap.size+1):=⟨by rw[hW];exact(xB7 _ _).alloc (xB6 _) _,by rw[hW];exact xM3 _ _,by rw[hW];simp⟩
 obtain⟨c0,c1,c2,c3,c4,c5⟩:=qX7 HW.out.2.1;have hRg:∀ k (h:k<R.size),(R[k]'h).toNat=bL D k:=by rw[hR.out];exact qP8 D
 have HRg:Hid (∀ k (h:k<R.size),(R[k]'h).toNat=bL D k):=hRg;clear hRg
 go_enter Tryz.func85,Tryz.ntmps85
 go_upto_region 1 with fail;rw[←hW];clear hW
 go_upto_region 12 with fail
 go_wp2_with fail
 go_loopw [8] (fun v wr=>∃ i:Nat,i≤n∧v=.int .i64 (i:Nat)∧wr=W) (fun v _=>n - (intOf v).toNat)
 case atStart=>exact⟨0,xM0 _,rfl,rfl⟩
 case round =>
  obtain⟨i,hi,rfl,rfl⟩:=hrel;have hwi:IntKind.i64.wrap ((i:Int)+1)=(i:Int)+1:=by rw[xM1];omega
  by_cases hij:i<n
  ·have hin:(i:Int)<(n:Int):=by omega
   have hiR:i<R.size:=by omega
   have hg2:=HRg.out i;rw[hz.out i hij] at hg2
   go_wp2;exact⟨⟨i+1,by omega,by congr 1,trivial⟩,by simp[intOf];omega⟩
  ·obtain rfl:i=n:=by omega
   have hin:¬ (i:Int)<(i:Int):=by omega
   have hS:R.extract i i=⟨#[]⟩:=by
    have h9:=hR.out;subst h9;have h8:i=D.length:=hn.symm;rw[h8,qJ6 D D.length,List.drop_length]
   go_wp2_with fail
   go_ret;exact⟨rfl,HW.out.1⟩
theorem yK7 {W:World} {ao:Option Addr} {n z g:Nat} {s1:Bool} {ao1:Option Addr} {n1 cp1:Nat} {e1:Int} (h:At W ao n z) (hE:W.heap[g]?=some (.cells #[.bool s1,.slice ao1 n1 cp1,.int .i64 e1] 69 (0,0))) (cs:Array Value):At (W.setRow g cs) ao n z:=by
 obtain⟨bb,o,h1,h2⟩:=h;refine⟨bb,o,h1,fun i hi=>?_⟩
 have hc:=h2 i hi;have hne:bb≠g:=by
  rintro rfl;simp only[World.cell?,hE] at hc;rcases(show o+i=0∨o+i=1∨o+i=2∨3≤o+i by omega)with e|e|e|e
  ·rw[e] at hc;simp at hc
  ·rw[e] at hc;simp at hc
  ·rw[e] at hc;simp at hc
  ·rw[Array.getElem?_eq_none (by simpa using e)] at hc;cases hc
 have h3:=setRow_other W g bb cs hne;simp only[World.cell?] at hc ⊢;rw[h3];exact hc
theorem VdB.putR {w W:World} {g:Nat} {TX:Array Value} {s1:Bool} {ao1:Option Addr} {n1 cp1:Nat} {e1:Int} {s2:Bool} {ao2:Option Addr} {n2 cp2:Nat} {e2:Int} {t t':Bool×Nat×Int} (h:VdB w g TX W s1 ao1 n1 cp1 e1 t) (hd:DN W (.agg #[.bool s2,.slice ao2 n2 cp2,.int .i64 e2]) t'):VdB w g TX (W.setRow g #[.bool s2,.slice ao2 n2 cp2,.int .i64 e2]) s2 ao2 n2 cp2 e2 t':=by
 obtain⟨h1,h2,h3,h4⟩:=h;refine⟨⟨setRow_heap _ _ _ _ _ _ h1.1,?_⟩,(setRow_other W g _ _ (by omega)).trans h2,qG2 h3 (by omega) _,h4⟩
 obtain⟨ao,cap,e1,e2⟩:=hd;exact⟨ao,cap,e1,e2.nil,yK7 e2.at_ h1.1 _,e2.le,e2.small⟩
theorem yH3 (x:Nat):(un ((x:Nat):Int) 0).1=false:=by unfold un cn;rw[xB9 (by omega)];split <;> rfl
theorem addx (x d:Nat):((x*16:Nat):Int)+((d:Nat):Int)=((x*16+d:Nat):Int):=by push_cast;rfl
theorem gk4 {x:Nat}:gK 4 (un ((x:Nat):Int) 0)=un ((x*16:Nat):Int) 0:=by
 have h:un ((x:Nat):Int) 0=un ((x*16:Nat):Int) 4:=by
  have h9:=qV5 (x:Int) 0 4;rw[h9,Nat.zero_add];congr 1
 rw[h];exact yK9 (by omega)
theorem zY7 {D:List UInt8} {n:Nat} (h:∀ k,k<n→dgB (bL D k)<16):∀ i,i≤n→dvP 16 D i<2^(4*i)
 | 0,_=>by simp[dvP]
 | i+1,hi=>by
  have h1:=zY7 h i (by omega)
  have h2:=h i (by omega)
  show dvP 16 D i*16+dgB (bL D i)<2^(4*i+4)
  rw[xM9];omega
theorem gn_gK {x:Int} {b:Nat} {k:Int} (h:x.natAbs<2^b) (hb:b≤60000) (hk : -100000≤k∧k≤100000):Gn (gK k (un x 0)):=by
 have o:=qS8 (p:=0) h (by omega) (by omega)
 have h1:=un_e (p:=0) h;unfold gK;by_cases h0:(un x 0).2.1=0
 ·rw[if_pos h0];exact⟨by unfold cn;rw[if_pos rfl],by simp only[qQ5];omega,by simp only;omega,by simp only;omega⟩
 ·rw[if_neg h0];refine⟨?_,o.2.1,by simp only;omega,by simp only;omega⟩
  have hc:=o.1;unfold cn at hc ⊢;rw[if_neg h0] at hc ⊢;have h3:=congrArg (fun u:Bool×Nat×Int=>u.2.1) hc;have h4:=congrArg (fun u:Bool×Nat×Int=>u.2.2) hc;simp only at h3 h4 ⊢
  rw[h3];congr 2
  omega
theorem xJ7 (neg:Bool) (wd R:ByteArray) (be ex m e9:Int) (D:List UInt8) (n:Nat) (F:Nat) (w:World) (hR:Hid (R=⟨D.toArray⟩)) (hn:R.size=n) (hL:n≤1100) (hbe:0≤be∧be≤1100) (hex : -1000000000≤ex∧ex≤1000000000) (hm:1≤m∧m≤3)
  (hdg:Hid (∀ k,k<n→∃ d:Nat,d<16∧dgF (bL D k)=(d:Int)∧dgB (bL D k)=d)) (he9:Hid (e9=min (max (ex - 4*be) (-100000)) 100000))
  (hF:Hid (F=toD (if neg then gN (gK e9 (un (dvP 16 D n:Nat) 0))else gK e9 (un (dvP 16 D n:Nat) 0)) m)) :
  Calls Tryz.prog 85 #[.agg #[.bool neg,.string wd,.bool true,.string R,.int .i64 be,.int .i64 ex],.int .i64 m] w fun r w'=>r=.returned (.float .f64 F)∧Bw w w':=by
 obtain⟨W,hW⟩:∃ W,W=w.alloc (.cells #[.bool neg,.string wd,.bool true,.string R,.int .i64 be,.int .i64 ex] 50):=⟨_,rfl⟩;have HW:Hid (Bw w W∧W.heap[w.heap.size]?=some (.cells #[.bool neg,.string wd,.bool true,.string R,.int .i64 be,.int .i64 ex] 50 (0,0))∧W.heap.size=w.heap.size+1):=⟨by rw[hW];exact(xB7 _ _).alloc (xB6 _) _,by rw[hW];exact xM3 _ _,by rw[hW];simp⟩
 obtain⟨c0,c1,c2,c3,c4,c5⟩:=qX7 HW.out.2.1;have hRg:∀ k (h:k<R.size),(R[k]'h).toNat=bL D k:=by rw[hR.out];exact qP8 D
 have HRg:Hid (∀ k (h:k<R.size),(R[k]'h).toNat=bL D k):=hRg;clear hRg
 go_enter Tryz.func85,Tryz.ntmps85
 go_upto_region 1 with fail;rw[←hW];clear hW;obtain⟨V,hV⟩:∃ V,V=W.alloc (.cells #[.bool false,.slice none 0 0,.int .i64 0] 69):=⟨_,rfl⟩;obtain⟨g,hg⟩:∃ g,g=W.heap.size:=⟨_,rfl⟩;have HV0:Hid (VdB w g #[.bool neg,.string wd,.bool true,.string R,.int .i64 be,.int .i64 ex] V false none 0 0 0 (un (dvP 16 D 0:Nat) 0)):=by
  have hbV:Bw W V:=by rw[hV];exact(xB7 _ _).alloc (xB6 _) _
  have h8:=qQ6 HW.out.2.1;exact⟨⟨by rw[hV,hg];exact xM3 _ _,gdn0 V⟩,qQ HW.out.2.1 hbV h8,HW.out.1.trans (hbV.mono HW.out.1.size),by omega⟩
 go_upto_region 3 with fail;rw[←hV,←hg];clear hV hg HW c0 c1 c2 c3 c4 c5
 go_wp2_with fail
 go_loopw [6] (fun v wr=>∃ (i:Nat) (s1:Bool) (ao1:Option Addr) (n1 cp1:Nat) (e1:Int),i≤n∧v=.int .i64 (i:Nat)∧Hid (VdB w g #[.bool neg,.string wd,.bool true,.string R,.int .i64 be,.int .i64 ex] wr s1 ao1 n1 cp1 e1 (un (dvP 16 D i:Nat) 0))) (fun v _=>n - (intOf v).toNat)
 case atStart=>exact⟨0,_,_,_,_,_,xM0 _,rfl,HV0⟩
 case round =>
  obtain⟨i,s1,ao1,n1,cp1,e1,hi,rfl,HV⟩:=hrel;clear HV0;have hlt:dvP 16 D i<2^(4*i):=zY7 (n:=n) (fun k hk=>by obtain⟨d,h1,-,h3⟩:=hdg.out k hk;omega) i hi
  obtain⟨x,hX⟩:∃ x,x=dvP 16 D i:=⟨_,rfl⟩;rw[←hX] at HV hlt;have HX:Hid (x=dvP 16 D i):=hX;clear hX;obtain⟨c0,c1,c2,c3,c4,c5⟩:=qX7 HV.out.2.1;by_cases hin:i<n
  ·have hii:(i:Int)<(n:Int):=by omega
   have hiR:i<R.size:=by omega
   obtain⟨c,hc⟩:∃ c,c=bL D i:=⟨_,rfl⟩;have hRc:(R[i]'hiR).toNat=c:=by rw[hc];exact HRg.out i hiR
   have hc256:c<256:=by rw[←hRc];exact UInt8.toNat_lt _
   obtain⟨d,hd16,hcd,hdB⟩:=hdg.out i hin;rw[←hc] at hcd;have HD:Hid (d=dgB (bL D i)):=hdB.symm;clear hc hdB;have hx9:(((x:Nat):Int)).natAbs<2^(4*i):=by rw[xM7];exact hlt
   have hx16:(((x*16:Nat):Int)).natAbs<2^(4*i+4):=by rw[xM7,xM9];omega
   have hd9:(((d:Nat):Int)).natAbs<2^4:=by rw[xM7];omega
   clear hlt
   go_upto_region 6 with fail;refine qR8 qX4 9 23 [[],[0],[],[2],[],[3,4],[5],[6],[1,7]] wr _ [isV (.agg #[.bool s1,.slice ao1 n1 cp1,.int .i64 e1]),isD (un ((x*16:Nat):Int) 0),isV (.pointer (some ⟨w.heap.size,3,none⟩)),isV (.string R),isV (.int .i64 (i:Nat)),isV (.int .u8 (c:Nat)),isV (.int .i64 (d:Nat)),isD (un ((d:Nat):Int) 0),isD (un ((x*16+d:Nat):Int) 0)] (by kernel_rfl) ⟨qQ1 _,qU9 _,qQ1 _,qQ1 _,qQ1 _,qQ1 _,qQ1 _,qU9 _,qU9 _,trivial⟩ (by show 32≤109;decide) ?_ ?_
   ·intro j hj o ho act U hb hoth hdep;have hj':j<9:=hj;have t5':act.tmps[(5:Nat)]?=some (Value.pointer (some ⟨g,0,none⟩)):=(hoth 5 (by omega)).trans rfl
    have t2':act.tmps[(2:Nat)]?=some (Value.pointer (some ⟨w.heap.size,0,none⟩)):=(hoth 2 (by omega)).trans rfl
    have t6':act.tmps[(6:Nat)]?=some (Value.int .i64 (i:Nat)):=(hoth 6 (by omega)).trans rfl
    have d0:=(qQ2 (HV.out.later hb).1.1).1;have dT:=qX7 (HV.out.later hb).2.1;rcases(by omega:j=0∨j=1∨j=2∨j=3∨j=4∨j=5∨j=6∨j=7∨j=8)with rfl|rfl|rfl|rfl|rfl|rfl|rfl|rfl|rfl
    ·obtain rfl:=xB8 ho;exact zY0 rfl t5' d0.1 d0.2.1 d0.2.2 ⟨_,rfl,rfl,xB7 _ _⟩
    ·obtain rfl:=xB8 ho;have y0:act.tmps[(23:Nat)]?=_:=dV (hdep 0 (by simp[dL])) rfl
     refine qQ9 rfl (qZ5 Tryz.func48 (by kernel_rfl) (by kernel_rfl)) (vs:=#[.agg #[.bool s1,.slice ao1 n1 cp1,.int .i64 e1],(Value.int IntKind.i64 4)]) (by simp[qZ y0,eval_cst]) ?_
     refine(qA0 (k:=4) (qS8 hx9 (by omega) (by omega)) (HV.out.later hb).1.2 (by omega)).mono ?_
     rintro r w' ⟨A,rfl,hA,hb'⟩;rw[gk4] at hA;exact⟨_,rfl,_,rfl,hA,hb'⟩
    ·obtain rfl:=xB8 ho;exact qZ4 (w':=U) (by simp[execOp,t2',go_sem]) ⟨_,rfl,rfl,xB7 _ _⟩
    ·obtain rfl:=xB8 ho;have y2:act.tmps[(25:Nat)]?=_:=dV (hdep 2 (by simp[dL])) rfl
     exact qZ4 (w':=U) (by simp[execOp,y2,go_sem,dT.2.2.2.1]) ⟨_,rfl,rfl,xB7 _ _⟩
    ·obtain rfl:=xB8 ho;exact qZ6 rfl t6' ⟨_,rfl,rfl,xB7 _ _⟩
    ·obtain rfl:=xB8 ho;have y3:act.tmps[(26:Nat)]?=_:=dV (hdep 3 (by simp[dL])) rfl
     have y4:act.tmps[(27:Nat)]?=_:=dV (hdep 4 (by simp[dL])) rfl
     exact qZ4 (w':=U) (v:=.int .u8 (c:Int)) (by simp[execOp,qZ y3,qZ y4,zS9 R i c (by omega) hRc U]) ⟨_,rfl,rfl,xB7 _ _⟩
    ·obtain rfl:=xB8 ho;have y5:act.tmps[(28:Nat)]?=_:=dV (hdep 5 (by simp[dL])) rfl
     refine qQ9 rfl (qZ5 Tryz.func146 (by kernel_rfl) (by kernel_rfl)) (vs:=#[.int .u8 (c:Nat)]) (by simp[qZ y5]) ?_
     refine(zY9 c U (by omega)).mono ?_
     rintro r w' ⟨rfl,hw⟩;replace hw:=hw.symm;subst hw;exact⟨_,rfl,_,rfl,(by rw[hcd];rfl),xB7 _ _⟩
    ·obtain rfl:=xB8 ho;have y6:act.tmps[(29:Nat)]?=_:=dV (hdep 6 (by simp[dL])) rfl
     refine qQ9 rfl (qZ5 Tryz.func57 (by kernel_rfl) (by kernel_rfl)) (vs:=#[.int .i64 (d:Nat)]) (by simp[qZ y6]) ?_
     refine(zY6 (n:=(d:Int)) (by omega) U).mono ?_
     rintro r w' ⟨A,rfl,hA,hb'⟩;exact⟨_,rfl,_,rfl,hA,hb'⟩
    ·obtain rfl:=xB8 ho;obtain⟨u1,y10,v1⟩:=hdep 1 (by simp[dL])
     have y1:act.tmps[(24:Nat)]?=_:=y10;obtain⟨u7,y70,v7⟩:=hdep 7 (by simp[dL])
     have y7:act.tmps[(30:Nat)]?=_:=y70;refine qQ9 rfl (qZ5 Tryz.func94 (by kernel_rfl) (by kernel_rfl)) (vs:=#[u1,u7]) (by simp[qZ y1,qZ y7]) ?_
     have k9:=xK4 (qS8 (p:=0) hx16 (by omega) (by omega)) (qS8 (p:=0) hd9 (by omega) (by omega)) v1 v7 (.inl (by rw[yH3,yH3]))
     rw[yL5,addx] at k9;refine k9.mono ?_;rintro r w' ⟨A,rfl,hA,hb'⟩;exact⟨_,rfl,_,rfl,hA,hb'⟩
   ·intro o ho u W9 hb9 hu;have hop:o.op=.store 69 (.tmp 5) (.tmp 31):=by rw[←xB8 ho];rfl
    have hds:o.dst=none:=by rw[←xB8 ho];rfl
    clear ho;have u8:(isD (un ((x*16+d:Nat):Int) 0)) W9 (u 8):=hu 8 (by show 8<9;decide)
    clear hu;simp only[putL,show List.range 9 = [0,1,2,3,4,5,6,7,8] from rfl,List.length_cons,List.length_nil,List.getD_cons_zero,List.getD_cons_succ,List.map_cons,List.map_nil,List.cons_append,List.nil_append,List.foldl_cons,List.foldl_nil,Nat.reduceLT,Nat.reduceMod,Nat.reduceDiv,Nat.reduceMul,Nat.reduceAdd,Nat.reduceEqDiff,reduceIte,Nat.one_ne_zero,Act.put,List.setIfInBounds_toArray,List.set_cons_zero,List.set_cons_succ];obtain⟨s2,ao2,n2,cp2,e2,hu8⟩:=DN.shape u8;have hV9:=HV.out.later hb9;rw[hu8] at u8;have HV2:Hid (VdB w g #[.bool neg,.string wd,.bool true,.string R,.int .i64 be,.int .i64 ex] (W9.setRow g #[.bool s2,.slice ao2 n2 cp2,.int .i64 e2]) s2 ao2 n2 cp2 e2 (un ((x*16+d:Nat):Int) 0)):=hV9.putR u8;refine qO0 (cs:=#[.bool s2,.slice ao2 n2 cp2,.int .i64 e2]) hop rfl (by rw[hu8];rfl) hV9.1.1 Tryz.info69 rfl (one3 rfl rfl) ?_
    rw[hds];clear u8 hb9 hV9
    go_wp2_with fail;refine⟨⟨i+1,s2,ao2,n2,cp2,e2,by omega,rfl,?_⟩,by simp only[intOf];omega⟩
    show Hid (VdB w g #[.bool neg,.string wd,.bool true,.string R,.int .i64 be,.int .i64 ex] _ s2 ao2 n2 cp2 e2 (un ((dvP 16 D i*16+dgB (bL D i):Nat):Int) 0))
    rw[←HX.out,←HD.out];exact HV2
  ·obtain rfl:i=n:=by omega
   have hii:¬ (i:Int)<(i:Int):=by omega
   have hx9:(((x:Nat):Int)).natAbs<2^(4*i):=by rw[xM7];exact hlt
   have HG:Hid (Gn (gK e9 (un ((x:Nat):Int) 0))∧F=toD (if neg then gN (gK e9 (un ((x:Nat):Int) 0))else gK e9 (un ((x:Nat):Int) 0)) m):=⟨gn_gK hx9 (by omega) (by have:=he9.out;omega),by rw[HX.out];exact hF.out⟩
   have hk9 : -100000≤e9∧e9≤100000:=by have:=he9.out;omega
   have hw1:IntKind.i64.wrap (4*be)=4*be:=by rw[xM1];omega
   have hw2:IntKind.i64.wrap (ex - 4*be)=ex - 4*be:=by rw[xM1];omega
   have hmm:min (max (ex - 4*be) (-100000)) 100000=e9:=he9.out.symm;have kS:=qA0 (k:=e9) (qS8 (p:=0) hx9 (by omega) (by omega)) HV.out.1.2 (by omega)
   obtain⟨⟨d0,d1,d2⟩,f0,f1,f2⟩:=qQ2 HV.out.1.1;clear hlt hk9
   go_wp2_with fail;refine(kS.mono fun r w' h=>outQ h).mono ?_
   rintro r w3 ⟨s3,ao3,n3,cp3,e3,rfl,hd3,hb3⟩;have HV3:Hid (VdB w g #[.bool neg,.string wd,.bool true,.string R,.int .i64 be,.int .i64 ex] (((w3.setCell ⟨g,0,none⟩ (.bool s3)).setCell ⟨g,1,none⟩ (.slice ao3 n3 cp3)).setCell ⟨g,2,none⟩ (.int .i64 e3)) s3 ao3 n3 cp3 e3 (gK e9 (un ((x:Nat):Int) 0))):=HV.out.put hb3 hd3;clear d0 d1 d2 f0 f1 f2 c0 c1 c2 c3 c4 c5;obtain⟨⟨d0,d1,d2⟩,f0,f1,f2⟩:=qQ2 (HV.out.later hb3).1.1;clear kS hd3 hb3 HV hmm hw1 hw2
   go_upto_region 9 with fail;obtain⟨U,hU⟩:∃ U,U=(((w3.setCell ⟨g,0,none⟩ (.bool s3)).setCell ⟨g,1,none⟩ (.slice ao3 n3 cp3)).setCell ⟨g,2,none⟩ (.int .i64 e3)):=⟨_,rfl⟩;rw[←hU] at HV3 ⊢;clear hU d0 d1 d2 f0 f1 f2;obtain⟨c0,c1,c2,c3,c4,c5⟩:=qX7 HV3.out.2.1;obtain⟨⟨d0,d1,d2⟩,f0,f1,f2⟩:=qQ2 HV3.out.1.1;cases neg
   ·have kT:=dtoQ (m:=m) HG.out.1 hm HV3.out.1.2;have hFF:toD (gK e9 (un ((x:Nat):Int) 0)) m=F:=by rw[HG.out.2];simp
    rw[hFF] at kT;clear hFF
    go_wp2_with fail;refine kT.mono ?_;rintro r w4 ⟨rfl,hb4⟩;have HB4:Hid (Bw w w4):=HV3.out.2.2.1.trans (hb4.mono HV3.out.2.2.1.size);clear kT hb4
    go_wp2_with fail
    go_ret;exact⟨rfl,HB4.out⟩
   ·have kM:=yN3 HV3.out.1.2
    go_wp2_with fail;refine(kM.mono fun r w' h=>outQ h).mono ?_
    rintro r w4 ⟨s4,ao4,n4,cp4,e4,rfl,hd4,hb4⟩;have HV4:Hid (VdB w g #[.bool true,.string wd,.bool true,.string R,.int .i64 be,.int .i64 ex] (((w4.setCell ⟨g,0,none⟩ (.bool s4)).setCell ⟨g,1,none⟩ (.slice ao4 n4 cp4)).setCell ⟨g,2,none⟩ (.int .i64 e4)) s4 ao4 n4 cp4 e4 (gN (gK e9 (un ((x:Nat):Int) 0)))):=HV3.out.put hb4 hd4;clear d0 d1 d2 f0 f1 f2 c0 c1 c2 c3 c4 c5;obtain⟨⟨d0,d1,d2⟩,f0,f1,f2⟩:=qQ2 (HV3.out.later hb4).1.1;clear kM hd4 hb4 HV3
    go_upto_region 11 with fail;obtain⟨U,hU⟩:∃ U,U=(((w4.setCell ⟨g,0,none⟩ (.bool s4)).setCell ⟨g,1,none⟩ (.slice ao4 n4 cp4)).setCell ⟨g,2,none⟩ (.int .i64 e4)):=⟨_,rfl⟩;rw[←hU] at HV4 ⊢;clear hU d0 d1 d2 f0 f1 f2;obtain⟨⟨d0,d1,d2⟩,f0,f1,f2⟩:=qQ2 HV4.out.1.1;have kT:=dtoQ (m:=m) (gn_gN HG.out.1) hm HV4.out.1.2;have hFF:toD (gN (gK e9 (un ((x:Nat):Int) 0))) m=F:=by rw[HG.out.2];simp
    rw[hFF] at kT;clear hFF
    go_wp2_with fail;refine kT.mono ?_;rintro r w5 ⟨rfl,hb5⟩;have HB4:Hid (Bw w w5):=HV4.out.2.2.1.trans (hb5.mono HV4.out.2.2.1.size);clear kT hb5
    go_wp2_with fail
    go_ret;exact⟨rfl,HB4.out⟩
theorem zK1 (neg hx:Bool) (R:ByteArray) (be ex m:Int) (w:World):Calls Tryz.prog 31 #[.agg #[.bool neg,.string ⟨#[110,97,110]⟩,.bool hx,.string R,.int .i64 be,.int .i64 ex],.int .i64 m] w fun r w'=>r=.returned (.float .f64 9221120237041090561)∧Bw w w':=by
 obtain⟨W,hW⟩:∃ W,W=w.alloc (.cells #[.bool neg,.string ⟨#[110,97,110]⟩,.bool hx,.string R,.int .i64 be,.int .i64 ex] 50):=⟨_,rfl⟩;have HW:Hid (Bw w W∧W.heap[w.heap.size]?=some (.cells #[.bool neg,.string ⟨#[110,97,110]⟩,.bool hx,.string R,.int .i64 be,.int .i64 ex] 50 (0,0))):=⟨by rw[hW];exact(xB7 _ _).alloc (xB6 _) _,by rw[hW];exact xM3 _ _⟩
 obtain⟨c0,c1,c2,c3,c4,c5⟩:=qX7 HW.out.2
 go_enter Tryz.func31,Tryz.ntmps31
 go_upto_region 1 with fail;rw[←hW];clear hW;have kN:=Ie.c52 W
 go_wp2_with (refine kN.mono ?_;rintro r w' ⟨rfl,hw⟩;replace hw:=hw.symm;subst hw)
 go_ret;exact⟨rfl,HW.out.1⟩
theorem zK2 (neg hx:Bool) (R:ByteArray) (be ex m:Int) (w:World):Calls Tryz.prog 31 #[.agg #[.bool neg,.string ⟨#[105,110,102]⟩,.bool hx,.string R,.int .i64 be,.int .i64 ex],.int .i64 m] w fun r w'=>r=.returned (.float .f64 (if neg then 18442240474082181120 else 9218868437227405312))∧Bw w w':=by
 obtain⟨W,hW⟩:∃ W,W=w.alloc (.cells #[.bool neg,.string ⟨#[105,110,102]⟩,.bool hx,.string R,.int .i64 be,.int .i64 ex] 50):=⟨_,rfl⟩;have HW:Hid (Bw w W∧W.heap[w.heap.size]?=some (.cells #[.bool neg,.string ⟨#[105,110,102]⟩,.bool hx,.string R,.int .i64 be,.int .i64 ex] 50 (0,0))):=⟨by rw[hW];exact(xB7 _ _).alloc (xB6 _) _,by rw[hW];exact xM3 _ _⟩
 obtain⟨c0,c1,c2,c3,c4,c5⟩:=qX7 HW.out.2
 go_enter Tryz.func31,Tryz.ntmps31
 go_upto_region 1 with fail;rw[←hW];clear hW;have kS:=xJ9 neg W;have kP:=yN9 W;have kM:=zA3 W;cases neg
 ·go_wp2_with (first|(go_at_call 84;refine kS.mono ?_;rintro r w' ⟨rfl,hw⟩;replace hw:=hw.symm;subst hw)|(go_at_call 25;refine kP.mono ?_;rintro r w' ⟨rfl,hw⟩;replace hw:=hw.symm;subst hw))
  go_ret;exact⟨rfl,HW.out.1⟩
 ·go_wp2_with (first|(go_at_call 84;refine kS.mono ?_;rintro r w' ⟨rfl,hw⟩;replace hw:=hw.symm;subst hw)|(go_at_call 25;refine kM.mono ?_;rintro r w' ⟨rfl,hw⟩;replace hw:=hw.symm;subst hw))
  go_ret;exact⟨rfl,HW.out.1⟩
theorem qH (neg hx:Bool) (R:ByteArray) (be ex m:Int) (F0 F:Nat) (z:Bool) (w:World) (hz:(FloatKind.f64.format.order F0 0==some Ordering.eq)=z) (hF:(if z&&neg then 9223372036854775808 else F0)=F)
  (kV:∀ W,Bw w W→Calls Tryz.prog 85 #[.agg #[.bool neg,.string ⟨#[]⟩,.bool hx,.string R,.int .i64 be,.int .i64 ex],.int .i64 m] W fun r w'=>r=.returned (.float .f64 F0)∧Bw W w') :
  Calls Tryz.prog 31 #[.agg #[.bool neg,.string ⟨#[]⟩,.bool hx,.string R,.int .i64 be,.int .i64 ex],.int .i64 m] w fun r w'=>r=.returned (.float .f64 F)∧Bw w w':=by
 obtain⟨W,hW⟩:∃ W,W=w.alloc (.cells #[.bool neg,.string ⟨#[]⟩,.bool hx,.string R,.int .i64 be,.int .i64 ex] 50):=⟨_,rfl⟩;have HW:Hid (Bw w W∧W.heap[w.heap.size]?=some (.cells #[.bool neg,.string ⟨#[]⟩,.bool hx,.string R,.int .i64 be,.int .i64 ex] 50 (0,0))):=⟨by rw[hW];exact(xB7 _ _).alloc (xB6 _) _,by rw[hW];exact xM3 _ _⟩
 obtain⟨c0,c1,c2,c3,c4,c5⟩:=qX7 HW.out.2
 go_enter Tryz.func31,Tryz.ntmps31
 go_upto_region 1 with fail;rw[←hW];clear hW;have kv:=kV W HW.out.1;clear kV
 go_wp2_with fail;refine kv.mono ?_;rintro r w2 ⟨rfl,hb2⟩;have HB:Hid (Bw w w2):=HW.out.1.trans (hb2.mono HW.out.1.size);clear c0 c1 c2 c3 c4 c5 kv;obtain⟨c0,c1,c2,c3,c4,c5⟩:=qX7 (qQ HW.out.2 hb2 (qQ6 HW.out.2));clear hb2 HW;have kC:=zT3 0 13830554455654793216 (by decide) (by decide) w2
 rw[show sig (Go.Fl64.neg 13830554455654793216) (mag 0)=9223372036854775808 by decide] at kC
 cases z
 ·simp at hF
  subst hF
  go_wp2_with fail
  go_ret;exact⟨rfl,HB.out⟩
 ·cases neg
  ·simp at hF
   subst hF
   go_wp2_with fail
   go_ret;exact⟨rfl,HB.out⟩
  ·simp at hF
   subst hF
   go_wp2_with (refine kC.mono ?_;rintro r w' ⟨rfl,hw⟩;replace hw:=hw.symm;subst hw)
   go_ret;exact⟨rfl,HB.out⟩
def RdO (F:Nat) (E:Int) (w:World) (r:Ending) (w':World):Prop:=r=.returned (.tuple #[.float .f64 F,.int .i64 E])∧Bw w w'
theorem zK (R:ByteArray) (m:Int) (w:World) (h:¬ (1≤m∧m≤3)):Calls Tryz.prog 9 #[.string R,.int .i64 m] w fun r w'=>RdO 0 1 w r w':=by
 have k0:=zE4 m w;rw[xB9 h] at k0
 go_enter Tryz.func9,Tryz.ntmps9
 go_wp2_with (refine k0.mono ?_;rintro r w' ⟨rfl,hw⟩;replace hw:=hw.symm;subst hw)
 refine xM4 (xP8 rfl _ _ _) rfl ?_;exact⟨rfl,xB7 _ _⟩
theorem zK0 (R:ByteArray) (m:Int) (w:World) (h:1≤m∧m≤3) (hL:(1048576:Int)<(R.size:Int)):Calls Tryz.prog 9 #[.string R,.int .i64 m] w fun r w'=>RdO 0 2 w r w':=by
 have k0:=zE4 m w;rw[xN h] at k0
 go_enter Tryz.func9,Tryz.ntmps9
 go_wp2_with (refine k0.mono ?_;rintro r w' ⟨rfl,hw⟩;replace hw:=hw.symm;subst hw)
 refine xM4 (xP8 rfl _ _ _) rfl ?_;exact⟨rfl,xB7 _ _⟩
theorem qP7 (s:ByteArray) (m:Int) (w:World) (n l:Nat) (t0 t2:Bool) (t1 t3:ByteArray) (t4 t5 k:Int) (F:Nat) (E:Int) (h:1≤m∧m≤3) (hn:s.size=n) (hL:n≤1048576)
  (kT:∀ W,Calls Tryz.prog 30 #[.string s] W fun r w'=>r=.returned (.tuple #[.agg #[.bool t0,.string t1,.bool t2,.string t3,.int .i64 t4,.int .i64 t5],.int .i64 k])∧Bw W w')
  (h3:t3.size=l) (hc:Hid (((k=0∨k≠n)∧F=0∧E=3)∨(k≠0∧k=n∧1100<l∧F=0∧E=2)∨(k≠0∧k=n∧l≤1100∧E=0)))
  (kF:Hid (k≠0→k=n→l≤1100→∀ W,Calls Tryz.prog 31 #[.agg #[.bool t0,.string t1,.bool t2,.string t3,.int .i64 t4,.int .i64 t5],.int .i64 m] W fun r w'=>r=.returned (.float .f64 F)∧Bw W w')) :
  Calls Tryz.prog 9 #[.string s,.int .i64 m] w fun r w'=>RdO F E w r w':=by
 have k0:=zE4 m w;rw[xN h] at k0;have hle:¬ (1048576:Int)<(n:Int):=by omega
 have kt:=kT w;clear kT
 go_enter Tryz.func9,Tryz.ntmps9
 go_wp2_with (go_at_call 29;refine k0.mono ?_;rintro r w' ⟨rfl,hw⟩;replace hw:=hw.symm;subst hw)
 refine kt.mono ?_;rintro r w2 ⟨rfl,hb2⟩;clear kt;obtain⟨V,hV⟩:∃ V,V=w2.alloc (.cells #[.bool t0,.string t1,.bool t2,.string t3,.int .i64 t4,.int .i64 t5] 50):=⟨_,rfl⟩;obtain⟨g,hg⟩:∃ g,g=w2.heap.size:=⟨_,rfl⟩;have HV:Hid (V.heap[g]?=some (.cells #[.bool t0,.string t1,.bool t2,.string t3,.int .i64 t4,.int .i64 t5] 50 (0,0))∧Bw w V):=by
  have hbV:Bw w2 V:=by rw[hV];exact(xB7 _ _).alloc (xB6 _) _
  exact⟨by rw[hV,hg];exact xM3 _ _,hb2.trans (hbV.mono hb2.size)⟩
 go_upto_region 6 with fail;rw[←hV,←hg];clear hV hg hb2;obtain⟨c0,c1,c2,c3,c4,c5⟩:=qX7 HV.out.1;rcases hc.out with ⟨hk,rfl,rfl⟩|⟨hk0,hkn,hl,rfl,rfl⟩|⟨hk0,hkn,hl,rfl⟩
 ·by_cases hk0:k=0
  ·subst hk0;clear hk
   go_wp2_with fail;refine xM4 (xP8 rfl _ _ _) rfl ?_;exact⟨rfl,HV.out.2⟩
  ·have hk1:¬ k=(n:Int):=hk.resolve_left hk0;have hk2:(k != (n:Int))=true:=by rw[bne_iff_ne];exact hk1
   have hk3:(k==0)=false:=by rw[xM8];exact hk0
   clear hk hk1 hc kF
   go_wp2_with fail;refine xM4 (xP8 rfl _ _ _) rfl ?_;exact⟨rfl,HV.out.2⟩
 ·subst hkn;have hl1:(1100:Int)<(l:Int):=by omega
  clear hl
  go_wp2_with fail;refine xM4 (xP8 rfl _ _ _) rfl ?_;exact⟨rfl,HV.out.2⟩
 ·have kf:=kF.out hk0 hkn hl V;subst hkn;have hl1:¬ (1100:Int)<(l:Int):=by omega
  clear hl kF
  go_wp2_with fail;refine kf.mono ?_;rintro r w3 ⟨rfl,hb3⟩;have HB:Hid (Bw w w3):=HV.out.2.trans (hb3.mono HV.out.2.size);clear kf hb3
  go_wp2_with fail;refine xM4 (xP8 rfl _ _ _) rfl ?_;exact⟨rfl,HB.out⟩
theorem qE8 {c:Nat} {b:Int} (hb:b=10∨b=16):(0≤dgF c∧dgF c<b)↔isDg c b=true:=by
 unfold dgF isDg;rcases hb with rfl|rfl
 ·simp only[Bool.or_eq_true,xM5,decide_eq_true_eq,beq_iff_eq];constructor
  ·intro h;split at h
   ·left;omega
   ·split at h
    ·omega
    ·split at h <;> omega
  ·intro h;rcases h with h|h
   ·rw[if_pos h];omega
   ·omega
 ·simp only[Bool.or_eq_true,xM5,decide_eq_true_eq,beq_iff_eq];constructor
  ·intro h;split at h
   ·left;omega
   ·split at h
    ·exact .inr ⟨.inl (by omega),trivial⟩
    ·split at h
     ·exact .inr ⟨.inr (by omega),trivial⟩
     ·omega
  ·intro h;split
   ·omega
   ·split
    ·omega
    ·split
     ·omega
     ·omega
theorem zC6 {b:Int}:isDg 46 b=false:=by unfold isDg;simp
def zO3 (b:Int) (dt:Bool) (R:List UInt8):Prop:=R = []∨∃ c R',R=c :: R'∧isDg c.toNat b=false∧(dt=false→c≠46)
theorem sp2 {b:Int} (hb:b=10∨b=16):∀ (T out:List UInt8) (dot:Int) (k:Nat),0≤dot→∃ B R,T=B++R∧qX9 B b=true∧zO3 b true R∧spG b out dot T k=(out++B,dot,k+B.length)
 | [],out,dot,k,h=>⟨[],[],rfl,rfl,.inl rfl,by simp[spG]⟩
 | c :: T,out,dot,k,h=>by
  by_cases hd:isDg c.toNat b=true
  ·obtain⟨B,R,h1,h2,h3,h4⟩:=sp2 hb T (out ++ [c]) dot (k+1) h;refine⟨c :: B,R,by rw[h1];rfl,?_,h3,?_⟩
   ·unfold qX9 at h2 ⊢;rw[List.all_cons,xM5];exact⟨hd,h2⟩
   ·unfold spG;rw[if_neg (by omega),if_pos ((qE8 hb).2 hd),h4]
    simp;omega
  ·refine⟨[],c :: T,rfl,rfl,.inr ⟨c,T,rfl,by simpa using hd,fun h=>by cases h⟩,?_⟩
   unfold spG;rw[if_neg (by omega),if_neg (fun h=>hd ((qE8 hb).1 h))]
   simp
def dtL (dt:Bool) (B:List UInt8):List UInt8:=if dt then 46 :: B else []
theorem sp1 {b:Int} (hb:b=10∨b=16):∀ (T out:List UInt8) (k:Nat),∃ A B dt R,T=A++dtL dt B++R∧qX9 A b=true∧qX9 B b=true∧(dt=false→B = [])∧zO3 b dt R ∧
  spG b out (-1) T k=(out++A++B,(if dt then((out.length+A.length:Nat):Int)else -1),k+(A++dtL dt B).length)
 | [],out,k=>⟨[],[],false,[],rfl,rfl,rfl,fun _=>rfl,.inl rfl,by simp[spG,dtL]⟩
 | c :: T,out,k=>by
  by_cases h46:c=46
  ·subst h46;obtain⟨B,R,h1,h2,h3,h4⟩:=sp2 hb T out out.length (k+1) (by omega)
   refine⟨[],B,true,R,by rw[h1];rfl,rfl,h2,(fun h=>by cases h),h3,?_⟩
   unfold spG;rw[if_pos ⟨rfl,by decide⟩,h4]
   simp[dtL];omega
  ·by_cases hd:isDg c.toNat b=true
   ·obtain⟨A,B,dt,R,h1,h2,h3,h4,h5,h6⟩:=sp1 hb T (out ++ [c]) (k+1);refine⟨c :: A,B,dt,R,by rw[h1];rfl,?_,h3,h4,h5,?_⟩
    ·unfold qX9 at h2 ⊢;rw[List.all_cons,xM5];exact⟨hd,h2⟩
    ·unfold spG;rw[if_neg (fun h=>h46 h.1),if_pos ((qE8 hb).2 hd),h6];simp
     refine⟨?_,by omega⟩
     split <;> omega
   ·refine⟨[],[],false,c :: T,rfl,rfl,rfl,fun _=>rfl,.inr ⟨c,T,rfl,by simpa using hd,fun _=>h46⟩,?_⟩
    unfold spG;rw[if_neg (fun h=>h46 h.1),if_neg (fun h=>hd ((qE8 hb).1 h))];simp[dtL]
theorem bh_dt {A B:List UInt8} {dt:Bool} (h:dt=false→B = []):bhN (A++B).length (if dt then((0+A.length:Nat):Int)else -1)=(B.length:Nat):=by
 unfold bhN;cases dt
 ·rw[h rfl];simp
 ·simp;omega
theorem qM4 {b:Int}:∀ {P A:List UInt8} {u v:UInt8} {U V:List UInt8},qX9 P b=true→qX9 A b=true→isDg u.toNat b=false→isDg v.toNat b=false→P++u :: U=A++v :: V→P=A∧u=v∧U=V
 | [],[],u,v,U,V,_,_,_,_,h=>by
  simp at h
  exact⟨rfl,h.1,h.2⟩
 | [],a :: A,u,v,U,V,_,hA,hu,_,h=>by
  simp at h
  unfold qX9 at hA;rw[List.all_cons,xM5] at hA;rw[h.1] at hu;rw[hA.1] at hu;cases hu
 | p :: P,[],u,v,U,V,hP,_,_,hv,h=>by
  simp at h
  unfold qX9 at hP;rw[List.all_cons,xM5] at hP;rw[←h.1] at hv;rw[hP.1] at hv;cases hv
 | p :: P,a :: A,u,v,U,V,hP,hA,hu,hv,h=>by
  simp at h
  unfold qX9 at hP hA;rw[List.all_cons,xM5] at hP hA;obtain⟨h1,h2,h3⟩:=qM4 (b:=b) (P:=P) (A:=A) (by unfold qX9;exact hP.2) (by unfold qX9;exact hA.2) hu hv h.2
  exact⟨by rw[h.1,h1],h2,h3⟩
theorem zZ0 {A B:List UInt8} {b:Int}:qX9 (A++B) b=(qX9 A b&&qX9 B b):=by unfold qX9;rw[List.all_append]
theorem qV9 {A:List UInt8} {b:Int} (h:qX9 A b=true):∀ c ∈ A,isDg c.toNat b=true:=by
 unfold qX9 at h;exact List.all_eq_true.1 h
theorem zL7 {c:UInt8}:∀ {A T:List UInt8},(∀ x ∈ A,x≠c)→Lib.indexByte (A++c :: T) c=(A.length:Nat)
 | [],T,_=>by simp[Lib.indexByte]
 | a :: A,T,h=>by
  have h1:=zL7 (A:=A) (T:=T) (fun x hx=>h x (List.mem_cons_of_mem _ hx));have h2:(a==c)=false:=by rw[xM8];exact h a (List.mem_cons_self ..)
  rw[List.cons_append];unfold Lib.indexByte;rw[h2,h1];simp
theorem zG8 {c:UInt8}:∀ {A:List UInt8},(∀ x ∈ A,x≠c)→Lib.indexByte A c = -1
 | [],_=>rfl
 | a :: A,h=>by
  have h1:=zG8 (A:=A) (fun x hx=>h x (List.mem_cons_of_mem _ hx));have h2:(a==c)=false:=by rw[xM8];exact h a (List.mem_cons_self ..)
  unfold Lib.indexByte;rw[h2,h1];simp
theorem zL8 {M:List UInt8} {c:UInt8} (hc:M.contains c=true):∀ {A T:List UInt8},(∀ x ∈ A,M.contains x=false)→Lib.indexAny (A++c :: T) M=(A.length:Nat)
 | [],T,_=>by rw[List.nil_append];unfold Lib.indexAny;rw[if_pos hc];rfl
 | a :: A,T,h=>by
  have h1:=zL8 hc (A:=A) (T:=T) (fun x hx=>h x (List.mem_cons_of_mem _ hx));have h2:=h a (List.mem_cons_self ..);rw[List.cons_append];unfold Lib.indexAny;rw[h2,h1];simp
theorem zG9 {M:List UInt8}:∀ {A:List UInt8},(∀ x ∈ A,M.contains x=false)→Lib.indexAny A M = -1
 | [],_=>rfl
 | a :: A,h=>by
  have h1:=zG9 (A:=A) (fun x hx=>h x (List.mem_cons_of_mem _ hx));have h2:=h a (List.mem_cons_self ..);unfold Lib.indexAny;rw[h2,h1];simp
theorem zF {A:List UInt8} {b:Int} (h:qX9 A b=true):∀ x ∈ A,x≠(46:UInt8):=fun x hx e=>by
 have:=qV9 h x hx
 rw[e] at this;rw[show((46:UInt8).toNat)=46 from rfl,zC6] at this;cases this
theorem cu_dt {A B:List UInt8} {dt:Bool} {b:Int} (hA:qX9 A b=true) (hB:dt=false→B = []):cuA (A++dtL dt B)=A∧cuB (A++dtL dt B)=B:=by
 cases dt
 ·rw[hB rfl];have e:A++dtL false ([]:List UInt8)=A:=by simp[dtL]
  rw[e];unfold cuA cuB;rw[zG8 (zF hA),if_pos (by decide),if_pos (by decide)]
  exact⟨rfl,rfl⟩
 ·have e:A++dtL true B=A++46 :: B:=rfl;rw[e];unfold cuA cuB;rw[zL7 (zF hA),if_neg (by omega),if_neg (by omega),xP4]
  constructor
  ·simp
  ·rw[List.drop_append,List.drop_eq_nil_of_le (by omega)]
   simp
theorem xV2 {A B R:List UInt8} {dt:Bool} {b:Int} {c:UInt8} (hA:qX9 A b=true) (hB:qX9 B b=true) (hdt:dt=false→B = []) (hc:isDg c.toNat b=false) (h46:dt=false→c≠46) :
  dgO b (cuA (A++dtL dt B++c :: R)++cuB (A++dtL dt B++c :: R))=false:=by
 cases hq:dgO b (cuA (A++dtL dt B++c :: R)++cuB (A++dtL dt B++c :: R)) with
 | false=>rfl
 | true =>
  exfalso;unfold dgO at hq;rw[xM5,zZ0,xM5] at hq;obtain⟨⟨h1,h2⟩,-⟩:=hq;have hdn:isDg (46:UInt8).toNat b=false:=zC6;rcases zE7 (A++dtL dt B++c :: R)with ⟨-,h3,-⟩|h3
  ·rw[h3] at h1;have:=qV9 h1 c (by simp)
   rw[hc] at this;cases this
  ·cases dt
   ·have e:A++dtL false B++c :: R=A++c :: R:=by simp[dtL]
    rw[e] at h1 h2 h3;obtain⟨-,h5,-⟩:=qM4 hA h1 hc hdn h3;exact h46 rfl h5
   ·have e:A++dtL true B++c :: R=A++46 :: (B++c :: R):=by simp[dtL]
    rw[e] at h1 h2 h3;obtain⟨-,-,h5⟩:=qM4 hA h1 hdn hdn h3;rw[←h5] at h2;have:=qV9 h2 c (by simp)
    rw[hc] at this;cases this
theorem qH0 (L:List UInt8) (a k:Nat):bL (L.drop a) k=bL L (a+k):=by unfold bL;rw[List.getElem?_drop]
theorem yC6 {A R:List UInt8} {k:Nat} (h:k<A.length):bL (A++R) k=bL A k:=by unfold bL;rw[List.getElem?_append_left h]
theorem bL_at {A R:List UInt8} {c:UInt8}:bL (A++c :: R) A.length=c.toNat:=by
 unfold bL;rw[List.getElem?_append_right (xB6 _),Nat.sub_self];rfl
theorem xZ1 {L G:List UInt8} {a:Nat} (hG:G=L.drop a):∀ k,rdE G k=min (rdX L a k) 6000
 | 0=>rfl
 | k+1=>by
  have h1:=xZ1 hG k;have h2:bL G k=bL L (a+k):=by rw[hG,qH0]
  show min (10*rdE G k+(bL G k - 48)) 6000=min (min (10*rdX L a k+(bL L (a+k) - 48)) 1000000000) 6000
  rw[h1,h2];omega
def ExA (L:List UInt8) (n p:Nat) (val:Int) (e:Nat) (ok:Bool):Prop :=
 (∀ w,Calls Tryz.prog 83 #[.string ⟨L.toArray⟩,.int .i64 p] w fun r w'=>r=.returned (.tuple #[.int .i64 val,.int .i64 e,.bool ok])∧w'=w)∧e≤n∧(-1000000000≤val∧val≤1000000000) ∧
 (exO (L.drop p)=true→ok=true∧e=n∧exX (L.drop p)=max (-6000) (min 6000 val))∧(exO (L.drop p)=false→ok=false∨e≠n)
theorem zH5 {L:List UInt8} {n p a:Nat} {sg:Int} (hn:n=L.length) (hL:n≤2000000) (hap:p≤a) (han:a≤n) (hG:csD (L.drop p)=L.drop a) (hS:csS (L.drop p)=sg) (hsg:sg=1∨sg = -1)
  (k:∀ e w,a≤e→e≤n→(∀ k,a≤k→k<e→48≤bL L k∧bL L k≤57)→(e<n→bL L e<48∨57<bL L e)→Calls Tryz.prog 83 #[.string ⟨L.toArray⟩,.int .i64 p] w fun r w'=>r=.returned (.tuple #[.int .i64 (sg*(rdX L a (e - a):Nat)),.int .i64 e,.bool (decide (a<e))])∧w'=w) :
  ∃ val e ok,ExA L n p val e ok:=by
 obtain⟨A,R,hAR,hA,hR,-⟩:=sp2 (b:=10) (.inl rfl) (L.drop a) [] 0 0 (by omega)
 have hlen:A.length+R.length=n - a:=by
  have:=congrArg List.length hAR
  rw[List.length_drop,xP5] at this;omega
 have hdig:∀ k,a≤k→k<a+A.length→48≤bL L k∧bL L k≤57:=by
  intro k h1 h2;have e1:bL L k=bL A (k - a):=by
   rw[←yC6 (R:=R) (show k - a<A.length by omega),←hAR,qH0]
   congr 1
   omega
  rw[e1];exact qE9 ((qG3 _ _).1 hA (k - a) (by omega))
 have hstop:a+A.length<n→bL L (a+A.length)<48∨57<bL L (a+A.length):=by
  intro h;rcases hR with h0|⟨c,R',h1,h2,-⟩
  ·rw[h0,List.length_nil] at hlen;omega
  ·have e1:bL L (a+A.length)=c.toNat:=by rw[←qH0,hAR,h1,bL_at]
   rw[e1];unfold isDg at h2;simp at h2
   omega
 have hX:=yB0 L a A.length;refine⟨sg*(rdX L a (a+A.length - a):Nat),a+A.length,decide (a<a+A.length),fun w=>k (a+A.length) w (by omega) (by omega) hdig hstop,by omega,?_,?_,?_⟩
 ·rw[Nat.add_sub_cancel_left];rcases hsg with rfl|rfl <;> omega
 ·intro h;unfold exO dgO at h;rw[hG,xM5] at h;have hR0:R = []:=by
   rcases hR with h0|⟨c,R',h1,h2,-⟩
   ·exact h0
   ·have h3:=qV9 h.1 c (by rw[hAR,h1];simp)
    rw[h2] at h3;cases h3
  have hne:L.drop a ≠ []:=of_decide_eq_true h.2;have hA0:A.length≠0:=by
   intro h9;rw[hR0,List.append_nil] at hAR;exact hne (by rw[hAR];exact List.length_eq_zero_iff.1 h9)
  rw[hR0,List.length_nil] at hlen;refine⟨xN (by omega),by omega,?_⟩
  unfold exX;have hexo:exO (L.drop p)=true:=by
   unfold exO dgO;rw[hG,xM5];exact h
  rw[if_pos hexo,hS,hG,xZ1 (a:=a) rfl,List.length_drop,Nat.add_sub_cancel_left];have e2:L.length - a=A.length:=by omega
  rw[e2];rcases hsg with rfl|rfl <;> omega
 ·intro h;rcases hR with h0|⟨c,R',h1,h2,-⟩
  ·left
   unfold exO dgO at h;rw[hG] at h;rw[h0,List.append_nil] at hAR;rw[hAR,hA,Bool.true_and] at h;have h3:=of_decide_eq_false h;have h4:A = []:=Classical.not_not.1 h3;rw[h4];exact xB9 (by simp)
  ·right
   rw[h1,List.length_cons] at hlen;omega
theorem zE6 (L:List UInt8) (n p:Nat) (hn:n=L.length) (hL:n≤2000000) (hp:p≤n):∃ val e ok,ExA L n p val e ok:=by
 have kP:∀ a e w,a≤e→e≤n→(∀ k,a≤k→k<e→48≤bL L k∧bL L k≤57)→(e<n→bL L e<48∨57<bL L e)→((p=n∧a=p)∨(p<n∧bL L p=43∧a=p+1)∨(p<n∧(bL L p≠45∧bL L p≠43)∧a=p))→Calls Tryz.prog 83 #[.string ⟨L.toArray⟩,.int .i64 p] w fun r w'=>r=.returned (.tuple #[.int .i64 (1*(rdX L a (e - a):Nat)),.int .i64 e,.bool (decide (a<e))])∧w'=w:=by
  intro a e w h1 h2 h3 h4 h5;have h9:=zE5 L n p a e false w hn hL (by omega) h1 h2 (by rcases h5 with h|h|h;exact .inl ⟨h.1,h.2,rfl⟩;exact .inr (.inr (.inl ⟨h.1,h.2.1,h.2.2,rfl⟩));exact .inr (.inr (.inr ⟨h.1,h.2.1,h.2.2,rfl⟩))) h3 h4
  rw[if_neg (by decide)] at h9
  rw[Int.one_mul];exact h9
 by_cases hpn:p=n
 ·refine zH5 (a:=p) (sg:=1) hn hL (xB6 _) hp ?_ ?_ (.inl rfl) (fun e w h1 h2 h3 h4=>kP p e w h1 h2 h3 h4 (.inl ⟨hpn,rfl⟩))
  ·rw[List.drop_eq_nil_of_le (by omega)];rfl
  ·rw[List.drop_eq_nil_of_le (by omega)];rfl
 ·obtain⟨c,hc,hcb⟩:=zC5 (L:=L) (k:=p) (by omega)
  by_cases h45:c=45
  ·refine zH5 (a:=p+1) (sg := -1) hn hL (by omega) (by omega) ?_ ?_ (.inr rfl) (fun e w h1 h2 h3 h4=>?_)
   ·rw[hc,h45];rfl
   ·rw[hc,h45];rfl
   ·have h9:=zE5 L n p (p+1) e true w hn hL (by omega) h1 h2 (.inr (.inl ⟨by omega,by rw[←hcb,h45];rfl,rfl,rfl⟩)) h3 h4
    rw[if_pos rfl] at h9;rw[Int.neg_one_mul];exact h9
  ·by_cases h43:c=43
   ·refine zH5 (a:=p+1) (sg:=1) hn hL (by omega) (by omega) ?_ ?_ (.inl rfl) (fun e w h1 h2 h3 h4=>kP (p+1) e w h1 h2 h3 h4 (.inr (.inl ⟨by omega,by rw[←hcb,h43];rfl,rfl⟩)))
    ·rw[hc,h43];rfl
    ·rw[hc,h43];rfl
   ·have hh:¬ ((L.drop p).head?=some 45)∧¬ ((L.drop p).head?=some 43):=by
     rw[hc];exact⟨fun h=>h45 (xB8 h),fun h=>h43 (xB8 h)⟩
    refine zH5 (a:=p) (sg:=1) hn hL (xB6 _) hp ?_ ?_ (.inl rfl) (fun e w h1 h2 h3 h4=>kP p e w h1 h2 h3 h4 (.inr (.inr ⟨by omega,⟨fun h=>h45 (UInt8.toNat_inj.1 (by rw[hcb,h];rfl)),fun h=>h43 (UInt8.toNat_inj.1 (by rw[hcb,h];rfl))⟩,rfl⟩)))
    ·unfold csD;rw[if_neg (fun h=>h.elim hh.1 hh.2)]
    ·unfold csS;rw[if_neg hh.1]
end Go.Proofs.YtkcmhaknalomjaaGreatDoor
