/- Own work: contracts of the program's functions, part 15: RAG RAH RAI RAJ RAK RAL RAM RAN RAO RAP RAQ RAR RAS RAT RAU. -/
import Derived.Test.YtgdhdailchonmabGreatDoorA14
import Derived.Test.YtgdhdailchonmabGreatDoorA10
import Derived.Test.YtgdhdailchonmabGreatDoorA12

set_option maxHeartbeats 16000000
set_option maxRecDepth 200000
set_option linter.unusedVariables false
set_option linter.unusedSimpArgs false
namespace Go.Proofs.YtgdhdailchonmabGreatDoor
open Go Go.RowKit Go.Fl64
theorem OrootAt_pU {A p P m b e:Nat} {X:Value} {w:World} (he:2*P - p=e) (hA:A<2^b) (hb:b≤60000) (hp:p≤2*P) (hP:P≤20000) (hm1:m*m≤A*pU e) (hm2:A*pU e<(m+1)*(m+1)) (hmb:m<2^60000) (hT:Tab32 w) (hX:PN w X (un ((A:Nat):Int) p)) :
  Calls Tryz.prog 44 #[X,.int .i64 (P:Nat)] w fun r w'=>OutCt w (un ((m:Nat):Int) P) (decide (m*m=A*pU e)) r w':=by
 subst he
 unfold pU at hm1 hm2 ⊢
 exact OrootAt_un hA hb hp hP hm1 hm2 hmb hT hX
theorem sq_absO {a:Int} {k:Nat} (h:a.natAbs<2^k):(a*a).natAbs<2^(k+k):=by
 rw[Int.natAbs_mul,Nat.pow_add]
 exact Nat.mul_lt_mul'' h h
theorem hr_ltO {R H b:Nat} (c:Bool) (r1:R*R≤H) (h:H<2^(b+1)):hrO R c<2^(b+2):=by
 have hRb:R<2^(b+1):=Nat.lt_of_le_of_lt (Nat.le_trans (Nat.le_mul_self R) r1) h
 unfold hrO
 rw[show b+2=(b+1)+1 from rfl,Nat.pow_succ]
 cases c
 ·rw[if_neg (by decide)];omega
 ·rw[if_pos rfl];omega
theorem hr_absO {M H b:Nat} {Z:Int} (hZ:Z.natAbs<2^b) (hM:M<2^b) (h:(M:Int)+Z=(H:Int)):H<2^(b+1):=by
 have:=abs_add (int_natO hM) hZ
 rw[h,Int.natAbs_natCast] at this
 exact this
theorem OpartsOf_un {x y A M Hi Hr Ri Rr b e:Nat} {X Y:Int} {w:World} (he:2150=e) (hb:b≤19000) (hx:x<18446744073709551616) (hy:y<18446744073709551616) (fx:mag x<9218868437227405312) (fy:mag y<9218868437227405312)
  (eX:sU x=X) (eY:sU y=Y) (hA:X*X+Y*Y=(A:Int)) (m1:M*M≤A*pU e) (m2:A*pU e<(M+1)*(M+1)) (hXb:(X*(pU 1075:Int)).natAbs<2^b) (hMb:M<2^b)
  (hi:(M:Int)+(-X)*(pU 1075:Int)=(Hi:Int)) (hr:(M:Int)+X*(pU 1075:Int)=(Hr:Int)) (i1:Ri*Ri≤Hi) (i2:Hi<(Ri+1)*(Ri+1)) (r1:Rr*Rr≤Hr) (r2:Hr<(Rr+1)*(Rr+1)) (hT:Tab32 w) (hI:Ie.Tab w) :
  Calls Tryz.prog 19 #[.complex .f64 x y] w fun r w'=>∃ u,r=.returned u∧isPr (un ((hrO Rr (decide (M*M=A*pU e)&&decide (Rr*Rr=Hr)):Nat):Int) 1076) (if cneg y then un (-((hrO Ri (decide (M*M=A*pU e)&&decide (Ri*Ri=Hi)):Nat):Int)) 1076 else un ((hrO Ri (decide (M*M=A*pU e)&&decide (Ri*Ri=Hi)):Nat):Int) 1076) y w' u∧Bw w w':=by
 have bx:X.natAbs<2^bU:=by rw[←eX];exact sU_lt x
 have by':Y.natAbs<2^bU:=by rw[←eY];exact sU_lt y
 have hbU:bU=2200:=rfl
 have sx:=sq_absO bx
 have sy:=sq_absO by'
 have hXn:((-X)*(pU 1075:Int)).natAbs<2^b:=by rw[Int.neg_mul,Int.natAbs_neg];exact hXb
 have hAb:A<2^(bU+bU+1):=by
  have:=abs_add sx sy
  rw[hA,Int.natAbs_natCast] at this
  exact this
 have hHi:=hr_absO hXn hMb hi
 have sq:∀ (z:Nat) (Z:Int),z<18446744073709551616→mag z<9218868437227405312→sU z=Z→Z.natAbs<2^bU→∀ W,Bw w W→Calls Tryz.prog 46 #[.float .f64 z] W fun r w'=>OutA W (un (Z*Z) 2148) r w':=by
  intro z Z hz fz eZ bz W hW
  refine Osquare_1 z (un Z 1074) (un (Z*Z) 2148) W (fun V hV=>?_) (fun V P Q hV hP hQ=>?_)
  ·have:=Oexact_ok z hz fz V ((hT.later hW).later hV) (Tab.later hI (hW.trans (hV.mono hW.size)))
   rw[tF_sU,eZ] at this
   exact this
  ·exact pmul_un (p:=1074) (q:=1074) bz bz (by omega) (by omega) V P Q ((hT.later hW).later hV) hP hQ
 refine(OpartsOf_1 x y (decide (M*M=A*pU e)) (cneg y) (un (X*X) 2148) (un (Y*Y) 2148) (un ((A:Nat):Int) 2148) (un ((M:Nat):Int) 2149) (un (-X) 1074) (un ((hrO Ri (decide (M*M=A*pU e)&&decide (Ri*Ri=Hi)):Nat):Int) 1076) (un (-((hrO Ri (decide (M*M=A*pU e)&&decide (Ri*Ri=Hi)):Nat):Int)) 1076) (un X 1074) (un ((hrO Rr (decide (M*M=A*pU e)&&decide (Rr*Rr=Hr)):Nat):Int) 1076) (cls y) w
  (sq x X hx fx eX bx) (sq y Y hy fy eY by') (fun W P Q hW hP hQ=>?_) (fun W P hW hP=>?_) hx (fun W hW=>?_) (fun W s ao n c ex P hW h0 h9=>?_) (fun W=>Ie.c9 y hy W) (fun _ W P hW hP=>?_) (fun W hW=>?_) (fun W s ao n c ex P hW h0 h9=>?_))
 ·have:=Oadded_op (padd_un (p:=2148) sx sy (by omega) (by omega)) (hT.later hW) hP hQ
  rw[hA] at this
  exact this
 ·exact OrootAt_pU (p:=2148) (P:=2149) he hAb (by omega) (by omega) (by omega) m1 m2 (pow_upO (b:=60000) hMb (by omega)) (hT.later hW) hP
 ·have:=Oexact_ok (ngt x) (ngt_lt hx) (by rw[ngt_mag hx];exact fx) W (hT.later hW) (Tab.later hI hW)
  rw[tF_sU,sU_ngtO hx,eX] at this
  exact this
 ·obtain⟨s9,ao9,n9,cap9,ex9,rfl⟩:=h9.shape
  exact OhalfRoot_un (by omega) (hT.later hW) hXn hMb hi i1 i2 h0 h9
 ·exact pneg_unO (int_natO (hr_ltO _ i1 hHi)) (by omega) (by omega) hP
 ·have:=Oexact_ok x hx fx W (hT.later hW) (Tab.later hI hW)
  rw[tF_sU,eX] at this
  exact this
 ·obtain⟨s9,ao9,n9,cap9,ex9,rfl⟩:=h9.shape
  exact OhalfRoot_un (by omega) (hT.later hW) hXb hMb hr r1 r2 h0 h9
def RdO (c P Q:Nat):Prop:=((bv (c - 1)+bv c)*Q<P∨((bv (c - 1)+bv c)*Q=P∧c % 2=0))∧(P<(bv c+bv (c+1))*Q∨(P=(bv c+bv (c+1))*Q∧c % 2=0))
theorem rounds_nearO {A u b c:Nat} (hu:0<u) (h:Rounds A u b 1) (hc:0<c):b=c↔RdO c (2*A) u:=by
 obtain⟨b0,⟨l,g⟩,-,-,w1⟩:=h.fl
 replace w1:=w1 rfl
 unfold RdO
 have m0:bv b0<bv (b0+1):=bv_succ b0
 have m1:bv (c - 1)<bv c:=bv_lt (by omega)
 have m2:bv c<bv (c+1):=bv_succ c
 rcases Nat.lt_trichotomy b0 (c - 1)with h1|h1|h1
 ·have k1:bv (b0+1)≤bv (c - 1):=bv_le (by omega)
  have k2:bv (b0+1)*u≤bv (c - 1)*u:=Nat.mul_le_mul_right _ k1
  have k3:bv (c - 1)*u<bv c*u:=Nat.mul_lt_mul_of_pos_right m1 hu
  have hb:b≤b0+1:=by rw[w1];split;omega;split;omega;omega
  rw[Nat.add_mul (bv (c - 1))]
  constructor
  ·intro e;omega
  ·rintro⟨h2|⟨h2,-⟩,-⟩ <;> omega
 ·obtain rfl:c=b0+1:=by omega
  rw[show b0+1 - 1=b0 by omega] at *
  have k2:bv (b0+1)*u<bv (b0+1+1)*u:=Nat.mul_lt_mul_of_pos_right m2 hu
  rw[w1,Nat.add_mul (bv (b0+1))]
  split
  ·constructor
   ·intro e;omega
   ·rintro⟨h2|⟨h2,-⟩,-⟩ <;> omega
  ·split
   ·constructor
    ·intro e;exact⟨.inr ⟨by omega,by omega⟩,.inl (by omega)⟩
    ·rintro⟨h2|⟨h2,h3⟩,-⟩ <;> omega
   ·constructor
    ·intro e;exact⟨.inl (by omega),.inl (by omega)⟩
    ·intro _;rfl
 ·rcases Nat.lt_or_ge c b0 with h2|h2
  ·have k1:bv (c+1)≤bv b0:=bv_le (by omega)
   have k2:bv (c+1)*u≤bv b0*u:=Nat.mul_le_mul_right _ k1
   have k3:bv c*u<bv (c+1)*u:=Nat.mul_lt_mul_of_pos_right m2 hu
   have hb:b0≤b:=by rw[w1];split;omega;split;omega;omega
   rw[Nat.add_mul (bv c)]
   constructor
   ·intro e;omega
   ·rintro⟨-,h2|⟨h2,-⟩⟩ <;> omega
  ·obtain rfl:c=b0:=by omega
   have k3:bv (c - 1)*u<bv c*u:=Nat.mul_lt_mul_of_pos_right m1 hu
   rw[w1,Nat.add_mul (bv (c - 1))]
   split
   ·constructor
    ·intro _;exact⟨.inl (by omega),.inl (by assumption)⟩
    ·intro _;rfl
   ·split
    ·constructor
     ·intro e;exact⟨.inl (by omega),.inr ⟨by assumption,by omega⟩⟩
     ·rintro⟨-,h2|⟨h2,h3⟩⟩ <;> omega
    ·constructor
     ·intro e;omega
     ·rintro⟨-,h2|⟨h2,h3⟩⟩ <;> omega
theorem bdy_nearO {K:Nat} (hK:70000≤K) {x:Nat} {e:Int} {c:Nat} (hx:x≠0) (he : -65536≤e) (hc:0<c) (hc2:c<9218868437227405312):bdy x e 1=c↔RdO c (2*VA K x e) (UU K):=by
 rw[←rounds_nearO (UU_pos K) (VA_rounds hK hx he) hc]
 unfold bdy
 rw[if_neg hx]
 split
 ·exact Iff.rfl
 ·rw[if_neg (by decide)]
  constructor
  ·intro h;omega
  ·intro h;omega
theorem fU_bvO {a:Nat} (h:a<9223372036854775808):fU a=bv a:=by
 have hm:mag a=a:=by unfold mag;omega
 unfold fU Ie.mant Ie.lp
 rw[hm]
 by_cases c:a<4503599627370496
 ·rw[if_pos c,show(-1075+max 1 ((a / 4503599627370496:Nat):Int)+1074).toNat=0 by omega]
  have:=bv_at (j:=0) (q:=a) (.inl ⟨rfl,by omega⟩)
  simpa using this.symm
 ·rw[if_neg c,show(-1075+max 1 ((a / 4503599627370496:Nat):Int)+1074).toNat=a / 4503599627370496 - 1 by omega]
  have:=bv_at (j:=a / 4503599627370496 - 1) (q:=4503599627370496+a % 4503599627370496) (.inr ⟨by omega,by omega⟩)
  rw[show(a / 4503599627370496 - 1)*4503599627370496+(4503599627370496+a % 4503599627370496)=a by omega] at this
  exact this.symm
theorem VA_unO {N K:Nat} (hN:N≠0) (hK:1076≤K):VA K (N / 2^tz N) ((tz N:Int) - (1076:Nat))=N*2^(K - 1076):=by
 unfold VA
 rw[show((tz N:Int) - (1076:Nat)+(K:Int)).toNat=tz N+(K - 1076) by omega,Nat.pow_add,←Nat.mul_assoc,Nat.mul_comm (N / 2^tz N),(tz_spec N N (Nat.le_refl _) hN).1]
theorem UU_unO {K:Nat} (hK:1076≤K):UU K=4*2^(K - 1076):=by
 unfold UU
 rw[show K - 1074=(K - 1076)+2 by omega,Nat.pow_add]
 omega
def rnO (N:Nat):Nat:=tfF (un ((N:Nat):Int) 1076).1 true (un ((N:Nat):Int) 1076).2.1 (un ((N:Nat):Int) 1076).2.2 2
theorem near_unO {N b:Nat} (h4:4≤N) (hN:N≤2^b) (hb:b≤1670):0<rnO N∧rnO N≤9000000000000000000∧2*(bv (rnO N - 1)+bv (rnO N))≤N∧N≤2*(bv (rnO N)+bv (rnO N+1)):=by
 obtain⟨K,hK⟩:∃ K,K=70000:=⟨_,rfl⟩
 obtain⟨E,hE⟩:∃ E,E=1676:=⟨_,rfl⟩
 have e0:rnO N=bdy (N / 2^tz N) ((tz N:Int) - (1076:Nat)) 1:=by
  unfold rnO
  rw[un_posO (by omega)]
  show tfF false true (N / 2^tz N) ((tz N:Int) - (1076:Nat)) 2=_
  rw[tf_bdy (by decide)]
  rfl
 have hx:N / 2^tz N≠0:=by
  intro h
  have:=(tz_spec N N (Nat.le_refl _) (by omega)).1
  rw[h] at this
  omega
 have hVA:=VA_unO (N:=N) (K:=K) (by omega) (by omega)
 have hUU:=UU_unO (K:=K) (by omega)
 have hP:0<2^(K - 1076):=Nat.two_pow_pos _
 have lo:=bdy_mono (K:=K) (by omega) (x:=1) (y:=N / 2^tz N) (e := -1074) (f:=(tz N:Int) - (1076:Nat)) (way:=1) (by omega) (by omega) (by omega) (by
  rw[hVA]
  unfold VA
  rw[show((-1074:Int)+(K:Int)).toNat=(K - 1076)+2 by omega,Nat.pow_add,Nat.one_mul,Nat.mul_comm]
  exact Nat.mul_le_mul_right _ (by omega))
 have hi:=bdy_mono (K:=K) (by omega) (x:=N / 2^tz N) (y:=1) (e:=(tz N:Int) - (1076:Nat)) (f:=600) (way:=1) (by omega) (by omega) (by omega) (by
  rw[hVA]
  unfold VA
  rw[show((600:Int)+(K:Int)).toNat=E+(K - 1076) by omega,Nat.pow_add,Nat.one_mul]
  exact Nat.mul_le_mul_right _ (Nat.le_trans hN (Nat.pow_le_pow_right (by decide) (by omega))))
 rw[←e0] at lo hi
 have l1:bdy 1 (-1074) 1=1:=by decide +kernel
 have h1:bdy 1 600 1≤9000000000000000000:=by decide +kernel
 have c0:0<rnO N:=by omega
 have c1:rnO N≤9000000000000000000:=Nat.le_trans hi h1
 have key:=(bdy_nearO (K:=K) (by omega) (x:=N / 2^tz N) (e:=(tz N:Int) - (1076:Nat)) (c:=rnO N) hx (by omega) c0 (by omega)).1 e0.symm
 rw[hVA,hUU] at key
 clear lo hi l1 h1 hVA hUU e0 hx hN
 generalize 2^(K - 1076)=P at hP key
 unfold RdO at key
 generalize bv (rnO N - 1)+bv (rnO N)=L at key ⊢
 generalize bv (rnO N)+bv (rnO N+1)=H at key ⊢
 have a1:(2*L)*(2*P)=L*(4*P):=by rw[Nat.mul_comm 2 L,Nat.mul_assoc,←Nat.mul_assoc 2 2 P]
 have a2:(2*H)*(2*P)=H*(4*P):=by rw[Nat.mul_comm 2 H,Nat.mul_assoc,←Nat.mul_assoc 2 2 P]
 have a3:N*(2*P)=2*(N*P):=by rw[←Nat.mul_assoc,←Nat.mul_assoc,Nat.mul_comm N 2]
 refine⟨c0,c1,?_,?_⟩
 ·refine Nat.le_of_mul_le_mul_right (c:=2*P) ?_ (by omega)
  rcases key.1 with h|h <;> omega
 ·refine Nat.le_of_mul_le_mul_right (c:=2*P) ?_ (by omega)
  rcases key.2 with h|h <;> omega
theorem isqrt_exO (H:Nat):∃ R,R*R≤H∧H<(R+1)*(R+1):=by
 induction H with
 | zero=>exact⟨0,by omega,by omega⟩
 | succ n ih =>
  obtain⟨R,h1,h2⟩:=ih
  rcases Nat.lt_or_ge (n+1) ((R+1)*(R+1))with h|h
  ·exact⟨R,by omega,h⟩
  ·refine⟨R+1,h,?_⟩
   have:(R+1+1)*(R+1+1)=(R+1)*(R+1)+2*(R+1)+1:=by rw[Nat.add_mul (R+1) 1,Nat.mul_add];omega
   omega
theorem pU_addO (a b:Nat):pU (a+b)=pU a*pU b:=by unfold pU;rw[Nat.pow_add]
theorem pU_posO (a:Nat):0<pU a:=by unfold pU;exact Nat.two_pow_pos a
theorem root_ltO {K R a d k:Nat} (hK:K<2^a) (h:R*R≤K*pU d) (hk:a+d=2*k):R<2^k:=by
 refine sq_ltO ?_
 rw[←hk,Nat.pow_add]
 refine Nat.lt_of_le_of_lt h ?_
 unfold pU
 exact Nat.mul_lt_mul_of_pos_right hK (Nat.two_pow_pos d)
theorem root_midO {K R:Nat} (hK:0<K) (hKb:K<2^bU) (r1:R*R≤K*pU 1076) (r2:K*pU 1076<(R+1)*(R+1)) :
  4≤hrO R (decide (R*R=K*pU 1076))∧(∃ b,b≤1650∧hrO R (decide (R*R=K*pU 1076))<2^b)∧∃ c,c=rnO (hrO R (decide (R*R=K*pU 1076)))∧0<c∧c≤9000000000000000000∧(bv (c - 1)+bv c)*(bv (c - 1)+bv c)≤K*pU 1076∧K*pU 1076≤(bv c+bv (c+1))*(bv c+bv (c+1)):=by
 obtain⟨k,hk⟩:∃ k,k=1638:=⟨_,rfl⟩
 have hR:=root_ltO (k:=k) hKb r1 (by unfold bU;omega)
 have h4:4≤pU 1076:=by
  rw[pU_addO 1074 2]
  have:=pU_posO 1074
  rw[show pU 2=4 from rfl]
  omega
 have hH:4≤K*pU 1076:=Nat.le_trans h4 (Nat.le_mul_of_pos_left _ hK)
 generalize K*pU 1076=H at r1 r2 hH ⊢
 have hR2:2≤R:=by
  rcases Nat.lt_or_ge R 2 with h|h
  ·have:=Nat.mul_le_mul (show R+1≤2 by omega) (show R+1≤2 by omega)
   omega
  ·exact h
 have hN4:4≤hrO R (decide (R*R=H)):=by unfold hrO;split <;> omega
 have hNb:hrO R (decide (R*R=H))<2^(k+2):=by
  rw[Nat.pow_add]
  unfold hrO;split <;> omega
 have key:=near_unO hN4 (Nat.le_of_lt hNb) (by omega)
 refine⟨hN4,⟨k+2,by omega,hNb⟩,_,rfl,key.1,key.2.1,?_,?_⟩
 ·have h1:bv (rnO (hrO R (decide (R*R=H))) - 1)+bv (rnO (hrO R (decide (R*R=H))))≤R:=by
   have:=key.2.2.1
   generalize bv (rnO (hrO R (decide (R*R=H))) - 1)+bv (rnO (hrO R (decide (R*R=H))))=L at this ⊢
   unfold hrO at this
   split at this <;> omega
  exact Nat.le_trans (Nat.mul_le_mul h1 h1) r1
 ·have:=key.2.2.2
  generalize bv (rnO (hrO R (decide (R*R=H))))+bv (rnO (hrO R (decide (R*R=H)))+1)=L at this ⊢
  unfold hrO at this
  by_cases e:R*R=H
  ·rw[decide_eq_true e,if_pos rfl] at this
   have h1:R≤L:=by omega
   have:=Nat.mul_le_mul h1 h1
   omega
  ·rw[decide_eq_false e,if_neg (by decide)] at this
   have h1:R+1≤L:=by omega
   have:=Nat.mul_le_mul h1 h1
   omega
def rmO (Z:Int) (m:Int):Nat:=tfF (un Z 1076).1 true (un Z 1076).2.1 (un Z 1076).2.2 m
theorem tfF_ltO {s:Bool} {x:Nat} {e m:Int} (hm:1≤m∧m≤3):tfF s true x e m<18446744073709551616:=by
 rw[tf_bdy hm];exact(mag_sig (bdy_le _ _ _)).2.2
theorem Orounded_pr {Z Z' m:Int} {b y:Nat} {u:Value} {w:World} (hm:1≤m∧m≤3) (hb:b≤60000) (hZ:Z.natAbs<2^b) (hZ':Z'.natAbs<2^b) (hy:y<18446744073709551616) (hT:Tab32 w) (h:isPr (un Z 1076) (un Z' 1076) y w u) :
  Calls Tryz.prog 20 #[u,.int .i64 m] w fun r w'=>r=.returned (.complex .f64 (rmO Z m) (withF (rmO Z' m) y))∧Bw w w':=by
 obtain⟨s1,a1,n1,c1,e1,s2,a2,n2,c2,e2,rfl,h1,h2⟩:=h
 have o1:=ok_un (p:=1076) hZ hb (by omega)
 have o2:=ok_un (p:=1076) hZ' hb (by omega)
 exact Orounded_1 s1 a1 n1 c1 e1 s2 a2 n2 c2 e2 y _ _ _ m w (fun W hW=>pround (hT.later hW) o1 (h1.later hW) hm) (fun W hW=>pround (hT.later hW) o2 (h2.later hW) hm) (fun W=>pwith _ y (tfF_ltO hm) hy W)
theorem rmO_0 (m:Int) (hm:m=1∨m=2∨m=3):rmO 0 m=0:=by
 unfold rmO
 rw[un_0]
 rcases hm with rfl|rfl|rfl <;> decide +kernel
theorem hrO_0:hrO 0 true=0:=rfl
theorem OPrincipal_un {x y A M Hi Hr Ri Rr b e:Nat} {X Y:Int} {w:World} (he:2150=e) (hb:b≤19000) (hx:x<18446744073709551616) (hy:y<18446744073709551616) (fx:mag x<9218868437227405312) (fy:mag y<9218868437227405312)
  (eX:sU x=X) (eY:sU y=Y) (hA:X*X+Y*Y=(A:Int)) (m1:M*M≤A*pU e) (m2:A*pU e<(M+1)*(M+1)) (hXb:(X*(pU 1075:Int)).natAbs<2^b) (hMb:M<2^b)
  (hi:(M:Int)+(-X)*(pU 1075:Int)=(Hi:Int)) (hr:(M:Int)+X*(pU 1075:Int)=(Hr:Int)) (i1:Ri*Ri≤Hi) (i2:Hi<(Ri+1)*(Ri+1)) (r1:Rr*Rr≤Hr) (r2:Hr<(Rr+1)*(Rr+1)) (hT:Tab32 w) (hI:Ie.Tab w) :
  Calls Tryz.prog 5 #[.complex .f64 x y,.int .i64 2] w fun r w'=>r=.returned (.tuple #[.complex .f64 (rmO ((hrO Rr (decide (M*M=A*pU e)&&decide (Rr*Rr=Hr)):Nat):Int) 2) (withF (rmO (if cneg y then -((hrO Ri (decide (M*M=A*pU e)&&decide (Ri*Ri=Hi)):Nat):Int) else((hrO Ri (decide (M*M=A*pU e)&&decide (Ri*Ri=Hi)):Nat):Int)) 2) y),.int .i64 0])∧Bw w w':=by
 have hXn:((-X)*(pU 1075:Int)).natAbs<2^b:=by rw[Int.neg_mul,Int.natAbs_neg];exact hXb
 have bi:=int_natO (hr_ltO (decide (M*M=A*pU e)&&decide (Ri*Ri=Hi)) i1 (hr_absO hXn hMb hi))
 have br:=int_natO (hr_ltO (decide (M*M=A*pU e)&&decide (Rr*Rr=Hr)) r1 (hr_absO hXb hMb hr))
 have k:=fun W (hW:Bw w W)=>OpartsOf_un he hb hx hy fx fy eX eY hA m1 m2 hXb hMb hi hr i1 i2 r1 r2 (hT.later hW) (Tab.later hI hW)
 generalize ((hrO Rr (decide (M*M=A*pU e)&&decide (Rr*Rr=Hr)):Nat):Int)=Zr at br k ⊢
 generalize ((hrO Ri (decide (M*M=A*pU e)&&decide (Ri*Ri=Hi)):Nat):Int)=Zi at bi k ⊢
 have ei:(if cneg y then un (-Zi) 1076 else un Zi 1076)=un (if cneg y then -Zi else Zi) 1076:=by split <;> rfl
 have bi':(if cneg y then -Zi else Zi).natAbs<2^(b+2):=by
  split
  ·rw[Int.natAbs_neg];exact bi
  ·exact bi
 rw[ei] at k
 generalize (if cneg y then -Zi else Zi)=Zy at bi' k ⊢
 exact OPrincipal_1 x y _ _ y (un Zr 1076) (un Zy 1076) w (fun W _=>Oof hx hy fx fy (by decide) W) k (fun W u hW hu=>Orounded_pr (by decide) (by omega) br bi' hy (hT.later hW) hu)
theorem rnO_rm (N:Nat):rmO ((N:Nat):Int) 2=rnO N:=rfl
theorem mul_pUO {K a d:Nat} (h:K<2^a):K*pU d<2^(a+d):=by
 rw[Nat.pow_add];unfold pU
 exact Nat.mul_lt_mul_of_pos_right h (Nat.two_pow_pos _)
theorem withF_0O:withF 0 0=0:=by decide +kernel
theorem withF_cO {c:Nat} (h:c≤9000000000000000000):withF c 0=c:=by
 have hm:mag c=c:=by unfold mag;omega
 unfold withF
 rw[show isNaN c=false by unfold isNaN;rw[hm];exact decide_eq_false (by omega),show isNaN 0=false by decide,hm]
 rfl
theorem OPrincipal_f {f:Nat} (h0:0<f) (hf:f<9218868437227405312):∃ c,0<c∧c≤9000000000000000000∧(bv (c - 1)+bv c)*(bv (c - 1)+bv c)≤bv f*pU 1076∧bv f*pU 1076≤(bv c+bv (c+1))*(bv c+bv (c+1)) ∧
  (∀ w,Tab32 w→Ie.Tab w→Calls Tryz.prog 5 #[.complex .f64 f 0,.int .i64 2] w fun r w'=>r=.returned (.tuple #[.complex .f64 c 0,.int .i64 0])∧Bw w w') ∧
  (∀ w,Tab32 w→Ie.Tab w→Calls Tryz.prog 5 #[.complex .f64 (ngt f) 0,.int .i64 2] w fun r w'=>r=.returned (.tuple #[.complex .f64 0 c,.int .i64 0])∧Bw w w'):=by
 obtain⟨e,he⟩:∃ e,2150=e:=⟨_,rfl⟩
 have hmf:mag f=f:=by unfold mag;omega
 have hnf:neg f=false:=by unfold neg;exact decide_eq_false (by omega)
 have hU:=fU_bvO (a:=f) (by omega)
 have hK0:0<bv f:=by
  have:=bv_lt (show 0<f from h0)
  omega
 have hKb:bv f<2^bU:=by rw[←hU];exact fU_lt f
 have eX:sU f=((bv f:Nat):Int):=by rw[sU_pos hnf,hU]
 have eXn:sU (ngt f) = -((bv f:Nat):Int):=by rw[sU_ngtO (by omega),eX]
 have eY:sU 0=0:=by decide +kernel
 generalize bv f=K at hK0 hKb eX eXn ⊢
 obtain⟨R,r1,r2⟩:=isqrt_exO (K*pU 1076)
 obtain⟨n4,⟨b1,-,nb⟩,c,hc,c0,c1,q1,q2⟩:=root_midO hK0 hKb r1 r2
 have p2:pU 1076=2*pU 1075:=by rw[pU_addO 1075 1,show pU 1=2 from rfl];omega
 have p4:pU e=pU 1075*pU 1075:=by rw[←he,←pU_addO]
 have mm:(K*pU 1075)*(K*pU 1075)=(K*K)*pU e:=by
  rw[p4,Nat.mul_assoc,←Nat.mul_assoc (pU 1075) K,Nat.mul_comm (pU 1075) K,Nat.mul_assoc K (pU 1075),←Nat.mul_assoc]
 have hMb:K*pU 1075<2^(bU+1075):=mul_pUO hKb
 have hXb:(((K:Nat):Int)*(pU 1075:Int)).natAbs<2^(bU+1075):=by rw[←Int.natCast_mul,Int.natAbs_natCast];exact hMb
 have hXn:((-((K:Nat):Int))*(pU 1075:Int)).natAbs<2^(bU+1075):=by rw[Int.neg_mul,Int.natAbs_neg];exact hXb
 have hA:((K:Nat):Int)*((K:Nat):Int)+0*0=((K*K:Nat):Int):=by rw[Int.natCast_mul];omega
 have hAn:(-((K:Nat):Int))*(-((K:Nat):Int))+0*0=((K*K:Nat):Int):=by rw[Int.neg_mul_neg];exact hA
 have m2:(K*K)*pU e<(K*pU 1075+1)*(K*pU 1075+1):=by
  rw[←mm]
  exact Nat.mul_lt_mul'' (Nat.lt_succ_self _) (Nat.lt_succ_self _)
 have s0:((K*pU 1075:Nat):Int)+(-((K:Nat):Int))*(pU 1075:Int)=((0:Nat):Int):=by rw[Int.natCast_mul,Int.neg_mul];omega
 have sN:K*pU 1075+K*pU 1075=K*pU 1076:=by rw[p2,Nat.mul_left_comm,Nat.two_mul]
 have s2:((K*pU 1075:Nat):Int)+((K:Nat):Int)*(pU 1075:Int)=((K*pU 1076:Nat):Int):=by
  rw[←Int.natCast_mul,←Int.natCast_add,sN]
 have s2n:((K*pU 1075:Nat):Int)+(-(-((K:Nat):Int)))*(pU 1075:Int)=((K*pU 1076:Nat):Int):=by rw[Int.neg_neg];exact s2
 have hbU:bU+1075≤19000:=by unfold bU;omega
 have cy:cneg 0=false:=by decide +kernel
 have d1:decide ((K*pU 1075)*(K*pU 1075)=(K*K)*pU e)=true:=decide_eq_true mm
 refine⟨c,c0,c1,q1,q2,fun w hT hI=>?_,fun w hT hI=>?_⟩
 ·have key:=OPrincipal_un (x:=f) (y:=0) (A:=K*K) (M:=K*pU 1075) (Hi:=0) (Hr:=K*pU 1076) (Ri:=0) (Rr:=R) he hbU (by omega) (by decide) (by omega) (by decide) eX eY hA (Nat.le_of_eq mm) m2 hXb hMb s0 s2 (by omega) (by omega) r1 r2 hT hI
  rw[cy,d1,Bool.true_and,Bool.true_and,if_neg (by decide),show decide (0*0=0)=true from rfl,hrO_0,rnO_rm (hrO R (decide (R*R=K*pU 1076))),←hc,show rmO ((0:Nat):Int) 2=0 from rmO_0 2 (by omega),withF_0O] at key
  exact key
 ·have key:=OPrincipal_un (x:=ngt f) (y:=0) (A:=K*K) (M:=K*pU 1075) (Hi:=K*pU 1076) (Hr:=0) (Ri:=R) (Rr:=0) he hbU (ngt_lt (by omega)) (by decide) (by rw[ngt_mag (by omega)];omega) (by decide) eXn eY hAn (Nat.le_of_eq mm) m2 hXn hMb s2n s0 r1 r2 (by omega) (by omega) hT hI
  rw[cy,d1,Bool.true_and,Bool.true_and,if_neg (by decide),show decide (0*0=0)=true from rfl,hrO_0,rnO_rm (hrO R (decide (R*R=K*pU 1076))),←hc,show rmO ((0:Nat):Int) 2=0 from rmO_0 2 (by omega),withF_cO c1] at key
  exact key
theorem nan_no {F:Nat} (h:F≤9218868437227405312) (w:World):Calls Tryz.prog 23 #[.float .f64 F] w fun e w'=>e=.returned (.bool false)∧w'=w:=by
 have h1:=self_ne F (by omega)
 have h2:isNaN F=false:=by unfold isNaN mag;exact decide_eq_false (by omega)
 rw[h2] at h1
 go_enter Tryz.func23,Tryz.ntmps23
 go_wp2
 go_ret
 exact⟨rfl,rfl⟩
theorem eq_posO {a b:Nat} (ha:a≤9218868437227405312) (hb:b≤9218868437227405312):eq a b=decide (a=b):=by
 have h1:isNaN a=false:=by unfold isNaN mag;exact decide_eq_false (by omega)
 have h2:isNaN b=false:=by unfold isNaN mag;exact decide_eq_false (by omega)
 have e1:=stp_posO ha
 have e2:=stp_posO hb
 unfold eq
 rw[h1,h2,e1,e2]
 by_cases h:a=b
 ·rw[decide_eq_true h,decide_eq_true (by omega)];rfl
 ·rw[decide_eq_false h,decide_eq_false (by omega)];rfl
theorem Onext_up {a:Nat} (h0:0<a) (h:a≤9000000000000000000) (w:World):Calls Tryz.prog 7 #[.float .f64 a,.float .f64 9218868437227405312] w fun r w'=>r=.returned (.float .f64 (a+1))∧w'=w:=by
 have kn1:=nan_no (F:=a) (by omega)
 have kn2:=nan_no (F:=9218868437227405312) (by omega)
 have kb:=Ie.run_bits
 have kf:=Ie.run_frombits
 have o1:=ord_eq a 9218868437227405312 (by omega) (by decide)
 rw[eq_posO (by omega) (by omega),decide_eq_false (by omega)] at o1
 have o2:=ord_eq a 0 (by omega) (by decide)
 rw[eq_posO (by omega) (by omega),decide_eq_false (by omega)] at o2
 have o3:=ord_gt 9218868437227405312 a (by decide) (by omega)
 rw[lt_posO (by omega) (by omega),decide_eq_true (by omega)] at o3
 have o4:=ord_gt a 0 (by omega) (by decide)
 rw[lt_posO (by omega) (by omega),decide_eq_true (by omega)] at o4
 have hw1:IntKind.u64.wrap ((a:Int)+1)=((a+1:Nat):Int):=by rw[IntKind.wrap_u64];omega
 clear h0 h
 go_enter Tryz.func7,Tryz.ntmps7
 go_wp2_with (first|(go_at_call 23;first|(with_reducible refine(kn1 _).mono ?_;rintro r w' ⟨rfl,hw⟩;replace hw:=hw.symm;subst hw)|(with_reducible refine(kn2 _).mono ?_;rintro r w' ⟨rfl,hw⟩;replace hw:=hw.symm;subst hw)))
 go_ret
 exact⟨by simp,rfl⟩
theorem Onext_dn {a:Nat} (h0:0<a) (h:a≤9000000000000000000) (w:World):Calls Tryz.prog 7 #[.float .f64 a,.float .f64 0] w fun r w'=>r=.returned (.float .f64 (a - 1))∧w'=w:=by
 have kn1:=nan_no (F:=a) (by omega)
 have kn2:=nan_no (F:=0) (by omega)
 have kb:=Ie.run_bits
 have kf:=Ie.run_frombits
 have o2:=ord_eq a 0 (by omega) (by decide)
 rw[eq_posO (by omega) (by omega),decide_eq_false (by omega)] at o2
 have o3:=ord_gt 0 a (by decide) (by omega)
 rw[lt_posO (by omega) (by omega),decide_eq_false (by omega)] at o3
 have o4:=ord_gt a 0 (by omega) (by decide)
 rw[lt_posO (by omega) (by omega),decide_eq_true (by omega)] at o4
 have hw1:IntKind.u64.wrap ((a:Int) - 1)=((a - 1:Nat):Int):=by rw[IntKind.wrap_u64];omega
 have ht:((a - 1:Nat):Int).toNat=a - 1:=by omega
 clear h0 h
 go_enter Tryz.func7,Tryz.ntmps7
 go_wp2_with (first|(go_at_call 23;first|(with_reducible refine(kn1 _).mono ?_;rintro r w' ⟨rfl,hw⟩;replace hw:=hw.symm;subst hw)|(with_reducible refine(kn2 _).mono ?_;rintro r w' ⟨rfl,hw⟩;replace hw:=hw.symm;subst hw)))
 go_ret
 exact⟨rfl,rfl⟩
def OutE (W:World) (t:Bool×Nat×Int) (r:Ending) (w':World):Prop:=∃ s ao n cp e,r=.returned (.agg #[.bool s,.slice ao n cp,.int .i64 e])∧DN w' (.agg #[.bool s,.slice ao n cp,.int .i64 e]) t∧Bw W w'
def NbE (W:World) (g:Nat) (s:Bool) (ao:Option Addr) (n cp:Nat) (e:Int) (T:Bool×Nat×Int):Prop:=W.heap[g]?=some (.cells #[.bool s,.slice ao n cp,.int .i64 e] 30 (0,0))∧DN W (.agg #[.bool s,.slice ao n cp,.int .i64 e]) T
theorem NbE.later {W W':World} {g:Nat} {s:Bool} {ao:Option Addr} {n cp:Nat} {e:Int} {T:Bool×Nat×Int} (h:NbE W g s ao n cp e T) (hb:Bw W W'):NbE W' g s ao n cp e T :=
 ⟨(hb.block _ (Array.getElem?_eq_some_iff.1 h.1).1).trans h.1,h.2.later hb⟩
theorem NbE.new {u:World} {s:Bool} {ao:Option Addr} {n cp:Nat} {e:Int} {T:Bool×Nat×Int} (h:DN u (.agg #[.bool s,.slice ao n cp,.int .i64 e]) T):NbE (u.alloc (.cells #[.bool s,.slice ao n cp,.int .i64 e] 30)) u.heap.size s ao n cp e T :=
 ⟨heap_alloc_new _ _,h.later ((Below.refl _ _).alloc (Nat.le_refl _) _)⟩
theorem NbE.cells {W:World} {g:Nat} {s:Bool} {ao:Option Addr} {n cp:Nat} {e:Int} {T:Bool×Nat×Int} (h:NbE W g s ao n cp e T):W.cell? ⟨g,0,none⟩=some (.bool s)∧W.cell? ⟨g,1,none⟩=some (.slice ao n cp)∧W.cell? ⟨g,2,none⟩=some (.int .i64 e):=by
 have:=h.1
 simp[World.cell?,this]
theorem L18_out (f:Nat) (w:World) (hf:((FloatKind.f64.format.order f 0==some Ordering.gt)&&(FloatKind.f64.format.order f 9218868437227405311==some Ordering.lt||FloatKind.f64.format.order f 9218868437227405311==some Ordering.eq))=false)
  (k4:Hid (∀ W,Bw w W→Calls Tryz.prog 4 #[] W fun r w'=>r=.returned (.bool true)∧Bw W w')) :
  Calls Tryz.prog 3 #[.float .f64 f] w fun r w'=>r=.returned (.bool true)∧Bw w w':=by
 have kk:=k4.out w (Below.refl _ _)
 cases h1:(FloatKind.f64.format.order f 0==some Ordering.gt)
 ·go_enter Tryz.func3,Tryz.ntmps3
  go_wp2_with fail
  refine kk.mono ?_
  rintro r w' ⟨rfl,hb⟩
  go_wp2_with fail
  go_ret
  exact⟨rfl,hb⟩
 ·rw[h1,Bool.true_and] at hf
  go_enter Tryz.func3,Tryz.ntmps3
  go_wp2_with fail
  refine kk.mono ?_
  rintro r w' ⟨rfl,hb⟩
  go_wp2_with fail
  go_ret
  exact⟨rfl,hb⟩
theorem L18_in (f c : Nat) (tV tU tD tF' tP tQ tH tL tH2 tL2 : Bool × Nat × Int) (i1 i2 : Int) (hi1 : decide (i1 ≤ 0) = true) (hi2 : decide (i2 ≤ 0) = true) (w : World) (hn : ∀ W, (Op.unary UnOp.neg (Value.float .f64 f)).run Tryz.prog W = .ok (Value.float .f64 (ngt f)) W)
    (o1 : (FloatKind.f64.format.order f 0 == some Ordering.gt) = true) (o2 : (FloatKind.f64.format.order f 9218868437227405311 == some Ordering.lt || FloatKind.f64.format.order f 9218868437227405311 == some Ordering.eq) = true)
    (o3 : (FloatKind.f64.format.order c 0 == some Ordering.gt) = true) (o4 : (FloatKind.f64.format.order c c != some Ordering.eq) = false) (o5 : (FloatKind.f64.format.order 0 0 != some Ordering.eq) = false)
    (k1 : Hid (∀ W, Bw w W → Calls Tryz.prog 5 #[.complex .f64 f 0, .int .i64 2] W fun r w' => r = .returned (.tuple #[.complex .f64 c 0, .int .i64 0]) ∧ Bw W w'))
    (k2 : Hid (∀ W, Bw w W → Calls Tryz.prog 5 #[.complex .f64 (ngt f) 0, .int .i64 2] W fun r w' => r = .returned (.tuple #[.complex .f64 0 c, .int .i64 0]) ∧ Bw W w'))
    (kN1 : Hid (∀ W, Calls Tryz.prog 7 #[.float .f64 c, .float .f64 9218868437227405312] W fun r w' => r = .returned (.float .f64 (c + 1)) ∧ w' = W))
    (kN2 : Hid (∀ W, Calls Tryz.prog 7 #[.float .f64 c, .float .f64 0] W fun r w' => r = .returned (.float .f64 (c - 1)) ∧ w' = W))
    (kV : Hid (∀ W, Calls Tryz.prog 6 #[.float .f64 c] W fun r w' => OutE W tV r w'))
    (kU : Hid (∀ W, Calls Tryz.prog 6 #[.float .f64 (c + 1)] W fun r w' => OutE W tU r w'))
    (kD : Hid (∀ W, Calls Tryz.prog 6 #[.float .f64 (c - 1)] W fun r w' => OutE W tD r w'))
    (kF : Hid (∀ W, Calls Tryz.prog 6 #[.float .f64 f] W fun r w' => OutE W tF' r w'))
    (kP : Hid (∀ W X Y, DN W X tV → DN W Y tU → Calls Tryz.prog 10 #[X, Y] W fun r w' => OutE W tP r w'))
    (kQ : Hid (∀ W X Y, DN W X tV → DN W Y tD → Calls Tryz.prog 10 #[X, Y] W fun r w' => OutE W tQ r w'))
    (kS1 : Hid (∀ W X, DN W X tP → Calls Tryz.prog 9 #[X, .int .i64 (-1)] W fun r w' => OutE W tH r w'))
    (kS2 : Hid (∀ W X, DN W X tQ → Calls Tryz.prog 9 #[X, .int .i64 (-1)] W fun r w' => OutE W tL r w'))
    (kT1 : Hid (∀ W X, DN W X tL → Calls Tryz.prog 12 #[X, X] W fun r w' => OutE W tL2 r w'))
    (kT2 : Hid (∀ W X, DN W X tH → Calls Tryz.prog 12 #[X, X] W fun r w' => OutE W tH2 r w'))
    (kO1 : Hid (∀ W X Y, DN W X tL2 → DN W Y tF' → Calls Tryz.prog 11 #[X, Y] W fun r w' => r = .returned (.int .i64 i1) ∧ Bw W w'))
    (kO2 : Hid (∀ W X Y, DN W X tF' → DN W Y tH2 → Calls Tryz.prog 11 #[X, Y] W fun r w' => r = .returned (.int .i64 i2) ∧ Bw W w'))
    (k4 : Hid (∀ W, Bw w W → Calls Tryz.prog 4 #[] W fun r w' => r = .returned (.bool true) ∧ Bw W w')) :
    Calls Tryz.prog 3 #[.float .f64 f] w fun r w' => r = .returned (.bool true) ∧ Bw w w' := by
  have kI := c61
  have HN : Hid (∀ W, (Op.unary UnOp.neg (Value.float .f64 f)).run Tryz.prog W = .ok (Value.float .f64 (ngt f)) W) := hn
  go_enter Tryz.func3, Tryz.ntmps3
  go_wp2_with fail
  refine (k1.out w (Below.refl _ _)).mono ?_
  rintro r w1 ⟨rfl, hb1⟩
  have H1 : Hid (Bw w w1) := hb1
  clear hb1 k1
  go_wp2_with fail
  refine (k2.out w1 H1.out).mono ?_
  rintro r w2 ⟨rfl, hb1⟩
  have H0 : Hid (Bw w w2) := H1.out.trans (hb1.mono H1.out.size)
  clear hb1 k2 H1
  have kk := kV.out w2
  go_wp2_with fail
  refine kk.mono ?_
  rintro r v1 ⟨s7, ao7, n7, cp7, e7, rfl, hA, hb1⟩
  obtain ⟨W1, hW1⟩ : ∃ V, V = v1.alloc (.cells #[.bool s7, .slice ao7 n7 cp7, .int .i64 e7] 30) := ⟨_, rfl⟩
  obtain ⟨gx7, hgx7⟩ : ∃ g, g = v1.heap.size := ⟨_, rfl⟩
  have hb2 : Bw w2 W1 := by rw [hW1]; exact hb1.alloc hb1.size _
  have HB1 : Hid (Bw w W1 ∧ NbE W1 gx7 s7 ao7 n7 cp7 e7 tV) := ⟨H0.out.trans (hb2.mono H0.out.size), (by rw [hW1, hgx7]; exact NbE.new hA)⟩
  clear kk hA hb1 hb2 H0
  go_upto_region 8 with fail
  rw [← hW1, ← hgx7]
  clear hW1 hgx7
  go_wp2_with fail
  refine (kI _).mono ?_
  rintro r w' ⟨rfl, hw⟩
  replace hw := hw.symm
  subst hw
  go_wp2_with fail
  refine (kN1.out _).mono ?_
  rintro r w' ⟨rfl, hw⟩
  replace hw := hw.symm
  subst hw
  have kk := kU.out W1
  go_wp2_with fail
  refine kk.mono ?_
  rintro r v2 ⟨s8, ao8, n8, cp8, e8, rfl, hA, hb1⟩
  obtain ⟨W2, hW2⟩ : ∃ V, V = v2.alloc (.cells #[.bool s8, .slice ao8 n8 cp8, .int .i64 e8] 30) := ⟨_, rfl⟩
  obtain ⟨gx8, hgx8⟩ : ∃ g, g = v2.heap.size := ⟨_, rfl⟩
  have hb2 : Bw W1 W2 := by rw [hW2]; exact hb1.alloc hb1.size _
  have HB2 : Hid (Bw w W2 ∧ NbE W2 gx7 s7 ao7 n7 cp7 e7 tV ∧ NbE W2 gx8 s8 ao8 n8 cp8 e8 tU) := ⟨HB1.out.1.trans (hb2.mono HB1.out.1.size), HB1.out.2.later hb2, (by rw [hW2, hgx8]; exact NbE.new hA)⟩
  clear kk hA hb1 hb2 HB1
  go_upto_region 9 with fail
  rw [← hW2, ← hgx8]
  clear hW2 hgx8
  go_wp2_with fail
  refine (kN2.out _).mono ?_
  rintro r w' ⟨rfl, hw⟩
  replace hw := hw.symm
  subst hw
  have kk := kD.out W2
  go_wp2_with fail
  refine kk.mono ?_
  rintro r v3 ⟨s9, ao9, n9, cp9, e9, rfl, hA, hb1⟩
  obtain ⟨W3, hW3⟩ : ∃ V, V = v3.alloc (.cells #[.bool s9, .slice ao9 n9 cp9, .int .i64 e9] 30) := ⟨_, rfl⟩
  obtain ⟨gx9, hgx9⟩ : ∃ g, g = v3.heap.size := ⟨_, rfl⟩
  have hb2 : Bw W2 W3 := by rw [hW3]; exact hb1.alloc hb1.size _
  have HB3 : Hid (Bw w W3 ∧ NbE W3 gx7 s7 ao7 n7 cp7 e7 tV ∧ NbE W3 gx8 s8 ao8 n8 cp8 e8 tU ∧ NbE W3 gx9 s9 ao9 n9 cp9 e9 tD) := ⟨HB2.out.1.trans (hb2.mono HB2.out.1.size), HB2.out.2.1.later hb2, HB2.out.2.2.later hb2, (by rw [hW3, hgx9]; exact NbE.new hA)⟩
  clear kk hA hb1 hb2 HB2
  go_upto_region 10 with fail
  rw [← hW3, ← hgx9]
  clear hW3 hgx9
  have kk := kF.out W3
  go_wp2_with fail
  refine kk.mono ?_
  rintro r v4 ⟨s10, ao10, n10, cp10, e10, rfl, hA, hb1⟩
  obtain ⟨W4, hW4⟩ : ∃ V, V = v4.alloc (.cells #[.bool s10, .slice ao10 n10 cp10, .int .i64 e10] 30) := ⟨_, rfl⟩
  obtain ⟨gx10, hgx10⟩ : ∃ g, g = v4.heap.size := ⟨_, rfl⟩
  have hb2 : Bw W3 W4 := by rw [hW4]; exact hb1.alloc hb1.size _
  have HB4 : Hid (Bw w W4 ∧ NbE W4 gx7 s7 ao7 n7 cp7 e7 tV ∧ NbE W4 gx8 s8 ao8 n8 cp8 e8 tU ∧ NbE W4 gx9 s9 ao9 n9 cp9 e9 tD ∧ NbE W4 gx10 s10 ao10 n10 cp10 e10 tF') := ⟨HB3.out.1.trans (hb2.mono HB3.out.1.size), HB3.out.2.1.later hb2, HB3.out.2.2.1.later hb2, HB3.out.2.2.2.later hb2, (by rw [hW4, hgx10]; exact NbE.new hA)⟩
  clear kk hA hb1 hb2 HB3
  go_upto_region 11 with fail
  rw [← hW4, ← hgx10]
  clear hW4 hgx10
  obtain ⟨y70, y71, y72⟩ := HB4.out.2.1.cells
  obtain ⟨y80, y81, y82⟩ := HB4.out.2.2.1.cells
  have kk := kP.out W4 _ _ HB4.out.2.1.2 HB4.out.2.2.1.2
  go_wp2_with fail
  refine kk.mono ?_
  rintro r u11 ⟨s, ao, n, cp, e, rfl, hA, hb0⟩
  have HC : Hid (DN u11 (.agg #[.bool s, .slice ao n cp, .int .i64 e]) tP ∧ Bw W4 u11) := ⟨hA, hb0⟩
  clear kk hA hb0 y70 y71 y72 y80 y81 y82
  have kk : Calls Tryz.prog 9 #[.agg #[.bool s, .slice ao n cp, .int .i64 e], .int .i64 (-1)] u11 fun r w' => OutE W4 tH r w' := (kS1.out u11 _ HC.out.1).mono fun r w' ⟨s, ao, n, cp, e, h1, h2, h3⟩ => ⟨s, ao, n, cp, e, h1, h2, HC.out.2.trans (h3.mono HC.out.2.size)⟩
  go_wp2_with fail
  refine kk.mono ?_
  rintro r v5 ⟨s11, ao11, n11, cp11, e11, rfl, hA, hb1⟩
  obtain ⟨W5, hW5⟩ : ∃ V, V = v5.alloc (.cells #[.bool s11, .slice ao11 n11 cp11, .int .i64 e11] 30) := ⟨_, rfl⟩
  obtain ⟨gx11, hgx11⟩ : ∃ g, g = v5.heap.size := ⟨_, rfl⟩
  have hb2 : Bw W4 W5 := by rw [hW5]; exact hb1.alloc hb1.size _
  have HB5 : Hid (Bw w W5 ∧ NbE W5 gx7 s7 ao7 n7 cp7 e7 tV ∧ NbE W5 gx8 s8 ao8 n8 cp8 e8 tU ∧ NbE W5 gx9 s9 ao9 n9 cp9 e9 tD ∧ NbE W5 gx10 s10 ao10 n10 cp10 e10 tF' ∧ NbE W5 gx11 s11 ao11 n11 cp11 e11 tH) := ⟨HB4.out.1.trans (hb2.mono HB4.out.1.size), HB4.out.2.1.later hb2, HB4.out.2.2.1.later hb2, HB4.out.2.2.2.1.later hb2, HB4.out.2.2.2.2.later hb2, (by rw [hW5, hgx11]; exact NbE.new hA)⟩
  clear kk hA hb1 hb2 HB4
  clear HC
  go_upto_region 12 with fail
  rw [← hW5, ← hgx11]
  clear hW5 hgx11
  obtain ⟨y70, y71, y72⟩ := HB5.out.2.1.cells
  obtain ⟨y90, y91, y92⟩ := HB5.out.2.2.2.1.cells
  have kk := kQ.out W5 _ _ HB5.out.2.1.2 HB5.out.2.2.2.1.2
  go_wp2_with fail
  refine kk.mono ?_
  rintro r u12 ⟨s, ao, n, cp, e, rfl, hA, hb0⟩
  have HC : Hid (DN u12 (.agg #[.bool s, .slice ao n cp, .int .i64 e]) tQ ∧ Bw W5 u12) := ⟨hA, hb0⟩
  clear kk hA hb0 y70 y71 y72 y90 y91 y92
  have kk : Calls Tryz.prog 9 #[.agg #[.bool s, .slice ao n cp, .int .i64 e], .int .i64 (-1)] u12 fun r w' => OutE W5 tL r w' := (kS2.out u12 _ HC.out.1).mono fun r w' ⟨s, ao, n, cp, e, h1, h2, h3⟩ => ⟨s, ao, n, cp, e, h1, h2, HC.out.2.trans (h3.mono HC.out.2.size)⟩
  go_wp2_with fail
  refine kk.mono ?_
  rintro r v6 ⟨s12, ao12, n12, cp12, e12, rfl, hA, hb1⟩
  obtain ⟨W6, hW6⟩ : ∃ V, V = v6.alloc (.cells #[.bool s12, .slice ao12 n12 cp12, .int .i64 e12] 30) := ⟨_, rfl⟩
  obtain ⟨gx12, hgx12⟩ : ∃ g, g = v6.heap.size := ⟨_, rfl⟩
  have hb2 : Bw W5 W6 := by rw [hW6]; exact hb1.alloc hb1.size _
  have HB6 : Hid (Bw w W6 ∧ NbE W6 gx7 s7 ao7 n7 cp7 e7 tV ∧ NbE W6 gx8 s8 ao8 n8 cp8 e8 tU ∧ NbE W6 gx9 s9 ao9 n9 cp9 e9 tD ∧ NbE W6 gx10 s10 ao10 n10 cp10 e10 tF' ∧ NbE W6 gx11 s11 ao11 n11 cp11 e11 tH ∧ NbE W6 gx12 s12 ao12 n12 cp12 e12 tL) := ⟨HB5.out.1.trans (hb2.mono HB5.out.1.size), HB5.out.2.1.later hb2, HB5.out.2.2.1.later hb2, HB5.out.2.2.2.1.later hb2, HB5.out.2.2.2.2.1.later hb2, HB5.out.2.2.2.2.2.later hb2, (by rw [hW6, hgx12]; exact NbE.new hA)⟩
  clear kk hA hb1 hb2 HB5
  clear HC
  go_upto_region 13 with fail
  rw [← hW6, ← hgx12]
  clear hW6 hgx12
  have HK : Hid (∀ w', Bw W6 w' → (w'.cell? ⟨gx12, 0, none⟩ = some (.bool s12) ∧ w'.cell? ⟨gx12, 1, none⟩ = some (.slice ao12 n12 cp12) ∧ w'.cell? ⟨gx12, 2, none⟩ = some (.int .i64 e12)) ∧ (w'.cell? ⟨gx10, 0, none⟩ = some (.bool s10) ∧ w'.cell? ⟨gx10, 1, none⟩ = some (.slice ao10 n10 cp10) ∧ w'.cell? ⟨gx10, 2, none⟩ = some (.int .i64 e10)) ∧ (w'.cell? ⟨gx11, 0, none⟩ = some (.bool s11) ∧ w'.cell? ⟨gx11, 1, none⟩ = some (.slice ao11 n11 cp11) ∧ w'.cell? ⟨gx11, 2, none⟩ = some (.int .i64 e11))) := fun w' hb => ⟨(HB6.out.2.2.2.2.2.2.later hb).cells, (HB6.out.2.2.2.2.1.later hb).cells, (HB6.out.2.2.2.2.2.1.later hb).cells⟩
  have q1 : ∀ W', Bw W6 W' → Calls Tryz.prog 12 #[.agg #[.bool s12, .slice ao12 n12 cp12, .int .i64 e12], .agg #[.bool s12, .slice ao12 n12 cp12, .int .i64 e12]] W' fun r w' => ∃ s ao n cp e, r = .returned (.agg #[.bool s, .slice ao n cp, .int .i64 e]) ∧ DN w' (.agg #[.bool s, .slice ao n cp, .int .i64 e]) tL2 ∧ Bw W6 w' := fun W' h => (kT1.out W' _ (HB6.out.2.2.2.2.2.2.2.later h)).mono fun r w' ⟨s, ao, n, cp, e, h1, h2, h3⟩ => ⟨s, ao, n, cp, e, h1, h2, h.trans (h3.mono h.size)⟩
  have q2 : ∀ W' X, Bw W6 W' → DN W' X tL2 → Calls Tryz.prog 11 #[X, .agg #[.bool s10, .slice ao10 n10 cp10, .int .i64 e10]] W' fun r w' => r = .returned (.int .i64 i1) ∧ Bw W6 w' := fun W' X h hX => (kO1.out W' _ _ hX (HB6.out.2.2.2.2.1.2.later h)).mono fun r w' ⟨h1, h3⟩ => ⟨h1, h.trans (h3.mono h.size)⟩
  have q3 : ∀ W', Bw W6 W' → Calls Tryz.prog 12 #[.agg #[.bool s11, .slice ao11 n11 cp11, .int .i64 e11], .agg #[.bool s11, .slice ao11 n11 cp11, .int .i64 e11]] W' fun r w' => ∃ s ao n cp e, r = .returned (.agg #[.bool s, .slice ao n cp, .int .i64 e]) ∧ DN w' (.agg #[.bool s, .slice ao n cp, .int .i64 e]) tH2 ∧ Bw W6 w' := fun W' h => (kT2.out W' _ (HB6.out.2.2.2.2.2.1.2.later h)).mono fun r w' ⟨s, ao, n, cp, e, h1, h2, h3⟩ => ⟨s, ao, n, cp, e, h1, h2, h.trans (h3.mono h.size)⟩
  have q4 : ∀ W' X, Bw W6 W' → DN W' X tH2 → Calls Tryz.prog 11 #[.agg #[.bool s10, .slice ao10 n10 cp10, .int .i64 e10], X] W' fun r w' => r = .returned (.int .i64 i2) ∧ Bw W6 w' := fun W' X h hX => (kO2.out W' _ _ (HB6.out.2.2.2.2.1.2.later h) hX).mono fun r w' ⟨h1, h3⟩ => ⟨h1, h.trans (h3.mono h.size)⟩
  have q5 : ∀ W', Bw W6 W' → Calls Tryz.prog 4 #[] W' fun r w' => r = .returned (.bool true) ∧ Bw W6 w' := fun W' h => (k4.out W' (HB6.out.1.trans (h.mono HB6.out.1.size))).mono fun r w' ⟨h1, h3⟩ => ⟨h1, h.trans (h3.mono h.size)⟩
  have hRr : Bw W6 W6.drew := (Below.refl _ _).drew
  obtain ⟨⟨y0, y1, y2⟩, ⟨y3, y4, y5⟩, y6, y7, y8⟩ := HK.out W6 (Below.refl _ _)
  have HZ : Hid (Bw w W6) := HB6.out.1
  clear HB6 kT1 kT2 kO1 kO2 k4 kI HN hn o1 o2 o3 o4 o5 kN1 kN2 kV kU kD kF kP kQ kS1 kS2
  go_region_held3 (fun w' => (w'.cell? ⟨gx12, 0, none⟩ = some (.bool s12) ∧ w'.cell? ⟨gx12, 1, none⟩ = some (.slice ao12 n12 cp12) ∧ w'.cell? ⟨gx12, 2, none⟩ = some (.int .i64 e12)) ∧ (w'.cell? ⟨gx10, 0, none⟩ = some (.bool s10) ∧ w'.cell? ⟨gx10, 1, none⟩ = some (.slice ao10 n10 cp10) ∧ w'.cell? ⟨gx10, 2, none⟩ = some (.int .i64 e10)) ∧ (w'.cell? ⟨gx11, 0, none⟩ = some (.bool s11) ∧ w'.cell? ⟨gx11, 1, none⟩ = some (.slice ao11 n11 cp11) ∧ w'.cell? ⟨gx11, 2, none⟩ = some (.int .i64 e11))) (first | (with_reducible assumption) | exact HK.out _ hRr | (refine HK.out _ ?_; with_reducible assumption))
    (first | (go_at_call 12; with_reducible refine (q1 _ hRr).mono ?_; rintro r x1 ⟨s1, ao1, n1, cp1, e1, rfl, hA1, hx1⟩)
           | (go_at_call 11; with_reducible refine (q2 _ _ hx1 hA1).mono ?_; rintro r x2 ⟨rfl, hx2⟩)
           | (go_at_call 12; with_reducible refine (q3 _ hx2).mono ?_; rintro r x3 ⟨s3, ao3, n3, cp3, e3, rfl, hA3, hx3⟩)
           | (go_at_call 11; with_reducible refine (q4 _ _ hx3 hA3).mono ?_; rintro r x4 ⟨rfl, hx4⟩)
           | (go_at_call 4; with_reducible refine (q5 _ hx4).mono ?_; rintro r x5 ⟨rfl, hx5⟩))
  go_wp2_with fail
  go_ret
  exact ⟨rfl, HZ.out.trans (hx5.mono HZ.out.size)⟩
theorem toE {f:FuncId} {vs:Array Value} {W:World} {t:Bool×Nat×Int} (h:Calls Tryz.prog f vs W fun r w'=>∃ A,r=.returned A∧DN w' A t∧Bw W w'):Calls Tryz.prog f vs W fun r w'=>OutE W t r w' :=
 h.mono fun r w' ⟨A,h1,h2,h3⟩=>by
  obtain⟨s,ao,n,cp,e,rfl⟩:=h2.shape
  exact⟨s,ao,n,cp,e,h1,h2,h3⟩
theorem floatE {a:Nat} (ha:a≤9218868437227405312) (W:World):Calls Tryz.prog 6 #[.float .f64 a] W fun r w'=>OutE W (un ((bv a:Nat):Int) 1074) r w':=by
 have h:=dfloatU (a:=a) (by omega) W
 rw[sU_pos (show neg a=false by unfold neg;exact decide_eq_false (by omega)),fU_bvO (by omega)] at h
 exact toE h
theorem plusE {a b:Int} {k:Nat} (hk:k≤20000) (ha:a.natAbs<2^k) (hb:b.natAbs<2^k) {W:World} {X Y:Value} (h1:DN W X (un a 1074)) (h2:DN W Y (un b 1074)):Calls Tryz.prog 10 #[X,Y] W fun r w'=>OutE W (un (a+b) 1074) r w':=by
 have h:=gplus (un_gn ha (by omega) (by omega)) (un_gn hb (by omega) (by omega)) h1 h2
 rw[gS_un] at h
 exact toE h
theorem halfE {a:Int} {k:Nat} (hk:k≤20000) (ha:a.natAbs<2^k) {W:World} {X:Value} (h1:DN W X (un a 1074)):Calls Tryz.prog 9 #[X,.int .i64 (-1)] W fun r w'=>OutE W (un a 1075) r w':=by
 have h:=gscaled (k := -1) (un_gn ha (by omega) (by omega)) h1 (by decide)
 rw[gK_un (q:=1075) (by omega)] at h
 exact toE h
theorem squareE {a:Int} {k:Nat} (hk:k≤20000) (ha:a.natAbs<2^k) {W:World} {X:Value} (h1:DN W X (un a 1075)):Calls Tryz.prog 12 #[X,X] W fun r w'=>OutE W (un (a*a) 2150) r w':=by
 have h:=gtimes (un_gn ha (by omega) (by omega)) (un_gn ha (by omega) (by omega)) h1 h1
 rw[gM_un] at h
 exact toE h
theorem cmp_leE {a b:Int} (h:a≤b):decide (cmpI a b≤0)=true:=by
 refine decide_eq_true ?_
 unfold cmpI
 split
 ·omega
 ·split <;> omega
theorem guard_no {f:Nat} (hf:f<18446744073709551616) (h:¬ (0<f∧f<9218868437227405312)):((FloatKind.f64.format.order f 0==some Ordering.gt)&&(FloatKind.f64.format.order f 9218868437227405311==some Ordering.lt||FloatKind.f64.format.order f 9218868437227405311==some Ordering.eq))=false:=by
 rw[ord_gt f 0 hf (by decide),ord_le f 9218868437227405311 hf (by decide)]
 by_cases h1:f=9218868437227405312
 ·subst h1;decide +kernel
 ·have:lt 0 f=false:=by
   by_cases hn:isNaN f=true
   ·unfold lt;rw[hn];simp
   ·have hm:¬ 9218868437227405312<mag f:=by
     intro hc;apply hn;unfold isNaN;exact decide_eq_true hc
    have hs:stp f≤0:=by
     by_cases hg:f<9223372036854775808
     ·have:mag f=f:=by unfold mag;omega
      have h0:f=0:=by omega
      subst h0
      decide
     ·have hg':neg f=true:=by unfold neg;exact decide_eq_true (by omega)
      unfold stp sgn
      rw[hg']
      simp
    unfold lt
    rw[show stp 0=0 by decide,decide_eq_false (by omega)]
    simp
  rw[this,Bool.false_and]
theorem guard_in {f:Nat} (h0:0<f) (h:f<9218868437227405312):(FloatKind.f64.format.order f 0==some Ordering.gt)=true∧(FloatKind.f64.format.order f 9218868437227405311==some Ordering.lt||FloatKind.f64.format.order f 9218868437227405311==some Ordering.eq)=true:=by
 rw[ord_gt f 0 (by omega) (by decide),ord_lt f _ (by omega) (by decide),ord_eq f _ (by omega) (by decide),lt_posO (by omega) (by omega),lt_posO (by omega) (by omega),eq_posO (by omega) (by omega)]
 refine⟨decide_eq_true h0,?_⟩
 by_cases e:f=9218868437227405311
 ·rw[decide_eq_true e,Bool.or_true]
 ·rw[decide_eq_true (show f<9218868437227405311 by omega),Bool.true_or]
theorem rootLeast_w {f:Nat} {w:World} (hf:f<18446744073709551616) (hT:Tab32 w) (hI:Ie.Tab w)
  (k4:∀ W,Bw w W→Calls Tryz.prog 4 #[] W fun r w'=>r=.returned (.bool true)∧Bw W w') :
  Calls Tryz.prog 3 #[.float .f64 f] w fun r w'=>r=.returned (.bool true)∧Bw w w':=by
 by_cases h:0<f∧f<9218868437227405312
 ·obtain⟨h0,h1⟩:=h
  obtain⟨c,c0,c1,q1,q2,p1,p2⟩:=OPrincipal_f h0 h1
  obtain⟨o1,o2⟩:=guard_in h0 h1
  have b0:∀ a,a≤9218868437227405312→((bv a:Nat):Int).natAbs<2^bU:=fun a ha=>by
   rw[←fU_bvO (by omega)];exact int_natO (fU_lt a)
  have o3:(FloatKind.f64.format.order c 0==some Ordering.gt)=true:=by
   rw[ord_gt c 0 (by omega) (by decide),lt_posO (by omega) (by omega)];exact decide_eq_true c0
  have o4:(FloatKind.f64.format.order c c != some Ordering.eq)=false:=by
   rw[self_ne c (by omega)];unfold isNaN mag;exact decide_eq_false (by omega)
  have o5:(FloatKind.f64.format.order 0 0 != some Ordering.eq)=false:=by
   rw[self_ne 0 (by decide)];decide
  have bc:=b0 c (by omega)
  have bu:=b0 (c+1) (by omega)
  have bd:=b0 (c - 1) (by omega)
  have bf:=b0 f (by omega)
  have hbU:bU=2200:=rfl
  have bP:=abs_add bc bu
  have bQ:=abs_add bc bd
  have sP:=sq_absO bP
  have sQ:=sq_absO bQ
  have bF:=abs_liftO (d:=1076) bf
  have eF:un ((bv f:Nat):Int) 1074=un (((bv f:Nat):Int)*(pU 1076:Int)) 2150:=un_liftO _ 1074 1076
  have r1:(((bv c:Nat):Int)+((bv (c - 1):Nat):Int))*(((bv c:Nat):Int)+((bv (c - 1):Nat):Int))≤((bv f:Nat):Int)*(pU 1076:Int):=by
   rw[←Int.natCast_add,←Int.natCast_mul,←Int.natCast_mul,Nat.add_comm (bv c)]
   exact Int.ofNat_le.2 q1
  have r2:((bv f:Nat):Int)*(pU 1076:Int)≤(((bv c:Nat):Int)+((bv (c+1):Nat):Int))*(((bv c:Nat):Int)+((bv (c+1):Nat):Int)):=by
   rw[←Int.natCast_add,←Int.natCast_mul,←Int.natCast_mul]
   exact Int.ofNat_le.2 q2
  exact L18_in f c _ _ _ _ _ _ _ _ _ _ _ _ (cmp_leE r1) (cmp_leE r2) w (fun W=>by rw[←negF f hf];rfl) o1 o2 o3 o4 o5
   (fun W hW=>p1 W (hT.later hW) (Tab.later hI hW)) (fun W hW=>p2 W (hT.later hW) (Tab.later hI hW)) (fun W=>Onext_up c0 c1 W) (fun W=>Onext_dn c0 c1 W)
   (fun W=>floatE (by omega) W) (fun W=>floatE (by omega) W) (fun W=>floatE (by omega) W) (fun W=>floatE (by omega) W)
   (fun W X Y hX hY=>plusE (by omega) bc bu hX hY) (fun W X Y hX hY=>plusE (by omega) bc bd hX hY)
   (fun W X hX=>halfE (k:=bU+1) (by omega) bP hX) (fun W X hX=>halfE (k:=bU+1) (by omega) bQ hX)
   (fun W X hX=>squareE (k:=bU+1) (by omega) bQ hX) (fun W X hX=>squareE (k:=bU+1) (by omega) bP hX)
   (fun W X Y hX hY=>dorderU sQ bF (by omega) (by omega) (by omega) hX (by rw[eF] at hY;exact hY))
   (fun W X Y hX hY=>dorderU bF sP (by omega) (by omega) (by omega) (by rw[eF] at hX;exact hX) hY)
   k4
 ·exact L18_out f w (guard_no hf h) k4
theorem q_n40 {w:World} (hT:Tab32 w) (hI:Ie.Tab w):Calls Tryz.prog 5 #[.complex .f64 13839561654909534208 9223372036854775808,.int .i64 2] w fun r w'=>r=.returned (.tuple #[.complex .f64 0 13835058055282163712,.int .i64 0])∧Bw w w':=by
 obtain⟨e,he⟩:∃ e,2150=e:=⟨_,rfl⟩
 obtain⟨b,hb⟩:∃ b,4000=b:=⟨_,rfl⟩
 have key:=OPrincipal_un (x:=13839561654909534208) (y:=9223372036854775808) (X := -((4*pU 1074:Nat):Int)) (Y:=0) (A:=16*pU 2148) (M:=4*pU 2149) (Hi:=16*pU 2148) (Hr:=0) (Ri:=4*pU 1074) (Rr:=0) (w:=w) (b:=b) he (by omega) (by decide) (by decide) (by decide) (by decide) (by decide +kernel) (by decide +kernel) (by decide +kernel) (by subst he;decide +kernel) (by subst he;decide +kernel) (by subst hb;decide +kernel) (by subst hb;decide +kernel) (by decide +kernel) (by decide +kernel) (by decide +kernel) (by decide +kernel) (by decide +kernel) (by decide +kernel) hT hI
 subst he
 rw[show(rmO ((hrO 0 (decide ((4*pU 2149)*(4*pU 2149)=16*pU 2148*pU 2150)&&decide (0*0=0)):Nat):Int) 2)=0 by decide +kernel] at key
 rw[show(withF (rmO (if cneg 9223372036854775808 then -((hrO (4*pU 1074) (decide ((4*pU 2149)*(4*pU 2149)=16*pU 2148*pU 2150)&&decide ((4*pU 1074)*(4*pU 1074)=16*pU 2148)):Nat):Int) else((hrO (4*pU 1074) (decide ((4*pU 2149)*(4*pU 2149)=16*pU 2148*pU 2150)&&decide ((4*pU 1074)*(4*pU 1074)=16*pU 2148)):Nat):Int)) 2) 9223372036854775808)=13835058055282163712 by decide +kernel] at key
 exact key
theorem lk_eqO {n X:Nat} (h:lk n X) (hX:isNaN X=false):n=X:=by
 have:=h.2
 unfold same at this
 rw[hX,Bool.and_false,Bool.or_false] at this
 have:=beq_iff_eq.1 this
 omega
theorem addV {a b X:Nat} {m:Int} (hm:isM m=true) (ha:a<18446744073709551616) (hb:b<18446744073709551616) (hfa:mag a<9218868437227405312) (hfb:mag b<9218868437227405312)
  (e:(if(tS (tF a) (tF b)).2.1=0 then sig (z0 (neg a) (neg b) m) 0 else tfF (tS (tF a) (tF b)).1 true (tS (tF a) (tF b)).2.1 (tS (tF a) (tF b)).2.2 m)=X) (W:World) (hT:Tab32 W) (hI:Ie.Tab W) :
  Calls Tryz.prog 58 #[.float .f64 a,.float .f64 b,.int .i64 m] W fun r w'=>OutF2 W X r w':=by
 have hm':=isM_iff.1 hm
 have hokR:=tS_okR (tF_fits a) (tF_fits b) (by omega) (by omega) (by omega)
 have hok:Ok (tS (tF a) (tF b)):=ok_cn hokR
 have hadd:=add_op (tF_ok a) (tF_ok b) hokR
 rw[←e]
 by_cases h0:(tS (tF a) (tF b)).2.1=0
 ·rw[if_pos h0]
  refine(padd_z a b _ m _ (tF a) (tF b) (tS (tF a) (tF b)) W hm ha hb (pfin_y a ha hfa) (pfin_y b hb hfb) (exact_ok a ha hfa W hT hI) (fun W' h=>exact_ok b hb hfb W' (hT.later h) (Tab.later hI h)) (fun W' X Y h h1 h2=>added_op hadd (hT.later h) h1 h2) (fun W' X h=>psign hok h) (by rw[sgI_nought,decide_eq_true h0]) (fun W'=>pnought _ _ m hm' W')).mono ?_
  rintro r w' ⟨rfl,hb'⟩
  exact⟨_,rfl,lk.refl (sig_lt (by omega)),hb'⟩
 ·rw[if_neg h0]
  refine(padd_r a b _ m _ (tF a) (tF b) (tS (tF a) (tF b)) W hm ha hb (pfin_y a ha hfa) (pfin_y b hb hfb) (exact_ok a ha hfa W hT hI) (fun W' h=>exact_ok b hb hfb W' (hT.later h) (Tab.later hI h)) (fun W' X Y h h1 h2=>added_op hadd (hT.later h) h1 h2) (fun W' X h=>psign hok h) (by rw[sgI_nought,decide_eq_false h0]) (fun W' X h h1=>prounded (hT.later h) hok h1 hm')).mono ?_
  rintro r w' ⟨rfl,hb'⟩
  exact⟨_,rfl,lk.refl (tfF_lt hm'),hb'⟩
theorem out2V {f:FuncId} {vs:Array Value} {W:World} {X:Nat} (hX:isNaN X=false) (h:Calls Tryz.prog f vs W fun r w'=>OutF2 W X r w'):Calls Tryz.prog f vs W fun r w'=>r=.returned (.float .f64 X)∧Bw W w' :=
 h.mono fun r w' ⟨n,h1,h2,h3⟩=>⟨by rw[h1,lk_eqO h2 hX],h3⟩
theorem subV {a b X:Nat} {m:Int} (hm:isM m=true) (ha:a<18446744073709551616) (hb:b<18446744073709551616) (hfa:mag a<9218868437227405312) (hfb:mag b<9218868437227405312)
  (e:(if(tS (tF a) (tF (ngt b))).2.1=0 then sig (z0 (neg a) (neg (ngt b)) m) 0 else tfF (tS (tF a) (tF (ngt b))).1 true (tS (tF a) (tF (ngt b))).2.1 (tS (tF a) (tF (ngt b))).2.2 m)=X) (W:World) (hT:Tab32 W) (hI:Ie.Tab W) :
  Calls Tryz.prog 82 #[.float .f64 a,.float .f64 b,.int .i64 m] W fun r w'=>OutF2 W X r w' :=
 psub_1 a b X m W hb (addV hm ha (ngt_lt hb) hfa (by rw[ngt_mag hb];exact hfb) e W hT hI)
theorem sqrtV {a q K X:Nat} {m:Int} (hm:isM m=true) (ha:a<18446744073709551616) (hl:(FloatKind.f64.format.order a 0==some Ordering.lt)=false) (hfa:mag a<9218868437227405312) (h0:mag a≠0) (hs:(tF a).1=false)
  (hK:sqK (tF a)=K) (q1:q*q≤(tF a).2.1*2^K) (q2:(tF a).2.1*2^K<(q+1)*(q+1)) (e:tfF false (decide (q*q=(tF a).2.1*2^K)) q (((tF a).2.2 - (K:Int)).tdiv 2) m=X) (W:World) (hT:Tab32 W) (hI:Ie.Tab W) :
  Calls Tryz.prog 61 #[.float .f64 a,.int .i64 m] W fun r w'=>r=.returned (.float .f64 X)∧Bw W w':=by
 refine psq_r a X m (tF a) W hm hl (fun W=>pplain_y a ha hfa h0 W) (exact_ok a ha hfa W hT hI) (fun V Y hV hY=>?_)
 refine(psqrt (hT.later hV) (tF_ok a) hY hs (isM_iff.1 hm)).mono ?_
 rintro r w' ⟨q',⟨h1,h2⟩,rfl,hb⟩
 rw[hK] at h1 h2
 have eq:=root_only h1 h2 q1 q2
 subst eq
 rw[hK,e]
 exact⟨rfl,hb⟩
theorem add00 (W:World) (hT:Tab32 W) (hI:Ie.Tab W):Calls Tryz.prog 58 #[.float .f64 0,.float .f64 0,.int .i64 3] W fun r w'=>r=.returned (.float .f64 0)∧Bw W w' :=
 out2V (by decide) (addV (by decide) (by decide) (by decide) (by decide) (by decide) (by decide +kernel) W hT hI)
theorem add0R (W:World) (hT:Tab32 W) (hI:Ie.Tab W):Calls Tryz.prog 58 #[.float .f64 0,.float .f64 4598498563450654039,.int .i64 3] W fun r w'=>r=.returned (.float .f64 4598498563450654039)∧Bw W w' :=
 out2V (by decide) (addV (by decide) (by decide) (by decide) (by decide) (by decide) (by decide +kernel) W hT hI)
theorem addP (W:World) (hT:Tab32 W) (hI:Ie.Tab W):Calls Tryz.prog 58 #[.float .f64 4611686018427387904,.float .f64 4610479282544200874,.int .i64 1] W fun r w'=>r=.returned (.float .f64 4615586250113164885)∧Bw W w' :=
 out2V (by decide) (addV (by decide) (by decide) (by decide) (by decide) (by decide) (by decide +kernel) W hT hI)
theorem sub22 (W:World) (hT:Tab32 W) (hI:Ie.Tab W):Calls Tryz.prog 82 #[.float .f64 4611686018427387904,.float .f64 4611686018427387904,.int .i64 3] W fun r w'=>r=.returned (.float .f64 0)∧Bw W w' :=
 out2V (by decide) (subV (by decide) (by decide) (by decide) (by decide) (by decide) (by decide +kernel) W hT hI)
theorem sub11 (W:World) (hT:Tab32 W) (hI:Ie.Tab W):Calls Tryz.prog 82 #[.float .f64 4607182418800017408,.float .f64 4607182418800017408,.int .i64 3] W fun r w'=>r=.returned (.float .f64 0)∧Bw W w' :=
 out2V (by decide) (subV (by decide) (by decide) (by decide) (by decide) (by decide) (by decide +kernel) W hT hI)
theorem sub00 (W:World) (hT:Tab32 W) (hI:Ie.Tab W):Calls Tryz.prog 82 #[.float .f64 0,.float .f64 0,.int .i64 3] W fun r w'=>r=.returned (.float .f64 0)∧Bw W w' :=
 out2V (by decide) (subV (by decide) (by decide) (by decide) (by decide) (by decide) (by decide +kernel) W hT hI)
theorem sqrt4 (W:World) (hT:Tab32 W) (hI:Ie.Tab W):Calls Tryz.prog 61 #[.float .f64 4616189618054758400,.int .i64 1] W fun r w'=>r=.returned (.float .f64 4611686018427387904)∧Bw W w' :=
 sqrtV (q:=18446744073709551616) (K:=128) (by decide) (by decide) (by decide +kernel) (by decide) (by decide) (by decide +kernel) (by decide +kernel) (by decide +kernel) (by decide +kernel) (by decide +kernel) W hT hI
theorem sqrt3 (W:World) (hT:Tab32 W) (hI:Ie.Tab W):Calls Tryz.prog 61 #[.float .f64 4613937818241073152,.int .i64 1] W fun r w'=>r=.returned (.float .f64 4610479282544200874)∧Bw W w' :=
 sqrtV (q:=15975348984942515101) (K:=126) (by decide) (by decide) (by decide +kernel) (by decide) (by decide) (by decide +kernel) (by decide +kernel) (by decide +kernel) (by decide +kernel) (by decide +kernel) W hT hI
theorem div1P (W:World) (hT:Tab32 W) (hI:Ie.Tab W):Calls Tryz.prog 95 #[.float .f64 4607182418800017408,.float .f64 4615586250113164885,.int .i64 3] W fun r w'=>r=.returned (.float .f64 4598498563450654039)∧Bw W w':=by
 have h:=pdiv_ok 4607182418800017408 4615586250113164885 3 W (by decide) hT hI (by decide) (by decide) (by decide) (by decide) (by decide) (by decide) (by decide +kernel) (by decide +kernel)
 rw[show rtF (tF 4607182418800017408) (tF 4615586250113164885) 3=4598498563450654039 by decide +kernel] at h
 exact h
theorem ht4:tS (tM (tF 4616189618054758400) (tF 4616189618054758400)) (tM (tF 0) (tF 0))=(false,1,4):=by decide +kernel
theorem hk4:sqK (false,1,4)=128:=by decide +kernel
theorem hf4:tfF false true 18446744073709551616 (-62) 1=4616189618054758400:=by decide +kernel
theorem h1_4:okR (!((tF 4616189618054758400).1==(tF 4616189618054758400).1)) ((tF 4616189618054758400).2.1*(tF 4616189618054758400).2.1) ((tF 4616189618054758400).2.2+(tF 4616189618054758400).2.2)=true:=by decide +kernel
theorem h2_4:okR (!((tF 0).1==(tF 0).1)) ((tF 0).2.1*(tF 0).2.1) ((tF 0).2.2+(tF 0).2.2)=true:=by decide +kernel
theorem hyp40 (w:World) (hT:Tab32 w) (hI:Ie.Tab w):Calls Tryz.prog 122 #[.float .f64 4616189618054758400,.float .f64 0,.int .i64 1] w fun r w'=>r=.returned (.float .f64 4616189618054758400)∧Bw w w':=by
 have m1:=mul_op (tF_ok 4616189618054758400) (tF_ok 4616189618054758400) h1_4
 have m2:=mul_op (tF_ok 0) (tF_ok 0) h2_4
 have hadd:=add_op (tM_ok h1_4) (tM_ok h2_4) (by decide +kernel)
 refine phyp_r _ _ _ 1 (tF 4616189618054758400) (tF 0) (tM (tF 4616189618054758400) (tF 4616189618054758400)) (tM (tF 0) (tF 0)) (false,1,4) w (by decide) (pinf_n _ (by decide) (by decide)) (pinf_n _ (by decide) (by decide)) (pfin_y _ (by decide) (by decide)) (pfin_y _ (by decide) (by decide)) (exact_ok _ (by decide) (by decide) w hT hI) (fun W h=>exact_ok _ (by decide) (by decide) W (hT.later h) (Tab.later hI h)) (fun W X h h1=>multiplied_op m1 (hT.later h) h1 h1) (fun W X h h1=>multiplied_op m2 (hT.later h) h1 h1) (fun W X Y h h1 h2=>?_) (fun W X h h1=>?_)
 ·have:=added_op hadd (hT.later h) h1 h2
  rw[show cn _ _ _=(false,1,4)from ht4] at this
  exact this
 ·refine(psqrt (t:=(false,1,4)) (hT.later h) (show okN false (dlen 1) 1 4=true by decide +kernel) h1 rfl (by omega)).mono ?_
  rintro r w' ⟨q,⟨q1,q2⟩,rfl,hb⟩
  refine⟨?_,hb⟩
  simp only[hk4] at q1 q2 ⊢
  have e:q=18446744073709551616:=root_only q1 q2 (by decide) (by decide)
  subst e
  rw[decide_eq_true (by decide:18446744073709551616*18446744073709551616=1*2^128),show((4:Int) - ((128:Nat):Int)).tdiv 2 = -62 by decide,hf4]
theorem q_34 {w:World} (hT:Tab32 w) (hI:Ie.Tab w):Calls Tryz.prog 5 #[.complex .f64 4613937818241073152 4616189618054758400,.int .i64 2] w fun r w'=>r=.returned (.tuple #[.complex .f64 4611686018427387904 4607182418800017408,.int .i64 0])∧Bw w w':=by
 obtain⟨e,he⟩:∃ e,2150=e:=⟨_,rfl⟩
 obtain⟨b,hb⟩:∃ b,4000=b:=⟨_,rfl⟩
 have key:=OPrincipal_un (x:=4613937818241073152) (y:=4616189618054758400) (X:=((3*pU 1074:Nat):Int)) (Y:=((4*pU 1074:Nat):Int)) (A:=25*pU 2148) (M:=5*pU 2149) (Hi:=4*pU 2148) (Hr:=16*pU 2148) (Ri:=2*pU 1074) (Rr:=4*pU 1074) (w:=w) (b:=b) he (by omega) (by decide) (by decide) (by decide) (by decide) (by decide +kernel) (by decide +kernel) (by decide +kernel) (by subst he;decide +kernel) (by subst he;decide +kernel) (by subst hb;decide +kernel) (by subst hb;decide +kernel) (by decide +kernel) (by decide +kernel) (by decide +kernel) (by decide +kernel) (by decide +kernel) (by decide +kernel) hT hI
 subst he
 rw[show(rmO ((hrO (4*pU 1074) (decide ((5*pU 2149)*(5*pU 2149)=25*pU 2148*pU 2150)&&decide ((4*pU 1074)*(4*pU 1074)=16*pU 2148)):Nat):Int) 2)=4611686018427387904 by decide +kernel] at key
 rw[show(withF (rmO (if cneg 4616189618054758400 then -((hrO (2*pU 1074) (decide ((5*pU 2149)*(5*pU 2149)=25*pU 2148*pU 2150)&&decide ((2*pU 1074)*(2*pU 1074)=4*pU 2148)):Nat):Int) else((hrO (2*pU 1074) (decide ((5*pU 2149)*(5*pU 2149)=25*pU 2148*pU 2150)&&decide ((2*pU 1074)*(2*pU 1074)=4*pU 2148)):Nat):Int)) 2) 4616189618054758400)=4607182418800017408 by decide +kernel] at key
 exact key
theorem ofPoint_v {x F G b:Nat} {Zr Zi:Int} {w:World} (hT:Tab32 w) (hI:Ie.Tab w) (hb:b≤60000) (bZr:Zr.natAbs<2^b) (bZi:Zi.natAbs<2^b)
  (kp:∀ W,Tab32 W→Ie.Tab W→Calls Tryz.prog 19 #[.complex .f64 x 0] W fun r w'=>∃ u,r=.returned u∧isPr (un Zr 1076) (un Zi 1076) 0 w' u∧Bw W w')
  (f1:rmO Zr 1=F) (f2:rmO Zr 2=F) (f3:rmO Zr 3=F) (g1:withF (rmO Zi 1) 0=G) (g2:withF (rmO Zi 2) 0=G) (g3:withF (rmO Zi 3) 0=G)
  (kF:∀ W,Tab32 W→Ie.Tab W→Calls Tryz.prog 82 #[.float .f64 F,.float .f64 F,.int .i64 3] W fun r w'=>r=.returned (.float .f64 0)∧Bw W w')
  (kG:∀ W,Tab32 W→Ie.Tab W→Calls Tryz.prog 82 #[.float .f64 G,.float .f64 G,.int .i64 3] W fun r w'=>r=.returned (.float .f64 0)∧Bw W w')
  (hF:F<18446744073709551616) (hG:G<18446744073709551616) (mF:mag F<9218868437227405312) (mG:mag G<9218868437227405312) :
  Calls Tryz.prog 35 #[.complex .f64 x 0] w fun r w'=>r=.returned (.agg #[.complex .f64 F G,.float .f64 0])∧Bw w w':=by
 have r1:∀ W u,Bw w W→isPr (un Zr 1076) (un Zi 1076) 0 W u→Calls Tryz.prog 20 #[u,.int .i64 1] W fun r w'=>r=.returned (.complex .f64 F G)∧Bw W w':=fun W u hW hu=>by
  have h:=Orounded_pr (m:=1) (by decide) hb bZr bZi (by decide) (hT.later hW) hu
  rw[f1,g1] at h;exact h
 have r2:∀ W u,Bw w W→isPr (un Zr 1076) (un Zi 1076) 0 W u→Calls Tryz.prog 20 #[u,.int .i64 2] W fun r w'=>r=.returned (.complex .f64 F G)∧Bw W w':=fun W u hW hu=>by
  have h:=Orounded_pr (m:=2) (by decide) hb bZr bZi (by decide) (hT.later hW) hu
  rw[f2,g2] at h;exact h
 have r3:∀ W u,Bw w W→isPr (un Zr 1076) (un Zi 1076) 0 W u→Calls Tryz.prog 20 #[u,.int .i64 3] W fun r w'=>r=.returned (.complex .f64 F G)∧Bw W w':=fun W u hW hu=>by
  have h:=Orounded_pr (m:=3) (by decide) hb bZr bZi (by decide) (hT.later hW) hu
  rw[f3,g3] at h;exact h
 exact OofPoint_1 x 0 F G F G 0 0 F G 0 0 (un Zr 1076) (un Zi 1076) w (fun W hW=>kp W (hT.later hW) (Tab.later hI hW)) r3 r1
  (fun W hW=>arithSub_1 F G F G 0 0 3 W (fun V hV=>kF V ((hT.later hW).later hV) (Tab.later (Tab.later hI hW) hV)) (fun V hV=>kG V ((hT.later hW).later hV) (Tab.later (Tab.later hI hW) hV)))
  r2 (fun W hW=>add00 W (hT.later hW) (Tab.later hI hW)) (fun W _=>Oof hF hG mF mG (by decide) W)
theorem parts_4 {w:World} (hT:Tab32 w) (hI:Ie.Tab w):Calls Tryz.prog 19 #[.complex .f64 4616189618054758400 0] w fun r w'=>∃ u,r=.returned u∧isPr (un ((8*pU 1074:Nat):Int) 1076) (un 0 1076) 0 w' u∧Bw w w':=by
 obtain⟨e,he⟩:∃ e,2150=e:=⟨_,rfl⟩
 obtain⟨b,hb⟩:∃ b,4000=b:=⟨_,rfl⟩
 have key:=OpartsOf_un (x:=4616189618054758400) (y:=0) (X:=((4*pU 1074:Nat):Int)) (Y:=0) (A:=16*pU 2148) (M:=4*pU 2149) (Hi:=0) (Hr:=16*pU 2148) (Ri:=0) (Rr:=4*pU 1074) (w:=w) (b:=b) he (by omega) (by decide) (by decide) (by decide) (by decide) (by decide +kernel) (by decide +kernel) (by decide +kernel) (by subst he;decide +kernel) (by subst he;decide +kernel) (by subst hb;decide +kernel) (by subst hb;decide +kernel) (by decide +kernel) (by decide +kernel) (by decide +kernel) (by decide +kernel) (by decide +kernel) (by decide +kernel) hT hI
 subst he
 rw[show hrO (4*pU 1074) (decide ((4*pU 2149)*(4*pU 2149)=16*pU 2148*pU 2150)&&decide ((4*pU 1074)*(4*pU 1074)=16*pU 2148))=8*pU 1074 by decide +kernel,show hrO 0 (decide ((4*pU 2149)*(4*pU 2149)=16*pU 2148*pU 2150)&&decide (0*0=0))=0 by decide +kernel,show cneg 0=false by decide +kernel,if_neg (by decide)] at key
 exact key
theorem parts_m1 {w:World} (hT:Tab32 w) (hI:Ie.Tab w):Calls Tryz.prog 19 #[.complex .f64 13830554455654793216 0] w fun r w'=>∃ u,r=.returned u∧isPr (un 0 1076) (un ((4*pU 1074:Nat):Int) 1076) 0 w' u∧Bw w w':=by
 obtain⟨e,he⟩:∃ e,2150=e:=⟨_,rfl⟩
 obtain⟨b,hb⟩:∃ b,4000=b:=⟨_,rfl⟩
 have key:=OpartsOf_un (x:=13830554455654793216) (y:=0) (X := -((pU 1074:Nat):Int)) (Y:=0) (A:=pU 2148) (M:=pU 2149) (Hi:=4*pU 2148) (Hr:=0) (Ri:=2*pU 1074) (Rr:=0) (w:=w) (b:=b) he (by omega) (by decide) (by decide) (by decide) (by decide) (by decide +kernel) (by decide +kernel) (by decide +kernel) (by subst he;decide +kernel) (by subst he;decide +kernel) (by subst hb;decide +kernel) (by subst hb;decide +kernel) (by decide +kernel) (by decide +kernel) (by decide +kernel) (by decide +kernel) (by decide +kernel) (by decide +kernel) hT hI
 subst he
 rw[show hrO (2*pU 1074) (decide (pU 2149*pU 2149=pU 2148*pU 2150)&&decide ((2*pU 1074)*(2*pU 1074)=4*pU 2148))=4*pU 1074 by decide +kernel,show hrO 0 (decide (pU 2149*pU 2149=pU 2148*pU 2150)&&decide (0*0=0))=0 by decide +kernel,show cneg 0=false by decide +kernel,if_neg (by decide)] at key
 exact key
theorem point_4 {w:World} (hT:Tab32 w) (hI:Ie.Tab w):Calls Tryz.prog 35 #[.complex .f64 4616189618054758400 0] w fun r w'=>r=.returned (.agg #[.complex .f64 4611686018427387904 0,.float .f64 0])∧Bw w w':=by
 obtain⟨b,hb⟩:∃ b,4000=b:=⟨_,rfl⟩
 exact ofPoint_v (b:=b) (Zr:=((8*pU 1074:Nat):Int)) (Zi:=0) hT hI (by omega) (by subst hb;decide +kernel) (by subst hb;decide +kernel) (fun W h1 h2=>parts_4 h1 h2) (by decide +kernel) (by decide +kernel) (by decide +kernel) (by decide +kernel) (by decide +kernel) (by decide +kernel) sub22 sub00 (by decide) (by decide) (by decide) (by decide)
theorem point_m1 {w:World} (hT:Tab32 w) (hI:Ie.Tab w):Calls Tryz.prog 35 #[.complex .f64 13830554455654793216 0] w fun r w'=>r=.returned (.agg #[.complex .f64 0 4607182418800017408,.float .f64 0])∧Bw w w':=by
 obtain⟨b,hb⟩:∃ b,4000=b:=⟨_,rfl⟩
 exact ofPoint_v (b:=b) (Zr:=0) (Zi:=((4*pU 1074:Nat):Int)) hT hI (by omega) (by subst hb;decide +kernel) (by subst hb;decide +kernel) (fun W h1 h2=>parts_m1 h1 h2) (by decide +kernel) (by decide +kernel) (by decide +kernel) (by decide +kernel) (by decide +kernel) (by decide +kernel) sub00 sub11 (by decide) (by decide) (by decide) (by decide)
theorem sqrt_m1 {w:World} (hT:Tab32 w) (hI:Ie.Tab w):Calls Tryz.prog 14 #[.agg #[.complex .f64 13830554455654793216 0,.float .f64 0]] w fun r w'=>r=.returned (.tuple #[.agg #[.complex .f64 0 4607182418800017408,.float .f64 0],.int .i64 1,.int .i64 0])∧Bw w w' :=
 OSqrt_point _ _ _ _ _ _ _ w (by decide +kernel) (fun W=>Ovalid (by decide) (by decide) (by decide) (by decide) (by decide) W) (fun W hW=>point_m1 (hT.later hW) (Tab.later hI hW)) OsideOf_m1
theorem exactU {a:Nat} (ha:a<18446744073709551616) (hf:mag a<9218868437227405312) (W:World) (hT:Tab32 W) (hI:Ie.Tab W):Calls Tryz.prog 117 #[.float .f64 a] W fun r w'=>OutA W (un (sU a) 1074) r w':=by
 have h:=Bexact_ok a ha hf W hT hI
 rw[tF_sU] at h
 exact h
theorem diffU {a b:Nat} (ha:a<18446744073709551616) (hf:mag a<9218868437227405312) (hb:b<18446744073709551616) (hg:mag b<9218868437227405312) (W:World) (hT:Tab32 W) (hI:Ie.Tab W):Calls Tryz.prog 114 #[.float .f64 a,.float .f64 b] W fun r w'=>OutA W (un (sU a - sU b) 1074) r w':=by
 have hbU:bU=2200:=rfl
 exact Bdiff_1 a b _ _ _ W (fun V hV=>exactU ha hf V (hT.later hV) (Tab.later hI hV)) (fun V hV=>exactU hb hg V (hT.later hV) (Tab.later hI hV)) (fun V X Y hV hX hY=>psub_un (sU_lt a) (sU_lt b) (by omega) (by omega) V X Y (hT.later hV) hX hY)
theorem squaresU {a b:Int} {k:Nat} {X Y:Value} (hk:k≤20000) (ha:a.natAbs<2^k) (hb:b.natAbs<2^k) (W:World) (hT:Tab32 W) (hX:PN W X (un a 1074)) (hY:PN W Y (un b 1074)):Calls Tryz.prog 138 #[X,Y] W fun r w'=>OutA W (un (a*a+b*b) 2148) r w':=by
 obtain⟨s1,a1,n1,c1,e1,rfl⟩:=hX.shape
 obtain⟨s2,a2,n2,c2,e2,rfl⟩:=hY.shape
 exact Bsquares_1 s1 a1 n1 c1 e1 s2 a2 n2 c2 e2 _ _ (un (a*a) 2148) (un (b*b) 2148) _ W hX hY (fun V P Q hV hP hQ=>pmul_un (p:=1074) (q:=1074) ha ha (by omega) (by omega) V P Q (hT.later hV) hP hQ) (fun V P Q hV hP hQ=>pmul_un (p:=1074) (q:=1074) hb hb (by omega) (by omega) V P Q (hT.later hV) hP hQ) (fun V P Q hV hP hQ=>padd_un (p:=2148) (sq_absO ha) (sq_absO hb) (by omega) (by omega) V P Q (hT.later hV) hP hQ)
theorem apartU {x y u v:Nat} {X Y:Int} (hx:x<18446744073709551616) (hy:y<18446744073709551616) (hu:u<18446744073709551616) (hv:v<18446744073709551616) (fx:mag x<9218868437227405312) (fy:mag y<9218868437227405312) (fu:mag u<9218868437227405312) (fv:mag v<9218868437227405312) (eX:sU x - sU u=X) (eY:sU y - sU v=Y) (W:World) (hT:Tab32 W) (hI:Ie.Tab W) :
  Calls Tryz.prog 115 #[.complex .f64 x y,.complex .f64 u v] W fun r w'=>OutA W (un (X*X+Y*Y) 2148) r w':=by
 subst eX eY
 have hbU:bU=2200:=rfl
 have b1:(sU x - sU u).natAbs<2^(bU+1):=by
  rw[Int.sub_eq_add_neg]
  exact abs_add (sU_lt x) (by rw[Int.natAbs_neg];exact sU_lt u)
 have b2:(sU y - sU v).natAbs<2^(bU+1):=by
  rw[Int.sub_eq_add_neg]
  exact abs_add (sU_lt y) (by rw[Int.natAbs_neg];exact sU_lt v)
 exact Bapart_1 x y u v _ _ _ W (fun V hV=>diffU hx fx hu fu V (hT.later hV) (Tab.later hI hV)) (fun V hV=>diffU hy fy hv fv V (hT.later hV) (Tab.later hI hV)) (fun V P Q hV hP hQ=>squaresU (by omega) b1 b2 V (hT.later hV) hP hQ)
theorem sign_1O {a:Int} {p k:Nat} {X:Value} {W:World} (hk:k≤60000) (hp:p≤60000) (ha:a.natAbs<2^k) (h0:0<a) (hX:PN W X (un a p)):Calls Tryz.prog 86 #[X] W fun r w'=>r=.returned (.int .i64 1)∧Bw W w':=by
 have h:=psign (ok_un (p:=p) ha hk hp) hX
 rw[sgI_eq] at h
 have h2:(un a p).2.1≠0:=fun e=>by have:=un_sign.2.1 e;omega
 have h1:(un a p).1=false:=by
  unfold un cn
  rw[if_neg (by omega),decide_eq_false (by omega)]
 rw[if_neg h2,h1,if_neg (by decide)] at h
 exact h
theorem near_04 {w:World} {sf:Bool} {aof:Option Addr} {nf capf:Nat} {exf:Int} (hT:Tab32 w) (hI:Ie.Tab w) (hf:PN w (.agg #[.bool sf,.slice aof nf capf,.int .i64 exf]) (un ((pU 1074:Nat):Int) 1074)) :
  Calls Tryz.prog 113 #[.complex .f64 0 0,.complex .f64 4616189618054758400 0,.agg #[.bool sf,.slice aof nf capf,.int .i64 exf]] w fun r w'=>r=.returned (.bool false)∧Bw w w':=by
 obtain⟨k,hk⟩:∃ k,2300=k:=⟨_,rfl⟩
 obtain⟨k2,hk2⟩:∃ k,5000=k:=⟨_,rfl⟩
 have b1:((pU 1074:Nat):Int).natAbs<2^k:=by subst hk;decide +kernel
 have bA:((-((4*pU 1074:Nat):Int))*(-((4*pU 1074:Nat):Int))+0*0).natAbs<2^k2:=by subst hk2;decide +kernel
 have bS:(((pU 1074:Nat):Int)*((pU 1074:Nat):Int)+0*0).natAbs<2^k2:=by subst hk2;decide +kernel
 refine Bnear_no 0 0 4616189618054758400 0 sf aof nf capf exf _ _ _ w hf (fun W X hX=>sign_1O (by omega) (by omega) b1 (by decide +kernel) hX)
  (fun W hW=>apartU (X := -((4*pU 1074:Nat):Int)) (Y:=0) (by decide) (by decide) (by decide) (by decide) (by decide) (by decide) (by decide) (by decide) (by decide +kernel) (by decide +kernel) W (hT.later hW) (Tab.later hI hW))
  (fun W X hW hX=>squaresU (b:=0) (k:=k) (by omega) b1 (by exact Nat.two_pow_pos k) W (hT.later hW) hX (by rw[un_0];exact pn_nilN W)) (fun W X Y hX hY=>?_)
 have h:=pcmp (ok_un (p:=2148) bA (by omega) (by omega)) (ok_un (p:=2148) bS (by omega) (by omega)) hX hY
 rw[ord_un,show cmpI ((-((4*pU 1074:Nat):Int))*(-((4*pU 1074:Nat):Int))+0*0) (((pU 1074:Nat):Int)*((pU 1074:Nat):Int)+0*0)=1 by decide +kernel] at h
 exact h
theorem ray_41 {w:World} (hT:Tab32 w) (hI:Ie.Tab w):Calls Tryz.prog 37 #[.agg #[.complex .f64 4616189618054758400 0,.float .f64 4607182418800017408]] w fun r w'=>r=.returned (.bool false)∧Bw w w':=by
 refine BRay_41 false w fun W hW=>BHas_1 _ _ _ 0 0 false W fun V hV=>?_
 have hT':=(hT.later hW).later hV
 have hI':=Tab.later (Tab.later hI hW) hV
 refine BWithin_no 0 0 4616189618054758400 0 4607182418800017408 (un ((pU 1074:Nat):Int) 1074) V (fun W=>Ovalid (by decide) (by decide) (by decide) (by decide) (by decide) W) (fun W=>Ovalid (by decide) (by decide) (by decide) (by decide) (by decide) W) (fun W=>Owhole (by decide) (by decide) (by decide) (by decide) W) (fun W=>Owhole (by decide) (by decide) (by decide) (by decide) W) (fun U hU=>?_) (fun U X hU hX=>?_)
 ·have h:=diffU (a:=4607182418800017408) (b:=0) (by decide) (by decide) (by decide) (by decide) U (hT'.later hU) (Tab.later hI' hU)
  rw[show sU 4607182418800017408 - sU 0=((pU 1074:Nat):Int) by decide +kernel] at h
  exact h
 ·obtain⟨s1,a1,n1,c1,e1,rfl⟩:=hX.shape
  exact near_04 (hT'.later hU) (Tab.later hI' hU) hX
theorem q16:((4*pU 1074:Nat):Int)*((4*pU 1074:Nat):Int)+0*0=((16*pU 2148:Nat):Int):=by decide +kernel
theorem q16n:(-((4*pU 1074:Nat):Int))*(-((4*pU 1074:Nat):Int))+0*0=((16*pU 2148:Nat):Int):=by decide +kernel
theorem q3p:((4*pU 1074:Nat):Int) - ((pU 1074:Nat):Int)=((3*pU 1074:Nat):Int):=by decide +kernel
theorem proot_pU {A p P m b e:Nat} {X:Value} {w:World} (he:2*P - p=e) (hA:A<2^b) (hb:b≤60000) (hp:p≤2*P) (hP:P≤20000) (hm1:m*m≤A*pU e) (hm2:A*pU e<(m+1)*(m+1)) (hmb:m<2^60000) (hT:Tab32 w) (hX:PN w X (un ((A:Nat):Int) p)) :
  Calls Tryz.prog 68 #[X,.int .i64 (P:Nat)] w fun r w'=>∃ s ao n cap e',r=.returned (.tuple #[.agg #[.bool s,.slice ao n cap,.int .i64 e'],.bool (decide (m*m=A*pU e)),.int .i64 0])∧PN w' (.agg #[.bool s,.slice ao n cap,.int .i64 e']) (un ((m:Nat):Int) P)∧Bw w w':=by
 subst he
 unfold pU at hm1 hm2 ⊢
 exact proot_un hA hb hp hP hm1 hm2 hmb hT hX
theorem nearest_41 {w:World} (hT:Tab32 w) (hI:Ie.Tab w):Calls Tryz.prog 90 #[.agg #[.complex .f64 4616189618054758400 0,.float .f64 4607182418800017408]] w fun r w'=>r=.returned (.float .f64 4613937818241073152)∧Bw w w':=by
 obtain⟨k,hk⟩:∃ k,2300=k:=⟨_,rfl⟩
 obtain⟨k2,hk2⟩:∃ k,5000=k:=⟨_,rfl⟩
 obtain⟨e0,he0⟩:∃ e,0=e:=⟨_,rfl⟩
 have b1:((pU 1074:Nat):Int).natAbs<2^k:=by subst hk;decide +kernel
 have b3:((3*pU 1074:Nat):Int).natAbs<2^k:=by subst hk;decide +kernel
 have b4:((4*pU 1074:Nat):Int).natAbs<2^k:=by subst hk;decide +kernel
 refine Bnearest_1 _ _ _ _ (un ((16*pU 2148:Nat):Int) 2148) (un ((4*pU 1074:Nat):Int) 1074) (un ((pU 1074:Nat):Int) 1074) (un ((3*pU 1074:Nat):Int) 1074) (decide ((4*pU 1074)*(4*pU 1074)=16*pU 2148*pU e0)) w (fun W hW=>?_) (fun W X hW hX=>?_) (fun W hW=>?_) (fun W X Y hW hX hY=>?_) (fun W X hX=>sign_1O (by omega) (by omega) b3 (by decide +kernel) hX) (fun W X hW hX=>?_)
 ·have h:=apartU (x:=4616189618054758400) (y:=0) (u:=0) (v:=0) (X:=((4*pU 1074:Nat):Int)) (Y:=0) (by decide) (by decide) (by decide) (by decide) (by decide) (by decide) (by decide) (by decide) (by decide +kernel) (by decide +kernel) W (hT.later hW) (Tab.later hI hW)
  rw[q16] at h
  exact h
 ·exact proot_pU (b:=k2) (P:=1074) (p:=2148) (by rw[←he0]) (by subst hk2;decide +kernel) (by omega) (by omega) (by omega) (by subst he0;decide +kernel) (by subst he0;decide +kernel) (by decide +kernel) (hT.later hW) hX
 ·have h:=exactU (a:=4607182418800017408) (by decide) (by decide) W (hT.later hW) (Tab.later hI hW)
  rw[show sU 4607182418800017408=((pU 1074:Nat):Int) by decide +kernel] at h
  exact h
 ·have h:=psub_un (p:=1074) b4 b1 (by omega) (by omega) W X Y (hT.later hW) hX hY
  rw[q3p] at h
  exact h
 ·have h:=pround (m:=1) (hT.later hW) (ok_un (p:=1074) b3 (by omega) (by omega)) hX (by decide)
  rw[show tfF (un ((3*pU 1074:Nat):Int) 1074).1 true (un ((3*pU 1074:Nat):Int) 1074).2.1 (un ((3*pU 1074:Nat):Int) 1074).2.2 1=4613937818241073152 by decide +kernel] at h
  exact h
def UpK (G:Nat):Prop:=∀ W A B,Tab32 W→Ie.Tab W→PN W A (un ((pU 1074:Nat):Int) 1074)→PN W B (un ((16*pU 2148:Nat):Int) 2148)→Calls Tryz.prog 118 #[A,B,.agg #[.bool false,.slice none 0 0,.int .i64 0]] W fun r w'=>r=.returned (.tuple #[.float .f64 G,.int .i64 0])∧Bw W w'
theorem farthest_41 {G:Nat} {w:World} (hG:UpK G) (hT:Tab32 w) (hI:Ie.Tab w):Calls Tryz.prog 91 #[.complex .f64 0 0,.agg #[.complex .f64 4616189618054758400 0,.float .f64 4607182418800017408]] w fun r w'=>r=.returned (.float .f64 G)∧Bw w w':=by
 refine Bfarthest_1 0 0 4616189618054758400 0 4607182418800017408 G (un ((pU 1074:Nat):Int) 1074) (un ((16*pU 2148:Nat):Int) 2148) w (fun W hW=>?_) (fun W hW=>?_) (fun W X Y hW hX hY=>hG W X Y (hT.later hW) (Tab.later hI hW) hX hY)
 ·have h:=exactU (a:=4607182418800017408) (by decide) (by decide) W (hT.later hW) (Tab.later hI hW)
  rw[show sU 4607182418800017408=((pU 1074:Nat):Int) by decide +kernel] at h
  exact h
 ·have h:=apartU (x:=0) (y:=0) (u:=4616189618054758400) (v:=0) (X := -((4*pU 1074:Nat):Int)) (Y:=0) (by decide) (by decide) (by decide) (by decide) (by decide) (by decide) (by decide) (by decide) (by decide +kernel) (by decide +kernel) W (hT.later hW) (Tab.later hI hW)
  rw[q16n] at h
  exact h
theorem abs_41 {G:Nat} {w:World} (hG:UpK G) (hT:Tab32 w) (hI:Ie.Tab w):Calls Tryz.prog 60 #[.agg #[.complex .f64 4616189618054758400 0,.float .f64 4607182418800017408]] w fun r w'=>r=.returned (.tuple #[.agg #[.float .f64 4613937818241073152,.float .f64 G],.int .i64 0])∧Bw w w' :=
 BAbs_1 _ _ _ _ G w (fun W=>Ovalid (by decide) (by decide) (by decide) (by decide) (by decide) W) (fun W=>Owhole (by decide) (by decide) (by decide) (by decide) W) (fun W hW=>nearest_41 (hT.later hW) (Tab.later hI hW)) (fun W hW=>farthest_41 hG (hT.later hW) (Tab.later hI hW))
theorem reach_41 {G:Nat} {w:World} (hG:UpK G) (hT:Tab32 w) (hI:Ie.Tab w):Calls Tryz.prog 63 #[.agg #[.complex .f64 4616189618054758400 0,.float .f64 4607182418800017408]] w fun r w'=>r=.returned (.float .f64 4598498563450654039)∧Bw w w' :=
 Oreach_1 _ _ _ 4613937818241073152 G 4616189618054758400 4611686018427387904 4610479282544200874 4615586250113164885 _ w (fun W hW=>abs_41 hG (hT.later hW) (Tab.later hI hW)) (fun W hW=>arithAbs_1 _ _ _ _ W fun V hV=>hyp40 V ((hT.later hW).later hV) (Tab.later (Tab.later hI hW) hV)) (fun W hW=>sqrt4 W (hT.later hW) (Tab.later hI hW)) (fun W hW=>sqrt3 W (hT.later hW) (Tab.later hI hW)) (fun W hW=>addP W (hT.later hW) (Tab.later hI hW)) (fun W hW=>div1P W (hT.later hW) (Tab.later hI hW))
theorem sqrt_41 {G:Nat} {w:World} (hG:UpK G) (hT:Tab32 w) (hI:Ie.Tab w):Calls Tryz.prog 14 #[.agg #[.complex .f64 4616189618054758400 0,.float .f64 4607182418800017408]] w fun r w'=>r=.returned (.tuple #[.agg #[.complex .f64 4611686018427387904 0,.float .f64 4598498563450654039],.int .i64 0,.int .i64 0])∧Bw w w':=by
 refine OSqrt_side _ _ _ _ _ _ w (by decide +kernel) (fun W=>Ovalid (by decide) (by decide) (by decide) (by decide) (by decide) W) (fun W hW=>ray_41 (hT.later hW) (Tab.later hI hW)) (fun W hW=>?_)
 have hT':=hT.later hW
 have hI':=Tab.later hI hW
 exact OoneSide_1 _ _ _ 4611686018427387904 0 0 4598498563450654039 _ W (fun V hV=>point_4 (hT'.later hV) (Tab.later hI' hV)) (fun V hV=>reach_41 hG (hT'.later hV) (Tab.later hI' hV))
  (fun V hV=>BGrow_1 _ _ _ _ _ V (by decide +kernel) (fun W=>Ovalid (by decide) (by decide) (by decide) (by decide) (by decide) W) (fun U hU=>add0R U ((hT'.later hV).later hU) (Tab.later (Tab.later hI' hV) hU)) (fun U _=>OorPlane (by decide) (by decide) (by decide) (by decide) (by decide) U))
attribute [local go_sem] run_store_fltO run_store_cpxO
theorem L18works_1 (R : Nat) (w : World) (hR1 : (FloatKind.f64.format.order R 4598497677278596144 == some Ordering.gt) = true) (hR2 : (FloatKind.f64.format.order R 4598499478718447092 == some Ordering.lt) = true)
    (kC : Hid (∀ W, Calls Tryz.prog 13 #[.float .f64 0, .float .f64 13830554455654793216] W fun r w' => r = .returned (.float .f64 9223372036854775808) ∧ w' = W))
    (k1 : Hid (∀ W, Bw w W → Calls Tryz.prog 5 #[.complex .f64 13839561654909534208 9223372036854775808, .int .i64 2] W fun r w' => r = .returned (.tuple #[.complex .f64 0 13835058055282163712, .int .i64 0]) ∧ Bw W w'))
    (k2 : Hid (∀ W, Bw w W → Calls Tryz.prog 5 #[.complex .f64 4613937818241073152 4616189618054758400, .int .i64 2] W fun r w' => r = .returned (.tuple #[.complex .f64 4611686018427387904 4607182418800017408, .int .i64 0]) ∧ Bw W w'))
    (k3 : Hid (∀ W, Bw w W → Calls Tryz.prog 14 #[.agg #[.complex .f64 13830554455654793216 0, .float .f64 0]] W fun r w' => r = .returned (.tuple #[.agg #[.complex .f64 0 4607182418800017408, .float .f64 0], .int .i64 1, .int .i64 0]) ∧ Bw W w'))
    (k4 : Hid (∀ W, Bw w W → Calls Tryz.prog 14 #[.agg #[.complex .f64 4616189618054758400 0, .float .f64 4607182418800017408]] W fun r w' => r = .returned (.tuple #[.agg #[.complex .f64 4611686018427387904 0, .float .f64 R], .int .i64 0, .int .i64 0]) ∧ Bw W w'))
    (k5 : Hid (∀ W, Calls Tryz.prog 14 #[.agg #[.complex .f64 0 0, .float .f64 13830554455654793216]] W fun r w' => r = .returned (.tuple #[.agg #[.complex .f64 0 0, .float .f64 0], .int .i64 0, .int .i64 140]) ∧ Bw W w'))
    (kO : Hid (∀ a b c W, Calls Tryz.prog 15 #[.float .f64 a, .float .f64 b, .float .f64 c] W fun r w' => r = .returned (.agg #[.complex .f64 a b, .float .f64 c]) ∧ Bw W w'))
    (kS : Hid (∀ W, Calls Tryz.prog 16 #[.agg #[.complex .f64 0 4607182418800017408, .float .f64 0], .agg #[.complex .f64 0 4607182418800017408, .float .f64 0]] W fun r w' => r = .returned (.bool true) ∧ Bw W w')) :
    Calls Tryz.prog 4 #[] w fun r w' => r = .returned (.bool true) ∧ Bw w w' := by
  go_enter Tryz.func4, Tryz.ntmps4
  go_wp2_with fail
  refine (kC.out w).mono ?_
  rintro r w' ⟨rfl, hw⟩
  replace hw := hw.symm
  subst hw
  go_wp2_with fail
  refine (k1.out w (Below.refl _ _)).mono ?_
  rintro r w1 ⟨rfl, hb1⟩
  have H1 : Hid (Bw w w1) := hb1
  clear hb1 k1 kC
  go_wp2_with fail
  refine (k2.out w1 H1.out).mono ?_
  rintro r w2 ⟨rfl, hb1⟩
  have H2 : Hid (Bw w w2) := H1.out.trans (hb1.mono H1.out.size)
  clear hb1 k2 H1
  have kk := kO.out 13830554455654793216 0 0 w2
  go_wp2_with fail
  refine kk.mono ?_
  rintro r w3 ⟨rfl, hb1⟩
  have H3 : Hid (Bw w w3) := H2.out.trans (hb1.mono H2.out.size)
  clear hb1 kk H2
  go_wp2_with fail
  refine (k3.out w3 H3.out).mono ?_
  rintro r u1 ⟨rfl, hb1⟩
  obtain ⟨W1, hW1⟩ : ∃ V, V = u1.alloc (.cells #[.complex .f64 0 4607182418800017408, .float .f64 0] 39) := ⟨_, rfl⟩
  obtain ⟨g1, hg1⟩ : ∃ g, g = u1.heap.size := ⟨_, rfl⟩
  have hb2 : Bw w3 W1 := by rw [hW1]; exact hb1.alloc hb1.size _
  have H4 : Hid (Bw w W1 ∧ BaB W1 g1 0 4607182418800017408 0) := ⟨H3.out.trans (hb2.mono H3.out.size), by rw [hW1, hg1]; exact BaB.new _ _ _ _⟩
  clear hb1 hb2 H3 k3
  go_upto_region 5 with fail
  rw [← hW1, ← hg1]
  clear hW1 hg1
  have kk := kO.out 4616189618054758400 0 4607182418800017408 W1
  go_wp2_with fail
  refine kk.mono ?_
  rintro r w4 ⟨rfl, hb1⟩
  have H5 : Hid (Bw w w4 ∧ BaB w4 g1 0 4607182418800017408 0) := ⟨H4.out.1.trans (hb1.mono H4.out.1.size), H4.out.2.later hb1⟩
  clear hb1 kk H4
  go_wp2_with fail
  refine (k4.out w4 H5.out.1).mono ?_
  rintro r u2 ⟨rfl, hb1⟩
  obtain ⟨W2, hW2⟩ : ∃ V, V = u2.alloc (.cells #[.complex .f64 4611686018427387904 0, .float .f64 R] 39) := ⟨_, rfl⟩
  obtain ⟨g2, hg2⟩ : ∃ g, g = u2.heap.size := ⟨_, rfl⟩
  have hb2 : Bw w4 W2 := by rw [hW2]; exact hb1.alloc hb1.size _
  have H6 : Hid (Bw w W2 ∧ BaB W2 g1 0 4607182418800017408 0 ∧ BaB W2 g2 4611686018427387904 0 R) := ⟨H5.out.1.trans (hb2.mono H5.out.1.size), H5.out.2.later hb2, by rw [hW2, hg2]; exact BaB.new _ _ _ _⟩
  clear hb1 hb2 H5 k4
  go_upto_region 6 with fail
  rw [← hW2, ← hg2]
  clear hW2 hg2
  have kk := kO.out 0 0 13830554455654793216 W2
  go_wp2_with fail
  refine kk.mono ?_
  rintro r w5 ⟨rfl, hb1⟩
  have H7 : Hid (Bw w w5 ∧ BaB w5 g1 0 4607182418800017408 0 ∧ BaB w5 g2 4611686018427387904 0 R) := ⟨H6.out.1.trans (hb1.mono H6.out.1.size), H6.out.2.1.later hb1, H6.out.2.2.later hb1⟩
  clear hb1 kk H6
  go_wp2_with fail
  refine (k5.out w5).mono ?_
  rintro r u3 ⟨rfl, hb1⟩
  obtain ⟨W3, hW3⟩ : ∃ V, V = u3.alloc (.cells #[.complex .f64 0 0, .float .f64 0] 39) := ⟨_, rfl⟩
  obtain ⟨g3, hg3⟩ : ∃ g, g = u3.heap.size := ⟨_, rfl⟩
  have hb2 : Bw w5 W3 := by rw [hW3]; exact hb1.alloc hb1.size _
  have H8 : Hid (Bw w W3 ∧ BaB W3 g1 0 4607182418800017408 0 ∧ BaB W3 g2 4611686018427387904 0 R) := ⟨H7.out.1.trans (hb2.mono H7.out.1.size), H7.out.2.1.later hb2, H7.out.2.2.later hb2⟩
  clear hb1 hb2 H7 k5
  go_upto_region 7 with fail
  rw [← hW3, ← hg3]
  clear hW3 hg3
  have HK : Hid (∀ w', Bw W3 w' → (w'.cell? ⟨g1, 0, none⟩ = some (.complex .f64 0 4607182418800017408) ∧ w'.cell? ⟨g1, 1, none⟩ = some (.float .f64 0)) ∧ w'.cell? ⟨g2, 0, none⟩ = some (.complex .f64 4611686018427387904 0) ∧ w'.cell? ⟨g2, 1, none⟩ = some (.float .f64 R)) := fun w' hb => ⟨(H8.out.2.1.later hb).facts.1, (H8.out.2.2.later hb).facts.1⟩
  have q1 : ∀ W', Bw W3 W' → Calls Tryz.prog 15 #[.float .f64 0, .float .f64 4607182418800017408, .float .f64 0] W' fun r w' => r = .returned (.agg #[.complex .f64 0 4607182418800017408, .float .f64 0]) ∧ Bw W3 w' := fun W' h => (kO.out _ _ _ W').mono fun r w' ⟨h1, h3⟩ => ⟨h1, h.trans (h3.mono h.size)⟩
  have q2 : ∀ W', Bw W3 W' → Calls Tryz.prog 16 #[.agg #[.complex .f64 0 4607182418800017408, .float .f64 0], .agg #[.complex .f64 0 4607182418800017408, .float .f64 0]] W' fun r w' => r = .returned (.bool true) ∧ Bw W3 w' := fun W' h => (kS.out W').mono fun r w' ⟨h1, h3⟩ => ⟨h1, h.trans (h3.mono h.size)⟩
  have hRr : Bw W3 W3.drew := (Below.refl _ _).drew
  obtain ⟨⟨y0, y1⟩, y2, y3⟩ := HK.out W3 (Below.refl _ _)
  clear kO kS
  go_region_held3 (fun w' => (w'.cell? ⟨g1, 0, none⟩ = some (.complex .f64 0 4607182418800017408) ∧ w'.cell? ⟨g1, 1, none⟩ = some (.float .f64 0)) ∧ w'.cell? ⟨g2, 0, none⟩ = some (.complex .f64 4611686018427387904 0) ∧ w'.cell? ⟨g2, 1, none⟩ = some (.float .f64 R)) (first | (with_reducible assumption) | exact HK.out _ hRr | (refine HK.out _ ?_; with_reducible assumption))
    (first | (go_at_call 15; with_reducible refine (q1 _ hRr).mono ?_; rintro r x1 ⟨rfl, hx1⟩)
           | (go_at_call 16; with_reducible refine (q2 _ hx1).mono ?_; rintro r x2 ⟨rfl, hx2⟩))
  go_wp2_with fail
  go_ret
  exact ⟨rfl, H8.out.1.trans (hx2.mono H8.out.1.size)⟩
theorem upK_ex:∃ G,UpK G:=by
 obtain⟨k,hk⟩:∃ k,2300=k:=⟨_,rfl⟩
 obtain⟨k2,hk2⟩:∃ k,5000=k:=⟨_,rfl⟩
 have b1:((pU 1074:Nat):Int).natAbs<2^k:=by subst hk;decide +kernel
 have b2:((16*pU 2148:Nat):Int).natAbs<2^k2:=by subst hk2;decide +kernel
 have o1:=ok_un (p:=1074) b1 (by omega) (by omega)
 have o2:=ok_un (p:=2148) b2 (by omega) (by omega)
 have o3:Ok nilN:=by rw[←un_0 0];exact ok_un (b:=1) (by decide) (by decide) (by decide)
 obtain⟨n,hn⟩:=lst_ex (un ((pU 1074:Nat):Int) 1074) (un ((16*pU 2148:Nat):Int) 2148) nilN
 refine⟨upA (un ((pU 1074:Nat):Int) 1074) (un ((16*pU 2148:Nat):Int) 2148) nilN n,fun W A B hT hI hA hB=>?_⟩
 refine(pup_ok hT hI o1 o2 o3 un_nat rfl hA hB (pn_nilN W)).mono ?_
 rintro r w' ⟨m,rfl,hm,hb⟩
 rw[hm.one hn]
 exact⟨rfl,hb⟩
theorem works18_ok {w:World} (hT:Tab32 w) (hI:Ie.Tab w):Calls Tryz.prog 4 #[] w fun r w'=>r=.returned (.bool true)∧Bw w w':=by
 obtain⟨G,hG⟩:=upK_ex
 exact L18works_1 4598498563450654039 w (by decide +kernel) (by decide +kernel) P6copy (fun W hW=>q_n40 (hT.later hW) (Tab.later hI hW)) (fun W hW=>q_34 (hT.later hW) (Tab.later hI hW)) (fun W hW=>sqrt_m1 (hT.later hW) (Tab.later hI hW)) (fun W hW=>sqrt_41 hG (hT.later hW) (Tab.later hI hW)) Osqrt_neg L18of (L18same 0 4607182418800017408 0 (by decide) (by decide) (by decide))
theorem rootLeast_ok {f:Nat} {w:World} (hf:f<18446744073709551616) (hT:Tab32 w) (hI:Ie.Tab w):Calls Tryz.prog 3 #[.float .f64 f] w fun r w'=>r=.returned (.bool true)∧Bw w w' :=
 rootLeast_w hf hT hI fun W hW=>works18_ok (hT.later hW) (Tab.later hI hW)
end Go.Proofs.YtgdhdailchonmabGreatDoor
