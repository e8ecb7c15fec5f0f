/- Own work: contracts of the program's functions, part 16: NK5 CQ2 CQ3 CQ4 CQ5 CQ6 CQ7 CQ8 CQ9. -/
import Derived.Test.YtapooodfgcjoaaaGreatA15
import Derived.Test.YtapooodfgcjoaaaGreatA13
import Derived.Test.YtapooodfgcjoaaaGreatA5
import Derived.Test.YtapooodfgcjoaaaGreatA11
import Derived.Test.YtapooodfgcjoaaaGreatA4

set_option maxHeartbeats 16000000
set_option maxRecDepth 200000
set_option linter.unusedVariables false
set_option linter.unusedSimpArgs false
namespace Go.Proofs.YtapooodfgcjoaaaGreat
open Go Go.RowKit Go.Fl64
structure EB (k pl:Nat) (lo hi:Int) (q:Nat):Prop where
 q1:pl+47≤q
 q2:q≤pl+49
 low:lo*((2^(Z0+kq k - q):Nat):Int)≤kM k
 high:(kM k:Int)≤hi*((2^(Z0+kq k - q):Nat):Int)
 gap:hi - lo≤274877906944
def EncK (k pl:Nat) (X Y:Value) (w:World):Prop :=
 ∃ lo hi q,EB k pl lo hi q∧Calls Tryz.prog 17 #[.int .i64 k,X,Y,.int .i64 pl] w fun r w'=>OutQ w (un lo q) (un hi q) r w'
theorem IB.ends {Z p:Nat} {x M:Int} {G H:Nat} (h:IB Z p x M G) (hG:G≤H):(x - H)*((2^(Z - p):Nat):Int)≤M∧M≤(x+H)*((2^(Z - p):Nat):Int):=by
 have:=h.wide hG
 exact⟨this.low,this.high⟩
theorem root_two {q s n Q:Nat} (hq:q≤4200) (h1:s*s≤n*4^q) (h2:n*4^q<(s+1)*(s+1)) (r1:Q*Q≤n*2^(2*Z0)) (r2:n*2^(2*Z0)<(Q+1)*(Q+1)) :
  s*2^(Z0 - q)≤Q∧Q≤(s+1)*2^(Z0 - q):=by
 have hz:=zP (q:=q) hq
 have hP:=Nat.two_pow_pos (Z0 - q)
 have e4:4^q=2^q*2^q:=by rw[←Nat.mul_pow]
 have eZ:2^(2*Z0)=2^Z0*2^Z0:=by rw[Nat.two_mul,Nat.pow_add]
 rw[eZ,hz] at r1 r2
 rw[e4] at h1 h2
 generalize 2^(Z0 - q)=P at *
 generalize 2^q=X at *
 constructor
 ·rcases Nat.lt_or_ge Q (s*P)with h|h
  ·exfalso
   have a:=Nat.mul_le_mul (show Q+1≤s*P from h) (show Q+1≤s*P from h)
   have b:=Nat.mul_le_mul_right (P*P) h1
   have x1:s*P*(s*P)=s*s*(P*P):=by grind
   have x2:n*(X*X)*(P*P)=n*(X*P*(X*P)):=by grind
   omega
  ·exact h
 ·rcases Nat.lt_or_ge ((s+1)*P) Q with h|h
  ·exfalso
   have a:=Nat.mul_le_mul (Nat.le_of_lt h) (Nat.le_of_lt h)
   have b:=Nat.mul_lt_mul_of_pos_right h2 (Nat.mul_pos hP hP)
   have x1:(s+1)*P*((s+1)*P)=(s+1)*(s+1)*(P*P):=by grind
   have x2:n*(X*X)*(P*P)=n*(X*P*(X*P)):=by grind
   omega
  ·exact h
theorem root_ib {q s n Q:Nat} (hq:q≤4200) (h1:s*s≤n*4^q) (h2:n*4^q<(s+1)*(s+1)) (r1:Q*Q≤n*2^(2*Z0)) (r2:n*2^(2*Z0)<(Q+1)*(Q+1)):IB Z0 q (s:Int) Q 1:=by
 obtain⟨a,b⟩:=root_two hq h1 h2 r1 r2
 have a':((s*2^(Z0 - q):Nat):Int)≤Q:=Int.ofNat_le.2 a
 have b':(Q:Int)≤(((s+1)*2^(Z0 - q):Nat):Int):=Int.ofNat_le.2 b
 rw[Int.natCast_mul] at a' b'
 rw[Int.natCast_add] at b'
 exact⟨Int.le_trans (Int.mul_le_mul_of_nonneg_right (by omega) (Int.natCast_nonneg _)) a',b'⟩
theorem gold_lo (s Q P:Int):(s+((1:Nat):Int)*Q - ((2:Nat):Int)*((2^1:Nat):Int))*P=(s - ((4:Nat):Int))*P+Q*P:=by rw[←Int.add_mul];congr 1;omega
theorem gold_hi (s Q P:Int):(s+((1:Nat):Int)*Q+((2:Nat):Int)*((2^1:Nat):Int))*P=(s+((4:Nat):Int))*P+Q*P:=by rw[←Int.add_mul];congr 1;omega
theorem rt4 (n q:Nat):∃ s,s*s≤n*4^q∧n*4^q<(s+1)*(s+1):=root_ex _
theorem enc_k {k pl:Nat} {X Y:Value} {tx ty:Bool×Nat×Int} {w:World} (k1:1≤k) (k8:k≤8) (h1:64≤pl) (h2:pl≤4064) (hX:DN w X tx) (hY:DN w Y ty):EncK k pl X Y w:=by
 have hpi:=piV_ib (p:=pl+48) (by omega) (by omega)
 rcases(by omega:k=1∨k=2∨k=3∨k=4∨k=5∨k=6∨k=7∨k=8)with rfl|rfl|rfl|rfl|rfl|rfl|rfl|rfl
 ·obtain⟨a,b⟩:=hpi.ends (H:=4294967296) (by decide)
  exact⟨_,_,_,⟨by omega,by omega,a,b,by omega⟩,dencPi (by omega) hX hY⟩
 ·obtain⟨a,b⟩:=hpi.ends (H:=8589934592) (by decide)
  refine⟨_,_,_,⟨by omega,by omega,?_,?_,?_⟩,dencHalfPi (by omega) hX hY⟩
  ·rw[show Z0+kq 2 - (pl+48+1)=Z0 - (pl+48) by show Z0+1 - _=_;omega];exact a
  ·rw[show Z0+kq 2 - (pl+48+1)=Z0 - (pl+48) by show Z0+1 - _=_;omega];exact b
  ·show _+((4294967296:Nat):Int)*((2^1:Nat):Int) - (_ - ((4294967296:Nat):Int)*((2^1:Nat):Int))≤_
   generalize piV (pl+48)=z
   omega
 ·have h3:=hpi.mul 2
  have e:((2:Nat):Int)*piV (pl+48)=piV (pl+48)*((2^1:Nat):Int):=Int.mul_comm _ _
  have e2:((kM 3:Nat):Int)=((2:Nat):Int)*(nPI:Int):=by show((nPI*2:Nat):Int)=_;omega
  rw[e,←e2] at h3
  obtain⟨a,b⟩:=h3.ends (H:=4294967296) (by decide)
  exact⟨_,_,_,⟨by omega,by omega,a,b,by generalize piV (pl+48)*((2^1:Nat):Int)=z;omega⟩,dencTwoPi (by omega) hX hY⟩
 ·obtain⟨s,hs,hc⟩:=encE (w:=w) h1 h2 hX hY
  obtain⟨a,b⟩:=hs.ends (H:=4294967296) (by decide)
  exact⟨_,_,_,⟨by omega,by omega,a,b,by omega⟩,hc⟩
 ·obtain⟨a,b⟩:=(ln2V_ib (p:=pl+48) (by omega) (by omega)).ends (H:=4294967296) (by decide)
  exact⟨_,_,_,⟨by omega,by omega,a,b,by omega⟩,dencLn2 (by omega) hX hY⟩
 ·obtain⟨v,hs,hc⟩:=encLn10 (w:=w) h1 h2 hX hY
  obtain⟨a,b⟩:=hs.ends (H:=68719476736) (by decide)
  exact⟨_,_,_,⟨by omega,by omega,a,b,by omega⟩,hc⟩
 ·obtain⟨s,s1,s2⟩:=rt4 2 (pl+48)
  obtain⟨a,b⟩:=(root_ib (by omega) s1 s2 rq2.1 rq2.2).ends (H:=2) (by decide)
  exact⟨_,_,_,⟨by omega,by omega,a,b,by omega⟩,dencSqrt2 (by omega) s1 s2 hX hY⟩
 ·obtain⟨s,s1,s2⟩:=rt4 5 (pl+48)
  obtain⟨a,b⟩:=(root_ib (by omega) s1 s2 rq5.1 rq5.2).ends (H:=4) (by decide)
  have hz:=zP (q:=pl+48) (by omega)
  have e0:Z0+kq 8 - (pl+48+1)=Z0 - (pl+48):=by show Z0+1 - _=_;omega
  have e1:((kM 8:Nat):Int)=(nQ5:Int)+((2^(pl+48):Nat):Int)*((2^(Z0 - (pl+48)):Nat):Int):=by
   rw[←Int.natCast_mul,←hz]
   show((nQ5+1*2^Z0:Nat):Int)=_
   rw[Nat.one_mul,Int.natCast_add]
  refine⟨_,_,_,⟨by omega,by omega,?_,?_,?_⟩,dencGolden (by omega) s1 s2 hX hY⟩
  ·rw[e0,e1,gold_lo]
   exact Int.add_le_add_right a _
  ·rw[e0,e1,gold_hi]
   exact Int.add_le_add_right b _
  ·generalize ((2^(pl+48):Nat):Int)=Q
   omega
theorem to_un {Z:Nat} (s:Bool) {e m:Int} (hm:1≤m∧m≤3) (hZ:Z≠0):tfF s true (Z / 2^tz Z) ((tz Z:Int)+e) m=tfF s true Z e m:=by
 have sZ:=(tz_spec _ _ (Nat.le_refl _) hZ).1
 rw[Nat.mul_comm] at sZ
 have h:=tf_shl (s:=s) (x:=Z / 2^tz Z) (n:=tz Z) (e:=e) hm
 rw[sZ] at h
 rw[h]
 congr 1
 omega
theorem un_sgn {Z P:Nat} (s:Bool) (hZ:Z≠0):un (if s then -(Z:Int) else(Z:Int)) P=(s,Z / 2^tz Z,(tz Z:Int) - (P:Int)):=by
 cases s
 ·rw[if_neg (by decide)]
  unfold un cn
  rw[Int.natAbs_natCast,if_neg hZ,decide_eq_false (by omega)]
  simp;omega
 ·rw[if_pos rfl]
  unfold un cn
  rw[Int.natAbs_neg,Int.natAbs_natCast,if_neg hZ,decide_eq_true (by omega)]
  simp;omega
theorem rto_0 (na:Bool) (ua:Option Addr) (uc:Nat) (ea m:Int) (w:World):Calls Tryz.prog 63 #[.agg #[.bool na,.slice ua 0 uc,.int .i64 ea],.int .i64 m] w fun r w'=>r=.returned (.float .f64 0)∧Bw w w':=by
 obtain⟨W,hW⟩:∃ W,W=w.alloc (.cells #[.bool na,.slice ua 0 uc,.int .i64 ea] 45):=⟨_,rfl⟩
 have HB:Hid (Bw w W):=(by rw[hW];exact(Below.refl _ _).alloc (Nat.le_refl _) _:Bw w W)
 go_enter Tryz.func63,Tryz.ntmps63
 go_wp2
 go_ret
 exact⟨rfl,hW ▸ HB.out⟩
theorem odd_cn {t:Bool×Nat×Int} (hc:cn t.1 t.2.1 t.2.2=t) (h0:t.2.1≠0):t.2.1 % 2=1:=by
 have h1:=(tz_spec _ _ (Nat.le_refl _) h0).2
 have h2:t.2.1 / 2^tz t.2.1=t.2.1:=by
  have:=congrArg (fun u:Bool×Nat×Int=>u.2.1) hc
  unfold cn at this
  rw[if_neg h0] at this
  exact this
 rw[h2] at h1
 exact h1
def toD (t:Bool×Nat×Int) (m:Int):Nat:=if t.2.1=0 then 0 else tfF t.1 true t.2.1 t.2.2 m
theorem toD_un {Z P:Nat} (s:Bool) {m:Int} (hm:1≤m∧m≤3) (hZ:Z≠0):toD (un (if s then -(Z:Int) else(Z:Int)) P) m=tfF s true Z (-(P:Int)) m:=by
 rw[un_sgn s hZ]
 unfold toD
 have h3:=(tz_spec _ _ (Nat.le_refl _) hZ).1
 have h0:¬ (Z / 2^tz Z=0):=fun h9=>by rw[h9,Nat.mul_zero] at h3;omega
 rw[if_neg (show ¬ ((s,Z / 2^tz Z,(tz Z:Int) - (P:Int)):Bool×Nat×Int).2.1=0 from h0)]
 exact to_un s (e := -(P:Int)) hm hZ
theorem Rounds.step {A u b0 b2:Nat} (h0:Rounds A u b0 0) (h2:Rounds A u b2 2):b0≤b2∧b2≤b0+1:=by
 obtain⟨c0,⟨p1,p2⟩,q0,-,-⟩:=h0.fl
 obtain⟨c2,⟨r1,r2⟩,-,s2,-⟩:=h2.fl
 have e0:=q0 rfl
 have e2:=s2 rfl
 have h1:=floor_mono (Nat.le_refl A) p1 r2
 have h3:=floor_mono (Nat.le_refl A) r1 p2
 have:c0=c2:=by omega
 subst this
 rw[e0,e2]
 split <;> omega
theorem bdy_step {x:Nat} {e:Int} (he : -65536≤e):bdy x e 2≤bdy x e 0+1:=by
 by_cases hx:x=0
 ·unfold bdy;rw[if_pos hx,if_pos hx];omega
 ·obtain⟨h1,h2⟩:=Rounds.step (VA_rounds (K:=70000) (by omega) hx he) (VA_rounds (K:=70000) (by omega) hx he)
  unfold bdy
  rw[if_neg hx,if_neg hx]
  by_cases g0:rwb x e 0<9218868437227405312
  ·rw[if_pos g0]
   by_cases g2:rwb x e 2<9218868437227405312
   ·rw[if_pos g2];omega
   ·rw[if_neg g2,if_neg (by decide)];omega
  ·rw[if_neg g0,if_pos rfl,if_neg (by omega),if_neg (by decide)];omega
theorem dtoQ {t:Bool×Nat×Int} {m:Int} (o:Gn t) (hm:1≤m∧m≤3) {W:World} {A:Value} (h:DN W A t):Calls Tryz.prog 63 #[A,.int .i64 m] W fun r w'=>r=.returned (.float .f64 (toD t m))∧Bw W w':=by
 obtain⟨ao,cap,rfl,hA⟩:=h
 unfold toD
 by_cases h0:t.2.1=0
 ·rw[if_pos h0,h0,dlen_zero]
  exact rto_0 t.1 ao cap t.2.2 m W
 ·rw[if_neg h0,tf_bdy hm]
  exact rto hA.at_ hA.le (odd_cn o.1 h0) (by have:=o.2.1;omega) (by have:=o.2.2.1;omega) (by have:=o.2.2.2;omega) hm
open Ie
theorem bdy_two {X c:Nat} {e:Int} (he : -65536≤e) (h1:bv c*UU 70000<VA 70000 X e) (h2:VA 70000 X e<bv (c+1)*UU 70000) (hc:c+1<9218868437227405312):bdy X e 0=c∧bdy X e 2=c+1:=by
 obtain⟨o1,o2,o3,o4,o5,o6⟩:=bdy_order (K:=70000) (by omega) (x:=X) (e:=e) he
 have o7:=bdy_step (x:=X) he
 have u:=UU_pos 70000
 have a1:bv (bdy X e 0)<bv (c+1):=Nat.lt_of_mul_lt_mul_right (a:=UU 70000) (Nat.lt_of_le_of_lt o4 h2)
 have a2:=bv_inj_lt a1
 have a3:bdy X e 0=c:=by
  apply Decidable.byContradiction
  intro hne
  have b1:bdy X e 2≤c:=by omega
  have b2:=o5 (by omega)
  have b3:=Nat.mul_le_mul_right (UU 70000) (bv_le b1)
  omega
 refine⟨a3,?_⟩
 apply Decidable.byContradiction
 intro hne
 have b1:bdy X e 0=bdy X e 2:=by omega
 have b2:=o6 b1
 rw[a3] at b2
 omega
theorem UU_eq {K L:Nat} (h:L=K - 1074):UU K=2^L:=by unfold UU;rw[h]
theorem pw_eq (x j K D S:Nat) (h:j+K=D+S):x*2^j*2^K=x*2^D*2^S:=by
 rw[Nat.mul_assoc,Nat.mul_assoc,←Nat.pow_add,←Nat.pow_add,h]
theorem bdy_first {Z q D a j T:Nat} (hT:D+1074=j+T) (hq:q≤T) (hT2:T≤60000) (h1:a*2^D<Z*2^(T - q)) (h2:Z*2^(T - q)<(a+1)*2^D) (a1:4503599627370496≤a) (a2:a+1≤9007199254740992) (hj:j≤2000):bdy Z (-(q:Int)) 0=j*4503599627370496+a∧bdy Z (-(q:Int)) 2=j*4503599627370496+a+1:=by
 have v1:=bv_at (j:=j) (q:=a) (.inr ⟨a1,by omega⟩)
 have v2:=bv_at (j:=j) (q:=a+1) (.inr ⟨by omega,a2⟩)
 obtain⟨S,hS⟩:∃ S,S=70000 - T:=⟨_,rfl⟩
 obtain⟨L,hL⟩:∃ L:Nat,L=68926:=⟨_,rfl⟩
 have e1:UU 70000=2^L:=UU_eq (by omega)
 have e2:VA 70000 Z (-(q:Int))=Z*2^(T - q)*2^S:=by
  show Z*2^(-(q:Int)+((70000:Nat):Int)).toNat=_
  rw[Nat.mul_assoc,←Nat.pow_add,show T - q+S=(-(q:Int)+((70000:Nat):Int)).toNat by omega]
 have e3:∀ x:Nat,x*2^j*UU 70000=x*2^D*2^S:=by
  intro x
  rw[e1]
  exact pw_eq x j L D S (by omega)
 refine bdy_two (by omega) ?_ ?_ (by omega)
 ·rw[v1,e3,e2]
  exact Nat.mul_lt_mul_of_pos_right h1 (Nat.two_pow_pos S)
 ·rw[show j*4503599627370496+a+1=j*4503599627370496+(a+1) by omega,v2,e3,e2]
  exact Nat.mul_lt_mul_of_pos_right h2 (Nat.two_pow_pos S)
theorem to_unP {Z q c c' b:Nat} {m:Int} {A:Value} {w:World} (hm:m=1∨m=3) (hZ:Z≠0) (h:DN w A (un (Z:Int) q)) (hb:Z<2^b) (hb2:b≤60000) (hq:q≤60000) (h0:bdy Z (-(q:Int)) 0=c) (h2:bdy Z (-(q:Int)) 2=c') :
  Calls Tryz.prog 63 #[A,.int .i64 m] w fun r w'=>r=.returned (.float .f64 (if m=1 then c else c'))∧Bw w w':=by
 have o:=un_gn (p:=q) (Z:=(Z:Int)) (b:=b) (by rw[Int.natAbs_natCast];exact hb) (by omega) (by omega)
 have k:=dtoQ o (show 1≤m∧m≤3 by omega) h
 have e:=toD_un (P:=q) false (show 1≤m∧m≤3 by omega) hZ
 rw[if_neg (by decide)] at e
 rw[e,tf_bdy (by omega)] at k
 rcases hm with rfl|rfl
 ·rw[show wyN false 1=0 from rfl,h0] at k
  exact k
 ·rw[show wyN false 3=2 from rfl,h2] at k
  exact k
theorem to_unN {Z q c c' b:Nat} {m:Int} {A:Value} {w:World} (hm:m=1∨m=3) (hZ:Z≠0) (h:DN w A (un (-(Z:Int)) q)) (hb:Z<2^b) (hb2:b≤60000) (hq:q≤60000) (h0:bdy Z (-(q:Int)) 0=c) (h2:bdy Z (-(q:Int)) 2=c') :
  Calls Tryz.prog 63 #[A,.int .i64 m] w fun r w'=>r=.returned (.float .f64 (if m=1 then c'+9223372036854775808 else c+9223372036854775808))∧Bw w w':=by
 have o:=un_gn (p:=q) (Z := -(Z:Int)) (b:=b) (by rw[Int.natAbs_neg,Int.natAbs_natCast];exact hb) (by omega) (by omega)
 have k:=dtoQ o (show 1≤m∧m≤3 by omega) h
 have e:=toD_un (P:=q) true (show 1≤m∧m≤3 by omega) hZ
 rw[if_pos rfl] at e
 rw[e,tf_bdy (by omega)] at k
 rcases hm with rfl|rfl
 ·rw[show wyN true 1=2 from rfl,h2] at k
  exact k
 ·rw[show wyN true 3=0 from rfl,h0] at k
  exact k
attribute [local go_sem] run_store_fltK
def dzB (W:World) (g:Nat) (s1:Bool) (ao1:Option Addr) (n1 cp1:Nat) (e1:Int) (s2:Bool) (ao2:Option Addr) (n2 cp2:Nat) (e2:Int) (TL TH:Bool×Nat×Int):Prop :=
 W.heap[g]?=some (.cells #[.bool s1,.slice ao1 n1 cp1,.int .i64 e1,.bool s2,.slice ao2 n2 cp2,.int .i64 e2] 47 (0,0))∧DN W (.agg #[.bool s1,.slice ao1 n1 cp1,.int .i64 e1]) TL∧DN W (.agg #[.bool s2,.slice ao2 n2 cp2,.int .i64 e2]) TH
theorem dzB.later {W W':World} {g:Nat} {s1:Bool} {ao1:Option Addr} {n1 cp1:Nat} {e1:Int} {s2:Bool} {ao2:Option Addr} {n2 cp2:Nat} {e2:Int} {TL TH:Bool×Nat×Int} (h:dzB W g s1 ao1 n1 cp1 e1 s2 ao2 n2 cp2 e2 TL TH) (hb:Bw W W'):dzB W' g s1 ao1 n1 cp1 e1 s2 ao2 n2 cp2 e2 TL TH :=
 ⟨(hb.block _ (Array.getElem?_eq_some_iff.1 h.1).1).trans h.1,h.2.1.later hb,h.2.2.later hb⟩
theorem two29v (a b c d e f:Value) {w V:World} (h:V=(w.alloc (.cells #[a,b,c] 45)).alloc (.cells #[d,e,f] 45)):V.heap[w.heap.size]?=some (.cells #[a,b,c] 45 (0,0))∧V.heap[w.heap.size+1]?=some (.cells #[d,e,f] 45 (0,0))∧True:=by
 have h1:(w.alloc (.cells #[a,b,c] 45)).heap[w.heap.size]?=some (.cells #[a,b,c] 45 (0,0)):=heap_alloc_new _ _
 have h2:=heap_alloc_new (w.alloc (.cells #[a,b,c] 45)) (.cells #[d,e,f] 45)
 refine⟨?_,?_,trivial⟩
 ·rw[h]
  exact(((Below.refl _ _).alloc (Nat.le_refl _) _:Below (w.alloc (.cells #[a,b,c] 45)).heap.size (w.alloc (.cells #[a,b,c] 45)) _).block _ (by simp)).trans h1
 ·rw[h]
  simpa using h2
theorem dplain {F:Nat} (h:(FloatKind.f64.format.order F 0==some Ordering.eq)=false) (w:World):Calls Tryz.prog 64 #[.float .f64 F] w fun r w'=>r=.returned (.float .f64 F)∧w'=w:=by
 go_enter Tryz.func64,Tryz.ntmps64
 go_wp2
 go_ret
 exact⟨rfl,rfl⟩
theorem dtighten_1 (k sg : Int) (sx : Bool) (ax : Option Addr) (nx cx : Nat) (ex : Int) (sy : Bool) (ay : Option Addr) (ny cy : Nat) (ey : Int) (A : Bool × Nat × Int → Prop) (F0 F1 : Nat) (w : World)
    (kE : Hid (∀ W : World, Bw w W → Calls Tryz.prog 17 #[.int .i64 k, .agg #[.bool sx, .slice ax nx cx, .int .i64 ex], .agg #[.bool sy, .slice ay ny cy, .int .i64 ey], .int .i64 128] W fun r w' => ∃ TL TH, A TL ∧ A TH ∧ OutQ W TL TH r w'))
    (kS : Hid (∀ T (W : World) X, A T → DN W X T → Calls Tryz.prog 58 #[X] W fun r w' => r = .returned (.int .i64 sg) ∧ Bw W w'))
    (kD : Hid (∀ T (W : World) X, A T → DN W X T → Calls Tryz.prog 63 #[X, .int .i64 1] W fun r w' => r = .returned (.float .f64 F0) ∧ Bw W w'))
    (kU : Hid (∀ T (W : World) X, A T → DN W X T → Calls Tryz.prog 63 #[X, .int .i64 3] W fun r w' => r = .returned (.float .f64 F1) ∧ Bw W w'))
    (hs : sg = 1 ∨ sg = -1)
    (o1 : (FloatKind.f64.format.order F0 F0 == some Ordering.eq) = true) (o2 : (FloatKind.f64.format.order F1 F1 == some Ordering.eq) = true) (o3 : (FloatKind.f64.format.order F0 F1 == some Ordering.lt) = true)
    (o4 : (FloatKind.f64.format.order F0 0 == some Ordering.eq) = false) (o5 : (FloatKind.f64.format.order F1 0 == some Ordering.eq) = false) :
    Calls Tryz.prog 22 #[.int .i64 k, .agg #[.bool sx, .slice ax nx cx, .int .i64 ex], .agg #[.bool sy, .slice ay ny cy, .int .i64 ey]] w fun r w' => r = .returned (.agg #[.float .f64 F0, .float .f64 F1]) ∧ Bw w w' := by
  have hm : IntKind.i64.wrap (sg * sg) = 1 := by rcases hs with rfl | rfl <;> rfl
  obtain ⟨V, hV⟩ : ∃ V, V = (w.alloc (.cells #[.bool sx, .slice ax nx cx, .int .i64 ex] 45)).alloc (.cells #[.bool sy, .slice ay ny cy, .int .i64 ey] 45) := ⟨_, rfl⟩
  obtain ⟨W, hW⟩ : ∃ W, W = V.alloc (.cells #[.float .f64 0, .float .f64 0] 24) := ⟨_, rfl⟩
  have hbV : Bw w V := by rw [hV]; exact ((Below.refl _ _).alloc (Nat.le_refl _) _).alloc (by simp) _
  have hsV : V.heap.size = w.heap.size + 1 + 1 := by rw [hV]; simp
  have hbW : Bw V W := by rw [hW]; exact (Below.refl _ _).alloc (Nat.le_refl _) _
  have hI : IvK W (w.heap.size + 1 + 1) 0 0 := by rw [hW, ← hsV]; exact IvK.new _ _ _
  obtain ⟨hz1, hz2, -⟩ := two29v _ _ _ _ _ _ hV
  have hz1' := (hbW.block _ (Array.getElem?_eq_some_iff.1 hz1).1).trans hz1
  have hz2' := (hbW.block _ (Array.getElem?_eq_some_iff.1 hz2).1).trans hz2
  obtain ⟨⟨y0, y1, y2⟩, -⟩ := box_cells29 hz1'
  obtain ⟨⟨z0, z1, z2⟩, -⟩ := box_cells29 hz2'
  have HX : Hid (Bw w W ∧ IvK W (w.heap.size + 1 + 1) 0 0) := ⟨hbV.trans (hbW.mono hbV.size), hI⟩
  rw [hV] at hW
  clear hV hbV hsV hbW hI hz1 hz2 hz1' hz2'
  have kk := kE.out W HX.out.1
  clear kE
  go_enter Tryz.func22, Tryz.ntmps22
  go_upto_region 1 with fail
  rw [← hW]
  clear hW
  go_wp2_with fail
  go_loopw [7] (fun sp wr => sp = .int .i64 128 ∧ wr = W) (fun _ _ => 0)
  case atStart => exact ⟨rfl, rfl⟩
  case round =>
    obtain ⟨rfl, rfl⟩ := hrel
    go_wp2_with fail
    refine kk.mono ?_
    rintro r u2 ⟨TL, TH, hTL, hTH, U, rfl, ⟨s2, ao2, n2, cp2, e2, s3, ao3, n3, cp3, e3, rfl, hd1, hd2⟩, hb2⟩
    clear kk y0 y1 y2 z0 z1 z2
    obtain ⟨V4, hV4⟩ : ∃ V, V = u2.alloc (.cells #[.bool false, .slice none 0 0, .int .i64 0, .bool false, .slice none 0 0, .int .i64 0] 47) := ⟨_, rfl⟩
    have hbV4 : Bw u2 V4 := by rw [hV4]; exact (Below.refl _ _).alloc (Nat.le_refl _) _
    have hzV4 : V4.heap[u2.heap.size]? = some (.cells #[.bool false, .slice none 0 0, .int .i64 0, .bool false, .slice none 0 0, .int .i64 0] 47 (0, 0)) := by rw [hV4]; exact heap_alloc_new _ _
    obtain ⟨⟨y0, y1, y2, y3, y4, y5⟩, f0, f1, f2, f3, f4, f5⟩ := box_cells6 hzV4
    have HZ : Hid (DN u2 (.agg #[.bool s2, .slice ao2 n2 cp2, .int .i64 e2]) TL ∧ DN u2 (.agg #[.bool s3, .slice ao3 n3 cp3, .int .i64 e3]) TH ∧ Bw wr u2 ∧ Bw u2 V4 ∧ V4.heap[u2.heap.size]? = some (.cells #[.bool false, .slice none 0 0, .int .i64 0, .bool false, .slice none 0 0, .int .i64 0] 47 (0, 0))) := ⟨hd1, hd2, hb2, hbV4, hzV4⟩
    clear hd1 hd2 hb2 hbV4 hzV4
    go_upto_region 4 with (rw [← hV4]; clear hV4)
    obtain ⟨gb, hgb⟩ : ∃ g, g = u2.heap.size := ⟨_, rfl⟩
    obtain ⟨W5, hW5⟩ : ∃ V, V = (((((V4.setCell ⟨u2.heap.size, 0, none⟩ (.bool s2)).setCell ⟨u2.heap.size, 1, none⟩ (.slice ao2 n2 cp2)).setCell ⟨u2.heap.size, 2, none⟩ (.int .i64 e2)).setCell ⟨u2.heap.size, 3, none⟩ (.bool s3)).setCell ⟨u2.heap.size, 4, none⟩ (.slice ao3 n3 cp3)).setCell ⟨u2.heap.size, 5, none⟩ (.int .i64 e3) := ⟨_, rfl⟩
    have HF : Hid (dzB W5 gb s2 ao2 n2 cp2 e2 s3 ao3 n3 cp3 e3 TL TH ∧ IvK W5 (w.heap.size + 1 + 1) 0 0 ∧ Bw w W5) := (by
      obtain ⟨q1, q2, q3, q4, q5⟩ := HZ.out
      have hb : Bw wr W5 := by rw [hW5]; exact below_store6 (q3.trans (q4.mono q3.size)) q3.size _ _ _ _ _ _
      refine ⟨⟨?_, ?_, ?_⟩, HX.out.2.box hb, HX.out.1.trans (hb.mono HX.out.1.size)⟩
      · rw [hW5, hgb]; exact store6 _ _ _ _ _ _ q5
      · rw [hW5]; exact (q1.later q4).store6 q5 _ _ _ _ _ _
      · rw [hW5]; exact (q2.later q4).store6 q5 _ _ _ _ _ _ : dzB W5 gb s2 ao2 n2 cp2 e2 s3 ao3 n3 cp3 e3 TL TH ∧ IvK W5 (w.heap.size + 1 + 1) 0 0 ∧ Bw w W5)
    rw [← hW5, ← hgb]
    clear hW5 hgb HZ HX y0 y1 y2 y3 y4 y5 f0 f1 f2 f3 f4 f5
    have HK : Hid (∀ w', Bw W5 w' → w'.cell? ⟨gb, 0, none⟩ = some (.bool s2) ∧ w'.cell? ⟨gb, 1, none⟩ = some (.slice ao2 n2 cp2) ∧ w'.cell? ⟨gb, 2, none⟩ = some (.int .i64 e2) ∧ w'.cell? ⟨gb, 3, none⟩ = some (.bool s3) ∧ w'.cell? ⟨gb, 4, none⟩ = some (.slice ao3 n3 cp3) ∧ w'.cell? ⟨gb, 5, none⟩ = some (.int .i64 e3)) := fun w' hb => (box_cells6 (HF.out.1.later hb).1).1
    have L2 : Hid (∀ w', Bw W5 w' → DN w' (.agg #[.bool s2, .slice ao2 n2 cp2, .int .i64 e2]) TL) := fun w' hb => HF.out.1.2.1.later hb
    have L3 : Hid (∀ w', Bw W5 w' → DN w' (.agg #[.bool s3, .slice ao3 n3 cp3, .int .i64 e3]) TH) := fun w' hb => HF.out.1.2.2.later hb
    have q1 : ∀ W', Bw W5 W' → Calls Tryz.prog 58 #[.agg #[.bool s2, .slice ao2 n2 cp2, .int .i64 e2]] W' fun r w' => r = .returned (.int .i64 sg) ∧ Bw W5 w' := fun W' h => (kS.out TL W' _ hTL (L2.out _ h)).mono fun r w' ⟨e, hb⟩ => ⟨e, h.trans (hb.mono h.size)⟩
    have q2 : ∀ W', Bw W5 W' → Calls Tryz.prog 58 #[.agg #[.bool s3, .slice ao3 n3 cp3, .int .i64 e3]] W' fun r w' => r = .returned (.int .i64 sg) ∧ Bw W5 w' := fun W' h => (kS.out TH W' _ hTH (L3.out _ h)).mono fun r w' ⟨e, hb⟩ => ⟨e, h.trans (hb.mono h.size)⟩
    have hRr : Bw W5 W5.drew := (Below.refl _ _).drew
    obtain ⟨y0, y1, y2, y3, y4, y5⟩ := HK.out W5 (Below.refl _ _)
    clear kS
    go_region_held3 (fun w' => w'.cell? ⟨gb, 0, none⟩ = some (.bool s2) ∧ w'.cell? ⟨gb, 1, none⟩ = some (.slice ao2 n2 cp2) ∧ w'.cell? ⟨gb, 2, none⟩ = some (.int .i64 e2) ∧ w'.cell? ⟨gb, 3, none⟩ = some (.bool s3) ∧ w'.cell? ⟨gb, 4, none⟩ = some (.slice ao3 n3 cp3) ∧ w'.cell? ⟨gb, 5, none⟩ = some (.int .i64 e3)) (first | (with_reducible assumption) | exact HK.out _ hRr | (refine HK.out _ ?_; with_reducible assumption))
      (first | (go_at_call 58; with_reducible refine (q1 _ hRr).mono ?_; rintro r w6 ⟨rfl, hb6⟩)
             | (go_at_call 58; with_reducible refine (q2 _ hb6).mono ?_; rintro r w7 ⟨rfl, hb7⟩))
    have HG : Hid (dzB w7 gb s2 ao2 n2 cp2 e2 s3 ao3 n3 cp3 e3 TL TH ∧ IvK w7 (w.heap.size + 1 + 1) 0 0 ∧ Bw w w7) := ⟨HF.out.1.later hb7, HF.out.2.1.box hb7, HF.out.2.2.trans (hb7.mono HF.out.2.2.size)⟩
    clear HF HK L2 L3 q1 q2 hRr y0 y1 y2 y3 y4 y5 hb6 hb7
    go_wp2_with fail
    have HK2 : Hid (∀ w', Bw w7 w' → w'.cell? ⟨gb, 0, none⟩ = some (.bool s2) ∧ w'.cell? ⟨gb, 1, none⟩ = some (.slice ao2 n2 cp2) ∧ w'.cell? ⟨gb, 2, none⟩ = some (.int .i64 e2) ∧ w'.cell? ⟨gb, 3, none⟩ = some (.bool s3) ∧ w'.cell? ⟨gb, 4, none⟩ = some (.slice ao3 n3 cp3) ∧ w'.cell? ⟨gb, 5, none⟩ = some (.int .i64 e3)) := fun w' hb => (box_cells6 (HG.out.1.later hb).1).1
    have L2 : Hid (∀ w', Bw w7 w' → DN w' (.agg #[.bool s2, .slice ao2 n2 cp2, .int .i64 e2]) TL) := fun w' hb => HG.out.1.2.1.later hb
    have L3 : Hid (∀ w', Bw w7 w' → DN w' (.agg #[.bool s3, .slice ao3 n3 cp3, .int .i64 e3]) TH) := fun w' hb => HG.out.1.2.2.later hb
    have q1 : ∀ W', Bw w7 W' → Calls Tryz.prog 63 #[.agg #[.bool s2, .slice ao2 n2 cp2, .int .i64 e2], .int .i64 1] W' fun r w' => r = .returned (.float .f64 F0) ∧ Bw w7 w' := fun W' h => (kD.out TL W' _ hTL (L2.out _ h)).mono fun r w' ⟨e, hb⟩ => ⟨e, h.trans (hb.mono h.size)⟩
    have q2 : ∀ W', Bw w7 W' → Calls Tryz.prog 63 #[.agg #[.bool s3, .slice ao3 n3 cp3, .int .i64 e3], .int .i64 3] W' fun r w' => r = .returned (.float .f64 F1) ∧ Bw w7 w' := fun W' h => (kU.out TH W' _ hTH (L3.out _ h)).mono fun r w' ⟨e, hb⟩ => ⟨e, h.trans (hb.mono h.size)⟩
    have hRr : Bw w7 w7.drew := (Below.refl _ _).drew
    obtain ⟨y0, y1, y2, y3, y4, y5⟩ := HK2.out w7 (Below.refl _ _)
    go_region_held3 (fun w' => w'.cell? ⟨gb, 0, none⟩ = some (.bool s2) ∧ w'.cell? ⟨gb, 1, none⟩ = some (.slice ao2 n2 cp2) ∧ w'.cell? ⟨gb, 2, none⟩ = some (.int .i64 e2) ∧ w'.cell? ⟨gb, 3, none⟩ = some (.bool s3) ∧ w'.cell? ⟨gb, 4, none⟩ = some (.slice ao3 n3 cp3) ∧ w'.cell? ⟨gb, 5, none⟩ = some (.int .i64 e3)) (first | (with_reducible assumption) | exact HK2.out _ hRr | (refine HK2.out _ ?_; with_reducible assumption))
      (first | (go_at_call 63; with_reducible refine (q1 _ hRr).mono ?_; rintro r w8 ⟨rfl, hb8⟩)
             | (go_at_call 63; with_reducible refine (q2 _ hb8).mono ?_; rintro r w9 ⟨rfl, hb9⟩))
    have HH : Hid (dzB w9 gb s2 ao2 n2 cp2 e2 s3 ao3 n3 cp3 e3 TL TH ∧ IvK w9 (w.heap.size + 1 + 1) 0 0 ∧ Bw w w9) := ⟨HG.out.1.later hb9, HG.out.2.1.box hb9, HG.out.2.2.trans (hb9.mono HG.out.2.2.size)⟩
    clear HG HK2 L2 L3 q1 q2 hRr y0 y1 y2 y3 y4 y5 hb8 hb9
    obtain ⟨⟨y0, y1, y2, y3, y4, y5⟩, -⟩ := box_cells6 HH.out.1.1
    have kk := kD.out TH w9 _ hTH HH.out.1.2.2
    clear kD
    go_wp2_with fail
    refine kk.mono ?_
    rintro r w10 ⟨rfl, hb10⟩
    have HJ : Hid (dzB w10 gb s2 ao2 n2 cp2 e2 s3 ao3 n3 cp3 e3 TL TH ∧ IvK w10 (w.heap.size + 1 + 1) 0 0 ∧ Bw w w10) := ⟨HH.out.1.later hb10, HH.out.2.1.box hb10, HH.out.2.2.trans (hb10.mono HH.out.2.2.size)⟩
    clear kk HH hb10 y0 y1 y2 y3 y4 y5
    obtain ⟨⟨y0, y1, y2, y3, y4, y5⟩, -⟩ := box_cells6 HJ.out.1.1
    have kk := kU.out TL w10 _ hTL HJ.out.1.2.1
    clear kU
    go_wp2_with fail
    refine kk.mono ?_
    rintro r w11 ⟨rfl, hb11⟩
    have HK : Hid (IvK w11 (w.heap.size + 1 + 1) 0 0 ∧ Bw w w11) := ⟨HJ.out.2.1.box hb11, HJ.out.2.2.trans (hb11.mono HJ.out.2.2.size)⟩
    clear kk HJ hb11 y0 y1 y2 y3 y4 y5
    obtain ⟨⟨x0, x1⟩, x2, x3⟩ := HK.out.1.facts
    go_wp2_with (first | (go_at_call 64; refine (dplain o4 _).mono ?_; rintro r wz ⟨rfl, hwz⟩; have hwz := hwz.symm; subst hwz) | (go_at_call 64; refine (dplain o5 _).mono ?_; rintro r wz ⟨rfl, hwz⟩; have hwz := hwz.symm; subst hwz))
    refine bodyPost_ret (results_cell_row rfl _ _ (w.heap.size + 1 + 1) 24 #[.float .f64 F0, .float .f64 F1] (0, 0) _ rfl (HK.out.1.set _ _) Tryz.underlying24 rfl ivk_info) rfl ?_
    exact ⟨rfl, below_set HK.out.2 (by omega) _ _⟩
theorem pi_apart2 {Z M Q0 P0 c N E T:Nat} (hZ:256≤Z) (hM1:2^(Z+1)≤M) (hg:Nat.gcd P0 Q0=1) (hQ0:2^64<Q0) (h1:M*Q0≤P0*2^Z+c) (h2:P0*2^Z≤M*Q0+c)
  (hT:T*Q0+2^64*c≤2^Z) (hN:0<N) (hN2:N≤2^63) (hE0:E*2^52<T) :
  Z≤bl (M*N) - 53+51∧∃ a,M*N / 2^(bl (M*N) - 53)=a∧2^52≤a∧a<2^53∧a*2^(bl (M*N) - 53)+E≤M*N∧M*N+E<(a+1)*2^(bl (M*N) - 53):=by
 obtain⟨X,hX⟩:∃ X,X=M*N:=⟨_,rfl⟩
 rw[←hX]
 have hZp:=Nat.two_pow_pos Z
 have hX1:2^(Z+1)*N≤X:=by rw[hX];exact Nat.mul_le_mul_right _ hM1
 have hX2:2^(Z+1)≤X:=Nat.le_trans (Nat.le_mul_of_pos_right _ hN) hX1
 have hX0:X≠0:=by have:=Nat.two_pow_pos (Z+1);omega
 have hb:Z+2≤bl X:=by
  rcases Nat.lt_or_ge (Z+1) (bl X)with h|h
  ·omega
  ·have:=(bl_le X (Z+1)).1 h;omega
 obtain⟨D,hD⟩:∃ D,bl X=D+53:=⟨bl X - 53,by omega⟩
 rw[hD,Nat.add_sub_cancel]
 have hDp:=Nat.two_pow_pos D
 have u1:X<2^(D+53):=(bl_le X (D+53)).1 (by omega)
 have u2:2^(D+52)≤X:=by have:=bl_lo hX0;rw[hD] at this;exact this
 rw[Nat.pow_add] at u1 u2
 obtain⟨a,ha⟩:∃ a,X / 2^D=a:=⟨_,rfl⟩
 have e:=Nat.div_add_mod X (2^D)
 have hm:=Nat.mod_lt X hDp
 rw[ha] at e
 have v1:2^52≤a:=by rw[←ha];exact(Nat.le_div_iff_mul_le hDp).2 (by rw[Nat.mul_comm];exact u2)
 have v2:a<2^53:=by rw[←ha];exact(Nat.div_lt_iff_lt_mul hDp).2 (by rw[Nat.mul_comm];exact u1)
 have w1:a*2^D≤X:=by rw[Nat.mul_comm];omega
 have w2:X<(a+1)*2^D:=by rw[Nat.add_mul,Nat.one_mul,Nat.mul_comm];omega
 refine⟨by omega,a,ha,v1,v2,?_⟩
 have hTQ:∀ Q,Q≤2^64→T*Q0+Q*c≤2^Z:=fun Q hQ=>Nat.le_trans (Nat.add_le_add_left (Nat.mul_le_mul_right _ hQ) _) hT
 rcases Nat.lt_or_ge D Z with hDZ|hDZ
 ·obtain⟨j,hj⟩:∃ j,Z=D+j:=⟨Z - D,by omega⟩
  have hjp:=Nat.two_pow_pos j
  have hQ52:N*2^j≤2^52:=by
   have t1:2^D*(2^(j+1)*N)<2^D*2^53:=by
    refine Nat.lt_of_le_of_lt ?_ u1
    rw[←Nat.mul_assoc,←Nat.pow_add,show D+(j+1)=Z+1 by omega]
    exact hX1
   have t2:=Nat.lt_of_mul_lt_mul_left t1
   rw[Nat.pow_succ,Nat.mul_right_comm] at t2
   rw[Nat.mul_comm]
   have t3:(2:Nat)^53=2^52*2:=by decide
   omega
  have hQ:N*2^j≤2^64:=Nat.le_trans hQ52 (by decide)
  have hj52:2^j≤2^52:=Nat.le_trans (Nat.le_mul_of_pos_left _ hN) hQ52
  have hQp:0<N*2^j:=Nat.mul_pos hN hjp
  have eX:N*2^j*M=X*2^j:=by rw[hX,Nat.mul_right_comm,Nat.mul_comm N M]
  have eP:∀ P,P*2^Z=P*2^D*2^j:=fun P=>by rw[hj,Nat.pow_add,Nat.mul_assoc]
  have s1:=sep (P:=a) hg hQp (by omega) h1 h2 (hTQ _ hQ)
  have s2:=sep (P:=a+1) hg hQp (by omega) h1 h2 (hTQ _ hQ)
  rw[eX,eP] at s1 s2
  have hE1:E*2^j<T:=Nat.lt_of_le_of_lt (Nat.mul_le_mul_left _ hj52) hE0
  have w1':a*2^D*2^j≤X*2^j:=Nat.mul_le_mul_right _ w1
  have w2':X*2^j≤(a+1)*2^D*2^j:=Nat.mul_le_mul_right _ (Nat.le_of_lt w2)
  refine⟨Nat.le_of_mul_le_mul_right ?_ hjp,Nat.lt_of_mul_lt_mul_right (a:=2^j) ?_⟩
  ·rw[Nat.add_mul];omega
  ·rw[Nat.add_mul];omega
 ·obtain⟨k,hk⟩:∃ k,D=Z+k:=⟨D - Z,by omega⟩
  have hN64:N≤2^64:=Nat.le_trans hN2 (by decide)
  have eX:N*M=X:=by rw[hX,Nat.mul_comm]
  have eP:∀ P,P*2^k*2^Z=P*2^D:=fun P=>by rw[hk,Nat.add_comm Z k,Nat.pow_add,Nat.mul_assoc]
  have s1:=sep (P:=a*2^k) hg hN (by omega) h1 h2 (hTQ _ hN64)
  have s2:=sep (P:=(a+1)*2^k) hg hN (by omega) h1 h2 (hTQ _ hN64)
  rw[eX,eP] at s1 s2
  have hE1:E<T:=Nat.lt_of_le_of_lt (Nat.le_mul_of_pos_right _ (by decide)) hE0
  exact⟨by omega,by omega⟩
def cE:Nat:=(180000*2^63+2^109)*2^(Z0 - 240)+1
def cT:Nat:=2^(Z0 - 70)
theorem piA2 {N:Nat} (hN:0<N) (hN2:N≤2^63) :
  Z0≤bl (nPI*N) - 53+51∧∃ a,nPI*N / 2^(bl (nPI*N) - 53)=a∧2^52≤a∧a<2^53∧a*2^(bl (nPI*N) - 53)+cE≤nPI*N∧nPI*N+cE<(a+1)*2^(bl (nPI*N) - 53) :=
 pi_apart2 (Q0:=cQ) (P0:=cP) (c:=cC) (T:=cT) (by rw[Z0_eq];decide) (le_of_ble' (by decide +kernel)) (by decide +kernel) (le_of_ble' (by decide +kernel)) (le_of_ble' (by decide +kernel)) (le_of_ble' (by decide +kernel)) (le_of_ble' (by decide +kernel)) hN hN2 (le_of_ble' (by decide +kernel))
theorem dsgn {t:Bool×Nat×Int} {X:Value} {w:World} (hl:dlen t.2.1≤35184372088832) (h:DN w X t):Calls Tryz.prog 58 #[X] w fun r w'=>r=.returned (.int .i64 (sgI t.1 (dlen t.2.1)))∧Bw w w':=by
 obtain⟨ao,cap,rfl,hA⟩:=h
 exact rsgn hl
theorem sgn_un {Z q b:Nat} {s:Bool} {A:Value} {w:World} (hZ:Z≠0) (hb:Z<2^b) (hb2:b≤60000) (hq:q≤60000) (h:DN w A (un (if s then -(Z:Int) else(Z:Int)) q)) :
  Calls Tryz.prog 58 #[A] w fun r w'=>r=.returned (.int .i64 (if s then -1 else 1))∧Bw w w':=by
 have o:=un_gn (p:=q) (Z:=if s then -(Z:Int) else(Z:Int)) (b:=b) (by cases s <;> simp <;> exact hb) (by omega) (by omega)
 have hd:dlen (un (if s then -(Z:Int) else(Z:Int)) q).2.1≤35184372088832:=Nat.le_trans o.2.1 (by decide)
 have k:=dsgn hd h
 have h3:=(tz_spec _ _ (Nat.le_refl _) hZ).1
 have h0:¬ (Z / 2^tz Z=0):=fun h9=>by rw[h9,Nat.mul_zero] at h3;omega
 have hdn:dlen (Z / 2^tz Z)≠0:=fun e=>by
  have:=(dlen_le 0 (Z / 2^tz Z)).1 (by omega)
  rw[Nat.pow_zero] at this
  exact h0 (Nat.lt_one_iff.1 this)
 rw[un_sgn s hZ] at k
 unfold sgI at k
 rw[if_neg (show ¬ dlen ((s,Z / 2^tz Z,(tz Z:Int) - (q:Int)):Bool×Nat×Int).2.1=0 from hdn)] at k
 exact k
structure Ends (lo hi q c:Nat):Prop where
 l0:lo≠0
 h0:hi≠0
 lb:lo<2^60000
 hb:hi<2^60000
 q1:q≤60000
 bl:bdy lo (-(q:Int)) 0=c∧bdy lo (-(q:Int)) 2=c+1
 bh:bdy hi (-(q:Int)) 0=c∧bdy hi (-(q:Int)) 2=c+1
 c1:0<c
 c2:c+1<9218868437227405312
def E1 (x q c:Nat):Prop:=x≠0∧x<2^60000∧q≤60000∧(bdy x (-(q:Int)) 0=c∧bdy x (-(q:Int)) 2=c+1)
theorem tight_pos {k:Int} {sx:Bool} {ax:Option Addr} {nx cx:Nat} {ex:Int} {sy:Bool} {ay:Option Addr} {ny cy:Nat} {ey:Int} {c:Nat} {w:World} (c1:0<c) (c2:c+1<9218868437227405312)
  (kE:∀ W:World,Bw w W→∃ lo hi q,Ends lo hi q c∧Calls Tryz.prog 17 #[.int .i64 k,.agg #[.bool sx,.slice ax nx cx,.int .i64 ex],.agg #[.bool sy,.slice ay ny cy,.int .i64 ey],.int .i64 128] W fun r w'=>OutQ W (un (lo:Int) q) (un (hi:Int) q) r w') :
  Calls Tryz.prog 22 #[.int .i64 k,.agg #[.bool sx,.slice ax nx cx,.int .i64 ex],.agg #[.bool sy,.slice ay ny cy,.int .i64 ey]] w fun r w'=>r=.returned (.agg #[.float .f64 c,.float .f64 (c+1)])∧Bw w w':=by
 refine dtighten_1 k 1 sx ax nx cx ex sy ay ny cy ey (fun T=>∃ x q:Nat,T=un ((x:Int)) q∧E1 x q c) c (c+1) w ?_ ?_ ?_ ?_ (.inl rfl) ?_ ?_ ?_ ?_ ?_
 ·intro W hb
  obtain⟨lo,hi,q,h,hc⟩:=kE W hb
  exact hc.mono fun r w' ho=>⟨_,_,⟨lo,q,rfl,h.l0,h.lb,h.q1,h.bl⟩,⟨hi,q,rfl,h.h0,h.hb,h.q1,h.bh⟩,ho⟩
 ·rintro T W X ⟨x,q,rfl,e0,e1,e2,e3⟩ h
  exact sgn_un (s:=false) e0 e1 (by omega) e2 h
 ·rintro T W X ⟨x,q,rfl,e0,e1,e2,e3⟩ h
  exact to_unP (m:=1) (.inl rfl) e0 h e1 (by omega) e2 e3.1 e3.2
 ·rintro T W X ⟨x,q,rfl,e0,e1,e2,e3⟩ h
  exact to_unP (m:=3) (.inr rfl) e0 h e1 (by omega) e2 e3.1 e3.2
 ·rw[o_eq (by omega) (by omega)];simp
 ·rw[o_eq (by omega) (by omega)];simp
 ·rw[o_lt (by omega) (by omega)];simp
 ·rw[o_eq (by omega) (by omega)];simp;omega
 ·rw[o_eq (by omega) (by omega)];simp
theorem fneg {a b:Nat} (ha:a<9218868437227405312) (hb:b<9218868437227405312):(FloatKind.f64.format.order (a+9223372036854775808) (b+9223372036854775808)==some Ordering.lt)=decide (b<a)∧(FloatKind.f64.format.order (a+9223372036854775808) (b+9223372036854775808)==some Ordering.eq)=decide (a=b):=by
 rw[Fl64.ord_lt _ _ (by omega) (by omega),Fl64.ord_eq _ _ (by omega) (by omega)]
 unfold Fl64.lt Fl64.eq Fl64.stp Fl64.sgn Fl64.neg Fl64.isNaN Fl64.mag
 rw[show decide (9223372036854775808≤a+9223372036854775808)=true by simp,show decide (9223372036854775808≤b+9223372036854775808)=true by simp,show(a+9223372036854775808) % 9223372036854775808=a by omega,show(b+9223372036854775808) % 9223372036854775808=b by omega,show decide (9218868437227405312<a)=false by simp;omega,show decide (9218868437227405312<b)=false by simp;omega]
 constructor
 ·simp
 ·simp <;> omega
theorem tight_neg {k:Int} {sx:Bool} {ax:Option Addr} {nx cx:Nat} {ex:Int} {sy:Bool} {ay:Option Addr} {ny cy:Nat} {ey:Int} {c:Nat} {w:World} (c1:0<c) (c2:c+1<9218868437227405312)
  (kE:∀ W:World,Bw w W→∃ lo hi q,Ends lo hi q c∧Calls Tryz.prog 17 #[.int .i64 k,.agg #[.bool sx,.slice ax nx cx,.int .i64 ex],.agg #[.bool sy,.slice ay ny cy,.int .i64 ey],.int .i64 128] W fun r w'=>OutQ W (un (-(hi:Int)) q) (un (-(lo:Int)) q) r w') :
  Calls Tryz.prog 22 #[.int .i64 k,.agg #[.bool sx,.slice ax nx cx,.int .i64 ex],.agg #[.bool sy,.slice ay ny cy,.int .i64 ey]] w fun r w'=>r=.returned (.agg #[.float .f64 (c+1+9223372036854775808),.float .f64 (c+9223372036854775808)])∧Bw w w':=by
 refine dtighten_1 k (-1) sx ax nx cx ex sy ay ny cy ey (fun T=>∃ x q:Nat,T=un (-(x:Int)) q∧E1 x q c) (c+1+9223372036854775808) (c+9223372036854775808) w ?_ ?_ ?_ ?_ (.inr rfl) ?_ ?_ ?_ ?_ ?_
 ·intro W hb
  obtain⟨lo,hi,q,h,hc⟩:=kE W hb
  exact hc.mono fun r w' ho=>⟨_,_,⟨hi,q,rfl,h.h0,h.hb,h.q1,h.bh⟩,⟨lo,q,rfl,h.l0,h.lb,h.q1,h.bl⟩,ho⟩
 ·rintro T W X ⟨x,q,rfl,e0,e1,e2,e3⟩ h
  exact sgn_un (s:=true) e0 e1 (by omega) e2 h
 ·rintro T W X ⟨x,q,rfl,e0,e1,e2,e3⟩ h
  exact to_unN (m:=1) (.inl rfl) e0 h e1 (by omega) e2 e3.1 e3.2
 ·rintro T W X ⟨x,q,rfl,e0,e1,e2,e3⟩ h
  exact to_unN (m:=3) (.inr rfl) e0 h e1 (by omega) e2 e3.1 e3.2
 ·rw[(fneg (by omega) (by omega)).2];simp
 ·rw[(fneg (by omega) (by omega)).2];simp
 ·rw[(fneg (by omega) (by omega)).1];simp
 ·exact o_neg0 (by omega) (by omega)
 ·exact o_neg0 (by omega) (by omega)
theorem lt_pwQ {x A B:Nat} (h:x<2^A) (h2:A≤B):x<2^B:=Nat.lt_of_lt_of_le h (Nat.pow_le_pow_right (by decide) h2)
theorem ends_of {lo hi q a D j T:Nat} (hT:D+1074=j+T) (hq:q≤T) (hT2:T≤5000) (hl:lo*2^(T - q)≤hi*2^(T - q)) (h1:a*2^D<lo*2^(T - q)) (h2:hi*2^(T - q)<(a+1)*2^D) (a1:4503599627370496≤a) (a2:a+1≤9007199254740992) (hj:j≤2000):Ends lo hi q (j*4503599627370496+a):=by
 have u1:=bdy_first hT hq (by omega) h1 (Nat.lt_of_le_of_lt hl h2) a1 a2 hj
 have u2:=bdy_first hT hq (by omega) (Nat.lt_of_lt_of_le h1 hl) h2 a1 a2 hj
 have hP:=Nat.two_pow_pos (T - q)
 have z1:lo≠0:=fun e=>by rw[e,Nat.zero_mul] at h1;omega
 have z2:hi≠0:=fun e=>by rw[e,Nat.zero_mul] at hl;rw[Nat.le_zero] at hl;omega
 have e53:(2:Nat)^53=9007199254740992:=by decide
 have b0:(a+1)*2^D≤2^53*2^D:=Nat.mul_le_mul_right _ (by omega)
 have b1:hi<2^(53+D):=by
  rw[Nat.pow_add]
  exact Nat.lt_of_le_of_lt (Nat.le_mul_of_pos_right _ hP) (Nat.lt_of_lt_of_le h2 b0)
 have b2:lo≤hi:=Nat.le_of_mul_le_mul_right hl hP
 have hD:53+D≤60000:=by omega
 exact⟨z1,z2,lt_pwQ (B:=60000) (Nat.lt_of_le_of_lt b2 b1) hD,lt_pwQ (B:=60000) b1 hD,by omega,u1,u2,by omega,by omega⟩
theorem ends_int {lo hi:Int} {q a D j T c:Nat} (hT:D+1074=j+T) (hq:q≤T) (hT2:T≤5000) (hl:lo≤hi) (h1:((a*2^D:Nat):Int)<lo*((2^(T - q):Nat):Int)) (h2:hi*((2^(T - q):Nat):Int)<(((a+1)*2^D:Nat):Int)) (a1:4503599627370496≤a) (a2:a+1≤9007199254740992) (hj:j≤2000) (hc:c=j*4503599627370496+a):∃ lo' hi':Nat,lo=(lo':Int)∧hi=(hi':Int)∧Ends lo' hi' q c:=by
 have hP:(0:Int)<((2^(T - q):Nat):Int):=Int.natCast_pos.2 (Nat.two_pow_pos _)
 have p0:0<lo:=by
  apply Decidable.byContradiction
  intro h
  have:=Int.mul_le_mul_of_nonneg_right (show lo≤0 by omega) (Int.le_of_lt hP)
  rw[Int.zero_mul] at this
  have:=Int.natCast_nonneg (a*2^D)
  omega
 obtain⟨x,rfl⟩:∃ x:Nat,lo=(x:Int):=⟨lo.toNat,by omega⟩
 obtain⟨y,rfl⟩:∃ y:Nat,hi=(y:Int):=⟨hi.toNat,by omega⟩
 rw[←Int.natCast_mul] at h1 h2
 rw[hc]
 exact⟨x,y,rfl,rfl,ends_of hT hq hT2 (Nat.mul_le_mul_right _ (Int.ofNat_le.1 hl)) (Int.ofNat_lt.1 h1) (Int.ofNat_lt.1 h2) a1 a2 hj⟩
def chkT (k:Nat):Bool:=Nat.blt (tkA k*2^(tkD k+(Z0 - 128))+274877906944*2^(Z0+kq k - 175)) (kM k)&&Nat.blt (kM k+274877906944*2^(Z0+kq k - 175)) ((tkA k+1)*2^(tkD k+(Z0 - 128)))
theorem chkT_k {k:Nat} (h1:1≤k) (h8:k≤8):chkT k=true:=by
 rcases(by omega:k=1∨k=2∨k=3∨k=4∨k=5∨k=6∨k=7∨k=8)with rfl|rfl|rfl|rfl|rfl|rfl|rfl|rfl <;> decide +kernel
theorem in_num {lo hi M g P W A U:Int} (hP:0<P) (hg:0≤g) (hPW:P≤W) (l:lo*P≤M) (h:M≤hi*P) (gp:hi - lo≤g) (c1:A+g*W<M) (c2:M+g*W<U):lo≤hi∧A<lo*P∧hi*P<U:=by
 have e:(hi - lo)*P≤g*P:=Int.mul_le_mul_of_nonneg_right gp (Int.le_of_lt hP)
 have e2:g*P≤g*W:=Int.mul_le_mul_of_nonneg_left hPW hg
 rw[Int.sub_mul] at e
 refine⟨Int.le_of_mul_le_mul_right (Int.le_trans l h) hP,by omega,by omega⟩
theorem ends_k {k q:Nat} {lo hi:Int} (h1:1≤k) (h8:k≤8) (hE:EB k 128 lo hi q):∃ lo' hi':Nat,lo=(lo':Int)∧hi=(hi':Int)∧Ends lo' hi' q (tkF k):=by
 obtain⟨q1,q2,l,r,g⟩:=hE
 have hc:=chkT_k h1 h8
 unfold chkT at hc
 rw[Bool.and_eq_true] at hc
 have c1:tkA k*2^(tkD k+(Z0 - 128))+274877906944*2^(Z0+kq k - 175)<kM k:=Nat.le_of_ble_eq_true hc.1
 have c2:kM k+274877906944*2^(Z0+kq k - 175)<(tkA k+1)*2^(tkD k+(Z0 - 128)):=Nat.le_of_ble_eq_true hc.2
 obtain⟨n1,n2,n3,n4,n5,n6,n7,n8⟩:=tk_num h1 h8
 have hz:=Z0_eq
 have hw:2^(Z0+kq k - q)≤2^(Z0+kq k - 175):=Nat.pow_le_pow_right (by decide) (by omega)
 have d1:=Int.ofNat_lt.2 c1
 have d2:=Int.ofNat_lt.2 c2
 rw[Int.natCast_add,Int.natCast_mul 274877906944] at d1 d2
 obtain⟨x1,x2,x3⟩:=in_num (P:=((2^(Z0+kq k - q):Nat):Int)) (W:=((2^(Z0+kq k - 175):Nat):Int)) (Int.natCast_pos.2 (Nat.two_pow_pos _)) (by decide) (Int.ofNat_le.2 hw) l r g d1 d2
 exact ends_int (D:=tkD k+(Z0 - 128)) (j:=tkD k+946 - kq k) (T:=Z0+kq k) (by omega) (by omega) (by omega) x1 x2 x3 n1 (by omega) (by omega) (by omega)
theorem mid_num {v N M P C g:Int} (hN:0≤N) (l:(v - g)*P≤M) (r:M≤(v+g)*P):M*N - (g*N+C)*P≤(N*v - C)*P∧(N*v+C)*P≤M*N+(g*N+C)*P:=by
 have a:=Int.mul_le_mul_of_nonneg_left r hN
 have b:=Int.mul_le_mul_of_nonneg_left l hN
 constructor
 ·have e:N*((v+g)*P)=(N*v - C)*P+(g*N+C)*P:=by grind
  rw[e,Int.mul_comm N M] at a
  omega
 ·have e:N*((v - g)*P)=(N*v+C)*P - (g*N+C)*P:=by grind
  rw[e,Int.mul_comm N M] at b
  omega
theorem ends_turns {N:Nat} (hN:0<N) (hN2:N≤2^63):∃ lo hi:Nat,(N:Int)*piV 240 - (17592186044416:Nat)*((2^65:Nat):Int)=(lo:Int)∧(N:Int)*piV 240+(17592186044416:Nat)*((2^65:Nat):Int)=(hi:Int)∧Ends lo hi 241 (flN N):=by
 obtain⟨z1,a,z2,z3,z4,z5,z6⟩:=piA2 hN hN2
 have hz:=Z0_eq
 obtain⟨l,r⟩:=piV_ib (p:=240) (by omega) (by omega)
 obtain⟨m1,m2⟩:=mid_num (N:=(N:Int)) (C:=(17592186044416:Nat)*((2^65:Nat):Int)) (by omega) l r
 have E52:(2:Nat)^52=4503599627370496:=by decide
 have E53:(2:Nat)^53=9007199254740992:=by decide
 have hb:bl (nPI*N)≤Z0+2+64:=by
  refine(bl_le _ _).2 ?_
  rw[Nat.pow_add]
  exact Nat.mul_lt_mul_of_lt_of_le pi_lt (Nat.le_trans hN2 (by decide)) (by decide)
 rw[E52] at z3
 rw[E53] at z4
 have hP:=Nat.two_pow_pos (Z0 - 240)
 have w1:(180000*N+2^109)*2^(Z0 - 240)<cE:=by
  unfold cE
  generalize 2^(Z0 - 240)=K
  have k1:180000*N+2^109≤180000*2^63+2^109:=Nat.add_le_add_right (Nat.mul_le_mul_left _ hN2) _
  exact Nat.lt_succ_of_le (Nat.mul_le_mul_right K k1)
 have hfl:flN N=(bl (nPI*N) - 3180)*4503599627370496+a:=by
  unfold flN
  rw[z2,Nat.add_comm]
 have eT:Z0+1 - 241=Z0 - 240:=by omega
 refine ends_int (D:=bl (nPI*N) - 53) (j:=bl (nPI*N) - 3180) (T:=Z0+1) (a:=a) (by omega) (by omega) (by omega) ?_ ?_ ?_ z3 (by omega) (by omega) hfl
 ·generalize (N:Int)*piV 240=x
  omega
 ·rw[eT]
  have u:((a*2^(bl (nPI*N) - 53)+cE:Nat):Int)≤((nPI*N:Nat):Int):=Int.ofNat_le.2 z5
  have v:(((180000*N+2^109)*2^(Z0 - 240):Nat):Int)<(cE:Int):=Int.ofNat_lt.2 w1
  have c0:((180000:Nat):Int)*(N:Int)+(17592186044416:Nat)*((2^65:Nat):Int)=((180000*N+2^109:Nat):Int):=by
   rw[Int.natCast_add,Int.natCast_mul]
   rfl
  rw[c0,←Int.natCast_mul nPI N,←Int.natCast_mul (180000*N+2^109) (2^(Z0 - 240))] at m1
  rw[Int.natCast_add] at u
  omega
 ·rw[eT]
  have u:((nPI*N+cE:Nat):Int)<(((a+1)*2^(bl (nPI*N) - 53):Nat):Int):=Int.ofNat_lt.2 z6
  have v:(((180000*N+2^109)*2^(Z0 - 240):Nat):Int)<(cE:Int):=Int.ofNat_lt.2 w1
  have c0:((180000:Nat):Int)*(N:Int)+(17592186044416:Nat)*((2^65:Nat):Int)=((180000*N+2^109:Nat):Int):=by
   rw[Int.natCast_add,Int.natCast_mul]
   rfl
  rw[c0,←Int.natCast_mul nPI N,←Int.natCast_mul (180000*N+2^109) (2^(Z0 - 240))] at m2
  rw[Int.natCast_add] at u
  omega
attribute [local go_sem] run_store_fltK
theorem dtighten_k {k:Nat} {w:World} (h1:1≤k) (h8:k≤8):Calls Tryz.prog 22 #[.int .i64 k,.agg #[.bool false,.slice none 0 0,.int .i64 0],.agg #[.bool false,.slice none 0 0,.int .i64 0]] w fun r w'=>r=.returned (.agg #[.float .f64 (tkF k),.float .f64 (tkF k+1)])∧Bw w w':=by
 obtain⟨n1,n2,n3,n4,n5,n6,n7,n8⟩:=tk_num h1 h8
 refine tight_pos (by omega) (by omega) fun W hb=>?_
 obtain⟨lo,hi,q,hE,hc⟩:=enc_k (w:=W) h1 h8 (show 64≤128 by decide) (by decide) (gdn0 W) (gdn0 W)
 obtain⟨lo',hi',rfl,rfl,h⟩:=ends_k h1 h8 hE
 exact⟨lo',hi',q,h,hc⟩
theorem turns_range {N:Nat} (hN2:N≤2^63):N<2^64:=Nat.lt_of_le_of_lt hN2 (by decide)
theorem dtighten_p {N:Nat} {sx:Bool} {ax:Option Addr} {nx cx:Nat} {ex:Int} {w:World} (hN:0<N) (hN2:N≤2^63) (hX:DN w (.agg #[.bool sx,.slice ax nx cx,.int .i64 ex]) (un (N:Int) 0)):Calls Tryz.prog 22 #[.int .i64 25,.agg #[.bool sx,.slice ax nx cx,.int .i64 ex],.agg #[.bool false,.slice none 0 0,.int .i64 0]] w fun r w'=>r=.returned (.agg #[.float .f64 (flN N),.float .f64 (flN N+1)])∧Bw w w':=by
 have hr:=flN_rng hN hN2
 obtain⟨lo,hi,e1,e2,h⟩:=ends_turns hN hN2
 refine tight_pos (by omega) (by omega) fun W hb=>?_
 have k:=dencTurns (p:=128) (n:=(N:Int)) (by decide) (by rw[Int.natAbs_natCast];exact turns_range hN2) (hX.later hb) (gdn0 W)
 rw[show 128+48+64=240 by decide,show 128+48+65=241 by decide,e1,e2] at k
 exact⟨lo,hi,241,h,k⟩
theorem dtighten_n {N:Nat} {sx:Bool} {ax:Option Addr} {nx cx:Nat} {ex:Int} {w:World} (hN:0<N) (hN2:N≤2^63) (hX:DN w (.agg #[.bool sx,.slice ax nx cx,.int .i64 ex]) (un (-(N:Int)) 0)):Calls Tryz.prog 22 #[.int .i64 25,.agg #[.bool sx,.slice ax nx cx,.int .i64 ex],.agg #[.bool false,.slice none 0 0,.int .i64 0]] w fun r w'=>r=.returned (.agg #[.float .f64 (flN N+1+9223372036854775808),.float .f64 (flN N+9223372036854775808)])∧Bw w w':=by
 have hr:=flN_rng hN hN2
 obtain⟨lo,hi,e1,e2,h⟩:=ends_turns hN hN2
 refine tight_neg (by omega) (by omega) fun W hb=>?_
 have k:=dencTurns (p:=128) (n := -(N:Int)) (by decide) (by rw[Int.natAbs_neg,Int.natAbs_natCast];exact turns_range hN2) (hX.later hb) (gdn0 W)
 have f1 : -(N:Int)*piV 240 - (17592186044416:Nat)*((2^65:Nat):Int) = -(hi:Int):=by rw[←e2,Int.neg_mul];omega
 have f2 : -(N:Int)*piV 240+(17592186044416:Nat)*((2^65:Nat):Int) = -(lo:Int):=by rw[←e1,Int.neg_mul];omega
 rw[show 128+48+64=240 by decide,show 128+48+65=241 by decide,f1,f2] at k
 exact⟨lo,hi,241,h,k⟩
theorem dtight_k {k:Nat} {w:World} (h1:1≤k) (h8:k≤8):Calls Tryz.prog 8 #[.int .i64 k] w fun r w'=>r=.returned (.tuple #[.agg #[.float .f64 (tkF k),.float .f64 (tkF k+1)],.int .i64 0])∧Bw w w':=by
 obtain⟨W,hW⟩:∃ W,W=w.alloc (.cells #[.float .f64 0,.float .f64 0] 24):=⟨_,rfl⟩
 have HX:Hid (Bw w W∧IvK W w.heap.size 0 0):=(by rw[hW];exact⟨(Below.refl _ _).alloc (Nat.le_refl _) _,IvK.new _ _ _⟩:Bw w W∧IvK W w.heap.size 0 0)
 have k2:=dtighten_k (k:=k) (w:=W) h1 h8
 obtain⟨F0,e0⟩:∃ F0,F0=tkF k:=⟨_,rfl⟩
 obtain⟨F1,e1⟩:∃ F1,F1=tkF k+1:=⟨_,rfl⟩
 rw[←e0] at e1
 rw[←e0,←e1] at k2 ⊢
 have c1:¬ (k:Int)<1:=by omega
 have c2:¬ (8:Int)<(k:Int):=by omega
 clear h1 h8 e0 e1
 go_enter Tryz.func8,Tryz.ntmps8
 go_upto_region 1 with fail
 rw[←hW]
 clear hW
 go_wp2_with fail
 refine k2.mono ?_
 rintro r w2 ⟨rfl,hb2⟩
 have HX2:Hid (Bw w w2∧IvK w2 w.heap.size 0 0):=⟨HX.out.1.trans (hb2.mono HX.out.1.size),HX.out.2.box hb2⟩
 clear k2 hb2 HX
 obtain⟨⟨x0,x1⟩,x2,x3⟩:=HX2.out.2.facts
 go_wp2_with fail
 refine bodyPost_ret (results_ctK rfl _ _ w.heap.size 24 #[.float .f64 F0,.float .f64 F1] (0,0) _ rfl (HX2.out.2.set _ _) Tryz.underlying24 rfl ivk_info) rfl ?_
 exact⟨rfl,below_set HX2.out.1 (Nat.le_refl _) _ _⟩
theorem dtight_no {k:Int} {w:World} (h:¬ (1≤k∧k≤8)):Calls Tryz.prog 8 #[.int .i64 k] w fun r w'=>r=.returned (.tuple #[.agg #[.float .f64 0,.float .f64 0],.int .i64 1])∧Bw w w':=by
 obtain⟨W,hW⟩:∃ W,W=w.alloc (.cells #[.float .f64 0,.float .f64 0] 24):=⟨_,rfl⟩
 have HX:Hid (Bw w W∧IvK W w.heap.size 0 0):=(by rw[hW];exact⟨(Below.refl _ _).alloc (Nat.le_refl _) _,IvK.new _ _ _⟩:Bw w W∧IvK W w.heap.size 0 0)
 obtain⟨⟨x0,x1⟩,x2,x3⟩:=HX.out.2.facts
 by_cases h1:k<1
 ·clear h
  go_enter Tryz.func8,Tryz.ntmps8
  go_upto_region 1 with fail
  rw[←hW]
  clear hW
  go_wp2_with fail
  refine bodyPost_ret (results_ctK rfl _ _ w.heap.size 24 #[.float .f64 0,.float .f64 0] (0,0) _ rfl (HX.out.2.set _ _) Tryz.underlying24 rfl ivk_info) rfl ?_
  exact⟨rfl,below_set HX.out.1 (Nat.le_refl _) _ _⟩
 ·have h2:(8:Int)<k:=by omega
  clear h
  go_enter Tryz.func8,Tryz.ntmps8
  go_upto_region 1 with fail
  rw[←hW]
  clear hW
  go_wp2_with fail
  refine bodyPost_ret (results_ctK rfl _ _ w.heap.size 24 #[.float .f64 0,.float .f64 0] (0,0) _ rfl (HX.out.2.set _ _) Tryz.underlying24 rfl ivk_info) rfl ?_
  exact⟨rfl,below_set HX.out.1 (Nat.le_refl _) _ _⟩
attribute [local go_sem] run_store_fltK
theorem dtimes_0 (w:World):Calls Tryz.prog 10 #[.int .i64 0] w fun r w'=>r=.returned (.tuple #[.agg #[.float .f64 0,.float .f64 0],.int .i64 0])∧Bw w w':=by
 obtain⟨W,hW⟩:∃ W,W=w.alloc (.cells #[.float .f64 0,.float .f64 0] 24):=⟨_,rfl⟩
 have HX:Hid (Bw w W∧IvK W w.heap.size 0 0):=(by rw[hW];exact⟨(Below.refl _ _).alloc (Nat.le_refl _) _,IvK.new _ _ _⟩:Bw w W∧IvK W w.heap.size 0 0)
 obtain⟨⟨x0,x1⟩,x2,x3⟩:=HX.out.2.facts
 go_enter Tryz.func10,Tryz.ntmps10
 go_upto_region 1 with fail
 rw[←hW]
 clear hW
 go_wp2_with fail
 refine bodyPost_ret (results_ctK rfl _ _ w.heap.size 24 #[.float .f64 0,.float .f64 0] (0,0) _ rfl (HX.out.2.set _ _) Tryz.underlying24 rfl ivk_info) rfl ?_
 exact⟨rfl,below_set HX.out.1 (Nat.le_refl _) _ _⟩
theorem dtimes_p {N:Nat} (hN:0<N) (hN2:N<2^63) (w:World):Calls Tryz.prog 10 #[.int .i64 (N:Int)] w fun r w'=>r=.returned (.tuple #[.agg #[.float .f64 (flN N),.float .f64 (flN N+1)],.int .i64 0])∧Bw w w':=by
 obtain⟨W,hW⟩:∃ W,W=w.alloc (.cells #[.float .f64 0,.float .f64 0] 24):=⟨_,rfl⟩
 have HX:Hid (Bw w W∧IvK W w.heap.size 0 0):=(by rw[hW];exact⟨(Below.refl _ _).alloc (Nat.le_refl _) _,IvK.new _ _ _⟩:Bw w W∧IvK W w.heap.size 0 0)
 have t63:(2:Nat)^63=9223372036854775808:=by decide
 obtain⟨n,hn⟩:∃ n:Int,n=(N:Int):=⟨_,rfl⟩
 have hn0:(n==0)=false:=by rw[beq_eq_false_iff_ne];omega
 have k1:=dwholeN (n:=n) (W:=W) ⟨by omega,by omega⟩
 obtain⟨F0,e0⟩:∃ F0,F0=flN N:=⟨_,rfl⟩
 obtain⟨F1,e1⟩:∃ F1,F1=flN N+1:=⟨_,rfl⟩
 have k2:Hid (∀ (V:World) (sx:Bool) (ax:Option Addr) (nx cx:Nat) (ex:Int),DN V (.agg #[.bool sx,.slice ax nx cx,.int .i64 ex]) (un n 0)→Calls Tryz.prog 22 #[.int .i64 25,.agg #[.bool sx,.slice ax nx cx,.int .i64 ex],.agg #[.bool false,.slice none 0 0,.int .i64 0]] V fun r w'=>r=.returned (.agg #[.float .f64 F0,.float .f64 F1])∧Bw V w'):=by
  intro V sx ax nx cx ex hV
  rw[e0,e1]
  rw[hn] at hV
  exact dtighten_p hN (Nat.le_of_lt hN2) hV
 rw[←hn,←e1,←e0]
 clear hn e0 e1 hN hN2 t63
 go_enter Tryz.func10,Tryz.ntmps10
 go_upto_region 1 with fail
 rw[←hW]
 clear hW
 go_wp2_with fail
 refine k1.mono ?_
 rintro r w2 ⟨s,ao,m,cp,e,rfl,hd,hb2⟩
 have k3:=k2.out w2 _ _ _ _ _ hd
 have HX2:Hid (Bw w w2∧IvK w2 w.heap.size 0 0):=⟨HX.out.1.trans (hb2.mono HX.out.1.size),HX.out.2.box hb2⟩
 clear k1 k2 hd hb2 HX
 go_wp2_with fail
 refine k3.mono ?_
 rintro r w3 ⟨rfl,hb3⟩
 have HX3:Hid (Bw w w3∧IvK w3 w.heap.size 0 0):=⟨HX2.out.1.trans (hb3.mono HX2.out.1.size),HX2.out.2.box hb3⟩
 clear k3 hb3 HX2
 obtain⟨⟨x0,x1⟩,x2,x3⟩:=HX3.out.2.facts
 go_wp2_with fail
 refine bodyPost_ret (results_ctK rfl _ _ w.heap.size 24 #[.float .f64 F0,.float .f64 F1] (0,0) _ rfl (HX3.out.2.set _ _) Tryz.underlying24 rfl ivk_info) rfl ?_
 exact⟨rfl,below_set HX3.out.1 (Nat.le_refl _) _ _⟩
theorem dtimes_n {N:Nat} (hN:0<N) (hN2:N≤2^63) (w:World):Calls Tryz.prog 10 #[.int .i64 (-(N:Int))] w fun r w'=>r=.returned (.tuple #[.agg #[.float .f64 (flN N+1+9223372036854775808),.float .f64 (flN N+9223372036854775808)],.int .i64 0])∧Bw w w':=by
 obtain⟨W,hW⟩:∃ W,W=w.alloc (.cells #[.float .f64 0,.float .f64 0] 24):=⟨_,rfl⟩
 have HX:Hid (Bw w W∧IvK W w.heap.size 0 0):=(by rw[hW];exact⟨(Below.refl _ _).alloc (Nat.le_refl _) _,IvK.new _ _ _⟩:Bw w W∧IvK W w.heap.size 0 0)
 have t63:(2:Nat)^63=9223372036854775808:=by decide
 obtain⟨n,hn⟩:∃ n:Int,n=(-(N:Int)):=⟨_,rfl⟩
 have hn0:(n==0)=false:=by rw[beq_eq_false_iff_ne];omega
 have k1:=dwholeN (n:=n) (W:=W) ⟨by omega,by omega⟩
 obtain⟨F0,e0⟩:∃ F0,F0=flN N+1+9223372036854775808:=⟨_,rfl⟩
 obtain⟨F1,e1⟩:∃ F1,F1=flN N+9223372036854775808:=⟨_,rfl⟩
 have k2:Hid (∀ (V:World) (sx:Bool) (ax:Option Addr) (nx cx:Nat) (ex:Int),DN V (.agg #[.bool sx,.slice ax nx cx,.int .i64 ex]) (un n 0)→Calls Tryz.prog 22 #[.int .i64 25,.agg #[.bool sx,.slice ax nx cx,.int .i64 ex],.agg #[.bool false,.slice none 0 0,.int .i64 0]] V fun r w'=>r=.returned (.agg #[.float .f64 F0,.float .f64 F1])∧Bw V w'):=by
  intro V sx ax nx cx ex hV
  rw[e0,e1]
  rw[hn] at hV
  exact dtighten_n hN hN2 hV
 rw[←hn,←e1,←e0]
 clear hn e0 e1 hN hN2 t63
 go_enter Tryz.func10,Tryz.ntmps10
 go_upto_region 1 with fail
 rw[←hW]
 clear hW
 go_wp2_with fail
 refine k1.mono ?_
 rintro r w2 ⟨s,ao,m,cp,e,rfl,hd,hb2⟩
 have k3:=k2.out w2 _ _ _ _ _ hd
 have HX2:Hid (Bw w w2∧IvK w2 w.heap.size 0 0):=⟨HX.out.1.trans (hb2.mono HX.out.1.size),HX.out.2.box hb2⟩
 clear k1 k2 hd hb2 HX
 go_wp2_with fail
 refine k3.mono ?_
 rintro r w3 ⟨rfl,hb3⟩
 have HX3:Hid (Bw w w3∧IvK w3 w.heap.size 0 0):=⟨HX2.out.1.trans (hb3.mono HX2.out.1.size),HX2.out.2.box hb3⟩
 clear k3 hb3 HX2
 obtain⟨⟨x0,x1⟩,x2,x3⟩:=HX3.out.2.facts
 go_wp2_with fail
 refine bodyPost_ret (results_ctK rfl _ _ w.heap.size 24 #[.float .f64 F0,.float .f64 F1] (0,0) _ rfl (HX3.out.2.set _ _) Tryz.underlying24 rfl ivk_info) rfl ?_
 exact⟨rfl,below_set HX3.out.1 (Nat.le_refl _) _ _⟩
theorem times_any (n:Int) (hn : -9223372036854775808≤n∧n≤9223372036854775807):∃ F G,(∀ w,Calls Tryz.prog 9 #[.int .i64 n] w fun r w'=>r=.returned (.tuple #[.agg #[.float .f64 F,.float .f64 G],.int .i64 0])∧Bw w w')∧∀ w,Calls Tryz.prog 10 #[.int .i64 n] w fun r w'=>r=.returned (.tuple #[.agg #[.float .f64 F,.float .f64 G],.int .i64 0])∧Bw w w':=by
 have t63:(2:Nat)^63=9223372036854775808:=by decide
 rcases(by omega:n=0∨0<n∨n<0)with rfl|h|h
 ·exact⟨_,_,times_0,dtimes_0⟩
 ·obtain⟨N,rfl⟩:∃ N:Nat,n=(N:Int):=⟨n.toNat,by omega⟩
  exact⟨_,_,times_p (by omega) (by omega),dtimes_p (by omega) (by omega)⟩
 ·obtain⟨N,rfl⟩:∃ N:Nat,n = -(N:Int):=⟨(-n).toNat,by omega⟩
  exact⟨_,_,times_n (by omega) (by omega),dtimes_n (by omega) (by omega)⟩
theorem tight_any (k:Int):∃ F G e,(∀ w,Calls Tryz.prog 7 #[.int .i64 k] w fun r w'=>r=.returned (.tuple #[.agg #[.float .f64 F,.float .f64 G],.int .i64 e])∧Bw w w')∧∀ w,Calls Tryz.prog 8 #[.int .i64 k] w fun r w'=>r=.returned (.tuple #[.agg #[.float .f64 F,.float .f64 G],.int .i64 e])∧Bw w w':=by
 by_cases h:1≤k∧k≤8
 ·obtain⟨k',rfl⟩:∃ k':Nat,k=(k':Int):=⟨k.toNat,by omega⟩
  exact⟨_,_,_,fun w=>tight_k (by omega) (by omega),fun w=>dtight_k (by omega) (by omega)⟩
 ·exact⟨_,_,_,fun w=>tight_no h,fun w=>dtight_no h⟩
theorem same_q (F:Nat) (w:World):Calls Tryz.prog 68 #[.float .f64 F,.float .f64 F] w fun r w'=>r=.returned (.bool true)∧w'=w:=by
 have k1:=fun W=>bits_c F W
 go_enter Tryz.func68,Tryz.ntmps68
 go_wp2_with (go_at_call 115;refine(k1 _).mono ?_;rintro r wz ⟨rfl,hwz⟩;rw[hwz];clear hwz wz)
 go_ret
 exact⟨rfl,rfl⟩
theorem lsame_q (F:Nat) (w:World):Calls Tryz.prog 25 #[.float .f64 F,.float .f64 F] w fun r w'=>r=.returned (.bool true)∧w'=w:=by
 have k1:=fun W=>same_q F W
 go_enter Tryz.func25,Tryz.ntmps25
 go_wp2_with (go_at_call 68;refine(k1 _).mono ?_;rintro r wz ⟨rfl,hwz⟩;rw[hwz];clear hwz wz)
 go_ret
 exact⟨rfl,rfl⟩
theorem span_q (F G:Nat) (w:World):Calls Tryz.prog 11 #[.agg #[.float .f64 F,.float .f64 G],.agg #[.float .f64 F,.float .f64 G]] w fun r w'=>r=.returned (.bool true)∧Bw w w':=by
 obtain⟨W,hW⟩:∃ W,W=(w.alloc (.cells #[.float .f64 F,.float .f64 G] 24)).alloc (.cells #[.float .f64 F,.float .f64 G] 24):=⟨_,rfl⟩
 have hb:Bw w W:=by rw[hW];exact((Below.refl _ _).alloc (Nat.le_refl _) _).alloc (by simp) _
 have h0:IvK W w.heap.size F G:=by
  rw[hW]
  exact(IvK.new w F G).box ((Below.refl _ _).alloc (Nat.le_refl _) _)
 have h1:IvK W (w.heap.size+1) F G:=by
  rw[hW]
  have:=IvK.new (w.alloc (.cells #[.float .f64 F,.float .f64 G] 24)) F G
  simpa using this
 obtain⟨⟨y0,y1⟩,y2,y3⟩:=h0.facts
 obtain⟨⟨z0,z1⟩,z2,z3⟩:=h1.facts
 have HB:Hid (Bw w W):=hb
 clear hb h0 h1
 have k1:=fun W=>lsame_q F W
 have k2:=fun W=>lsame_q G W
 go_enter Tryz.func11,Tryz.ntmps11
 go_upto_region 1 with fail
 rw[←hW]
 clear hW
 go_wp2_with (first|(go_at_call 25;with_reducible refine(k1 _).mono ?_;rintro r wz ⟨rfl,hwz⟩;rw[hwz];clear hwz wz)|(go_at_call 25;with_reducible refine(k2 _).mono ?_;rintro r wz ⟨rfl,hwz⟩;rw[hwz];clear hwz wz))
 go_ret
 exact⟨rfl,HB.out⟩
attribute [local go_sem] run_store_fltK
theorem constsTight_ok (k n:Int) (hn : -9223372036854775808≤n∧n≤9223372036854775807) (w:World):Calls Tryz.prog 3 #[.int .i64 k,.int .i64 n] w fun r w'=>r=.returned (.bool true)∧Bw w w':=by
 obtain⟨F,G,e,k1,k2⟩:=tight_any k
 obtain⟨F',G',k3,k4⟩:=times_any n hn
 have s1:=fun W=>span_q F G W
 have s2:=fun W=>span_q F' G' W
 clear hn
 go_enter Tryz.func3,Tryz.ntmps3
 go_wp2_with fail
 refine(k1 _).mono ?_
 rintro r v1 ⟨rfl,hb⟩
 obtain⟨W,hW⟩:∃ W,W=v1.alloc (.cells #[.float .f64 0,.float .f64 0] 24):=⟨_,rfl⟩
 obtain⟨g1,hg⟩:∃ g,g=v1.heap.size:=⟨_,rfl⟩
 have HV:Hid (IvK W v1.heap.size 0 0∧Bw w W∧w.heap.size≤v1.heap.size):=(by rw[hW];exact⟨IvK.new _ _ _,hb.alloc hb.size _,hb.size⟩:IvK W v1.heap.size 0 0∧Bw w W∧w.heap.size≤v1.heap.size)
 obtain⟨⟨y0,y1⟩,y2,y3⟩:=HV.out.1.facts
 clear hb
 go_upto_region 2 with (rw[←hW];clear hW)
 obtain⟨u1,hu⟩:∃ u,u=(W.setCell ⟨v1.heap.size,0,none⟩ (.float .f64 F)).setCell ⟨v1.heap.size,1,none⟩ (.float .f64 G):=⟨_,rfl⟩
 have HP1:Hid (IvK u1 g1 F G∧Bw w u1):=(by rw[hu,hg];exact⟨HV.out.1.set _ _,below_set HV.out.2.1 HV.out.2.2 _ _⟩:IvK u1 g1 F G∧Bw w u1)
 rw[←hu,←hg]
 clear hu hg HV y0 y1 y2 y3
 go_wp2_with fail
 refine(k2 _).mono ?_
 rintro r v2 ⟨rfl,hb⟩
 obtain⟨W,hW⟩:∃ W,W=v2.alloc (.cells #[.float .f64 0,.float .f64 0] 24):=⟨_,rfl⟩
 obtain⟨g2,hg⟩:∃ g,g=v2.heap.size:=⟨_,rfl⟩
 have hbW:Bw u1 W:=by rw[hW];exact hb.alloc hb.size _
 have HL:Hid (g1≠v2.heap.size∧w.heap.size≤v2.heap.size):=by
  have hs:=hb.size
  have hw:=HP1.out.2.size
  have l0:=HP1.out.1.lt
  exact⟨by omega,by omega⟩
 have HV:Hid (IvK W v2.heap.size 0 0∧IvK W g1 F G∧Bw w W):=⟨by rw[hW];exact IvK.new _ _ _,HP1.out.1.box hbW,HP1.out.2.trans (hbW.mono HP1.out.2.size)⟩
 obtain⟨⟨y0,y1⟩,y2,y3⟩:=HV.out.1.facts
 clear hb hbW HP1
 go_upto_region 3 with (rw[←hW];clear hW)
 obtain⟨u2,hu⟩:∃ u,u=(W.setCell ⟨v2.heap.size,0,none⟩ (.float .f64 F)).setCell ⟨v2.heap.size,1,none⟩ (.float .f64 G):=⟨_,rfl⟩
 have HP2:Hid (IvK u2 g1 F G∧IvK u2 g2 F G∧Bw w u2):=(by
  rw[hu]
  exact⟨HV.out.2.1.other HL.out.1 _ _,by rw[hg];exact HV.out.1.set _ _,below_set HV.out.2.2 HL.out.2 _ _⟩:IvK u2 g1 F G∧IvK u2 g2 F G∧Bw w u2)
 rw[←hu,←hg]
 clear hu hg HV HL y0 y1 y2 y3
 go_wp2_with fail
 refine(k3 _).mono ?_
 rintro r v3 ⟨rfl,hb⟩
 obtain⟨W,hW⟩:∃ W,W=v3.alloc (.cells #[.float .f64 0,.float .f64 0] 24):=⟨_,rfl⟩
 obtain⟨g3,hg⟩:∃ g,g=v3.heap.size:=⟨_,rfl⟩
 have hbW:Bw u2 W:=by rw[hW];exact hb.alloc hb.size _
 have HL:Hid (g1≠v3.heap.size∧g2≠v3.heap.size∧w.heap.size≤v3.heap.size):=by
  have hs:=hb.size
  have hw:=HP2.out.2.2.size
  have l0:=HP2.out.1.lt
  have l1:=HP2.out.2.1.lt
  exact⟨by omega,by omega,by omega⟩
 have HV:Hid (IvK W v3.heap.size 0 0∧IvK W g1 F G∧IvK W g2 F G∧Bw w W):=⟨by rw[hW];exact IvK.new _ _ _,HP2.out.1.box hbW,HP2.out.2.1.box hbW,HP2.out.2.2.trans (hbW.mono HP2.out.2.2.size)⟩
 obtain⟨⟨y0,y1⟩,y2,y3⟩:=HV.out.1.facts
 clear hb hbW HP2
 go_upto_region 4 with (rw[←hW];clear hW)
 obtain⟨u3,hu⟩:∃ u,u=(W.setCell ⟨v3.heap.size,0,none⟩ (.float .f64 F')).setCell ⟨v3.heap.size,1,none⟩ (.float .f64 G'):=⟨_,rfl⟩
 have HP3:Hid (IvK u3 g1 F G∧IvK u3 g2 F G∧IvK u3 g3 F' G'∧Bw w u3):=(by
  rw[hu]
  exact⟨HV.out.2.1.other HL.out.1 _ _,HV.out.2.2.1.other HL.out.2.1 _ _,by rw[hg];exact HV.out.1.set _ _,below_set HV.out.2.2.2 HL.out.2.2 _ _⟩:IvK u3 g1 F G∧IvK u3 g2 F G∧IvK u3 g3 F' G'∧Bw w u3)
 rw[←hu,←hg]
 clear hu hg HV HL y0 y1 y2 y3
 go_wp2_with fail
 refine(k4 _).mono ?_
 rintro r v4 ⟨rfl,hb⟩
 obtain⟨W,hW⟩:∃ W,W=v4.alloc (.cells #[.float .f64 0,.float .f64 0] 24):=⟨_,rfl⟩
 obtain⟨g4,hg⟩:∃ g,g=v4.heap.size:=⟨_,rfl⟩
 have hbW:Bw u3 W:=by rw[hW];exact hb.alloc hb.size _
 have HL:Hid (g1≠v4.heap.size∧g2≠v4.heap.size∧g3≠v4.heap.size∧w.heap.size≤v4.heap.size):=by
  have hs:=hb.size
  have hw:=HP3.out.2.2.2.size
  have l0:=HP3.out.1.lt
  have l1:=HP3.out.2.1.lt
  have l2:=HP3.out.2.2.1.lt
  exact⟨by omega,by omega,by omega,by omega⟩
 have HV:Hid (IvK W v4.heap.size 0 0∧IvK W g1 F G∧IvK W g2 F G∧IvK W g3 F' G'∧Bw w W):=⟨by rw[hW];exact IvK.new _ _ _,HP3.out.1.box hbW,HP3.out.2.1.box hbW,HP3.out.2.2.1.box hbW,HP3.out.2.2.2.trans (hbW.mono HP3.out.2.2.2.size)⟩
 obtain⟨⟨y0,y1⟩,y2,y3⟩:=HV.out.1.facts
 clear hb hbW HP3
 go_upto_region 5 with (rw[←hW];clear hW)
 obtain⟨u4,hu⟩:∃ u,u=(W.setCell ⟨v4.heap.size,0,none⟩ (.float .f64 F')).setCell ⟨v4.heap.size,1,none⟩ (.float .f64 G'):=⟨_,rfl⟩
 have HP4:Hid (IvK u4 g1 F G∧IvK u4 g2 F G∧IvK u4 g3 F' G'∧IvK u4 g4 F' G'∧Bw w u4):=(by
  rw[hu]
  exact⟨HV.out.2.1.other HL.out.1 _ _,HV.out.2.2.1.other HL.out.2.1 _ _,HV.out.2.2.2.1.other HL.out.2.2.1 _ _,by rw[hg];exact HV.out.1.set _ _,below_set HV.out.2.2.2.2 HL.out.2.2.2 _ _⟩:IvK u4 g1 F G∧IvK u4 g2 F G∧IvK u4 g3 F' G'∧IvK u4 g4 F' G'∧Bw w u4)
 rw[←hu,←hg]
 clear hu hg HV HL y0 y1 y2 y3
 obtain⟨⟨a0,a1⟩,-⟩:=HP4.out.1.facts
 obtain⟨⟨b0,b1⟩,-⟩:=HP4.out.2.1.facts
 clear k1 k2 k3 k4
 go_wp2_with fail
 refine(s1 _).mono ?_
 rintro r u5 ⟨rfl,hb⟩
 have HP5:Hid (IvK u5 g3 F' G'∧IvK u5 g4 F' G'∧Bw w u5):=⟨HP4.out.2.2.1.box hb,HP4.out.2.2.2.1.box hb,HP4.out.2.2.2.2.trans (hb.mono HP4.out.2.2.2.2.size)⟩
 clear s1 hb HP4 a0 a1 b0 b1
 obtain⟨⟨a0,a1⟩,-⟩:=HP5.out.1.facts
 obtain⟨⟨b0,b1⟩,-⟩:=HP5.out.2.1.facts
 have he:(e==e)=true:=beq_self_eq_true e
 go_wp2_with fail
 refine(s2 _).mono ?_
 rintro r u6 ⟨rfl,hb⟩
 have HP6:Hid (Bw w u6):=HP5.out.2.2.trans (hb.mono HP5.out.2.2.size)
 clear s2 hb HP5 a0 a1 b0 b1
 go_wp2_with (go_at_call 12;refine bsure.mono ?_;rintro r w3 ⟨rfl,hb3⟩)
 go_ret
 exact⟨rfl,HP6.out.trans (hb3.mono HP6.out.size)⟩
end Go.Proofs.YtapooodfgcjoaaaGreat
