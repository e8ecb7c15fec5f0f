/- Own work: contracts of the program's functions, part 21: PTC PTE PTE2 DRS DRT DRU DRV DRW PTF PTD. -/
import Derived.Test.YtbanebginnakhaaGreatDoorA20

set_option maxHeartbeats 16000000
set_option maxRecDepth 200000
set_option linter.unusedVariables false
set_option linter.unusedSimpArgs false
namespace Go.Proofs.YtbanebginnakhaaGreatDoor
open Go Go.RowKit Go.Fl64
def sgB (n:Nat):Bool:=n==43||n==45
def mkB (n:Nat):Bool:=n==101||n==69||n==112||n==80
theorem qI3 (c:UInt8):isSg c=sgB c.toNat∧isMk c=mkB c.toNat∧(c=105↔c.toNat=105):=by
 have key:∀ n:Fin 256,isSg (UInt8.ofNat n.val)=sgB n.val∧isMk (UInt8.ofNat n.val)=mkB n.val∧(UInt8.ofNat n.val=105↔n.val=105):=by decide +kernel
 have k2:=key ⟨c.toNat,c.toNat_lt⟩;simp only[UInt8.ofNat_toNat] at k2;exact k2
def smG (b:List UInt8):Nat→Nat
 | 0=>0
 | k+1=>if sgB (bL b (k+1)) && !mkB (bL b k)then k+1 else smG b k
theorem qO5 (b:List UInt8):∀ n,smG b n≤n
 | 0=>xL0 _
 | k+1=>by
  unfold smG;split
  ·exact xL0 _
  ·have:=qO5 b k;omega
theorem zG8 (b:List UInt8):∀ n j,smG b n=j+1→sgB (bL b (j+1))=true∧mkB (bL b j)=false
 | 0,j,h=>by cases h
 | k+1,j,h=>by
  unfold smG at h;by_cases hc:(sgB (bL b (k+1)) && !mkB (bL b k))=true
  ·rw[if_pos hc] at h;injection h with h;subst h;rw[xC,Bool.not_eq_true'] at hc;exact hc
  ·rw[if_neg hc] at h;exact zG8 b k j h
theorem yP7 (b:List UInt8):∀ n j,smG b n≤j→j+1≤n→¬ (sgB (bL b (j+1))=true∧mkB (bL b j)=false)
 | 0,j,_,h=>by omega
 | k+1,j,h1,h2=>by
  unfold smG at h1;by_cases hc:(sgB (bL b (k+1)) && !mkB (bL b k))=true
  ·rw[if_pos hc] at h1;omega
  ·rw[if_neg hc] at h1;by_cases hj:j=k
   ·subst hj;rintro⟨h3,h4⟩
    rw[h3,h4] at hc;exact hc rfl
   ·exact yP7 b k j h1 (by omega)
theorem qU0? {b:List UInt8} {i:Nat} {x:UInt8} (h:b[i]?=some x):bL b i=x.toNat:=by unfold bL;rw[h];rfl
theorem get?_lt {b:List UInt8} {i:Nat} (h:i<b.length):∃ x,b[i]?=some x:=⟨b[i],List.getElem?_eq_getElem h⟩
theorem zJ {t:List UInt8} (h:dOk t) {i:Nat} (hi:i+1<t.length):¬ (sgB (bL t (i+1))=true∧mkB (bL t i)=false):=by
 obtain⟨x,hx⟩:=get?_lt (show i<t.length by omega)
 obtain⟨y,hy⟩:=get?_lt hi;rintro⟨h1,h2⟩
 rw[qU0? hy,←(qI3 y).1] at h1;have h3:=xM3 h hx hy h1;rw[qU0? hx,←(qI3 x).2.1,h3] at h2;cases h2
theorem qG5 {t:List UInt8} (h:dOk t):0<t.length∧bL t (t.length - 1)≠105∧mkB (bL t (t.length - 1))=false:=by
 obtain⟨h1,h2⟩:=yB h;have h3:0<t.length:=by cases t with
  | nil=>exact absurd rfl h1
  | cons _ _=>simp
 obtain⟨x,hx⟩:=get?_lt (show t.length - 1<t.length by omega)
 obtain⟨h4,h5⟩:=h2 _ x (by omega) hx
 rw[qU0? hx];refine⟨h3,fun e=>h4 ((qI3 x).2.2.2 e),?_⟩
 rw[←(qI3 x).2.1];exact h5
theorem qU6 {s:List UInt8} {i j:Nat} (h:i<j):bL (s.take j) i=bL s i:=by unfold bL;rw[List.getElem?_take_of_lt h]
def qP (b:List UInt8):Nat:=smG b (b.length - 1)
def pt1 (s:List UInt8):List UInt8:=if 0<s.length∧bL s (s.length - 1)=105 then(if 0<qP (s.take (s.length - 1))then s.take (qP (s.take (s.length - 1)))else [48])else s
def pt2 (s:List UInt8):List UInt8:=if 0<s.length∧bL s (s.length - 1)=105 then(if 0<qP (s.take (s.length - 1)) then(s.take (s.length - 1)).drop (qP (s.take (s.length - 1)))else s.take (s.length - 1))else [48]
theorem yF9 {t:List UInt8} (h:dOk t):qP t=0:=by
 unfold qP;rcases hj:smG t (t.length - 1)with _|j
 ·rfl
 ·exfalso;have h1:=qO5 t (t.length - 1);exact zJ h (i:=j) (by omega) (zG8 t _ j hj)
theorem zH8 {s:List UInt8} (h1:dOk (pt1 s)) (h2:dOk (pt2 s)) :
  (dOk s∧0<s.length) ∨
  (0<s.length - 1∧bL s (s.length - 1)=105∧dOk (s.take (s.length - 1))) ∨
  (∃ j,j+1<s.length - 1∧bL s (s.length - 1)=105∧sgB (bL s (j+1))=true∧mkB (bL s j)=false∧dOk (s.take (j+1))∧dOk ((s.take (s.length - 1)).drop (j+1))):=by
 unfold pt1 at h1;unfold pt2 at h2;by_cases hv:0<s.length∧bL s (s.length - 1)=105
 ·rw[if_pos hv] at h1 h2;have hl:(s.take (s.length - 1)).length=s.length - 1:=by rw[List.length_take];omega
  rcases hj:qP (s.take (s.length - 1))with _|j
  ·rw[hj,if_neg (by omega)] at h2
   have:=(qG5 h2).1
   exact .inr (.inl ⟨by omega,hv.2,h2⟩)
  ·rw[hj,if_pos (by omega)] at h1 h2
   have h3:=qO5 (s.take (s.length - 1)) ((s.take (s.length - 1)).length - 1);have h4:smG (s.take (s.length - 1)) ((s.take (s.length - 1)).length - 1)=j+1:=hj;obtain⟨h5,h6⟩:=zG8 _ _ _ h4;have h7:j+1<s.length - 1:=by omega
   rw[qU6 (by omega)] at h5 h6
   exact .inr (.inr ⟨j,h7,hv.2,h5,h6,h1,h2⟩)
 ·rw[if_neg hv] at h1;exact .inl ⟨h1,(qG5 h1).1⟩
theorem qE4 (s:List UInt8):s.take s.length=s:=List.take_of_length_le (xL0 _)
theorem qN5 {s:List UInt8} {k j:Nat} (h:LgS s k) (hj:j≤s.length) (hd:dOk (s.take j)):j≤k:=by
 rcases Nat.lt_or_ge k j with h1|h1
 ·exact absurd hd (h.2 j h1 hj)
 ·exact h1
theorem qC5 {s:List UInt8} {k:Nat} (h:LgS s k) (hk:k≠0):k≤s.length∧dOk (s.take k):=by
 rcases h.1 with h1|h1
 ·exact absurd h1 hk
 ·exact h1
theorem pj_a {s:List UInt8} (h:LgS s 0):¬ (dOk (pt1 s)∧dOk (pt2 s)):=by
 rintro⟨h1,h2⟩
 rcases zH8 h1 h2 with ⟨h3,h4⟩|⟨h3,-,h4⟩|⟨j,h3,-,-,-,h4,-⟩
 ·have:=qN5 h (j:=s.length) (xL0 _) (by rw[qE4];exact h3)
  omega
 ·have:=qN5 h (by omega) h4
  omega
 ·have:=qN5 h (by omega) h4
  omega
theorem pj_b {s:List UInt8} (h:LgS s s.length) (h0:s.length≠0):dOk s∧pt1 s=s∧pt2 s = [48]:=by
 obtain⟨-,hd⟩:=qC5 h h0;rw[qE4] at hd;have hv:¬ (0<s.length∧bL s (s.length - 1)=105):=fun h=>(qG5 hd).2.1 h.2;exact⟨hd,by unfold pt1;rw[if_neg hv],by unfold pt2;rw[if_neg hv]⟩
theorem pj_c {s:List UInt8} {k:Nat} (h:LgS s k) (h0:k≠0) (hk:k+1=s.length) (hi:bL s k=105):dOk (s.take k)∧pt1 s = [48]∧pt2 s=s.take k:=by
 obtain⟨-,hd⟩:=qC5 h h0;have e:s.length - 1=k:=by omega
 have hv:0<s.length∧bL s (s.length - 1)=105:=⟨by omega,by rw[e];exact hi⟩
 have hs:=yF9 hd;refine⟨hd,?_,?_⟩
 ·unfold pt1;rw[if_pos hv,e,hs,if_neg (by omega)]
 ·unfold pt2;rw[if_pos hv,e,hs,if_neg (by omega)]
theorem pj_k {s:List UInt8} {k:Nat} (h:LgS s k) (hk:k<s.length) (hn:¬ (k+1=s.length∧bL s k=105)) (hp:dOk (pt1 s)∧dOk (pt2 s)) :
  sgB (bL s k)=true∧k<s.length - 1∧bL s (s.length - 1)=105∧dOk ((s.take (s.length - 1)).drop k):=by
 rcases zH8 hp.1 hp.2 with ⟨h3,h4⟩|⟨h3,h5,h4⟩|⟨j,h3,h5,h6,h7,h4,h8⟩
 ·have:=qN5 h (j:=s.length) (xL0 _) (by rw[qE4];exact h3)
  omega
 ·have:=qN5 h (by omega) h4
  exact absurd ⟨by omega,by rw[show k=s.length - 1 by omega];exact h5⟩ hn
 ·have h9:=qN5 h (by omega) h4
  by_cases hjk:k=j+1
  ·subst hjk;exact⟨h6,h3,h5,h8⟩
  ·exfalso;obtain⟨k1,k2⟩:=qC5 h (by omega)
   refine zJ k2 (i:=j) (by rw[List.length_take];omega) ⟨?_,?_⟩
   ·rw[qU6 (by omega)];exact h6
   ·rw[qU6 (by omega)];exact h7
theorem qR0 {s:List UInt8} {k n:Nat}:(s.take n).drop k=(s.drop k).take (n - k):=by rw[List.drop_take]
theorem bLd (L:List UInt8) (a k:Nat):bL (L.drop a) k=bL L (a+k):=by unfold bL;rw[List.getElem?_drop]
theorem pj_m {s:List UInt8} {k m:Nat} (h:LgS s k) (hk:k<s.length) (hn:¬ (k+1=s.length∧bL s k=105)) (hm:LgS (s.drop k) m) (hp:dOk (pt1 s)∧dOk (pt2 s)) :
  m≠0∧k+m=s.length - 1∧bL s (k+m)=105:=by
 obtain⟨h1,h2,h3,h4⟩:=pj_k h hk hn hp;rw[qR0] at h4;have hl:(s.drop k).length=s.length - k:=List.length_drop;have h5:=qN5 hm (by omega) h4
 obtain⟨h6,h7⟩:=qC5 hm (by omega)
 have h8:m≠s.length - k:=by
  intro e;have h9:=(qG5 h7).2.1;rw[List.length_take,hl,show min m (s.length - k)=m by omega,qU6 (by omega),bLd,show k+(m - 1)=s.length - 1 by omega] at h9
  exact h9 h3
 refine⟨by omega,by omega,?_⟩
 rw[show k+m=s.length - 1 by omega]
 exact h3
theorem pj_f {s:List UInt8} {k m:Nat} (h:LgS s k) (h0:k≠0) (hk:k<s.length) (hs:sgB (bL s k)=true) (hm:LgS (s.drop k) m) (m0:m≠0) (hkm:k+m=s.length - 1) (hi:bL s (k+m)=105) :
  dOk (s.take k)∧dOk ((s.drop k).take m)∧pt1 s=s.take k∧pt2 s=(s.drop k).take m:=by
 obtain⟨k1,k2⟩:=qC5 h h0;obtain⟨m1,m2⟩:=qC5 hm m0;have hl:(s.drop k).length=s.length - k:=List.length_drop;have hv:0<s.length∧bL s (s.length - 1)=105:=⟨by omega,by rw[←hkm];exact hi⟩
 have hbl:(s.take (s.length - 1)).length=s.length - 1:=by rw[List.length_take];omega
 obtain⟨j,rfl⟩:∃ j,k=j+1:=⟨k - 1,by omega⟩
 have hmk:mkB (bL s j)=false:=by
  have:=(qG5 k2).2.2
  rw[List.length_take,show min (j+1) s.length - 1=j by omega,qU6 (by omega)] at this
  exact this
 have hsm:qP (s.take (s.length - 1))=j+1:=by
  unfold qP;rw[hbl];have hle:=qO5 (s.take (s.length - 1)) (s.length - 1 - 1);rcases Nat.lt_trichotomy (smG (s.take (s.length - 1)) (s.length - 1 - 1)) (j+1)with h1|h1|h1
  ·exfalso;refine yP7 (s.take (s.length - 1)) (s.length - 1 - 1) j (by omega) (by omega) ⟨?_,?_⟩
   ·rw[qU6 (by omega)];exact hs
   ·rw[qU6 (by omega)];exact hmk
  ·exact h1
  ·exfalso;obtain⟨i,hi2⟩:∃ i,smG (s.take (s.length - 1)) (s.length - 1 - 1)=i+1:=⟨smG (s.take (s.length - 1)) (s.length - 1 - 1) - 1,by omega⟩
   obtain⟨q1,q2⟩:=zG8 _ _ _ hi2;rw[qU6 (by omega)] at q1 q2
   refine zJ m2 (i:=i - (j+1)) (by rw[List.length_take,hl];omega) ⟨?_,?_⟩
   ·rw[qU6 (by omega),bLd,show j+1+(i - (j+1)+1)=i+1 by omega];exact q1
   ·rw[qU6 (by omega),bLd,show j+1+(i - (j+1))=i by omega];exact q2
 refine⟨k2,m2,?_,?_⟩
 ·unfold pt1;rw[if_pos hv,hsm,if_pos (by omega)]
 ·unfold pt2;rw[if_pos hv,hsm,if_pos (by omega),qR0,show s.length - 1 - (j+1)=m by omega]
theorem xZ9 (c:Nat) (w:World):Calls Tryz.prog 39 #[.int .u8 c] w fun r w'=>r=.returned (.bool (sgB c))∧w'=w:=by
 by_cases h43:c=43
 ·subst h43
  go_enter Tryz.func39,Tryz.ntmps39
  go_wp2
  go_ret;exact⟨rfl,rfl⟩
 by_cases h45:c=45
 ·subst h45
  go_enter Tryz.func39,Tryz.ntmps39
  go_wp2
  go_ret;exact⟨rfl,rfl⟩
 have z43:¬ (c:Int)=43:=by omega
 have y43:((c:Int)==43)=false:=beq_eq_false_iff_ne.2 z43;have z45:¬ (c:Int)=45:=by omega
 have y45:((c:Int)==45)=false:=beq_eq_false_iff_ne.2 z45;have e:sgB c=false:=by unfold sgB;simp[h43,h45]
 rw[e];clear e h43 h45
 go_enter Tryz.func39,Tryz.ntmps39
 go_wp2
 go_ret;exact⟨rfl,rfl⟩
theorem xX0 (c:Nat) (w:World):Calls Tryz.prog 40 #[.int .u8 c] w fun r w'=>r=.returned (.bool (mkB c))∧w'=w:=by
 by_cases h101:c=101
 ·subst h101
  go_enter Tryz.func40,Tryz.ntmps40
  go_wp2
  go_ret;exact⟨rfl,rfl⟩
 by_cases h69:c=69
 ·subst h69
  go_enter Tryz.func40,Tryz.ntmps40
  go_wp2
  go_ret;exact⟨rfl,rfl⟩
 by_cases h112:c=112
 ·subst h112
  go_enter Tryz.func40,Tryz.ntmps40
  go_wp2
  go_ret;exact⟨rfl,rfl⟩
 by_cases h80:c=80
 ·subst h80
  go_enter Tryz.func40,Tryz.ntmps40
  go_wp2
  go_ret;exact⟨rfl,rfl⟩
 have z101:¬ (c:Int)=101:=by omega
 have y101:((c:Int)==101)=false:=beq_eq_false_iff_ne.2 z101;have z69:¬ (c:Int)=69:=by omega
 have y69:((c:Int)==69)=false:=beq_eq_false_iff_ne.2 z69;have z112:¬ (c:Int)=112:=by omega
 have y112:((c:Int)==112)=false:=beq_eq_false_iff_ne.2 z112;have z80:¬ (c:Int)=80:=by omega
 have y80:((c:Int)==80)=false:=beq_eq_false_iff_ne.2 z80;have e:mkB c=false:=by unfold mkB;simp[h101,h69,h112,h80]
 rw[e];clear e h101 h69 h112 h80
 go_enter Tryz.func40,Tryz.ntmps40
 go_wp2
 go_ret;exact⟨rfl,rfl⟩
theorem Pseam (L:List UInt8) (w:World) (hL:L.length≤2000000):Calls Tryz.prog 23 #[.string ⟨L.toArray⟩] w fun r w'=>r=.returned (.int .i64 (qP L:Nat))∧w'=w:=by
 obtain⟨n,hn⟩:∃ n,n=L.length:=⟨_,rfl⟩;obtain⟨R,hR⟩:∃ R:ByteArray,R=⟨L.toArray⟩:=⟨_,rfl⟩;have hsz:R.size=n:=by rw[hR,hn];rfl
 have hg:∀ k (h:k<R.size),(R[k]'h).toNat=bL L k:=by subst hR;exact qU0 L
 have HG:Hid (∀ k (h:k<R.size),(R[k]'h).toNat=bL L k):=hg;obtain⟨a,ha⟩:∃ a,a=qP L:=⟨_,rfl⟩;have HA:Hid (a=smG L (n - 1)):=by rw[ha,hn];rfl
 rw[←hn] at hL;rw[←hR,←ha];clear hR hn ha hg;rcases Nat.eq_zero_or_pos n with h0|h0
 ·have e:a=0:=by rw[HA.out,h0];rfl
  subst e;have hwn:IntKind.i64.wrap ((n:Int) - 1) = -1:=by rw[xW6];omega
  go_enter Tryz.func23,Tryz.ntmps23
  go_wp2
  go_loopw [3] (fun v wr=>v=.int .i64 (-1)∧wr=w) (fun v _=>0)
  case atStart=>exact⟨rfl,rfl⟩
  case round =>
   obtain⟨rfl,rfl⟩:=hrel
   go_wp2
   go_ret;exact⟨rfl,rfl⟩
 ·have hwn:IntKind.i64.wrap ((n:Int) - 1)=((n - 1:Nat):Int):=by rw[xW6];omega
  go_enter Tryz.func23,Tryz.ntmps23
  go_wp2
  go_loopw [3] (fun v wr=>∃ i:Nat,i<n∧v=.int .i64 i∧wr=w∧Hid (a=smG L i)) (fun v _=>(intOf v).toNat)
  case atStart=>exact⟨n - 1,by omega,rfl,rfl,HA⟩
  case round =>
   obtain⟨i,hi,rfl,rfl,hM⟩:=hrel;by_cases hi0:0<i
   ·have hgt:(0:Int)<(i:Int):=by omega
    have hii:(i:Int)<(n:Int):=by omega
    have hiR:i<R.size:=by omega
    obtain⟨j,hj⟩:∃ j,j=i - 1:=⟨_,rfl⟩;have hw1:IntKind.i64.wrap ((i:Int) - 1)=(j:Int):=by rw[xW6];omega
    have hjj:(j:Int)<(n:Int):=by omega
    have hjR:j<R.size:=by omega
    have g1:=HG.out i;have g2:=HG.out j;have kS:=xZ9 (bL L i);have kM:=xX0 (bL L j);have hM':a=smG L (j+1):=by rw[hM.out];congr 1;omega
    unfold smG at hM';rw[show j+1=i by omega] at hM'
    obtain⟨p,hp⟩:∃ p,p=sgB (bL L i):=⟨_,rfl⟩;obtain⟨q,hq⟩:∃ q,q=mkB (bL L j):=⟨_,rfl⟩;rw[←hp,←hq] at hM';have HM:Hid (a=if(p && !q)=true then i else smG L j):=hM';rw[←hp] at kS;rw[←hq] at kM;have HJ:Hid (j=i - 1):=hj;clear hM' hp hq hj hi0;cases p
    ·go_wp2_with fail;refine(kS _).mono ?_
     rintro r w1 ⟨rfl,rfl⟩;clear kS kM g1 g2
     go_wp2;have:=HJ.out
     exact⟨⟨j,by omega,rfl,by first|rfl|trivial,by rw[HM.out];rfl⟩,by simp[intOf];omega⟩
    ·go_wp2_with fail;refine(kS _).mono ?_
     rintro r w1 ⟨rfl,rfl⟩
     go_wp2_with fail;refine(kM _).mono ?_
     rintro r w1 ⟨rfl,rfl⟩;clear kS kM g1 g2;cases q
     ·have e:a=i:=by rw[HM.out];rfl
      subst e
      go_wp2
      go_ret;exact⟨rfl,rfl⟩
     ·go_wp2;have:=HJ.out
      exact⟨⟨j,by omega,rfl,by first|rfl|trivial,by rw[HM.out];rfl⟩,by simp[intOf];omega⟩
   ·obtain rfl:i=0:=by omega
    have e:a=0:=hM.out;subst e;clear hM HA
    go_wp2
    go_ret;exact⟨rfl,rfl⟩
theorem yU7 {L:List UInt8} (h:0<L.length):(((⟨L.toArray⟩:ByteArray).extract (L.length - 1) L.length).toList == [105])=decide (bL L (L.length - 1)=105):=by
 have e:(⟨L.toArray⟩:ByteArray).extract (L.length - 1) L.length=⟨(L.drop (L.length - 1)).toArray⟩:=by
  apply ByteArray.ext
  rw[ByteArray.data_extract];apply Array.ext'
  rw[Array.toList_extract];simp[List.extract_eq_take_drop];rw[List.take_of_length_le (by rw[List.length_drop];omega)]
 rw[e,qH3,List.drop_eq_getElem_cons (by omega),List.drop_eq_nil_of_le (by omega)]
 have hb:bL L (L.length - 1)=(L[L.length - 1]'(by omega)).toNat:=by unfold bL;rw[List.getElem?_eq_getElem (by omega)];rfl
 rw[hb,Bool.eq_iff_iff,beq_iff_eq,decide_eq_true_eq];constructor
 ·intro h1;injection h1 with h1 _;rw[h1];rfl
 ·intro h1;rw[UInt8.toNat_inj.1 (show(L[L.length - 1]'(by omega)).toNat=(105:UInt8).toNat from h1)]
theorem xX1 (L:List UInt8) (w:World) (hL:L.length≤2000000):Calls Tryz.prog 66 #[.string ⟨L.toArray⟩,.string ⟨#[105]⟩] w fun r w'=>r=.returned (.bool (decide (0<L.length∧bL L (L.length - 1)=105)))∧w'=w:=by
 rcases Nat.eq_zero_or_pos L.length with h0|h0
 ·obtain rfl:L = []:=List.length_eq_zero_iff.1 h0
  go_enter Tryz.func66,Tryz.ntmps66
  go_wp2
  go_ret;exact⟨rfl,rfl⟩
 ·have hx:=yU7 h0;have hd:decide (0<L.length∧bL L (L.length - 1)=105)=decide (bL L (L.length - 1)=105):=by simp[h0]
  rw[hd];obtain⟨b,hb⟩:∃ b,b=decide (bL L (L.length - 1)=105):=⟨_,rfl⟩;rw[←hb] at hx ⊢;obtain⟨n,hn⟩:∃ n,n=L.length:=⟨_,rfl⟩;obtain⟨R,hR⟩:∃ R:ByteArray,R=⟨L.toArray⟩:=⟨_,rfl⟩;have hsz:R.size=n:=by rw[hR,hn];rfl
  rw[←hn] at hL h0 hx;rw[←hR] at hx ⊢;clear hR hn hd hb;obtain⟨m,rfl⟩:∃ m,n=m+1:=⟨n - 1,by omega⟩
  rw[xE5] at hx;obtain⟨X,hX⟩:∃ X,X=R.extract m (m+1):=⟨_,rfl⟩;rw[←hX] at hx;have hwn:IntKind.i64.wrap (((m+1:Nat):Int) - 1)=(m:Int):=by rw[xW6];omega
  have hge:(1:Int)≤((m+1:Nat):Int):=by omega
  have hle:(m:Int)≤((m+1:Nat):Int):=by omega
  go_enter Tryz.func66,Tryz.ntmps66
  go_wp2
  go_ret;rw[hX] at hx;exact⟨by show Ending.returned (Value.bool ((R.extract m (m+1)).toList == [105]))=_;rw[hx],rfl⟩
theorem xX2 (L:List UInt8) (w:World) (hL:L.length≤2000000):Calls Tryz.prog 22 #[.string ⟨L.toArray⟩,.string ⟨#[105]⟩] w fun r w'=>r=.returned (.tuple #[.string ⟨(if 0<L.length∧bL L (L.length - 1)=105 then L.take (L.length - 1)else L).toArray⟩,.bool (decide (0<L.length∧bL L (L.length - 1)=105))])∧w'=w:=by
 have k1:∀ W,Calls Tryz.prog 38 #[.string ⟨L.toArray⟩,.string ⟨#[105]⟩] W fun r w'=>r=.returned (.tuple #[.string ⟨(if 0<L.length∧bL L (L.length - 1)=105 then L.take (L.length - 1)else L).toArray⟩,.bool (decide (0<L.length∧bL L (L.length - 1)=105))])∧w'=W:=by
  intro W;have k0:=xX1 L W hL;by_cases hv:0<L.length∧bL L (L.length - 1)=105
  ·rw[if_pos hv];rw[xL4 hv] at k0 ⊢;have hex:=qJ4 L (L.length - 1);have h0:=hv.1;clear hv;obtain⟨n,hn⟩:∃ n,n=L.length:=⟨_,rfl⟩;obtain⟨R,hR⟩:∃ R:ByteArray,R=⟨L.toArray⟩:=⟨_,rfl⟩;have hsz:R.size=n:=by rw[hR,hn];rfl
   rw[←hn] at hL h0 hex ⊢;rw[←hR] at hex k0 ⊢;clear hR hn;obtain⟨m,rfl⟩:∃ m,n=m+1:=⟨n - 1,by omega⟩
   rw[xE5] at hex ⊢;rw[←hex];clear hex;have hwn:IntKind.i64.wrap (((m+1:Nat):Int) - 1)=(m:Int):=by rw[xW6];omega
   have hle:(m:Int)≤((m+1:Nat):Int):=by omega
   go_enter Tryz.func38,Tryz.ntmps38
   go_wp2_with fail;refine k0.mono ?_;rintro r w1 ⟨rfl,rfl⟩
   go_wp2;refine xW9 (xE3 rfl _ _ _) rfl ?_;exact⟨rfl,rfl⟩
  ·rw[if_neg hv];rw[xL3 hv] at k0 ⊢;clear hv
   go_enter Tryz.func38,Tryz.ntmps38
   go_wp2_with fail;refine k0.mono ?_;rintro r w1 ⟨rfl,rfl⟩
   go_wp2;refine xW9 (xE3 rfl _ _ _) rfl ?_;exact⟨rfl,rfl⟩
 obtain⟨X,hX⟩:∃ X:ByteArray,X=⟨(if 0<L.length∧bL L (L.length - 1)=105 then L.take (L.length - 1)else L).toArray⟩:=⟨_,rfl⟩;obtain⟨b,hb⟩:∃ b,b=decide (0<L.length∧bL L (L.length - 1)=105):=⟨_,rfl⟩;rw[←hX,←hb] at k1 ⊢;clear hX hb
 go_enter Tryz.func22,Tryz.ntmps22
 go_wp2_with fail;refine(k1 _).mono ?_
 rintro r w1 ⟨rfl,rfl⟩
 go_wp2;refine xW9 (xE3 rfl _ _ _) rfl ?_;exact⟨rfl,rfl⟩
theorem xR8 (s:List UInt8) (w:World) (hL:s.length≤2000000):Calls Tryz.prog 9 #[.string ⟨s.toArray⟩] w fun r w'=>r=.returned (.tuple #[.string ⟨(pt1 s).toArray⟩,.string ⟨(pt2 s).toArray⟩])∧Bw w w':=by
 have k0:=xX2 s;unfold pt1 pt2;by_cases hv:0<s.length∧bL s (s.length - 1)=105
 ·rw[if_pos hv,if_pos hv];rw[if_pos hv,xL4 hv] at k0;have hlen:(s.take (s.length - 1)).length≤2000000:=by rw[List.length_take];omega
  obtain⟨Z,hZ⟩:∃ Z,Z=s.take (s.length - 1):=⟨_,rfl⟩;rw[←hZ] at k0 hlen ⊢;obtain⟨R,hR⟩:∃ R:ByteArray,R=⟨s.toArray⟩:=⟨_,rfl⟩;rw[←hR] at k0 ⊢;have k1:=Pseam Z;have hsl:qP Z≤Z.length:=by
   have:=qO5 Z (Z.length - 1)
   have e:qP Z=smG Z (Z.length - 1):=rfl;omega
  obtain⟨a,ha⟩:∃ a,a=qP Z:=⟨_,rfl⟩;rw[←ha] at k1 hsl ⊢;have hx1:(⟨Z.toArray⟩:ByteArray).extract 0 a=⟨(s.take a).toArray⟩:=by
   rw[qJ4,hZ,List.take_take,Nat.min_eq_left (by rw[hZ,List.length_take] at hsl;omega)]
  have hx2:=qJ0 Z a;obtain⟨R2,hR2⟩:∃ R2:ByteArray,R2=⟨Z.toArray⟩:=⟨_,rfl⟩;have hR2s:R2.size=Z.length:=by rw[hR2];rfl
  obtain⟨n,hn⟩:∃ n,n=Z.length:=⟨_,rfl⟩;rw[←hR2] at k0 k1 hx1 hx2;rw[←hn] at hx2 hsl hR2s;by_cases hs:0<a
  ·rw[if_pos hs,if_pos hs,←hx1,←hx2];have hgt:(0:Int)<(a:Int):=by omega
   have hle:(a:Int)≤(n:Int):=by omega
   clear hx1 hx2 hR2 hn hR hZ hv hs ha
   go_enter Tryz.func9,Tryz.ntmps9
   go_wp2_with fail;refine(k0 _ hL).mono ?_
   rintro r w1 ⟨rfl,rfl⟩
   go_wp2_with fail;refine(k1 _ hlen).mono ?_
   rintro r w1 ⟨rfl,rfl⟩;clear k0 k1
   go_upto_region 6 with fail
   go_quiet (fail)
   go_wp2_with fail;refine xW9 (xE3 rfl _ _ _) rfl ?_;exact⟨rfl,qD3 (xL1 _ _) _⟩
  ·rw[if_neg hs,if_neg hs,←hR2];obtain rfl:a=0:=by omega
   clear hx1 hx2 hR2 hn hR hZ hv hs ha
   go_enter Tryz.func9,Tryz.ntmps9
   go_wp2_with fail;refine(k0 _ hL).mono ?_
   rintro r w1 ⟨rfl,rfl⟩
   go_wp2_with fail;refine(k1 _ hlen).mono ?_
   rintro r w1 ⟨rfl,rfl⟩
   go_wp2;refine xW9 (xE3 rfl _ _ _) rfl ?_;exact⟨rfl,xL1 _ _⟩
 ·rw[if_neg hv,if_neg hv];rw[if_neg hv,xL3 hv] at k0;obtain⟨R,hR⟩:∃ R:ByteArray,R=⟨s.toArray⟩:=⟨_,rfl⟩;rw[←hR] at k0 ⊢;clear hR hv
  go_enter Tryz.func9,Tryz.ntmps9
  go_wp2_with fail;refine(k0 _ hL).mono ?_
  rintro r w1 ⟨rfl,rfl⟩
  go_wp2;refine xW9 (xE3 rfl _ _ _) rfl ?_;exact⟨rfl,xL1 _ _⟩
def TkC (s:List UInt8) (t1:ByteArray) (t2:Bool) (t3:ByteArray) (t4 t5 k:Int):Prop:=∀ w,Calls Tryz.prog 28 #[.string ⟨s.toArray⟩] w fun r w'=>TkO w #[.bool (decide (csS s<0)),.string t1,.bool t2,.string t3,.int .i64 t4,.int .i64 t5] k r w'
theorem zB2 {s:List UInt8} {a:Nat}:(⟨s.toArray⟩:ByteArray).extract a (a+3)=⟨((s.drop a).take 3).toArray⟩:=by
 apply ByteArray.ext
 rw[ByteArray.data_extract];apply Array.ext'
 rw[Array.toList_extract];simp[List.extract_eq_take_drop]
theorem yS9 {s:List UInt8} {n a:Nat} {sg:Bool} (hn:n=s.length) (h:(sg=false∧a=0∧decide (csS s<0)=false∧(s = []∨(0<s.length∧bL s 0≠43∧bL s 0≠45)))∨(sg=true∧a=1∧0<s.length∧((bL s 0=45∧decide (csS s<0)=true)∨(bL s 0=43∧decide (csS s<0)=false)))) :
  (sg=false∧a=0∧decide (csS s<0)=false∧(s.isEmpty=true∨(s.isEmpty=false∧0<n∧bL s 0≠43∧bL s 0≠45)))∨(sg=true∧a=1∧0<n∧s.isEmpty=false∧((bL s 0=45∧decide (csS s<0)=true)∨(bL s 0=43∧decide (csS s<0)=false))):=by
 have he:0<s.length→s.isEmpty=false:=fun h=>by cases s with
  | nil=>simp at h
  | cons _ _=>rfl
 rcases h with ⟨h1,h2,h3,h4|⟨h4,h5⟩⟩|⟨h1,h2,h3,h4⟩
 ·exact .inl ⟨h1,h2,h3,.inl (by rw[h4];rfl)⟩
 ·exact .inl ⟨h1,h2,h3,.inr ⟨he h4,by omega,h5⟩⟩
 ·exact .inr ⟨h1,h2,by omega,he h3,h4⟩
theorem yR0 {s S:List UInt8} {n a:Nat} (hn:n=s.length) (hS:S=s.drop a) (ha:a≤n) :
  (n<a+2∧hexP S=false)∨(a+2≤n∧((hexP S=false∧bL s a≠48)∨(bL s a=48∧((hexP S=true∧bL s (a+1)=120)∨(hexP S=true∧bL s (a+1)≠120∧bL s (a+1)=88)∨(hexP S=false∧bL s (a+1)≠120∧bL s (a+1)≠88))))):=by
 have hlen:S.length=n - a:=by rw[hS,List.length_drop,←hn]
 have e0:bL s a=bL S 0:=by rw[hS,qV1,Nat.add_zero]
 have e1:bL s (a+1)=bL S 1:=by rw[hS,qV1]
 rw[e0,e1];rcases qY0 S with ⟨h1,c,T,h2,h3⟩|⟨h1,h2⟩
 ·right
  refine⟨by rw[h2] at hlen;simp at hlen;omega,.inr ⟨by rw[h2];rfl,?_⟩⟩
  rcases h3 with rfl|rfl
  ·exact .inl ⟨h1,by rw[h2];rfl⟩
  ·exact .inr (.inl ⟨h1,by rw[h2];show(88:Nat)≠120;decide,by rw[h2];rfl⟩)
 ·by_cases hn2:n<a+2
  ·exact .inl ⟨hn2,h1⟩
  ·right
   refine⟨by omega,?_⟩
   match S,hlen,h1,h2 with
   | [],hl,_,_=>simp at hl;omega
   | [_],hl,_,_=>simp at hl;omega
   | x :: c :: T,hl,h1,h2 =>
    by_cases hx:x=48
    ·subst hx;obtain⟨h4,h5⟩:=h2 c T rfl;refine .inr ⟨rfl,.inr (.inr ⟨h1,?_,?_⟩)⟩
     ·intro h;exact h4 (UInt8.toNat_inj.1 (show c.toNat=(120:UInt8).toNat from h))
     ·intro h;exact h5 (UInt8.toNat_inj.1 (show c.toNat=(88:UInt8).toNat from h))
    ·exact .inl ⟨h1,fun h=>hx (UInt8.toNat_inj.1 (show x.toNat=(48:UInt8).toNat from h))⟩
theorem hm10 {s:List UInt8} {n a e l:Nat} {A B Rr:List UInt8} {dt m o:Bool} {v:Int} (h:Pk s n a 10 A B dt Rr v e l m o):(m=true∧e<n∧(bL s e=101∨(bL s e≠101∧bL s e=69)))∨(m=false∧(n≤e∨(e<n∧bL s e≠101∧bL s e≠69))):=by
 obtain⟨-,-,h3,h4⟩:=h;cases m
 ·rcases h4 rfl with ⟨-,h5⟩|⟨c,R',-,h6,h7,h8⟩
  ·exact .inr ⟨rfl,.inl (by omega)⟩
  ·exact .inr ⟨rfl,.inr ⟨h7,by rw[h8];exact mk10.2 h6⟩⟩
 ·obtain⟨c,R',-,h6,h7,h8,-⟩:=h3 rfl;exact .inl ⟨rfl,h7,by rw[h8];exact mk10.1 h6⟩
theorem hm16 {s:List UInt8} {n a e l:Nat} {A B Rr:List UInt8} {dt m o z:Bool} {v:Int} (h:Pk s n a 16 A B dt Rr v e l m o):((m && !z)=true∧z=false∧e<n∧(bL s e=112∨(bL s e≠112∧bL s e=80)))∨((m && !z)=false∧(z=true∨(z=false∧n≤e)∨(z=false∧e<n∧bL s e≠112∧bL s e≠80))):=by
 obtain⟨-,-,h3,h4⟩:=h;cases z
 ·cases m
  ·rcases h4 rfl with ⟨-,h5⟩|⟨c,R',-,h6,h7,h8⟩
   ·exact .inr ⟨rfl,.inr (.inl ⟨rfl,by omega⟩)⟩
   ·exact .inr ⟨rfl,.inr (.inr ⟨rfl,h7,by rw[h8];exact mk16.2 h6⟩)⟩
  ·obtain⟨c,R',-,h6,h7,h8,-⟩:=h3 rfl;exact .inl ⟨rfl,rfl,h7,by rw[h8];exact mk16.1 h6⟩
 ·exact .inr ⟨by simp,.inl rfl⟩
theorem qB5 {s:List UInt8} {n a e l:Nat} {b:Int} {A B Rr:List UInt8} {dt m o:Bool} {v:Int} (h:Pk s n a b A B dt Rr v e l m o):m=true→∀ W,Calls Tryz.prog 54 #[.string ⟨s.toArray⟩,.int .i64 ((e+1:Nat):Int)] W fun r w'=>r=.returned (.tuple #[.int .i64 v,.int .i64 (l:Nat),.bool o])∧w'=W:=by
 intro hm;obtain⟨c,R',-,-,-,-,-,hE⟩:=h.2.2.1 hm;exact hE.1
theorem xM {s:List UInt8} {n a e l:Nat} {A B Rr T:List UInt8} {dt m o:Bool} {v:Int} {c:UInt8} (hn:n=s.length) (hc:c=120∨c=88) (hS:s.drop a=48 :: c :: T) (h:s.drop a=A++dtL dt B++Rr) (hA:qZ8 A 10=true) (hB:qZ8 B 10=true) (hdt:dt=false→B = []) (hst:qH4 10 dt Rr) (hp:Pk s n a 10 A B dt Rr v e l m o):(A++B).isEmpty=false∧m=false∧e≠n:=by
 have hcd:isDg c.toNat 10=false:=by rcases hc with rfl|rfl <;> decide
 have hcm:(mkL 10).contains c=false:=by rcases hc with rfl|rfl <;> decide
 have hc46:c≠46:=by rcases hc with rfl|rfl <;> decide
 have h48:qZ8 [48] 10=true:=by decide
 have e1 : [48]++c :: T=A++dtL dt B++Rr:=by rw[←h,hS];rfl
 have key:A = [48]∧∃ R',Rr=c :: R':=by
  cases dt
  ·rw[show A++dtL false B++Rr=A++Rr by simp[dtL]] at e1
   rcases hst with h0|⟨x,R',h1,h2,-⟩
   ·rw[h0,List.append_nil] at e1;have:=qY7 hA c (by rw[←e1];simp)
    rw[hcd] at this;cases this
   ·rw[h1] at e1;obtain⟨h3,h4,h5⟩:=qH h48 hA hcd h2 e1;exact⟨h3.symm,R',by rw[h1,h4]⟩
  ·rw[show A++dtL true B++Rr=A++46 :: (B++Rr) by simp[dtL]] at e1
   obtain⟨-,h4,-⟩:=qH h48 hA hcd (show isDg (46:UInt8).toNat 10=false from zB9) e1;exact absurd h4 hc46
 obtain⟨hA1,R',hR⟩:=key;refine⟨by rw[hA1];rfl,?_,?_⟩
 ·cases m
  ·rfl
  ·obtain⟨c',R'',h1,h2,-⟩:=hp.2.2.1 rfl;rw[hR] at h1;injection h1 with h1 _;rw[←h1,hcm] at h2;cases h2
 ·obtain⟨-,h2⟩:=qD h (by
   have:=congrArg List.length hS
   rw[List.length_drop,List.length_cons,List.length_cons] at this;omega)
  rw[hR,List.length_cons] at h2;have:=hp.1
  omega
theorem xQ3 (s:List UInt8) (hL:s.length≤1048576):∃ t1 t2 t3 t4 t5 k,TkS s t1 t2 t3 t4 t5 k∧TkC s t1 t2 t3 t4 t5 k:=by
 obtain⟨n,hn⟩:∃ n,n=s.length:=⟨_,rfl⟩;obtain⟨a,sg,hS,ha,hsg⟩:=zN4 s;have hsz:(⟨s.toArray⟩:ByteArray).size=n:=by rw[hn];rfl
 have hsg':=yS9 hn hsg;have hhx:=yR0 (S:=csD s) hn hS (by omega)
 have hlenS:(csD s).length=n - a:=by rw[hS,List.length_drop,←hn]
 obtain⟨A,B,dt,Rr,d1,d2,d3,d4,d5,kD⟩:=zG7 s n a 10 (.inl rfl) hn (by omega) (by omega)
 obtain⟨v,e,l,m,o,hp⟩:=xH5 (b:=10) hn (by omega) (by omega) d1
 have kD':∀ w,Calls Tryz.prog 53 #[.string ⟨s.toArray⟩,.int .i64 (a:Nat),.int .i64 10] w fun r w'=>r=.returned (.tuple #[.string ⟨(A++B).toArray⟩,.int .i64 (B.length:Nat),.int .i64 (e:Nat)])∧Bw w w':=by
  intro w;rw[hp.1];exact kD w
 by_cases hw:a+3≤n∧((csD s).take 3 = [105,110,102]∨(csD s).take 3 = [110,97,110])
 ·obtain⟨hw1,hw2⟩:=hw;have hwd:(⟨s.toArray⟩:ByteArray).extract a (a+3)=⟨((csD s).take 3).toArray⟩:=by rw[zB2,hS]
  refine⟨⟨((csD s).take 3).toArray⟩,false,⟨#[]⟩,0,0,((a+3:Nat):Int),?_,fun w=>?_⟩
  ·have hne:csD s ≠ [105,110,102]→csD s ≠ [110,97,110]→psOk (csD s)=false∧a+3≠n:=by
    intro h1 h2;refine⟨?_,?_⟩
    ·cases hc:csD s with
     | nil=>rw[hc] at hw2;simp at hw2
     | cons c r =>
      refine zC6 (c:=c) (r:=r) rfl ?_;rw[hc] at hw2;rcases hw2 with h|h
      ·injection h with h _;exact .inl h
      ·injection h with h _;exact .inr h
    ·intro h;have h3:(csD s).take 3=csD s:=List.take_of_length_le (by omega)
     rw[h3] at hw2;rcases hw2 with h4|h4
     ·exact h1 h4
     ·exact h2 h4
   refine⟨fun h=>?_,fun h=>?_,fun h1 h2 h3=>?_,fun h1 h2 h3=>?_⟩
   ·rw[h] at hlenS ⊢;simp at hlenS
    exact⟨rfl,rfl,by omega,by omega⟩
   ·rw[h] at hlenS ⊢;simp at hlenS
    exact⟨rfl,rfl,by omega,by omega⟩
   ·rw[(hne h1 h2).1] at h3;cases h3
   ·right
    have:=(hne h1 h2).2
    omega
  ·have hlist:(⟨((csD s).take 3).toArray⟩:ByteArray).toList=(csD s).take 3:=qH3 _;refine qK s ⟨s.toArray⟩ n a (decide (csS s<0)) sg true (hexP (csD s)) s.isEmpty ⟨((csD s).take 3).toArray⟩ _ _ _ _ _ _ w rfl hsz (by omega) (qX9 s) hsg' ?_ (fun _=>⟨rfl,rfl,rfl,rfl,rfl,rfl⟩) hhx ⟨#[]⟩ ⟨(A++B).toArray⟩ 0 (B.length:Nat) 0 v 0 0 e l false false m o true ((A++B).isEmpty) (qX9 []) (qX9 _) (by omega) hp.2.1 ?_ (.inr ⟨rfl,.inl rfl⟩) (fun h=>by cases h) (fun h=>by cases h) kD' (hm10 hp) (qB5 hp) (fun h=>by cases h)
   ·refine .inr ⟨hw1,hwd,?_⟩;rw[hlist];rcases hw2 with h|h
    ·exact .inl ⟨rfl,by rw[h];rfl⟩
    ·exact .inr (.inl ⟨rfl,by rw[h];rfl,by rw[h];rfl⟩)
   ·intro hx;exfalso;rcases qY0 (csD s)with ⟨-,c,T,h2,-⟩|⟨h1,-⟩
    ·rw[h2] at hw2;rcases hw2 with h|h
     ·injection h with h _;exact absurd h (by decide)
     ·injection h with h _;exact absurd h (by decide)
    ·rw[hx] at h1;cases h1
 ·have hni:csD s ≠ [105,110,102]:=fun h=>hw ⟨by rw[h] at hlenS;simp at hlenS;omega,.inl (by rw[h];rfl)⟩
  have hnn:csD s ≠ [110,97,110]:=fun h=>hw ⟨by rw[h] at hlenS;simp at hlenS;omega,.inr (by rw[h];rfl)⟩
  have hiw:(n<a+3∧false=false)∨(a+3≤n∧(⟨s.toArray⟩:ByteArray).extract a (a+3)=⟨((csD s).take 3).toArray⟩∧((false=true∧((⟨((csD s).take 3).toArray⟩:ByteArray).toList == [105,110,102])=true)∨(false=true∧((⟨((csD s).take 3).toArray⟩:ByteArray).toList == [105,110,102])=false∧((⟨((csD s).take 3).toArray⟩:ByteArray).toList == [110,97,110])=true)∨(false=false∧((⟨((csD s).take 3).toArray⟩:ByteArray).toList == [105,110,102])=false∧((⟨((csD s).take 3).toArray⟩:ByteArray).toList == [110,97,110])=false))):=by
   by_cases h3:a+3≤n
   ·refine .inr ⟨h3,by rw[zB2,hS],.inr (.inr ⟨rfl,?_,?_⟩)⟩
    ·rw[qH3,xC2];exact fun h=>hw ⟨h3,.inl h⟩
    ·rw[qH3,xC2];exact fun h=>hw ⟨h3,.inr h⟩
   ·exact .inl ⟨by omega,rfl⟩
  rcases qY0 (csD s)with ⟨hx,c,T,hcT,hc⟩|⟨hx,-⟩
  ·have hlen2:a+2≤n:=by rw[hcT] at hlenS;simp at hlenS;omega
   obtain⟨A',B',dt',Rr',x1,x2,x3,x4,x5,kH⟩:=zG7 s n (a+2) 16 (.inr rfl) hn (by omega) hlen2
   obtain⟨v',e',l',m',o',hp'⟩:=xH5 (b:=16) hn (by omega) hlen2 x1
   have kH':∀ w,Calls Tryz.prog 53 #[.string ⟨s.toArray⟩,.int .i64 ((a+2:Nat):Int),.int .i64 16] w fun r w'=>r=.returned (.tuple #[.string ⟨(A'++B').toArray⟩,.int .i64 (B'.length:Nat),.int .i64 (e':Nat)])∧Bw w w':=by
    intro w;rw[hp'.1];exact kH w
   obtain⟨y1,y2,y3⟩:=xM hn hc (by rw[←hS,hcT]) d1 d2 d3 d4 d5 hp
   obtain⟨p1,p2,p3⟩:=qC2 hx;have hT:psS (csD s)=s.drop (a+2):=by rw[p1,hS,List.drop_drop]
   have hps:=qV7 (S:=csD s) (T:=s.drop (a+2)) (.inr rfl) hT p2 p3 x1 x2 x3 x4 x5;have hz:(A'++B').isEmpty = !decide (A'++B' ≠ []):=by cases h:A'++B' <;> simp
   by_cases hacc:(m' && !(A'++B').isEmpty)=true∧o'=true
   ·refine⟨⟨#[]⟩,true,⟨(A'++B').toArray⟩,(B'.length:Nat),v',(l':Nat),⟨fun h=>absurd h hni,fun h=>absurd h hnn,fun _ _ hok=>?_,fun _ _ hok=>?_⟩,fun w=>qK s ⟨s.toArray⟩ n a (decide (csS s<0)) sg false true s.isEmpty ⟨((csD s).take 3).toArray⟩ _ _ _ _ _ _ w rfl hsz (by omega) (qX9 s) hsg' hiw (fun h=>by cases h) (by rw[hx] at hhx;exact hhx) ⟨(A'++B').toArray⟩ ⟨(A++B).toArray⟩ (B'.length:Nat) (B.length:Nat) v' v e' l' e l (m' && !(A'++B').isEmpty) o' m o ((A'++B').isEmpty) ((A++B).isEmpty) (qX9 _) (qX9 _) hp'.2.1 hp.2.1 (fun _=>kH') (hm16 hp') (fun h=>qB5 hp' (by rw[xC] at h;exact h.1)) (fun _ _ _ _=>⟨rfl,rfl,rfl,rfl,rfl,rfl⟩) kD' (hm10 hp) (qB5 hp) (fun _ h=>absurd ⟨rfl,hacc.1,hacc.2⟩ h)⟩
    ·have hm1:m'=true:=by have:=hacc.1;rw[xC] at this;exact this.1
     obtain⟨c',R',r1,r2,r3,r4,r5,hE⟩:=hp'.2.2.1 hm1;obtain⟨E1,E2,E3,E4,E5⟩:=hE;rcases hps with ⟨q1,-⟩|⟨c'',R'',q1,q2,q3,q4,q5,q6⟩|⟨c'',R'',q1,q2,q3⟩
     ·rw[q1] at r1;cases r1
     ·rw[q1] at r1;injection r1 with _ r1;rw[hok] at q3;have hex:exO R''=true:=by
       have:=q3.symm
       rw[xC] at this;exact this.1
      rw[r1,r5] at hex;obtain⟨-,F2,F3⟩:=E4 hex;refine⟨rfl,hx.symm,by rw[q4],by rw[q5],by rw[q6,r1,r5];exact F3,E3,by rw[F2,hn],by rw[F2];omega⟩
     ·rw[hok] at q3;cases q3
    ·have hm1:m'=true:=by have:=hacc.1;rw[xC] at this;exact this.1
     have hz1:(A'++B').isEmpty=false:=by have:=hacc.1;rw[xC] at this;simpa using this.2
     obtain⟨c',R',r1,r2,r3,r4,r5,hE⟩:=hp'.2.2.1 hm1;obtain⟨E1,E2,E3,E4,E5⟩:=hE;right
     rcases hps with ⟨q1,-⟩|⟨c'',R'',q1,q2,q3,q4,q5,q6⟩|⟨c'',R'',q1,q2,q3⟩
     ·rw[q1] at r1;cases r1
     ·rw[q1] at r1;injection r1 with _ r1;rw[hok] at q3;have hd:decide (A'++B' ≠ [])=true:=by rw[hz1] at hz;cases h:decide (A'++B' ≠ []) <;> rw[h] at hz <;> simp at hz ⊢
      rw[hd,Bool.and_true] at q3;have hex:exO (s.drop (e'+1))=false:=by rw[←r5,←r1];exact q3.symm
      rcases E5 hex with h|h
      ·rw[hacc.2] at h;cases h
      ·omega
     ·rw[q1] at r1;injection r1 with r1 _;rw[←r1,q2] at r2;cases r2
   ·refine⟨⟨#[]⟩,false,⟨(A++B).toArray⟩,(B.length:Nat),0,(e:Nat),⟨fun h=>absurd h hni,fun h=>absurd h hnn,fun _ _ hok=>?_,fun _ _ hok=>.inr (by omega)⟩,fun w=>qK s ⟨s.toArray⟩ n a (decide (csS s<0)) sg false true s.isEmpty ⟨((csD s).take 3).toArray⟩ _ _ _ _ _ _ w rfl hsz (by omega) (qX9 s) hsg' hiw (fun h=>by cases h) (by rw[hx] at hhx;exact hhx) ⟨(A'++B').toArray⟩ ⟨(A++B).toArray⟩ (B'.length:Nat) (B.length:Nat) v' v e' l' e l (m' && !(A'++B').isEmpty) o' m o ((A'++B').isEmpty) ((A++B).isEmpty) (qX9 _) (qX9 _) hp'.2.1 hp.2.1 (fun _=>kH') (hm16 hp') (fun h=>qB5 hp' (by rw[xC] at h;exact h.1)) (fun _ _ h1 h2=>absurd ⟨h1,h2⟩ hacc) kD' (hm10 hp) (qB5 hp) (fun _ _=>⟨rfl,rfl,.inr ⟨y1,rfl,rfl,.inr ⟨fun h=>by rw[y2] at h;exact absurd h.1 (by decide),rfl,rfl⟩⟩⟩)⟩
    exfalso;rcases hps with ⟨q1,q2,-⟩|⟨c'',R'',q1,q2,q3,-⟩|⟨c'',R'',q1,q2,q3⟩
    ·rw[hok,hx] at q2;cases q2
    ·rw[hok] at q3;have hh:=q3.symm;rw[xC] at hh;cases hm:m' with
     | false =>
      rcases hp'.2.2.2 hm with ⟨r1,-⟩|⟨c3,R3,r1,r2,-⟩
      ·rw[q1] at r1;cases r1
      ·rw[q1] at r1;injection r1 with r1 _;rw[←r1,q2] at r2;cases r2
     | true =>
      obtain⟨c',R',r1,r2,r3,r4,r5,hE⟩:=hp'.2.2.1 hm;obtain⟨E1,E2,E3,E4,E5⟩:=hE;rw[q1] at r1;injection r1 with _ r1;have hex:exO (s.drop (e'+1))=true:=by rw[←r5,←r1];exact hh.1
      apply hacc
      refine⟨?_,(E4 hex).1⟩
      rw[hm,hz,hh.2];rfl
    ·rw[hok] at q3;cases q3
  ·obtain⟨p1,p2,p3⟩:=qL hx;have hT:psS (csD s)=s.drop a:=by rw[p1,hS]
   have hps:=qV7 (S:=csD s) (T:=s.drop a) (.inl rfl) hT p2 p3 d1 d2 d3 d4 d5;have hz:(A++B).isEmpty = !decide (A++B ≠ []):=by cases h:A++B <;> simp
   have hne:∀ {c R'},Rr=c :: R'→e<n:=by
    intro c R' h;cases hm:m with
    | false =>
     rcases hp.2.2.2 hm with ⟨r1,-⟩|⟨c3,R3,r1,r2,r3,-⟩
     ·rw[h] at r1;cases r1
     ·exact r3
    | true =>
     obtain⟨c',R',r1,r2,r3,-⟩:=hp.2.2.1 hm;exact r3
   by_cases hz0:(A++B).isEmpty=true
   ·have hd0:decide (A++B ≠ [])=false:=by rw[hz0] at hz;cases h:decide (A++B ≠ []) <;> rw[h] at hz <;> simp at hz ⊢
    refine⟨⟨#[]⟩,false,⟨#[]⟩,0,0,0,⟨fun h=>absurd h hni,fun h=>absurd h hnn,fun _ _ hok=>?_,fun _ _ hok=>.inl rfl⟩,fun w=>qK s ⟨s.toArray⟩ n a (decide (csS s<0)) sg false false s.isEmpty ⟨((csD s).take 3).toArray⟩ _ _ _ _ _ _ w rfl hsz (by omega) (qX9 s) hsg' hiw (fun h=>by cases h) (by rw[hx] at hhx;exact hhx) ⟨#[]⟩ ⟨(A++B).toArray⟩ 0 (B.length:Nat) 0 v 0 0 e l false false m o true ((A++B).isEmpty) (qX9 []) (qX9 _) (by omega) hp.2.1 (fun h=>by cases h) (.inr ⟨rfl,.inl rfl⟩) (fun h=>by cases h) (fun _ h=>by cases h) kD' (hm10 hp) (qB5 hp) (fun _ _=>⟨rfl,rfl,.inl ⟨hz0,rfl,rfl,rfl,rfl⟩⟩)⟩
    exfalso;rcases hps with ⟨q1,q2,-⟩|⟨c'',R'',q1,q2,q3,-⟩|⟨c'',R'',q1,q2,q3⟩
    ·rw[hok,hd0,Bool.and_false] at q2;cases q2
    ·rw[hok,hd0,Bool.and_false] at q3;cases q3
    ·rw[hok] at q3;cases q3
   ·have hz1:(A++B).isEmpty=false:=by simpa using hz0
    have hd1:decide (A++B ≠ [])=true:=by rw[hz1] at hz;cases h:decide (A++B ≠ []) <;> rw[h] at hz <;> simp at hz ⊢
    by_cases hacc:m=true∧o=true
    ·obtain⟨c',R',r1,r2,r3,r4,r5,hE⟩:=hp.2.2.1 hacc.1;obtain⟨E1,E2,E3,E4,E5⟩:=hE;refine⟨⟨#[]⟩,false,⟨(A++B).toArray⟩,(B.length:Nat),v,(l:Nat),⟨fun h=>absurd h hni,fun h=>absurd h hnn,fun _ _ hok=>?_,fun _ _ hok=>.inr ?_⟩,fun w=>qK s ⟨s.toArray⟩ n a (decide (csS s<0)) sg false false s.isEmpty ⟨((csD s).take 3).toArray⟩ _ _ _ _ _ _ w rfl hsz (by omega) (qX9 s) hsg' hiw (fun h=>by cases h) (by rw[hx] at hhx;exact hhx) ⟨#[]⟩ ⟨(A++B).toArray⟩ 0 (B.length:Nat) 0 v 0 0 e l false false m o true ((A++B).isEmpty) (qX9 []) (qX9 _) (by omega) hp.2.1 (fun h=>by cases h) (.inr ⟨rfl,.inl rfl⟩) (fun h=>by cases h) (fun _ h=>by cases h) kD' (hm10 hp) (qB5 hp) (fun _ _=>⟨rfl,rfl,.inr ⟨hz1,rfl,rfl,.inl ⟨hacc.1,hacc.2,rfl,rfl⟩⟩⟩)⟩
     ·rcases hps with ⟨q1,-⟩|⟨c'',R'',q1,q2,q3,q4,q5,q6⟩|⟨c'',R'',q1,q2,q3⟩
      ·rw[q1] at r1;cases r1
      ·rw[q1] at r1;injection r1 with _ r1;rw[hok,hd1,Bool.and_true] at q3;have hex:exO (s.drop (e+1))=true:=by rw[←r5,←r1];exact q3.symm
       obtain⟨-,F2,F3⟩:=E4 hex;exact⟨rfl,hx.symm,by rw[q4],by rw[q5],by rw[q6,r1,r5];exact F3,E3,by rw[F2,hn],by rw[F2];omega⟩
      ·rw[hok] at q3;cases q3
     ·rcases hps with ⟨q1,-⟩|⟨c'',R'',q1,q2,q3,q4,q5,q6⟩|⟨c'',R'',q1,q2,q3⟩
      ·rw[q1] at r1;cases r1
      ·rw[q1] at r1;injection r1 with _ r1;rw[hok,hd1,Bool.and_true] at q3;have hex:exO (s.drop (e+1))=false:=by rw[←r5,←r1];exact q3.symm
       rcases E5 hex with h|h
       ·rw[hacc.2] at h;cases h
       ·omega
      ·rw[q1] at r1;injection r1 with r1 _;rw[←r1,q2] at r2;cases r2
    ·refine⟨⟨#[]⟩,false,⟨(A++B).toArray⟩,(B.length:Nat),0,(e:Nat),⟨fun h=>absurd h hni,fun h=>absurd h hnn,fun _ _ hok=>?_,fun _ _ hok=>.inr ?_⟩,fun w=>qK s ⟨s.toArray⟩ n a (decide (csS s<0)) sg false false s.isEmpty ⟨((csD s).take 3).toArray⟩ _ _ _ _ _ _ w rfl hsz (by omega) (qX9 s) hsg' hiw (fun h=>by cases h) (by rw[hx] at hhx;exact hhx) ⟨#[]⟩ ⟨(A++B).toArray⟩ 0 (B.length:Nat) 0 v 0 0 e l false false m o true ((A++B).isEmpty) (qX9 []) (qX9 _) (by omega) hp.2.1 (fun h=>by cases h) (.inr ⟨rfl,.inl rfl⟩) (fun h=>by cases h) (fun _ h=>by cases h) kD' (hm10 hp) (qB5 hp) (fun _ _=>⟨rfl,rfl,.inr ⟨hz1,rfl,rfl,.inr ⟨hacc,rfl,rfl⟩⟩⟩)⟩
     ·rcases hps with ⟨q1,q2,q3,q4,q5⟩|⟨c'',R'',q1,q2,q3,q4,q5,q6⟩|⟨c'',R'',q1,q2,q3⟩
      ·have hen:e=n:=by
        obtain⟨-,h2⟩:=qD d1 (by omega)
        rw[q1,List.length_nil] at h2;have:=hp.1
        omega
       have hd0:0<(A++B).length:=by cases h:A++B with
        | nil=>rw[h] at hz1;cases hz1
        | cons _ _=>simp
       have hle:(A++B).length≤n:=by
        have h8:=hp.1;have h9:(A++B).length≤(A++dtL dt B).length:=by
         rw[xE0,xE0];cases dt
         ·rw[d4 rfl];simp
         ·simp[dtL]
        omega
       exact⟨rfl,hx.symm,by rw[q3],by rw[q4],by rw[q5];decide,by omega,by omega,by omega⟩
      ·exfalso;rw[hok,hd1,Bool.and_true] at q3;cases hm:m with
       | false =>
        rcases hp.2.2.2 hm with ⟨r1,-⟩|⟨c3,R3,r1,r2,-⟩
        ·rw[q1] at r1;cases r1
        ·rw[q1] at r1;injection r1 with r1 _;rw[←r1,q2] at r2;cases r2
       | true =>
        obtain⟨c',R',r1,r2,r3,r4,r5,hE⟩:=hp.2.2.1 hm;obtain⟨E1,E2,E3,E4,E5⟩:=hE;rw[q1] at r1;injection r1 with _ r1;have hex:exO (s.drop (e+1))=true:=by rw[←r5,←r1];exact q3.symm
        exact hacc ⟨hm,(E4 hex).1⟩
      ·rw[hok] at q3;cases q3
     ·rcases hps with ⟨q1,q2,-⟩|⟨c'',R'',q1,-⟩|⟨c'',R'',q1,-⟩
      ·rw[hok,hd1,hx] at q2;cases q2
      ·have:=hne q1;omega
      ·have:=hne q1;omega
theorem zL3 (k:Nat):2^(3*k)≤10^k:=by rw[Nat.pow_mul];exact Nat.pow_le_pow_left (by decide) _
theorem xK3 {Z P:Nat} (s:Bool) {m:Int} (hm:1≤m∧m≤3) (hZ:Z≠0):toD (un (if s then -(Z:Int) else(Z:Int)) P) m=tfF s true Z (-(P:Int)) m:=by
 rw[yP s hZ];unfold toD;have h3:=(qX0 _ _ (xL0 _) hZ).1;have h0:¬ (Z / 2^tz Z=0):=fun h9=>by rw[h9,Nat.mul_zero] at h3;omega
 rw[if_neg (show ¬ ((s,Z / 2^tz Z,(tz Z:Int) - (P:Int)):Bool×Nat×Int).2.1=0 from h0)];exact xK2 s (e := -(P:Int)) hm hZ
theorem zH1 (s:Bool) (N O:Nat):(if s then -((N:Nat):Int) else((N:Nat):Int))*((O:Nat):Int)=if s then -((N*O:Nat):Int) else((N*O:Nat):Int):=by
 cases s
 ·rw[if_neg (by decide),if_neg (by decide),xC8]
 ·rw[if_pos rfl,if_pos rfl,xC8,Int.neg_mul]
theorem gN_1 (e:Int):gN (false,1,e)=(true,1,e):=by
 unfold gN;rw[if_neg (show ¬ ((false,1,e):Bool×Nat×Int).2.1=0 from(by decide:¬ (1:Nat)=0))]
 rfl
theorem xY9 (s:Bool) (k:Nat):un (if s then -((2^k:Nat):Int) else((2^k:Nat):Int)) 0=(s,1,(k:Int)):=by
 have h:un ((2^k:Nat):Int) 0=(false,1,(k:Int)):=by
  have h1:=qH9 1 0 k;rw[Int.one_mul,Nat.zero_add] at h1;have h2:=yF1 (a:=((2^k:Nat):Int)) (p:=k) (k:=(k:Int)) (q:=0) (by omega)
  rw[←h2,←h1,zB1]
 cases s
 ·exact h
 ·rw[if_pos rfl,←zI1,h];exact gN_1 _
theorem xY8 (s:Bool) (k:Nat):un (if s then(-1:Int)else 1) k=(s,1,-(k:Int)):=by
 have h:un (1:Int) k=(false,1,-(k:Int)):=by
  have h2:=yF1 (a:=1) (p:=0) (k := -(k:Int)) (q:=k) (by omega)
  rw[←h2,zB1]
 cases s
 ·exact h
 ·rw[if_pos rfl,←zI1,h];exact gN_1 _
theorem gM_1 (s:Bool) (e:Int):gM (s,1,e) (un ((10^0:Nat):Int) 0)=(s,1,e):=by
 have h:un ((10^0:Nat):Int) 0=(false,1,0):=by decide +kernel
 rw[h];unfold gM cn;rw[if_neg (show ¬ (((s,1,e):Bool×Nat×Int).2.1*((false,1,0):Bool×Nat×Int).2.1=0) from(by decide:¬ (1*1:Nat)=0))]
 show((!(s==false)),1*1 / 2^tz (1*1),e+0+(tz (1*1):Int))=(s,1,e)
 rw[show tz (1*1)=0 by decide +kernel]
 cases s <;> simp
theorem xK4 (s:Bool) (e m:Int):toD (s,1,e) m=tfF s true 1 e m:=by unfold toD;rw[if_neg (show ¬ ((s,1,e):Bool×Nat×Int).2.1=0 from(by decide:¬ (1:Nat)=0))]
theorem qA7 {D:List UInt8} {b:Nat} {j:Nat} (hz:∀ k,k<j→bL D k=48):∀ i,dvP b D (j+i)=dvP b (D.drop j) i
 | 0=>by
  have:∀ k,k≤j→dvP b D k=0:=by
   intro k;induction k with
   | zero=>intro _;rfl
   | succ k ih =>
    intro hk;show dvP b D k*b+dgB (bL D k)=0
    rw[ih (by omega),hz k (by omega)]
    simp[dgB]
  rw[Nat.add_zero,this j (xL0 _)];rfl
 | i+1=>by
  show dvP b D (j+i)*b+dgB (bL D (j+i))=dvP b (D.drop j) i*b+dgB (bL (D.drop j) i)
  rw[qA7 hz i,qV1]
theorem yR4 {D:List UInt8} (h0:0<dgB (bL D 0)):∀ i,10^i≤dvP 10 D (i+1)
 | 0=>by
  show 1≤dvP 10 D 0*10+dgB (bL D 0)
  omega
 | i+1=>by
  have h1:=yR4 h0 i;show 10^(i+1)≤dvP 10 D (i+1)*10+dgB (bL D (i+1))
  rw[xC5];omega
theorem qO8 {neg:Bool} {D:List UInt8} {h:Nat} {x m:Int} {N:Nat} (hN:N=dvP 10 D D.length) (h0:N≠0) (k:Nat) :
  (x - (h:Int)=(k:Int)→rdFl neg 10 D h x m=rtF (un (if neg then -((N*10^k:Nat):Int) else((N*10^k:Nat):Int)) 0) (un ((1:Nat):Int) 0) m) ∧
  (x - (h:Int) = -(k:Int)→rdFl neg 10 D h x m=rtF (un (if neg then -((N:Nat):Int) else((N:Nat):Int)) 0) (un ((10^k:Nat):Int) 0) m):=by
 have hK:rK 10 h x=x - h:=by unfold rK;rw[if_neg (by decide)]
 constructor
 ·intro hk;unfold rdFl rO rP rU tnO tnU;rw[show((10:Int).toNat)=10 from rfl,←hN,if_neg h0,if_neg (show ¬ (10:Int)=16 by decide),if_neg (show ¬ (10:Int)=16 by decide),if_neg (show ¬ (10:Int)=16 by decide),hK,hk,zH1]
  rw[show((k:Int)).toNat=k by omega,show(-(k:Int)).toNat=0 by omega,xC7]
 ·intro hk;unfold rdFl rO rP rU tnO tnU;rw[show((10:Int).toNat)=10 from rfl,←hN,if_neg h0,if_neg (show ¬ (10:Int)=16 by decide),if_neg (show ¬ (10:Int)=16 by decide),if_neg (show ¬ (10:Int)=16 by decide),hK,hk,zH1]
  rw[show((-(k:Int))).toNat=0 by omega,show(- -(k:Int)).toNat=k by omega,xC7,xE1]
theorem xU9 {neg:Bool} {D:List UInt8} {h:Nat} {x m:Int} {N:Nat} (hm:1≤m∧m≤3) (hN:N=dvP 16 D D.length) (h0:N≠0):rdFl neg 16 D h x m=tfF neg true N (x - 4*(h:Int)) m:=by
 have hK:rK 16 h x=x - 4*h:=by unfold rK;rw[if_pos rfl]
 unfold rdFl rO rP rU;rw[show((16:Int).toNat)=16 from rfl,←hN,if_neg h0,if_pos (show(16:Int)=16 from rfl),if_pos (show(16:Int)=16 from rfl),if_pos (show(16:Int)=16 from rfl),hK,zH1];have hz:N*2^(x - 4*(h:Int)).toNat≠0:=Nat.mul_ne_zero h0 (Nat.ne_of_gt (xL5 _));rw[qO6 neg hm hz,qO2 hm];congr 1
 omega
theorem zF4 (P:Nat→Prop):∀ n,(∃ k,k<n∧P k)→∃ j,j<n∧P j∧∀ k,k<j→¬ P k
 | 0,⟨k,h,_⟩=>absurd h (Nat.not_lt_zero _)
 | n+1,⟨k,h,hp⟩=>by
  by_cases hq:∃ k,k<n∧P k
  ·obtain⟨j,h1,h2,h3⟩:=zF4 P n hq;exact⟨j,by omega,h2,h3⟩
  ·have hk:k=n:=by
    rcases Nat.lt_or_ge k n with h9|h9
    ·exact absurd ⟨k,h9,hp⟩ hq
    ·omega
   subst hk;exact⟨k,by omega,hp,fun i hi hpi=>hq ⟨i,hi,hpi⟩⟩
theorem xN {F0 Y:Nat} {neg:Bool} (hF:F0=sig neg Y) (hY:Y≤9218868437227405312):(if(FloatKind.f64.format.order F0 0==some Ordering.eq)&&neg then 9223372036854775808 else F0)=F0:=by
 obtain⟨h1,h2,h3⟩:=zE7 (s:=neg) hY;rw[←hF] at h1 h2 h3;cases neg
 ·rw[Bool.and_false];rfl
 ·rw[Bool.and_true,yS7 F0 0 h3 (by decide)]
  by_cases h:Go.Fl64.eq F0 0=true
  ·rw[if_pos h];unfold Go.Fl64.eq at h;rw[xC,decide_eq_true_eq] at h;have h4:=h.2;have e0:stp 0=0:=by decide
   rw[e0] at h4;have hY0:Y=0:=by
    unfold stp sgn at h4;rw[h2,h1] at h4;simp at h4
    omega
   rw[hF,hY0];rfl
  ·rw[if_neg h]
theorem xN0 (neg:Bool):(if(FloatKind.f64.format.order 0 0==some Ordering.eq)&&neg then 9223372036854775808 else 0)=sig neg 0:=by
 have h:(FloatKind.f64.format.order 0 0==some Ordering.eq)=true:=by decide +kernel
 rw[h];cases neg <;> rfl
theorem zJ8 (neg:Bool) (D:List UInt8) (h:Nat) (t5 x m:Int) (hd:qZ8 D 10=true) (hl:D.length≤1100) (hh:h≤D.length) (ht5 : -1000000000≤t5∧t5≤1000000000) (hx:x=max (-6000) (min 6000 t5)) (hm:1≤m∧m≤3) (W:World) :
  Calls Tryz.prog 30 #[.agg #[.bool neg,.string ⟨#[]⟩,.bool false,.string ⟨D.toArray⟩,.int .i64 (h:Nat),.int .i64 t5],.int .i64 m] W fun r w'=>r=.returned (.float .f64 (rdFl neg 10 D h x m))∧Bw W w':=by
 obtain⟨n,hn⟩:∃ n,n=D.length:=⟨_,rfl⟩;have hsz:(⟨D.toArray⟩:ByteArray).size=n:=by rw[hn];rfl
 have hdg:∀ k,k<n→48≤bL D k∧bL D k≤57:=fun k hk=>qR8 ((qU1 _ _).1 hd k (by omega))
 by_cases hz:∀ k,k<n→bL D k=48
 ·have h0:dvP 10 D D.length=0:=by
   have:=qA7 (b:=10) (j:=n) hz 0
   rw[Nat.add_zero,hn] at this;rw[this];rfl
  have hr:rdFl neg 10 D h x m=sig neg 0:=by unfold rdFl;rw[show((10:Int).toNat)=10 from rfl,if_pos h0]
  rw[hr];exact qH2 neg false ⟨D.toArray⟩ (h:Nat) t5 m 0 (sig neg 0) _ W rfl (xN0 neg) (fun W' _=>xM4 neg ⟨#[]⟩ ⟨D.toArray⟩ (h:Nat) t5 m D n W' rfl hsz (by omega) hz)
 ·have hex:∃ k,k<n∧bL D k≠48:=by
   apply Classical.byContradiction
   intro hc;exact hz fun k hk=>Classical.byContradiction fun h9=>hc ⟨k,hk,h9⟩
  obtain⟨j,hj,hjn,hjl⟩:=zF4 (fun k=>bL D k≠48) n hex;have hjz:∀ k,k<j→bL D k=48:=fun k hk=>Classical.byContradiction (hjl k hk);obtain⟨X,e1,-,hone⟩:=zC0 (b:=10) (D:=D) (h:=h) (x:=x) (.inl rfl) hd hl (by omega) (by omega)
  have hsig:=hone neg m hm;refine qH2 neg false ⟨D.toArray⟩ (h:Nat) t5 m (rdFl neg 10 D h x m) (rdFl neg 10 D h x m) _ W rfl (xN hsig (yY2 _ _ _)) (fun W' _=>?_);obtain⟨N,hN⟩:∃ N,N=dvP 10 D D.length:=⟨_,rfl⟩;obtain⟨q,hq⟩:∃ q,n - j=q+1:=⟨n - j - 1,by omega⟩
  have hNd:dvP 10 (D.drop j) (n - j)=N:=by
   rw[←qA7 hjz (n - j),show j+(n - j)=n by omega,hN,hn]
  have hge:10^q≤N:=by
   rw[←hNd,hq];refine yR4 ?_ q;rw[qV1,Nat.add_zero];have:=hdg j hj
   unfold dgB;rw[if_pos this];have h9:bL D j≠48:=hjn;omega
  have hlt:N<10^(q+1):=by
   rw[←hNd,←hq];have:=qA6 (D:=D.drop j) (fun k hk=>by
    rw[qV1];rw[List.length_drop] at hk;have:=hdg (j+k) (by omega)
    unfold dgB;rw[if_pos this];omega) (n - j) (by rw[List.length_drop];omega)
   exact this
  have hN0:N≠0:=by have:=Nat.pow_pos (n:=q) (show 0<10 by decide);omega
  have hNb:N<2^(4*(q+1)+1):=by
   have:=qD8 (q+1)
   rw[xC1] at this;omega
  obtain⟨tv,htv⟩:∃ tv,tv=t5 - (h:Int):=⟨_,rfl⟩;obtain⟨xv,hxv⟩:∃ xv,xv=tv+((n - j:Nat):Int):=⟨_,rfl⟩;have hsgn:∀ (Z:Int),(if neg then -Z else Z).natAbs=Z.natAbs:=fun Z=>by cases neg <;> simp
  by_cases hbig:400<xv
  ·obtain⟨kk,hkk⟩:∃ kk:Nat,kk=2000:=⟨_,rfl⟩;have hres:rdFl neg 10 D h x m=tfF neg true 1 2000 m:=by
    have hb1:(1024:Int)<(bl 1:Int)+2000:=by rw[show bl 1=1 by decide +kernel];omega
    by_cases hk:0≤x - (h:Int)
    ·obtain⟨k,hk'⟩:∃ k:Nat,x - (h:Int)=(k:Int):=⟨(x - (h:Int)).toNat,by omega⟩
     rw[(qO8 (neg:=neg) (m:=m) hN hN0 k).1 hk'];refine yD3 (c:=3*(q+k)) neg hm (Nat.mul_ne_zero hN0 (Nat.ne_of_gt (Nat.pow_pos (by decide)))) (by decide) (by omega) ?_ (by decide) hb1
     rw[Nat.one_mul,Nat.zero_add];refine xW (zL3 (q+k)) ?_;rw[xC3];exact xL7 _ hge
    ·obtain⟨k,hk'⟩:∃ k:Nat,x - (h:Int) = -(k:Int):=⟨(-(x - (h:Int))).toNat,by omega⟩
     rw[(qO8 (neg:=neg) (m:=m) hN hN0 k).2 hk'];refine yD3 (c:=3*(q - k)) neg hm hN0 (Nat.ne_of_gt (Nat.pow_pos (by decide))) (by omega) ?_ (by decide) hb1
     rw[Nat.zero_add];refine xW (xW2 _ (zL3 (q - k))) ?_;rw[←xC3,show k+(q - k)=q by omega]
     exact hge
   refine yZ neg false ⟨#[]⟩ ⟨D.toArray⟩ (h:Nat) t5 m D n j (rdFl neg 10 D h x m) (false,1,2000) (neg,1,2000) tv xv 0 W' rfl rfl hsz (by omega) (by omega) ht5 hm hj hjz hjn hdg htv hxv ⟨fun _=>⟨rfl,rfl⟩,fun h9=>by omega,fun h9=>by omega⟩ ?_ ?_ ?_ (if neg then -((2^kk:Nat):Int) else((2^kk:Nat):Int)) 0 (kk+1) ?_ ?_ ?_ (by omega) (by omega) (by omega)
   ·cases neg
    ·rfl
    ·show(true,1,2000)=gN (false,1,2000);rw[gN_1]
   ·intro tn ht;obtain rfl:tn=0:=by omega
    rw[gM_1,xK4,hres]
   ·intro tn h1 h2;omega
   ·show(neg,1,2000)=un _ 0
    rw[xY9,hkk];rfl
   ·show(if neg then -((2^kk:Nat):Int) else((2^kk:Nat):Int)).natAbs<2^(kk+1)
    rw[hsgn,xC1,xC5];have:=xL5 kk
    omega
   ·have:=xL5 kk
    cases neg
    ·rw[if_neg (by decide)];omega
    ·rw[if_pos rfl];omega
  ·by_cases htin:xv < -400
   ·have hres:rdFl neg 10 D h x m=tfF neg true 1 (-2000) m:=by
     have hb1:(bl 1:Int)+(-2000) < -1075:=by rw[show bl 1=1 by decide +kernel];omega
     obtain⟨k,hk'⟩:∃ k:Nat,x - (h:Int) = -(k:Int):=⟨(-(x - (h:Int))).toNat,by omega⟩
     rw[(qO8 (neg:=neg) (m:=m) hN hN0 k).2 hk'];obtain⟨d,hd9⟩:∃ d,k=(q+1)+d:=⟨k - (q+1),by omega⟩
     have hd8:400≤d:=by omega
     refine yC (c:=3*d) neg hm hN0 (Nat.ne_of_gt (Nat.pow_pos (by decide))) (by omega) ?_ (by decide) hb1
     rw[xC7,xE1,hd9,xC3];exact Nat.mul_le_mul (xE8 hlt) (zL3 d)
    refine yZ neg false ⟨#[]⟩ ⟨D.toArray⟩ (h:Nat) t5 m D n j (rdFl neg 10 D h x m) (false,1,-2000) (neg,1,-2000) tv xv 0 W' rfl rfl hsz (by omega) (by omega) ht5 hm hj hjz hjn hdg htv hxv ⟨fun h9=>by omega,fun _=>⟨rfl,rfl⟩,fun h9=>by omega⟩ ?_ ?_ ?_ (if neg then(-1:Int)else 1) 2000 1 ?_ ?_ ?_ (by omega) (by omega) (by omega)
    ·cases neg
     ·rfl
     ·show(true,1,-2000)=gN (false,1,-2000);rw[gN_1]
    ·intro tn ht;obtain rfl:tn=0:=by omega
     rw[gM_1,xK4,hres]
    ·intro tn h1 h2;omega
    ·show(neg,1,-2000)=un _ 2000
     rw[xY8];rfl
    ·show(if neg then(-1:Int)else 1).natAbs<2^1
     cases neg <;> decide
    ·cases neg <;> decide
   ·have hxt:x=t5:=by omega
    have hTM:(if neg then gN (un ((N:Nat):Int) 0)else un ((N:Nat):Int) 0)=un (if neg then -((N:Nat):Int) else((N:Nat):Int)) 0:=by
     cases neg
     ·rfl
     ·rw[if_pos rfl,if_pos rfl,zI1]
    refine yZ neg false ⟨#[]⟩ ⟨D.toArray⟩ (h:Nat) t5 m D n j (rdFl neg 10 D h x m) (un ((N:Nat):Int) 0) (un (if neg then -((N:Nat):Int) else((N:Nat):Int)) 0) tv xv tv W' rfl rfl hsz (by omega) (by omega) ht5 hm hj hjz hjn hdg htv hxv ⟨fun h9=>absurd h9 hbig,fun h9=>absurd h9 htin,fun _=>⟨by rw[hNd],rfl⟩⟩ hTM.symm ?_ ?_ (if neg then -((N:Nat):Int) else((N:Nat):Int)) 0 (4*(q+1)+1) rfl ?_ ?_ (by omega) (by omega) (by omega)
    ·intro tn ht;rw[yF0,zH1,(qO8 (neg:=neg) (m:=m) hN hN0 tn).1 (by omega)]
     have hz9:N*10^tn≠0:=Nat.mul_ne_zero hN0 (Nat.ne_of_gt (Nat.pow_pos (by decide)))
     rw[qO6 neg hm hz9];exact xK3 neg hm hz9
    ·intro tn h1 h2;rw[(qO8 (neg:=neg) (m:=m) hN hN0 tn).2 (by omega)]
    ·show(if neg then -((N:Nat):Int) else((N:Nat):Int)).natAbs<2^(4*(q+1)+1)
     rw[hsgn,xC1];exact hNb
    ·cases neg
     ·rw[if_neg (by decide)];omega
     ·rw[if_pos rfl];omega
theorem zJ7 (neg:Bool) (D:List UInt8) (h:Nat) (t5 x m:Int) (hd:qZ8 D 16=true) (hl:D.length≤1100) (hh:h≤D.length) (ht5 : -1000000000≤t5∧t5≤1000000000) (hx:x=max (-6000) (min 6000 t5)) (hm:1≤m∧m≤3) (W:World) :
  Calls Tryz.prog 30 #[.agg #[.bool neg,.string ⟨#[]⟩,.bool true,.string ⟨D.toArray⟩,.int .i64 (h:Nat),.int .i64 t5],.int .i64 m] W fun r w'=>r=.returned (.float .f64 (rdFl neg 16 D h x m))∧Bw W w':=by
 obtain⟨n,hn⟩:∃ n,n=D.length:=⟨_,rfl⟩;have hsz:(⟨D.toArray⟩:ByteArray).size=n:=by rw[hn];rfl
 have key:∀ c:Fin 256,isDg c.val 16=true→dgB c.val<16∧dgF c.val=(dgB c.val:Int):=by decide +kernel
 have hdg:∀ k,k<n→∃ d:Nat,d<16∧dgF (bL D k)=(d:Int)∧dgB (bL D k)=d:=fun k hk=>by
  have h1:=(qU1 _ _).1 hd k (by omega)
  have h2:=key ⟨bL D k,yY4 D k⟩ h1;exact⟨dgB (bL D k),h2.1,h2.2,rfl⟩
 obtain⟨N,hN⟩:∃ N,N=dvP 16 D D.length:=⟨_,rfl⟩;obtain⟨e9,he9⟩:∃ e9,e9=min (max (t5 - 4*((h:Nat):Int)) (-100000)) 100000:=⟨_,rfl⟩;have hNn:dvP 16 D n=N:=by rw[hN,hn]
 have kv:=fun(W':World) (F:Nat) hF=>xM5 neg ⟨#[]⟩ ⟨D.toArray⟩ (h:Nat) t5 m e9 D n F W' rfl hsz (by omega) (by omega) ht5 hm hdg he9 hF
 rw[hNn] at kv;by_cases h0:N=0
 ·have hr:rdFl neg 16 D h x m=sig neg 0:=by unfold rdFl;rw[show((16:Int).toNat)=16 from rfl,←hN,if_pos h0]
  rw[hr];refine qH2 neg true ⟨D.toArray⟩ (h:Nat) t5 m 0 (sig neg 0) _ W rfl (xN0 neg) (fun W' _=>kv W' 0 ?_);show 0=toD _ m
  have e0:gK e9 (un ((N:Nat):Int) 0)=(false,0,0):=by
   rw[h0];unfold gK;rw[if_pos (by decide +kernel)]
  rw[e0];have e1:gN (false,0,0)=(false,0,0):=by unfold gN;rw[if_pos rfl]
  cases neg
  ·rw[if_neg (by decide)];unfold toD;rw[if_pos rfl]
  ·rw[if_pos rfl,e1];unfold toD;rw[if_pos rfl]
 ·obtain⟨X,e1,-,hone⟩:=zC0 (b:=16) (D:=D) (h:=h) (x:=x) (.inr rfl) hd hl (by omega) (by omega)
  have hsig:=hone neg m hm;refine qH2 neg true ⟨D.toArray⟩ (h:Nat) t5 m (rdFl neg 16 D h x m) (rdFl neg 16 D h x m) _ W rfl (xN hsig (yY2 _ _ _)) (fun W' _=>kv W' _ ?_);show rdFl neg 16 D h x m=toD _ m
  rw[xU9 hm hN h0];have e2:un ((N:Nat):Int) 0=(false,N / 2^tz N,(tz N:Int)):=yP1 h0;have h3:=(qX0 _ _ (xL0 _) h0).1;have hq0:N / 2^tz N≠0:=fun h9=>by rw[h9,Nat.mul_zero] at h3;omega
  have e3:toD (if neg then gN (gK e9 (un ((N:Nat):Int) 0))else gK e9 (un ((N:Nat):Int) 0)) m=tfF neg true N e9 m:=by
   rw[e2];unfold gK;rw[if_neg (show ¬ (((false,N / 2^tz N,(tz N:Int)):Bool×Nat×Int).2.1=0)from hq0)];rw[←xK2 neg hm h0];cases neg
   ·rw[if_neg (by decide)]
    unfold toD;rw[if_neg (show ¬ (((false,N / 2^tz N,(tz N:Int)+e9):Bool×Nat×Int).2.1=0)from hq0)]
   ·rw[if_pos rfl];unfold gN;rw[if_neg (show ¬ (((false,N / 2^tz N,(tz N:Int)+e9):Bool×Nat×Int).2.1=0)from hq0)];unfold toD;rw[if_neg (show ¬ (((true,N / 2^tz N,(tz N:Int)+e9):Bool×Nat×Int).2.1=0)from hq0)];rfl
  rw[e3];have hbN:bl N≤4*n:=(qJ8 _ _).2 (by rw[←hNn];exact zK7 (n:=n) (fun k hk=>by obtain⟨d,h1,-,h9⟩:=hdg k hk;omega) n (xL0 _))
  have hbN1:=qW4 h0;by_cases hc : -6000≤t5∧t5≤6000
  ·congr 1
   omega
  ·by_cases hc2:6000<t5
   ·exact zL2 hm (.inr ⟨rfl,h0⟩) h0 (by omega) (by omega)
   ·exact qT5 hm (.inr ⟨rfl,h0⟩) h0 (by omega) (by omega)
theorem xM2 (s:List UInt8) (m:Int) (w:World):Calls Tryz.prog 12 #[.string ⟨s.toArray⟩,.int .i64 m] w fun r w'=>RdO (rdA s m).1 (rdA s m).2 w r w':=by
 unfold rdA;by_cases hm:1≤m∧m≤3
 ·rw[if_neg (not_not_intro hm)];by_cases hL:1048576<s.length
  ·rw[if_pos hL];exact zJ4 _ m w hm (by show(1048576:Int)<((s.length:Nat):Int);omega)
  ·rw[if_neg hL];obtain⟨t1,t2,t3,t4,t5,k,hS,kT⟩:=xQ3 s (by omega)
   obtain⟨h1,h2,h3,h4⟩:=hS;have kT':∀ W,Calls Tryz.prog 28 #[.string ⟨s.toArray⟩] W fun r w'=>r=.returned (.tuple #[.agg #[.bool (decide (csS s<0)),.string t1,.bool t2,.string t3,.int .i64 t4,.int .i64 t5],.int .i64 k])∧Bw W w':=kT;by_cases hi:csD s = [105,110,102]
   ·rw[if_pos hi];obtain⟨rfl,rfl,e3,e4⟩:=h1 hi;refine qD2 _ m w s.length 0 (decide (csS s<0)) t2 _ _ t4 t5 k _ 0 hm rfl (by omega) kT' rfl (.inr (.inr ⟨e4,e3,by omega,rfl⟩)) (fun _ _ _ W=>?_)
    have kf:=zJ6 (decide (csS s<0)) t2 ⟨#[]⟩ t4 t5 m W;by_cases hs:csS s<0
    ·rw[xL4 hs] at kf ⊢; rw[if_pos hs];exact kf
    ·rw[xL3 hs] at kf ⊢; rw[if_neg hs];exact kf
   ·rw[if_neg hi];by_cases hnn:csD s = [110,97,110]
    ·rw[if_pos hnn];obtain⟨rfl,rfl,e3,e4⟩:=h2 hnn;exact qD2 _ m w s.length 0 (decide (csS s<0)) t2 _ _ t4 t5 k _ 0 hm rfl (by omega) kT' rfl (.inr (.inr ⟨e4,e3,by omega,rfl⟩)) (fun _ _ _ W=>zJ5 (decide (csS s<0)) t2 ⟨#[]⟩ t4 t5 m W)
    ·rw[if_neg hnn];by_cases hok:psOk (csD s)=false
     ·rw[if_pos hok];refine qD2 _ m w s.length t3.size (decide (csS s<0)) t2 _ _ t4 t5 k 0 3 hm rfl (by omega) kT' rfl (.inl ⟨h4 hi hnn hok,rfl,rfl⟩) ?_
      intro h0 h9 _;rcases h4 hi hnn hok with h|h
      ·exact absurd h h0
      ·exact absurd h9 h
     ·rw[if_neg hok];have hok':psOk (csD s)=true:=by simpa using hok
      obtain⟨rfl,rfl,rfl,rfl,hx,ht5,hk,hk0⟩:=h3 hi hnn hok';have hdg:=zY5 hok';have hh:=zC7 (csD s);by_cases hl:1100<(psD (csD s)).length
      ·rw[if_pos hl];exact qD2 _ m w s.length (psD (csD s)).length (decide (csS s<0)) _ _ _ _ t5 k 0 2 hm rfl (by omega) kT' rfl (.inr (.inl ⟨hk0,hk,hl,rfl,rfl⟩)) (fun _ _ h9=>absurd h9 (by omega))
      ·rw[if_neg hl];refine qD2 _ m w s.length (psD (csD s)).length (decide (csS s<0)) _ _ _ _ t5 k _ 0 hm rfl (by omega) kT' rfl (.inr (.inr ⟨hk0,hk,by omega,rfl⟩)) (fun _ _ _ W=>?_)
       rcases qY0 (csD s)with ⟨hx9,-⟩|⟨hx9,-⟩
       ·obtain⟨-,-,p3⟩:=qC2 hx9;rw[p3] at hdg ⊢;rw[hx9];exact zJ7 _ _ _ t5 _ m hdg (by omega) hh ht5 hx hm W
       ·obtain⟨-,-,p3⟩:=qL hx9;rw[p3] at hdg ⊢;rw[hx9];exact zJ8 _ _ _ t5 _ m hdg (by omega) hh ht5 hx hm W
 ·rw[if_pos hm];exact zJ3 _ m w hm
theorem yS (s:List UInt8) (m:Int):(rdA s m).1<18446744073709551616:=by
 unfold rdA;split
 ·show 0<_;decide
 ·split
  ·show 0<_;decide
  ·split
   ·show(if csS s<0 then 18442240474082181120 else 9218868437227405312)<_
    split <;> decide
   ·split
    ·show 9221120237041090561<_;decide
    ·split
     ·show 0<_;decide
     ·rename_i hm hL hi hn hok
      split
      ·show 0<_;decide
      ·rename_i hl
       have hok':psOk (csD s)=true:=by simpa using hok
       have hb:psb (csD s)=10∨psb (csD s)=16:=by rcases yS4 (csD s)with ⟨e,-⟩|⟨e,-⟩ <;> simp[e]
       obtain⟨X,e,-,hR⟩:=zC0 hb (zY5 hok') (by omega) (xW (zC7 (csD s)) (by omega)) (yS5 (csD s))
       show rdFl (decide (csS s<0)) (psb (csD s)) (psD (csD s)) (psH (csD s)) (psX (csD s)) m<_
       rw[hR _ m (Classical.not_not.1 hm)];exact(zE7 (yY2 _ _ _)).2.2
def ptJ (a b:Nat×Int):Nat×Nat×Int:=if a.2=3∨b.2=3 then(0,0,3)else if a.2≠0 then(0,0,a.2)else if b.2≠0 then(0,0,b.2) else(a.1,b.1,0)
def ptA (s:List UInt8) (m:Int):Nat×Nat×Int :=
 if ¬ (1≤m∧m≤3) then(0,0,1)else if 1048576<s.length then(0,0,2)else ptJ (rdA (pt1 s) m) (rdA (pt2 s) m)
theorem zC2 {t:List UInt8} {m:Int} (hm:1≤m∧m≤3):(rdA t m).2=0∨(rdA t m).2=2∨(rdA t m).2=3:=by
 unfold rdA;rw[if_neg (not_not_intro hm)];split
 ·exact .inr (.inl rfl)
 ·split
  ·exact .inl rfl
  ·split
   ·exact .inl rfl
   ·split
    ·exact .inr (.inr rfl)
    ·split
     ·exact .inr (.inl rfl)
     ·exact .inl rfl
theorem qE7 {t:List UInt8} {m:Int} (hm:1≤m∧m≤3) (hL:t.length≤1048576):(rdA t m).2=3↔¬ dOk t:=by
 by_cases h:csD t = [105,110,102]
 ·have e:(rdA t m).2=0:=by unfold rdA;rw[if_neg (not_not_intro hm),if_neg (by omega),if_pos h]
  have h2:dOk t:=.inl h;rw[e];exact⟨fun h3=>absurd h3 (by decide),fun h3=>absurd h2 h3⟩
 ·by_cases h1:csD t = [110,97,110]
  ·have e:(rdA t m).2=0:=by unfold rdA;rw[if_neg (not_not_intro hm),if_neg (by omega),if_neg h,if_pos h1]
   have h2:dOk t:=.inr (.inl h1);rw[e];exact⟨fun h3=>absurd h3 (by decide),fun h3=>absurd h2 h3⟩
  ·by_cases h2:psOk (csD t)=false
   ·have e:(rdA t m).2=3:=by unfold rdA;rw[if_neg (not_not_intro hm),if_neg (by omega),if_neg h,if_neg h1,if_pos h2]
    refine⟨fun _ h3=>?_,fun _=>e⟩
    rcases h3 with h3|h3|h3
    ·exact h h3
    ·exact h1 h3
    ·rw[h2] at h3;cases h3
   ·have h2':psOk (csD t)=true:=by simpa using h2
    have h3:dOk t:=.inr (.inr h2');refine⟨fun e=>?_,fun h4=>absurd h3 h4⟩
    unfold rdA at e;rw[if_neg (not_not_intro hm),if_neg (by omega),if_neg h,if_neg h1,if_neg h2] at e
    split at e <;> cases e
theorem yE5 (s:List UInt8):(pt1 s).length≤s.length∨(pt1 s).length=1:=by
 unfold pt1;split
 ·split
  ·left;rw[List.length_take];omega
  ·right;rfl
 ·left;omega
theorem yE4 (s:List UInt8):(pt2 s).length≤s.length∨(pt2 s).length=1:=by
 unfold pt2;split
 ·split
  ·left;rw[List.length_drop,List.length_take];omega
  ·left;rw[List.length_take];omega
 ·right;rfl
theorem xX (m:Int) (w:World):Calls Tryz.prog 8 #[.int .i64 m] w fun r w'=>r=.returned (.bool (decide (1≤m∧m≤3)))∧w'=w:=by
 by_cases h:1≤m∧m≤3
 ·rw[xL4 h];rcases(by omega:m=1∨m=2∨m=3)with rfl|rfl|rfl
  all_goals
   go_enter Tryz.func8,Tryz.ntmps8
   go_wp2
   go_ret;exact⟨rfl,rfl⟩
 ·rw[xL3 h];have h1:(m==1)=false:=by rw[xC2];omega
  have h2:(m==2)=false:=by rw[xC2];omega
  have h3:(m==3)=false:=by rw[xC2];omega
  clear h
  go_enter Tryz.func8,Tryz.ntmps8
  go_wp2
  go_ret;exact⟨rfl,rfl⟩
def RvO (A:Nat×Nat×Int) (w:World) (r:Ending) (w':World):Prop:=r=.returned (.tuple #[.complex .f64 A.1 A.2.1,.int .i64 A.2.2])∧Bw w w'
theorem zS3 (R:ByteArray) (m:Int) (w:World) (k0:∀ w,Calls Tryz.prog 8 #[.int .i64 m] w fun r w'=>r=.returned (.bool false)∧w'=w) :
  Calls Tryz.prog 4 #[.string R,.int .i64 m] w fun r w'=>RvO (0,0,1) w r w':=by
 go_enter Tryz.func4,Tryz.ntmps4
 go_wp2_with (refine(k0 _).mono ?_;rintro r w' ⟨rfl,hw⟩;replace hw:=hw.symm;subst hw)
 refine xW9 (xE3 rfl _ _ _) rfl ?_;exact⟨rfl,xL1 _ _⟩
theorem zS4 (R:ByteArray) (n:Nat) (m:Int) (w:World) (hn:R.size=n) (hL:(1048576:Int)<(n:Int)) (k0:∀ w,Calls Tryz.prog 8 #[.int .i64 m] w fun r w'=>r=.returned (.bool true)∧w'=w) :
  Calls Tryz.prog 4 #[.string R,.int .i64 m] w fun r w'=>RvO (0,0,2) w r w':=by
 go_enter Tryz.func4,Tryz.ntmps4
 go_wp2_with (refine(k0 _).mono ?_;rintro r w' ⟨rfl,hw⟩;replace hw:=hw.symm;subst hw)
 refine xW9 (xE3 rfl _ _ _) rfl ?_;exact⟨rfl,xL1 _ _⟩
theorem xX3 (R R1 R2:ByteArray) (n:Nat) (m:Int) (a b:Nat×Int) (w:World) (hn:R.size=n) (hL:¬ (1048576:Int)<(n:Int)) (k0:∀ w,Calls Tryz.prog 8 #[.int .i64 m] w fun r w'=>r=.returned (.bool true)∧w'=w)
  (kP:∀ w,Calls Tryz.prog 9 #[.string R] w fun r w'=>r=.returned (.tuple #[.string R1,.string R2])∧Bw w w')
  (k1:∀ W,Bw w W→Calls Tryz.prog 10 #[.string R1,.int .i64 m] W fun r w'=>r=.returned (.tuple #[.float .f64 a.1,.int .i64 a.2])∧Bw W w')
  (k2:∀ W,Bw w W→Calls Tryz.prog 10 #[.string R2,.int .i64 m] W fun r w'=>r=.returned (.tuple #[.float .f64 b.1,.int .i64 b.2])∧Bw W w')
  (ha:a.2=0∨a.2=2∨a.2=3) (hb:b.2=0∨b.2=2∨b.2=3) :
  Calls Tryz.prog 4 #[.string R,.int .i64 m] w fun r w'=>RvO (ptJ a b) w r w':=by
 obtain⟨a,x⟩:=a;obtain⟨b,y⟩:=b;have K1:Hid _:=k1;have K2:Hid _:=k2;clear k1 k2;obtain⟨A,hA⟩:∃ A,A=ptJ (a,x) (b,y):=⟨_,rfl⟩;rw[←hA];have HA:Hid _:=hA;clear hA;dsimp only at ha hb K1
 rcases ha with rfl|rfl|rfl <;> rcases hb with rfl|rfl|rfl
 all_goals
  go_enter Tryz.func4,Tryz.ntmps4
  go_wp2_with (go_at_call 8;refine(k0 _).mono ?_;rintro r w' ⟨rfl,hw⟩;replace hw:=hw.symm;subst hw)
  refine(kP _).mono ?_
  rintro r w0 ⟨rfl,b0⟩;have B0:Hid (Bw w w0):=b0;have j1:=K1.out w0 b0;clear k0 kP b0 K1
  go_wp2_with fail;refine j1.mono ?_;rintro r w1 ⟨rfl,b1'⟩;have b1:=B0.out.trans (b1'.mono B0.out.size);have B1:Hid (Bw w w1):=b1;have j2:=K2.out w1 b1;clear j1 b1 b1' K2 B0
  go_wp2_with fail;refine j2.mono ?_;rintro r w2 ⟨rfl,b2⟩;have B2:Hid (Bw w w2):=B1.out.trans (b2.mono B1.out.size);clear j2 b2 B1
  go_wp2;refine xW9 (xE3 rfl _ _ _) rfl ?_;rw[HA.out];exact⟨rfl,B2.out⟩
theorem xX4 (s:List UInt8) (m:Int) (w:World) (hT:Tab32 w):Calls Tryz.prog 4 #[.string ⟨s.toArray⟩,.int .i64 m] w fun r w'=>RvO (ptA s m) w r w':=by
 unfold ptA;have k0:=xX m;by_cases hm:1≤m∧m≤3
 ·rw[if_neg (not_not_intro hm)];rw[xL4 hm] at k0;by_cases hL:1048576<s.length
  ·rw[if_pos hL];exact zS4 _ s.length m w rfl (by omega) k0
  ·rw[if_neg hL];exact xX3 _ ⟨(pt1 s).toArray⟩ ⟨(pt2 s).toArray⟩ s.length m (rdA (pt1 s) m) (rdA (pt2 s) m) w rfl (by omega) k0 (fun W=>xR8 s W (by omega)) (fun W hW=>xL (hT.later hW)) (fun W hW=>xL (hT.later hW)) (zC2 hm) (zC2 hm)
 ·rw[if_pos hm];rw[xL3 hm] at k0;exact zS3 _ m w k0
theorem xV0 {s:List UInt8} {a:Nat} {sg:Bool} (h:(sg=false∧a=0∧decide (csS s<0)=false∧(s = []∨(0<s.length∧bL s 0≠43∧bL s 0≠45)))∨(sg=true∧a=1∧0<s.length∧((bL s 0=45∧decide (csS s<0)=true)∨(bL s 0=43∧decide (csS s<0)=false)))):a=sgN s:=by
 unfold sgN;cases s with
 | nil =>
  rcases h with ⟨-,h,-⟩|⟨-,-,h,-⟩
  ·exact h
  ·cases h
 | cons c r =>
  have hb:bL (c :: r) 0=c.toNat:=rfl;rw[hb] at h;rcases h with ⟨-,h,-,h2⟩|⟨-,h,-,h2⟩
  ·rcases h2 with h2|⟨-,h2,h3⟩
   ·cases h2
   ·rw[if_neg]
    ·exact h
    ·rintro(h4|h4)
     ·exact h3 (by rw[xL2 h4];rfl)
     ·exact h2 (by rw[xL2 h4];rfl)
  ·rw[if_pos]
   ·exact h
   ·rcases h2 with ⟨h2,-⟩|⟨h2,-⟩
    ·exact .inl (by rw[UInt8.toNat_inj.1 (show c.toNat=(45:UInt8).toNat from h2)];rfl)
    ·exact .inr (by rw[UInt8.toNat_inj.1 (show c.toNat=(43:UInt8).toNat from h2)];rfl)
theorem xZ6 {A B:List UInt8} {dt:Bool} (h0:A++B ≠ []) (hdt:dt=false→B = []):0<(A++dtL dt B).length:=by
 rw[xE0];cases dt
 ·rw[hdt rfl,List.append_nil] at h0;have:=List.length_pos_iff.2 h0
  omega
 ·simp[dtL];omega
theorem zB4 {L:List UInt8} {n p a:Nat} {sg:Int} (hn:n=L.length) (hL:n≤2000000) (hap:p≤a) (han:a≤n) (hG:csD (L.drop p)=L.drop a) (hS:csS (L.drop p)=sg) (hsn:a - p=sgN (L.drop p)) (hsg:sg=1∨sg = -1)
  (k:∀ e w,a≤e→e≤n→(∀ k,a≤k→k<e→48≤bL L k∧bL L k≤57)→(e<n→bL L e<48∨57<bL L e)→Calls Tryz.prog 54 #[.string ⟨L.toArray⟩,.int .i64 p] w fun r w'=>r=.returned (.tuple #[.int .i64 (sg*(rdX L a (e - a):Nat)),.int .i64 e,.bool (decide (a<e))])∧w'=w) :
  ∃ val e ok,ExA L n p val e ok∧ExP (L.drop p) (e - p) ok∧p≤e:=by
 obtain⟨A,R,hAR,hA,hR,-⟩:=sp2 (b:=10) (.inl rfl) (L.drop a) [] 0 0 (by omega)
 have hlen:A.length+R.length=n - a:=by
  have:=congrArg List.length hAR
  rw[List.length_drop,xE0] at this;omega
 have hdig:∀ k,a≤k→k<a+A.length→48≤bL L k∧bL L k≤57:=by
  intro k h1 h2;have e1:bL L k=bL A (k - a):=by
   rw[←yY5 (R:=R) (show k - a<A.length by omega),←hAR,qV1]
   congr 1
   omega
  rw[e1];exact qR8 ((qU1 _ _).1 hA (k - a) (by omega))
 have hstop:a+A.length<n→bL L (a+A.length)<48∨57<bL L (a+A.length):=by
  intro h;rcases hR with h0|⟨c,R',h1,h2,-⟩
  ·rw[h0,List.length_nil] at hlen;omega
  ·have e1:bL L (a+A.length)=c.toNat:=by rw[←qV1,hAR,h1,xR3]
   rw[e1];unfold isDg at h2;simp at h2
   omega
 have hX:=zC1 L a A.length;refine⟨sg*(rdX L a (a+A.length - a):Nat),a+A.length,decide (a<a+A.length),⟨fun w=>k (a+A.length) w (by omega) (by omega) hdig hstop,by omega,?_,?_,?_⟩,?_,by omega⟩
 ·rw[Nat.add_sub_cancel_left];rcases hsg with rfl|rfl <;> omega
 ·intro h;unfold exO dgO at h;rw[hG,xC] at h;have hR0:R = []:=by
   rcases hR with h0|⟨c,R',h1,h2,-⟩
   ·exact h0
   ·have h3:=qY7 h.1 c (by rw[hAR,h1];simp)
    rw[h2] at h3;cases h3
  have hne:L.drop a ≠ []:=of_decide_eq_true h.2;have hA0:A.length≠0:=by
   intro h9;rw[hR0,List.append_nil] at hAR;exact hne (by rw[hAR];exact List.length_eq_zero_iff.1 h9)
  rw[hR0,List.length_nil] at hlen;refine⟨xL4 (by omega),by omega,?_⟩
  unfold exX;have hexo:exO (L.drop p)=true:=by
   unfold exO dgO;rw[hG,xC];exact h
  rw[if_pos hexo,hS,hG,yE (a:=a) rfl,List.length_drop,Nat.add_sub_cancel_left];have e2:L.length - a=A.length:=by omega
  rw[e2];rcases hsg with rfl|rfl <;> omega
 ·intro h;rcases hR with h0|⟨c,R',h1,h2,-⟩
  ·left
   unfold exO dgO at h;rw[hG] at h;rw[h0,List.append_nil] at hAR;rw[hAR,hA,Bool.true_and] at h;have h3:=of_decide_eq_false h;have h4:A = []:=Classical.not_not.1 h3;rw[h4];exact xL3 (by simp)
  ·right
   rw[h1,List.length_cons] at hlen;omega
 ·have h9:=xN4 (R:=L.drop p) (A:=A) (Q:=R) (by rw[hG];exact hAR) hA hR
  rw[←hsn] at h9;rw[show a+A.length - p=a - p+A.length by omega,show decide (a<a+A.length)=decide (0<A.length) by simp]
  exact h9
theorem yZ1 (L:List UInt8) (n p:Nat) (hn:n=L.length) (hL:n≤2000000) (hp:p≤n):∃ val e ok,ExA L n p val e ok∧ExP (L.drop p) (e - p) ok∧p≤e:=by
 have kP:∀ a e w,a≤e→e≤n→(∀ k,a≤k→k<e→48≤bL L k∧bL L k≤57)→(e<n→bL L e<48∨57<bL L e)→((p=n∧a=p)∨(p<n∧bL L p=43∧a=p+1)∨(p<n∧(bL L p≠45∧bL L p≠43)∧a=p))→Calls Tryz.prog 54 #[.string ⟨L.toArray⟩,.int .i64 p] w fun r w'=>r=.returned (.tuple #[.int .i64 (1*(rdX L a (e - a):Nat)),.int .i64 e,.bool (decide (a<e))])∧w'=w:=by
  intro a e w h1 h2 h3 h4 h5;have h9:=qA9 L n p a e false w hn hL (by omega) h1 h2 (by rcases h5 with h|h|h;exact .inl ⟨h.1,h.2,rfl⟩;exact .inr (.inr (.inl ⟨h.1,h.2.1,h.2.2,rfl⟩));exact .inr (.inr (.inr ⟨h.1,h.2.1,h.2.2,rfl⟩))) h3 h4
  rw[if_neg (by decide)] at h9
  rw[Int.one_mul];exact h9
 by_cases hpn:p=n
 ·refine zB4 (a:=p) (sg:=1) hn hL (xL0 _) hp ?_ ?_ (by rw[List.drop_eq_nil_of_le (by omega)];simp[sgN]) (.inl rfl) (fun e w h1 h2 h3 h4=>kP p e w h1 h2 h3 h4 (.inl ⟨hpn,rfl⟩))
  ·rw[List.drop_eq_nil_of_le (by omega)];rfl
  ·rw[List.drop_eq_nil_of_le (by omega)];rfl
 ·obtain⟨c,hc,hcb⟩:=zK8 (L:=L) (k:=p) (by omega)
  by_cases h45:c=45
  ·refine zB4 (a:=p+1) (sg := -1) hn hL (by omega) (by omega) ?_ ?_ (by rw[hc,h45];simp[sgN]) (.inr rfl) (fun e w h1 h2 h3 h4=>?_)
   ·rw[hc,h45];rfl
   ·rw[hc,h45];rfl
   ·have h9:=qA9 L n p (p+1) e true w hn hL (by omega) h1 h2 (.inr (.inl ⟨by omega,by rw[←hcb,h45];rfl,rfl,rfl⟩)) h3 h4
    rw[if_pos rfl] at h9;rw[Int.neg_one_mul];exact h9
  ·by_cases h43:c=43
   ·refine zB4 (a:=p+1) (sg:=1) hn hL (by omega) (by omega) ?_ ?_ (by rw[hc,h43];simp[sgN]) (.inl rfl) (fun e w h1 h2 h3 h4=>kP (p+1) e w h1 h2 h3 h4 (.inr (.inl ⟨by omega,by rw[←hcb,h43];rfl,rfl⟩)))
    ·rw[hc,h43];rfl
    ·rw[hc,h43];rfl
   ·have hh:¬ ((L.drop p).head?=some 45)∧¬ ((L.drop p).head?=some 43):=by
     rw[hc];exact⟨fun h=>h45 (xL2 h),fun h=>h43 (xL2 h)⟩
    refine zB4 (a:=p) (sg:=1) hn hL (xL0 _) hp ?_ ?_ (by unfold sgN;rw[if_neg (fun h=>h.elim hh.1 hh.2)];omega) (.inl rfl) (fun e w h1 h2 h3 h4=>kP p e w h1 h2 h3 h4 (.inr (.inr ⟨by omega,⟨fun h=>h45 (UInt8.toNat_inj.1 (by rw[hcb,h];rfl)),fun h=>h43 (UInt8.toNat_inj.1 (by rw[hcb,h];rfl))⟩,rfl⟩)))
    ·unfold csD;rw[if_neg (fun h=>h.elim hh.1 hh.2)]
    ·unfold csS;rw[if_neg hh.1]
theorem yS6 {s:List UInt8} {n a:Nat} {b:Int} {A B:List UInt8} {dt:Bool} {Rr:List UInt8} (hn:n=s.length) (hL:n≤2000000) (ha:a≤n) (h:s.drop a=A++dtL dt B++Rr):∃ v e l m o,Pk s n a b A B dt Rr v e l m o∧(m=true→∀ c R',Rr=c :: R'→ExP R' (l - (e+1)) o∧e+1≤l):=by
 obtain⟨h1,h2⟩:=qD h (by omega)
 cases Rr with
 | nil =>
  rw[List.length_nil] at h2;exact⟨0,_,0,false,false,⟨rfl,by omega,(fun h=>by cases h),fun _=>.inl ⟨rfl,by omega⟩⟩,fun h=>by cases h⟩
 | cons c R' =>
  rw[List.length_cons] at h2;have hb:bL s (a+(A++dtL dt B).length)=c.toNat:=by
   have:=qV1 s (a+(A++dtL dt B).length) 0
   rw[h1,Nat.add_zero] at this;rw[←this];rfl
  have hd:R'=s.drop (a+(A++dtL dt B).length+1):=by rw[←List.drop_drop,h1];rfl
  by_cases hc:(mkL b).contains c=true
  ·obtain⟨v,l,o,hE,hX,hY⟩:=yZ1 s n (a+(A++dtL dt B).length+1) hn hL (by omega)
   refine⟨v,_,l,true,o,⟨rfl,by omega,fun _=>⟨c,R',rfl,hc,by omega,hb,hd,hE⟩,(fun h=>by cases h)⟩,fun _ c2 R2 h9=>?_⟩
   injection h9 with _ h9;rw[←h9,hd];exact⟨hX,hY⟩
  ·exact⟨0,_,0,false,false,⟨rfl,by omega,(fun h=>by cases h),fun _=>.inr ⟨c,R',rfl,by simpa using hc,by omega,hb⟩⟩,fun h=>by cases h⟩
theorem dec_y {s:List UInt8} {a:Nat} {A B Rr T:List UInt8} {dt:Bool} {c:UInt8} (hc:c=120∨c=88) (hS:s.drop a=48 :: c :: T) (h:s.drop a=A++dtL dt B++Rr) (hA:qZ8 A 10=true) (hB:qZ8 B 10=true) (hdt:dt=false→B = []) (hst:qH4 10 dt Rr):(A++dtL dt B).length=1:=by
 have hcd:isDg c.toNat 10=false:=by rcases hc with rfl|rfl <;> decide
 have hcm:(mkL 10).contains c=false:=by rcases hc with rfl|rfl <;> decide
 have hc46:c≠46:=by rcases hc with rfl|rfl <;> decide
 have h48:qZ8 [48] 10=true:=by decide
 have e1 : [48]++c :: T=A++dtL dt B++Rr:=by rw[←h,hS];rfl
 have key:A = [48]∧dt=false:=by
  cases dt
  ·rw[show A++dtL false B++Rr=A++Rr by simp[dtL]] at e1
   rcases hst with h0|⟨x,R',h1,h2,-⟩
   ·rw[h0,List.append_nil] at e1;have:=qY7 hA c (by rw[←e1];simp)
    rw[hcd] at this;cases this
   ·rw[h1] at e1;obtain⟨h3,h4,h5⟩:=qH h48 hA hcd h2 e1;exact⟨h3.symm,rfl⟩
  ·rw[show A++dtL true B++Rr=A++46 :: (B++Rr) by simp[dtL]] at e1
   obtain⟨-,h4,-⟩:=qH h48 hA hcd (show isDg (46:UInt8).toNat 10=false from zB9) e1;exact absurd h4 hc46
 obtain⟨hA1,hR⟩:=key;rw[hA1,hR];rfl
theorem zN3 (s:List UInt8) (hL:s.length≤1048576):∃ (t1:ByteArray) (t2:Bool) (t3:ByteArray) (t4 t5:Int) (k:Nat),TkC s t1 t2 t3 t4 t5 k∧LgS s k:=by
 obtain⟨n,hn⟩:∃ n,n=s.length:=⟨_,rfl⟩;obtain⟨a,sg,hS,ha,hsg⟩:=zN4 s;have hsn:a=sgN s:=xV0 hsg;have hsz:(⟨s.toArray⟩:ByteArray).size=n:=by rw[hn];rfl
 have hsg':=yS9 hn hsg;have hhx:=yR0 (S:=csD s) hn hS (by omega)
 have hlenS:(csD s).length=n - a:=by rw[hS,List.length_drop,←hn]
 obtain⟨A,B,dt,Rr,d1,d2,d3,d4,d5,kD⟩:=zG7 s n a 10 (.inl rfl) hn (by omega) (by omega)
 obtain⟨v,e,l,m,o,hp,hq⟩:=yS6 (b:=10) hn (by omega) (by omega) d1
 have kD':∀ w,Calls Tryz.prog 53 #[.string ⟨s.toArray⟩,.int .i64 (a:Nat),.int .i64 10] w fun r w'=>r=.returned (.tuple #[.string ⟨(A++B).toArray⟩,.int .i64 (B.length:Nat),.int .i64 (e:Nat)])∧Bw w w':=by
  intro w;rw[hp.1];exact kD w
 by_cases hw:a+3≤n∧((csD s).take 3 = [105,110,102]∨(csD s).take 3 = [110,97,110])
 ·obtain⟨hw1,hw2⟩:=hw;have hwd:(⟨s.toArray⟩:ByteArray).extract a (a+3)=⟨((csD s).take 3).toArray⟩:=by rw[zB2,hS]
  refine⟨⟨((csD s).take 3).toArray⟩,false,⟨#[]⟩,0,0,a+3,fun w=>?_,zP8 (yI1 (by omega) hw2) (.inr ⟨by omega,by omega⟩)⟩
  have hlist:(⟨((csD s).take 3).toArray⟩:ByteArray).toList=(csD s).take 3:=qH3 _;refine qK s ⟨s.toArray⟩ n a (decide (csS s<0)) sg true (hexP (csD s)) s.isEmpty ⟨((csD s).take 3).toArray⟩ _ _ _ _ _ _ w rfl hsz (by omega) (qX9 s) hsg' ?_ (fun _=>⟨rfl,rfl,rfl,rfl,rfl,rfl⟩) hhx ⟨#[]⟩ ⟨(A++B).toArray⟩ 0 (B.length:Nat) 0 v 0 0 e l false false m o true ((A++B).isEmpty) (qX9 []) (qX9 _) (by omega) hp.2.1 ?_ (.inr ⟨rfl,.inl rfl⟩) (fun h=>by cases h) (fun h=>by cases h) kD' (hm10 hp) (qB5 hp) (fun h=>by cases h)
  ·refine .inr ⟨hw1,hwd,?_⟩;rw[hlist];rcases hw2 with h|h
   ·exact .inl ⟨rfl,by rw[h];rfl⟩
   ·exact .inr (.inl ⟨rfl,by rw[h];rfl,by rw[h];rfl⟩)
  ·intro hx;exfalso;rcases qY0 (csD s)with ⟨-,c,T,h2,-⟩|⟨h1,-⟩
   ·rw[h2] at hw2;rcases hw2 with h|h
    ·injection h with h _;exact absurd h (by decide)
    ·injection h with h _;exact absurd h (by decide)
   ·rw[hx] at h1;cases h1
 ·have hw':¬ (3≤(csD s).length∧((csD s).take 3 = [105,110,102]∨(csD s).take 3 = [110,97,110])):=fun h=>hw ⟨by omega,h.2⟩
  have hiw:(n<a+3∧false=false)∨(a+3≤n∧(⟨s.toArray⟩:ByteArray).extract a (a+3)=⟨((csD s).take 3).toArray⟩∧((false=true∧((⟨((csD s).take 3).toArray⟩:ByteArray).toList == [105,110,102])=true)∨(false=true∧((⟨((csD s).take 3).toArray⟩:ByteArray).toList == [105,110,102])=false∧((⟨((csD s).take 3).toArray⟩:ByteArray).toList == [110,97,110])=true)∨(false=false∧((⟨((csD s).take 3).toArray⟩:ByteArray).toList == [105,110,102])=false∧((⟨((csD s).take 3).toArray⟩:ByteArray).toList == [110,97,110])=false))):=by
   by_cases h3:a+3≤n
   ·refine .inr ⟨h3,by rw[zB2,hS],.inr (.inr ⟨rfl,?_,?_⟩)⟩
    ·rw[qH3,xC2];exact fun h=>hw ⟨h3,.inl h⟩
    ·rw[qH3,xC2];exact fun h=>hw ⟨h3,.inr h⟩
   ·exact .inl ⟨by omega,rfl⟩
  rcases qY0 (csD s)with ⟨hx,c,T,hcT,hc⟩|⟨hx,-⟩
  ·have hlen2:a+2≤n:=by rw[hcT] at hlenS;simp at hlenS;omega
   obtain⟨A',B',dt',Rr',x1,x2,x3,x4,x5,kH⟩:=zG7 s n (a+2) 16 (.inr rfl) hn (by omega) hlen2
   obtain⟨v',e',l',m',o',hp',hq'⟩:=yS6 (b:=16) hn (by omega) hlen2 x1
   have kH':∀ w,Calls Tryz.prog 53 #[.string ⟨s.toArray⟩,.int .i64 ((a+2:Nat):Int),.int .i64 16] w fun r w'=>r=.returned (.tuple #[.string ⟨(A'++B').toArray⟩,.int .i64 (B'.length:Nat),.int .i64 (e':Nat)])∧Bw w w':=by
    intro w;rw[hp'.1];exact kH w
   obtain⟨y1,y2,y3⟩:=xM hn hc (by rw[←hS,hcT]) d1 d2 d3 d4 d5 hp
   have y4:=dec_y hc (by rw[←hS,hcT]) d1 d2 d3 d4 d5
   have hxd:(csD s).drop 2=A'++dtL dt' B'++Rr':=by rw[hS,List.drop_drop];exact x1
   by_cases hacc:(m' && !(A'++B').isEmpty)=true∧o'=true
   ·refine⟨⟨#[]⟩,true,⟨(A'++B').toArray⟩,(B'.length:Nat),v',l',fun w=>qK s ⟨s.toArray⟩ n a (decide (csS s<0)) sg false true s.isEmpty ⟨((csD s).take 3).toArray⟩ _ _ _ _ _ _ w rfl hsz (by omega) (qX9 s) hsg' hiw (fun h=>by cases h) (by rw[hx] at hhx;exact hhx) ⟨(A'++B').toArray⟩ ⟨(A++B).toArray⟩ (B'.length:Nat) (B.length:Nat) v' v e' l' e l (m' && !(A'++B').isEmpty) o' m o ((A'++B').isEmpty) ((A++B).isEmpty) (qX9 _) (qX9 _) hp'.2.1 hp.2.1 (fun _=>kH') (hm16 hp') (fun h=>qB5 hp' (by rw[xC] at h;exact h.1)) (fun _ _ _ _=>⟨rfl,rfl,rfl,rfl,rfl,rfl⟩) kD' (hm10 hp) (qB5 hp) (fun _ h=>absurd ⟨rfl,hacc.1,hacc.2⟩ h),?_⟩
    have hm1:m'=true:=by have:=hacc.1;rw[xC] at this;exact this.1
    have hz1:A'++B' ≠ []:=by have:=hacc.1;rw[xC] at this;intro h;rw[h] at this;exact absurd this.2 (by decide)
    obtain⟨c',R',r1,r2,-⟩:=hp'.2.2.1 hm1;obtain⟨X1,X2⟩:=hq' hm1 c' R' r1;rw[hacc.2] at X1;rw[r1] at hxd x5;have he':=hp'.1;exact zP8 (yI3 hw' hx hxd x2 x3 x4 x5 hz1 r2 X1) (.inr ⟨by omega,by omega⟩)
   ·refine⟨⟨#[]⟩,false,⟨(A++B).toArray⟩,(B.length:Nat),0,e,fun w=>qK s ⟨s.toArray⟩ n a (decide (csS s<0)) sg false true s.isEmpty ⟨((csD s).take 3).toArray⟩ _ _ _ _ _ _ w rfl hsz (by omega) (qX9 s) hsg' hiw (fun h=>by cases h) (by rw[hx] at hhx;exact hhx) ⟨(A'++B').toArray⟩ ⟨(A++B).toArray⟩ (B'.length:Nat) (B.length:Nat) v' v e' l' e l (m' && !(A'++B').isEmpty) o' m o ((A'++B').isEmpty) ((A++B).isEmpty) (qX9 _) (qX9 _) hp'.2.1 hp.2.1 (fun _=>kH') (hm16 hp') (fun h=>qB5 hp' (by rw[xC] at h;exact h.1)) (fun _ _ h1 h2=>absurd ⟨h1,h2⟩ hacc) kD' (hm10 hp) (qB5 hp) (fun _ _=>⟨rfl,rfl,.inr ⟨y1,rfl,rfl,.inr ⟨fun h=>by rw[y2] at h;exact absurd h.1 (by decide),rfl,rfl⟩⟩⟩),?_⟩
    have he:=hp.1;refine zP8 (yI4 hw' hx hxd x2 x3 x4 x5 fun h0 c2 R2 h1 h2 i hi=>?_) (.inr ⟨by omega,by omega⟩)
    cases hex:exO (R2.take i)
    ·rfl
    ·exfalso;cases hm:m' with
     | false =>
      rcases hp'.2.2.2 hm with ⟨r1,-⟩|⟨c3,R3,r1,r2,-⟩
      ·rw[h1] at r1;cases r1
      ·rw[h1] at r1;injection r1 with r1 _;rw[←r1,h2] at r2;cases r2
     | true =>
      have X:=((hq' hm c2 R2 h1).1.2.2 i hi hex).1;refine hacc ⟨?_,X⟩;rw[hm];cases hE:A'++B' with
      | nil=>exact absurd hE h0
      | cons _ _=>rfl
  ·have hSd:csD s=A++dtL dt B++Rr:=by rw[hS];exact d1
   have he:=hp.1;by_cases hz0:(A++B).isEmpty=true
   ·have h0:A++B = []:=List.isEmpty_iff.1 hz0;exact⟨⟨#[]⟩,false,⟨#[]⟩,0,0,0,fun w=>qK s ⟨s.toArray⟩ n a (decide (csS s<0)) sg false false s.isEmpty ⟨((csD s).take 3).toArray⟩ _ _ _ _ _ _ w rfl hsz (by omega) (qX9 s) hsg' hiw (fun h=>by cases h) (by rw[hx] at hhx;exact hhx) ⟨#[]⟩ ⟨(A++B).toArray⟩ 0 (B.length:Nat) 0 v 0 0 e l false false m o true ((A++B).isEmpty) (qX9 []) (qX9 _) (by omega) hp.2.1 (fun h=>by cases h) (.inr ⟨rfl,.inl rfl⟩) (fun h=>by cases h) (fun _ h=>by cases h) kD' (hm10 hp) (qB5 hp) (fun _ _=>⟨rfl,rfl,.inl ⟨hz0,rfl,rfl,rfl,rfl⟩⟩),zP8 (yI2 hw' hx hSd d2 d3 d4 d5 h0) (.inl ⟨rfl,rfl⟩)⟩
   ·have hz1:(A++B).isEmpty=false:=by simpa using hz0
    have h0:A++B ≠ []:=fun h=>by rw[h] at hz1;cases hz1
    have hpos:=xZ6 (dt:=dt) h0 d4;by_cases hacc:m=true∧o=true
    ·refine⟨⟨#[]⟩,false,⟨(A++B).toArray⟩,(B.length:Nat),v,l,fun w=>qK s ⟨s.toArray⟩ n a (decide (csS s<0)) sg false false s.isEmpty ⟨((csD s).take 3).toArray⟩ _ _ _ _ _ _ w rfl hsz (by omega) (qX9 s) hsg' hiw (fun h=>by cases h) (by rw[hx] at hhx;exact hhx) ⟨#[]⟩ ⟨(A++B).toArray⟩ 0 (B.length:Nat) 0 v 0 0 e l false false m o true ((A++B).isEmpty) (qX9 []) (qX9 _) (by omega) hp.2.1 (fun h=>by cases h) (.inr ⟨rfl,.inl rfl⟩) (fun h=>by cases h) (fun _ h=>by cases h) kD' (hm10 hp) (qB5 hp) (fun _ _=>⟨rfl,rfl,.inr ⟨hz1,rfl,rfl,.inl ⟨hacc.1,hacc.2,rfl,rfl⟩⟩⟩),?_⟩
     obtain⟨c',R',r1,r2,-⟩:=hp.2.2.1 hacc.1;obtain⟨X1,X2⟩:=hq hacc.1 c' R' r1;rw[hacc.2] at X1;rw[r1] at hSd d5;exact zP8 (xF9 hw' hx hSd d2 d3 d4 d5 h0 r2 X1) (.inr ⟨by omega,by omega⟩)
    ·refine⟨⟨#[]⟩,false,⟨(A++B).toArray⟩,(B.length:Nat),0,e,fun w=>qK s ⟨s.toArray⟩ n a (decide (csS s<0)) sg false false s.isEmpty ⟨((csD s).take 3).toArray⟩ _ _ _ _ _ _ w rfl hsz (by omega) (qX9 s) hsg' hiw (fun h=>by cases h) (by rw[hx] at hhx;exact hhx) ⟨#[]⟩ ⟨(A++B).toArray⟩ 0 (B.length:Nat) 0 v 0 0 e l false false m o true ((A++B).isEmpty) (qX9 []) (qX9 _) (by omega) hp.2.1 (fun h=>by cases h) (.inr ⟨rfl,.inl rfl⟩) (fun h=>by cases h) (fun _ h=>by cases h) kD' (hm10 hp) (qB5 hp) (fun _ _=>⟨rfl,rfl,.inr ⟨hz1,rfl,rfl,.inr ⟨hacc,rfl,rfl⟩⟩⟩),?_⟩
     refine zP8 (yH hw' hx hSd d2 d3 d4 d5 h0 fun c2 R2 h1 h2 i hi=>?_) (.inr ⟨by omega,by omega⟩)
     cases hex:exO (R2.take i)
     ·rfl
     ·exfalso;cases hm:m with
      | false =>
       rcases hp.2.2.2 hm with ⟨r1,-⟩|⟨c3,R3,r1,r2,-⟩
       ·rw[h1] at r1;cases r1
       ·rw[h1] at r1;injection r1 with r1 _;rw[←r1,h2] at r2;cases r2
      | true=>exact hacc ⟨hm,((hq hm c2 R2 h1).1.2.2 i hi hex).1⟩
end Go.Proofs.YtbanebginnakhaaGreatDoor
