/- Own work: contracts of the program's functions, part 6: F2 FL1 FL2 SA2 SA1 SA4 SA5 RB1 RB2 RB3 R7 RB4 RB5 RB6 R8 RB7 RB8 RB9 W33 RC1 RW1. -/
import Derived.Test.YtfkaogdmlcdceaaGreatDoorA3
import Derived.Laws.FloatArith
import Derived.Laws.NewFold
import Derived.Test.YtfkaogdmlcdceaaGreatDoorA5
import Derived.Test.YtfkaogdmlcdceaaGreatDoorA4
import Derived.Test.YtfkaogdmlcdceaaGreatDoorA1
import Derived.Test.YtfkaogdmlcdceaaGreatDoorA2
import Derived.Laws.AppendOwnNone

set_option maxHeartbeats 16000000
set_option maxRecDepth 200000
set_option linter.unusedVariables false
set_option linter.unusedSimpArgs false
/- A finite float and nought, added: the float; of noughts +0. -/
namespace Go.Fl64
end Go.Fl64
/- Floats that are not finite, and what sums of them are; a float and itself, taken away. -/
namespace Go.Fl64
def fin (a:Nat):Bool:=decide (mag a<9218868437227405312)
def ngt (a:Nat):Nat:=if neg a then a - 9223372036854775808 else a+9223372036854775808
theorem yN0 (a:Nat) (h:a<18446744073709551616):a ^^^ 9223372036854775808=ngt a:=by
 unfold ngt neg;by_cases hn:9223372036854775808≤a
 ·rw[decide_eq_true hn,if_pos rfl];have e1:=Nat.two_pow_add_eq_or_of_lt (i:=63) (show a - 9223372036854775808<2^63 by omega) 1
  apply Nat.eq_of_testBit_eq
  intro i;have e2:a=2^63*1+(a - 9223372036854775808):=by omega
  rw[Nat.testBit_xor,show(9223372036854775808:Nat)=2^63 from rfl,Nat.testBit_two_pow];rw[show(9223372036854775808:Nat)=2^63 from rfl] at e1 e2;have e3:a.testBit i=(2^63 ||| (a - 2^63)).testBit i:=by
   rw[Nat.mul_one] at e1;rw[←e1];congr 1
  rw[e3,Nat.testBit_or,Nat.testBit_two_pow];by_cases hi:63=i
  ·subst hi;have:(a - 2^63).testBit 63=false:=Nat.testBit_lt_two_pow (by omega)
   rw[this];simp
  ·simp[hi]
 ·rw[decide_eq_false hn,if_neg (by decide)]
  have e1:=Nat.two_pow_add_eq_or_of_lt (i:=63) (show a<2^63 by omega) 1
  rw[Nat.mul_one] at e1;rw[show(9223372036854775808:Nat)=2^63 from rfl,Nat.add_comm a,e1];apply Nat.eq_of_testBit_eq
  intro i;rw[Nat.testBit_xor,Nat.testBit_or,Nat.testBit_two_pow];by_cases hi:63=i
  ·subst hi;have:a.testBit 63=false:=Nat.testBit_lt_two_pow (by omega)
   rw[this];simp
  ·simp[hi]
theorem negF (a:Nat) (h:a<18446744073709551616):Op.negFloat .f64 a=ngt a:=by
 rw[←yN0 a h];rfl
end Go.Fl64
/- Products and quotients of floats of which one is nought or not finite. -/
namespace Go.Fl64
end Go.Fl64
namespace Go.Proofs.YtfkaogdmlcdceaaGreatDoor
open Go.RowKit Go.Fl64
attribute [local go_sem] iV Nu
def OutA (W:World) (t:Bool×Nat×Int) (r:Ending) (w':World):Prop:=∃ s ao n cap e,r=.returned (.agg #[.bool s,.slice ao n cap,.int .i64 e])∧PN w' (.agg #[.bool s,.slice ao n cap,.int .i64 e]) t∧Bw W w'
theorem yH9 {w:World} {ao:Option Addr} {n z g:Nat} {p q r:Value} (h:At w ao n z) (D:w.heap[g]?=some (.cells #[p,q,r] 50 (0,0))) (H:∀ k,p ≠ .int .u32 k) (V:∀ k,q ≠ .int .u32 k) (J:∀ k,r ≠ .int .u32 k) (a b c:Value):At (((w.setCell ⟨g,0,none⟩ a).setCell ⟨g,1,none⟩ b).setCell ⟨g,2,none⟩ c) ao n z:=by
 obtain⟨Y,o,L,u⟩:=h;refine⟨Y,o,L,fun i hi=>?_⟩
 by_cases T:Y=g
 ·subst T;have:=u i hi
  simp only[World.cell?,D] at this;exfalso;have F:o+i<3:=by
   rcases Nat.lt_or_ge (o+i) 3 with h|h
   ·exact h
   ·rw[Array.getElem?_eq_none (by simpa using h)] at this;simp at this
  rcases(show o+i=0∨o+i=1∨o+i=2 by omega)with h|h|h
  ·rw[h] at this;simp at this;exact H _ this
  ·rw[h] at this;simp at this;exact V _ this
  ·rw[h] at this;simp at this;exact J _ this
 ·rw[World.cell?_setCell_other _ _ _ _ (by intro e;simp at e <;> omega),World.cell?_setCell_other _ _ _ _ (by intro e;simp at e <;> omega),World.cell?_setCell_other _ _ _ _ (by intro e;simp at e <;> omega)]
  exact u i hi
theorem qB4 {w:World} {A:Value} {t:Bool×Nat×Int} {g:Nat} (h:PN w A t) (J:Hn w g false none 0 0 0 50) (a b c:Value):PN (((w.setCell ⟨g,0,none⟩ a).setCell ⟨g,1,none⟩ b).setCell ⟨g,2,none⟩ c) A t:=by
 obtain⟨ao,cap,D,Y,u,e',F,H,V⟩:=h;exact⟨ao,cap,D,Y,u,e',F,H,yH9 V J (by simp) (by simp) (by simp) a b c⟩
theorem xC6 {t:Bool×Nat×Int} {A:Value} {m:Int} {w:World} (T:Tab32 w) (J:Ok t) (h:PN w A t) (L:1≤m∧m≤3) :
  Ca 249 #[A,iV m] w (Rq w (.tuple #[.float .f64 (tfF t.1 true t.2.1 t.2.2 m),iV 0])):=by
 obtain⟨F,H,rfl,V⟩:=h;obtain⟨I,C,W,-,-⟩:=J.facts;refine c24_1 t.1 F _ H _ t.2.2 m w (fun Y g u D=>?_) (fun Y=>c48 m ω Y) (fun Y u=>?_)
 ·have:=zQ0 D (V.later u) ω
  rw[show okN t.1 (dlen t.2.1) t.2.1 t.2.2=true from J] at this;exact this
 ·exact c106 (neg:=t.1) (e:=t.2.2) (mode:=m) (T.later u) (V.later u) ω ω ω
end Go.Proofs.YtfkaogdmlcdceaaGreatDoor
/- The document's small functions on floats, call by call. -/
namespace Go.Proofs.YtfkaogdmlcdceaaGreatDoor.Ie
open Go.RowKit Go.Fl64
end Go.Proofs.YtfkaogdmlcdceaaGreatDoor.Ie
namespace Go.Proofs.YtfkaogdmlcdceaaGreatDoor
open Go.RowKit Go.Fl64
attribute [local go_sem] iV Nu
theorem yY6 {s:Bool} {m:Int} (u:1≤m∧m≤3):Ie.mk s 0 0 m 9221120237041090561=sig s 0:=by
 unfold Ie.mk;rw[kU6 ω,kU6 rfl]
end Go.Proofs.YtfkaogdmlcdceaaGreatDoor
namespace Go.Proofs.YtfkaogdmlcdceaaGreatDoor
open Go.RowKit
attribute [local go_sem] iV Nu
def Ir (w:World) (v:Value) (x:Nat):Prop:=∃ ao cap,v=.slice ao (dlen x) cap∧dlen x≤cap∧At w ao (dlen x) x
theorem Is.ir {w:World} {v:Value} {x:Nat} (h:Is w v x):Ir w v x:=by
 obtain⟨ao,cap,J,Y,V,u⟩:=h;exact⟨ao,cap,J,Y,u⟩
theorem Ir.later {w w':World} {v:Value} {x:Nat} (h:Ir w v x) (u:Bw w w'):Ir w' v x:=by
 obtain⟨ao,cap,V,J,Y⟩:=h;exact⟨ao,cap,V,J,Y.later u⟩
theorem Ir.nil (w:World) (ao:Option Addr) (cap:Nat):Ir w (.slice ao 0 cap) 0:=⟨ao,cap,by rw[qQ5],by rw[qQ5];omega,0,0,fun h=>by rw[qQ5] at h;omega,fun i hi=>by rw[qQ5] at hi;omega⟩
theorem Mk.drewN {w wr:World} {n:Nat} {f:Nat→Nat} (h:Mk w wr n f) (d:Nat):Mk w (wr.drewN d) n f :=
 ⟨⟨h.below.os,h.below.tape,h.below.output,h.below.size,h.below.block⟩,h.size,h.row⟩
theorem yY4 {c f d e:Nat} (V:c<B) (u:f<B) (J:d<B) (Y:e<B) :
  IntKind.u64.wrap (IntKind.u64.wrap (IntKind.u64.wrap (IntKind.u64.wrap (d:Int)*IntKind.u64.wrap (e:Int))+IntKind.u64.wrap (f:Int))+(c:Int))=((c+f+e*d:Nat):Int):=by
 obtain⟨D,F,H⟩:=qM7 V u J Y;rw[qX3 J,qX3 Y,qX3 u,←kN8,kN4 d e];generalize e*d=m at *;rw[kB6,kB6,kB6];omega
theorem xK2 (ao bo:Option Addr) (ba oa bb ob na nb ca cb x y:Nat) (w:World) (ha:ao=some ⟨ba,oa,none⟩) (hb:bo=some ⟨bb,ob,none⟩) (qK:0<na) (qX:0<nb) (qV:na≤1000000000) (qJ:nb≤1000000000) (hx:dlen x=na) (hy:dlen y=nb)
  (u:∀ i,i<na→w.cell? ⟨ba,oa+i,none⟩=some (.int .u32 (dg x i:Nat))) (J:∀ i,i<nb→w.cell? ⟨bb,ob+i,none⟩=some (.int .u32 (dg y i:Nat))) :
  Ca 104 #[.slice ao na ca,.slice bo nb cb] w fun e w'=>∃ v,e=.returned v∧Own w' w.heap.size v (x*y)∧Bw w w':=by
 subst ha hb;have D:=run_make_row' (P:=Tryz.prog) 48 96 (.int .u32 0) 4 Tryz.underlying48 Tryz.info96 rfl .i64 .i64 (na+nb) ω ω;rw[show((na+nb:Nat):Int)=(na:Int)+nb by omega] at D
 have HX:Hid _:=hx;have HY:Hid _:=hy;have z1:((na:Int)==0)=false:=by simp;omega
 have z2:((nb:Int)==0)=false:=by simp;omega
 clear hx hy
 go_enter Tryz.func104,Tryz.ntmps104
 go_wp2;clear D z1 z2
 go_loopw [6] (fun c wr=>∃ i:Nat,i≤na∧c=iV i∧Mk w wr (na+nb) (dg (x % B^i*y))) (fun c _=>na - (intOf c).toNat)
 case atStart=>exact⟨0,kB4 _,rfl,(Mk.start w _).congr fun t ht=>by simp[Nat.mod_one,dg]⟩
 case round =>
  obtain⟨i,hi,rfl,F⟩:=hrel;by_cases V:i<na
  ·have g1:=F.old (u i V);have qG:(i:Int)<(na:Int):=ω;have HO:Hid _:=F;generalize hd:dg x i=d at *;have HD:Hid _:=hd;have H:Hid (d<B):=hd ▸ qX1 _ _;clear hd F
   go_wp2
   go_loopw [7,8] (fun c s wi=>∃ j:Nat,j≤nb∧c=.int .u64 (macc (x % B^i*y / B^i) y d j:Nat)∧s=iV j∧Mk w wi (na+nb) (mid x y i j)) (fun _ s _=>nb - (intOf s).toNat)
   case atStart=>exact⟨0,kB4 _,by rw[zV2];rfl,rfl,HO.out.congr fun t ht=>by
     unfold mid;by_cases e:t<i+0
     ·rw[kU6 e,zS8 ω]
     ·rw[kU5 e]⟩
   case round =>
    obtain⟨j,hj,rfl,rfl,Y⟩:=hrel;by_cases T:j<nb
    ·have g4:=Y.old (J j T);have C:=Y.old (u i V);rw[HD.out] at C;have qU:(j:Int)<(nb:Int):=ω;have I:=Y.cell (i:=i+j) ω;have g3:=Y.frozen (i+j);have qZ:=zN0 (x % B^i*y / B^i) y d j;have ef:mid x y i j (i+j)=dg (x % B^i*y) (i+j):=kU5 ω;rw[ef] at I;generalize L:dg (x % B^i*y) (i+j)=f at *;generalize he:dg y j=e at *;generalize W:macc (x % B^i*y / B^i) y d j=c at *;have HE:Hid _:=aI3 L he W;have HL:Hid (c<B∧f<B∧e<B):=⟨by have:=H.out;omega,L ▸ qX1 _ _,he ▸ qX1 _ _⟩
     have HM:Hid _:=Y;clear L he W qZ Y u J ef g1
     go_wp2
     go_quiet (fail)
     have qF:(wr.drewN nq).cell? ⟨w.heap.size,i+j,none⟩=some (.int .u32 (f:Nat)):=I;have qH:(wr.drewN nq).frozen? ⟨w.heap.size,i+j,none⟩=false:=g3;have qY:Hid _:=HM.out.drewN nq;generalize wr.drewN nq=wq at *;clear C I g3 g4
     go_wp2;exact zV1 qY.out (yY4 HL.out.1 HL.out.2.1 H.out HL.out.2.2) HD.out HE.out T
    ·obtain rfl:j=nb:=ω;have I:=Y.cell (i:=i+j) ω;have g3:=Y.frozen (i+j);have HM:Hid _:=Y;generalize L:mid x y i j (i+j)=f at *;generalize W:macc (x % B^i*y / B^i) y d j=c at *;have HC:Hid _:=W;clear L W Y u J g1
     go_wp2;exact yY5 HM.out HY.out HD.out H.out (by rw[HC.out]) V
  ·obtain rfl:i=na:=ω;have hE:Mk w wr (i+nb) (dg (x*y)):=by
    have e:x % B^i=x:=kB2 (by rw[←HX.out];exact qY5 x)
    rw[e] at F;exact F
   have hA:=hE.at;have hL:dlen (x*y)≤i+nb:=by
    have h1:=zB3 x y i;rw[kB2 (by rw[←HX.out];exact qY5 x),HY.out] at h1
    exact(qZ3 _ _).2 h1
   have HC:Hid _:=hE;have qQ:=r40 (some ⟨w.heap.size,0,none⟩) (i+nb) (i+nb) (x*y) wr hL lR ω hA;clear F u J hE hA
   go_wp2_with (first|(go_at_call 168;refine qQ.mono ?_;rintro e w' ⟨rfl,rfl⟩))
   go_ret;exact⟨_,rfl,HC.out.own hL ω,HC.out.below⟩
theorem xK3 (ao V:Option Addr) (na nb J Y:Nat) (w:World) (h:na=0∨nb=0) :
  Ca 104 #[.slice ao na J,.slice V nb Y] w fun e w'=>e=.returned (.slice none 0 0)∧w'=w:=by
 by_cases u:na=0
 ·subst u
  go_enter Tryz.func104,Tryz.ntmps104
  go_wp2
  go_ret;exact⟨rfl,rfl⟩
 ·obtain rfl:nb=0:=h.resolve_left u;have H:((na:Int)==0)=false:=by simp;omega
  go_enter Tryz.func104,Tryz.ntmps104
  go_wp2
  go_ret;exact⟨rfl,rfl⟩
theorem rprod {u v:Value} {x y:Nat} {w:World} (C:Ir w u x) (W:Ir w v y) (hx:dlen x≤1000000000) (L:dlen y≤1000000000) :
  Ca 104 #[u,v] w fun e w'=>∃ v,e=.returned v∧Own w' w.heap.size v (x*y)∧Bw w w':=by
 obtain⟨ao,H,rfl,a1,ba,T,a3,a4⟩:=C;obtain⟨F,V,rfl,b1,I,D,b3,b4⟩:=W;by_cases h:x=0∨y=0
 ·refine(xK3 ao F _ _ H V w (h.imp (fun e=>by rw[e,qQ5]) (fun e=>by rw[e,qQ5]))).mono ?_
  rintro e w' ⟨rfl,rfl⟩;refine⟨_,rfl,.inl ⟨rfl,?_⟩,kH9 _ _⟩
  rcases h with h|h <;> rw[h] <;> simp
 ·have J:0<dlen x:=kB0 fun e=>h (.inl (qQ8.1 e));have Y:0<dlen y:=kB0 fun e=>h (.inr (qQ8.1 e));exact xK2 ao F ba T I D _ _ H V x y w (a3 J) (b3 Y) J Y hx L rfl rfl a4 b4
theorem xL1 (ao D:Option Addr) (na nb F H:Nat) (w:World) (h:na≠nb) (J:na≤1000000000) (Y:nb≤1000000000) :
  Ca 149 #[.slice ao na F,.slice D nb H] w fun e w'=>e=.returned (iV (cmpI na nb))∧w'=w:=by
 have V:((na:Int) != (nb:Int))=true:=by simp;omega
 unfold cmpI;by_cases u:(na:Int)<(nb:Int)
 ·rw[kU6 u]
  go_enter Tryz.func149,Tryz.ntmps149
  go_wp2
  go_ret;exact⟨rfl,rfl⟩
 ·rw[kU5 u,kU6 ω]
  go_enter Tryz.func149,Tryz.ntmps149
  go_wp2
  go_ret;exact⟨rfl,rfl⟩
theorem xL0 (ao bo:Option Addr) (ba T I D n ca cb x y:Nat) (w:World) (ha:0<n→ao=some ⟨ba,T,none⟩) (hb:0<n→bo=some ⟨I,D,none⟩) (hn:n≤1000000000) (hx:dlen x=n) (hy:dlen y=n)
  (H:∀ i,i<n→w.cell? ⟨ba,T+i,none⟩=some (.int .u32 (dg x i:Nat))) (V:∀ i,i<n→w.cell? ⟨I,D+i,none⟩=some (.int .u32 (dg y i:Nat))) :
  Ca 149 #[.slice ao n ca,.slice bo n cb] w fun e w'=>e=.returned (iV (cmpI x y))∧∃ d,w'=w.drewN d:=by
 have qU:((n:Int) != (n:Int))=false:=by simp
 have qQ:Hid _:=And.intro hx hy;clear hx hy
 go_enter Tryz.func149,Tryz.ntmps149
 go_wp2
 go_loopw [5] (fun i wr=>∃ (j d:Nat),j≤n∧i=iV ((j:Int) - 1)∧wr=w.drewN d∧Hid (x / B^j=y / B^j)) (fun i _=>(intOf i+1).toNat)
 case atStart=>exact⟨n,0,kH8 _,rfl,rfl,(by rw[Nat.div_eq_of_lt ((qZ3 n x).1 (by rw[qQ.out.1];omega)),Nat.div_eq_of_lt ((qZ3 n y).1 (by rw[qQ.out.2];omega))]:x / B^n=y / B^n)⟩
 case round =>
  obtain⟨j,d,hj,rfl,rfl,L⟩:=hrel;by_cases qY:j=0
  ·subst qY;have e:x=y:=by have:=L.out;simpa using this
   have HE:Hid (cmpI x y=0):=(by subst e;unfold cmpI;simp:cmpI x y=0)
   clear L e H V
   go_wp2
   go_ret;rw[HE.out];exact⟨rfl,d,rfl⟩
  ·obtain⟨i,rfl⟩:∃ i,j=i+1:=⟨j - 1,ω⟩;have hi:i<n:=ω;obtain rfl:=ha ω;obtain rfl:=hb ω;have g1:(w.drewN d).cell? ⟨ba,T+i,none⟩=some (.int .u32 (dg x i:Nat)):=H i hi;have g2:(w.drewN d).cell? ⟨I,D+i,none⟩=some (.int .u32 (dg y i:Nat)):=V i hi;have qV:(i:Int)<(n:Int):=ω;have ei:((i+1:Nat):Int) - 1=(i:Int):=ω;rw[ei];generalize C:dg x i=Y at *;generalize W:dg y i=F at *;have HD:Hid _:=And.intro C W;clear H V C W ei;have HW:Hid (∃ u,w.drewN d=w.drewN u):=⟨d,rfl⟩;generalize w.drewN d=J at *;by_cases qZ:Y=F
   ·subst qZ;have t1:((Y:Int) != (Y:Int))=false:=by simp
    go_wp2
    go_quiet (fail)
    go_wp2;obtain⟨u,rfl⟩:=HW.out;exact⟨⟨i,_,ω,rfl,World.drewN_drewN ..,(zD4 L.out (HD.out.1.trans HD.out.2.symm):x / B^i=y / B^i)⟩,by simp[intOf]⟩
   ·have t1:((Y:Int) != (F:Int))=true:=by simp;omega
    by_cases qJ:Y<F
    ·have t2:(Y:Int)<(F:Int):=ω;have HC:Hid (cmpI x y = -1):=by
      have h1:=HD.out;have:=qR5 (i:=i) L.out ω
      show cmpI x y = -1
      unfold cmpI;rw[kU6 ω]
     go_wp2
     go_quiet (fail)
     go_wp2;have HV:Hid (∃ u,J.drewN nq=w.drewN u):=by
      obtain⟨u,e⟩:=HW.out;exact⟨_,by rw[e];exact World.drewN_drewN ..⟩
     have qK:(J.drewN nq).cell? ⟨ba,T+i,none⟩=some (.int .u32 (Y:Nat)):=g1;have qX:(J.drewN nq).cell? ⟨I,D+i,none⟩=some (.int .u32 (F:Nat)):=g2;generalize J.drewN nq=wq at *
     go_quiet (fail)
     go_wp2
     go_ret;obtain⟨u,e⟩:=HV.out;rw[HC.out,e];exact⟨rfl,_,World.drewN_drewN ..⟩
    ·have t2:¬ (Y:Int)<(F:Int):=ω;have HC:Hid (cmpI x y=1):=by
      have h1:=HD.out;have:=qR5 (i:=i) L.out.symm ω
      show cmpI x y=1
      unfold cmpI;rw[kU5 ω,kU6 ω]
     go_wp2
     go_quiet (fail)
     go_wp2;have HV:Hid (∃ u,J.drewN nq=w.drewN u):=by
      obtain⟨u,e⟩:=HW.out;exact⟨_,by rw[e];exact World.drewN_drewN ..⟩
     have qK:(J.drewN nq).cell? ⟨ba,T+i,none⟩=some (.int .u32 (Y:Nat)):=g1;have qX:(J.drewN nq).cell? ⟨I,D+i,none⟩=some (.int .u32 (F:Nat)):=g2;generalize J.drewN nq=wq at *
     go_quiet (fail)
     go_wp2
     go_ret;obtain⟨u,e⟩:=HV.out;rw[HC.out,e];exact⟨rfl,_,World.drewN_drewN ..⟩
theorem rord {u v:Value} {x y:Nat} {w:World} (C:Ir w u x) (Y:Ir w v y) (hx:dlen x≤1000000000) (W:dlen y≤1000000000) :
  Ca 149 #[u,v] w fun e w'=>e=.returned (iV (cmpI x y))∧∃ d,w'=w.drewN d:=by
 obtain⟨ao,V,rfl,a1,ba,L,a3,a4⟩:=C;obtain⟨H,J,rfl,b1,I,T,D,F⟩:=Y;by_cases h:dlen x=dlen y
 ·rw[←h] at D F ⊢;exact xL0 ao H ba L I T _ V J x y w a3 D hx rfl h.symm a4 F
 ·refine(xL1 ao H _ _ V J w h hx W).mono ?_
  rintro e w' ⟨rfl,rfl⟩;refine⟨kU7 Ending.returned (kU7 (Value.int IntKind.i64) ?_),0,rfl⟩
  unfold cmpI;rcases Nat.lt_or_gt_of_ne h with Y|Y
  ·have:=qM8 Y
   rw[kU6 ω,kU6 ω]
  ·have:=qM8 Y
   rw[kU5 ω,kU6 ω,kU5 ω,kU6 ω]
theorem qH8 {w wr w':World} {j z:Nat} {q:Int} {v J:Value} (V:q=(dg z j:Nat)) (Y:Bw w wr) (H:wr.ownsRow w.heap.size 96 1 v j (cells z j))
  (u:w'.ownsRow w.heap.size 96 1 J (j+1) (cells z j ++ [.int .u32 q])) (D:(wr.alloc (.cells #[.int .u32 q] 96)).grownBy w' v.ownBlock) :
  w'.ownsRow w.heap.size 96 1 J (j+1) (cells z (j+1))∧Bw w w' :=
 ⟨by rw[qL8,←V];exact u,(Y.alloc Y.size _).grown D (by simp;have:=Y.size;omega) (fun k F=>(H.lt k F).1)⟩
theorem yL6 {x y n:Nat} (hx:x<B^n) (u:y<B^n):addc x y n=(x+y) / B^n:=by
 unfold addc;rw[kB2 hx,kB2 u]
theorem xT5 (ao bo:Option Addr) (ba oa bb ob na nb ca cb x y N:Nat) (w:World) (ha:0<na→ao=some ⟨ba,oa,none⟩) (hb:0<nb→bo=some ⟨bb,ob,none⟩) (hN:N=max na nb) (zQ:N≤1000000000) (hx:dlen x=na) (hy:dlen y=nb)
  (qR:∀ i,i<na→w.cell? ⟨ba,oa+i,none⟩=some (.int .u32 (dg x i:Nat))) (qS:∀ i,i<nb→w.cell? ⟨bb,ob+i,none⟩=some (.int .u32 (dg y i:Nat))) :
  Ca 148 #[.slice ao na ca,.slice bo nb cb] w fun e w'=>∃ v,e=.returned v∧Ir w' v (x+y)∧Bw w w':=by
 have qV:Hid _:=aI3 hx hy hN;have qL:Hid _:=qR;have qU:Hid _:=qS;have zZ:na≤N:=ω;have qA:nb≤N:=ω;clear hx hy qR qS hN
 go_enter Tryz.func148,Tryz.ntmps148
 go_wp2
 go_loopw [5,6,7] (fun v c i wr=>∃ j:Nat,j≤N∧c=.int .u64 (addc x y j:Nat)∧i=iV j∧wr.ownsRow w.heap.size 96 1 v j (cells (x+y) j)∧Bw w wr) (fun _ _ i _=>N - (intOf i).toNat)
 case atStart=>exact⟨0,kB4 _,by rw[qN9];rfl,rfl,World.ownsRow_nil ..,kH9 _ _⟩
 case round =>
  obtain⟨j,hj,rfl,rfl,ho,hB⟩:=hrel;have HO:Hid _:=ho;have HB:Hid _:=hB;have qO:=hB.size;have HL:Hid (dg x j<B∧dg y j<B∧addc x y j≤1):=⟨qX1 _ _,qX1 _ _,qF3 _ _ _⟩;by_cases qI:j<N
  ·-- what comes to the carry, from both
   have T:∀ (dx dy c Q:Nat),dg x j=dx→dg y j=dy→addc x y j=c→Q=c+dx+dy→((Q:Int) % 4294967296=(dg (x+y) j:Nat))∧((Q:Int) / 4294967296=(addc x y (j+1):Nat)):=by
    rintro dx dy c Q rfl rfl rfl rfl;rw[qR8,qT1];unfold B;omega
   have qN:Hid _:=T;obtain⟨i0,qX,qZ,qQ,I⟩:=info_parts Tryz.info96;have D:∀ q:Int,0≤q→q<18446744073709551616→IntKind.u64.wrap q=q:=fun q h1 h2=>by rw[kB6];omega
   by_cases qM:j<na
   ·obtain rfl:=ha ω;have g1:=(hB.cell (World.block_lt_of_cell? _ _ (qL.out j qM))).trans (qL.out j qM);have qW:(j:Int)<(na:Int):=ω;by_cases qY:j<nb
    ·obtain rfl:=hb ω;have g4:=(hB.cell (World.block_lt_of_cell? _ _ (qU.out j qY))).trans (qU.out j qY);have qG:(j:Int)<(nb:Int):=ω;generalize hd:dg x j=d at *;generalize L:dg y j=d1 at *;generalize hc:addc x y j=c at *;obtain⟨K,hK⟩:∃ K:Nat,K=c+d:=⟨_,rfl⟩;obtain⟨Q,hQ⟩:∃ Q:Nat,Q=c+d+d1:=⟨_,rfl⟩;have w1:=qX3 HL.out.1;have w2:=qX3 HL.out.2.1;have hl:=HL.out;unfold B at hl;have w3:IntKind.u64.wrap ((c:Int)+(d:Int))=(K:Int):=by rw[D _ ω ω];omega
     have w4:IntKind.u64.wrap ((K:Int)+(d1:Int))=(Q:Int):=by rw[D _ ω ω];omega
     have HD:Hid ((Q:Int) % 4294967296=(dg (x+y) j:Nat)∧(Q:Int) / 4294967296=(addc x y (j+1):Nat)):=qN.out d d1 c Q rfl rfl rfl hQ;clear hd L hc hB hl T D hK hQ
     go_wp2_with (at_builtin;refine wpList_append_own _ rfl _ _ 48 rfl w.heap.size 96 i0 (.int .u32 0) 1 4 Tryz.underlying48 qX qZ qQ I rfl δ _ _ _ rfl (ho.alloc _) ⟨wr.heap.size,0,none⟩ 1 1 [.int .u32 ((Q:Int) % 4294967296)] rfl rfl (cell_one_new _ _ _) (by intro u hu;simp at hu;subst hu;rfl) (by unfold maxLen;omega) ω (by simp;omega) ?_)
     intro v' w5 Y J _;obtain⟨C,W⟩:=qH8 HD.out.1 HB.out HO.out Y J;have HR:Hid _:=And.intro C W;clear Y J C W ho
     go_wp2;exact⟨⟨j+1,ω,by rw[HD.out.2],by simp,HR.out⟩,by simp[intOf];omega⟩
    ·have qG:¬ (j:Int)<(nb:Int):=ω;have L:dg y j=0:=qK7 (by rw[qV.out.2.1];omega)
     generalize hd:dg x j=d at *;generalize hc:addc x y j=c at *;obtain⟨Q,hQ⟩:∃ Q:Nat,Q=c+d+0:=⟨_,rfl⟩;have w1:=qX3 HL.out.1;have hl:=HL.out;unfold B at hl;have w3:IntKind.u64.wrap ((c:Int)+(d:Int))=(Q:Int):=by rw[D _ ω ω];omega
     have HD:Hid ((Q:Int) % 4294967296=(dg (x+y) j:Nat)∧(Q:Int) / 4294967296=(addc x y (j+1):Nat)):=qN.out d 0 c Q rfl L rfl hQ;clear hd L hc hB hl T D hQ
     go_wp2_with (at_builtin;refine wpList_append_own _ rfl _ _ 48 rfl w.heap.size 96 i0 (.int .u32 0) 1 4 Tryz.underlying48 qX qZ qQ I rfl δ _ _ _ rfl (ho.alloc _) ⟨wr.heap.size,0,none⟩ 1 1 [.int .u32 ((Q:Int) % 4294967296)] rfl rfl (cell_one_new _ _ _) (by intro u hu;simp at hu;subst hu;rfl) (by unfold maxLen;omega) ω (by simp;omega) ?_)
     intro v' w5 Y J _;obtain⟨C,W⟩:=qH8 HD.out.1 HB.out HO.out Y J;have HR:Hid _:=And.intro C W;clear Y J C W ho
     go_wp2;exact⟨⟨j+1,ω,by rw[HD.out.2],by simp,HR.out⟩,by simp[intOf];omega⟩
   ·have qW:¬ (j:Int)<(na:Int):=ω;have qY:j<nb:=by have:=qV.out.2.2;omega
    obtain rfl:=hb ω;have g4:=(hB.cell (World.block_lt_of_cell? _ _ (qU.out j qY))).trans (qU.out j qY);have qG:(j:Int)<(nb:Int):=ω;have hd:dg x j=0:=qK7 (by rw[qV.out.1];omega)
    generalize L:dg y j=d1 at *;generalize hc:addc x y j=c at *;obtain⟨Q,hQ⟩:∃ Q:Nat,Q=c+0+d1:=⟨_,rfl⟩;have w2:=qX3 HL.out.2.1;have hl:=HL.out;unfold B at hl;have w4:IntKind.u64.wrap ((c:Int)+(d1:Int))=(Q:Int):=by rw[D _ ω ω];omega
    have HD:Hid ((Q:Int) % 4294967296=(dg (x+y) j:Nat)∧(Q:Int) / 4294967296=(addc x y (j+1):Nat)):=qN.out 0 d1 c Q hd rfl rfl hQ;clear hd L hc hB hl T D hQ
    go_wp2_with (at_builtin;refine wpList_append_own _ rfl _ _ 48 rfl w.heap.size 96 i0 (.int .u32 0) 1 4 Tryz.underlying48 qX qZ qQ I rfl δ _ _ _ rfl (ho.alloc _) ⟨wr.heap.size,0,none⟩ 1 1 [.int .u32 ((Q:Int) % 4294967296)] rfl rfl (cell_one_new _ _ _) (by intro u hu;simp at hu;subst hu;rfl) (by unfold maxLen;omega) ω (by simp;omega) ?_)
    intro v' w5 Y J _;obtain⟨C,W⟩:=qH8 HD.out.1 HB.out HO.out Y J;have HR:Hid _:=And.intro C W;clear Y J C W ho
    go_wp2;exact⟨⟨j+1,ω,by rw[HD.out.2],by simp,HR.out⟩,by simp[intOf];omega⟩
  ·obtain rfl:j=N:=ω;have qE:¬ (j:Int)<(na:Int):=ω;have qC:¬ (j:Int)<(nb:Int):=ω;obtain⟨l1,l2,l3⟩:=qV.out;have qF:x<B^j:=(qZ3 j x).1 ω;have qH:y<B^j:=(qZ3 j y).1 ω;have V:=yL6 qF qH;have qT:=HL.out.2.2;by_cases qJ:addc x y j=0
   ·have H:dlen (x+y)=j:=by
     have h1:x+y<B^j:=by
      rw[qJ] at V;exact(Nat.div_eq_zero_iff.1 V.symm).resolve_left (by have:=qZ2 j;omega)
     have h2:dlen (x+y)≤j:=(qZ3 _ _).2 h1;have h3:dlen x≤dlen (x+y):=qZ5 ω;have h4:dlen y≤dlen (x+y):=qZ5 ω;omega
    rw[qJ];obtain⟨qK,F,rfl,qD,hA⟩:=qV4 ho;have HR:Hid (Ir wr (.slice qK j F) (x+y)):=⟨qK,F,by rw[H],ω,by rw[H];exact hA⟩
    clear ho hB H V qF qH l1 l2 l3 hA qJ qT
    go_wp2
    go_ret;exact⟨_,rfl,HR.out,HB.out⟩
   ·have hc:addc x y j=1:=ω;have H:dlen (x+y)=j+1:=by
     have h1:B^j≤x+y:=by
      rw[hc] at V;refine Nat.le_of_not_lt fun h=>?_;rw[Nat.div_eq_of_lt h] at V;omega
     have h2:¬ dlen (x+y)≤j:=fun h=>by have:=(qZ3 _ _).1 h;omega
     have h3:=qJ7 x y;omega
    have qP:dg (x+y) j=1:=by
     rw[qR8,qK7 (x:=x) ω,qK7 (x:=y) ω,hc];decide
    have HD:Hid ((1:Int)=(dg (x+y) j:Nat)):=(by rw[qP];rfl:(1:Int)=(dg (x+y) j:Nat))
    have qB:Hid _:=H;rw[hc];obtain⟨i0,qX,qZ,qQ,I⟩:=info_parts Tryz.info96;clear hB H V qF qH l1 l2 l3 qJ qT hc qP
    go_wp2_with (at_builtin;refine wpList_append_own _ rfl _ _ 48 rfl w.heap.size 96 i0 (.int .u32 0) 1 4 Tryz.underlying48 qX qZ qQ I rfl δ _ _ _ rfl (ho.alloc _) ⟨wr.heap.size,0,none⟩ 1 1 [.int .u32 1] rfl rfl (cell_one_new _ _ _) (by intro u hu;simp at hu;subst hu;rfl) (by unfold maxLen;omega) ω (by simp;omega) ?_)
    intro v' w5 Y J _;obtain⟨C,W⟩:=qH8 HD.out HB.out HO.out Y J;obtain⟨qK,F,rfl,qD,hA⟩:=qV4 C;have HR:Hid (Ir w5 (.slice qK (j+1) F) (x+y)∧Bw w w5):=⟨⟨qK,F,by rw[qB.out],by rw[qB.out];omega,by rw[qB.out];exact hA⟩,W⟩
    clear Y J C W ho hA qD
    go_wp2
    go_ret;exact⟨_,rfl,HR.out⟩
theorem rsum {u v:Value} {x y:Nat} {w:World} (H:Ir w u x) (V:Ir w v y) (hx:dlen x≤1000000000) (hy:dlen y≤1000000000) :
  Ca 148 #[u,v] w fun e w'=>∃ v,e=.returned v∧Ir w' v (x+y)∧Bw w w':=by
 obtain⟨ao,D,rfl,a1,W,J,a3,a4⟩:=H;obtain⟨T,F,rfl,b1,L,Y,I,C⟩:=V;exact xT5 ao T W J L Y _ _ D F x y _ w a3 I rfl ω rfl rfl a4 C
theorem xK7 (ao bo:Option Addr) (ba oa bb ob na nb ca cb x y:Nat) (w:World) (ha:0<na→ao=some ⟨ba,oa,none⟩) (hb:0<nb→bo=some ⟨bb,ob,none⟩) (qR:na≤1000000000) (hx:dlen x=na) (hy:dlen y=nb) (D:y≤x)
  (qG:∀ i,i<na→w.cell? ⟨ba,oa+i,none⟩=some (.int .u32 (dg x i:Nat))) (qU:∀ i,i<nb→w.cell? ⟨bb,ob+i,none⟩=some (.int .u32 (dg y i:Nat))) :
  Ca 150 #[.slice ao na ca,.slice bo nb cb] w fun e w'=>∃ v,e=.returned v∧Ir w' v (x - y)∧Bw w w':=by
 have qS:nb≤na:=by have:=qZ5 D;omega
 have qH:Hid _:=And.intro hx hy;have qD:Hid (wsub x y na=x - y):=qM3 (by rw[←hx];exact qY5 x) D
 have qN:Hid _:=qG;have qB:Hid _:=qU;clear hx hy qG qU D
 go_enter Tryz.func150,Tryz.ntmps150
 go_wp2
 go_loopw [5,6,7] (fun v c i wr=>∃ j:Nat,j≤na∧c=.int .u64 (subb x y j:Nat)∧i=iV j∧wr.ownsRow w.heap.size 96 1 v j (cells (x - y) j)∧Bw w wr) (fun _ _ i _=>na - (intOf i).toNat)
 case atStart=>exact⟨0,kB4 _,by rw[qS1];rfl,rfl,World.ownsRow_nil ..,kH9 _ _⟩
 case round =>
  obtain⟨j,hj,rfl,rfl,F,L⟩:=hrel;have HO:Hid _:=F;have HB:Hid _:=L;have qL:=L.size;by_cases T:j<na
  ·have HL:Hid (dg x j<B∧dg y j<B∧subb x y j≤1):=⟨qX1 _ _,qX1 _ _,qT9 _ _ _⟩;have qF:Hid (∀ (dx dy c:Nat) (Q:Int),dg x j=dx→dg y j=dy→subb x y j=c→Q=((dx:Int) - c - dy) % 18446744073709551616→(Q % 4294967296=(dg (x - y) j:Nat))∧(Q / 9223372036854775808=(subb x y (j+1):Nat))):=by
    intro dx dy c Q e1 e2 e3 e4;have h1:dg (x - y) j=(dg x j+B+B - dg y j - subb x y j) % B:=by rw[←qD.out,qA5 T]
    have h2:=qN1 x y j;obtain⟨l1,l2,l3⟩:=HL.out;rw[e1,e2,e3] at h1 h2;rw[e1] at l1;rw[e2] at l2;rw[e3] at l3;unfold B at *;rw[h1,h2];by_cases qX:dx<dy+c
    ·rw[kU6 qX];omega
    ·rw[kU5 qX];omega
   obtain rfl:=ha ω;have g1:=(L.cell (World.block_lt_of_cell? _ _ (qN.out j T))).trans (qN.out j T);have qT:(j:Int)<(na:Int):=ω;obtain⟨i0,qV,qY,qZ,qQ⟩:=info_parts Tryz.info96;by_cases qJ:j<nb
   ·obtain rfl:=hb ω;have g4:=(L.cell (World.block_lt_of_cell? _ _ (qB.out j qJ))).trans (qB.out j qJ);have qK:(j:Int)<(nb:Int):=ω;generalize hd:dg x j=d at *;generalize H:dg y j=d1 at *;generalize hc:subb x y j=c at *;obtain⟨K,hK⟩:∃ K:Int,K=((d:Int) - c) % 18446744073709551616:=⟨_,rfl⟩;obtain⟨Q,hQ⟩:∃ Q:Int,Q=((d:Int) - c - d1) % 18446744073709551616:=⟨_,rfl⟩;have w1:=qX3 HL.out.1;have w2:=qX3 HL.out.2.1;have w3:IntKind.u64.wrap ((d:Int) - (c:Int))=K:=by rw[kB6];omega
    have w4:IntKind.u64.wrap (K - (d1:Int))=Q:=by rw[kB6];omega
    have HD:Hid (Q % 4294967296=(dg (x - y) j:Nat)∧Q / 9223372036854775808=(subb x y (j+1):Nat)):=qF.out d d1 c Q rfl rfl rfl hQ;clear hd H hc L hK hQ
    go_wp2_with (at_builtin;refine wpList_append_own _ rfl _ _ 48 rfl w.heap.size 96 i0 (.int .u32 0) 1 4 Tryz.underlying48 qV qY qZ qQ rfl δ _ _ _ rfl (F.alloc _) ⟨wr.heap.size,0,none⟩ 1 1 [.int .u32 (Q % 4294967296)] rfl rfl (cell_one_new _ _ _) (by intro u hu;simp at hu;subst hu;rfl) (by unfold maxLen;omega) ω (by simp;omega) ?_)
    intro v' w5 Y J _;obtain⟨I,C⟩:=qH8 HD.out.1 HB.out HO.out Y J;have HR:Hid _:=And.intro I C;clear Y J I C F
    go_wp2;exact⟨⟨j+1,ω,by rw[HD.out.2],by simp,HR.out⟩,by simp[intOf];omega⟩
   ·have qK:¬ (j:Int)<(nb:Int):=ω;have H:dg y j=0:=qK7 (by rw[qH.out.2];omega)
    generalize hd:dg x j=d at *;generalize hc:subb x y j=c at *;obtain⟨Q,hQ⟩:∃ Q:Int,Q=((d:Int) - c - ((0:Nat):Int)) % 18446744073709551616:=⟨_,rfl⟩;have w1:=qX3 HL.out.1;have w3:IntKind.u64.wrap ((d:Int) - (c:Int))=Q:=by rw[kB6];omega
    have HD:Hid (Q % 4294967296=(dg (x - y) j:Nat)∧Q / 9223372036854775808=(subb x y (j+1):Nat)):=qF.out d 0 c Q rfl H rfl hQ;clear hd H hc L hQ
    go_wp2_with (at_builtin;refine wpList_append_own _ rfl _ _ 48 rfl w.heap.size 96 i0 (.int .u32 0) 1 4 Tryz.underlying48 qV qY qZ qQ rfl δ _ _ _ rfl (F.alloc _) ⟨wr.heap.size,0,none⟩ 1 1 [.int .u32 (Q % 4294967296)] rfl rfl (cell_one_new _ _ _) (by intro u hu;simp at hu;subst hu;rfl) (by unfold maxLen;omega) ω (by simp;omega) ?_)
    intro v' w5 Y J _;obtain⟨I,C⟩:=qH8 HD.out.1 HB.out HO.out Y J;have HR:Hid _:=And.intro I C;clear Y J I C F
    go_wp2;exact⟨⟨j+1,ω,by rw[HD.out.2],by simp,HR.out⟩,by simp[intOf];omega⟩
  ·obtain rfl:j=na:=ω;obtain⟨W,V,rfl,qP,hA⟩:=qV4 F;have hL:dlen (x - y)≤j:=by have:=qH.out.1;rw[←this];exact qZ5 (Nat.sub_le ..)
   have HR:Hid (Ir wr (.slice W (dlen (x - y)) V) (x - y)):=⟨W,V,rfl,ω,qF0 hA hL⟩;have qM:=r40 W j V (x - y) wr hL qP ω hA;generalize subb x y j=c at *;clear F L hA
   go_wp2_with (first|(go_at_call 168;refine qM.mono ?_;rintro e w' ⟨rfl,rfl⟩))
   go_ret;exact⟨_,rfl,HR.out,HB.out⟩
theorem xL8 {u v:Value} {x y:Nat} {w:World} (F:Ir w u x) (H:Ir w v y) (hx:dlen x≤1000000000) (Y:y≤x) :
  Ca 150 #[u,v] w fun e w'=>∃ v,e=.returned v∧Ir w' v (x - y)∧Bw w w':=by
 obtain⟨ao,T,rfl,a1,C,V,a3,a4⟩:=F;obtain⟨L,D,rfl,b1,W,J,b3,I⟩:=H;exact xK7 ao L C V W J _ _ T D x y w a3 b3 hx rfl rfl Y a4 I
theorem yD5 {w:World} {z n:Nat} (u:n≤maxLen) (h:∀ i,i<n→dg z i=0):(w.alloc (.cells (madeCells #[.int .u32 0] n) 96)).ownsRow w.heap.size 96 1 (.slice (some ⟨w.heap.size,0,none⟩) n n) n (cells z n):=by
 obtain⟨c,J,V,Y⟩:=World.rowIs_made w (.int .u32 0) n 96;refine⟨by rw[qX6,kM1],.inr ⟨w.heap.size,n,c,rfl,kH8 _,J,kH8 _,u,ω,?_⟩⟩
 apply List.ext_getElem?
 intro i;rw[kM1,List.getElem?_take];by_cases hi:i<n
 ·rw[kU6 hi,Array.getElem?_toList,Y i hi,qJ8 hi,h i hi];rfl
 ·rw[kU5 hi,List.getElem?_eq_none (by rw[qX6];omega)]
theorem xZ9 {d c p:Nat} (J:d<B) (Y:p<32) (V:c<2^p):bits .or .u64 (IntKind.u64.wrap (IntKind.u64.wrap (d:Int)*2^p)) (IntKind.u64.wrap (c:Int))=((c+d*2^p:Nat):Int):=by
 have F:=zZ9 J Y;have H:=qV2 Y;have D:=qN3 J H;have u:c<B:=by unfold B;omega
 rw[F,qX3 u,u64_or_nat _ _ ω (by unfold B at u;omega),qO7 (p:=p) (Nat.mul_mod_left ..) V,kH5]
theorem rup_1 (b o cap n x k Y J:Nat) (w:World) (qS:0<n) (hn:n≤1000000000) (hk:k≤1000000000) (D:k / 32=Y) (C:k % 32=J) (hx:dlen x=n) (L:∀ i,i<n→w.cell? ⟨b,o+i,none⟩=some (.int .u32 (dg x i:Nat))) :
  Calls Tryz.prog 101 #[.slice (some ⟨b,o,none⟩) n cap,.int .i64 k] w fun e w'=>∃ v,e=.returned v∧Ir w' v (x*2^k)∧Bw w w':=by
 have hq:(k:Int).tdiv 32=((k / 32:Nat):Int):=by rw[kG6 ω];rfl
 have hr:(k:Int).tmod 32=((k % 32:Nat):Int):=by rw[Int.tmod_eq_emod_of_nonneg ω];rfl
 rw[D] at hq;rw[C] at hr;have qD:Y≤1000000000:=ω;have qQ:J<32:=ω;have qM:=run_make_row' (P:=Tryz.prog) 48 96 (.int .u32 0) 4 Tryz.underlying48 Tryz.info96 rfl .i64 .i64 Y ω ω;have qP:((n:Int)==0)=false:=by simp;omega
 have HN:Hid (dlen x=n∧k / 32=Y∧k % 32=J):=⟨hx,D,C⟩;have HZ:Hid (∀ i,i<Y→dg (x*2^k) i=0):=fun i hi=>by rw[qF6,D,zQ5 hi]
 have qB:Hid (∀ i,i<n→w.cell? ⟨b,o+i,none⟩=some (.int .u32 (dg x i:Nat))):=L;have qF:Hid (∀ j,dg (x*2^k) (Y+j)=(mulc x (2^J) j+dg x j*2^J) % B):=fun j=>by rw[qF6,D,C,yU3,qA6]
 clear hx D C L
 go_enter Tryz.func101,Tryz.ntmps101
 go_wp2;clear qM
 go_loopw [5,7,8] (fun v c i wr=>∃ j:Nat,j≤n∧c=.int .u32 (mulc x (2^J) j:Nat)∧i=.int .i64 j∧wr.ownsRow w.heap.size 96 1 v (Y+j) (cells (x*2^k) (Y+j))∧Bw w wr) (fun _ _ i _=>n - (intOf i).toNat)
 case atStart=>exact⟨0,kB4 _,by rw[qR2];rfl,rfl,yD5 (by unfold maxLen;omega) HZ.out,bR.alloc lR _⟩
 case round =>
  obtain⟨j,hj,rfl,rfl,ho,hB⟩:=hrel;have HO:Hid (wr.ownsRow w.heap.size 96 1 u5 (Y+j) (cells (x*2^k) (Y+j))):=ho;have HB:Hid (Bw w wr):=hB;have qT:w.heap.size≤wr.heap.size:=hB.size;obtain⟨i0,qG,qJ,qK,qX⟩:=info_parts Tryz.info96;by_cases qU:j<n
  ·have g1:=(hB.cell (World.block_lt_of_cell? _ _ (qB.out j qU))).trans (qB.out j qU);have qR:(j:Int)<(n:Int):=ω;have I:=zX7 (x:=x) (i:=j) (kF3 J);have qZ:=qX1 x j;have F:=qF.out j;have qV:=qR3 x (2^J) j;have h2:=qV2 qQ;generalize hd:dg x j=d at *;generalize hc:mulc x (2^J) j=c at *;have h3:=qN3 qZ h2;obtain⟨T,hT⟩:∃ T:Nat,T=c+d*2^J:=⟨_,rfl⟩;have w1:bits .or .u64 (IntKind.u64.wrap (IntKind.u64.wrap (d:Int)*2^J)) (IntKind.u64.wrap (c:Int))=(T:Int):=by rw[hT];exact xZ9 qZ qQ I
   have HD:Hid ((T:Int) % 4294967296=(dg (x*2^k) (Y+j):Nat)∧(T:Int) / 4294967296 % 4294967296=(mulc x (2^J) (j+1):Nat)):=by
    refine⟨?_,?_⟩
    ·rw[F,←hT];unfold B;omega
    ·rw[qV,←hT];unfold B;omega
   clear hd hc hB I qZ F qV h2 h3 hT
   go_wp2_with (at_builtin;refine wpList_append_own _ rfl _ _ 48 rfl w.heap.size 96 i0 (.int .u32 0) 1 4 Tryz.underlying48 qG qJ qK qX rfl δ _ _ _ rfl (ho.alloc _) ⟨wr.heap.size,0,none⟩ 1 1 [.int .u32 ((T:Int) % 4294967296)] rfl rfl (cell_one_new _ _ _) (by intro u hu;simp at hu;subst hu;rfl) (by unfold maxLen;omega) ω (by simp;omega) ?_)
   intro v' w5 V H _;obtain⟨r1,r2⟩:=qH8 HD.out.1 HB.out HO.out V H;have HR:Hid (w5.ownsRow w.heap.size 96 1 v' (Y+(j+1)) (cells (x*2^k) (Y+(j+1)))∧Bw w w5):=⟨r1,r2⟩;clear V H r1 r2 ho
   go_wp2;exact⟨⟨j+1,ω,by rw[HD.out.2],by simp,HR.out⟩,by simp[intOf];omega⟩
  ·obtain rfl:j=n:=ω;have I:=zX7 (x:=x) (i:=j) (kF3 J);have F:=qF.out j;rw[qK7 (x:=x) (i:=j) (by rw[HN.out.1];omega),Nat.zero_mul,kH7] at F
   have h2:=qV2 qQ;have hL:dlen (x*2^k)≤Y+j+1:=by have:=qK2 (k:=k) HN.out.1;rw[HN.out.2.1] at this;exact this
   generalize hc:mulc x (2^J) j=c at *;have HD:Hid ((c:Int)=(dg (x*2^k) (Y+j):Nat)):=(by rw[F];unfold B;omega:(c:Int)=(dg (x*2^k) (Y+j):Nat))
   have HL:Hid (dlen (x*2^k)≤Y+j+1):=hL;clear hc hB I F h2 hL
   go_wp2_with (at_builtin;refine wpList_append_own _ rfl _ _ 48 rfl w.heap.size 96 i0 (.int .u32 0) 1 4 Tryz.underlying48 qG qJ qK qX rfl δ _ _ _ rfl (ho.alloc _) ⟨wr.heap.size,0,none⟩ 1 1 [.int .u32 (c:Int)] rfl rfl (cell_one_new _ _ _) (by intro u hu;simp at hu;subst hu;rfl) (by unfold maxLen;omega) ω (by simp;omega) ?_)
   intro v' w5 V H _;obtain⟨r1,r2⟩:=qH8 HD.out HB.out HO.out V H;obtain⟨qY,W,rfl,qH,hA⟩:=qV4 r1;have HR:Hid (Ir w5 (.slice qY (dlen (x*2^k)) W) (x*2^k)∧Bw w w5):=⟨⟨qY,W,rfl,by have:=HL.out;omega,qF0 hA HL.out⟩,r2⟩
   have qN:=r40 qY (Y+j+1) W (x*2^k) w5 HL.out qH ω hA;clear V H r1 r2 ho hA qH
   go_wp2_with (first|(go_at_call 168;refine qN.mono ?_;rintro e w' ⟨rfl,rfl⟩))
   go_ret;exact⟨_,rfl,HR.out⟩
theorem rup_0 (ao:Option Addr) (cap:Nat) (k:Int) (w:World) :
  Ca 101 #[.slice ao 0 cap,iV k] w fun e w'=>e=.returned (.slice none 0 0)∧w'=w:=by
 go_enter Tryz.func101,Tryz.ntmps101
 go_wp2
 go_ret;exact⟨rfl,rfl⟩
theorem rup {v:Value} {x:Nat} {w:World} (h:Ir w v x) (k:Nat) (hx:dlen x≤1000000000) (J:k≤1000000000) :
  Ca 101 #[v,iV k] w fun e w'=>∃ v,e=.returned v∧Ir w' v (x*2^k)∧Bw w w':=by
 obtain⟨ao,cap,rfl,F,b,o,H,V⟩:=h;by_cases Y:x=0
 ·subst Y;rw[qQ5];refine(rup_0 ao cap k w).mono ?_
  rintro e w' ⟨rfl,rfl⟩;exact⟨_,rfl,by rw[Nat.zero_mul];exact Ir.nil _ _ _,kH9 _ _⟩
 ·have u:0<dlen x:=kB0 fun e=>Y (qQ8.1 e);obtain rfl:=H u;exact rup_1 b o cap _ x k _ _ w u hx J rfl rfl rfl V
end Go.Proofs.YtfkaogdmlcdceaaGreatDoor
namespace Go.Proofs.YtfkaogdmlcdceaaGreatDoor
open Go.RowKit Go.Fl64
attribute [local go_sem] iV Nu
theorem qU9 {w W:World} (a b:Obj) (u:W=(w.alloc a).alloc b):W.heap[w.heap.size]?=some a∧W.heap[w.heap.size+1]?=some b∧W.heap.size=w.heap.size+1+1∧Bw w W:=by
 subst u;refine⟨?_,?_,by simp,(bR.alloc lR _).alloc (by simp) _⟩
 ·rw[Below.heap_alloc _ _ _ (by simp)];exact kB7 _ _
 ·have:=kB7 (w.alloc a) b
  simpa using this
end Go.Proofs.YtfkaogdmlcdceaaGreatDoor
namespace Go.Proofs.YtfkaogdmlcdceaaGreatDoor
open Go.RowKit
attribute [local go_sem] iV Nu
theorem qC0 (na:Bool) (ua:Option Addr) (un uc:Nat) (ea:Int) (w:World) (hn:un≤35184372088832) (F:((un:Int)==0)=false) :
  Ca 111 #[.agg (Nu na ua un uc ea)] w (Rq w (.agg (Nu (!na) ua un uc ea))):=by
 obtain⟨W,Y⟩:=eE ((w.alloc (.cells (Nu na ua un uc ea) 54)).alloc (.cells (Nu false none 0 0 0) 54));obtain⟨H,V,J,u⟩:=qU9 _ _ Y;obtain⟨⟨a0,a1,a2⟩,-⟩:=qQ1 H;obtain⟨⟨b0,I,C⟩,L,T,D⟩:=qQ1 V;have HX:Hid _:=And.intro u V;clear H V J u;have HE:Hid _:=Y;rw[Y] at a0 a1 a2 b0 I C L T D;clear Y
 go_enter Tryz.func111,Tryz.ntmps111
 go_wp2;refine kB8 (kM2 rfl _ _ (w.heap.size+1) 54 (Nu (!na) ua un uc ea) (0,0) _ rfl (qU9 _ _ rfl).2.1 Tryz.underlying54 rfl Tryz.info54) rfl ?_;exact⟨rfl,(qU9 _ _ rfl).2.2.2⟩
theorem zX5 (na:Bool) (ua:Option Addr) (uc:Nat) (ea:Int) (w:World) :
  Ca 111 #[.agg (Nu na ua 0 uc ea)] w (Rq w (.agg (Nu false none 0 0 0))):=by
 obtain⟨W,Y⟩:=eE ((w.alloc (.cells (Nu na ua 0 uc ea) 54)).alloc (.cells (Nu false none 0 0 0) 54));obtain⟨H,V,J,u⟩:=qU9 _ _ Y;obtain⟨⟨a0,a1,a2⟩,-⟩:=qQ1 H;obtain⟨⟨I,C,L⟩,T,D,F⟩:=qQ1 V;have HX:Hid _:=And.intro u V;clear H V J u;have HE:Hid _:=Y;rw[Y] at a0 a1 a2 I C L T D F;clear Y
 go_enter Tryz.func111,Tryz.ntmps111
 go_wp2;refine kB8 (kM2 rfl _ _ (w.heap.size+1) 54 (Nu false none 0 0 0) (0,0) _ rfl (qU9 _ _ rfl).2.1 Tryz.underlying54 rfl Tryz.info54) rfl ?_;exact⟨rfl,(qU9 _ _ rfl).2.2.2⟩
theorem yV9 {w:World} {Y n z:Nat} {v:Value} (h:w.ownsRow Y 96 1 v n (cells z n)) (L:0<n):Dn w Y v n z:=by
 obtain⟨I,J,u,rfl,V,T,D,F,W,H⟩:=(h.2.resolve_left fun h=>by omega)
 refine .inr ⟨I,J,u,rfl,V,⟨D,by unfold maxLen at F;omega⟩,T,ω,fun i hi=>?_⟩
 have C:(cells z n)[i]?=u[i]?:=by
  rw[←H,kM1,List.getElem?_take,kU6 hi,Array.getElem?_toList]
 rw[←C,qJ8 hi]
theorem qD8 {w:World} {H:Array Oper} {rest:List Oper} {o:Oper} {a:Act} {Q:Exit→Act→World→Prop} (V:o.guard=none) (s x:Operand)
  (ho:o.op=.call { callee:=.builtin .append,args:=#[s,x],argTypes:=#[48,48] }) (hs:a.eval s=.slice none 0 0) {ao:Option Addr} {n cap z:Nat} (hx:a.eval x=.slice ao n cap) (hA:Arg w ao n cap z)
  (h:∀ C Y w',Dn w' w.heap.size (.slice C n Y) n z→Bw w w'→wpList Tryz.prog H Q rest (a.put o.dst (.slice C n Y)) w'):wpList Tryz.prog H Q (o :: rest) a w:=by
 obtain⟨i0,J,T,D,F⟩:=info_parts Tryz.info96;by_cases h0:n=0
 ·subst h0;rcases hA.nil rfl with ⟨ad,rfl⟩|⟨rfl,rfl⟩
  ·refine wpList_append_own _ V s x 48 ho w.heap.size 96 i0 (.int .u32 0) 1 4 Tryz.underlying48 J T D F rfl δ (.slice none 0 0) 0 [] hs (World.ownsRow_nil w _ _ _) ad 0 cap [] hx (by simp) (by intro j u W;simp at W) (by intro u I;simp at I) (by unfold maxLen;omega) ω lR ?_
   intro v' w' _ r2 r3;obtain rfl:v'=.slice none 0 0:=r3.2 ⟨rfl,rfl⟩;exact h none 0 w' (.inl ⟨rfl,rfl⟩) (Below.grown bR r2 lR (fun k hk=>by simp[Value.ownBlock] at hk))
  ·exact wpList_append_own_none V s x 48 ho w.heap.size 96 i0 1 Tryz.underlying48 J (.slice none 0 0) 0 [] hs (World.ownsRow_nil w _ _ _) hx (h none 0 w (.inl ⟨rfl,rfl⟩) bR)
 ·obtain⟨b,o',h1,h2⟩:=hA.at_;obtain rfl:=h1 ω;have qQ:=hA.small;refine wpList_append_own _ V s x 48 ho w.heap.size 96 i0 (.int .u32 0) 1 4 Tryz.underlying48 J T D F rfl δ (.slice none 0 0) 0 [] hs (World.ownsRow_nil w _ _ _) ⟨b,o',none⟩ n cap (cells z n) hx (by rw[qX6,kM1]) (fun j u W=>by
   have L:j<n:=by
    have:=(List.getElem?_eq_some_iff.1 W).1
    rwa [qX6] at this
   rw[qJ8 L] at W;rw[show(⟨b,o',none⟩:Addr).add j=⟨b,o'+j,none⟩ by simp[Addr.add],←W]
   exact h2 j L) (by intro u I;simp[cells] at I;obtain⟨j,-,rfl⟩:=I;rfl) (by unfold maxLen;omega) ω lR ?_
  intro v' w' r1 r2 _;rw[kH6,kG9] at r1;have hd:=yV9 r1 ω;have hb:Bw w w':=Below.grown bR r2 lR (fun k hk=>by simp[Value.ownBlock] at hk)
  rcases hd with ⟨-,h⟩|⟨g,Y,c,rfl,h3⟩
  ·omega
  ·exact h _ _ w' (.inr ⟨g,Y,c,rfl,h3⟩) hb
theorem Dn.store {w:World} {Y n z:Nat} {v:Value} (h:Dn w Y v n z) {g:Nat} (L:g<Y) (i:Nat) (u:Value):Dn (w.setCell ⟨g,i,none⟩ u) Y v n z:=by
 rcases h with h|⟨T,J,c,rfl,D,F,H,V⟩
 ·exact .inl h
 ·exact .inr ⟨T,J,c,rfl,D,F,by rw[qS6 _ _ ω];exact H,V⟩
theorem xT2 {ng:Bool} {ao:Option Addr} {n cap z:Nat} {e:Int} {w:World} (h:Arg w ao n cap z) :
  Ca 147 #[.agg (Nu ng ao n cap e)] w fun r w'=>∃ L Y,r=.returned (.agg (Nu ng L n Y e))∧Dn w' w.heap.size (.slice L n Y) n z∧Bw w w':=by
 obtain⟨W,hW⟩:=eE ((w.alloc (.cells (Nu ng ao n cap e) 54)).alloc (.cells (Nu false none 0 0 0) 54));obtain⟨hA,hB,H,V⟩:=qU9 _ _ hW;obtain⟨⟨a0,a1,a2⟩,-⟩:=qQ1 hA;have C:Hid _:=aI4 V H hA hB;have D:=h.later V;rw[hW] at a0 a1 a2;have HW:Hid _:=hW;clear hA hB H V h hW
 go_enter Tryz.func147,Tryz.ntmps147
 go_wp2_with (at_builtin;rw[←HW.out];refine qD8 rfl _ _ rfl rfl rfl D ?_)
 intro T u w2 hd I;have F:=qQ0 C.out.2.2.1 I (by have:=C.out.2.1;omega)
 have J:=qQ0 C.out.2.2.2 I (by have:=C.out.2.1;omega)
 obtain⟨⟨x1,x2,x3⟩,x4,x5,x6⟩:=qQ1 F;obtain⟨⟨y1,y2,y3⟩,y4,y5,y6⟩:=qQ1 J;have HR:Hid _:=aI3 hd I J;clear hd I F J a0 a1 a2 D
 go_wp2;have HQ:(w2.setCell ⟨w.heap.size,1,none⟩ (.slice T n u)).heap[w.heap.size+1]?=some (.cells (Nu false none 0 0 0) 54 (0,0)):=by
  rw[qS6 _ _ ω];exact HR.out.2.2
 refine kB8 (kM2 rfl _ _ (w.heap.size+1) 54 (Nu ng T n u e) (0,0) _ rfl (qZ9 _ _ _ HQ) Tryz.underlying54 rfl Tryz.info54) rfl ?_;obtain⟨q1,q2,-,-⟩:=C.out;obtain⟨r1,r2,-⟩:=HR.out;exact⟨_,_,rfl,((((r1.store ω _ _).store ω _ _).store ω _ _).store ω _ _).mono ω,qQ4 ((q1.trans (r2.mono q1.size)).setCell lR _) ω _ _ _⟩
theorem yI0 (neg:Bool) (ao:Option Addr) (n cap x:Nat) (e:Int) (w:World) (h:At w ao n x) (qK:dlen x≤n) (hn:n≤cap) (hc:n≤1000000000) (H:x≠0) (he : -4611686018427387904≤e∧e≤4611686018427387904) :
  Calls Tryz.prog 103 #[.bool neg,.slice ao n cap,.int .i64 e] w fun r w'=>∃ g qY,r=.returned (.agg #[.bool neg,.slice (some ⟨g,0,none⟩) (dlen (x / 2^tz x)) qY,.int .i64 (e+tz x)])∧w.heap.size≤g∧dlen (x / 2^tz x)≤qY∧At w' (some ⟨g,0,none⟩) (dlen (x / 2^tz x)) (x / 2^tz x)∧Bw w w':=by
 obtain⟨C,F⟩:=eE (w.alloc (.cells #[.bool false,.slice none 0 0,.int .i64 0] 54));have qG:Bw w C:=by rw[F];exact bR.alloc lR _
 have h0:=h.later qG;have qN:=r40 ao n cap x C qK hn ω h0;have qP:tz x / 32<dlen x:=by
  have h1:=(qX0 _ x lR H);have h2:2^tz x≤x:=by
   have h3:1≤x / 2^tz x:=kB0 fun e0=>by have:=h1.2;rw[e0] at this;simp at this
   have:=kB1 (2^tz x) h3
   omega
  have h4:=qG2 x;have h5:tz x<bl x:=Nat.lt_of_not_le fun h6=>by
   have:=kF4 (n:=2) ω h6
   omega
  have zA:dlen x≠0:=fun e=>H (qQ8.1 e);have:=zQ8 H
  have:=qD4 (qX1 x (dlen x - 1))
  omega
 have hs:=qF0 h0 qK;have qB:=r64 rfl (by omega:dlen x≤cap) hs (tz x) ω qP ω
 have zL:0<dlen x:=ω;have zR:((dlen x:Int)==0)=false:=by simp;omega
 have HS:Hid (At C ao (dlen x) x):=hs;have HH:Hid (C.heap[w.heap.size]?=some (.cells #[.bool false,.slice none 0 0,.int .i64 0] 54 (0,0))):=(by rw[F];exact kB7 _ _:C.heap[w.heap.size]?=some (.cells #[.bool false,.slice none 0 0,.int .i64 0] 54 (0,0)))
 have zB:Hid (Bw w C):=qG;have HX:Hid (C.heap.size=w.heap.size+1):=(by rw[F];simp:C.heap.size=w.heap.size+1)
 have HT:Hid (tz x / 32<dlen x∧x≠0):=⟨qP,H⟩;obtain⟨zE,zC⟩:=he;have zT:dlen x≤1000000000:=ω;clear h h0 qG hs qK hn H;generalize hL:dlen x=L at *;generalize I:tz x=T at *;have qH:Hid (tz x=T∧dlen x=L):=⟨I,hL⟩;clear I hL;have zO:T≤40000000000:=ω
 go_enter Tryz.func103,Tryz.ntmps103
 go_wp2_with fail;rw[←F];clear F;refine qN.mono ?_;rintro r w1 ⟨rfl,rfl⟩;clear qN
 go_wp2_with fail
 go_loop [7] (fun v=>∃ t:Nat,t≤T∧v=.int .i64 (t:Int)) (fun v=>T - (intOf v).toNat)
 case atStart=>exact⟨0,kB4 _,rfl⟩
 case round =>
  obtain⟨t,ht,rfl⟩:=hrel;obtain⟨b,o,hb,D⟩:=HS.out;obtain rfl:=hb ω;have hq:(t:Int).tdiv 32=((t / 32:Nat):Int):=by rw[kG6 ω];rfl
  have hr:(t:Int).tmod 32=((t % 32:Nat):Int):=by rw[Int.tmod_eq_emod_of_nonneg ω];rfl
  have zY:t / 32<L:=ω;have g1:=D (t / 32) zY;have zS:t % 32<32:=ω;generalize hi:t / 32=i at *;generalize hp:t % 32=p at *;generalize hd:dg x i=d at *;have HI:Hid (t / 32=i∧t % 32=p∧dg x i=d):=⟨hi,hp,hd⟩;have W:=kJ5 qH.out.1 HT.out.2 ht HI.out;clear hi hp hd D hb;by_cases qJ:t<T
  ·rw[kF2 qJ] at W
   go_wp2_with fail;exact⟨⟨t+1,ω,by simp⟩,by simp[intOf];omega⟩
  ·rw[kF1 qJ] at W;obtain rfl:t=T:=ω;clear qJ ht
   go_wp2_with fail;refine qB.mono ?_;rintro r Y ⟨zF,qE,bb,rfl,qW,zI,qU⟩;clear qB hq hr W g1;have qA:Hid (Y.heap[w.heap.size]?=some (.cells #[.bool false,.slice none 0 0,.int .i64 0] 54 (0,0))):=qQ0 HH.out qU (by have:=HX.out;omega)
   obtain⟨⟨a1,a2,a3⟩,a4,a5,a6⟩:=qQ1 qA.out;have qF:Hid (At Y zF (dlen (x / 2^t)) (x / 2^t)∧Bw w1 Y):=⟨qW,qU⟩;clear qW qU;have qX:x / 2^t % 2=1:=by rw[←qH.out.1];exact(qX0 _ x lR HT.out.2).2
   have zZ:0<dlen (x / 2^t):=kB0 fun e=>by rw[qQ8.1 e] at qX;simp at qX
   have zP:dlen (x / 2^t)≤1000000000:=by
    have h1:dlen (x / 2^t)≤dlen x:=qZ5 (kF9 ..);rw[qH.out.2] at h1;omega
   obtain⟨b3,o3,qT,qQ⟩:=qF.out.1;obtain rfl:=qT zZ;have HN:Hid (∀ j u,(cells (x / 2^t) (dlen (x / 2^t)))[j]?=some u→(Y.alloc (Obj.cells (madeCells #[Value.int IntKind.u32 0] 0) 96)).cell? ((⟨b3,o3,none⟩:Addr).add j)=some u):=fun j u hj=>by
    have qD:j<dlen (x / 2^t):=by
     have:=(List.getElem?_eq_some_iff.1 hj).1
     rwa [qX6] at this
    rw[qJ8 qD] at hj;have qS:=qQ j qD;rw[show(⟨b3,o3,none⟩:Addr).add j=⟨b3,o3+j,none⟩ by simp[Addr.add]]
    rw[World.cell?_alloc_old _ _ _ (by have:=World.block_lt_of_cell? _ _ qS;show b3≠Y.heap.size;simp at this;omega)]
    rw[←hj];exact qS
   have qL:(Y.alloc (Obj.cells (madeCells #[Value.int IntKind.u32 0] 0) 96)).ownsRow Y.heap.size 96 1 (.slice (some ⟨Y.heap.size,0,none⟩) 0 0) 0 []:=World.ownsRow_made Y _ 0 lR (by unfold maxLen;omega) (by simp[madeCells])
   have zK:=run_make_row' (P:=Tryz.prog) 48 96 (.int .u32 0) 4 Tryz.underlying48 Tryz.info96 rfl .i64 .i64 0 ω ω Y;rw[show((0:Nat):Int)=0 from rfl] at zK;clear qQ qT qX;generalize hy:x / 2^t=y at *;have HY:Hid (x / 2^t=y):=hy;clear hy;generalize hM:dlen y=M at *;have HM:Hid (dlen y=M):=hM;clear hM;have zG:M≠0:=ω;obtain⟨i0,zJ,zQ,qO,qI⟩:=info_parts Tryz.info96
   go_wp2_with (at_builtin;refine wpList_append_own _ rfl _ _ 48 rfl Y.heap.size 96 i0 (.int .u32 0) 1 4 Tryz.underlying48 zJ zQ qO qI rfl δ _ 0 [] rfl qL ⟨b3,o3,none⟩ M qE (cells y M) rfl (by rw[qX6,kM1]) HN.out (by intro u hu;simp[cells] at hu;obtain⟨j,-,rfl⟩:=hu;rfl) (by unfold maxLen;omega) ω (by simp) ?_)
   intro v' w4 J V _;have zD:=HX.out;have zX:=qF.out.2.size;have qV:w4.heap[w.heap.size]?=some (.cells #[.bool false,.slice none 0 0,.int .i64 0] 54 (0,0)):=by
    rw[V.block _ (by simp;omega) (fun e=>by simp[Value.ownBlock] at e;omega),Lib.alloc_old Y _ _ ω]
    exact qA.out
   obtain⟨⟨a1,a2,a3⟩,a4,a5,a6⟩:=qQ1 qV;have HR:Hid (w4.ownsRow Y.heap.size 96 1 v' M (cells y M)∧w4.heap[w.heap.size]?=some (.cells #[.bool false,.slice none 0 0,.int .i64 0] 54 (0,0))):=⟨J,qV⟩;have HG:Hid (Bw Y w4):=Below.grown ((kH9 Y.heap.size Y).alloc lR _) V (by simp) (fun k hk=>by simp[Value.ownBlock] at hk;omega)
   obtain⟨g4,qC,zN,rfl,zW,-⟩:=(J.2.resolve_left fun h=>zG h.2);clear J qV V HN qL
   go_wp2;refine kB8 (kM2 rfl _ _ w.heap.size 54 #[.bool neg,.slice (some ⟨g4,0,none⟩) M qC,.int .i64 (e+t)] (0,0) _ rfl (qZ9 _ _ _ HR.out.2) Tryz.underlying54 rfl Tryz.info54) rfl ?_;obtain⟨yQ,zM,qM,qR,zH⟩:=qV4 HR.out.1;simp only[Value.slice.injEq] at qM;obtain⟨rfl,-,rfl⟩:=qM;obtain⟨b5,o5,zU,zV⟩:=zH;have qZ:=zU ω;simp only[Option.some.injEq,Addr.mk.injEq] at qZ;obtain⟨rfl,rfl,-⟩:=qZ;rw[HY.out,HM.out];refine⟨_,_,rfl,ω,qR,⟨g4,0,fun _=>rfl,fun j hj=>?_⟩,qQ4 (zB.out.trans ((qF.out.2.trans (HG.out.mono zX)).mono ω)) lR _ _ _⟩
   rw[World.cell?_setCell_other _ _ _ _ (by intro e;simp at e),World.cell?_setCell_other _ _ _ _ (by intro e;simp at e),World.cell?_setCell_other _ _ _ _ (by intro e;simp at e)]
   exact zV j hj
def NC (w':World) (base:Nat) (a:Value) (neg:Bool) (x:Nat) (e:Int):Prop:=∃ ao cap,a=.agg #[.bool (cn neg x e).1,.slice ao (dlen (cn neg x e).2.1) cap,.int .i64 (cn neg x e).2.2]∧Arg w' ao (dlen (cn neg x e).2.1) cap (cn neg x e).2.1∧(∀ ad:Addr,ao=some ad→0<dlen (cn neg x e).2.1→base≤ad.block)
theorem NC.later {w w':World} {u:Nat} {a:Value} {neg:Bool} {x:Nat} {e:Int} (h:NC w u a neg x e) (Y:Bw w w'):NC w' u a neg x e:=by
 obtain⟨ao,cap,H,V,J⟩:=h;exact⟨ao,cap,H,V.later Y,J⟩
theorem NC.mono {w:World} {Y u:Nat} {a:Value} {neg:Bool} {x:Nat} {e:Int} (h:NC w Y a neg x e) (V:u≤Y):NC w u a neg x e:=by
 obtain⟨ao,cap,D,F,H⟩:=h;exact⟨ao,cap,D,F,fun T e J=>kF8 V (H T e J)⟩
theorem zF9 {neg:Bool} {v:Value} {x:Nat} {e:Int} {w:World} (h:Ir w v x) (C:dlen x≤1000000000) (W : -4611686018427387904≤e∧e≤4611686018427387904) :
  Ca 103 #[.bool neg,v,iV e] w fun r w'=>∃ a,r=.returned a∧NC w' w.heap.size a neg x e∧Bw w w':=by
 obtain⟨ao,cap,rfl,F,H⟩:=h;by_cases Y:x=0
 ·subst Y;refine(xC neg ao _ cap e w H F ω).mono ?_
  rintro r w' ⟨rfl,V⟩;refine⟨_,rfl,⟨none,0,?_,?_,fun I e=>by cases e⟩,V⟩
  ·unfold cn;rw[kU6 rfl,qQ5]
  ·unfold cn;rw[kU6 rfl];exact⟨fun _=>.inr ⟨rfl,rfl⟩,⟨0,0,fun h=>by rw[qQ5] at h;omega,fun i hi=>by rw[qQ5] at hi;omega⟩,by rw[qQ5];exact kH8 _,by rw[qQ5];omega⟩
 ·refine(yI0 neg ao _ cap x e w H lR F C Y W).mono ?_
  rintro r w' ⟨g,u,rfl,L,J,D,V⟩;have T:dlen (x / 2^tz x)≤dlen x:=qZ5 (kF9 _ _);refine⟨_,rfl,⟨some ⟨g,0,none⟩,u,?_,?_,fun I e _=>?_⟩,V⟩
  ·unfold cn;rw[kU5 Y]
  ·unfold cn;rw[kU5 Y];exact⟨fun _=>.inl ⟨_,rfl⟩,D,J,(by omega:dlen (x / 2^tz x)≤35184372088832)⟩
  ·injection e with e;rw[←e];exact L
theorem xK8 (neg:Bool) (ao:Option Addr) (n cap b:Nat) (e:Int) (w:World) (H:((n:Int)==0)=false) (L:b≤64000000000) (D : -4000000≤e) (F:e≤4000000)
  (Y:∀ W,Bw w W→Ca 110 #[.slice ao n cap] W fun r w'=>r=.returned (iV b)∧w'=W) :
  Ca 44 #[.agg (Nu neg ao n cap e)] w (Rq w (iV (b+e))):=by
 obtain⟨W,V⟩:=eE (w.alloc (.cells (Nu neg ao n cap e) 54));have u:Bw w W:=by rw[V];exact bR.alloc lR _
 have J:Hn W w.heap.size neg ao n cap e 54:=by rw[V];exact kB7 _ _
 obtain⟨⟨a0,C,a2⟩,-⟩:=qQ1 J;have k:=fun d=>Y (W.drewN d) (u.trans ⟨rfl,rfl,rfl,kH8 _,fun _ _=>rfl⟩);have T:Hid _:=u;clear Y u J
 go_enter Tryz.func44,Tryz.ntmps44
 go_upto_region 3 with fail;rw[←V];clear V
 go_quiet ((go_at_call 110;exact Calls.quiet_of_same (k _)))
 go_wp2
 go_ret;refine⟨kU7 Ending.returned (kU7 (Value.int IntKind.i64) ?_),T.out.trans ⟨rfl,rfl,rfl,kH8 _,fun _ _=>rfl⟩⟩
 first|rfl|omega|(rw[kB5];omega)|(unfold wrap64;omega)
theorem zW7 {neg:Bool} {ao:Option Addr} {cap x:Nat} {e:Int} {w:World} (h:At w ao (dlen x) x) (J:x≠0) (hx:dlen x≤1000000000) (Y : -4000000≤e∧e≤4000000) :
  Ca 44 #[.agg (Nu neg ao (dlen x) cap e)] w (Rq w (iV (bl x+e))):=by
 have u:0<dlen x:=kB0 fun e=>J (qQ8.1 e);refine xK8 neg ao (dlen x) cap (bl x) e w (qY8 (n:=0) J) ?_ Y.1 Y.2 (fun W V=>?_)
 ·have:=qY3 x
  omega
 ·obtain⟨b,o,F,H⟩:=h.later V;obtain rfl:=F u;exact r42 b o (dlen x) cap x W u hx rfl H
theorem yZ8 (na nb:Bool) (ua va:Option Addr) (uc J I:Nat) (ea eb:Int) (w:World) (z:Nat) (H:Arg w va J I z) :
  Ca 83 #[.agg (Nu na ua 0 uc ea),.agg (Nu nb va J I eb)] w fun r w'=>∃ T Y,r=.returned (.agg (Nu nb T J Y eb))∧Dn w' w.heap.size (.slice T J Y) J z∧Bw w w':=by
 obtain⟨W,hW⟩:=eE (((w.alloc (.cells (Nu na ua 0 uc ea) 54)).alloc (.cells (Nu nb va J I eb) 54)).alloc (.cells (Nu false none 0 0 0) 54));obtain⟨hA,qQ,hC,F,u⟩:=qK9 _ _ _ hW;have hn:=H.small;have k1:=xT2 (ng:=nb) (e:=eb) (H.later u);have HH:Hid _:=aI3 hC F u;clear hA qQ hC F u H
 go_enter Tryz.func83,Tryz.ntmps83
 go_wp2_with fail;rw[←hW];clear hW;refine k1.mono ?_;rintro r w4 ⟨qZ,D,rfl,C,V⟩;have L:Hid (Hn w4 (w.heap.size+1+1) false none 0 0 0 54):=qQ0 HH.out.1 V (by have:=HH.out.2.1;omega)
 obtain⟨⟨x1,x2,x3⟩,x4,x5,x6⟩:=qQ1 L.out;have qY:Hid _:=And.intro C V;clear C V k1
 go_wp2;refine kB8 (kM2 rfl _ _ (w.heap.size+1+1) 54 (Nu nb qZ J D eb) (0,0) _ rfl (qZ9 _ _ _ L.out) Tryz.underlying54 rfl Tryz.info54) rfl ?_;obtain⟨-,hs,u⟩:=HH.out;obtain⟨C,hb⟩:=qY.out;exact⟨_,_,rfl,(((C.store ω _ _).store ω _ _).store ω _ _).mono ω,qQ4 (u.trans (hb.mono u.size)) ω _ _ _⟩
theorem yZ7 (na nb:Bool) (ua va:Option Addr) (un uc vc:Nat) (ea eb:Int) (w:World) (z:Nat) (V:Arg w ua un uc z) (qY:((un:Int)==0)=false) :
  Ca 83 #[.agg (Nu na ua un uc ea),.agg (Nu nb va 0 vc eb)] w fun r w'=>∃ D Y,r=.returned (.agg (Nu na D un Y ea))∧Dn w' w.heap.size (.slice D un Y) un z∧Bw w w':=by
 obtain⟨W,C⟩:=eE (((w.alloc (.cells (Nu na ua un uc ea) 54)).alloc (.cells (Nu nb va 0 vc eb) 54)).alloc (.cells (Nu false none 0 0 0) 54));obtain⟨hA,I,hC,H,u⟩:=qK9 _ _ _ C;have hn:=V.small;have k1:=xT2 (ng:=na) (e:=ea) (V.later u);have HH:Hid _:=aI3 hC H u;clear hA I hC H u V
 go_enter Tryz.func83,Tryz.ntmps83
 go_wp2_with fail;rw[←C];clear C;refine k1.mono ?_;rintro r w4 ⟨qQ,F,rfl,L,J⟩;have T:Hid (Hn w4 (w.heap.size+1+1) false none 0 0 0 54):=qQ0 HH.out.1 J (by have:=HH.out.2.1;omega)
 obtain⟨⟨x1,x2,x3⟩,x4,x5,x6⟩:=qQ1 T.out;have qZ:Hid _:=And.intro L J;clear L J k1
 go_wp2;refine kB8 (kM2 rfl _ _ (w.heap.size+1+1) 54 (Nu na qQ un F ea) (0,0) _ rfl (qZ9 _ _ _ T.out) Tryz.underlying54 rfl Tryz.info54) rfl ?_;obtain⟨-,hs,u⟩:=HH.out;obtain⟨L,hb⟩:=qZ.out;exact⟨_,_,rfl,(((L.store ω _ _).store ω _ _).store ω _ _).mono ω,qQ4 (u.trans (hb.mono u.size)) ω _ _ _⟩
theorem yY2 (s:Bool) (z:Nat) (e:Int):okR s z e=okN (cn s z e).1 (dlen (cn s z e).2.1) (cn s z e).2.1 (cn s z e).2.2:=by
 unfold okR cn;by_cases u:z=0
 ·rw[kU6 u,kU6 u,qQ5];rfl
 ·rw[kU5 u,kU5 u]
theorem NC.shape {w:World} {u:Nat} {a:Value} {s:Bool} {z:Nat} {e:Int} (h:NC w u a s z e):∃ s ao n cap ex,a=.agg (Nu s ao n cap ex):=by
 obtain⟨ao,cap,Y,-⟩:=h;exact⟨_,_,_,_,_,Y⟩
theorem NC.store {w:World} {u g:Nat} {A:Value} {s:Bool} {z:Nat} {e:Int} (h:NC w u A s z e) (W:g<u) (a b c:Value):NC (((w.setCell ⟨g,0,none⟩ a).setCell ⟨g,1,none⟩ b).setCell ⟨g,2,none⟩ c) u A s z e:=by
 obtain⟨ao,cap,L,Y,V⟩:=h;refine⟨ao,cap,L,⟨Y.nil,?_,Y.le,Y.small⟩,V⟩
 obtain⟨H,F,J,D⟩:=Y.at_;refine⟨H,F,J,fun i hi=>?_⟩
 have T:u≤H:=V _ (J ω) ω;rw[World.cell?_setCell_other _ _ _ _ (by intro e;simp at e <;> omega),World.cell?_setCell_other _ _ _ _ (by intro e;simp at e <;> omega),World.cell?_setCell_other _ _ _ _ (by intro e;simp at e <;> omega)]
 exact D i hi
theorem Dn.nc {w:World} {Y:Nat} {ao:Option Addr} {cap z:Nat} {s:Bool} {e:Int} (h:Dn w Y (.slice ao (dlen z) cap) (dlen z) z) (H:cn s z e=(s,z,e)) (F:dlen z≤35184372088832):NC w Y (.agg (Nu s ao (dlen z) cap e)) s z e:=by
 refine⟨ao,cap,by rw[H],?_,?_⟩
 ·rw[H];rcases h with ⟨u,V⟩|⟨g,J,c,u,V,L,T,C,D⟩
  ·simp only[Value.slice.injEq] at u;obtain⟨rfl,-,rfl⟩:=u;exact⟨fun _=>.inr ⟨rfl,rfl⟩,⟨0,0,fun h=>by simp only at h;omega,fun i hi=>by simp only at hi;omega⟩,by simp only;omega,F⟩
  ·simp only[Value.slice.injEq] at u;obtain⟨rfl,-,rfl⟩:=u;refine⟨fun _=>.inl ⟨_,rfl⟩,⟨g,0,fun _=>rfl,fun i hi=>?_⟩,L.1,F⟩
   rw[kH6];simp[World.cell?,T,D i hi]
 ·rw[H];rcases h with ⟨u,V⟩|⟨g,J,c,u,V,L,T,C,D⟩
  ·intro I e W;simp only at W;omega
  ·simp only[Value.slice.injEq] at u;obtain⟨rfl,-,rfl⟩:=u;intro I e _;injection e with e;rw[←e];exact V
theorem zS2 (na nb:Bool) (ua va:Option Addr) (un uc vn vc X Y:Nat) (ea eb:Int) (w:World) (zQ:(na==nb)=true) (hX:dlen (X+Y)≤1000000) (qR:dlen X≤1000000) (qS:dlen Y≤1000000) (zV : -4000000≤ea) (zJ:ea≤4000000) (zK : -4000000≤eb) (zX:eb≤4000000) (zY:((un:Int)==0)=false) (zZ:((vn:Int)==0)=false)
  (ku:∀ W i,Bw w W→i=ea - min ea eb→Ca 101 #[.slice ua un uc,iV i] W fun r w'=>∃ v,r=.returned v∧Ir w' v X∧Bw W w')
  (kv:∀ W i,Bw w W→i=eb - min ea eb→Ca 101 #[.slice va vn vc,iV i] W fun r w'=>∃ v,r=.returned v∧Ir w' v Y∧Bw W w') :
  Ca 83 #[.agg (Nu na ua un uc ea),.agg (Nu nb va vn vc eb)] w fun r w'=>∃ a,r=.returned a∧NC w' w.heap.size a na (X+Y) (min ea eb)∧Bw w w':=by
 obtain⟨W,hW⟩:=eE (((w.alloc (.cells (Nu na ua un uc ea) 54)).alloc (.cells (Nu nb va vn vc eb) 54)).alloc (.cells (Nu false none 0 0 0) 54));obtain⟨hA,qB,hC,qK,J⟩:=qK9 _ _ _ hW;have k1:=fun i hi=>ku W i J hi;have qI:Hid _:=kv;have HH:Hid ((Hn W w.heap.size na ua un uc ea 54∧Hn W (w.heap.size+1) nb va vn vc eb 54∧Hn W (w.heap.size+1+1) false none 0 0 0 54)∧W.heap.size=w.heap.size+1+1+1∧Bw w W):=⟨⟨hA,qB,hC⟩,qK,J⟩;clear hA qB hC qK J ku kv
 go_enter Tryz.func83,Tryz.ntmps83
 go_wp2_with fail;rw[←hW];clear hW;refine(k1 _ (by first|rfl|(rw[kB5];omega)|omega)).mono ?_
 rintro r w4 ⟨p,rfl,hp,T⟩;clear k1;obtain⟨⟨a0,a1,a2⟩,-⟩:=qQ1 (qQ0 HH.out.1.1 T (by have:=HH.out.2.1;omega))
 obtain⟨⟨b0,b1,b2⟩,-⟩:=qQ1 (qQ0 HH.out.1.2.1 T (by have:=HH.out.2.1;omega))
 have qY:Hid (Bw W w4):=T;have qA:Hid (Ir w4 p X):=hp;clear T hp
 go_wp2_with fail;refine(qI.out w4 _ (HH.out.2.2.trans (qY.out.mono HH.out.2.2.size)) (by first|rfl|(rw[kB5];omega)|omega)).mono ?_
 rintro r u ⟨q,rfl,hq,qZ⟩;have V:Bw W u:=qY.out.trans (qZ.mono qY.out.size);have hp:=qA.out.later qZ;clear a0 a1 a2 b0 b1 b2 qZ;obtain⟨⟨h1,h2,h3⟩,hs,J⟩:=HH.out;obtain⟨⟨a0,a1,a2⟩,-⟩:=qQ1 (qQ0 h1 V ω);obtain⟨⟨b0,b1,b2⟩,-⟩:=qQ1 (qQ0 h2 V ω);have L:Hid (Hn u (w.heap.size+1+1) false none 0 0 0 54∧Bw W u):=⟨qQ0 h3 V ω,V⟩;have qV:=hp;have qJ:=hq;have kS:∀ W6,Bw u W6→Ca 148 #[p,q] W6 fun r w'=>∃ v,r=.returned v∧Ir w' v (X+Y)∧Bw u w':=fun W6 F =>
  (rsum (w:=W6) (qV.later F) (qJ.later F) ω ω).mono fun r w' ⟨v,e1,o1,o2⟩=>⟨v,e1,o1,F.trans (o2.mono F.size)⟩
 have H:∀ w',Bw u w'→w'.cell? ⟨w.heap.size,0,none⟩=some (.bool na):=fun w' F=>(F.cell (World.block_lt_of_cell? _ _ a0)).trans a0;have HK:Hid (∀ w',Bw u w'→w'.cell? ⟨w.heap.size,0,none⟩=some (.bool na)):=H;have qE:Hid (∀ dd,Below u.heap.size u (u.drewN dd).drew):=(fun dd=>⟨rfl,rfl,rfl,kH8 _,fun _ _=>rfl⟩:∀ dd,Below u.heap.size u (u.drewN dd).drew);have qT:Bw u u.drew:=bR.drew;have qX:∀ v7 w7,Ir w7 v7 (X+Y)→Bw u w7→Ca 103 #[.bool na,v7,iV (min ea eb)] w7 fun r w'=>∃ s ao n cap ex,r=.returned (.agg (Nu s ao n cap ex)) ∧
   Hid (NC w' w7.heap.size (.agg (Nu s ao n cap ex)) na (X+Y) (min ea eb)∧u.heap.size≤w7.heap.size)∧Bw u w'∧Hid (Hn w' (w.heap.size+1+1) false none 0 0 0 54) ∧
   (w'.cell? ⟨w.heap.size+1+1,0,none⟩=some (.bool false)∧w'.cell? ⟨w.heap.size+1+1,1,none⟩=some (.slice none 0 0)∧w'.cell? ⟨w.heap.size+1+1,2,none⟩=some (iV 0))∧(w'.frozen? ⟨w.heap.size+1+1,0,none⟩=false∧w'.frozen? ⟨w.heap.size+1+1,1,none⟩=false∧w'.frozen? ⟨w.heap.size+1+1,2,none⟩=false):=by
  intro v7 w7 ho F;obtain⟨qC,qM,rfl,qD,qH⟩:=ho;refine(zF9 ⟨qC,qM,rfl,qD,qH⟩ ω ω).mono ?_
  rintro r w8 ⟨a,rfl,hN,D⟩;obtain⟨s,ao,n,cap,ex,rfl⟩:=hN.shape;have I:Bw u w8:=F.trans (D.mono F.size);have C:=qQ0 L.out.1 I (by have:=L.out.2.size;omega)
  obtain⟨f1,f2⟩:=qQ1 C;exact⟨s,ao,n,cap,ex,rfl,⟨hN,F.size⟩,I,C,f1,f2⟩
 clear h1 h2 h3 hp hq qV qJ V hs J H hX qR qS qE
 go_wp2
 go_region_held3 (fun w'=>w'.cell? ⟨w.heap.size,0,none⟩=some (.bool na)) (first|(with_reducible assumption)|(refine HK.out _ ?_;with_reducible assumption)|(rw[World.cell?_setCell_other _ _ _ _ (by simp),World.cell?_setCell_other _ _ _ _ (by simp),World.cell?_setCell_other _ _ _ _ (by simp)];refine HK.out _ ?_;with_reducible assumption)|go_keep)
  (first|(go_at_call 148;refine(kS _ (by first|(with_reducible assumption)|exact qT)).mono ?_;rintro r w7 ⟨v7,rfl,qU,qG⟩)|(go_at_call 103;refine(qX _ _ qU qG).mono ?_;rintro r w8 ⟨s8,qW,n8,qN,qL,rfl,qF,D,qQ,⟨x1,x2,x3⟩,x4,x5,x6⟩))
 have HF:Hid (Bw u w8):=D;clear qU qG D qX kS x1 x2 x3 x4 x5 x6 a0 a1 a2 b0 b1 b2 HK
 go_wp2;refine kB8 (kM2 rfl _ _ (w.heap.size+1+1) 54 (Nu s8 qW n8 qN qL) (0,0) _ rfl (qZ9 _ _ _ qQ.out) Tryz.underlying54 rfl Tryz.info54) rfl ?_;obtain⟨-,hs,J⟩:=HH.out;have qP:=L.out.2.size;have qO:=qF.out.2;exact⟨_,rfl,(qF.out.1.store ω _ _ _).mono ω,qQ4 (J.trans ((L.out.2.trans (HF.out.mono qP)).mono J.size)) ω _ _ _⟩
theorem yM8 (na nb:Bool) (ua va:Option Addr) (un uc vn vc X Y:Nat) (ea eb:Int) (w:World) (qT:X<Y) (zX:(na==nb)=false) (hX:dlen (Y - X)≤1000000) (qC:dlen X≤1000000) (qW:dlen Y≤1000000) (zH : -4000000≤ea) (zG:ea≤4000000) (zU : -4000000≤eb) (zV:eb≤4000000) (zJ:((un:Int)==0)=false) (zK:((vn:Int)==0)=false)
  (ku:∀ W i,Bw w W→i=ea - min ea eb→Ca 101 #[.slice ua un uc,iV i] W fun r w'=>∃ v,r=.returned v∧Ir w' v X∧Bw W w')
  (kv:∀ W i,Bw w W→i=eb - min ea eb→Ca 101 #[.slice va vn vc,iV i] W fun r w'=>∃ v,r=.returned v∧Ir w' v Y∧Bw W w') :
  Ca 83 #[.agg (Nu na ua un uc ea),.agg (Nu nb va vn vc eb)] w fun r w'=>∃ a,r=.returned a∧NC w' w.heap.size a nb (Y - X) (min ea eb)∧Bw w w':=by
 obtain⟨W,hW⟩:=eE (((w.alloc (.cells (Nu na ua un uc ea) 54)).alloc (.cells (Nu nb va vn vc eb) 54)).alloc (.cells (Nu false none 0 0 0) 54));obtain⟨hA,qP,hC,qV,J⟩:=qK9 _ _ _ hW;have k1:=fun i hi=>ku W i J hi;have zZ:Hid _:=kv;have HH:Hid ((Hn W w.heap.size na ua un uc ea 54∧Hn W (w.heap.size+1) nb va vn vc eb 54∧Hn W (w.heap.size+1+1) false none 0 0 0 54)∧W.heap.size=w.heap.size+1+1+1∧Bw w W):=⟨⟨hA,qP,hC⟩,qV,J⟩;clear hA qP hC qV J ku kv
 go_enter Tryz.func83,Tryz.ntmps83
 go_wp2_with fail;rw[←hW];clear hW;refine(k1 _ (by first|rfl|(rw[kB5];omega)|omega)).mono ?_
 rintro r w4 ⟨p,rfl,hp,T⟩;clear k1;obtain⟨⟨a0,a1,a2⟩,-⟩:=qQ1 (qQ0 HH.out.1.1 T (by have:=HH.out.2.1;omega))
 obtain⟨⟨b0,b1,b2⟩,-⟩:=qQ1 (qQ0 HH.out.1.2.1 T (by have:=HH.out.2.1;omega))
 have qK:Hid (Bw W w4):=T;have zQ:Hid (Ir w4 p X):=hp;clear T hp
 go_wp2_with fail;refine(zZ.out w4 _ (HH.out.2.2.trans (qK.out.mono HH.out.2.2.size)) (by first|rfl|(rw[kB5];omega)|omega)).mono ?_
 rintro r u ⟨q,rfl,hq,qX⟩;have V:Bw W u:=qK.out.trans (qX.mono qK.out.size);have hp:=zQ.out.later qX;clear a0 a1 a2 b0 b1 b2 qX;obtain⟨⟨h1,h2,h3⟩,hs,J⟩:=HH.out;obtain⟨⟨a0,a1,a2⟩,-⟩:=qQ1 (qQ0 h1 V ω);obtain⟨⟨b0,b1,b2⟩,-⟩:=qQ1 (qQ0 h2 V ω);have L:Hid (Hn u (w.heap.size+1+1) false none 0 0 0 54∧Bw W u):=⟨qQ0 h3 V ω,V⟩;have qG:=hp;have qU:=hq;have kS:∀ W6,Bw u W6→Ca 150 #[q,p] W6 fun r w'=>∃ v,r=.returned v∧Ir w' v (Y - X)∧Bw u w':=fun W6 F =>
  (xL8 (w:=W6) (qU.later F) (qG.later F) ω ω).mono fun r w' ⟨v,e1,o1,o2⟩=>⟨v,e1,o1,F.trans (o2.mono F.size)⟩
 have H:∀ w',Bw u w'→w'.cell? ⟨w.heap.size+1,0,none⟩=some (.bool nb):=fun w' F=>(F.cell (World.block_lt_of_cell? _ _ b0)).trans b0;have HK:Hid (∀ w',Bw u w'→w'.cell? ⟨w.heap.size+1,0,none⟩=some (.bool nb)):=H;have qO:Hid (∀ dd,Below u.heap.size u (u.drewN dd).drew):=(fun dd=>⟨rfl,rfl,rfl,kH8 _,fun _ _=>rfl⟩:∀ dd,Below u.heap.size u (u.drewN dd).drew);have qN:Bw u u.drew:=bR.drew;have qJ:∀ v7 C,Ir C v7 (Y - X)→Bw u C→Ca 103 #[.bool nb,v7,iV (min ea eb)] C fun r w'=>∃ s ao n cap ex,r=.returned (.agg (Nu s ao n cap ex)) ∧
   Hid (NC w' C.heap.size (.agg (Nu s ao n cap ex)) nb (Y - X) (min ea eb)∧u.heap.size≤C.heap.size)∧Bw u w'∧Hid (Hn w' (w.heap.size+1+1) false none 0 0 0 54) ∧
   (w'.cell? ⟨w.heap.size+1+1,0,none⟩=some (.bool false)∧w'.cell? ⟨w.heap.size+1+1,1,none⟩=some (.slice none 0 0)∧w'.cell? ⟨w.heap.size+1+1,2,none⟩=some (iV 0))∧(w'.frozen? ⟨w.heap.size+1+1,0,none⟩=false∧w'.frozen? ⟨w.heap.size+1+1,1,none⟩=false∧w'.frozen? ⟨w.heap.size+1+1,2,none⟩=false):=by
  intro v7 C ho F;obtain⟨qI,qS,rfl,qL,qB⟩:=ho;refine(zF9 ⟨qI,qS,rfl,qL,qB⟩ ω ω).mono ?_
  rintro r w8 ⟨a,rfl,hN,D⟩;obtain⟨s,ao,n,cap,ex,rfl⟩:=hN.shape;have qZ:Bw u w8:=F.trans (D.mono F.size);have qQ:=qQ0 L.out.1 qZ (by have:=L.out.2.size;omega)
  obtain⟨f1,f2⟩:=qQ1 qQ;exact⟨s,ao,n,cap,ex,rfl,⟨hN,F.size⟩,qZ,qQ,f1,f2⟩
 have I:=rord hp hq ω ω;have zF:cmpI (X:Int) (Y:Int)<0:=by unfold cmpI;rw[kU6 ω];omega
 generalize cmpI (X:Int) (Y:Int)=cv at *;clear h1 h2 h3 hp hq qG qU V hs J H hX qC qW qT
 go_wp2_with fail;refine I.mono ?_;rintro r C ⟨rfl,dd,rfl⟩;have qN:=qO.out dd;clear I;have z0:(u.drewN dd).cell? ⟨w.heap.size+1,0,none⟩=some (.bool nb):=b0
 go_wp2
 go_region_held3 (fun w'=>w'.cell? ⟨w.heap.size+1,0,none⟩=some (.bool nb)) (first|(with_reducible assumption)|(refine HK.out _ ?_;with_reducible assumption)|(rw[World.cell?_setCell_other _ _ _ _ (by simp),World.cell?_setCell_other _ _ _ _ (by simp),World.cell?_setCell_other _ _ _ _ (by simp)];refine HK.out _ ?_;with_reducible assumption)|go_keep)
  (first|(go_at_call 150;refine(kS _ (by first|(with_reducible assumption)|exact qN)).mono ?_;rintro r C ⟨v7,rfl,qH,qF⟩)|(go_at_call 103;refine(qJ _ _ qH qF).mono ?_;rintro r w8 ⟨s8,qA,n8,qD,qE,rfl,qM,D,qY,⟨x1,x2,x3⟩,x4,x5,x6⟩))
 have HF:Hid (Bw u w8):=D;clear qH qF D qJ kS x1 x2 x3 x4 x5 x6 a0 a1 a2 b0 b1 b2 HK
 go_wp2;refine kB8 (kM2 rfl _ _ (w.heap.size+1+1) 54 (Nu s8 qA n8 qD qE) (0,0) _ rfl (qZ9 _ _ _ qY.out) Tryz.underlying54 rfl Tryz.info54) rfl ?_;obtain⟨-,hs,J⟩:=HH.out;have qR:=L.out.2.size;have zY:=qM.out.2;exact⟨_,rfl,(qM.out.1.store ω _ _ _).mono ω,qQ4 (J.trans ((L.out.2.trans (HF.out.mono qR)).mono J.size)) ω _ _ _⟩
theorem yM7 (na nb:Bool) (ua va:Option Addr) (un uc vn vc X Y:Nat) (ea eb:Int) (w:World) (qT:Y≤X) (zX:(na==nb)=false) (hX:dlen (X - Y)≤1000000) (qC:dlen X≤1000000) (qW:dlen Y≤1000000) (zH : -4000000≤ea) (zG:ea≤4000000) (zU : -4000000≤eb) (zV:eb≤4000000) (zJ:((un:Int)==0)=false) (zK:((vn:Int)==0)=false)
  (ku:∀ W i,Bw w W→i=ea - min ea eb→Ca 101 #[.slice ua un uc,iV i] W fun r w'=>∃ v,r=.returned v∧Ir w' v X∧Bw W w')
  (kv:∀ W i,Bw w W→i=eb - min ea eb→Ca 101 #[.slice va vn vc,iV i] W fun r w'=>∃ v,r=.returned v∧Ir w' v Y∧Bw W w') :
  Ca 83 #[.agg (Nu na ua un uc ea),.agg (Nu nb va vn vc eb)] w fun r w'=>∃ a,r=.returned a∧NC w' w.heap.size a na (X - Y) (min ea eb)∧Bw w w':=by
 obtain⟨W,hW⟩:=eE (((w.alloc (.cells (Nu na ua un uc ea) 54)).alloc (.cells (Nu nb va vn vc eb) 54)).alloc (.cells (Nu false none 0 0 0) 54));obtain⟨hA,qP,hC,qV,J⟩:=qK9 _ _ _ hW;have k1:=fun i hi=>ku W i J hi;have zZ:Hid _:=kv;have HH:Hid ((Hn W w.heap.size na ua un uc ea 54∧Hn W (w.heap.size+1) nb va vn vc eb 54∧Hn W (w.heap.size+1+1) false none 0 0 0 54)∧W.heap.size=w.heap.size+1+1+1∧Bw w W):=⟨⟨hA,qP,hC⟩,qV,J⟩;clear hA qP hC qV J ku kv
 go_enter Tryz.func83,Tryz.ntmps83
 go_wp2_with fail;rw[←hW];clear hW;refine(k1 _ (by first|rfl|(rw[kB5];omega)|omega)).mono ?_
 rintro r w4 ⟨p,rfl,hp,T⟩;clear k1;obtain⟨⟨a0,a1,a2⟩,-⟩:=qQ1 (qQ0 HH.out.1.1 T (by have:=HH.out.2.1;omega))
 obtain⟨⟨b0,b1,b2⟩,-⟩:=qQ1 (qQ0 HH.out.1.2.1 T (by have:=HH.out.2.1;omega))
 have qK:Hid (Bw W w4):=T;have zQ:Hid (Ir w4 p X):=hp;clear T hp
 go_wp2_with fail;refine(zZ.out w4 _ (HH.out.2.2.trans (qK.out.mono HH.out.2.2.size)) (by first|rfl|(rw[kB5];omega)|omega)).mono ?_
 rintro r u ⟨q,rfl,hq,qX⟩;have V:Bw W u:=qK.out.trans (qX.mono qK.out.size);have hp:=zQ.out.later qX;clear a0 a1 a2 b0 b1 b2 qX;obtain⟨⟨h1,h2,h3⟩,hs,J⟩:=HH.out;obtain⟨⟨a0,a1,a2⟩,-⟩:=qQ1 (qQ0 h1 V ω);obtain⟨⟨b0,b1,b2⟩,-⟩:=qQ1 (qQ0 h2 V ω);have L:Hid (Hn u (w.heap.size+1+1) false none 0 0 0 54∧Bw W u):=⟨qQ0 h3 V ω,V⟩;have qG:=hp;have qU:=hq;have kS:∀ W6,Bw u W6→Ca 150 #[p,q] W6 fun r w'=>∃ v,r=.returned v∧Ir w' v (X - Y)∧Bw u w':=fun W6 F =>
  (xL8 (w:=W6) (qG.later F) (qU.later F) ω ω).mono fun r w' ⟨v,e1,o1,o2⟩=>⟨v,e1,o1,F.trans (o2.mono F.size)⟩
 have H:∀ w',Bw u w'→w'.cell? ⟨w.heap.size,0,none⟩=some (.bool na):=fun w' F=>(F.cell (World.block_lt_of_cell? _ _ a0)).trans a0;have HK:Hid (∀ w',Bw u w'→w'.cell? ⟨w.heap.size,0,none⟩=some (.bool na)):=H;have qO:Hid (∀ dd,Below u.heap.size u (u.drewN dd).drew):=(fun dd=>⟨rfl,rfl,rfl,kH8 _,fun _ _=>rfl⟩:∀ dd,Below u.heap.size u (u.drewN dd).drew);have qN:Bw u u.drew:=bR.drew;have qJ:∀ v7 C,Ir C v7 (X - Y)→Bw u C→Ca 103 #[.bool na,v7,iV (min ea eb)] C fun r w'=>∃ s ao n cap ex,r=.returned (.agg (Nu s ao n cap ex)) ∧
   Hid (NC w' C.heap.size (.agg (Nu s ao n cap ex)) na (X - Y) (min ea eb)∧u.heap.size≤C.heap.size)∧Bw u w'∧Hid (Hn w' (w.heap.size+1+1) false none 0 0 0 54) ∧
   (w'.cell? ⟨w.heap.size+1+1,0,none⟩=some (.bool false)∧w'.cell? ⟨w.heap.size+1+1,1,none⟩=some (.slice none 0 0)∧w'.cell? ⟨w.heap.size+1+1,2,none⟩=some (iV 0))∧(w'.frozen? ⟨w.heap.size+1+1,0,none⟩=false∧w'.frozen? ⟨w.heap.size+1+1,1,none⟩=false∧w'.frozen? ⟨w.heap.size+1+1,2,none⟩=false):=by
  intro v7 C ho F;obtain⟨qI,qS,rfl,qL,qB⟩:=ho;refine(zF9 ⟨qI,qS,rfl,qL,qB⟩ ω ω).mono ?_
  rintro r w8 ⟨a,rfl,hN,D⟩;obtain⟨s,ao,n,cap,ex,rfl⟩:=hN.shape;have qZ:Bw u w8:=F.trans (D.mono F.size);have qQ:=qQ0 L.out.1 qZ (by have:=L.out.2.size;omega)
  obtain⟨f1,f2⟩:=qQ1 qQ;exact⟨s,ao,n,cap,ex,rfl,⟨hN,F.size⟩,qZ,qQ,f1,f2⟩
 have I:=rord hp hq ω ω;have zF:¬ cmpI (X:Int) (Y:Int)<0:=by unfold cmpI;rw[kU5 ω];split <;> omega
 generalize cmpI (X:Int) (Y:Int)=cv at *;clear h1 h2 h3 hp hq qG qU V hs J H hX qC qW qT
 go_wp2_with fail;refine I.mono ?_;rintro r C ⟨rfl,dd,rfl⟩;have qN:=qO.out dd;clear I;have z0:(u.drewN dd).cell? ⟨w.heap.size,0,none⟩=some (.bool na):=a0
 go_wp2
 go_region_held3 (fun w'=>w'.cell? ⟨w.heap.size,0,none⟩=some (.bool na)) (first|(with_reducible assumption)|(refine HK.out _ ?_;with_reducible assumption)|(rw[World.cell?_setCell_other _ _ _ _ (by simp),World.cell?_setCell_other _ _ _ _ (by simp),World.cell?_setCell_other _ _ _ _ (by simp)];refine HK.out _ ?_;with_reducible assumption)|go_keep)
  (first|(go_at_call 150;refine(kS _ (by first|(with_reducible assumption)|exact qN)).mono ?_;rintro r C ⟨v7,rfl,qH,qF⟩)|(go_at_call 103;refine(qJ _ _ qH qF).mono ?_;rintro r w8 ⟨s8,qA,n8,qD,qE,rfl,qM,D,qY,⟨x1,x2,x3⟩,x4,x5,x6⟩))
 have HF:Hid (Bw u w8):=D;clear qH qF D qJ kS x1 x2 x3 x4 x5 x6 a0 a1 a2 b0 b1 b2 HK
 go_wp2;refine kB8 (kM2 rfl _ _ (w.heap.size+1+1) 54 (Nu s8 qA n8 qD qE) (0,0) _ rfl (qZ9 _ _ _ qY.out) Tryz.underlying54 rfl Tryz.info54) rfl ?_;obtain⟨-,hs,J⟩:=HH.out;have qR:=L.out.2.size;have zY:=qM.out.2;exact⟨_,rfl,(qM.out.1.store ω _ _ _).mono ω,qQ4 (J.trans ((L.out.2.trans (HF.out.mono qR)).mono J.size)) ω _ _ _⟩
theorem yA5 {na nb:Bool} {ua Y:Option Addr} {uc u x y:Nat} {ea eb:Int} {w:World} (h1:Arg w ua (dlen x) uc x) (h2:Arg w Y (dlen y) u y) (c1:cn na x ea=(na,x,ea)) (c2:cn nb y eb=(nb,y,eb)) (qV : -2000000≤ea) (qJ:ea≤2000000) (qK : -2000000≤eb) (qX:eb≤2000000) (qY:dlen x≤300000) (qZ:dlen y≤300000) (T:na=nb∨x=0) :
  Ca 83 #[.agg (Nu na ua (dlen x) uc ea),.agg (Nu nb Y (dlen y) u eb)] w fun r w'=>∃ a,r=.returned a∧NC w' w.heap.size a (sumN na x ea nb y eb).1 (sumN na x ea nb y eb).2.1 (sumN na x ea nb y eb).2.2∧Bw w w':=by
 unfold sumN;by_cases V:x=0
 ·rw[kU6 V];show Calls _ _ _ _ fun r w'=>∃ a,r=.returned a∧NC w' w.heap.size a nb y eb∧_
  subst V;rw[qQ5];refine(yZ8 na nb ua Y uc _ u ea eb w y h2).mono ?_
  rintro r w' ⟨qQ,F,rfl,C,H⟩;exact⟨_,rfl,C.nc (by first|exact c2|exact c1) ω,H⟩
 ·rw[kU5 V];by_cases D:y=0
  ·rw[kU6 D];show Calls _ _ _ _ fun r w'=>∃ a,r=.returned a∧NC w' w.heap.size a na x ea∧_
   subst D;rw[qQ5];refine(yZ7 na nb ua Y _ uc u ea eb w x h1 (qY8 (n:=0) V)).mono ?_
   rintro r w' ⟨qQ,F,rfl,C,H⟩;exact⟨_,rfl,C.nc (by first|exact c2|exact c1) ω,H⟩
  ·rw[kU5 D];have l1:dlen (x*2^(ea - min ea eb).toNat)≤760000:=by have:=qK2 (x:=x) (k:=(ea - min ea eb).toNat) rfl;omega
   have l2:dlen (y*2^(eb - min ea eb).toNat)≤760000:=by have:=qK2 (x:=y) (k:=(eb - min ea eb).toNat) rfl;omega
   have ku:∀ W i,Bw w W→i=ea - min ea eb→Ca 101 #[.slice ua (dlen x) uc,iV i] W fun r w'=>∃ v,r=.returned v∧Ir w' v (x*2^(ea - min ea eb).toNat)∧Bw W w':=by
    intro W i I hi;have J:i=(((ea - min ea eb).toNat:Nat):Int):=ω;rw[J];exact rup ⟨ua,uc,rfl,h1.le,(h1.later I).at_⟩ _ ω ω
   have kv:∀ W i,Bw w W→i=eb - min ea eb→Ca 101 #[.slice Y (dlen y) u,iV i] W fun r w'=>∃ v,r=.returned v∧Ir w' v (y*2^(eb - min ea eb).toNat)∧Bw W w':=by
    intro W i I hi;have J:i=(((eb - min ea eb).toNat:Nat):Int):=ω;rw[J];exact rup ⟨Y,u,rfl,h2.le,(h2.later I).at_⟩ _ ω ω
   have hs:=T.resolve_right V;rw[kU6 hs];have L:(na==nb)=true:=by simp[hs]
   refine(zS2 na nb ua Y _ uc _ u _ _ ea eb w L (by have:=qJ7 (x*2^(ea - min ea eb).toNat) (y*2^(eb - min ea eb).toNat);omega) ω ω ω ω ω ω (qY8 (n:=0) V) (qY8 (n:=0) D) ku kv).mono ?_
   rintro r w' ⟨a,rfl,hn,H⟩;exact⟨a,rfl,hn,H⟩
theorem qO5 {na nb:Bool} {ua Y:Option Addr} {uc u x y:Nat} {ea eb:Int} {w:World} (h1:Arg w ua (dlen x) uc x) (h2:Arg w Y (dlen y) u y) (c1:cn na x ea=(na,x,ea)) (c2:cn nb y eb=(nb,y,eb)) (qV : -2000000≤ea) (qJ:ea≤2000000) (qK : -2000000≤eb) (qX:eb≤2000000) (qY:dlen x≤300000) (qZ:dlen y≤300000) :
  Ca 83 #[.agg (Nu na ua (dlen x) uc ea),.agg (Nu nb Y (dlen y) u eb)] w fun r w'=>∃ a,r=.returned a∧NC w' w.heap.size a (sumN na x ea nb y eb).1 (sumN na x ea nb y eb).2.1 (sumN na x ea nb y eb).2.2∧Bw w w':=by
 unfold sumN;by_cases H:x=0
 ·rw[kU6 H];show Calls _ _ _ _ fun r w'=>∃ a,r=.returned a∧NC w' w.heap.size a nb y eb∧_
  subst H;rw[qQ5];refine(yZ8 na nb ua Y uc _ u ea eb w y h2).mono ?_
  rintro r w' ⟨qQ,C,rfl,hd,V⟩;exact⟨_,rfl,hd.nc (by first|exact c2|exact c1) ω,V⟩
 ·rw[kU5 H];by_cases T:y=0
  ·rw[kU6 T];show Calls _ _ _ _ fun r w'=>∃ a,r=.returned a∧NC w' w.heap.size a na x ea∧_
   subst T;rw[qQ5];refine(yZ7 na nb ua Y _ uc u ea eb w x h1 (qY8 (n:=0) H)).mono ?_
   rintro r w' ⟨qQ,C,rfl,hd,V⟩;exact⟨_,rfl,hd.nc (by first|exact c2|exact c1) ω,V⟩
  ·rw[kU5 T];have l1:dlen (x*2^(ea - min ea eb).toNat)≤760000:=by have:=qK2 (x:=x) (k:=(ea - min ea eb).toNat) rfl;omega
   have l2:dlen (y*2^(eb - min ea eb).toNat)≤760000:=by have:=qK2 (x:=y) (k:=(eb - min ea eb).toNat) rfl;omega
   have ku:∀ W i,Bw w W→i=ea - min ea eb→Ca 101 #[.slice ua (dlen x) uc,iV i] W fun r w'=>∃ v,r=.returned v∧Ir w' v (x*2^(ea - min ea eb).toNat)∧Bw W w':=by
    intro W i hW hi;have D:i=(((ea - min ea eb).toNat:Nat):Int):=ω;rw[D];exact rup ⟨ua,uc,rfl,h1.le,(h1.later hW).at_⟩ _ ω ω
   have kv:∀ W i,Bw w W→i=eb - min ea eb→Ca 101 #[.slice Y (dlen y) u,iV i] W fun r w'=>∃ v,r=.returned v∧Ir w' v (y*2^(eb - min ea eb).toNat)∧Bw W w':=by
    intro W i hW hi;have D:i=(((eb - min ea eb).toNat:Nat):Int):=ω;rw[D];exact rup ⟨Y,u,rfl,h2.le,(h2.later hW).at_⟩ _ ω ω
   by_cases I:na=nb
   ·rw[kU6 I];have J:(na==nb)=true:=by simp[I]
    refine(zS2 na nb ua Y _ uc _ u _ _ ea eb w J (by have:=qJ7 (x*2^(ea - min ea eb).toNat) (y*2^(eb - min ea eb).toNat);omega) ω ω ω ω ω ω (qY8 (n:=0) H) (qY8 (n:=0) T) ku kv).mono ?_
    rintro r w' ⟨a,rfl,L,V⟩;exact⟨a,rfl,L,V⟩
   ·rw[kU5 I];have J:(na==nb)=false:=by simp[I]
    by_cases F:x*2^(ea - min ea eb).toNat<y*2^(eb - min ea eb).toNat
    ·rw[kU6 F];refine(yM8 na nb ua Y _ uc _ u _ _ ea eb w F J (kF8 (qZ5 (Nat.sub_le ..)) ω) ω ω ω ω ω ω (qY8 (n:=0) H) (qY8 (n:=0) T) ku kv).mono ?_
     rintro r w' ⟨a,rfl,L,V⟩;exact⟨a,rfl,L,V⟩
    ·rw[kU5 F];refine(yM7 na nb ua Y _ uc _ u _ _ ea eb w ω J (kF8 (qZ5 (Nat.sub_le ..)) ω) ω ω ω ω ω ω (qY8 (n:=0) H) (qY8 (n:=0) T) ku kv).mono ?_
     rintro r w' ⟨a,rfl,L,V⟩;exact⟨a,rfl,L,V⟩
end Go.Proofs.YtfkaogdmlcdceaaGreatDoor
