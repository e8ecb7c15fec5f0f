/- Own work: contracts of the program's functions, part 7: F2 FL1 FL2 SA2 SA1 SA4 SA5 RB1 RB2 RB3 R7 RB4 RB5 RB6 R8 RB7 RB8 RB9 W33 RC1. -/
import Derived.Test.YtbanebginnakhaaGreatDoorA3
import Derived.Laws.FloatArith
import Derived.Laws.NewFold
import Derived.Test.YtbanebginnakhaaGreatDoorA6
import Derived.Test.YtbanebginnakhaaGreatDoorA4
import Derived.Test.YtbanebginnakhaaGreatDoorA1
import Derived.Laws.AppendOwnNone

set_option maxHeartbeats 16000000
set_option maxRecDepth 200000
set_option linter.unusedVariables false
set_option linter.unusedSimpArgs false
/- A finite float and nought, added: the float; of noughts +0. -/
namespace Go.Fl64
end Go.Fl64
/- Floats that are not finite, and what sums of them are; a float and itself, taken away. -/
namespace Go.Fl64
def fin (a:Nat):Bool:=decide (mag a<9218868437227405312)
def ngt (a:Nat):Nat:=if neg a then a - 9223372036854775808 else a+9223372036854775808
theorem yJ8 (a:Nat) (h:a<18446744073709551616):a ^^^ 9223372036854775808=ngt a:=by
 unfold ngt neg;by_cases hn:9223372036854775808≤a
 ·rw[decide_eq_true hn,if_pos rfl];have e1:=Nat.two_pow_add_eq_or_of_lt (i:=63) (show a - 9223372036854775808<2^63 by omega) 1
  apply Nat.eq_of_testBit_eq
  intro i;have e2:a=2^63*1+(a - 9223372036854775808):=by omega
  rw[Nat.testBit_xor,show(9223372036854775808:Nat)=2^63 from rfl,Nat.testBit_two_pow];rw[show(9223372036854775808:Nat)=2^63 from rfl] at e1 e2;have e3:a.testBit i=(2^63 ||| (a - 2^63)).testBit i:=by
   rw[Nat.mul_one] at e1;rw[←e1];congr 1
  rw[e3,Nat.testBit_or,Nat.testBit_two_pow];by_cases hi:63=i
  ·subst hi;have:(a - 2^63).testBit 63=false:=Nat.testBit_lt_two_pow (by omega)
   rw[this];simp
  ·simp[hi]
 ·rw[decide_eq_false hn,if_neg (by decide)]
  have e1:=Nat.two_pow_add_eq_or_of_lt (i:=63) (show a<2^63 by omega) 1
  rw[Nat.mul_one] at e1;rw[show(9223372036854775808:Nat)=2^63 from rfl,Nat.add_comm a,e1];apply Nat.eq_of_testBit_eq
  intro i;rw[Nat.testBit_xor,Nat.testBit_or,Nat.testBit_two_pow];by_cases hi:63=i
  ·subst hi;have:a.testBit 63=false:=Nat.testBit_lt_two_pow (by omega)
   rw[this];simp
  ·simp[hi]
theorem negF (a:Nat) (h:a<18446744073709551616):Op.negFloat .f64 a=ngt a:=by
 rw[←yJ8 a h];rfl
end Go.Fl64
/- Products and quotients of floats of which one is nought or not finite. -/
namespace Go.Fl64
end Go.Fl64
namespace Go.Proofs.YtbanebginnakhaaGreatDoor
open Go.RowKit Go.Fl64
def OutA (W:World) (t:Bool×Nat×Int) (r:Ending) (w':World):Prop:=∃ s ao n cap e,r=.returned (.agg #[.bool s,.slice ao n cap,.int .i64 e])∧PN w' (.agg #[.bool s,.slice ao n cap,.int .i64 e]) t∧Bw W w'
theorem yY6 {w:World} {ao:Option Addr} {n z g:Nat} {p q r:Value} (h:At w ao n z) (hg:w.heap[g]?=some (.cells #[p,q,r] 84 (0,0))) (hp:∀ k,p ≠ .int .u32 k) (hq:∀ k,q ≠ .int .u32 k) (hr:∀ k,r ≠ .int .u32 k) (a b c:Value):At (((w.setCell ⟨g,0,none⟩ a).setCell ⟨g,1,none⟩ b).setCell ⟨g,2,none⟩ c) ao n z:=by
 obtain⟨bb,o,h1,h2⟩:=h;refine⟨bb,o,h1,fun i hi=>?_⟩
 by_cases hb:bb=g
 ·subst hb;have:=h2 i hi
  simp only[World.cell?,hg] at this;exfalso;have hlt:o+i<3:=by
   rcases Nat.lt_or_ge (o+i) 3 with h|h
   ·exact h
   ·rw[Array.getElem?_eq_none (by simpa using h)] at this;simp at this
  rcases(show o+i=0∨o+i=1∨o+i=2 by omega)with h|h|h
  ·rw[h] at this;simp at this;exact hp _ this
  ·rw[h] at this;simp at this;exact hq _ this
  ·rw[h] at this;simp at this;exact hr _ this
 ·rw[World.cell?_setCell_other _ _ _ _ (by intro e;simp at e <;> omega),World.cell?_setCell_other _ _ _ _ (by intro e;simp at e <;> omega),World.cell?_setCell_other _ _ _ _ (by intro e;simp at e <;> omega)]
  exact h2 i hi
theorem qB0 {w:World} {A:Value} {t:Bool×Nat×Int} {g:Nat} (h:PN w A t) (hg:w.heap[g]?=some (.cells #[.bool false,.slice none 0 0,.int .i64 0] 84 (0,0))) (a b c:Value):PN (((w.setCell ⟨g,0,none⟩ a).setCell ⟨g,1,none⟩ b).setCell ⟨g,2,none⟩ c) A t:=by
 obtain⟨ao,cap,h1,ao',cap',e',h2,h3,h4⟩:=h;exact⟨ao,cap,h1,ao',cap',e',h2,h3,yY6 h4 hg (by simp) (by simp) (by simp) a b c⟩
theorem xH1 {t:Bool×Nat×Int} {A:Value} {m:Int} {w:World} (hT:Tab32 w) (ok:Ok t) (h:PN w A t) (hm:1≤m∧m≤3) :
  Calls Tryz.prog 224 #[A,.int .i64 m] w fun r w'=>r=.returned (.tuple #[.float .f64 (tfF t.1 true t.2.1 t.2.2 m),.int .i64 0])∧Bw w w':=by
 obtain⟨pa,pc,rfl,i1⟩:=h;obtain⟨f1,f2,f3,-,-⟩:=ok.facts;refine c24_1 t.1 pa _ pc _ t.2.2 m w (fun W' g hW' hg=>?_) (fun W'=>c48 m (by omega) W') (fun W' hW'=>?_)
 ·have:=zQ9 hg (i1.later hW') (by omega)
  rw[show okN t.1 (dlen t.2.1) t.2.1 t.2.2=true from ok] at this;exact this
 ·exact c106 (neg:=t.1) (e:=t.2.2) (mode:=m) (hT.later hW') (i1.later hW') (by omega) (by omega) (by omega)
end Go.Proofs.YtbanebginnakhaaGreatDoor
/- The document's small functions on floats, call by call. -/
namespace Go.Proofs.YtbanebginnakhaaGreatDoor.Ie
open Go.RowKit Go.Fl64
end Go.Proofs.YtbanebginnakhaaGreatDoor.Ie
namespace Go.Proofs.YtbanebginnakhaaGreatDoor
open Go.RowKit Go.Fl64
theorem zE6 {s:Bool} {m:Int} (hm:1≤m∧m≤3):Ie.mk s 0 0 m 9221120237041090561=sig s 0:=by
 unfold Ie.mk;rw[if_pos (by omega),if_pos rfl]
end Go.Proofs.YtbanebginnakhaaGreatDoor
namespace Go.Proofs.YtbanebginnakhaaGreatDoor
open Go.RowKit
def Ir (w:World) (v:Value) (x:Nat):Prop:=∃ ao cap,v=.slice ao (dlen x) cap∧dlen x≤cap∧At w ao (dlen x) x
theorem Is.ir {w:World} {v:Value} {x:Nat} (h:Is w v x):Ir w v x:=by
 obtain⟨ao,cap,h1,h2,h3,h4⟩:=h;exact⟨ao,cap,h1,h2,h4⟩
theorem Ir.later {w w':World} {v:Value} {x:Nat} (h:Ir w v x) (hb:Bw w w'):Ir w' v x:=by
 obtain⟨ao,cap,h1,h2,h3⟩:=h;exact⟨ao,cap,h1,h2,h3.later hb⟩
theorem Ir.nil (w:World) (ao:Option Addr) (cap:Nat):Ir w (.slice ao 0 cap) 0:=⟨ao,cap,by rw[qQ5],by rw[qQ5];omega,0,0,fun h=>by rw[qQ5] at h;omega,fun i hi=>by rw[qQ5] at hi;omega⟩
theorem Mk.drewN {w wr:World} {n:Nat} {f:Nat→Nat} (h:Mk w wr n f) (d:Nat):Mk w (wr.drewN d) n f :=
 ⟨⟨h.below.os,h.below.tape,h.below.output,h.below.size,h.below.block⟩,h.size,h.row⟩
theorem zE3 {c f d e:Nat} (hc:c<B) (hf:f<B) (hd:d<B) (he:e<B) :
  IntKind.u64.wrap (IntKind.u64.wrap (IntKind.u64.wrap (IntKind.u64.wrap (d:Int)*IntKind.u64.wrap (e:Int))+IntKind.u64.wrap (f:Int))+(c:Int))=((c+f+e*d:Nat):Int):=by
 obtain⟨h1,h2,h3⟩:=qB1 hc hf hd he;rw[qZ6 hd,qZ6 he,qZ6 hf,←xC8,xC4 d e];generalize e*d=m at *;rw[xW7,xW7,xW7];omega
theorem yC2 (ao bo:Option Addr) (ba oa bb ob na nb ca cb x y:Nat) (w:World) (ha:ao=some ⟨ba,oa,none⟩) (hb:bo=some ⟨bb,ob,none⟩) (hna0:0<na) (hnb0:0<nb) (hna:na≤1000000000) (hnb:nb≤1000000000) (hx:dlen x=na) (hy:dlen y=nb)
  (hca:∀ i,i<na→w.cell? ⟨ba,oa+i,none⟩=some (.int .u32 (dg x i:Nat))) (hcb:∀ i,i<nb→w.cell? ⟨bb,ob+i,none⟩=some (.int .u32 (dg y i:Nat))) :
  Calls Tryz.prog 147 #[.slice ao na ca,.slice bo nb cb] w fun e w'=>∃ v,e=.returned v∧Own w' w.heap.size v (x*y)∧Bw w w':=by
 subst ha hb;have hmk:=run_make_row' (P:=Tryz.prog) 82 50 (.int .u32 0) 4 Tryz.underlying82 Tryz.info50 rfl .i64 .i64 (na+nb) (by omega) (by omega)
 rw[show((na+nb:Nat):Int)=(na:Int)+nb by omega] at hmk
 have HX:Hid (dlen x=na):=hx;have HY:Hid (dlen y=nb):=hy;have z1:((na:Int)==0)=false:=by simp;omega
 have z2:((nb:Int)==0)=false:=by simp;omega
 clear hx hy
 go_enter Tryz.func147,Tryz.ntmps147
 go_wp2;clear hmk z1 z2
 go_loopw [6] (fun c wr=>∃ i:Nat,i≤na∧c=.int .i64 i∧Mk w wr (na+nb) (dg (x % B^i*y))) (fun c _=>na - (intOf c).toNat)
 case atStart=>exact⟨0,xW5 _,rfl,(Mk.start w _).congr fun t ht=>by simp[Nat.mod_one,dg]⟩
 case round =>
  obtain⟨i,hi,rfl,hO⟩:=hrel;by_cases hia:i<na
  ·have g1:=hO.old (hca i hia);have hii:(i:Int)<(na:Int):=by omega
   have HO:Hid (Mk w wr (na+nb) (dg (x % B^i*y))):=hO;generalize hd:dg x i=d at *;have HD:Hid (dg x i=d):=hd;have HDL:Hid (d<B):=hd ▸ qZ4 _ _;clear hd hO
   go_wp2
   go_loopw [7,8] (fun c s wi=>∃ j:Nat,j≤nb∧c=.int .u64 (macc (x % B^i*y / B^i) y d j:Nat)∧s=.int .i64 j∧Mk w wi (na+nb) (mid x y i j)) (fun _ s _=>nb - (intOf s).toNat)
   case atStart=>exact⟨0,xW5 _,by rw[zZ];rfl,rfl,HO.out.congr fun t ht=>by
     unfold mid;by_cases e:t<i+0
     ·rw[if_pos e,zF0 (by omega)]
     ·rw[if_neg e]⟩
   case round =>
    obtain⟨j,hj,rfl,rfl,hM⟩:=hrel;by_cases hjb:j<nb
    ·have g4:=hM.old (hcb j hjb);have g1':=hM.old (hca i hia);rw[HD.out] at g1';have hji:(j:Int)<(nb:Int):=by omega
     have g2:=hM.cell (i:=i+j) (by omega)
     have g3:=hM.frozen (i+j);have hcl:=zK3 (x % B^i*y / B^i) y d j;have ef:mid x y i j (i+j)=dg (x % B^i*y) (i+j):=if_neg (by omega)
     rw[ef] at g2;generalize hf:dg (x % B^i*y) (i+j)=f at *;generalize he:dg y j=e at *;generalize hc:macc (x % B^i*y / B^i) y d j=c at *;have HE:Hid (dg (x % B^i*y) (i+j)=f∧dg y j=e∧macc (x % B^i*y / B^i) y d j=c):=⟨hf,he,hc⟩;have HL:Hid (c<B∧f<B∧e<B):=⟨by have:=HDL.out;omega,hf ▸ qZ4 _ _,he ▸ qZ4 _ _⟩
     have HM:Hid (Mk w wr (na+nb) (mid x y i j)):=hM;clear hf he hc hcl hM hca hcb ef g1
     go_wp2
     go_quiet (fail)
     have g2':(wr.drewN nq).cell? ⟨w.heap.size,i+j,none⟩=some (.int .u32 (f:Nat)):=g2;have g3':(wr.drewN nq).frozen? ⟨w.heap.size,i+j,none⟩=false:=g3;have HM2:Hid (Mk w (wr.drewN nq) (na+nb) (mid x y i j)):=HM.out.drewN nq;generalize wr.drewN nq=wq at *;clear g1' g2 g3 g4
     go_wp2;exact zQ7 HM2.out (zE3 HL.out.1 HL.out.2.1 HDL.out HL.out.2.2) HD.out HE.out hjb
    ·obtain rfl:j=nb:=by omega
     have g2:=hM.cell (i:=i+j) (by omega)
     have g3:=hM.frozen (i+j);have HM:Hid (Mk w wr (na+j) (mid x y i j)):=hM;generalize hf:mid x y i j (i+j)=f at *;generalize hc:macc (x % B^i*y / B^i) y d j=c at *;have HC:Hid (macc (x % B^i*y / B^i) y d j=c):=hc;clear hf hc hM hca hcb g1
     go_wp2;exact zE4 HM.out HY.out HD.out HDL.out (by rw[HC.out]) hia
  ·obtain rfl:i=na:=by omega
   have hE:Mk w wr (i+nb) (dg (x*y)):=by
    have e:x % B^i=x:=xW3 (by rw[←HX.out];exact qY x)
    rw[e] at hO;exact hO
   have hA:=hE.at;have hL:dlen (x*y)≤i+nb:=by
    have h1:=zY7 x y i;rw[xW3 (by rw[←HX.out];exact qY x),HY.out] at h1
    exact(qQ9 _ _).2 h1
   have HC:Hid (Mk w wr (i+nb) (dg (x*y))):=hE;have k40:=r40 (some ⟨w.heap.size,0,none⟩) (i+nb) (i+nb) (x*y) wr hL (xL0 _) (by omega) hA
   clear hO hca hcb hE hA
   go_wp2_with (first|(go_at_call 148;refine k40.mono ?_;rintro e w' ⟨rfl,rfl⟩))
   go_ret;exact⟨_,rfl,HC.out.own hL (by omega),HC.out.below⟩
theorem yC3 (ao bo:Option Addr) (na nb ca cb:Nat) (w:World) (h:na=0∨nb=0) :
  Calls Tryz.prog 147 #[.slice ao na ca,.slice bo nb cb] w fun e w'=>e=.returned (.slice none 0 0)∧w'=w:=by
 by_cases h1:na=0
 ·subst h1
  go_enter Tryz.func147,Tryz.ntmps147
  go_wp2
  go_ret;exact⟨rfl,rfl⟩
 ·obtain rfl:nb=0:=h.resolve_left h1;have z1:((na:Int)==0)=false:=by simp;omega
  go_enter Tryz.func147,Tryz.ntmps147
  go_wp2
  go_ret;exact⟨rfl,rfl⟩
theorem xV7 {u v:Value} {x y:Nat} {w:World} (h1:Ir w u x) (h2:Ir w v y) (hx:dlen x≤1000000000) (hy:dlen y≤1000000000) :
  Calls Tryz.prog 147 #[u,v] w fun e w'=>∃ v,e=.returned v∧Own w' w.heap.size v (x*y)∧Bw w w':=by
 obtain⟨ao,ca,rfl,a1,ba,oa,a3,a4⟩:=h1;obtain⟨bo,cb,rfl,b1,bb,ob,b3,b4⟩:=h2;by_cases h:x=0∨y=0
 ·refine(yC3 ao bo _ _ ca cb w (h.imp (fun e=>by rw[e,qQ5]) (fun e=>by rw[e,qQ5]))).mono ?_
  rintro e w' ⟨rfl,rfl⟩;refine⟨_,rfl,.inl ⟨rfl,?_⟩,xL1 _ _⟩
  rcases h with h|h <;> rw[h] <;> simp
 ·have hx0:0<dlen x:=xW1 fun e=>h (.inl (qQ7.1 e));have hy0:0<dlen y:=xW1 fun e=>h (.inr (qQ7.1 e));exact yC2 ao bo ba oa bb ob _ _ ca cb x y w (a3 hx0) (b3 hy0) hx0 hy0 hx hy rfl rfl a4 b4
theorem xU0 (ao bo:Option Addr) (na nb ca cb:Nat) (w:World) (h:na≠nb) (hna:na≤1000000000) (hnb:nb≤1000000000) :
  Calls Tryz.prog 140 #[.slice ao na ca,.slice bo nb cb] w fun e w'=>e=.returned (.int .i64 (cmpI na nb))∧w'=w:=by
 have h'':((na:Int) != (nb:Int))=true:=by simp;omega
 unfold cmpI;by_cases hlt:(na:Int)<(nb:Int)
 ·rw[if_pos hlt]
  go_enter Tryz.func140,Tryz.ntmps140
  go_wp2
  go_ret;exact⟨rfl,rfl⟩
 ·rw[if_neg hlt,if_pos (by omega)]
  go_enter Tryz.func140,Tryz.ntmps140
  go_wp2
  go_ret;exact⟨rfl,rfl⟩
theorem xU (ao bo:Option Addr) (ba oa bb ob n ca cb x y:Nat) (w:World) (ha:0<n→ao=some ⟨ba,oa,none⟩) (hb:0<n→bo=some ⟨bb,ob,none⟩) (hn:n≤1000000000) (hx:dlen x=n) (hy:dlen y=n)
  (hca:∀ i,i<n→w.cell? ⟨ba,oa+i,none⟩=some (.int .u32 (dg x i:Nat))) (hcb:∀ i,i<n→w.cell? ⟨bb,ob+i,none⟩=some (.int .u32 (dg y i:Nat))) :
  Calls Tryz.prog 140 #[.slice ao n ca,.slice bo n cb] w fun e w'=>e=.returned (.int .i64 (cmpI x y))∧∃ d,w'=w.drewN d:=by
 have h'':((n:Int) != (n:Int))=false:=by simp
 have HXY:Hid (dlen x=n∧dlen y=n):=⟨hx,hy⟩;clear hx hy
 go_enter Tryz.func140,Tryz.ntmps140
 go_wp2
 go_loopw [5] (fun i wr=>∃ (j d:Nat),j≤n∧i=.int .i64 ((j:Int) - 1)∧wr=w.drewN d∧Hid (x / B^j=y / B^j)) (fun i _=>(intOf i+1).toNat)
 case atStart=>exact⟨n,0,xL0 _,rfl,rfl,(by rw[Nat.div_eq_of_lt ((qQ9 n x).1 (by rw[HXY.out.1];omega)),Nat.div_eq_of_lt ((qQ9 n y).1 (by rw[HXY.out.2];omega))]:x / B^n=y / B^n)⟩
 case round =>
  obtain⟨j,d,hj,rfl,rfl,hh⟩:=hrel;by_cases hj0:j=0
  ·subst hj0;have e:x=y:=by have:=hh.out;simpa using this
   have HE:Hid (cmpI x y=0):=(by subst e;unfold cmpI;simp:cmpI x y=0)
   clear hh e hca hcb
   go_wp2
   go_ret;rw[HE.out];exact⟨rfl,d,rfl⟩
  ·obtain⟨i,rfl⟩:∃ i,j=i+1:=⟨j - 1,by omega⟩
   have hi:i<n:=by omega
   obtain rfl:=ha (by omega)
   obtain rfl:=hb (by omega)
   have g1:(w.drewN d).cell? ⟨ba,oa+i,none⟩=some (.int .u32 (dg x i:Nat)):=hca i hi;have g2:(w.drewN d).cell? ⟨bb,ob+i,none⟩=some (.int .u32 (dg y i:Nat)):=hcb i hi;have hii:(i:Int)<(n:Int):=by omega
   have ei:((i+1:Nat):Int) - 1=(i:Int):=by omega
   rw[ei];generalize hdx:dg x i=dx at *;generalize hdy:dg y i=dy at *;have HD:Hid (dg x i=dx∧dg y i=dy):=⟨hdx,hdy⟩;clear hca hcb hdx hdy ei;have HW:Hid (∃ d',w.drewN d=w.drewN d'):=⟨d,rfl⟩;generalize w.drewN d=wd at *;by_cases hne:dx=dy
   ·subst hne;have t1:((dx:Int) != (dx:Int))=false:=by simp
    go_wp2
    go_quiet (fail)
    go_wp2;obtain⟨d',rfl⟩:=HW.out;exact⟨⟨i,_,by omega,rfl,World.drewN_drewN ..,(zG4 hh.out (HD.out.1.trans HD.out.2.symm):x / B^i=y / B^i)⟩,by simp[intOf]⟩
   ·have t1:((dx:Int) != (dy:Int))=true:=by simp;omega
    by_cases hlt:dx<dy
    ·have t2:(dx:Int)<(dy:Int):=by omega
     have HC:Hid (cmpI x y = -1):=by
      have h1:=HD.out;have:=qP5 (i:=i) hh.out (by omega)
      show cmpI x y = -1
      unfold cmpI;rw[if_pos (by omega)]
     go_wp2
     go_quiet (fail)
     go_wp2;have HV:Hid (∃ d',wd.drewN nq=w.drewN d'):=by
      obtain⟨d',e⟩:=HW.out;exact⟨_,by rw[e];exact World.drewN_drewN ..⟩
     have g1':(wd.drewN nq).cell? ⟨ba,oa+i,none⟩=some (.int .u32 (dx:Nat)):=g1;have g2':(wd.drewN nq).cell? ⟨bb,ob+i,none⟩=some (.int .u32 (dy:Nat)):=g2;generalize wd.drewN nq=wq at *
     go_quiet (fail)
     go_wp2
     go_ret;obtain⟨d',e⟩:=HV.out;rw[HC.out,e];exact⟨rfl,_,World.drewN_drewN ..⟩
    ·have t2:¬ (dx:Int)<(dy:Int):=by omega
     have HC:Hid (cmpI x y=1):=by
      have h1:=HD.out;have:=qP5 (i:=i) hh.out.symm (by omega)
      show cmpI x y=1
      unfold cmpI;rw[if_neg (by omega),if_pos (by omega)]
     go_wp2
     go_quiet (fail)
     go_wp2;have HV:Hid (∃ d',wd.drewN nq=w.drewN d'):=by
      obtain⟨d',e⟩:=HW.out;exact⟨_,by rw[e];exact World.drewN_drewN ..⟩
     have g1':(wd.drewN nq).cell? ⟨ba,oa+i,none⟩=some (.int .u32 (dx:Nat)):=g1;have g2':(wd.drewN nq).cell? ⟨bb,ob+i,none⟩=some (.int .u32 (dy:Nat)):=g2;generalize wd.drewN nq=wq at *
     go_quiet (fail)
     go_wp2
     go_ret;obtain⟨d',e⟩:=HV.out;rw[HC.out,e];exact⟨rfl,_,World.drewN_drewN ..⟩
theorem rord {u v:Value} {x y:Nat} {w:World} (h1:Ir w u x) (h2:Ir w v y) (hx:dlen x≤1000000000) (hy:dlen y≤1000000000) :
  Calls Tryz.prog 140 #[u,v] w fun e w'=>e=.returned (.int .i64 (cmpI x y))∧∃ d,w'=w.drewN d:=by
 obtain⟨ao,ca,rfl,a1,ba,oa,a3,a4⟩:=h1;obtain⟨bo,cb,rfl,b1,bb,ob,b3,b4⟩:=h2;by_cases h:dlen x=dlen y
 ·rw[←h] at b3 b4 ⊢;exact xU ao bo ba oa bb ob _ ca cb x y w a3 b3 hx rfl h.symm a4 b4
 ·refine(xU0 ao bo _ _ ca cb w h hx hy).mono ?_
  rintro e w' ⟨rfl,rfl⟩;refine⟨congrArg Ending.returned (congrArg (Value.int IntKind.i64) ?_),0,rfl⟩
  unfold cmpI;rcases Nat.lt_or_gt_of_ne h with h2|h2
  ·have:=qB2 h2
   rw[if_pos (by omega),if_pos (by omega)]
  ·have:=qB2 h2
   rw[if_neg (by omega),if_pos (by omega),if_neg (by omega),if_pos (by omega)]
theorem qU4 {w wr w':World} {j z:Nat} {q:Int} {v v':Value} (hq:q=(dg z j:Nat)) (hB:Bw w wr) (ho:wr.ownsRow w.heap.size 50 1 v j (cells z j))
  (ho':w'.ownsRow w.heap.size 50 1 v' (j+1) (cells z j ++ [.int .u32 q])) (hg:(wr.alloc (.cells #[.int .u32 q] 50)).grownBy w' v.ownBlock) :
  w'.ownsRow w.heap.size 50 1 v' (j+1) (cells z (j+1))∧Bw w w' :=
 ⟨by rw[qS4,←hq];exact ho',(hB.alloc hB.size _).grown hg (by simp;have:=hB.size;omega) (fun k hk=>(ho.lt k hk).1)⟩
theorem yB7 {x y n:Nat} (hx:x<B^n) (hy:y<B^n):addc x y n=(x+y) / B^n:=by
 unfold addc;rw[xW3 hx,xW3 hy]
theorem xV6 (ao bo:Option Addr) (ba oa bb ob na nb ca cb x y N:Nat) (w:World) (ha:0<na→ao=some ⟨ba,oa,none⟩) (hb:0<nb→bo=some ⟨bb,ob,none⟩) (hN:N=max na nb) (hNb:N≤1000000000) (hx:dlen x=na) (hy:dlen y=nb)
  (hca:∀ i,i<na→w.cell? ⟨ba,oa+i,none⟩=some (.int .u32 (dg x i:Nat))) (hcb:∀ i,i<nb→w.cell? ⟨bb,ob+i,none⟩=some (.int .u32 (dg y i:Nat))) :
  Calls Tryz.prog 139 #[.slice ao na ca,.slice bo nb cb] w fun e w'=>∃ v,e=.returned v∧Ir w' v (x+y)∧Bw w w':=by
 have HXY:Hid (dlen x=na∧dlen y=nb∧N=max na nb):=⟨hx,hy,hN⟩;have HCA:Hid (∀ i,i<na→w.cell? ⟨ba,oa+i,none⟩=some (.int .u32 (dg x i:Nat))):=hca;have HCB:Hid (∀ i,i<nb→w.cell? ⟨bb,ob+i,none⟩=some (.int .u32 (dg y i:Nat))):=hcb;have hNa:na≤N:=by omega
 have hNb2:nb≤N:=by omega
 clear hx hy hca hcb hN
 go_enter Tryz.func139,Tryz.ntmps139
 go_wp2
 go_loopw [5,6,7] (fun v c i wr=>∃ j:Nat,j≤N∧c=.int .u64 (addc x y j:Nat)∧i=.int .i64 j∧wr.ownsRow w.heap.size 50 1 v j (cells (x+y) j)∧Bw w wr) (fun _ _ i _=>N - (intOf i).toNat)
 case atStart=>exact⟨0,xW5 _,by rw[qF5];rfl,rfl,World.ownsRow_nil ..,xL1 _ _⟩
 case round =>
  obtain⟨j,hj,rfl,rfl,ho,hB⟩:=hrel;have HO:Hid (wr.ownsRow w.heap.size 50 1 u5 j (cells (x+y) j)):=ho;have HB:Hid (Bw w wr):=hB;have hbs:w.heap.size≤wr.heap.size:=hB.size;have HL:Hid (dg x j<B∧dg y j<B∧addc x y j≤1):=⟨qZ4 _ _,qZ4 _ _,qU7 _ _ _⟩;by_cases hjN:j<N
  ·-- what comes to the carry, from both
   have hkey:∀ (dx dy c Q:Nat),dg x j=dx→dg y j=dy→addc x y j=c→Q=c+dx+dy→((Q:Int) % 4294967296=(dg (x+y) j:Nat))∧((Q:Int) / 4294967296=(addc x y (j+1):Nat)):=by
    rintro dx dy c Q rfl rfl rfl rfl;rw[qD1,qD4];unfold B;omega
   have HKY:Hid (∀ (dx dy c Q:Nat),dg x j=dx→dg y j=dy→addc x y j=c→Q=c+dx+dy→((Q:Int) % 4294967296=(dg (x+y) j:Nat))∧((Q:Int) / 4294967296=(addc x y (j+1):Nat))):=hkey;obtain⟨i0,hi0,hz0,hz1,hz2⟩:=info_parts Tryz.info50;have e64:∀ q:Int,0≤q→q<18446744073709551616→IntKind.u64.wrap q=q:=fun q h1 h2=>by rw[xW7];omega
   by_cases hja:j<na
   ·obtain rfl:=ha (by omega)
    have g1:=(hB.cell (World.block_lt_of_cell? _ _ (HCA.out j hja))).trans (HCA.out j hja);have hji:(j:Int)<(na:Int):=by omega
    by_cases hjb:j<nb
    ·obtain rfl:=hb (by omega)
     have g4:=(hB.cell (World.block_lt_of_cell? _ _ (HCB.out j hjb))).trans (HCB.out j hjb);have hji2:(j:Int)<(nb:Int):=by omega
     generalize hd:dg x j=d at *;generalize hd1:dg y j=d1 at *;generalize hc:addc x y j=c at *;obtain⟨K,hK⟩:∃ K:Nat,K=c+d:=⟨_,rfl⟩;obtain⟨Q,hQ⟩:∃ Q:Nat,Q=c+d+d1:=⟨_,rfl⟩;have w1:IntKind.u64.wrap (d:Int)=(d:Int):=qZ6 HL.out.1;have w2:IntKind.u64.wrap (d1:Int)=(d1:Int):=qZ6 HL.out.2.1;have hl:=HL.out;unfold B at hl;have w3:IntKind.u64.wrap ((c:Int)+(d:Int))=(K:Int):=by rw[e64 _ (by omega) (by omega)];omega
     have w4:IntKind.u64.wrap ((K:Int)+(d1:Int))=(Q:Int):=by rw[e64 _ (by omega) (by omega)];omega
     have HD:Hid ((Q:Int) % 4294967296=(dg (x+y) j:Nat)∧(Q:Int) / 4294967296=(addc x y (j+1):Nat)):=HKY.out d d1 c Q rfl rfl rfl hQ;clear hd hd1 hc hB hl hkey e64 hK hQ
     go_wp2_with (at_builtin;refine wpList_append_own _ rfl _ _ 82 rfl w.heap.size 50 i0 (.int .u32 0) 1 4 Tryz.underlying82 hi0 hz0 hz1 hz2 rfl (by decide) _ _ _ rfl (ho.alloc _) ⟨wr.heap.size,0,none⟩ 1 1 [.int .u32 ((Q:Int) % 4294967296)] rfl rfl (cell_one_new _ _ _) (by intro u hu;simp at hu;subst hu;rfl) (by unfold maxLen;omega) (by omega) (by simp;omega) ?_)
     intro v' w5 hown5 hgrow _;obtain⟨r1,r2⟩:=qU4 HD.out.1 HB.out HO.out hown5 hgrow;have HR:Hid (w5.ownsRow w.heap.size 50 1 v' (j+1) (cells (x+y) (j+1))∧Bw w w5):=⟨r1,r2⟩;clear hown5 hgrow r1 r2 ho
     go_wp2;exact⟨⟨j+1,by omega,by rw[HD.out.2],by simp,HR.out⟩,by simp[intOf];omega⟩
    ·have hji2:¬ (j:Int)<(nb:Int):=by omega
     have hd1:dg y j=0:=qY6 (by rw[HXY.out.2.1];omega)
     generalize hd:dg x j=d at *;generalize hc:addc x y j=c at *;obtain⟨Q,hQ⟩:∃ Q:Nat,Q=c+d+0:=⟨_,rfl⟩;have w1:IntKind.u64.wrap (d:Int)=(d:Int):=qZ6 HL.out.1;have hl:=HL.out;unfold B at hl;have w3:IntKind.u64.wrap ((c:Int)+(d:Int))=(Q:Int):=by rw[e64 _ (by omega) (by omega)];omega
     have HD:Hid ((Q:Int) % 4294967296=(dg (x+y) j:Nat)∧(Q:Int) / 4294967296=(addc x y (j+1):Nat)):=HKY.out d 0 c Q rfl hd1 rfl hQ;clear hd hd1 hc hB hl hkey e64 hQ
     go_wp2_with (at_builtin;refine wpList_append_own _ rfl _ _ 82 rfl w.heap.size 50 i0 (.int .u32 0) 1 4 Tryz.underlying82 hi0 hz0 hz1 hz2 rfl (by decide) _ _ _ rfl (ho.alloc _) ⟨wr.heap.size,0,none⟩ 1 1 [.int .u32 ((Q:Int) % 4294967296)] rfl rfl (cell_one_new _ _ _) (by intro u hu;simp at hu;subst hu;rfl) (by unfold maxLen;omega) (by omega) (by simp;omega) ?_)
     intro v' w5 hown5 hgrow _;obtain⟨r1,r2⟩:=qU4 HD.out.1 HB.out HO.out hown5 hgrow;have HR:Hid (w5.ownsRow w.heap.size 50 1 v' (j+1) (cells (x+y) (j+1))∧Bw w w5):=⟨r1,r2⟩;clear hown5 hgrow r1 r2 ho
     go_wp2;exact⟨⟨j+1,by omega,by rw[HD.out.2],by simp,HR.out⟩,by simp[intOf];omega⟩
   ·have hji:¬ (j:Int)<(na:Int):=by omega
    have hjb:j<nb:=by have:=HXY.out.2.2;omega
    obtain rfl:=hb (by omega)
    have g4:=(hB.cell (World.block_lt_of_cell? _ _ (HCB.out j hjb))).trans (HCB.out j hjb);have hji2:(j:Int)<(nb:Int):=by omega
    have hd:dg x j=0:=qY6 (by rw[HXY.out.1];omega)
    generalize hd1:dg y j=d1 at *;generalize hc:addc x y j=c at *;obtain⟨Q,hQ⟩:∃ Q:Nat,Q=c+0+d1:=⟨_,rfl⟩;have w2:IntKind.u64.wrap (d1:Int)=(d1:Int):=qZ6 HL.out.2.1;have hl:=HL.out;unfold B at hl;have w4:IntKind.u64.wrap ((c:Int)+(d1:Int))=(Q:Int):=by rw[e64 _ (by omega) (by omega)];omega
    have HD:Hid ((Q:Int) % 4294967296=(dg (x+y) j:Nat)∧(Q:Int) / 4294967296=(addc x y (j+1):Nat)):=HKY.out 0 d1 c Q hd rfl rfl hQ;clear hd hd1 hc hB hl hkey e64 hQ
    go_wp2_with (at_builtin;refine wpList_append_own _ rfl _ _ 82 rfl w.heap.size 50 i0 (.int .u32 0) 1 4 Tryz.underlying82 hi0 hz0 hz1 hz2 rfl (by decide) _ _ _ rfl (ho.alloc _) ⟨wr.heap.size,0,none⟩ 1 1 [.int .u32 ((Q:Int) % 4294967296)] rfl rfl (cell_one_new _ _ _) (by intro u hu;simp at hu;subst hu;rfl) (by unfold maxLen;omega) (by omega) (by simp;omega) ?_)
    intro v' w5 hown5 hgrow _;obtain⟨r1,r2⟩:=qU4 HD.out.1 HB.out HO.out hown5 hgrow;have HR:Hid (w5.ownsRow w.heap.size 50 1 v' (j+1) (cells (x+y) (j+1))∧Bw w w5):=⟨r1,r2⟩;clear hown5 hgrow r1 r2 ho
    go_wp2;exact⟨⟨j+1,by omega,by rw[HD.out.2],by simp,HR.out⟩,by simp[intOf];omega⟩
  ·obtain rfl:j=N:=by omega
   have hjna:¬ (j:Int)<(na:Int):=by omega
   have hjnb:¬ (j:Int)<(nb:Int):=by omega
   obtain⟨l1,l2,l3⟩:=HXY.out;have hxl:x<B^j:=(qQ9 j x).1 (by omega)
   have hyl:y<B^j:=(qQ9 j y).1 (by omega)
   have htop:=yB7 hxl hyl;have hc1:=HL.out.2.2;by_cases hc0:addc x y j=0
   ·have hlen:dlen (x+y)=j:=by
     have h1:x+y<B^j:=by
      rw[hc0] at htop;exact(Nat.div_eq_zero_iff.1 htop.symm).resolve_left (by have:=qQ8 j;omega)
     have h2:dlen (x+y)≤j:=(qQ9 _ _).2 h1;have h3:dlen x≤dlen (x+y):=qZ3 (by omega)
     have h4:dlen y≤dlen (x+y):=qZ3 (by omega)
     omega
    rw[hc0];obtain⟨ao',cap',rfl,hcp,hA⟩:=qJ ho;have HR:Hid (Ir wr (.slice ao' j cap') (x+y)):=⟨ao',cap',by rw[hlen],by omega,by rw[hlen];exact hA⟩
    clear ho hB hlen htop hxl hyl l1 l2 l3 hA hc0 hc1
    go_wp2
    go_ret;exact⟨_,rfl,HR.out,HB.out⟩
   ·have hc:addc x y j=1:=by omega
    have hlen:dlen (x+y)=j+1:=by
     have h1:B^j≤x+y:=by
      rw[hc] at htop;refine Nat.le_of_not_lt fun h=>?_;rw[Nat.div_eq_of_lt h] at htop;omega
     have h2:¬ dlen (x+y)≤j:=fun h=>by have:=(qQ9 _ _).1 h;omega
     have h3:=qK3 x y;omega
    have hdg:dg (x+y) j=1:=by
     rw[qD1,qY6 (x:=x) (by omega),qY6 (x:=y) (by omega),hc]
     decide
    have HD:Hid ((1:Int)=(dg (x+y) j:Nat)):=(by rw[hdg];rfl:(1:Int)=(dg (x+y) j:Nat))
    have HLN:Hid (dlen (x+y)=j+1):=hlen;rw[hc];obtain⟨i0,hi0,hz0,hz1,hz2⟩:=info_parts Tryz.info50;clear hB hlen htop hxl hyl l1 l2 l3 hc0 hc1 hc hdg
    go_wp2_with (at_builtin;refine wpList_append_own _ rfl _ _ 82 rfl w.heap.size 50 i0 (.int .u32 0) 1 4 Tryz.underlying82 hi0 hz0 hz1 hz2 rfl (by decide) _ _ _ rfl (ho.alloc _) ⟨wr.heap.size,0,none⟩ 1 1 [.int .u32 1] rfl rfl (cell_one_new _ _ _) (by intro u hu;simp at hu;subst hu;rfl) (by unfold maxLen;omega) (by omega) (by simp;omega) ?_)
    intro v' w5 hown5 hgrow _;obtain⟨r1,r2⟩:=qU4 HD.out HB.out HO.out hown5 hgrow;obtain⟨ao',cap',rfl,hcp,hA⟩:=qJ r1;have HR:Hid (Ir w5 (.slice ao' (j+1) cap') (x+y)∧Bw w w5):=⟨⟨ao',cap',by rw[HLN.out],by rw[HLN.out];omega,by rw[HLN.out];exact hA⟩,r2⟩
    clear hown5 hgrow r1 r2 ho hA hcp
    go_wp2
    go_ret;exact⟨_,rfl,HR.out⟩
theorem rsum {u v:Value} {x y:Nat} {w:World} (h1:Ir w u x) (h2:Ir w v y) (hx:dlen x≤1000000000) (hy:dlen y≤1000000000) :
  Calls Tryz.prog 139 #[u,v] w fun e w'=>∃ v,e=.returned v∧Ir w' v (x+y)∧Bw w w':=by
 obtain⟨ao,ca,rfl,a1,ba,oa,a3,a4⟩:=h1;obtain⟨bo,cb,rfl,b1,bb,ob,b3,b4⟩:=h2;exact xV6 ao bo ba oa bb ob _ _ ca cb x y _ w a3 b3 rfl (by omega) rfl rfl a4 b4
theorem yC7 (ao bo:Option Addr) (ba oa bb ob na nb ca cb x y:Nat) (w:World) (ha:0<na→ao=some ⟨ba,oa,none⟩) (hb:0<nb→bo=some ⟨bb,ob,none⟩) (hna:na≤1000000000) (hx:dlen x=na) (hy:dlen y=nb) (hle:y≤x)
  (hca:∀ i,i<na→w.cell? ⟨ba,oa+i,none⟩=some (.int .u32 (dg x i:Nat))) (hcb:∀ i,i<nb→w.cell? ⟨bb,ob+i,none⟩=some (.int .u32 (dg y i:Nat))) :
  Calls Tryz.prog 141 #[.slice ao na ca,.slice bo nb cb] w fun e w'=>∃ v,e=.returned v∧Ir w' v (x - y)∧Bw w w':=by
 have hnb:nb≤na:=by have:=qZ3 hle;omega
 have HXY:Hid (dlen x=na∧dlen y=nb):=⟨hx,hy⟩;have HWS:Hid (wsub x y na=x - y):=qF6 (by rw[←hx];exact qY x) hle
 have HCA:Hid (∀ i,i<na→w.cell? ⟨ba,oa+i,none⟩=some (.int .u32 (dg x i:Nat))):=hca;have HCB:Hid (∀ i,i<nb→w.cell? ⟨bb,ob+i,none⟩=some (.int .u32 (dg y i:Nat))):=hcb;clear hx hy hca hcb hle
 go_enter Tryz.func141,Tryz.ntmps141
 go_wp2
 go_loopw [5,6,7] (fun v c i wr=>∃ j:Nat,j≤na∧c=.int .u64 (subb x y j:Nat)∧i=.int .i64 j∧wr.ownsRow w.heap.size 50 1 v j (cells (x - y) j)∧Bw w wr) (fun _ _ i _=>na - (intOf i).toNat)
 case atStart=>exact⟨0,xW5 _,by rw[qM4];rfl,rfl,World.ownsRow_nil ..,xL1 _ _⟩
 case round =>
  obtain⟨j,hj,rfl,rfl,ho,hB⟩:=hrel;have HO:Hid (wr.ownsRow w.heap.size 50 1 u5 j (cells (x - y) j)):=ho;have HB:Hid (Bw w wr):=hB;have hbs:w.heap.size≤wr.heap.size:=hB.size;by_cases hja:j<na
  ·have HL:Hid (dg x j<B∧dg y j<B∧subb x y j≤1):=⟨qZ4 _ _,qZ4 _ _,qD9 _ _ _⟩;have HKY:Hid (∀ (dx dy c:Nat) (Q:Int),dg x j=dx→dg y j=dy→subb x y j=c→Q=((dx:Int) - c - dy) % 18446744073709551616→(Q % 4294967296=(dg (x - y) j:Nat))∧(Q / 9223372036854775808=(subb x y (j+1):Nat))):=by
    intro dx dy c Q e1 e2 e3 e4;have h1:dg (x - y) j=(dg x j+B+B - dg y j - subb x y j) % B:=by rw[←HWS.out,qL6 hja]
    have h2:=qF1 x y j;obtain⟨l1,l2,l3⟩:=HL.out;rw[e1,e2,e3] at h1 h2;rw[e1] at l1;rw[e2] at l2;rw[e3] at l3;unfold B at *;rw[h1,h2];by_cases hlt:dx<dy+c
    ·rw[if_pos hlt];omega
    ·rw[if_neg hlt];omega
   obtain rfl:=ha (by omega)
   have g1:=(hB.cell (World.block_lt_of_cell? _ _ (HCA.out j hja))).trans (HCA.out j hja);have hji:(j:Int)<(na:Int):=by omega
   obtain⟨i0,hi0,hz0,hz1,hz2⟩:=info_parts Tryz.info50;by_cases hjb:j<nb
   ·obtain rfl:=hb (by omega)
    have g4:=(hB.cell (World.block_lt_of_cell? _ _ (HCB.out j hjb))).trans (HCB.out j hjb);have hji2:(j:Int)<(nb:Int):=by omega
    generalize hd:dg x j=d at *;generalize hd1:dg y j=d1 at *;generalize hc:subb x y j=c at *;obtain⟨K,hK⟩:∃ K:Int,K=((d:Int) - c) % 18446744073709551616:=⟨_,rfl⟩;obtain⟨Q,hQ⟩:∃ Q:Int,Q=((d:Int) - c - d1) % 18446744073709551616:=⟨_,rfl⟩;have w1:IntKind.u64.wrap (d:Int)=(d:Int):=qZ6 HL.out.1;have w2:IntKind.u64.wrap (d1:Int)=(d1:Int):=qZ6 HL.out.2.1;have w3:IntKind.u64.wrap ((d:Int) - (c:Int))=K:=by rw[xW7];omega
    have w4:IntKind.u64.wrap (K - (d1:Int))=Q:=by rw[xW7];omega
    have HD:Hid (Q % 4294967296=(dg (x - y) j:Nat)∧Q / 9223372036854775808=(subb x y (j+1):Nat)):=HKY.out d d1 c Q rfl rfl rfl hQ;clear hd hd1 hc hB hK hQ
    go_wp2_with (at_builtin;refine wpList_append_own _ rfl _ _ 82 rfl w.heap.size 50 i0 (.int .u32 0) 1 4 Tryz.underlying82 hi0 hz0 hz1 hz2 rfl (by decide) _ _ _ rfl (ho.alloc _) ⟨wr.heap.size,0,none⟩ 1 1 [.int .u32 (Q % 4294967296)] rfl rfl (cell_one_new _ _ _) (by intro u hu;simp at hu;subst hu;rfl) (by unfold maxLen;omega) (by omega) (by simp;omega) ?_)
    intro v' w5 hown5 hgrow _;obtain⟨r1,r2⟩:=qU4 HD.out.1 HB.out HO.out hown5 hgrow;have HR:Hid (w5.ownsRow w.heap.size 50 1 v' (j+1) (cells (x - y) (j+1))∧Bw w w5):=⟨r1,r2⟩;clear hown5 hgrow r1 r2 ho
    go_wp2;exact⟨⟨j+1,by omega,by rw[HD.out.2],by simp,HR.out⟩,by simp[intOf];omega⟩
   ·have hji2:¬ (j:Int)<(nb:Int):=by omega
    have hd1:dg y j=0:=qY6 (by rw[HXY.out.2];omega)
    generalize hd:dg x j=d at *;generalize hc:subb x y j=c at *;obtain⟨Q,hQ⟩:∃ Q:Int,Q=((d:Int) - c - ((0:Nat):Int)) % 18446744073709551616:=⟨_,rfl⟩;have w1:IntKind.u64.wrap (d:Int)=(d:Int):=qZ6 HL.out.1;have w3:IntKind.u64.wrap ((d:Int) - (c:Int))=Q:=by rw[xW7];omega
    have HD:Hid (Q % 4294967296=(dg (x - y) j:Nat)∧Q / 9223372036854775808=(subb x y (j+1):Nat)):=HKY.out d 0 c Q rfl hd1 rfl hQ;clear hd hd1 hc hB hQ
    go_wp2_with (at_builtin;refine wpList_append_own _ rfl _ _ 82 rfl w.heap.size 50 i0 (.int .u32 0) 1 4 Tryz.underlying82 hi0 hz0 hz1 hz2 rfl (by decide) _ _ _ rfl (ho.alloc _) ⟨wr.heap.size,0,none⟩ 1 1 [.int .u32 (Q % 4294967296)] rfl rfl (cell_one_new _ _ _) (by intro u hu;simp at hu;subst hu;rfl) (by unfold maxLen;omega) (by omega) (by simp;omega) ?_)
    intro v' w5 hown5 hgrow _;obtain⟨r1,r2⟩:=qU4 HD.out.1 HB.out HO.out hown5 hgrow;have HR:Hid (w5.ownsRow w.heap.size 50 1 v' (j+1) (cells (x - y) (j+1))∧Bw w w5):=⟨r1,r2⟩;clear hown5 hgrow r1 r2 ho
    go_wp2;exact⟨⟨j+1,by omega,by rw[HD.out.2],by simp,HR.out⟩,by simp[intOf];omega⟩
  ·obtain rfl:j=na:=by omega
   obtain⟨ao',cap',rfl,hcp,hA⟩:=qJ ho;have hL:dlen (x - y)≤j:=by have:=HXY.out.1;rw[←this];exact qZ3 (Nat.sub_le ..)
   have HR:Hid (Ir wr (.slice ao' (dlen (x - y)) cap') (x - y)):=⟨ao',cap',rfl,by omega,qU5 hA hL⟩
   have k40:=r40 ao' j cap' (x - y) wr hL hcp (by omega) hA
   generalize subb x y j=c at *;clear ho hB hA
   go_wp2_with (first|(go_at_call 148;refine k40.mono ?_;rintro e w' ⟨rfl,rfl⟩))
   go_ret;exact⟨_,rfl,HR.out,HB.out⟩
theorem xU4 {u v:Value} {x y:Nat} {w:World} (h1:Ir w u x) (h2:Ir w v y) (hx:dlen x≤1000000000) (hle:y≤x) :
  Calls Tryz.prog 141 #[u,v] w fun e w'=>∃ v,e=.returned v∧Ir w' v (x - y)∧Bw w w':=by
 obtain⟨ao,ca,rfl,a1,ba,oa,a3,a4⟩:=h1;obtain⟨bo,cb,rfl,b1,bb,ob,b3,b4⟩:=h2;exact yC7 ao bo ba oa bb ob _ _ ca cb x y w a3 b3 hx rfl rfl hle a4 b4
theorem yG8 {w:World} {z n:Nat} (hn:n≤maxLen) (h:∀ i,i<n→dg z i=0):(w.alloc (.cells (madeCells #[.int .u32 0] n) 50)).ownsRow w.heap.size 50 1 (.slice (some ⟨w.heap.size,0,none⟩) n n) n (cells z n):=by
 obtain⟨c,hc,hs,hf⟩:=World.rowIs_made w (.int .u32 0) n 50;refine⟨by rw[qZ9,xE1],.inr ⟨w.heap.size,n,c,rfl,xL0 _,hc,xL0 _,hn,by omega,?_⟩⟩
 apply List.ext_getElem?
 intro i;rw[xE1,List.getElem?_take];by_cases hi:i<n
 ·rw[if_pos hi,Array.getElem?_toList,hf i hi,qK4 hi,h i hi];rfl
 ·rw[if_neg hi,List.getElem?_eq_none (by rw[qZ9];omega)]
theorem yL1 {d c p:Nat} (hd:d<B) (hp:p<32) (hc:c<2^p):bits .or .u64 (IntKind.u64.wrap (IntKind.u64.wrap (d:Int)*2^p)) (IntKind.u64.wrap (c:Int))=((c+d*2^p:Nat):Int):=by
 have h1:=qE6 hd hp;have h2:=qK8 hp;have h3:=qF3 hd h2;have hcB:c<B:=by unfold B;omega
 rw[h1,qZ6 hcB,u64_or_nat _ _ (by omega) (by unfold B at hcB;omega),qC3 (p:=p) (Nat.mul_mod_left ..) hc,Nat.add_comm]
theorem rup_1 (b o cap n x k whole part:Nat) (w:World) (hn0:0<n) (hn:n≤1000000000) (hk:k≤1000000000) (hwh:k / 32=whole) (hpa:k % 32=part) (hx:dlen x=n) (hcell:∀ i,i<n→w.cell? ⟨b,o+i,none⟩=some (.int .u32 (dg x i:Nat))) :
  Calls Tryz.prog 137 #[.slice (some ⟨b,o,none⟩) n cap,.int .i64 k] w fun e w'=>∃ v,e=.returned v∧Ir w' v (x*2^k)∧Bw w w':=by
 have hq:(k:Int).tdiv 32=((k / 32:Nat):Int):=by rw[Int.tdiv_eq_ediv_of_nonneg (by omega)];rfl
 have hr:(k:Int).tmod 32=((k % 32:Nat):Int):=by rw[Int.tmod_eq_emod_of_nonneg (by omega)];rfl
 rw[hwh] at hq;rw[hpa] at hr;have hwb:whole≤1000000000:=by omega
 have hpb:part<32:=by omega
 have hmk:=run_make_row' (P:=Tryz.prog) 82 50 (.int .u32 0) 4 Tryz.underlying82 Tryz.info50 rfl .i64 .i64 whole (by omega) (by omega)
 have hn0':((n:Int)==0)=false:=by simp;omega
 have HN:Hid (dlen x=n∧k / 32=whole∧k % 32=part):=⟨hx,hwh,hpa⟩;have HZ:Hid (∀ i,i<whole→dg (x*2^k) i=0):=fun i hi=>by rw[qU9,hwh,qC8 hi]
 have HCA:Hid (∀ i,i<n→w.cell? ⟨b,o+i,none⟩=some (.int .u32 (dg x i:Nat))):=hcell;have HST:Hid (∀ j,dg (x*2^k) (whole+j)=(mulc x (2^part) j+dg x j*2^part) % B):=fun j=>by rw[qU9,hwh,hpa,zO5,qL7]
 clear hx hwh hpa hcell
 go_enter Tryz.func137,Tryz.ntmps137
 go_wp2;clear hmk
 go_loopw [5,7,8] (fun v c i wr=>∃ j:Nat,j≤n∧c=.int .u32 (mulc x (2^part) j:Nat)∧i=.int .i64 j∧wr.ownsRow w.heap.size 50 1 v (whole+j) (cells (x*2^k) (whole+j))∧Bw w wr) (fun _ _ i _=>n - (intOf i).toNat)
 case atStart=>exact⟨0,xW5 _,by rw[qP2];rfl,rfl,yG8 (by unfold maxLen;omega) HZ.out,(xL1 _ _).alloc (xL0 _) _⟩
 case round =>
  obtain⟨j,hj,rfl,rfl,ho,hB⟩:=hrel;have HO:Hid (wr.ownsRow w.heap.size 50 1 u5 (whole+j) (cells (x*2^k) (whole+j))):=ho;have HB:Hid (Bw w wr):=hB;have hbs:w.heap.size≤wr.heap.size:=hB.size;obtain⟨i0,hi0,hz0,hz1,hz2⟩:=info_parts Tryz.info50;by_cases hja:j<n
  ·have g1:=(hB.cell (World.block_lt_of_cell? _ _ (HCA.out j hja))).trans (HCA.out j hja);have hji:(j:Int)<(n:Int):=by omega
   have hcl:=qA2 (x:=x) (i:=j) (xL5 part);have hdl:=qZ4 x j;have hst:=HST.out j;have hsc:=qP3 x (2^part) j;have h2:=qK8 hpb;generalize hd:dg x j=d at *;generalize hc:mulc x (2^part) j=c at *;have h3:=qF3 hdl h2;obtain⟨T,hT⟩:∃ T:Nat,T=c+d*2^part:=⟨_,rfl⟩;have w1:bits .or .u64 (IntKind.u64.wrap (IntKind.u64.wrap (d:Int)*2^part)) (IntKind.u64.wrap (c:Int))=(T:Int):=by rw[hT];exact yL1 hdl hpb hcl
   have HD:Hid ((T:Int) % 4294967296=(dg (x*2^k) (whole+j):Nat)∧(T:Int) / 4294967296 % 4294967296=(mulc x (2^part) (j+1):Nat)):=by
    refine⟨?_,?_⟩
    ·rw[hst,←hT];unfold B;omega
    ·rw[hsc,←hT];unfold B;omega
   clear hd hc hB hcl hdl hst hsc h2 h3 hT
   go_wp2_with (at_builtin;refine wpList_append_own _ rfl _ _ 82 rfl w.heap.size 50 i0 (.int .u32 0) 1 4 Tryz.underlying82 hi0 hz0 hz1 hz2 rfl (by decide) _ _ _ rfl (ho.alloc _) ⟨wr.heap.size,0,none⟩ 1 1 [.int .u32 ((T:Int) % 4294967296)] rfl rfl (cell_one_new _ _ _) (by intro u hu;simp at hu;subst hu;rfl) (by unfold maxLen;omega) (by omega) (by simp;omega) ?_)
   intro v' w5 hown5 hgrow _;obtain⟨r1,r2⟩:=qU4 HD.out.1 HB.out HO.out hown5 hgrow;have HR:Hid (w5.ownsRow w.heap.size 50 1 v' (whole+(j+1)) (cells (x*2^k) (whole+(j+1)))∧Bw w w5):=⟨r1,r2⟩;clear hown5 hgrow r1 r2 ho
   go_wp2;exact⟨⟨j+1,by omega,by rw[HD.out.2],by simp,HR.out⟩,by simp[intOf];omega⟩
  ·obtain rfl:j=n:=by omega
   have hcl:=qA2 (x:=x) (i:=j) (xL5 part);have hst:=HST.out j;rw[qY6 (x:=x) (i:=j) (by rw[HN.out.1];omega),Nat.zero_mul,Nat.add_zero] at hst
   have h2:=qK8 hpb;have hL:dlen (x*2^k)≤whole+j+1:=by have:=qK1 (k:=k) HN.out.1;rw[HN.out.2.1] at this;exact this
   generalize hc:mulc x (2^part) j=c at *;have HD:Hid ((c:Int)=(dg (x*2^k) (whole+j):Nat)):=(by rw[hst];unfold B;omega:(c:Int)=(dg (x*2^k) (whole+j):Nat))
   have HL:Hid (dlen (x*2^k)≤whole+j+1):=hL;clear hc hB hcl hst h2 hL
   go_wp2_with (at_builtin;refine wpList_append_own _ rfl _ _ 82 rfl w.heap.size 50 i0 (.int .u32 0) 1 4 Tryz.underlying82 hi0 hz0 hz1 hz2 rfl (by decide) _ _ _ rfl (ho.alloc _) ⟨wr.heap.size,0,none⟩ 1 1 [.int .u32 (c:Int)] rfl rfl (cell_one_new _ _ _) (by intro u hu;simp at hu;subst hu;rfl) (by unfold maxLen;omega) (by omega) (by simp;omega) ?_)
   intro v' w5 hown5 hgrow _;obtain⟨r1,r2⟩:=qU4 HD.out HB.out HO.out hown5 hgrow;obtain⟨ao',cap',rfl,hcp,hA⟩:=qJ r1;have HR:Hid (Ir w5 (.slice ao' (dlen (x*2^k)) cap') (x*2^k)∧Bw w w5):=⟨⟨ao',cap',rfl,by have:=HL.out;omega,qU5 hA HL.out⟩,r2⟩
   have k40:=r40 ao' (whole+j+1) cap' (x*2^k) w5 HL.out hcp (by omega) hA
   clear hown5 hgrow r1 r2 ho hA hcp
   go_wp2_with (first|(go_at_call 148;refine k40.mono ?_;rintro e w' ⟨rfl,rfl⟩))
   go_ret;exact⟨_,rfl,HR.out⟩
theorem rup_0 (ao:Option Addr) (cap:Nat) (k:Int) (w:World) :
  Calls Tryz.prog 137 #[.slice ao 0 cap,.int .i64 k] w fun e w'=>e=.returned (.slice none 0 0)∧w'=w:=by
 go_enter Tryz.func137,Tryz.ntmps137
 go_wp2
 go_ret;exact⟨rfl,rfl⟩
theorem rup {v:Value} {x:Nat} {w:World} (h:Ir w v x) (k:Nat) (hx:dlen x≤1000000000) (hk:k≤1000000000) :
  Calls Tryz.prog 137 #[v,.int .i64 k] w fun e w'=>∃ v,e=.returned v∧Ir w' v (x*2^k)∧Bw w w':=by
 obtain⟨ao,cap,rfl,h1,b,o,h3,h4⟩:=h;by_cases h0:x=0
 ·subst h0;rw[qQ5];refine(rup_0 ao cap k w).mono ?_
  rintro e w' ⟨rfl,rfl⟩;exact⟨_,rfl,by rw[Nat.zero_mul];exact Ir.nil _ _ _,xL1 _ _⟩
 ·have hl:0<dlen x:=xW1 fun e=>h0 (qQ7.1 e);obtain rfl:=h3 hl;exact rup_1 b o cap _ x k _ _ w hl hx hk rfl rfl rfl h4
end Go.Proofs.YtbanebginnakhaaGreatDoor
namespace Go.Proofs.YtbanebginnakhaaGreatDoor
open Go.RowKit Go.Fl64
theorem qN1 {w W:World} (a b:Obj) (hW:W=(w.alloc a).alloc b):W.heap[w.heap.size]?=some a∧W.heap[w.heap.size+1]?=some b∧W.heap.size=w.heap.size+1+1∧Bw w W:=by
 subst hW;refine⟨?_,?_,by simp,((xL1 _ _).alloc (xL0 _) _).alloc (by simp) _⟩
 ·rw[Below.heap_alloc _ _ _ (by simp)];exact xW8 _ _
 ·have:=xW8 (w.alloc a) b
  simpa using this
end Go.Proofs.YtbanebginnakhaaGreatDoor
namespace Go.Proofs.YtbanebginnakhaaGreatDoor
open Go.RowKit
theorem zH4 (na:Bool) (ua:Option Addr) (un uc:Nat) (ea:Int) (w:World) (hn:un≤35184372088832) (hn0:((un:Int)==0)=false) :
  Calls Tryz.prog 95 #[.agg #[.bool na,.slice ua un uc,.int .i64 ea]] w fun r w'=>r=.returned (.agg #[.bool (!na),.slice ua un uc,.int .i64 ea])∧Bw w w':=by
 obtain⟨W,hW⟩:∃ W,W=(w.alloc (.cells #[.bool na,.slice ua un uc,.int .i64 ea] 132)).alloc (.cells #[.bool false,.slice none 0 0,.int .i64 0] 132):=⟨_,rfl⟩;obtain⟨hA,hB,hsz,hBW⟩:=qN1 _ _ hW;obtain⟨⟨a0,a1,a2⟩,-⟩:=qQ0 hA;obtain⟨⟨b0,b1,b2⟩,b3,b4,b5⟩:=qQ0 hB;have HX:Hid (Bw w W∧W.heap[w.heap.size+1]?=some (.cells #[.bool false,.slice none 0 0,.int .i64 0] 132 (0,0))):=⟨hBW,hB⟩;clear hA hB hsz hBW;have HE:Hid (W=(w.alloc (.cells #[.bool na,.slice ua un uc,.int .i64 ea] 132)).alloc (.cells #[.bool false,.slice none 0 0,.int .i64 0] 132)):=hW;rw[hW] at a0 a1 a2 b0 b1 b2 b3 b4 b5;clear hW
 go_enter Tryz.func95,Tryz.ntmps95
 go_wp2;refine xW9 (xE2 rfl _ _ (w.heap.size+1) 132 #[.bool (!na),.slice ua un uc,.int .i64 ea] (0,0) _ rfl (qN1 _ _ rfl).2.1 Tryz.underlying132 rfl Tryz.info132) rfl ?_;exact⟨rfl,(qN1 _ _ rfl).2.2.2⟩
theorem yU2 (na:Bool) (ua:Option Addr) (uc:Nat) (ea:Int) (w:World) :
  Calls Tryz.prog 95 #[.agg #[.bool na,.slice ua 0 uc,.int .i64 ea]] w fun r w'=>r=.returned (.agg #[.bool false,.slice none 0 0,.int .i64 0])∧Bw w w':=by
 obtain⟨W,hW⟩:∃ W,W=(w.alloc (.cells #[.bool na,.slice ua 0 uc,.int .i64 ea] 132)).alloc (.cells #[.bool false,.slice none 0 0,.int .i64 0] 132):=⟨_,rfl⟩;obtain⟨hA,hB,hsz,hBW⟩:=qN1 _ _ hW;obtain⟨⟨a0,a1,a2⟩,-⟩:=qQ0 hA;obtain⟨⟨b0,b1,b2⟩,b3,b4,b5⟩:=qQ0 hB;have HX:Hid (Bw w W∧W.heap[w.heap.size+1]?=some (.cells #[.bool false,.slice none 0 0,.int .i64 0] 132 (0,0))):=⟨hBW,hB⟩;clear hA hB hsz hBW;have HE:Hid (W=(w.alloc (.cells #[.bool na,.slice ua 0 uc,.int .i64 ea] 132)).alloc (.cells #[.bool false,.slice none 0 0,.int .i64 0] 132)):=hW;rw[hW] at a0 a1 a2 b0 b1 b2 b3 b4 b5;clear hW
 go_enter Tryz.func95,Tryz.ntmps95
 go_wp2;refine xW9 (xE2 rfl _ _ (w.heap.size+1) 132 #[.bool false,.slice none 0 0,.int .i64 0] (0,0) _ rfl (qN1 _ _ rfl).2.1 Tryz.underlying132 rfl Tryz.info132) rfl ?_;exact⟨rfl,(qN1 _ _ rfl).2.2.2⟩
theorem zO0 {w:World} {base n z:Nat} {v:Value} (h:w.ownsRow base 50 1 v n (cells z n)) (hn0:0<n):Dn w base v n z:=by
 obtain⟨g2,cap2,cur2,rfl,hg2,hc2,hc3,hc4,hc5,hc6⟩:=(h.2.resolve_left fun h=>by omega)
 refine .inr ⟨g2,cap2,cur2,rfl,hg2,⟨hc3,by unfold maxLen at hc4;omega⟩,hc2,by omega,fun i hi=>?_⟩
 have h7:(cells z n)[i]?=cur2[i]?:=by
  rw[←hc6,xE1,List.getElem?_take,if_pos hi,Array.getElem?_toList]
 rw[←h7,qK4 hi]
theorem qM0 {w:World} {ops:Array Oper} {rest:List Oper} {o:Oper} {a:Act} {Q:Exit→Act→World→Prop} (hgd:o.guard=none) (s x:Operand)
  (ho:o.op=.call { callee:=.builtin .append,args:=#[s,x],argTypes:=#[82,82] }) (hs:a.eval s=.slice none 0 0) {ao:Option Addr} {n cap z:Nat} (hx:a.eval x=.slice ao n cap) (hA:Arg w ao n cap z)
  (h:∀ ao' cap' w',Dn w' w.heap.size (.slice ao' n cap') n z→Bw w w'→wpList Tryz.prog ops Q rest (a.put o.dst (.slice ao' n cap')) w'):wpList Tryz.prog ops Q (o :: rest) a w:=by
 obtain⟨i0,hi0,hz0,hz1,hz2⟩:=info_parts Tryz.info50;by_cases h0:n=0
 ·subst h0;rcases hA.nil rfl with ⟨ad,rfl⟩|⟨rfl,rfl⟩
  ·refine wpList_append_own _ hgd s x 82 ho w.heap.size 50 i0 (.int .u32 0) 1 4 Tryz.underlying82 hi0 hz0 hz1 hz2 rfl (by decide) (.slice none 0 0) 0 [] hs (World.ownsRow_nil w _ _ _) ad 0 cap [] hx (by simp) (by intro j u hj;simp at hj) (by intro u hu;simp at hu) (by unfold maxLen;omega) (by omega) (xL0 _) ?_
   intro v' w' _ r2 r3;obtain rfl:v'=.slice none 0 0:=r3.2 ⟨rfl,rfl⟩;exact h none 0 w' (.inl ⟨rfl,rfl⟩) (Below.grown (xL1 _ _) r2 (xL0 _) (fun k hk=>by simp[Value.ownBlock] at hk))
  ·exact wpList_append_own_none hgd s x 82 ho w.heap.size 50 i0 1 Tryz.underlying82 hi0 (.slice none 0 0) 0 [] hs (World.ownsRow_nil w _ _ _) hx (h none 0 w (.inl ⟨rfl,rfl⟩) (xL1 _ _))
 ·obtain⟨b,o',h1,h2⟩:=hA.at_;obtain rfl:=h1 (by omega)
  have hsm:=hA.small;refine wpList_append_own _ hgd s x 82 ho w.heap.size 50 i0 (.int .u32 0) 1 4 Tryz.underlying82 hi0 hz0 hz1 hz2 rfl (by decide) (.slice none 0 0) 0 [] hs (World.ownsRow_nil w _ _ _) ⟨b,o',none⟩ n cap (cells z n) hx (by rw[qZ9,xE1]) (fun j u hj=>by
   have hjl:j<n:=by
    have:=(List.getElem?_eq_some_iff.1 hj).1
    rwa [qZ9] at this
   rw[qK4 hjl] at hj;rw[show(⟨b,o',none⟩:Addr).add j=⟨b,o'+j,none⟩ by simp[Addr.add],←hj]
   exact h2 j hjl) (by intro u hu;simp[cells] at hu;obtain⟨j,-,rfl⟩:=hu;rfl) (by unfold maxLen;omega) (by omega) (xL0 _) ?_
  intro v' w' r1 r2 _;rw[Nat.zero_add,List.nil_append] at r1;have hd:=zO0 r1 (by omega)
  have hb:Bw w w':=Below.grown (xL1 _ _) r2 (xL0 _) (fun k hk=>by simp[Value.ownBlock] at hk)
  rcases hd with ⟨-,h⟩|⟨g,cap',c,rfl,h3⟩
  ·omega
  ·exact h _ _ w' (.inr ⟨g,cap',c,rfl,h3⟩) hb
theorem Dn.store {w:World} {base n z:Nat} {v:Value} (h:Dn w base v n z) {g:Nat} (hg:g<base) (i:Nat) (u:Value):Dn (w.setCell ⟨g,i,none⟩ u) base v n z:=by
 rcases h with h|⟨g2,cap2,c,rfl,h1,h2,h3,h4⟩
 ·exact .inl h
 ·exact .inr ⟨g2,cap2,c,rfl,h1,h2,by rw[qM9 _ _ (by omega)];exact h3,h4⟩
theorem xV4 {ng:Bool} {ao:Option Addr} {n cap z:Nat} {e:Int} {w:World} (h:Arg w ao n cap z) :
  Calls Tryz.prog 136 #[.agg #[.bool ng,.slice ao n cap,.int .i64 e]] w fun r w'=>∃ ao' cap',r=.returned (.agg #[.bool ng,.slice ao' n cap',.int .i64 e])∧Dn w' w.heap.size (.slice ao' n cap') n z∧Bw w w':=by
 obtain⟨W,hW⟩:∃ W,W=(w.alloc (.cells #[.bool ng,.slice ao n cap,.int .i64 e] 132)).alloc (.cells #[.bool false,.slice none 0 0,.int .i64 0] 132):=⟨_,rfl⟩;obtain⟨hA,hB,hsz,hBW⟩:=qN1 _ _ hW;obtain⟨⟨a0,a1,a2⟩,-⟩:=qQ0 hA;have HX:Hid (Bw w W∧W.heap.size=w.heap.size+1+1∧W.heap[w.heap.size]?=some (.cells #[.bool ng,.slice ao n cap,.int .i64 e] 132 (0,0))∧W.heap[w.heap.size+1]?=some (.cells #[.bool false,.slice none 0 0,.int .i64 0] 132 (0,0))):=⟨hBW,hsz,hA,hB⟩;have hAr:=h.later hBW;rw[hW] at a0 a1 a2;have HW:Hid (W=(w.alloc (.cells #[.bool ng,.slice ao n cap,.int .i64 e] 132)).alloc (.cells #[.bool false,.slice none 0 0,.int .i64 0] 132)):=hW;clear hA hB hsz hBW h hW
 go_enter Tryz.func136,Tryz.ntmps136
 go_wp2_with (at_builtin;rw[←HW.out];refine qM0 rfl _ _ rfl rfl rfl hAr ?_)
 intro ao2 cap2 w2 hd hb;have hb1:=qQ HX.out.2.2.1 hb (by have:=HX.out.2.1;omega)
 have hb2:=qQ HX.out.2.2.2 hb (by have:=HX.out.2.1;omega)
 obtain⟨⟨x1,x2,x3⟩,x4,x5,x6⟩:=qQ0 hb1;obtain⟨⟨y1,y2,y3⟩,y4,y5,y6⟩:=qQ0 hb2;have HR:Hid (Dn w2 W.heap.size (.slice ao2 n cap2) n z∧Bw W w2∧w2.heap[w.heap.size+1]?=some (.cells #[.bool false,.slice none 0 0,.int .i64 0] 132 (0,0))):=⟨hd,hb,hb2⟩;clear hd hb hb1 hb2 a0 a1 a2 hAr
 go_wp2;have HQ:(w2.setCell ⟨w.heap.size,1,none⟩ (.slice ao2 n cap2)).heap[w.heap.size+1]?=some (.cells #[.bool false,.slice none 0 0,.int .i64 0] 132 (0,0)):=by
  rw[qM9 _ _ (by omega)];exact HR.out.2.2
 refine xW9 (xE2 rfl _ _ (w.heap.size+1) 132 #[.bool ng,.slice ao2 n cap2,.int .i64 e] (0,0) _ rfl (qX1 _ _ _ HQ) Tryz.underlying132 rfl Tryz.info132) rfl ?_;obtain⟨q1,q2,-,-⟩:=HX.out;obtain⟨r1,r2,-⟩:=HR.out;exact⟨_,_,rfl,((((r1.store (by omega) _ _).store (by omega) _ _).store (by omega) _ _).store (by omega) _ _).mono (by omega),qQ3 ((q1.trans (r2.mono q1.size)).setCell (xL0 _) _) (by omega) _ _ _⟩
theorem yS2 (neg:Bool) (ao:Option Addr) (n cap x:Nat) (e:Int) (w:World) (h:At w ao n x) (hxn:dlen x≤n) (hn:n≤cap) (hc:n≤1000000000) (hx0:x≠0) (he : -4611686018427387904≤e∧e≤4611686018427387904) :
  Calls Tryz.prog 138 #[.bool neg,.slice ao n cap,.int .i64 e] w fun r w'=>∃ g cap',r=.returned (.agg #[.bool neg,.slice (some ⟨g,0,none⟩) (dlen (x / 2^tz x)) cap',.int .i64 (e+tz x)])∧w.heap.size≤g∧dlen (x / 2^tz x)≤cap'∧At w' (some ⟨g,0,none⟩) (dlen (x / 2^tz x)) (x / 2^tz x)∧Bw w w':=by
 obtain⟨w0,hw0⟩:∃ w0,w0=w.alloc (.cells #[.bool false,.slice none 0 0,.int .i64 0] 132):=⟨_,rfl⟩;have hB0:Bw w w0:=by rw[hw0];exact(xL1 _ _).alloc (xL0 _) _
 have h0:=h.later hB0;have k40:=r40 ao n cap x w0 hxn hn (by omega) h0
 have htz:tz x / 32<dlen x:=by
  have h1:=(qX0 _ x (xL0 _) hx0);have h2:2^tz x≤x:=by
   have h3:1≤x / 2^tz x:=xW1 fun e0=>by have:=h1.2;rw[e0] at this;simp at this
   have:=xW2 (2^tz x) h3
   omega
  have h4:=qV0 x;have h5:tz x<bl x:=Nat.lt_of_not_le fun h6=>by
   have:=xL6 (n:=2) (by omega) h6
   omega
  have hd0:dlen x≠0:=fun e=>hx0 (qQ7.1 e);have:=qE hx0
  have:=qN7 (qZ4 x (dlen x - 1))
  omega
 have hs:=qU5 h0 hxn;have k64:=r64 rfl (by omega:dlen x≤cap) hs (tz x) (by omega) htz (by omega)
 have hl0:0<dlen x:=by omega
 have hn0:((dlen x:Int)==0)=false:=by simp;omega
 have HS:Hid (At w0 ao (dlen x) x):=hs;have HH:Hid (w0.heap[w.heap.size]?=some (.cells #[.bool false,.slice none 0 0,.int .i64 0] 132 (0,0))):=(by rw[hw0];exact xW8 _ _:w0.heap[w.heap.size]?=some (.cells #[.bool false,.slice none 0 0,.int .i64 0] 132 (0,0)))
 have HB0:Hid (Bw w w0):=hB0;have HX:Hid (w0.heap.size=w.heap.size+1):=(by rw[hw0];simp:w0.heap.size=w.heap.size+1)
 have HT:Hid (tz x / 32<dlen x∧x≠0):=⟨htz,hx0⟩;obtain⟨he1,he2⟩:=he;have hlb:dlen x≤1000000000:=by omega
 clear h h0 hB0 hs hxn hn hx0;generalize hL:dlen x=L at *;generalize htzx:tz x=T at *;have HTZ:Hid (tz x=T∧dlen x=L):=⟨htzx,hL⟩;clear htzx hL;have hTb:T≤40000000000:=by omega
 go_enter Tryz.func138,Tryz.ntmps138
 go_wp2_with fail;rw[←hw0];clear hw0;refine k40.mono ?_;rintro r w1 ⟨rfl,rfl⟩;clear k40
 go_wp2_with fail
 go_loop [7] (fun v=>∃ t:Nat,t≤T∧v=.int .i64 (t:Int)) (fun v=>T - (intOf v).toNat)
 case atStart=>exact⟨0,xW5 _,rfl⟩
 case round =>
  obtain⟨t,ht,rfl⟩:=hrel;obtain⟨b,o,hb,hcell⟩:=HS.out;obtain rfl:=hb (by omega)
  have hq:(t:Int).tdiv 32=((t / 32:Nat):Int):=by rw[Int.tdiv_eq_ediv_of_nonneg (by omega)];rfl
  have hr:(t:Int).tmod 32=((t % 32:Nat):Int):=by rw[Int.tmod_eq_emod_of_nonneg (by omega)];rfl
  have htl:t / 32<L:=by omega
  have g1:=hcell (t / 32) htl;have hpb:t % 32<32:=by omega
  generalize hi:t / 32=i at *;generalize hp:t % 32=p at *;generalize hd:dg x i=d at *;have HI:Hid (t / 32=i∧t % 32=p∧dg x i=d):=⟨hi,hp,hd⟩;have hbit:=xR0 HTZ.out.1 HT.out.2 ht HI.out;clear hi hp hd hcell hb;by_cases htt:t<T
  ·rw[xL4 htt] at hbit
   go_wp2_with fail;exact⟨⟨t+1,by omega,by simp⟩,by simp[intOf];omega⟩
  ·rw[xL3 htt] at hbit;obtain rfl:t=T:=by omega
   clear htt ht
   go_wp2_with fail;refine k64.mono ?_;rintro r w3 ⟨ao3,cap3,bb,rfl,hA3,hc3,hB3⟩;clear k64 hq hr hbit g1;have HH3:Hid (w3.heap[w.heap.size]?=some (.cells #[.bool false,.slice none 0 0,.int .i64 0] 132 (0,0))):=qQ HH.out hB3 (by have:=HX.out;omega)
   obtain⟨⟨a1,a2,a3⟩,a4,a5,a6⟩:=qQ0 HH3.out;have HA3:Hid (At w3 ao3 (dlen (x / 2^t)) (x / 2^t)∧Bw w1 w3):=⟨hA3,hB3⟩;clear hA3 hB3;have hyo:x / 2^t % 2=1:=by rw[←HTZ.out.1];exact(qX0 _ x (xL0 _) HT.out.2).2
   have hy0:0<dlen (x / 2^t):=xW1 fun e=>by rw[qQ7.1 e] at hyo;simp at hyo
   have hyl:dlen (x / 2^t)≤1000000000:=by
    have h1:dlen (x / 2^t)≤dlen x:=qZ3 (xW0 ..);rw[HTZ.out.2] at h1;omega
   obtain⟨b3,o3,hb3,hc3'⟩:=HA3.out.1;obtain rfl:=hb3 hy0;have HN:Hid (∀ j u,(cells (x / 2^t) (dlen (x / 2^t)))[j]?=some u→(w3.alloc (Obj.cells (madeCells #[Value.int IntKind.u32 0] 0) 50)).cell? ((⟨b3,o3,none⟩:Addr).add j)=some u):=fun j u hj=>by
    have hjl:j<dlen (x / 2^t):=by
     have:=(List.getElem?_eq_some_iff.1 hj).1
     rwa [qZ9] at this
    rw[qK4 hjl] at hj;have hcl:=hc3' j hjl;rw[show(⟨b3,o3,none⟩:Addr).add j=⟨b3,o3+j,none⟩ by simp[Addr.add]]
    rw[World.cell?_alloc_old _ _ _ (by have:=World.block_lt_of_cell? _ _ hcl;show b3≠w3.heap.size;simp at this;omega)]
    rw[←hj];exact hcl
   have hOM:(w3.alloc (Obj.cells (madeCells #[Value.int IntKind.u32 0] 0) 50)).ownsRow w3.heap.size 50 1 (.slice (some ⟨w3.heap.size,0,none⟩) 0 0) 0 []:=World.ownsRow_made w3 _ 0 (xL0 _) (by unfold maxLen;omega) (by simp[madeCells])
   have hmk:=run_make_row' (P:=Tryz.prog) 82 50 (.int .u32 0) 4 Tryz.underlying82 Tryz.info50 rfl .i64 .i64 0 (by omega) (by omega) w3
   rw[show((0:Nat):Int)=0 from rfl] at hmk;clear hc3' hb3 hyo;generalize hy:x / 2^t=y at *;have HY:Hid (x / 2^t=y):=hy;clear hy;generalize hM:dlen y=M at *;have HM:Hid (dlen y=M):=hM;clear hM;have hM0:M≠0:=by omega
   obtain⟨i0,hi0,hz0,hz1,hz2⟩:=info_parts Tryz.info50
   go_wp2_with (at_builtin;refine wpList_append_own _ rfl _ _ 82 rfl w3.heap.size 50 i0 (.int .u32 0) 1 4 Tryz.underlying82 hi0 hz0 hz1 hz2 rfl (by decide) _ 0 [] rfl hOM ⟨b3,o3,none⟩ M cap3 (cells y M) rfl (by rw[qZ9,xE1]) HN.out (by intro u hu;simp[cells] at hu;obtain⟨j,-,rfl⟩:=hu;rfl) (by unfold maxLen;omega) (by omega) (by simp) ?_)
   intro v' w4 hown4 hgrow _;have hsz:=HX.out;have hs3:=HA3.out.2.size;have hh4:w4.heap[w.heap.size]?=some (.cells #[.bool false,.slice none 0 0,.int .i64 0] 132 (0,0)):=by
    rw[hgrow.block _ (by simp;omega) (fun e=>by simp[Value.ownBlock] at e;omega),Lib.alloc_old w3 _ _ (by omega)]
    exact HH3.out
   obtain⟨⟨a1,a2,a3⟩,a4,a5,a6⟩:=qQ0 hh4;have HR:Hid (w4.ownsRow w3.heap.size 50 1 v' M (cells y M)∧w4.heap[w.heap.size]?=some (.cells #[.bool false,.slice none 0 0,.int .i64 0] 132 (0,0))):=⟨hown4,hh4⟩;have HG:Hid (Bw w3 w4):=Below.grown ((xL1 w3.heap.size w3).alloc (xL0 _) _) hgrow (by simp) (fun k hk=>by simp[Value.ownBlock] at hk;omega)
   obtain⟨g4,cap4,cur4,rfl,hg4,-⟩:=(hown4.2.resolve_left fun h=>hM0 h.2);clear hown4 hh4 hgrow HN hOM
   go_wp2;refine xW9 (xE2 rfl _ _ w.heap.size 132 #[.bool neg,.slice (some ⟨g4,0,none⟩) M cap4,.int .i64 (e+t)] (0,0) _ rfl (qX1 _ _ _ HR.out.2) Tryz.underlying132 rfl Tryz.info132) rfl ?_;obtain⟨ao5,cap5,hv5,hcc5,hA5⟩:=qJ HR.out.1;simp only[Value.slice.injEq] at hv5;obtain⟨rfl,-,rfl⟩:=hv5;obtain⟨b5,o5,hb5,hc5⟩:=hA5;have hb5':=hb5 (by omega)
   simp only[Option.some.injEq,Addr.mk.injEq] at hb5';obtain⟨rfl,rfl,-⟩:=hb5';rw[HY.out,HM.out];refine⟨_,_,rfl,by omega,hcc5,⟨g4,0,fun _=>rfl,fun j hj=>?_⟩,qQ3 (HB0.out.trans ((HA3.out.2.trans (HG.out.mono hs3)).mono (by omega))) (xL0 _) _ _ _⟩
   rw[World.cell?_setCell_other _ _ _ _ (by intro e;simp at e),World.cell?_setCell_other _ _ _ _ (by intro e;simp at e),World.cell?_setCell_other _ _ _ _ (by intro e;simp at e)]
   exact hc5 j hj
def NC (w':World) (base:Nat) (a:Value) (neg:Bool) (x:Nat) (e:Int):Prop:=∃ ao cap,a=.agg #[.bool (cn neg x e).1,.slice ao (dlen (cn neg x e).2.1) cap,.int .i64 (cn neg x e).2.2]∧Arg w' ao (dlen (cn neg x e).2.1) cap (cn neg x e).2.1∧(∀ ad:Addr,ao=some ad→0<dlen (cn neg x e).2.1→base≤ad.block)
theorem NC.later {w w':World} {base:Nat} {a:Value} {neg:Bool} {x:Nat} {e:Int} (h:NC w base a neg x e) (hb:Bw w w'):NC w' base a neg x e:=by
 obtain⟨ao,cap,h1,h2,h3⟩:=h;exact⟨ao,cap,h1,h2.later hb,h3⟩
theorem NC.mono {w:World} {base base':Nat} {a:Value} {neg:Bool} {x:Nat} {e:Int} (h:NC w base a neg x e) (hb:base'≤base):NC w base' a neg x e:=by
 obtain⟨ao,cap,h1,h2,h3⟩:=h;exact⟨ao,cap,h1,h2,fun ad e hl=>xW hb (h3 ad e hl)⟩
theorem zY2 {neg:Bool} {v:Value} {x:Nat} {e:Int} {w:World} (h:Ir w v x) (hc:dlen x≤1000000000) (he : -4611686018427387904≤e∧e≤4611686018427387904) :
  Calls Tryz.prog 138 #[.bool neg,v,.int .i64 e] w fun r w'=>∃ a,r=.returned a∧NC w' w.heap.size a neg x e∧Bw w w':=by
 obtain⟨ao,cap,rfl,h1,h2⟩:=h;by_cases h0:x=0
 ·subst h0;refine(xG5 neg ao _ cap e w h2 h1 (by omega)).mono ?_
  rintro r w' ⟨rfl,hb⟩;refine⟨_,rfl,⟨none,0,?_,?_,fun ad e=>by cases e⟩,hb⟩
  ·unfold cn;rw[if_pos rfl,qQ5]
  ·unfold cn;rw[if_pos rfl];exact⟨fun _=>.inr ⟨rfl,rfl⟩,⟨0,0,fun h=>by rw[qQ5] at h;omega,fun i hi=>by rw[qQ5] at hi;omega⟩,by rw[qQ5];exact xL0 _,by rw[qQ5];omega⟩
 ·refine(yS2 neg ao _ cap x e w h2 (xL0 _) h1 hc h0 he).mono ?_
  rintro r w' ⟨g,cap',rfl,hg,hcc,ho,hb⟩;have hle:dlen (x / 2^tz x)≤dlen x:=qZ3 (xW0 _ _);refine⟨_,rfl,⟨some ⟨g,0,none⟩,cap',?_,?_,fun ad e _=>?_⟩,hb⟩
  ·unfold cn;rw[if_neg h0]
  ·unfold cn;rw[if_neg h0];exact⟨fun _=>.inl ⟨_,rfl⟩,ho,hcc,(by omega:dlen (x / 2^tz x)≤35184372088832)⟩
  ·injection e with e;rw[←e];exact hg
theorem yC8 (neg:Bool) (ao:Option Addr) (n cap b:Nat) (e:Int) (w:World) (hn0:((n:Int)==0)=false) (hb:b≤64000000000) (he1 : -4000000≤e) (he2:e≤4000000)
  (k74:∀ W,Bw w W→Calls Tryz.prog 185 #[.slice ao n cap] W fun r w'=>r=.returned (.int .i64 b)∧w'=W) :
  Calls Tryz.prog 142 #[.agg #[.bool neg,.slice ao n cap,.int .i64 e]] w fun r w'=>r=.returned (.int .i64 (b+e))∧Bw w w':=by
 obtain⟨W,hW⟩:∃ W,W=w.alloc (.cells #[.bool neg,.slice ao n cap,.int .i64 e] 132):=⟨_,rfl⟩;have hBW:Bw w W:=by rw[hW];exact(xL1 _ _).alloc (xL0 _) _
 have hbA:W.heap[w.heap.size]?=some (.cells #[.bool neg,.slice ao n cap,.int .i64 e] 132 (0,0)):=by rw[hW];exact xW8 _ _
 obtain⟨⟨a0,a1,a2⟩,-⟩:=qQ0 hbA;have k:=fun d=>k74 (W.drewN d) (hBW.trans ⟨rfl,rfl,rfl,xL0 _,fun _ _=>rfl⟩);have HB:Hid (Bw w W):=hBW;clear k74 hBW hbA
 go_enter Tryz.func142,Tryz.ntmps142
 go_upto_region 3 with fail;rw[←hW];clear hW
 go_quiet ((go_at_call 185;exact Calls.quiet_of_same (k _)))
 go_wp2
 go_ret;refine⟨congrArg Ending.returned (congrArg (Value.int IntKind.i64) ?_),HB.out.trans ⟨rfl,rfl,rfl,xL0 _,fun _ _=>rfl⟩⟩
 first|rfl|omega|(rw[xW6];omega)|(unfold wrap64;omega)
theorem yC9 {neg:Bool} {ao:Option Addr} {cap x:Nat} {e:Int} {w:World} (h:At w ao (dlen x) x) (h0:x≠0) (hx:dlen x≤1000000000) (he : -4000000≤e∧e≤4000000) :
  Calls Tryz.prog 142 #[.agg #[.bool neg,.slice ao (dlen x) cap,.int .i64 e]] w fun r w'=>r=.returned (.int .i64 (bl x+e))∧Bw w w':=by
 have hl:0<dlen x:=xW1 fun e=>h0 (qQ7.1 e);refine yC8 neg ao (dlen x) cap (bl x) e w (qY9 (n:=0) h0) ?_ he.1 he.2 (fun W hW=>?_)
 ·have:=qY2 x
  omega
 ·obtain⟨b,o,h1,h2⟩:=h.later hW;obtain rfl:=h1 hl;exact r42 b o (dlen x) cap x W hl hx rfl h2
theorem zW7 (na nb:Bool) (ua va:Option Addr) (uc vn vc:Nat) (ea eb:Int) (w:World) (z:Nat) (hAr:Arg w va vn vc z) :
  Calls Tryz.prog 92 #[.agg #[.bool na,.slice ua 0 uc,.int .i64 ea],.agg #[.bool nb,.slice va vn vc,.int .i64 eb]] w fun r w'=>∃ ao' cap',r=.returned (.agg #[.bool nb,.slice ao' vn cap',.int .i64 eb])∧Dn w' w.heap.size (.slice ao' vn cap') vn z∧Bw w w':=by
 obtain⟨W,hW⟩:∃ W,W=((w.alloc (.cells #[.bool na,.slice ua 0 uc,.int .i64 ea] 132)).alloc (.cells #[.bool nb,.slice va vn vc,.int .i64 eb] 132)).alloc (.cells #[.bool false,.slice none 0 0,.int .i64 0] 132):=⟨_,rfl⟩;obtain⟨hA,hBb,hC,hsz,hBW⟩:=qK0 _ _ _ hW;have hn:=hAr.small;have k1:=xV4 (ng:=nb) (e:=eb) (hAr.later hBW);have HH:Hid (W.heap[w.heap.size+1+1]?=some (.cells #[.bool false,.slice none 0 0,.int .i64 0] 132 (0,0))∧W.heap.size=w.heap.size+1+1+1∧Bw w W):=⟨hC,hsz,hBW⟩;clear hA hBb hC hsz hBW hAr
 go_enter Tryz.func92,Tryz.ntmps92
 go_wp2_with fail;rw[←hW];clear hW;refine k1.mono ?_;rintro r w4 ⟨ao4,cap4,rfl,hd,hB4⟩;have HC4:Hid (w4.heap[w.heap.size+1+1]?=some (.cells #[.bool false,.slice none 0 0,.int .i64 0] 132 (0,0))):=qQ HH.out.1 hB4 (by have:=HH.out.2.1;omega)
 obtain⟨⟨x1,x2,x3⟩,x4,x5,x6⟩:=qQ0 HC4.out;have HD4:Hid (Dn w4 W.heap.size (.slice ao4 vn cap4) vn z∧Bw W w4):=⟨hd,hB4⟩;clear hd hB4 k1
 go_wp2;refine xW9 (xE2 rfl _ _ (w.heap.size+1+1) 132 #[.bool nb,.slice ao4 vn cap4,.int .i64 eb] (0,0) _ rfl (qX1 _ _ _ HC4.out) Tryz.underlying132 rfl Tryz.info132) rfl ?_;obtain⟨-,hs,hBW⟩:=HH.out;obtain⟨hd,hb⟩:=HD4.out;exact⟨_,_,rfl,(((hd.store (by omega) _ _).store (by omega) _ _).store (by omega) _ _).mono (by omega),qQ3 (hBW.trans (hb.mono hBW.size)) (by omega) _ _ _⟩
theorem zW6 (na nb:Bool) (ua va:Option Addr) (un uc vc:Nat) (ea eb:Int) (w:World) (z:Nat) (hAr:Arg w ua un uc z) (hn0:((un:Int)==0)=false) :
  Calls Tryz.prog 92 #[.agg #[.bool na,.slice ua un uc,.int .i64 ea],.agg #[.bool nb,.slice va 0 vc,.int .i64 eb]] w fun r w'=>∃ ao' cap',r=.returned (.agg #[.bool na,.slice ao' un cap',.int .i64 ea])∧Dn w' w.heap.size (.slice ao' un cap') un z∧Bw w w':=by
 obtain⟨W,hW⟩:∃ W,W=((w.alloc (.cells #[.bool na,.slice ua un uc,.int .i64 ea] 132)).alloc (.cells #[.bool nb,.slice va 0 vc,.int .i64 eb] 132)).alloc (.cells #[.bool false,.slice none 0 0,.int .i64 0] 132):=⟨_,rfl⟩;obtain⟨hA,hBb,hC,hsz,hBW⟩:=qK0 _ _ _ hW;have hn:=hAr.small;have k1:=xV4 (ng:=na) (e:=ea) (hAr.later hBW);have HH:Hid (W.heap[w.heap.size+1+1]?=some (.cells #[.bool false,.slice none 0 0,.int .i64 0] 132 (0,0))∧W.heap.size=w.heap.size+1+1+1∧Bw w W):=⟨hC,hsz,hBW⟩;clear hA hBb hC hsz hBW hAr
 go_enter Tryz.func92,Tryz.ntmps92
 go_wp2_with fail;rw[←hW];clear hW;refine k1.mono ?_;rintro r w4 ⟨ao4,cap4,rfl,hd,hB4⟩;have HC4:Hid (w4.heap[w.heap.size+1+1]?=some (.cells #[.bool false,.slice none 0 0,.int .i64 0] 132 (0,0))):=qQ HH.out.1 hB4 (by have:=HH.out.2.1;omega)
 obtain⟨⟨x1,x2,x3⟩,x4,x5,x6⟩:=qQ0 HC4.out;have HD4:Hid (Dn w4 W.heap.size (.slice ao4 un cap4) un z∧Bw W w4):=⟨hd,hB4⟩;clear hd hB4 k1
 go_wp2;refine xW9 (xE2 rfl _ _ (w.heap.size+1+1) 132 #[.bool na,.slice ao4 un cap4,.int .i64 ea] (0,0) _ rfl (qX1 _ _ _ HC4.out) Tryz.underlying132 rfl Tryz.info132) rfl ?_;obtain⟨-,hs,hBW⟩:=HH.out;obtain⟨hd,hb⟩:=HD4.out;exact⟨_,_,rfl,(((hd.store (by omega) _ _).store (by omega) _ _).store (by omega) _ _).mono (by omega),qQ3 (hBW.trans (hb.mono hBW.size)) (by omega) _ _ _⟩
theorem zE1 (s:Bool) (z:Nat) (e:Int):okR s z e=okN (cn s z e).1 (dlen (cn s z e).2.1) (cn s z e).2.1 (cn s z e).2.2:=by
 unfold okR cn;by_cases h0:z=0
 ·rw[if_pos h0,if_pos h0,qQ5];rfl
 ·rw[if_neg h0,if_neg h0]
end Go.Proofs.YtbanebginnakhaaGreatDoor
