/- Own work: contracts of the program's functions, part 12: VR1 DHX SG1 SN1 SN2 SN3 SN4 SN5 SN6 SN7 SN8 SN9 SNB SNC SND SNE FR7 DC2 SP1 DC3 DC4 SNP PX DL2 PQ PW PW2 PQ2 PZ PZ2 PX2 FR8 FRA SNF SNG SNI SNJ SNL SNQ FR9 FRB SNR SNN SNS SNK SNT SNU SNV FRC SNW SNX SNY SNZ SO1. -/
import Derived.Test.YtfkaogdmlcdceaaGreatDoorA4
import Derived.Laws.IdiomStrings
import Derived.Test.YtfkaogdmlcdceaaGreatDoorA11
import Derived.Test.YtfkaogdmlcdceaaGreatDoorA6
import Derived.Test.YtfkaogdmlcdceaaGreatDoorA10
import Derived.Test.YtfkaogdmlcdceaaGreatDoorA9
import Derived.Test.YtfkaogdmlcdceaaGreatDoorA7
import Derived.Test.YtfkaogdmlcdceaaGreatDoorA2
import Derived.Laws.StructEq
import Derived.Test.YtfkaogdmlcdceaaGreatDoorA5
import Derived.Test.YtfkaogdmlcdceaaGreatDoorA8

set_option maxHeartbeats 16000000
set_option maxRecDepth 200000
set_option linter.unusedVariables false
set_option linter.unusedSimpArgs false
namespace Go.Proofs.YtfkaogdmlcdceaaGreatDoor
open Go Go.RowKit Go.Fl64
attribute [local go_sem] iV Nu
def lowB (c:Nat):Nat:=c ||| 32
def dgB (c:Nat):Nat:=if 48≤c∧c≤57 then c - 48 else if 97≤lowB c∧lowB c≤102 then lowB c - 87 else 99
def btA (s:ByteArray) (i:Nat):Nat:=(s.data[i]?.getD 0).toNat
theorem yK2 {c:Nat} (h:c<256):lowB c<256:=Nat.or_lt_two_pow (n:=8) h δ
theorem yK1 {c:Nat} (h:c<48):lowB c<97:=by
 have:∀ c:Fin 48,lowB c.val<97:=by decide +kernel
 exact this ⟨c,h⟩
theorem u8_or (c:Nat) (h:c<256):bits .or .u8 (c:Int) 32=((lowB c:Nat):Int):=by
 have:∀ c:Fin 256,bits .or .u8 (c.val:Int) 32=((lowB c.val:Nat):Int):=by decide +kernel
 exact this ⟨c,h⟩
theorem xQ0 (c:Nat) (h:c<256) (w:World):Ca 266 #[.int .u8 (c:Int)] w fun r w'=>r=.returned (.int .u8 ((lowB c:Nat):Int))∧w'=w:=by
 have u:=u8_or c h
 go_enter Tryz.func266,Tryz.ntmps266
 go_wp2
 go_ret;exact⟨rfl,rfl⟩
theorem zQ7 (s:ByteArray) (w:World):∃ cap W,(convert 9 65 (.string s)).run Tryz.prog w=.ok (.slice (some ⟨w.heap.size,0,none⟩) s.size cap) W∧Bw w W∧∀ j,j<s.size→W.cell? ⟨w.heap.size,j,none⟩=some (.int .u8 ((btA s j:Nat):Int)):=by
 have h:=run_bytes_of_string (P:=Tryz.prog) w 9 65 5 s Tryz.underlying9 Tryz.underlying65 Tryz.underlying5;refine⟨_,_,h,bR.drew.alloc lR _,fun j J=>?_⟩
 have V:=kB7 w.drew (.cells (bytesRow s (grownCap w s.size 0 5)) 5 ((bytesRow s (grownCap w s.size 0 5)).size,(bytesRow s (grownCap w s.size 0 5)).size+1));have Y:(w.drew.alloc (.cells (bytesRow s (grownCap w s.size 0 5)) 5 ((bytesRow s (grownCap w s.size 0 5)).size,(bytesRow s (grownCap w s.size 0 5)).size+1))).heap[w.heap.size]?=some (.cells (bytesRow s (grownCap w s.size 0 5)) 5 ((bytesRow s (grownCap w s.size 0 5)).size,(bytesRow s (grownCap w s.size 0 5)).size+1)):=V;unfold World.cell?;rw[Y];show(if false then none else(bytesRow s (grownCap w s.size 0 5))[j]?)=_
 rw[kU5 δ];have u:j<s.data.size:=J;unfold bytesRow btA;rw[Array.getElem?_append_left (by simpa using u)]
 simp only[Array.getElem?_map];rw[Array.getElem?_eq_getElem u];rfl
theorem yU4 {c:Nat} (Y:48≤c) (u:c≤57):dgB c=c - 48:=by unfold dgB;rw[kU6 ⟨Y,u⟩]
theorem xF7 {c:Nat} (J:¬ (48≤c∧c≤57)) (Y:97≤lowB c) (u:lowB c≤102):dgB c=lowB c - 87:=by unfold dgB;rw[kU5 J,kU6 ⟨Y,u⟩]
theorem zU1 {w wr:World} {u j k d:Nat} (J:Bt w wr (fun t=>if 65 - j≤t then hx (u / 16^(64 - t) % 16)else 0)) (H:65 - j=k+1) (Y:d=hx (u / 16^j % 16)) (F:j≤16) :
  Bt w (wr.setCell ⟨w.heap.size,k,none⟩ (.int .u8 (d:Nat))) (fun t=>if 65 - (j+1)≤t then hx (u / 16^(64 - t) % 16)else 0):=by
 refine(J.set k d).congr fun t V=>?_
 by_cases e:t=k
 ·subst e;rw[kU6 rfl,kU6 ω,Y,show 64 - t=j by omega]
 ·rw[kU5 e];by_cases e2:65 - j≤t
  ·rw[kU6 e2,kU6 ω]
  ·rw[kU5 e2,kU5 ω]
theorem kY2 (u:Nat) (w:World) (hT:Ie.Tab w) (hu:u<18446744073709551616) :
  Ca 227 #[.slice none 0 0,.int .u64 u,iV 16,.bool false,.bool false] w fun e w'=>∃ j:Nat,u / 16^j<16∧(j=0∨16≤u / 16^(j - 1))∧e=.returned (.tuple #[.slice none 0 0,.string ⟨(hexL u j).toArray⟩])∧Bw w w':=by
 have h0:=Bt.start w;have Y:=c186 _ (Tab.later hT h0.below);generalize hW:w.alloc (.cells Tryz.zeroCells237 237)=W at *;have HW:Hid _:=hW;have H0:Hid _:=h0;clear h0 hT
 go_enter Tryz.func227,Tryz.ntmps227
 go_wp2_with fail;clear hW;refine(c185 _).mono ?_
 rintro r w1 ⟨rfl,rfl⟩
 go_wp2_with fail;refine Y.mono ?_;rintro r qG ⟨rfl,rfl⟩;clear Y
 go_wp2
 go_loopw [1,13] (fun a b wr=>∃ j v:Nat,a=.int .u64 v∧b=iV ((65 - j:Nat):Int)∧Hid (u / 16^j=v∧(j=0∨16≤u / 16^(j - 1)))∧v<18446744073709551616∧j≤16∧Bt w wr (fun t=>if 65 - j≤t then hx (u / 16^(64 - t) % 16)else 0)) (fun a _ _=>(intOf a).toNat)
 case atStart=>exact⟨0,u,rfl,rfl,⟨(by simp:u / 16^0=u),.inl rfl⟩,hu,ω,H0.out.congr fun t ht=>by rw[kU5 ω]⟩
 case round =>
  obtain⟨j,v,rfl,rfl,V,qF,qK,J⟩:=hrel;by_cases F:16≤v
  ·have qJ:(16:Int)≤(v:Int):=ω;have qN:j<15:=by
    refine Nat.lt_of_not_le fun h7=>?_;have h1:16*16^j≤u:=by
     have:=V.out.1
     rw[←this] at F;exact(Nat.le_div_iff_mul_le (kH1 ω)).1 F
    have h2:16^15≤16^j:=kF4 ω h7;omega
   have T:=J.cell (i:=65 - j - 1) ω;have D:=J.frozen (65 - j - 1);have HM:Hid _:=J;clear J;obtain⟨k,H⟩:∃ k,65 - j=k+1:=⟨64 - j,ω⟩;rw[H] at T D ⊢;rw[kM5] at T D;generalize (if 65 - j≤k then hx (u / 16^(64 - k) % 16)else 0)=qH at *;have L:k<65:=ω;have qX:(k:Int)<65:=ω;have qU:bits .and .u64 (v:Int) 15=((v % 16:Nat):Int):=by
    rw[show(15:Int)=((15:Nat):Int)from rfl,u64_and_nat v 15 ω ω,show(15:Nat)=2^4 - 1 from rfl,Nat.and_two_pow_sub_one_eq_mod]
   have qZ:v % 16<16:=kB3 _ ω;generalize hm:v % 16=m at *;have qV:Hid _:=hm;have I:Hid _:=H;clear hm H
   go_wp2;refine⟨⟨j+1,v / 16,by simp,?_,?_,ω,ω,?_⟩,by simp[intOf];omega⟩
   ·have:=I.out
    congr 1
    omega
   ·refine⟨?_,.inr (by rw[kM5,V.out.1];exact F)⟩
    rw[kN5,←kN0,V.out.1]
   ·exact zU1 HM.out I.out (by rw[yK9 m qZ,V.out.1,qV.out]) ω
  ·have qJ:¬ (16:Int)≤(v:Int):=ω;have T:=J.cell (i:=65 - j - 1) ω;have D:=J.frozen (65 - j - 1);have HM:Hid _:=J;clear J;obtain⟨k,H⟩:∃ k,65 - j=k+1:=⟨64 - j,ω⟩;rw[H] at T D ⊢;rw[kM5] at T D;have L:k<65:=ω;have qX:(k:Int)<65:=ω;have qB:(v:Int)<36:=ω;have I:Hid _:=H;clear H;have qQ:=fun W=>kV0 W w.heap.size k L
   go_wp2;rw[yK9 v ω];have hE:=zU1 HM.out I.out (d:=hx v) (by rw[V.out.1,kB2 ω]) qK
   generalize wr.setCell ⟨w.heap.size,k,none⟩ (.int .u8 (hx v:Nat))=wf at *;have qY:k=64 - j:=by have:=I.out;omega
   have C:=run_convert_bytes_back (P:=Tryz.prog) wf 65 9 5 ⟨w.heap.size,k,none⟩ (65 - k) (hexL u j) Tryz.underlying65 Tryz.underlying5 Tryz.underlying9 (fun i hi=>by
    rw[qH3] at hi;have ea:(⟨w.heap.size,k,none⟩:Addr).add i=⟨w.heap.size,k+i,none⟩:=by simp[Addr.add]
    rw[ea];rw[hE.cell ω,kU6 ω,yS4,show 64 - (k+i)=j - i by omega])
   rw[qH3,show j+1=65 - k by omega] at C
   have HF:Hid (Bw w wf∧u / 16^j<16∧(j=0∨16≤u / 16^(j - 1))):=⟨hE.below,by rw[V.out.1];omega,V.out.2⟩
   clear hE qY T D HM qQ;rw[C]
   go_wp2
   go_ret2
   exact⟨j,HF.out.2.1,HF.out.2.2,rfl,HF.out.1⟩
theorem c132q (u:Nat) (w:World) (F:Ie.Tab w) (J:u<18446744073709551616) :
  Ca 169 #[.int .u64 u,iV 16] w fun e w'=>∃ j:Nat,u / 16^j<16∧(j=0∨16≤u / 16^(j - 1))∧e=.returned (.string ⟨(hexL u j).toArray⟩)∧Bw w w':=by
 have k:=kY2 u w F J;clear F J
 go_enter Tryz.func169,Tryz.ntmps169
 go_wp2_with fail;refine k.mono ?_;rintro r W ⟨j,T,D,rfl,H⟩;have Y:Hid _:=aI3 T D H;clear k T D H;generalize V:hexL u j=l at *;have L:Hid _:=V;clear V
 go_wp2
 go_ret;exact⟨j,Y.out.1,Y.out.2.1,by rw[L.out];rfl,Y.out.2.2⟩
theorem c81q (u:Nat) (w:World) (F:Ie.Tab w) (J:u<18446744073709551616) :
  Ca 109 #[.int .u64 u,iV 16] w fun e w'=>∃ j:Nat,u / 16^j<16∧(j=0∨16≤u / 16^(j - 1))∧e=.returned (.string ⟨(hexL u j).toArray⟩)∧Bw w w':=by
 have k:=c132q u w F J;clear F J
 go_enter Tryz.func109,Tryz.ntmps109
 go_wp2_with fail;refine k.mono ?_;rintro r W ⟨j,T,D,rfl,H⟩;have Y:Hid _:=aI3 T D H;clear k T D H;generalize V:hexL u j=l at *;have L:Hid _:=V;clear V
 go_wp2
 go_ret;exact⟨j,Y.out.1,Y.out.2.1,by rw[L.out];rfl,Y.out.2.2⟩
end Go.Proofs.YtfkaogdmlcdceaaGreatDoor
namespace Go.Proofs.YtfkaogdmlcdceaaGreatDoor
open Go.RowKit Go.Fl64
attribute [local go_sem] iV Nu
theorem xX3 {s:Bool} {q D r:Nat} {h m:Int} (V:64≤bl q) (u:r≠0) (Y:r<2^D):tfF s false q h m=tfF s true (q*2^D+r) (h - D) m:=by
 have H:=kF3 D;have J:(q*2^D+r) / 2^D=q:=by rw[kH5,Nat.add_mul_div_right _ _ H,Nat.div_eq_of_lt Y,kH6]
 have e2:(q*2^D+r) % 2^D=r:=by rw[kH5,Nat.add_mul_mod_self_right,kB2 Y]
 have:=zO8 (s:=s) (Z:=q*2^D+r) (n:=D) (E:=h - D) (m:=m) (by rw[J];exact V) (by rw[e2];exact u)
 rw[J,show h - (D:Int)+(D:Int)=h by omega] at this
 exact this.symm
end Go.Proofs.YtfkaogdmlcdceaaGreatDoor
/- Floats in order: not above, the lesser and the greater of two; intervals that may be. -/
namespace Go.Fl64
def le (a b:Nat):Bool := !qY9 a && !qY9 b&&decide (stp a≤stp b)
def pl (a:Nat):Nat:=if a=9223372036854775808 then 0 else a
theorem pl_lt {a:Nat} (h:a<18446744073709551616):pl a<18446744073709551616:=by unfold pl;split <;> omega
end Go.Fl64
namespace Go.Proofs.YtfkaogdmlcdceaaGreatDoor
open Go.RowKit Go.Fl64
attribute [local go_sem] iV Nu
theorem qH9 {B:Nat} {a w:World} (h:Below B a w) (n:Nat):Below B a (w.drewN n):=h.trans ⟨rfl,rfl,rfl,kH8 _,fun _ _=>rfl⟩
theorem kX0 (w:World):Ca 53 #[iV 1] w fun r w'=>r=.returned (.float .f64 9218868437227405312)∧w'=w:=by
 have u:=Ie.run_frombits
 go_enter Tryz.func53,Tryz.ntmps53
 go_wp2
 go_ret;exact⟨rfl,rfl⟩
theorem yM5 (P:Program) (w:World) (a:Addr) (m:Mode) (k:FloatKind) (n:Nat):(store a (.float k n) m).run P w=stored P w a (.float k n) m:=run_store P w a _ m rfl
def yF5 (W:World) (t:Bool×Nat×Int) (r:Ending) (w':World):Prop:=∃ s ao n cap e,r=.returned (.tuple #[.agg #[.bool s,.slice ao n cap,.int .i64 e],.int .i64 0])∧PN w' (.agg #[.bool s,.slice ao n cap,.int .i64 e]) t∧Bw W w'
def tSh (t:Bool×Nat×Int) (k:Int):Bool×Nat×Int:=if t.2.1=0 then(false,0,0) else(t.1,t.2.1,t.2.2+k)
theorem xC2 {t:Bool×Nat×Int} {A:Value} {k0:Int} {w:World} (T:Ok t) (h:PN w A t) (F:¬ k0 < -65536 - t.2.2) (H:¬ 65536 - t.2.2<k0) :
  Ca 204 #[A,iV k0] w fun r w'=>yF5 w (tSh t k0) r w':=by
 obtain⟨J,Y,rfl,L⟩:=h;obtain⟨f1,f2,f3,f4,f5⟩:=T.facts;have V:∀ W g,Bw w W→Hn W g t.1 J (dlen t.2.1) Y t.2.2 50→Ca 128 #[.slice (some ⟨g,0,none⟩) 1 1] W (Rq W (.bool true)):=fun W g hW I=>by
  have:=zQ0 I (L.later hW) ω
  rw[show okN t.1 (dlen t.2.1) t.2.1 t.2.2=true from T] at this;exact this
 unfold tSh;by_cases u:t.2.1=0
 ·rw[kU6 u];have hd:dlen t.2.1=0:=by rw[u,qQ5]
  rw[hd] at V ⊢;refine(xX8 t.1 J Y t.2.2 k0 w V).mono ?_
  rintro r w' ⟨rfl,D⟩;exact⟨_,_,_,_,_,rfl,⟨none,0,by rw[qQ5],by rw[qQ5];exact yK5 _⟩,D⟩
 ·rw[kU5 u];refine(xX7 t.1 J (dlen t.2.1) Y t.2.2 k0 w t.2.1 L ω ω (by have:=qJ1 u;simp;omega) ω ω F H V).mono ?_
  rintro r w' ⟨v,rfl,C,D⟩;obtain⟨ao,cap,rfl,h1,h2,h3⟩:=C.is;exact⟨_,_,_,_,_,rfl,⟨ao,cap,rfl,ao,cap,rfl,h1,h2,h3⟩,D⟩
theorem ofN (a:Nat) (Y:a<18446744073709551616) (V:mag a<9218868437227405312) (w:World) (D:Tab32 w) (L:Ie.Tab w):Ca 87 #[.float .f64 a] w fun r w'=>yF5 w (tF a) r w':=by
 obtain⟨m,J,H⟩:=xY6 a Y;refine(xE2 a m Y w D L V J).mono ?_
 rintro r w' ⟨A,rfl,T,F⟩;have u:=T.pn;rw[yT7 a m Y V J] at u;obtain⟨s,ao,n,cap,e,rfl⟩:=u.shape;exact⟨s,ao,n,cap,e,rfl,u,F⟩
def fU (a:Nat):Nat:=Ie.mant a*2^(Ie.lp a+1074).toNat
theorem qM4 {n:Int} {w:World} (V:Tab32 w) (Y : -9223372036854775808≤n∧n≤9223372036854775807):Ca 99 #[iV n] w fun r w'=>OutP w (un n 0) r w':=by
 refine(c12 V Y).mono ?_
 rintro r w' ⟨A,rfl,H,J⟩;have u:=H.pn;obtain⟨s,ao,m,cap,e,rfl⟩:=u.shape;exact⟨_,_,_,_,_,rfl,u,J⟩
def nilN:Bool×Nat×Int:=(false,0,0)
theorem un_0 (p:Nat):un 0 p=nilN:=by unfold un cn nilN;rw[kU6 δ]
theorem xJ9 (w:World):PN w (.agg (Nu false none 0 0 0)) nilN:=⟨none,0,by unfold nilN;rw[qQ5],by unfold nilN;rw[qQ5];exact yK5 w⟩
def PBx (W:World) (g:Nat) (s1:Bool) (ao1:Option Addr) (n1 cp1:Nat) (e1:Int) (t:Bool×Nat×Int):Prop:=W.heap[g]?=some (.cells #[.bool s1,.slice ao1 n1 cp1,.int .i64 e1] 50 (0,0))∧PN W (.agg #[.bool s1,.slice ao1 n1 cp1,.int .i64 e1]) t
theorem PBx.later {W V:World} {g:Nat} {J:Bool} {Y:Option Addr} {H u:Nat} {D:Int} {t:Bool×Nat×Int} (h:PBx W g J Y H u D t) (F:Bw W V):PBx V g J Y H u D t:=⟨qQ0 h.1 F (qQ7 h.1),h.2.later F⟩
theorem PBx.lt {W:World} {g:Nat} {J:Bool} {Y:Option Addr} {V u:Nat} {H:Int} {t:Bool×Nat×Int} (h:PBx W g J Y V u H t):g<W.heap.size:=qQ7 h.1
theorem PN.shape1 {w:World} {A:Value} {t:Bool×Nat×Int} (h:PN w A t):∃ s ao n cap e,A=.agg (Nu s ao n cap e):=by
 obtain⟨ao,cap,rfl,-⟩:=h;exact⟨_,_,_,_,_,rfl⟩
theorem yX7 {a k:Int} {p q b:Nat} {X:Value} {w:World} (u:a.natAbs<2^b) (H:b≤60000) (J:p≤60000) (D:q≤60000) (V:(p:Int) - k=q) (F:PN w X (un a p)) :
  Ca 204 #[X,iV k] w fun r w'=>yF5 w (un a q) r w':=by
 have e:=un_e (p:=p) u;have e2:=un_e (p:=q) u;have g:tSh (un a p) k=un a q:=yJ6 V;have T:(un a p).2.2=0∨(un a q).2.2=(un a p).2.2+k:=by
  by_cases Y:(un a p).2.1=0
  ·left
   rw[show a=0 from qU2.2.1 Y,un_0];rfl
  ·right
   rw[←g];unfold tSh;rw[kU5 Y]
 have k1:=xC2 (k0:=k) (qH2 u H J) F ω ω;rw[g] at k1;exact k1
theorem zE7 (s1:Bool) (D:Option Addr) (n1 F:Nat) (e1:Int) (k:Int) (t:Bool×Nat×Int) (w:World)
  (kk:∀ W,Bw w W→Ca 204 #[.agg (Nu s1 D n1 F e1),iV k] W fun r w'=>yF5 W t r w') :
  Ca 140 #[.agg (Nu s1 D n1 F e1),iV k] w fun r w'=>OutA w t r w':=by
 obtain⟨W,hW⟩:=eE ((w.alloc (.cells (Nu s1 D n1 F e1) 50)).alloc (.cells (Nu false none 0 0 0) 50));obtain⟨C,hC,qQ,L⟩:=qG9 _ _ hW;obtain⟨⟨a0,a1,a2⟩,-⟩:=qQ3 C;have HX:Hid _:=And.intro L hC;have k1:=kk W HX.out.1;clear kk C hC L qQ;rw[hW] at a0 a1 a2
 go_enter Tryz.func140,Tryz.ntmps140
 go_wp2_with fail;rw[←hW];clear hW a0 a1 a2;refine k1.mono ?_;rintro r w1 ⟨s2,J,n2,Y,e2,rfl,C,H⟩;obtain⟨I,u⟩:=eE (w1.alloc (.cells (Nu s2 J n2 Y e2) 50));have V:Bw W I:=by rw[u];exact H.alloc H.size _
 have T:Hid (PN I (.agg (Nu s2 J n2 Y e2)) t∧Bw w I∧Hn I w1.heap.size s2 J n2 Y e2 50∧Hn I (w.heap.size+1) false none 0 0 0 50) :=
  ⟨by rw[u];exact C.later (bR.alloc lR _),HX.out.1.trans (V.mono HX.out.1.size),by rw[u];exact kB7 _ _,qQ0 HX.out.2 V (qQ7 HX.out.2)⟩
 clear k1 C H V
 go_upto_region 2 with fail;rw[←u];clear u;generalize w1.heap.size=g1 at *;obtain⟨⟨c0,c1,c2⟩,-⟩:=qQ3 T.out.2.2.1;obtain⟨⟨x1,x2,x3⟩,x4,x5,x6⟩:=qQ3 T.out.2.2.2
 go_wp2;refine kB8 (kM2 rfl _ _ (w.heap.size+1) 50 (Nu s2 J n2 Y e2) (0,0) _ rfl (qX8 _ _ _ T.out.2.2.2) Tryz.underlying50 rfl Tryz.info50) rfl ?_;exact⟨_,_,_,_,_,rfl,qB4 T.out.1 T.out.2.2.2 _ _ _,qQ4 T.out.2.1 ω _ _ _⟩
theorem qP3 {a k:Int} {p q b:Nat} {X:Value} {w:World} (F:a.natAbs<2^b) (H:b≤60000) (J:p≤60000) (Y:q≤60000) (V:(p:Int) - k=q) (u:PN w X (un a p)) :
  Ca 140 #[X,iV k] w fun r w'=>OutA w (un a q) r w':=by
 obtain⟨C,L,I,T,e1,rfl⟩:=u.shape1;exact zE7 _ _ _ _ _ k _ w (fun W D=>yX7 F H J Y V (u.later D))
theorem qN2 {w:World} {A:Value} {t:Bool×Nat×Int} {g:Nat} {s:Bool} {ao:Option Addr} {n cap:Nat} {e:Int} (h:PN w A t) (V:Hn w g s ao n cap e 50) (a b c:Value):PN (((w.setCell ⟨g,0,none⟩ a).setCell ⟨g,1,none⟩ b).setCell ⟨g,2,none⟩ c) A t:=by
 obtain⟨J,W,L,Y,u,T,D,F,H⟩:=h;exact⟨J,W,L,Y,u,T,D,F,yH9 H V (by simp) (by simp) (by simp) a b c⟩
theorem qH7 {w:World} {g k:Nat} (a b c:Value) (h:k≠g):(((w.setCell ⟨g,0,none⟩ a).setCell ⟨g,1,none⟩ b).setCell ⟨g,2,none⟩ c).heap[k]?=w.heap[k]?:=by
 have u:¬ g=k:=fun e=>h e.symm;simp[World.setCell,Array.getElem?_modify,u]
theorem zD2 (n q:Nat):n / 2^(q+1)+n / 2^(q+1)+n / 2^q % 2=n / 2^q:=by
 rw[kN5,←kN0];omega
def RdD (w:World) (g:Nat) (b p:Bool×Nat×Int) (sb:Bool) (aob:Option Addr) (nb cpb:Nat) (eb:Int) (wr:World) (s1:Bool) (ao1:Option Addr) (n1 cp1:Nat) (e1:Int):Prop :=
 PBx wr g s1 ao1 n1 cp1 e1 p∧PBx wr (g+1) sb aob nb cpb eb b∧wr.heap[w.heap.size]?=some (.cells #[.bool false,.slice none 0 0,.int .i64 0] 50 (0,0))∧Bw w wr∧w.heap.size<g∧g+1<wr.heap.size
theorem RdD.next {w:World} {g:Nat} {b p q:Bool×Nat×Int} {W:Bool} {H:Option Addr} {nb V:Nat} {eb:Int} {wr w':World} {s1:Bool} {L:Option Addr} {n1 D:Nat} {e1:Int} {s2:Bool} {Y:Option Addr} {F u:Nat} {e2:Int}
  (h:RdD w g b p W H nb V eb wr s1 L n1 D e1) (J:Bw wr w') (hp:PN w' (.agg (Nu s2 Y F u e2)) q) :
  RdD w g b q W H nb V eb (((w'.setCell ⟨g,0,none⟩ (.bool s2)).setCell ⟨g,1,none⟩ (.slice Y F u)).setCell ⟨g,2,none⟩ (iV e2)) s2 Y F u e2:=by
 obtain⟨h1,I,h3,C,h5,h6⟩:=h;have hs:=J.size;have T:=qQ0 h1.1 J ω;refine⟨⟨qX8 _ _ _ T,qN2 hp T _ _ _⟩,⟨?_,qN2 (I.2.later J) T _ _ _⟩,?_,qQ4 (C.trans (J.mono C.size)) ω _ _ _,h5,by simp[World.setCell];omega⟩
 ·rw[qH7 _ _ _ ω];exact qQ0 I.1 J ω
 ·rw[qH7 _ _ _ ω];exact qQ0 h3 J ω
theorem yH7 (m:Nat) (h:m<8192):(bits BinOp.and IntKind.i64 ((m:Nat):Int) 1==1)=(m % 2==1):=by
 have t:∀ a:Fin 8,∀ b:Fin 1024,(bits BinOp.and IntKind.i64 ((1024*a.val+b.val:Nat):Int) 1==1)=((1024*a.val+b.val) % 2==1):=by decide +kernel
 have:=t ⟨m / 1024,ω⟩ ⟨m % 1024,ω⟩
 simp only[Nat.div_add_mod] at this;exact this
theorem yL1 {n q:Nat} (h:n≤8191):(bits BinOp.and IntKind.i64 ((n:Int) / 2^q) 1==1)=(n / 2^q % 2==1):=by
 have Y:=kF9 n (2^q);have u:=yH7 (n / 2^q) ω;rw[show(n:Int) / 2^q=((n / 2^q:Nat):Int) by simp]
 exact u
theorem yC0 (P:Nat→Bool×Nat×Int) (bs:Int) (n L:Nat) (w:World) (hn:n≤8191) (hL:Hid (bl n=L)) (qR:L≤13)
  (kW:∀ W,Bw w W→Ca 99 #[iV 1] W fun r w'=>OutP W (P 0) r w')
  (kB:∀ W,Bw w W→Ca 99 #[iV bs] W fun r w'=>OutP W (P 1) r w')
  (kM:∀ W X Y a b,Bw w W→PN W X (P a)→PN W Y (P b)→a+b≤n→Ca 94 #[X,Y] W fun r w'=>OutA W (P (a+b)) r w')
  (kL:∀ W,Ca 155 #[.int .u64 n] W fun r w'=>r=.returned (iV L)∧w'=W) :
  Ca 88 #[iV bs,iV n] w fun r w'=>OutA w (P n) r w':=by
 obtain⟨W,hW⟩:=eE (w.alloc (.cells (Nu false none 0 0 0) 50));have qG:W.heap.size=w.heap.size+1:=by rw[hW];simp
 have qJ:Bw w W:=by rw[hW];exact bR.alloc lR _
 have qB:Hn W w.heap.size false none 0 0 0 50:=by rw[hW];exact kB7 _ _
 have k1:=kW W qJ;have HH:Hid (Hn W w.heap.size false none 0 0 0 50∧Bw w W∧W.heap.size=w.heap.size+1):=⟨qB,qJ,qG⟩;have qN:Hid _:=kB;clear qB qJ qG kW kB
 go_enter Tryz.func88,Tryz.ntmps88
 go_wp2_with fail;rw[←hW];clear hW;refine k1.mono ?_;rintro r w1 ⟨s1,H,n1,J,e1,rfl,hp,hb⟩;clear k1;have k2:=qN.out w1 (HH.out.2.1.trans (hb.mono HH.out.2.1.size));have H1:Hid (PN w1 (.agg (Nu s1 H n1 J e1)) (P 0)∧Bw W w1):=⟨hp,hb⟩;clear hp hb qN
 go_wp2_with fail;refine k2.mono ?_;rintro r w2 ⟨sb,I,nb,C,eb,rfl,hq,hb⟩;clear k2;obtain⟨V,hV⟩:=eE ((w2.alloc (.cells (Nu s1 H n1 J e1) 50)).alloc (.cells (Nu sb I nb C eb) 50));obtain⟨g,hg⟩:=eE w2.heap.size;have HR:Hid (RdD w g (P 1) (P 0) sb I nb C eb V s1 H n1 J e1):=by
  obtain⟨h1,h2,h3⟩:=HH.out;obtain⟨z1,z2,z3,z4⟩:=qG9 _ _ hV;have qK:=H1.out.2.trans (hb.mono H1.out.2.size);have hc:=qK.trans (z4.mono qK.size);have hs:=qK.size;refine⟨⟨by rw[hg];exact z1,(H1.out.1.later hb).later z4⟩,⟨by rw[hg];exact z2,hq.later z4⟩,qQ0 h1 hc ω,h2.trans (hc.mono h2.size),ω,ω⟩
 go_upto_region 2 with fail;rw[←hV,←hg];clear hV hg HH hq hb H1
 go_wp2_with fail;refine(kL _).mono ?_
 rintro r w2 ⟨rfl,rfl⟩
 go_wp2
 go_loopw [7] (fun v wr=>∃ (p:Nat) (s1:Bool) (H:Option Addr) (n1 J:Nat) (e1:Int),p≤L∧v=iV ((p:Int) - 1)∧Hid (RdD w g (P 1) (P (n / 2^p)) sb I nb C eb wr s1 H n1 J e1)) (fun v _=>(intOf v+1).toNat)
 case atStart=>exact⟨L,s1,H,n1,J,e1,kH8 _,rfl,by rw[←hL.out,Nat.div_eq_of_lt (qG2 n)];exact HR⟩
 case round =>
  obtain⟨p,s1,H,n1,J,e1,hp,rfl,F⟩:=hrel;clear HR;by_cases h0:0<p
  ·obtain⟨q,rfl⟩:∃ q,p=q+1:=⟨p - 1,ω⟩;have qM:((q+1:Nat):Int) - 1=(q:Int):=ω;have qS:(0:Int)≤(q:Int):=ω;have qD:(q:Int)<64:=ω;rw[qM];obtain⟨⟨a0,a1,a2⟩,-⟩:=qQ3 F.out.1.1;have k1:=kM wr _ _ (n / 2^(q+1)) (n / 2^(q+1)) F.out.2.2.2.1 F.out.1.2 F.out.1.2 (by have:=zD2 n q;have:=kF9 n (2^q);omega)
   go_wp2_with fail;refine k1.mono ?_;rintro r w3 ⟨s2,qZ,n2,qQ,e2,rfl,qF,qX⟩;have u:Hid (RdD w g (P 1) (P (n / 2^(q+1)+n / 2^(q+1))) sb I nb C eb (((w3.setCell ⟨g,0,none⟩ (.bool s2)).setCell ⟨g,1,none⟩ (.slice qZ n2 qQ)).setCell ⟨g,2,none⟩ (iV e2)) s2 qZ n2 qQ e2):=F.out.next qX qF;clear k1 a0 a1 a2;obtain⟨⟨a0,a1,a2⟩,f0,f1,f2⟩:=qQ3 (qQ0 F.out.1.1 qX F.out.1.lt);clear qF qX F
   go_upto_region 6 with fail;obtain⟨U,hU⟩:=eE (((w3.setCell ⟨g,0,none⟩ (.bool s2)).setCell ⟨g,1,none⟩ (.slice qZ n2 qQ)).setCell ⟨g,2,none⟩ (iV e2));rw[←hU] at u ⊢;clear hU a0 a1 a2 f0 f1 f2;have T:=yL1 (q:=q) hn;have h2:=zD2 n q;by_cases D:n / 2^q % 2=1
   ·rw[show(n / 2^q % 2==1)=true by simp[D]] at T
    obtain⟨⟨a0,a1,a2⟩,-⟩:=qQ3 u.out.1.1;obtain⟨⟨b0,b1,b2⟩,-⟩:=qQ3 u.out.2.1.1;have k2:=kM U _ _ (n / 2^(q+1)+n / 2^(q+1)) 1 u.out.2.2.2.1 u.out.1.2 u.out.2.1.2 (by have:=kF9 n (2^q);omega)
    rw[show n / 2^(q+1)+n / 2^(q+1)+1=n / 2^q by omega] at k2
    clear h2
    go_wp2_with fail;refine k2.mono ?_;rintro r w4 ⟨s3,qU,n3,qV,e3,rfl,qH,qY⟩;have qP:Hid (RdD w g (P 1) (P (n / 2^q)) sb I nb C eb (((w4.setCell ⟨g,0,none⟩ (.bool s3)).setCell ⟨g,1,none⟩ (.slice qU n3 qV)).setCell ⟨g,2,none⟩ (iV e3)) s3 qU n3 qV e3):=u.out.next qY qH;clear k2 a0 a1 a2 b0 b1 b2;obtain⟨⟨a0,a1,a2⟩,f0,f1,f2⟩:=qQ3 (qQ0 u.out.1.1 qY u.out.1.lt);clear qH qY u T D
    go_wp2_with fail;exact⟨⟨q,s3,qU,n3,qV,e3,ω,rfl,qP⟩,by simp[intOf]⟩
   ·rw[show(n / 2^q % 2==1)=false by simp[D]] at T
    rw[show n / 2^(q+1)+n / 2^(q+1)=n / 2^q by omega] at u
    clear h2 D
    go_wp2_with fail;exact⟨⟨q,s2,qZ,n2,qQ,e2,ω,rfl,u⟩,by simp[intOf]⟩
  ·obtain rfl:p=0:=ω;rw[kN7,Nat.div_one] at F;obtain⟨⟨a0,a1,a2⟩,-⟩:=qQ3 F.out.1.1;obtain⟨⟨b0,b1,b2⟩,f0,f1,f2⟩:=qQ3 F.out.2.2.1
   go_wp2_with fail;refine kB8 (kM2 rfl _ _ (w.heap.size) 50 (Nu s1 H n1 J e1) (0,0) _ rfl (qX8 _ _ _ F.out.2.2.1) Tryz.underlying50 rfl Tryz.info50) rfl ?_;exact⟨s1,H,n1,J,e1,rfl,qN2 F.out.1.2 F.out.2.2.1 _ _ _,qQ4 F.out.2.2.2.1 lR _ _ _⟩
theorem qV6 {a b:Int} {p q k l:Nat} (T:a.natAbs<2^k) (D:b.natAbs<2^l) (J:k+l≤60000) (u:p+q≤60000) {X Y:Value} {w:World} (F:Tab32 w) (H:PN w X (un a p)) (V:PN w Y (un b q)):Ca 94 #[X,Y] w fun r w'=>OutA w (un (a*b) (p+q)) r w':=qO0 (xV0 T D J u) F H V
theorem zL2 {bs n b:Nat} {w:World} (F:Tab32 w) (H:1≤bs) (C:bs≤16) (D:n≤8191) (V:bs^n<2^b) (L:b≤30000) (T:∀ W,Ca 155 #[.int .u64 n] W fun r w'=>r=.returned (iV (bl n:Nat))∧w'=W) :
  Ca 88 #[iV bs,iV n] w fun r w'=>OutA w (un ((bs^n:Nat):Int) 0) r w':=by
 have u:∀ a,a≤n→(((bs^a:Nat):Int)).natAbs<2^b:=fun a ha=>by
  rw[kN1];exact kF7 (kF4 H ha) V
 refine yC0 (fun a=>un ((bs^a:Nat):Int) 0) (bs:Int) n (bl n) w D rfl ?_ (fun W J=>?_) (fun W J=>?_) (fun W X Y a c J hX hY I=>?_) T
 ·exact(qJ4 n 13).2 (kF7 D (by decide:8191<2^13))
 ·have k:=qM4 (n:=1) (F.later J) ω;rw[show((bs^0:Nat):Int)=1 by rw[kN7];rfl]
  exact k
 ·have k:=qM4 (n:=(bs:Int)) (F.later J) ω;rw[show((bs^1:Nat):Int)=(bs:Int) by rw[Nat.pow_one]]
  exact k
 ·have k:=qV6 (u a ω) (u c ω) ω ω (F.later J) hX hY;rw[←kN8,←kN3] at k;exact k
theorem yW4 (k:Int) (T1 T2:Bool×Nat×Int) (w:World) (hk:k<0) (qY : -1000000≤k) (hw:IntKind.i64.wrap (-k) = -k)
  (k1:∀ W,Bw w W→Ca 99 #[iV 1] W fun r w'=>OutP W T1 r w') (k2:∀ W,Bw w W→Ca 88 #[iV 10,iV (-k)] W fun r w'=>OutA W T2 r w'):Ca 77 #[iV k] w fun r w'=>qT3 w T1 T2 r w':=by
 obtain⟨W,L⟩:=eE (w.alloc (.cells #[.bool false,.slice none 0 0,iV 0,.bool false,.slice none 0 0,iV 0] 104));have H:Hid (Hx W w.heap.size #[.bool false,.slice none 0 0,iV 0,.bool false,.slice none 0 0,iV 0] 104∧Bw w W):=(by rw[L];exact⟨kB7 _ _,bR.alloc lR _⟩:_∧_)
 have F:=k1 W H.out.2;have T:Hid _:=k2;clear k1 k2
 go_enter Tryz.func77,Tryz.ntmps77
 go_upto_region 1 with fail;rw[←L];clear L
 go_wp2_with fail;refine F.mono ?_;rintro r w1 ⟨s1,qZ,n1,I,e1,rfl,D,Y⟩;clear F;have V:Hid _:=aI3 (qQ0 H.out.1 Y (qQ7 H.out.1)) (H.out.2.trans (Y.mono H.out.2.size)) D;have F:=T.out w1 V.out.2.1;clear D Y H T
 go_wp2_with fail;refine F.mono ?_;rintro r w2 ⟨s2,qQ,n2,C,e2,rfl,D,u⟩;clear F;have J:Hid _:=aI4 (qQ0 V.out.1 u (qQ7 V.out.1)) (V.out.2.1.trans (u.mono V.out.2.1.size)) (V.out.2.2.later u) D;clear D u V;obtain⟨⟨c0,c1,c2,c3,c4,c5⟩,d0,d1,d2,d3,d4,d5⟩:=qU1 J.out.1
 go_wp2_with fail;refine kB8 (kM2 rfl _ _ w.heap.size 104 #[.bool s1,.slice qZ n1 I,iV e1,.bool s2,.slice qQ n2 C,iV e2] (0,0) _ rfl (qE4 _ _ _ _ _ _ J.out.1) Tryz.underlying104 rfl (by kernel_rfl)) rfl ?_
 exact⟨_,rfl,⟨_,_,_,_,_,_,_,_,_,_,rfl,J.out.2.2.1.set6 J.out.1 _ _ _ _ _ _,J.out.2.2.2.set6 J.out.1 _ _ _ _ _ _⟩,qB1 J.out.2.1 lR _ _ _ _ _ _⟩
theorem yW3 (k:Int) (T1 T2:Bool×Nat×Int) (w:World) (hk:¬ k<0)
  (k1:∀ W,Bw w W→Ca 99 #[iV 1] W fun r w'=>OutP W T1 r w') (k2:∀ W,Bw w W→Ca 88 #[iV 10,iV (k)] W fun r w'=>OutA W T2 r w'):Ca 77 #[iV k] w fun r w'=>qT3 w T2 T1 r w':=by
 obtain⟨W,L⟩:=eE (w.alloc (.cells #[.bool false,.slice none 0 0,iV 0,.bool false,.slice none 0 0,iV 0] 104));have H:Hid (Hx W w.heap.size #[.bool false,.slice none 0 0,iV 0,.bool false,.slice none 0 0,iV 0] 104∧Bw w W):=(by rw[L];exact⟨kB7 _ _,bR.alloc lR _⟩:_∧_)
 have F:=k2 W H.out.2;have T:Hid _:=k1;clear k2 k1
 go_enter Tryz.func77,Tryz.ntmps77
 go_upto_region 1 with fail;rw[←L];clear L
 go_wp2_with fail;refine F.mono ?_;rintro r w1 ⟨s1,qZ,n1,I,e1,rfl,D,Y⟩;clear F;have V:Hid _:=aI3 (qQ0 H.out.1 Y (qQ7 H.out.1)) (H.out.2.trans (Y.mono H.out.2.size)) D;have F:=T.out w1 V.out.2.1;clear D Y H T
 go_wp2_with fail;refine F.mono ?_;rintro r w2 ⟨s2,qQ,n2,C,e2,rfl,D,u⟩;clear F;have J:Hid _:=aI4 (qQ0 V.out.1 u (qQ7 V.out.1)) (V.out.2.1.trans (u.mono V.out.2.1.size)) (V.out.2.2.later u) D;clear D u V;obtain⟨⟨c0,c1,c2,c3,c4,c5⟩,d0,d1,d2,d3,d4,d5⟩:=qU1 J.out.1
 go_wp2_with fail;refine kB8 (kM2 rfl _ _ w.heap.size 104 #[.bool s1,.slice qZ n1 I,iV e1,.bool s2,.slice qQ n2 C,iV e2] (0,0) _ rfl (qE4 _ _ _ _ _ _ J.out.1) Tryz.underlying104 rfl (by kernel_rfl)) rfl ?_
 exact⟨_,rfl,⟨_,_,_,_,_,_,_,_,_,_,rfl,J.out.2.2.1.set6 J.out.1 _ _ _ _ _ _,J.out.2.2.2.set6 J.out.1 _ _ _ _ _ _⟩,qB1 J.out.2.1 lR _ _ _ _ _ _⟩
def tnO (k:Int):Nat:=10^k.toNat
def tnU (k:Int):Nat:=10^(-k).toNat
def KLen (n:Nat):Prop:=∀ W,Calls Tryz.prog 155 #[.int .u64 n] W fun r w'=>r=.returned (.int .i64 (bl n:Nat))∧w'=W
theorem xX4 (m:Nat) {n:Nat} (h:n≤3*m) (u:m≠0):10^n<2^(10*m):=by
 refine kF7 (kF4 δ h) ?_;rw[Nat.pow_mul,Nat.pow_mul];exact Nat.pow_lt_pow_left δ u
def dM:Nat:=2500
def dB:Nat:=10*dM
theorem qA7:dB≤25000:=by unfold dB dM;omega
theorem zJ3 {n:Nat} (h:n≤7500):10^n<2^dB:=by
 unfold dB;exact xX4 dM (by unfold dM;omega) (by unfold dM;omega)
theorem zL0 {k:Int} {w:World} (F:Tab32 w) (L : -7500≤k) (T:k≤7500) (D:∀ n,n≤7500→KLen n) :
  Ca 77 #[iV k] w fun r w'=>qT3 w (un (tnO k:Int) 0) (un (tnU k:Int) 0) r w':=by
 have Y:∀ W,Bw w W→Ca 99 #[iV 1] W fun r w'=>OutP W (un ((1:Nat):Int) 0) r w':=fun W V=>qM4 (n:=1) (F.later V) ω;have u:∀ n:Nat,n≤7500→∀ W,Bw w W→Ca 88 #[iV 10,iV (n:Int)] W fun r w'=>OutA W (un ((10^n:Nat):Int) 0) r w':=fun n J W V=>zL2 (bs:=10) (F.later V) ω ω ω (zJ3 J) (by have:=qA7;omega) (D n J)
 unfold tnO tnU;by_cases H:k<0
 ·obtain⟨n,J⟩:∃ n:Nat,-k=(n:Int):=⟨(-k).toNat,ω⟩;rw[show k.toNat=0 by omega,show(-k).toNat=n by omega,kN7]
  refine yW4 k _ _ w H ω (by rw[kB5];omega) Y ?_
  rw[J];exact u n ω
 ·obtain⟨n,J⟩:∃ n:Nat,k=(n:Int):=⟨k.toNat,ω⟩;rw[show(-k).toNat=0 by omega,show k.toNat=n by omega,kN7]
  refine yW3 k _ _ w H Y ?_;rw[J];exact u n ω
end Go.Proofs.YtfkaogdmlcdceaaGreatDoor
namespace Go.Proofs.YtfkaogdmlcdceaaGreatDoor
open Go.RowKit
attribute [local go_sem] iV Nu
structure ParX (pv pa ps:Nat→Nat) (W0:World) (a0:Act) (m n:Nat) (slot bx:Nat→Tmp) (vs:Nat→Nat) (T:TypeId) (zs:Array Value) (V:Nat→World→Value→Prop) (listed:Array Bool) (a:Act) (w:World):Prop where
 below:Bw W0 w
 size:a.tmps.size=a0.tmps.size
 defers:a.defers=a0.defers
 other:∀ s,(∀ j,j<m→s≠slot j)→(∀ k,k<n→s≠bx k)→a.tmps[s]?=a0.tmps[s]?
 val:∀ j,j<m→listed.getD (pv j) false=true→∃ u,a.tmps[slot j]?=some u∧V j w u
 box:∀ k,k<n→listed.getD (pa k) false=true→∃ g cs,a.tmps[bx k]?=some (.pointer (some ⟨g,0,none⟩))∧W0.heap.size≤g∧w.heap[g]?=some (.cells cs T (0,0))∧cs.size=zs.size ∧
  (listed.getD (ps k) false=true→a.tmps[slot (vs k)]?=some (.agg cs))∧(listed.getD (ps k) false=false→cs=zs)
 apart:∀ k k',k<n→k'<n→k≠k'→listed.getD (pa k) false=true→listed.getD (pa k') false=true→a.tmps[bx k]?≠a.tmps[bx k']?
 stored:∀ k,k<n→listed.getD (ps k) false=true→listed.getD (pa k) false=true∧listed.getD (pv (vs k)) false=true
theorem zB4 {P:Program} {I:Array Oper} {Q:Exit→Act→World→Prop} {id:Nat} (hm:P.follows .mixedOrders=true) (pv pa ps:Nat→Nat) (m n:Nat) (C bx:Nat→Tmp) (vs:Nat→Nat) (zG:Nat→List Nat) (T:TypeId) (zs:Array Value)
  (W0:World) (a0:Act) (V:Nat→World→Value→Prop) (qL:∀ i,i<I.size→(∃ j,j<m∧i=pv j)∨(∃ k,k<n∧i=pa k)∨∃ k,k<n∧i=ps k)
  (zP:∀ j,j<m→pv j<I.size) (qD:∀ k,k<n→pa k<I.size) (zD:∀ k,k<n→ps k<I.size)
  (zH:∀ j j',j<m→j'<m→pv j=pv j'→j=j') (yZ:∀ k k',k<n→k'<n→pa k=pa k'→k=k') (zM:∀ k k',k<n→k'<n→ps k=ps k'→k=k')
  (qA:∀ j k,j<m→k<n→pv j≠pa k) (qC:∀ j k,j<m→k<n→pv j≠ps k) (has:∀ k k',k<n→k'<n→pa k≠ps k')
  (qN:∀ (i:Nat) (o:Oper),I[i]?=some o→∀ e ∈ o.after,Region.binds .any e=true→e.on<i)
  (zU:∀ j w w' u,Bw w w'→V j w u→V j w' u)
  (yX:∀ j w u g qW,w.heap[g]?=some (.cells zs T (0,0))→V j w u→V j (w.setRow g qW) u)
  (yY:∀ k,k<n→∀ w u,V (vs k) w u→∃ cs:Array Value,u=.agg cs∧cs.size=zs.size∧cs.all (·.oneCell')=true)
  (zY:∀ j,j<m→∀ j' ∈ zG j,j'<m∧∀ o,I[pv j]?=some o→∃ e ∈ o.after,e.on=pv j'∧Region.binds .any e=true)
  (hA:∀ j,j<m→∀ (a:Act) (w:World),Bw W0 w→(∀ s,(∀ j,j<m→s≠C j)→(∀ k,k<n→s≠bx k)→a.tmps[s]?=a0.tmps[s]?) →
   (∀ j' ∈ zG j,∃ u,a.tmps[C j']?=some u∧V j' w u)→wpOp P I Q (pv j) (fun a' w'=>∃ u,a'=a.put (some (C j)) u∧V j w' u∧Bw w w') a w)
  (yQ:∀ k,k<n→∃ o,I[pa k]?=some o∧o.guard=none∧o.op=.alloc T∧o.dst=some (bx k))
  (hz:∀ w,(zeroValue T).run P w=.ok (.agg zs) w) (hi:(P.info? T).map (·.size)=some zs.size)
  (qF:∀ k,k<n→vs k<m∧∃ o,I[ps k]?=some o∧o.guard=none∧o.op=.store T (.tmp (bx k)) (.tmp (C (vs k)))∧o.dst=none∧(∃ e ∈ o.after,e.on=pa k∧Region.binds .any e=true)∧(∃ e ∈ o.after,e.on=pv (vs k)∧Region.binds .any e=true))
  (zT:∀ j,j<m→C j<a0.tmps.size) (zJ:∀ k,k<n→bx k<a0.tmps.size)
  (qM:∀ j j',j<m→j'<m→C j=C j'→j=j') (qY:∀ k k',k<n→k'<n→bx k=bx k'→k=k') (qG:∀ j k,j<m→k<n→C j≠bx k)
  (hQ:∀ (u:Nat→Value) (g:Nat→Nat) (a:Act) (w:World),Bw W0 w→(∀ j,j<m→a.tmps[C j]?=some (u j)∧V j w (u j)) →
   (∀ k,k<n→a.tmps[bx k]?=some (.pointer (some ⟨g k,0,none⟩))∧W0.heap.size≤g k∧∃ cs,u (vs k)=.agg cs∧w.heap[g k]?=some (.cells cs T (0,0))) →
   (∀ k k',k<n→k'<n→k≠k'→g k≠g k')→a.tmps.size=a0.tmps.size→a.defers=a0.defers→(∀ s,(∀ j,j<m→s≠C j)→(∀ k,k<n→s≠bx k)→a.tmps[s]?=a0.tmps[s]?)→Q .normal a w) :
  (Code.region id I true).wp P Q a0 W0:=by
 refine wp_region_any hm ?_;refine qC7 (ParX pv pa ps W0 a0 m n C bx vs T zs V) ?_ ?_ I.size _ a0 _ (by simp) ?_ (by simp)
 ·-- a step
  intro D a w i hl W hr;obtain⟨zB,o,ho,qH⟩:=mem_ready.1 hr;have qU:=qL1 zB;have zR:=(Array.getElem?_eq_some_iff.1 ho).1;have qR:i<D.size:=ω;have qO:=qL2 qR;have L:∀ x,x≠i→(D.setIfInBounds i true).getD x false=D.getD x false:=fun x hx=>getD_set_ne false (Ne.symm hx);rcases qL i zR with ⟨i,qQ,rfl⟩|⟨k,J,rfl⟩|⟨k,J,rfl⟩
  ·have nv:∀ j,j<m→j≠i→pv j≠pv i:=fun j hj e e2=>e (zH j i hj qQ e2);have na:∀ k,k<n→pa k≠pv i:=fun k J e=>qA i k qQ J e.symm;have ns:∀ k,k<n→ps k≠pv i:=fun k J e=>qC i k qQ J e.symm;refine wpOp_mono ?_ (hA i qQ a w W.below W.other fun j' zS=>?_)
   ·rintro a' w' ⟨u,rfl,hu,hb⟩;have qV:C i<a.tmps.size:=by rw[W.size];exact zT i qQ
    refine⟨W.below.trans (hb.mono W.below.size),by rw[qR0];exact W.size,by rw[qF8];exact W.defers,fun s F H=>?_,fun j hj F=>?_,fun k J F=>?_,fun k k' J qJ qX F H=>?_,fun k J F=>?_⟩
    ·rw[qX7 (F i qQ)];exact W.other s F H
    ·by_cases e:j=i
     ·subst e;exact⟨u,qP9 qV,hu⟩
     ·rw[L _ (nv j hj e)] at F;obtain⟨u',g1,g2⟩:=W.val j hj F;exact⟨u',by rw[qX7 (fun e2=>e (qM j i hj qQ e2))];exact g1,zU _ _ _ _ hb g2⟩
    ·rw[L _ (na k J)] at F;obtain⟨g,cs,g1,g2,g3,g4,g5,g6⟩:=W.box k J F;refine⟨g,cs,by rw[qX7 (Ne.symm (qG i k qQ J))];exact g1,g2,(hb.block g (Array.getElem?_eq_some_iff.1 g3).1).trans g3,g4,fun H=>?_,fun H=>g6 (by rw[←L (ps k) (ns k J)];exact H)⟩
     rw[L _ (ns k J)] at H;have h3:=(W.stored k J H).2;have h4:vs k≠i:=fun e=>by rw[e,qU] at h3;cases h3
     rw[qX7 (fun e2=>h4 (qM _ _ (qF k J).1 qQ e2))];exact g5 H
    ·rw[L _ (na k J)] at F;rw[L _ (na k' qJ)] at H;rw[qX7 (Ne.symm (qG i k qQ J)),qX7 (Ne.symm (qG i k' qQ qJ))];exact W.apart k k' J qJ qX F H
    ·rw[L _ (ns k J)] at F;obtain⟨H,h3⟩:=W.stored k J F;exact⟨getD_set_true H,getD_set_true h3⟩
   ·obtain⟨F,H⟩:=zY i qQ j' zS;obtain⟨e,he,h3,zA⟩:=H o ho;exact W.val _ F (by rw[←h3];exact qH e he zA)
  ·have nv:∀ j,j<m→pv j≠pa k:=fun j hj=>qA j k hj J;have na:∀ k1,k1<n→k1≠k→pa k1≠pa k:=fun k1 Y e e2=>e (yZ k1 k Y J e2);have ns:∀ k1,k1<n→ps k1≠pa k:=fun k1 Y e=>has k k1 J Y e.symm;obtain⟨o',qB,hg,qS,hd⟩:=yQ k J;refine zL9 qB hg qS hz ?_;rw[hd];have qV:bx k<a.tmps.size:=by rw[W.size];exact zJ k J
   have qT:Below w.heap.size w (w.alloc (.cells zs T)):=bR.alloc lR _;refine⟨W.below.trans (qT.mono W.below.size),by rw[qR0];exact W.size,by rw[qF8];exact W.defers,fun s F H=>?_,fun j hj F=>?_,fun k1 Y F=>?_,fun k1 k2 Y qK qX F H=>?_,fun k1 Y F=>?_⟩
   ·rw[qX7 (H k J)];exact W.other s F H
   ·rw[L _ (nv j hj)] at F;obtain⟨u',g1,g2⟩:=W.val j hj F;exact⟨u',by rw[qX7 (qG j k hj J)];exact g1,zU _ _ _ _ qT g2⟩
   ·by_cases e:k1=k
    ·subst e;refine⟨w.heap.size,zs,qP9 qV,W.below.size,kB7 _ _,rfl,fun H=>?_,fun _=>rfl⟩
     rw[L _ (ns k1 J)] at H;have:=(W.stored k1 J H).1
     rw[qU] at this;cases this
    ·rw[L _ (na k1 Y e)] at F;obtain⟨g,cs,g1,g2,g3,g4,g5,g6⟩:=W.box k1 Y F;refine⟨g,cs,by rw[qX7 (fun e2=>e (qY _ _ Y J e2))];exact g1,g2,(qT.block g (Array.getElem?_eq_some_iff.1 g3).1).trans g3,g4,fun H=>?_,fun H=>g6 (by rw[←L (ps k1) (ns k1 Y)];exact H)⟩
     rw[L _ (ns k1 Y)] at H;rw[qX7 (qG _ k (qF k1 Y).1 J)];exact g5 H
   ·have qP:∀ k1,k1<n→k1≠k→D.getD (pa k1) false=true→a.tmps[bx k1]?≠some (.pointer (some ⟨w.heap.size,0,none⟩)):=fun k1 Y e F H=>by
     obtain⟨g,cs,g1,g2,g3,g4,g5,g6⟩:=W.box k1 Y F;have qV:=(Array.getElem?_eq_some_iff.1 g3).1;rw[g1] at H;simp only[Option.some.injEq,Value.pointer.injEq,Addr.mk.injEq] at H;omega
    by_cases e1:k1=k
    ·subst e1;rw[L _ (na k2 qK (Ne.symm qX))] at H;rw[qP9 qV,qX7 (fun e2=>qX (qY _ _ J qK e2.symm))];exact Ne.symm (qP k2 qK (Ne.symm qX) H)
    ·rw[L _ (na k1 Y e1)] at F;by_cases e2:k2=k
     ·subst e2;rw[qP9 qV,qX7 (fun e2=>e1 (qY _ _ Y J e2))];exact qP k1 Y e1 F
     ·rw[L _ (na k2 qK e2)] at H;rw[qX7 (fun e3=>e1 (qY _ _ Y J e3)),qX7 (fun e3=>e2 (qY _ _ qK J e3))];exact W.apart k1 k2 Y qK qX F H
   ·rw[L _ (ns k1 Y)] at F;obtain⟨H,h3⟩:=W.stored k1 Y F;exact⟨getD_set_true H,getD_set_true h3⟩
  ·have nv:∀ j,j<m→pv j≠ps k:=fun j hj=>qC j k hj J;have na:∀ k1,k1<n→pa k1≠ps k:=fun k1 Y=>has k1 k Y J;have ns:∀ k1,k1<n→k1≠k→ps k1≠ps k:=fun k1 Y e e2=>e (zM k1 k Y J e2);obtain⟨zF,o',qB,hg,qS,hd,⟨e1,zC,zZ,zO⟩,e2,zW,zQ,zI⟩:=qF k J;obtain rfl:o'=o:=kF0 (qB.symm.trans ho);have l1:=qH e1 zC zO;have l2:=qH e2 zW zI;rw[zZ] at l1;rw[zQ] at l2;obtain⟨u,qI,zN⟩:=W.val _ zF l2;obtain⟨cs,rfl,zX,zE⟩:=yY k J w u zN;obtain⟨g,qP,g1,g2,g3,g4,g5,g6⟩:=W.box k J l1;rw[g6 qU] at g3 g4;refine qL0 qB hg qS g1 qI g3 (by rw[zX];exact hi) ω zE ?_
   rw[hd];show ParX pv pa ps W0 a0 m n C bx vs T zs V _ a _
   refine⟨qN8 W.below g2 _,W.size,W.defers,W.other,fun j hj F=>?_,fun k1 Y F=>?_,fun k1 k2 Y qK qX F H=>?_,fun k1 Y F=>?_⟩
   ·rw[L _ (nv j hj)] at F;obtain⟨u',q1,q2⟩:=W.val j hj F;exact⟨u',q1,yX _ _ _ _ _ g3 q2⟩
   ·rw[L _ (na k1 Y)] at F;by_cases e:k1=k
    ·subst e;exact⟨g,cs,g1,g2,setRow_heap w g _ cs T _ g3,zX,fun _=>qI,fun H=>by rw[qO] at H;cases H⟩
    ·obtain⟨g',qW,q1,q2,q3,q4,q5,q6⟩:=W.box k1 Y F;have zL:g'≠g:=fun e2=>by
      subst e2;exact W.apart k1 k Y J e F l1 (q1.trans g1.symm)
     refine⟨g',qW,q1,q2,(setRow_other w g g' cs zL).trans q3,q4,fun H=>?_,fun H=>q6 (by rw[←L (ps k1) (ns k1 Y e)];exact H)⟩
     rw[L _ (ns k1 Y e)] at H;exact q5 H
   ·rw[L _ (na k1 Y)] at F;rw[L _ (na k2 qK)] at H;exact W.apart k1 k2 Y qK qX F H
   ·by_cases e:k1=k
    ·subst e;exact⟨getD_set_true l1,getD_set_true l2⟩
    ·rw[L _ (ns k1 Y e)] at F;obtain⟨H,h3⟩:=W.stored k1 Y F;exact⟨getD_set_true H,getD_set_true h3⟩
 ·-- the end: all have come up
  intro D a w hl W hr;have qZ:∀ i,i<I.size→D.getD i false=true:=by
   intro i;induction i using Nat.strongRecOn with
   | _ i ih =>
    intro hi;cases hx:D.getD i false with
    | true=>rfl
    | false =>
     exfalso;have ho:=Array.getElem?_eq_getElem hi;have:i ∈ Region.ready .any I D:=by
      refine mem_ready.2 ⟨?_,I[i],ho,fun e he zV=>ih e.on (qN i _ ho e he zV) (Nat.lt_trans (qN i _ ho e he zV) hi)⟩;have qR:i<D.size:=ω;simp only[Array.getD_eq_getD_getElem?,Array.getElem?_eq_getElem qR,Option.getD_some] at hx ⊢;exact hx
     rw[hr] at this;cases this
  have qE:∀ j,∃ u,j<m→a.tmps[C j]?=some u∧V j w u:=fun j=>by
   by_cases hj:j<m
   ·obtain⟨u,F,H⟩:=W.val j hj (qZ _ (zP j hj));exact⟨u,fun _=>⟨F,H⟩⟩
   ·exact⟨undef,fun h=>absurd h hj⟩
  obtain⟨u,hu⟩:=Classical.axiomOfChoice qE;have zK:∀ k,∃ g,k<n→a.tmps[bx k]?=some (.pointer (some ⟨g,0,none⟩))∧W0.heap.size≤g∧∃ cs,u (vs k)=.agg cs∧Hx w g cs T:=fun k=>by
   by_cases J:k<n
   ·obtain⟨g,cs,F,H,h3,h4,h5,-⟩:=W.box k J (qZ _ (qD k J));refine⟨g,fun _=>⟨F,H,cs,?_,h3⟩⟩
    have h6:=h5 (qZ _ (zD k J));rw[(hu _ (qF k J).1).1] at h6;exact kF0 h6
   ·exact⟨0,fun h=>absurd h J⟩
  obtain⟨g,hg⟩:=Classical.axiomOfChoice zK;exact hQ u g a w W.below hu hg (fun k k' J qJ qX e=>W.apart k k' J qJ qX (qZ _ (qD k J)) (qZ _ (qD k' qJ)) (by rw[(hg k J).1,(hg k' qJ).1,e])) W.size W.defers W.other
 ·-- the start
  have h0:∀ x,(Array.replicate I.size false).getD x false=true→False:=fun x h=>by
   simp[Array.getD_eq_getD_getElem?,Array.getElem?_replicate] at h;split at h <;> simp at h
  exact⟨bR.drew,rfl,rfl,fun _ _ _=>rfl,fun j _ h=>(h0 _ h).elim,fun k _ h=>(h0 _ h).elim,fun k k' _ _ _ h=>(h0 _ h).elim,fun k _ h=>(h0 _ h).elim⟩
structure KeepB (n:Nat) (gs:Nat→Nat) (B:Nat) (W0 w:World):Prop where
 below:Below B W0 w
 size:W0.heap.size≤w.heap.size
 keep:∀ b,b<W0.heap.size→(∀ k,k<n→b≠gs k)→w.heap[b]?=W0.heap[b]?
theorem KeepB.step {n:Nat} {V:Nat→Nat} {B:Nat} {Y w w':World} (h:KeepB n V B Y w) (H:B≤Y.heap.size) (u:Bw w w'):KeepB n V B Y w' :=
 ⟨h.below.trans (u.mono (kF8 H h.size)),kF8 h.size u.size,fun b J F=>(u.block b (kF6 J h.size)).trans (h.keep b J F)⟩
theorem KeepB.row {n:Nat} {u:Nat→Nat} {B:Nat} {J w:World} (h:KeepB n u B J w) {k:Nat} (V:k<n) (H:B≤u k) (cs:Array Value):KeepB n u B J (w.setRow (u k) cs) :=
 ⟨qN8 h.below H _,by simpa using h.size,fun b F Y=>(setRow_other w (u k) b cs (Y k V)).trans (h.keep b F Y)⟩
structure ParQ (pv ps:Nat→Nat) (rd:Nat→List Nat) (W0:World) (a0:Act) (m n:Nat) (slot:Nat→Tmp) (vs gs:Nat→Nat) (B:Nat) (T:TypeId) (C:Array Value→Prop) (z:Nat) (V:Nat→World→Value→Prop) (listed:Array Bool) (a:Act) (w:World):Prop where
 kept:KeepB n gs B W0 w
 size:a.tmps.size=a0.tmps.size
 defers:a.defers=a0.defers
 other:∀ s,(∀ j,j<m→s≠slot j)→a.tmps[s]?=a0.tmps[s]?
 val:∀ j,j<m→listed.getD (pv j) false=true→∃ u,a.tmps[slot j]?=some u∧V j w u
 box:∀ k,k<n→∃ cs,w.heap[gs k]?=some (.cells cs T (0,0))∧cs.size=z∧C cs∧(listed.getD (ps k) false=true→a.tmps[slot (vs k)]?=some (.agg cs))∧(listed.getD (ps k) false=false→w.heap[gs k]?=W0.heap[gs k]?)
 stored:∀ k,k<n→listed.getD (ps k) false=true→∀ j ∈ rd k,listed.getD (pv j) false=true
theorem zB5 {P:Program} {D:Array Oper} {Q:Exit→Act→World→Prop} {id:Nat} (hm:P.follows .mixedOrders=true) (pv ps:Nat→Nat) (m n:Nat) (J bx:Nat→Tmp) (vs I:Nat→Nat) (B:Nat) (zQ rd:Nat→List Nat) (T:TypeId) (C:Array Value→Prop) (z:Nat)
  (W0:World) (a0:Act) (V:Nat→World→Value→Prop) (qE:∀ i,i<D.size→(∃ j,j<m∧i=pv j)∨∃ k,k<n∧i=ps k) (zG:∀ j,j<m→pv j<D.size) (zH:∀ k,k<n→ps k<D.size) (qJ:∀ j k,j<m→k<n→pv j≠ps k) (zY:∀ j j',j<m→j'<m→pv j=pv j'→j=j') (qB:∀ k k',k<n→k'<n→ps k=ps k'→k=k')
  (qU:∀ (i:Nat) (o:Oper),D[i]?=some o→∀ e ∈ o.after,Region.binds .any e=true→e.on<i)
  (yQ:∀ j w w' u,Bw w w'→V j w u→V j w' u)
  (zO:∀ j w u g cs qM,w.heap[g]?=some (.cells cs T (0,0))→C cs→V j w u→V j (w.setRow g qM) u)
  (zI:∀ k,k<n→∀ w u,V (vs k) w u→∃ cs:Array Value,u=.agg cs∧cs.size=z∧C cs∧cs.all (·.oneCell')=true)
  (qC:∀ j,j<m→∀ j' ∈ zQ j,j'<m∧∀ o,D[pv j]?=some o→∃ e ∈ o.after,e.on=pv j'∧Region.binds .any e=true)
  (hA:∀ j,j<m→∀ (a:Act) (w:World),KeepB n I B W0 w→(∀ s,(∀ j,j<m→s≠J j)→a.tmps[s]?=a0.tmps[s]?) →
   (∀ j' ∈ zQ j,∃ u,a.tmps[J j']?=some u∧V j' w u)→(∀ k,k<n→j ∈ rd k→w.heap[I k]?=W0.heap[I k]?)→wpOp P D Q (pv j) (fun a' w'=>∃ u,a'=a.put (some (J j)) u∧V j w' u∧Bw w w') a w)
  (hi:(P.info? T).map (·.size)=some z)
  (qX:∀ k,k<n→vs k<m∧∃ o,D[ps k]?=some o∧o.guard=none∧o.op=.store T (.tmp (bx k)) (.tmp (J (vs k)))∧o.dst=none∧vs k ∈ rd k∧∀ j ∈ rd k,j<m∧∃ e ∈ o.after,e.on=pv j∧Region.binds .any e=true)
  (qI:∀ k,k<n→a0.tmps[bx k]?=some (.pointer (some ⟨I k,0,none⟩))∧∀ j,j<m→bx k≠J j)
  (qH:∀ k,k<n→B≤I k∧∃ cs,W0.heap[I k]?=some (.cells cs T (0,0))∧cs.size=z∧C cs)
  (zR:∀ k k',k<n→k'<n→I k=I k'→k=k') (hB:B≤W0.heap.size)
  (zS:∀ j,j<m→J j<a0.tmps.size)
  (qG:∀ j j',j<m→j'<m→J j=J j'→j=j')
  (hQ:∀ (u:Nat→Value) (a:Act) (w:World),KeepB n I B W0 w→(∀ j,j<m→a.tmps[J j]?=some (u j)∧V j w (u j)) →
   (∀ k,k<n→∃ cs,u (vs k)=.agg cs∧w.heap[I k]?=some (.cells cs T (0,0))) →
   a.tmps.size=a0.tmps.size→a.defers=a0.defers→(∀ s,(∀ j,j<m→s≠J j)→a.tmps[s]?=a0.tmps[s]?)→Q .normal a w) :
  (Code.region id D true).wp P Q a0 W0:=by
 have qP:∀ k,k<n→vs k ∈ rd k:=fun k H=>by
  obtain⟨_,_,_,_,_,_,h,_⟩:=qX k H;exact h
 refine wp_region_any hm ?_;refine qC7 (ParQ pv ps rd W0 a0 m n J vs I B T C z V) ?_ ?_ D.size _ a0 _ (by simp) ?_ (by simp)
 ·-- a step
  intro Y a w i hl F hr;obtain⟨zJ,o,ho,qF⟩:=mem_ready.1 hr;have qV:=qL1 zJ;have zD:=(Array.getElem?_eq_some_iff.1 ho).1;have qN:i<Y.size:=ω;have qR:=qL2 qN;have qQ:∀ x,x≠i→(Y.setIfInBounds i true).getD x false=Y.getD x false:=fun x hx=>getD_set_ne false (Ne.symm hx);rcases qE i zD with ⟨i,L,rfl⟩|⟨k,H,rfl⟩
  ·refine wpOp_mono ?_ (hA i L a w F.kept F.other (fun j' zP=>?_) (fun k H zM=>?_))
   ·rintro a' w' ⟨u,rfl,hu,hb⟩;have zN:J i<a.tmps.size:=by rw[F.size];exact zS i L
    refine⟨F.kept.step hB hb,by rw[qR0];exact F.size,by rw[qF8];exact F.defers,fun s W=>?_,fun j hj W=>?_,fun k H=>?_,fun k H W jr qK=>?_⟩
    ·rw[qX7 (W i L)];exact F.other s W
    ·by_cases e:j=i
     ·subst e;exact⟨u,qP9 zN,hu⟩
     ·rw[qQ (pv j) (fun e2=>e (zY j i hj L e2))] at W;obtain⟨u',g1,g2⟩:=F.val j hj W;exact⟨u',by rw[qX7 (fun e2=>e (qG j i hj L e2))];exact g1,yQ _ _ _ _ hb g2⟩
    ·obtain⟨cs,g3,g4,g5,g6,g7⟩:=F.box k H;refine⟨cs,(hb.block _ (Array.getElem?_eq_some_iff.1 g3).1).trans g3,g4,g5,fun h2=>?_,fun h2=>(hb.block _ (Array.getElem?_eq_some_iff.1 g3).1).trans (g7 (by rw[←qQ (ps k) (Ne.symm (qJ i k L H))];exact h2))⟩
     rw[qQ _ (Ne.symm (qJ i k L H))] at h2;have h3:=F.stored k H h2 (vs k) (qP k H);have h4:vs k≠i:=fun e=>by rw[e,qV] at h3;cases h3
     rw[qX7 (fun e2=>h4 (qG _ _ (qX k H).1 L e2))];exact g6 h2
    ·rw[qQ _ (Ne.symm (qJ i k L H))] at W;exact getD_set_true (F.stored k H W jr qK)
   ·obtain⟨W,h2⟩:=qC i L j' zP;obtain⟨e,he,zB,zE⟩:=h2 o ho;exact F.val _ W (by rw[←zB];exact qF e he zE)
   ·obtain⟨cs,g3,g4,g5,g6,g7⟩:=F.box k H;refine g7 ?_;cases hs:Y.getD (ps k) false
    ·rfl
    ·have h3:=F.stored k H hs i zM;rw[qV] at h3;cases h3
  ·obtain⟨zK,o',qL,hg,zF,hd,zX,zU⟩:=qX k H;obtain rfl:o'=o:=kF0 (qL.symm.trans ho);have lr:∀ j ∈ rd k,Y.getD (pv j) false=true:=fun j hj=>by
    obtain⟨-,e2,zT,qT,zA⟩:=zU j hj;rw[←qT];exact qF e2 zT zA
   have l2:=lr _ zX;obtain⟨u,qS,zV⟩:=F.val _ zK l2;obtain⟨cs,rfl,qA,zL,zW⟩:=zI k H w u zV;obtain⟨zZ,g3,g4,g5,g6,-⟩:=F.box k H;have zC:a.tmps[bx k]?=some (.pointer (some ⟨I k,0,none⟩)):=by rw[F.other _ (qI k H).2];exact(qI k H).1
   refine qL0 qL hg zF zC qS g3 (by rw[qA];exact hi) ω zW ?_
   rw[hd];show ParQ pv ps rd W0 a0 m n J vs I B T C z V _ a _
   refine⟨F.kept.row H (qH k H).1 _,F.size,F.defers,F.other,fun j hj W=>?_,fun k1 qZ=>?_,fun k1 qZ W jr qK=>?_⟩
   ·rw[qQ (pv j) (qJ j k hj H)] at W;obtain⟨u',q1,q2⟩:=F.val j hj W;exact⟨u',q1,zO _ _ _ _ _ _ g3 g5 q2⟩
   ·by_cases e:k1=k
    ·subst e;exact⟨cs,setRow_heap w (I k1) zZ cs T _ g3,qA,zL,fun _=>qS,fun h2=>by rw[qR] at h2;cases h2⟩
    ·obtain⟨qM,q3,q4,q5,q6,q7⟩:=F.box k1 qZ;have qW:I k1≠I k:=fun e2=>e (zR k1 k qZ H e2);refine⟨qM,(setRow_other w (I k) (I k1) cs qW).trans q3,q4,q5,fun h2=>?_,fun h2=>(setRow_other w (I k) (I k1) cs qW).trans (q7 (by rw[←qQ (ps k1) (fun e2=>e (qB k1 k qZ H e2))];exact h2))⟩
     rw[qQ _ (fun e2=>e (qB k1 k qZ H e2))] at h2;exact q6 h2
   ·by_cases e:k1=k
    ·subst e;exact getD_set_true (lr jr qK)
    ·rw[qQ _ (fun e2=>e (qB k1 k qZ H e2))] at W;exact getD_set_true (F.stored k1 qZ W jr qK)
 ·-- the end: all have come up
  intro Y a w hl F hr;have qY:∀ i,i<D.size→Y.getD i false=true:=by
   intro i;induction i using Nat.strongRecOn with
   | _ i ih =>
    intro hi;cases hx:Y.getD i false with
    | true=>rfl
    | false =>
     exfalso;have ho:=Array.getElem?_eq_getElem hi;have:i ∈ Region.ready .any D Y:=by
      refine mem_ready.2 ⟨?_,D[i],ho,fun e he qO=>ih e.on (qU i _ ho e he qO) (Nat.lt_trans (qU i _ ho e he qO) hi)⟩;have qN:i<Y.size:=ω;simp only[Array.getD_eq_getD_getElem?,Array.getElem?_eq_getElem qN,Option.getD_some] at hx ⊢;exact hx
     rw[hr] at this;cases this
  have qD:∀ j,∃ u,j<m→a.tmps[J j]?=some u∧V j w u:=fun j=>by
   by_cases hj:j<m
   ·obtain⟨u,W,h2⟩:=F.val j hj (qY (pv j) (zG j hj));exact⟨u,fun _=>⟨W,h2⟩⟩
   ·exact⟨undef,fun h=>absurd h hj⟩
  obtain⟨u,hu⟩:=Classical.axiomOfChoice qD;refine hQ u a w F.kept hu (fun k H=>?_) F.size F.defers F.other;obtain⟨cs,h3,h4,h5,h6,-⟩:=F.box k H;have h7:=h6 (qY _ (zH k H));rw[(hu _ (qX k H).1).1] at h7;exact⟨cs,kF0 h7,h3⟩
 ·-- the start
  have h0:∀ x,(Array.replicate D.size false).getD x false=true→False:=fun x h=>by
   simp[Array.getD_eq_getD_getElem?,Array.getElem?_replicate] at h;split at h <;> simp at h
  refine⟨⟨bR.drew,kH8 _,fun _ _ _=>rfl⟩,rfl,rfl,fun _ _=>rfl,fun j _ h=>(h0 _ h).elim,fun k H=>?_,fun k _ h=>(h0 _ h).elim⟩
  obtain⟨-,cs,W,h2,h3⟩:=qH k H;exact⟨cs,W,h2,h3,fun h=>(h0 _ h).elim,fun _=>rfl⟩
def zK5 (T:TypeId) (C:Array Value→Prop):List (World→Value→Prop)→Prop
 | []=>True
 | P :: r=>(∀ w u g cs cs',w.heap[g]?=some (.cells cs T (0,0))→C cs→P w u→P (w.setRow g cs') u)∧zK5 T C r
theorem zI5 {T:TypeId} {C:Array Value→Prop}:∀ {L:List (World→Value→Prop)},zK5 T C L→∀ j w u g cs Y,w.heap[g]?=some (.cells cs T (0,0))→C cs→vL L j w u→vL L j (w.setRow g Y) u
 | [],_,j=>fun w u g cs Y _ _ h=>by simp[vL] at h
 | P :: r,hL,0=>hL.1
 | P :: r,hL,j+1=>fun w u g cs Y V J h=>zI5 hL.2 j w u g cs Y V J h
theorem qK4 (x:Value) (T:TypeId) (C:Array Value→Prop):∀ w u g cs Y,w.heap[g]?=some (.cells cs T (0,0))→C cs→isV x w u→isV x (w.setRow g Y) u:=fun _ _ _ _ _ _ _ h=>h
def qrow (PVL PSL SL:List Nat) (D rd:List (List Nat)) (vs:List Nat) (i:Nat) (o:Oper):Bool :=
 o.after.all (fun e => !(Region.binds .any e)||decide (e.on<i))&&(PVL.contains i||PSL.contains i)
def qval (ops:Array Oper) (PVL SL:List Nat) (D:List (List Nat)) (j:Nat):Bool :=
 match ops[PVL.getD j 0]? with
 | some o=>o.dst==some (SL.getD j 0)&&(dL D j).all (fun j'=>decide (j'<PVL.length)&&vhas o (PVL.getD j' 0))
 | none=>false
def qsto (ops:Array Oper) (PVL PSL:List Nat) (rd:List (List Nat)) (vs:List Nat) (k:Nat):Bool :=
 match ops[PSL.getD k 0]? with
 | some o=>o.dst==none&&o.guard.isNone&&decide (vs.getD k 0<PVL.length)&&(dL rd k).contains (vs.getD k 0)&&(dL rd k).all (fun j=>decide (j<PVL.length)&&vhas o (PVL.getD j 0))
 | none=>false
def qchk (ops:Array Oper) (PVL PSL SL:List Nat) (D rd:List (List Nat)) (vs:List Nat):Bool :=
 ((List.range ops.size).all fun i=>match ops[i]? with|some o=>qrow PVL PSL SL D rd vs i o|none=>false)&&(List.range PVL.length).all (qval ops PVL SL D)&&(List.range PSL.length).all (qsto ops PVL PSL rd vs)&&decide (PVL++PSL).Nodup&&decide SL.Nodup&&decide (SL.length=PVL.length)
theorem qY7 {l:List Nat} {j:Nat} (h:j<l.length):l.getD j 0 ∈ l:=by
 rw[List.getD_eq_getElem?_getD,List.getElem?_eq_getElem h];exact List.getElem_mem h
theorem qV8 {l:List Nat} (u:l.Nodup) {i j:Nat} (hi:i<l.length) (Y:j<l.length) (h:l.getD i 0=l.getD j 0):i=j:=by
 rw[List.getD_eq_getElem?_getD,List.getD_eq_getElem?_getD,List.getElem?_eq_getElem hi,List.getElem?_eq_getElem Y] at h;exact(List.getElem_inj u).1 h
theorem qR4 {l:List Nat} {x:Nat} (h:x ∈ l):∃ j,j<l.length∧x=l.getD j 0:=by
 obtain⟨j,u,e⟩:=List.mem_iff_getElem.1 h;exact⟨j,u,by rw[List.getD_eq_getElem?_getD,List.getElem?_eq_getElem u];exact e.symm⟩
theorem qG4 {P:Program} {H:Array Oper} {Q:Exit→Act→World→Prop} {id:Nat} (hm:P.follows .mixedOrders=true) (Y J I:List Nat) (D rd:List (List Nat)) (vs:List Nat) (bx gs:Nat→Nat) (B:Nat) (T:TypeId) (C:Array Value→Prop) (z:Nat)
  (W0:World) (a0:Act) (L:List (World→Value→Prop)) (qZ:qchk H Y J I D rd vs=true)
  (qE:qP2 L) (qC:zK5 T C L) (qB:∀ s ∈ I,s<a0.tmps.size)
  (qW:∀ k,k<J.length→∀ w u,vL L (vs.getD k 0) w u→∃ cs:Array Value,u=.agg cs∧cs.size=z∧C cs∧cs.all (·.oneCell')=true)
  (hA:∀ j,j<Y.length→∀ o,H[Y.getD j 0]?=some o→∀ (a:Act) (w:World),KeepB J.length gs B W0 w→(∀ s:Nat,I.contains s=false→a.tmps[s]?=a0.tmps[s]?) →
   (∀ j' ∈ dL D j,∃ u,a.tmps[I.getD j' 0]?=some u∧vL L j' w u)→(∀ k,k<J.length→j ∈ dL rd k→w.heap[gs k]?=W0.heap[gs k]?) →
   (o.guard=none∧o.wp P a w (fun a' w'=>∃ u,a'=a.put o.dst u∧vL L j w' u∧Bw w w') Q)∨wpOp P H Q (Y.getD j 0) (fun a' w'=>∃ u,a'=a.put o.dst u∧vL L j w' u∧Bw w w') a w)
  (hi:(P.info? T).map (·.size)=some z)
  (qH:∀ k,k<J.length→∃ o,H[J.getD k 0]?=some o∧o.op=.store T (.tmp (bx k)) (.tmp (I.getD (vs.getD k 0) 0)))
  (qU:∀ k,k<J.length→a0.tmps[bx k]?=some (.pointer (some ⟨gs k,0,none⟩))∧I.contains (bx k)=false)
  (qG:∀ k,k<J.length→B≤gs k∧∃ cs,W0.heap[gs k]?=some (.cells cs T (0,0))∧cs.size=z∧C cs)
  (qR:∀ k k',k<J.length→k'<J.length→gs k=gs k'→k=k') (hB:B≤W0.heap.size)
  (hQ:∀ (u:Nat→Value) (w:World),KeepB J.length gs B W0 w→(∀ j,j<Y.length→vL L j w (u j)) →
   (∀ k,k<J.length→∃ cs,u (vs.getD k 0)=.agg cs∧w.heap[gs k]?=some (.cells cs T (0,0)))→Q .normal (putL a0 ((List.range Y.length).map (fun j=>(I.getD j 0,u j)))) w) :
  (Code.region id H true).wp P Q a0 W0:=by
 unfold qchk at qZ;simp only[kB9,decide_eq_true_eq] at qZ;obtain⟨⟨⟨⟨⟨h1,h2⟩,h3⟩,h4⟩,h5⟩,h6⟩:=qZ;obtain⟨n1,n2,n3⟩:=List.nodup_append.1 h4;have qV:∀ {i o},H[i]?=some o→qrow Y J I D rd vs i o=true:=fun {i o} V=>by
  have:=List.all_eq_true.1 h1 i (List.mem_range.2 (Array.getElem?_eq_some_iff.1 V).1)
  simp only[V] at this;exact this
 have val:∀ j,j<Y.length→∃ o,H[Y.getD j 0]?=some o∧o.dst=some (I.getD j 0)∧∀ j' ∈ dL D j,j'<Y.length∧∃ e ∈ o.after,e.on=Y.getD j' 0∧Region.binds .any e=true:=fun j F=>by
  have:=List.all_eq_true.1 h2 j (List.mem_range.2 F)
  unfold qval at this;cases V:H[Y.getD j 0]? with
  | none=>rw[V] at this;cases this
  | some o =>
   rw[V] at this;simp only[kB9] at this;refine⟨o,rfl,by simpa using this.1,fun j' qQ=>?_⟩
   have:=List.all_eq_true.1 this.2 j' qQ
   rw[kB9] at this;exact⟨of_decide_eq_true this.1,qT7 this.2⟩
 have qJ:∀ k,k<J.length→∃ o,H[J.getD k 0]?=some o∧o.dst=none∧o.guard=none∧vs.getD k 0<Y.length∧vs.getD k 0 ∈ dL rd k∧∀ j ∈ dL rd k,j<Y.length∧∃ e ∈ o.after,e.on=Y.getD j 0∧Region.binds .any e=true:=fun k W=>by
  have:=List.all_eq_true.1 h3 k (List.mem_range.2 W)
  unfold qsto at this;cases V:H[J.getD k 0]? with
  | none=>rw[V] at this;cases this
  | some o =>
   rw[V] at this;simp only[kB9] at this;obtain⟨⟨⟨⟨x1,x2⟩,x3⟩,x4⟩,x5⟩:=this;refine⟨o,rfl,by simpa using x1,Option.isNone_iff_eq_none.1 x2,of_decide_eq_true x3,by simpa using x4,fun j F=>?_⟩
   have:=List.all_eq_true.1 x5 j F
   rw[kB9] at this;exact⟨of_decide_eq_true this.1,qT7 this.2⟩
 have qY:∀ {s:Nat},I.contains s=false→∀ j,j<Y.length→s≠I.getD j 0:=fun {s} h j F e=>by
  have h7:=qY7 (l:=I) (j:=j) ω;rw[←e] at h7;have:I.contains s=true:=by simpa using h7
  rw[h] at this;cases this
 refine zB5 hm (fun j=>Y.getD j 0) (fun k=>J.getD k 0) Y.length J.length (fun j=>I.getD j 0) bx (fun k=>vs.getD k 0) gs B (dL D) (dL rd) T C z W0 a0 (vL L) ?_ ?_ ?_ ?_ (fun j j' F qQ e=>qV8 n1 F qQ e) (fun k k' W qD e=>qV8 n2 W qD e) ?_ (fun j w w' u hb h=>qW7 qE j w w' u hb h) (fun j w u g cs qA y1 y2 h=>zI5 qC j w u g cs qA y1 y2 h) qW ?_ ?_ hi ?_ ?_ qG qR hB (fun j F=>qB _ (qY7 ω)) (fun j j' F qQ e=>qV8 h5 ω ω e) ?_
 ·intro i qS;have V:=Array.getElem?_eq_getElem qS;have:=qV V
  unfold qrow at this;rw[kB9,Bool.or_eq_true] at this;rcases this.2 with h|h
  ·exact .inl (qR4 (by simpa using h))
  ·exact .inr (qR4 (by simpa using h))
 ·intro j F;obtain⟨o,V,-⟩:=val j F;exact(Array.getElem?_eq_some_iff.1 V).1
 ·intro k W;obtain⟨o,V,-⟩:=qJ k W;exact(Array.getElem?_eq_some_iff.1 V).1
 ·intro j k F W;exact n3 _ (qY7 F) _ (qY7 W)
 ·intro i o V e he hb;have:=qV V
  unfold qrow at this;rw[kB9] at this;have h7:=Array.all_eq_true_iff_forall_mem.1 this.1 e he;rw[hb] at h7;exact of_decide_eq_true (by simpa using h7)
 ·intro j F j' qQ;obtain⟨o,V,-,hd⟩:=val j F;obtain⟨x1,x2⟩:=hd j' qQ;refine⟨x1,fun o' qK=>?_⟩
  obtain rfl:o=o':=kF0 (V.symm.trans qK);exact x2
 ·intro j F a w W qX hd qN;obtain⟨o,V,qT,-⟩:=val j F;have h7:=hA j F o V a w W (fun s hs=>qX s (qY hs)) hd qN;rw[qT] at h7;rcases h7 with ⟨hg,h7⟩|h7
  ·exact qV5 V hg h7
  ·exact h7
 ·intro k W;obtain⟨o,V,qM⟩:=qH k W;obtain⟨o',qK,x1,x2,x3,x4,x5⟩:=qJ k W;obtain rfl:o'=o:=kF0 (qK.symm.trans V);exact⟨x3,o',V,x2,qM,x1,x4,x5⟩
 ·intro k W;exact⟨(qU k W).1,qY (qU k W).2⟩
 ·intro u a w W hu qL hs hd qX;have q1:((List.range Y.length).map (fun j=>((I.getD j 0,u j):Tmp×Value))).map (fun p:Tmp×Value=>p.1)=(List.range Y.length).map (fun j=>I.getD j 0):=by simp[Function.comp_def]
  have ha:=zK2 (a:=a) (a0:=a0) (l:=(List.range Y.length).map (fun j=>((I.getD j 0,u j):Tmp×Value))) (by
    rw[q1];refine List.pairwise_map.2 ((List.nodup_range (n:=Y.length)).imp_of_mem ?_);intro x y hx hy qP he;have:=List.mem_range.1 hx
    have:=List.mem_range.1 hy
    exact qP (qV8 h5 ω ω he)) hs hd (by
    intro p hp;obtain⟨i,hi,rfl⟩:=List.mem_map.1 hp;exact(hu i (List.mem_range.1 hi)).1) (fun s qF=>qX s (fun i hi he=>qF (List.mem_map.2 ⟨_,List.mem_map.2 ⟨i,List.mem_range.2 hi,rfl⟩,he.symm⟩)))
  rw[ha];exact hQ u w W (fun j F=>(hu j F).2) qL
theorem qV1 {P:Program} {u:Array Oper} {Q:Exit→Act→World→Prop} {i:Nat} {o J:Oper} {K:Act→World→Prop} {a:Act} {w:World} {j:Nat} {s:Tmp} {b V:Bool}
  (F:u[i]?=some o) (D:o.guard=some (j,b)) (Y:u[j]?=some J) (T:J.dst=some s) (H:a.tmps[s]?=some (.bool V)) (L:V≠b) (h:K (a.put o.dst undef) w):wpOp P u Q i K a w:=by
 unfold wpOp;simp only[F];rw[kU5 (by simp[Region.wanted,D,yielded,Y,T,H,L])]
 exact h
theorem qY6 {P:Program} {u:Array Oper} {Q:Exit→Act→World→Prop} {i:Nat} {o J:Oper} {K:Act→World→Prop} {a:Act} {w:World} {j:Nat} {s:Tmp} {b:Bool}
  (H:u[i]?=some o) (F:o.guard=some (j,b)) (Y:u[j]?=some J) (D:J.dst=some s) (V:a.tmps[s]?=some (.bool b)) (h:o.wp P a w K Q):wpOp P u Q i K a w:=by
 unfold wpOp;simp only[H];rw[kU6 (by simp[Region.wanted,F,yielded,Y,D,V])]
 exact .inl h
def zK3 (T:TypeId) (zs:Array Value):List (World→Value→Prop)→Prop
 | []=>True
 | P :: r=>(∀ w u g cs',w.heap[g]?=some (.cells zs T (0,0))→P w u→P (w.setRow g cs') u)∧zK3 T zs r
theorem zP9 {T:TypeId} {J:Array Value}:∀ {L:List (World→Value→Prop)},zK3 T J L→∀ j w u g Y,w.heap[g]?=some (.cells J T (0,0))→vL L j w u→vL L j (w.setRow g Y) u
 | [],_,j=>fun w u g Y _ h=>by simp[vL] at h
 | P :: r,hL,0=>hL.1
 | P :: r,hL,j+1=>fun w u g Y V h=>zP9 hL.2 j w u g Y V h
def xall (ops:Array Oper) (PVL PNL PSL BL:List Nat) (vs:List Nat) (k:Nat):Bool :=
 match ops[PNL.getD k 0]?,ops[PSL.getD k 0]? with
 | some o,some p=>o.dst==some (BL.getD k 0)&&o.guard.isNone&&p.dst==none&&p.guard.isNone&&decide (vs.getD k 0<PVL.length)&&vhas p (PNL.getD k 0)&&vhas p (PVL.getD (vs.getD k 0) 0)
 | _,_=>false
def xchk (ops:Array Oper) (PVL PNL PSL SL BL:List Nat) (D:List (List Nat)) (vs:List Nat):Bool :=
 ((List.range ops.size).all fun i=>match ops[i]? with|some o=>o.after.all (fun e => !(Region.binds .any e)||decide (e.on<i))&&(PVL.contains i||PNL.contains i||PSL.contains i)|none=>false)&&(List.range PVL.length).all (qval ops PVL SL D)&&(List.range PNL.length).all (xall ops PVL PNL PSL BL vs)&&decide (PVL++(PNL++PSL)).Nodup&&decide (SL++BL).Nodup&&decide (SL.length=PVL.length∧BL.length=PNL.length∧PSL.length=PNL.length)
theorem qM2 {P:Program} {V:Array Oper} {Q:Exit→Act→World→Prop} {id:Nat} (hm:P.follows .mixedOrders=true) (Y J qQ SL BL:List Nat) (D:List (List Nat)) (vs:List Nat) (T:TypeId) (zs:Array Value)
  (W0:World) (a0:Act) (L:List (World→Value→Prop)) (qX:xchk V Y J qQ SL BL D vs=true)
  (qA:qP2 L) (qE:zK3 T zs L) (qM:∀ s ∈ SL++BL,s<a0.tmps.size)
  (qC:∀ k,k<J.length→∀ w u,vL L (vs.getD k 0) w u→∃ cs:Array Value,u=.agg cs∧cs.size=zs.size∧cs.all (·.oneCell')=true)
  (hA:∀ j,j<Y.length→∀ o,V[Y.getD j 0]?=some o→∀ (a:Act) (w:World),Bw W0 w→(∀ s:Nat,(SL++BL).contains s=false→a.tmps[s]?=a0.tmps[s]?) →
   (∀ j' ∈ dL D j,∃ u,a.tmps[SL.getD j' 0]?=some u∧vL L j' w u) →
   (o.guard=none∧o.wp P a w (fun a' w'=>∃ u,a'=a.put o.dst u∧vL L j w' u∧Bw w w') Q)∨wpOp P V Q (Y.getD j 0) (fun a' w'=>∃ u,a'=a.put o.dst u∧vL L j w' u∧Bw w w') a w)
  (qW:∀ k,k<J.length→∃ o,V[J.getD k 0]?=some o∧o.op=.alloc T)
  (hz:∀ w,(zeroValue T).run P w=.ok (.agg zs) w) (hi:(P.info? T).map (·.size)=some zs.size)
  (qD:∀ k,k<J.length→∃ o,V[qQ.getD k 0]?=some o∧o.op=.store T (.tmp (BL.getD k 0)) (.tmp (SL.getD (vs.getD k 0) 0)))
  (hQ:∀ (u:Nat→Value) (g:Nat→Nat) (w:World),Bw W0 w→(∀ j,j<Y.length→vL L j w (u j)) →
   (∀ k,k<J.length→W0.heap.size≤g k∧∃ cs,u (vs.getD k 0)=.agg cs∧w.heap[g k]?=some (.cells cs T (0,0)))→(∀ k k',k<J.length→k'<J.length→k≠k'→g k≠g k') →
   Q .normal (putL a0 ((List.range Y.length).map (fun j=>(SL.getD j 0,u j))++(List.range J.length).map (fun k=>(BL.getD k 0,.pointer (some ⟨g k,0,none⟩))))) w) :
  (Code.region id V true).wp P Q a0 W0:=by
 unfold xchk at qX;simp only[kB9,decide_eq_true_eq] at qX;obtain⟨⟨⟨⟨⟨h1,h2⟩,h3⟩,h4⟩,h5⟩,h6,h7,h8⟩:=qX;obtain⟨n1,qP,n4⟩:=List.nodup_append.1 h4;obtain⟨n2,n3,n5⟩:=List.nodup_append.1 qP;obtain⟨s1,s2,s3⟩:=List.nodup_append.1 h5;have qB:∀ {i o},V[i]?=some o→(∀ e ∈ o.after,Region.binds .any e=true→e.on<i)∧(i ∈ Y∨i ∈ J∨i ∈ qQ):=fun {i o} H=>by
  have:=List.all_eq_true.1 h1 i (List.mem_range.2 (Array.getElem?_eq_some_iff.1 H).1)
  simp only[H] at this;rw[kB9,Bool.or_eq_true,Bool.or_eq_true] at this;refine⟨fun e he hb=>?_,?_⟩
  ·have h9:=Array.all_eq_true_iff_forall_mem.1 this.1 e he;rw[hb] at h9;exact of_decide_eq_true (by simpa using h9)
  ·rcases this.2 with (h|h)|h
   ·exact .inl (by simpa using h)
   ·exact .inr (.inl (by simpa using h))
   ·exact .inr (.inr (by simpa using h))
 have val:∀ j,j<Y.length→∃ o,V[Y.getD j 0]?=some o∧o.dst=some (SL.getD j 0)∧∀ j' ∈ dL D j,j'<Y.length∧∃ e ∈ o.after,e.on=Y.getD j' 0∧Region.binds .any e=true:=fun j W=>by
  have:=List.all_eq_true.1 h2 j (List.mem_range.2 W)
  unfold qval at this;cases H:V[Y.getD j 0]? with
  | none=>rw[H] at this;cases this
  | some o =>
   rw[H] at this;simp only[kB9] at this;refine⟨o,rfl,by simpa using this.1,fun j' I=>?_⟩
   have:=List.all_eq_true.1 this.2 j' I
   rw[kB9] at this;exact⟨of_decide_eq_true this.1,qT7 this.2⟩
 have qK:∀ k,k<J.length→∃ o p,V[J.getD k 0]?=some o∧V[qQ.getD k 0]?=some p∧o.dst=some (BL.getD k 0)∧o.guard=none∧p.dst=none∧p.guard=none∧vs.getD k 0<Y.length∧(∃ e ∈ p.after,e.on=J.getD k 0∧Region.binds .any e=true)∧∃ e ∈ p.after,e.on=Y.getD (vs.getD k 0) 0∧Region.binds .any e=true:=fun k F=>by
  have:=List.all_eq_true.1 h3 k (List.mem_range.2 F)
  unfold xall at this;cases H:V[J.getD k 0]? with
  | none=>rw[H] at this;cases this
  | some o =>
   cases C:V[qQ.getD k 0]? with
   | none=>rw[H,C] at this;cases this
   | some p =>
    rw[H,C] at this;simp only[kB9] at this;obtain⟨⟨⟨⟨⟨⟨x1,x2⟩,x3⟩,x4⟩,x5⟩,x6⟩,x7⟩:=this;exact⟨o,p,rfl,rfl,by simpa using x1,Option.isNone_iff_eq_none.1 x2,by simpa using x3,Option.isNone_iff_eq_none.1 x4,of_decide_eq_true x5,qT7 x6,qT7 x7⟩
 have qJ:∀ {s:Nat},(SL++BL).contains s=false→(∀ j,j<Y.length→s≠SL.getD j 0)∧∀ k,k<J.length→s≠BL.getD k 0:=fun {s} h=>by
  have hn:s ∉ SL++BL:=fun hh=>by
   have:(SL++BL).contains s=true:=by simpa using hh
   rw[h] at this;cases this
  refine⟨fun j W e=>hn ?_,fun k F e=>hn ?_⟩
  ·rw[e];exact List.mem_append_left _ (qY7 ω)
  ·rw[e];exact List.mem_append_right _ (qY7 ω)
 refine zB4 hm (fun j=>Y.getD j 0) (fun k=>J.getD k 0) (fun k=>qQ.getD k 0) Y.length J.length (fun j=>SL.getD j 0) (fun k=>BL.getD k 0) (fun k=>vs.getD k 0) (dL D) T zs W0 a0 (vL L) ?_ ?_ ?_ ?_ (fun j j' W I e=>qV8 n1 W I e) (fun k k' F qF e=>qV8 n2 F qF e) (fun k k' F qF e=>qV8 n3 ω ω e) ?_ ?_ ?_ (fun i o H=>(qB H).1) (fun j w w' u hb h=>qW7 qA j w w' u hb h) (fun j w u g qI y1 h=>zP9 qE j w u g qI y1 h) qC ?_ ?_ ?_ hz hi ?_ (fun j W=>qM _ (List.mem_append_left _ (qY7 ω))) (fun k F=>qM _ (List.mem_append_right _ (qY7 ω))) (fun j j' W I e=>qV8 s1 ω ω e) (fun j j' W I e=>qV8 s2 ω ω e) ?_ ?_
 ·intro i qR;have H:=Array.getElem?_eq_getElem qR;rcases(qB H).2 with h|h|h
  ·exact .inl (qR4 h)
  ·exact .inr (.inl (qR4 h))
  ·obtain⟨k,x1,x2⟩:=qR4 h;exact .inr (.inr ⟨k,ω,x2⟩)
 ·intro j W;obtain⟨o,H,-⟩:=val j W;exact(Array.getElem?_eq_some_iff.1 H).1
 ·intro k F;obtain⟨o,p,H,C,-⟩:=qK k F;exact(Array.getElem?_eq_some_iff.1 H).1
 ·intro k F;obtain⟨o,p,H,C,-⟩:=qK k F;exact(Array.getElem?_eq_some_iff.1 C).1
 ·intro j k W F;exact n4 _ (qY7 W) _ (List.mem_append_left _ (qY7 F))
 ·intro j k W F;exact n4 _ (qY7 W) _ (List.mem_append_right _ (qY7 ω))
 ·intro k k' F qF;exact n5 _ (qY7 F) _ (qY7 ω)
 ·intro j W j' I;obtain⟨o,H,-,hd⟩:=val j W;obtain⟨x1,x2⟩:=hd j' I;refine⟨x1,fun o' qG=>?_⟩
  obtain rfl:o=o':=kF0 (H.symm.trans qG);exact x2
 ·intro j W a w F qU hd;obtain⟨o,H,qT,-⟩:=val j W;have h7:=hA j W o H a w F (fun s hs=>qU s (qJ hs).1 (qJ hs).2) hd;rw[qT] at h7;rcases h7 with ⟨hg,h7⟩|h7
  ·exact qV5 H hg h7
  ·exact h7
 ·intro k F;obtain⟨o,p,H,C,x1,x2,-⟩:=qK k F;obtain⟨o',qG,qV⟩:=qW k F;obtain rfl:o=o':=kF0 (H.symm.trans qG);exact⟨o,H,x2,qV,x1⟩
 ·intro k F;obtain⟨o,p,H,C,x1,x2,x3,x4,x5,x6,x7⟩:=qK k F;obtain⟨p',qS,qV⟩:=qD k F;obtain rfl:p=p':=kF0 (C.symm.trans qS);exact⟨x5,p,C,x4,qV,x3,x6,x7⟩
 ·intro j k W F;exact s3 _ (qY7 ω) _ (qY7 ω)
 ·intro u g a w hb hu hg qL hs hd qU;have q1:((List.range Y.length).map (fun j=>((SL.getD j 0,u j):Tmp×Value))++(List.range J.length).map (fun k=>((BL.getD k 0,Value.pointer (some ⟨g k,0,none⟩)):Tmp×Value))).map (fun p:Tmp×Value=>p.1)=(List.range Y.length).map (fun j=>SL.getD j 0)++(List.range J.length).map (fun k=>BL.getD k 0):=by simp[Function.comp_def]
  have ha:=zK2 (a:=a) (a0:=a0) (l:=(List.range Y.length).map (fun j=>((SL.getD j 0,u j):Tmp×Value))++(List.range J.length).map (fun k=>((BL.getD k 0,Value.pointer (some ⟨g k,0,none⟩)):Tmp×Value))) (by
    rw[q1,List.nodup_append];refine⟨?_,?_,?_⟩
    ·refine List.pairwise_map.2 ((List.nodup_range (n:=Y.length)).imp_of_mem ?_);intro x y hx hy qH he;have:=List.mem_range.1 hx
     have:=List.mem_range.1 hy
     exact qH (qV8 s1 ω ω he)
    ·refine List.pairwise_map.2 ((List.nodup_range (n:=J.length)).imp_of_mem ?_);intro x y hx hy qH he;have:=List.mem_range.1 hx
     have:=List.mem_range.1 hy
     exact qH (qV8 s2 ω ω he)
    ·intro x hx y hy;obtain⟨i,qY,rfl⟩:=List.mem_map.1 hx;obtain⟨k,qZ,rfl⟩:=List.mem_map.1 hy;have:=List.mem_range.1 qY
     have:=List.mem_range.1 qZ
     exact s3 _ (qY7 ω) _ (qY7 ω)) hs hd (by
    intro p C;rcases List.mem_append.1 C with C|C
    ·obtain⟨i,qY,rfl⟩:=List.mem_map.1 C;exact(hu i (List.mem_range.1 qY)).1
    ·obtain⟨k,qZ,rfl⟩:=List.mem_map.1 C;exact(hg k (List.mem_range.1 qZ)).1) (fun s qN=>qU s (fun i qY he=>qN (List.mem_map.2 ⟨_,List.mem_append_left _ (List.mem_map.2 ⟨i,List.mem_range.2 qY,rfl⟩),he.symm⟩)) (fun k qZ he=>qN (List.mem_map.2 ⟨_,List.mem_append_right _ (List.mem_map.2 ⟨k,List.mem_range.2 qZ,rfl⟩),he.symm⟩)))
  rw[ha];exact hQ u g w hb (fun j W=>(hu j W).2) (fun k F=>(hg k F).2) qL
end Go.Proofs.YtfkaogdmlcdceaaGreatDoor
namespace Go.Proofs.YtfkaogdmlcdceaaGreatDoor
open Go.RowKit Go.Fl64
attribute [local go_sem] iV Nu
def NC3 (cs:Array Value):Prop:=∃ (s1:Bool) (ao1:Option Addr) (n1 cp1:Nat) (e1:Int),cs = #[.bool s1,.slice ao1 n1 cp1,.int .i64 e1]
theorem PN.row3 {W:World} {A:Value} {t:Bool×Nat×Int} {g:Nat} {T:TypeId} {cs:Array Value} (h:PN W A t) (J:W.heap[g]?=some (.cells cs T (0,0))) (V:NC3 cs) (u:Array Value):PN (W.setRow g u) A t:=by
 obtain⟨_,_,_,_,_,rfl⟩:=V;exact h.cells (s2:=false) (a2:=none) (m2:=0) (c2:=0) (e2:=0) (.inl J) fun b Y=>setRow_other W g b u Y
theorem PN.keep3 {H V:World} {n:Nat} {L:Nat→Nat} {B:Nat} {A:Value} {t:Bool×Nat×Int} {T:TypeId} (C:KeepB n L B H V) (Y:∀ k,k<n→∃ cs,H.heap[L k]?=some (.cells cs T (0,0))∧NC3 cs) (h:PN H A t):PN V A t:=by
 obtain⟨ao,cap,rfl,a',c',h1,h2,h3,J,o,h4,h5⟩:=h;refine⟨ao,cap,rfl,a',c',h1,h2,h3,J,o,h4,fun i hi=>?_⟩
 have u:=h5 i hi;have D:J<H.heap.size:=World.block_lt_of_cell? _ _ u;have F:∀ k,k<n→J≠L k:=by
  rintro k W rfl;obtain⟨cs,I,_,_,_,_,_,rfl⟩:=Y k W;simp only[World.cell?,I] at u;rcases(show o+i=0∨o+i=1∨o+i=2∨3≤o+i by omega)with e|e|e|e
  ·rw[e] at u;simp at u
  ·rw[e] at u;simp at u
  ·rw[e] at u;simp at u
  ·rw[Array.getElem?_eq_none (by simpa using e)] at u;cases u
 have:=C.keep J D F
 unfold World.cell? at u ⊢;rw[this];exact u
def toD (t:Bool×Nat×Int) (m:Int):Nat:=if t.2.1=0 then 0 else tfF t.1 true t.2.1 t.2.2 m
theorem yZ2 (g f x:Nat) (w:World) (h:w.cell? ⟨g,f,none⟩=some (.float .f64 x)):(Instr.loadAt 22 (.pointer (some ⟨g,f,none⟩))).run Tryz.prog w=.ok (.float .f64 x) w:=by
 have u:=Tryz.isAgg22;simp[Instr.loadAt,Instr.sureAddr,loadVar,h,go_sem]
def sU (a:Nat):Int:=if neg a then -((fU a:Nat):Int) else((fU a:Nat):Int)
theorem tF_sU (a:Nat):tF a=un (sU a) 1074:=by
 have u:=(Ie.lp_bound a).1;unfold tF;refine zF1 (K:=1074) lR ω ?_;unfold sU vz sv fU;rw[Nat.sub_self,kN7,kN8];cases neg a
 ·simp
 ·simp[Int.neg_mul]
def bU:Nat:=2200
theorem qI9 (a:Nat):fU a<2^bU:=by
 unfold fU;have H:=Ie.mant_bound a;have V:=(Ie.lp_bound a).2;obtain⟨e,Y⟩:=eE ((Ie.lp a+1074).toNat);rw[←Y];have J:Ie.mant a<2^53:=ω;have u:Ie.mant a*2^e<2^53*2^e:=kM4 J (kF3 _);rw[←kN3] at u;exact kF6 u (kF4 δ (by unfold bU;omega))
def pU (n:Nat):Nat:=2^n
theorem yI1 (n:Nat):0<pU n:=kF3 n
def kU:Nat:=pU 1074
theorem xA0:0<kU:=yI1 1074
theorem pU_lt {n m:Nat} (h:n<m):pU n<2^m:=Nat.pow_lt_pow_right δ h
theorem xA1:kU<2^bU:=pU_lt (by unfold bU;decide)
theorem xP9 (Z:Int) (n:Nat):un Z 0=un (Z*(pU n:Int)) n:=by
 have h:=qT5 (K:=n) (p:=0) Z ω;have u:=(un_e (p:=0) (Nat.lt_two_pow_self (n:=Z.natAbs))).2.2;conv=>lhs;rw[show un Z 0=cn (un Z 0).1 (un Z 0).2.1 (un Z 0).2.2 from(zN9 _ _ _).symm]
 refine zF1 (K:=n) lR ω ?_;rw[h,Nat.sub_self,kN7,Nat.sub_zero];unfold pU;simp
theorem xD0 (Z:Int):un Z 0=un (Z*(kU:Int)) 1074:=xP9 Z 1074
theorem zI0 (w:World):(zeroValue 54).run Tryz.prog w=.ok (.agg (Nu false none 0 0 0)) w:=Tryz.zeroValue54 w
end Go.Proofs.YtfkaogdmlcdceaaGreatDoor
