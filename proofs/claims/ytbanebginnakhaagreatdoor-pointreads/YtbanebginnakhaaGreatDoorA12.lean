/- Own work: contracts of the program's functions, part 12: DL1 DE1 FR1 FR2 FR3 FR4 DL5 PV PV2 FR5 FR6 DC1 SB1 SB2 SB3 SC1 RY6 SC2 DE2 PV3 RY7 SD1 SD2 UA8 UA9 UB1 UB2 UB3 SB4 SB5 SH5 SB6 SH6 SH7 SH8 SH9 SI1 SI2. -/
import Derived.Test.YtbanebginnakhaaGreatDoorA8
import Derived.Test.YtbanebginnakhaaGreatDoorA7
import Derived.Test.YtbanebginnakhaaGreatDoorA9
import Derived.Test.YtbanebginnakhaaGreatDoorA11
import Derived.Test.YtbanebginnakhaaGreatDoorA1
import Derived.Test.YtbanebginnakhaaGreatDoorA10
import Derived.Test.YtbanebginnakhaaGreatDoorA4
import Derived.Test.YtbanebginnakhaaGreatDoorA6
import Derived.Deep.MidRow
import Derived.Test.YtbanebginnakhaaGreatDoorA5
import Derived.Test.YtbanebginnakhaaGreatDoorA3

set_option maxHeartbeats 16000000
set_option maxRecDepth 200000
set_option linter.unusedVariables false
set_option linter.unusedSimpArgs false
namespace Go.Proofs.YtbanebginnakhaaGreatDoor
open Go.RowKit Go.Fl64
def gS (t1 t2:Bool×Nat×Int):Bool×Nat×Int:=cn (sumN t1.1 t1.2.1 t1.2.2 t2.1 t2.2.1 t2.2.2).1 (sumN t1.1 t1.2.1 t1.2.2 t2.1 t2.2.1 t2.2.2).2.1 (sumN t1.1 t1.2.1 t1.2.2 t2.1 t2.2.1 t2.2.2).2.2
def gM (t1 t2:Bool×Nat×Int):Bool×Nat×Int:=cn (!(t1.1==t2.1)) (t1.2.1*t2.2.1) (t1.2.2+t2.2.2)
def gD (t1 t2:Bool×Nat×Int):Bool×Nat×Int:=cn (sumN t1.1 t1.2.1 t1.2.2 (!t2.1&&decide (0<dlen t2.2.1)) t2.2.1 t2.2.2).1 (sumN t1.1 t1.2.1 t1.2.2 (!t2.1&&decide (0<dlen t2.2.1)) t2.2.1 t2.2.2).2.1 (sumN t1.1 t1.2.1 t1.2.2 (!t2.1&&decide (0<dlen t2.2.1)) t2.2.1 t2.2.2).2.2
def gN (t:Bool×Nat×Int):Bool×Nat×Int:=if t.2.1=0 then(false,0,0) else(!t.1,t.2.1,t.2.2)
theorem yH8 (na nb sg:Bool) (ua va:Option Addr) (un uc vn vc x y:Nat) (ea eb:Int) (w:World) (h1:Ir w (.slice ua un uc) x) (h2:Ir w (.slice va vn vc) y) (hx:dlen x≤400000) (hy:dlen y≤400000) (he1 : -4000000≤ea) (he2:ea≤4000000) (he3 : -4000000≤eb) (he4:eb≤4000000) (hsg:(!(na==nb))=sg) :
  Calls Tryz.prog 98 #[.agg #[.bool na,.slice ua un uc,.int .i64 ea],.agg #[.bool nb,.slice va vn vc,.int .i64 eb]] w fun r w'=>∃ a,r=.returned a∧NC w' w.heap.size a sg (x*y) (ea+eb)∧Bw w w':=by
 obtain⟨W,hW⟩:∃ W,W=((w.alloc (.cells #[.bool na,.slice ua un uc,.int .i64 ea] 132)).alloc (.cells #[.bool nb,.slice va vn vc,.int .i64 eb] 132)).alloc (.cells #[.bool false,.slice none 0 0,.int .i64 0] 132):=⟨_,rfl⟩;obtain⟨hA,hBb,hC,hsz,hBW⟩:=qK0 _ _ _ hW;have hxy:dlen (x*y)≤1000000:=by
  have l1:=(qQ9 (dlen x) x).1 (xL0 _);have l2:=(qQ9 (dlen y) y).1 (xL0 _);have:dlen (x*y)≤dlen x+dlen y:=(qQ9 _ _).2 (by
   rw[xC3];rcases Nat.eq_zero_or_pos x with h|h
   ·rw[h,Nat.zero_mul];exact Nat.mul_pos (qQ8 _) (qQ8 _)
   ·exact Nat.mul_lt_mul_of_lt_of_le l1 (xE8 l2) (qQ8 _))
  omega
 have HH:Hid (W.heap[w.heap.size+1+1]?=some (.cells #[.bool false,.slice none 0 0,.int .i64 0] 132 (0,0))∧W.heap.size=w.heap.size+1+1+1∧Bw w W):=⟨hC,hsz,hBW⟩;have k78:∀ w4,Bw W w4→Calls Tryz.prog 147 #[.slice ua un uc,.slice va vn vc] w4 fun r w'=>∃ v,r=.returned v∧Own w' W.heap.size v (x*y)∧Bw W w':=fun w4 hb =>
  (xV7 ((h1.later hBW).later hb) ((h2.later hBW).later hb) (by omega) (by omega)).mono fun r w' ⟨v,e1,o1,o2⟩=>⟨v,e1,o1.mono hb.size,hb.trans (o2.mono hb.size)⟩
 have k31:∀ v5 w5,Own w5 W.heap.size v5 (x*y)→Bw W w5→Calls Tryz.prog 138 #[.bool sg,v5,.int .i64 (ea+eb)] w5 fun r w'=>∃ s ao n cap ex,r=.returned (.agg #[.bool s,.slice ao n cap,.int .i64 ex]) ∧
   Hid (NC w' w5.heap.size (.agg #[.bool s,.slice ao n cap,.int .i64 ex]) sg (x*y) (ea+eb)∧W.heap.size≤w5.heap.size)∧Bw W w'∧Hid (w'.heap[w.heap.size+1+1]?=some (.cells #[.bool false,.slice none 0 0,.int .i64 0] 132 (0,0))) ∧
   (w'.cell? ⟨w.heap.size+1+1,0,none⟩=some (.bool false)∧w'.cell? ⟨w.heap.size+1+1,1,none⟩=some (.slice none 0 0)∧w'.cell? ⟨w.heap.size+1+1,2,none⟩=some (.int .i64 0))∧(w'.frozen? ⟨w.heap.size+1+1,0,none⟩=false∧w'.frozen? ⟨w.heap.size+1+1,1,none⟩=false∧w'.frozen? ⟨w.heap.size+1+1,2,none⟩=false):=by
  intro v5 w5 ho hb;obtain⟨ao0,cap0,rfl,hl0,-,hat0⟩:=ho.is;refine(yD8 hat0 (xL0 _) hl0 (by omega) (by omega)).mono ?_
  rintro r w6 ⟨a,rfl,hN,hb6⟩;obtain⟨s,ao,n,cap,ex,rfl⟩:=hN.shape;have hb46:Bw W w6:=hb.trans (hb6.mono hb.size);have hblk:=qQ HH.out.1 hb46 (by have:=HH.out.2.1;omega)
  obtain⟨f1,f2⟩:=qQ0 hblk;exact⟨s,ao,n,cap,ex,rfl,⟨hN,hb.size⟩,hb46,hblk,f1,f2⟩
 obtain⟨⟨a0,a1,a2⟩,-⟩:=qQ0 hA;obtain⟨⟨b0,b1,b2⟩,-⟩:=qQ0 hBb;have HK:Hid (∀ w',Bw W w'→((w'.cell? ⟨w.heap.size,0,none⟩=some (.bool na)∧w'.cell? ⟨w.heap.size,1,none⟩=some (.slice ua un uc)∧w'.cell? ⟨w.heap.size,2,none⟩=some (.int .i64 ea))∧(w'.cell? ⟨w.heap.size+1,0,none⟩=some (.bool nb)∧w'.cell? ⟨w.heap.size+1,1,none⟩=some (.slice va vn vc)∧w'.cell? ⟨w.heap.size+1,2,none⟩=some (.int .i64 eb)))):=fun w' hb=>⟨(qQ0 (qQ hA hb (by omega))).1,(qQ0 (qQ hBb hb (by omega))).1⟩
 have HK2:Hid (∀ w',Below (w.heap.size+1+1) W w'→((w'.cell? ⟨w.heap.size,0,none⟩=some (.bool na)∧w'.cell? ⟨w.heap.size,1,none⟩=some (.slice ua un uc)∧w'.cell? ⟨w.heap.size,2,none⟩=some (.int .i64 ea))∧(w'.cell? ⟨w.heap.size+1,0,none⟩=some (.bool nb)∧w'.cell? ⟨w.heap.size+1,1,none⟩=some (.slice va vn vc)∧w'.cell? ⟨w.heap.size+1,2,none⟩=some (.int .i64 eb)))):=fun w' hb=>⟨(qQ0 (qQ hA hb (by omega))).1,(qQ0 (qQ hBb hb (by omega))).1⟩
 have HS2:Hid (w.heap.size+1+1≤W.heap.size):=(by omega:w.heap.size+1+1≤W.heap.size)
 have hBR:Bw W W.drew:=(xL1 _ _).drew;have wz:IntKind.i64.wrap (ea+eb)=ea+eb:=by rw[xW6];omega
 clear hA hBb hC hsz hBW h1 h2 hx hy hxy
 go_enter Tryz.func98,Tryz.ntmps98
 go_upto_region 1 with fail;rw[←hW];clear hW
 go_region_held3 (fun w'=>((w'.cell? ⟨w.heap.size,0,none⟩=some (.bool na)∧w'.cell? ⟨w.heap.size,1,none⟩=some (.slice ua un uc)∧w'.cell? ⟨w.heap.size,2,none⟩=some (.int .i64 ea))∧(w'.cell? ⟨w.heap.size+1,0,none⟩=some (.bool nb)∧w'.cell? ⟨w.heap.size+1,1,none⟩=some (.slice va vn vc)∧w'.cell? ⟨w.heap.size+1,2,none⟩=some (.int .i64 eb)))) (first|(with_reducible assumption)|exact⟨⟨a0,a1,a2⟩,b0,b1,b2⟩|(refine HK.out _ ?_;with_reducible assumption)|(refine HK2.out _ (qQ3 (Below.mono hb6 HS2.out) (xL0 _) _ _ _))|go_keep)
  (first|(go_at_call 147;refine(k78 _ (by first|(with_reducible assumption)|exact hBR)).mono ?_;rintro r w5 ⟨v5,rfl,ho5,hb5⟩)|(go_at_call 138;(try simp only[hsg,wz]);refine(k31 _ _ ho5 hb5).mono ?_;rintro r w6 ⟨s6,ao6,n6,cap6,ex6,rfl,hN6,hb6,hblk6,⟨x1,x2,x3⟩,x4,x5,x6⟩))
 have HF:Hid (Bw W w6):=hb6;clear ho5 hb5 hb6 k31 k78 x1 x2 x3 x4 x5 x6 a0 a1 a2 b0 b1 b2 HK HK2
 go_wp2;refine xW9 (xE2 rfl _ _ (w.heap.size+1+1) 132 #[.bool s6,.slice ao6 n6 cap6,.int .i64 ex6] (0,0) _ rfl (qX1 _ _ _ hblk6.out) Tryz.underlying132 rfl Tryz.info132) rfl ?_;obtain⟨-,hs,hBW⟩:=HH.out;have hs5:=hN6.out.2;exact⟨_,rfl,(hN6.out.1.store (by omega) _ _ _).mono (by omega),qQ3 (hBW.trans (HF.out.mono hBW.size)) (by omega) _ _ _⟩
theorem garg0 (w:World):Arg w none 0 0 0:=⟨fun _=>.inr ⟨rfl,rfl⟩,⟨0,0,fun h=>absurd h (by omega),fun i hi=>absurd hi (by omega)⟩,xL0 _,by omega⟩
theorem xB8 (w:World):Arg w none (dlen 0) 0 0:=by rw[qQ5];exact garg0 w
theorem gdn0 (w:World):DN w (.agg #[.bool false,.slice none 0 0,.int .i64 0]) (false,0,0):=⟨none,0,by show _=Value.agg #[.bool false,.slice none (dlen 0) 0,.int .i64 0];rw[qQ5],xB8 w⟩
def Gn (t:Bool×Nat×Int):Prop:=cn t.1 t.2.1 t.2.2=t∧dlen t.2.1≤60000 ∧ -1000000≤t.2.2∧t.2.2≤1000000
theorem gplus {t1 t2:Bool×Nat×Int} {X Y:Value} {w:World} (o1:Gn t1) (o2:Gn t2) (h1:DN w X t1) (h2:DN w Y t2):Calls Tryz.prog 92 #[X,Y] w fun r w'=>∃ A,r=.returned A∧DN w' A (gS t1 t2)∧Bw w w':=by
 obtain⟨ao,cap,rfl,a1⟩:=h1;obtain⟨ao',cap',rfl,a2⟩:=h2;obtain⟨c1,f1,f2,f3⟩:=o1;obtain⟨c2,g1,g2,g3⟩:=o2;exact(yD7 a1 a2 c1 c2 (by omega) (by omega) (by omega) (by omega) (by omega) (by omega)).mono fun r w' ⟨A,e,h,hb⟩=>⟨A,e,h.dn,hb⟩
theorem xB7 {t1 t2:Bool×Nat×Int} {X Y:Value} {w:World} (o1:Gn t1) (o2:Gn t2) (h1:DN w X t1) (h2:DN w Y t2) (hsm:t1.1=t2.1∨t1.2.1=0):Calls Tryz.prog 92 #[X,Y] w fun r w'=>∃ A,r=.returned A∧DN w' A (gS t1 t2)∧Bw w w':=by
 obtain⟨ao,cap,rfl,a1⟩:=h1;obtain⟨ao',cap',rfl,a2⟩:=h2;obtain⟨c1,f1,f2,f3⟩:=o1;obtain⟨c2,g1,g2,g3⟩:=o2;exact(yD6 a1 a2 c1 c2 (by omega) (by omega) (by omega) (by omega) (by omega) (by omega) hsm).mono fun r w' ⟨A,e,h,hb⟩=>⟨A,e,h.dn,hb⟩
theorem yR1 {t1 t2:Bool×Nat×Int} {X Y:Value} {w:World} (o1:Gn t1) (o2:Gn t2) (h1:DN w X t1) (h2:DN w Y t2):Calls Tryz.prog 98 #[X,Y] w fun r w'=>∃ A,r=.returned A∧DN w' A (gM t1 t2)∧Bw w w':=by
 obtain⟨ao,cap,rfl,a1⟩:=h1;obtain⟨ao',cap',rfl,a2⟩:=h2;obtain⟨c1,f1,f2,f3⟩:=o1;obtain⟨c2,g1,g2,g3⟩:=o2;exact(yH8 t1.1 t2.1 _ ao ao' _ cap _ cap' t1.2.1 t2.2.1 t1.2.2 t2.2.2 w ⟨ao,cap,rfl,a1.le,a1.at_⟩ ⟨ao',cap',rfl,a2.le,a2.at_⟩ (by omega) (by omega) (by omega) (by omega) (by omega) (by omega) rfl).mono fun r w' ⟨A,e,h,hb⟩=>⟨A,e,h.dn,hb⟩
theorem Gn.zero {t:Bool×Nat×Int} (h:Gn t) (h0:t.2.1=0):t=(false,0,0):=by
 have e:=h.1;unfold cn at e;rw[if_pos h0] at e;exact e.symm
theorem yH9 {t:Bool×Nat×Int} (h:cn t.1 t.2.1 t.2.2=t) (h0:t.2.1≠0) (s:Bool):cn s t.2.1 t.2.2=(s,t.2.1,t.2.2):=by
 unfold cn at h ⊢;rw[if_neg h0] at h ⊢;rw[Prod.ext_iff] at h;exact Prod.ext rfl h.2
theorem zI0 (na:Bool) (ua:Option Addr) (uc:Nat) (ea k:Int) (w:World) :
  Calls Tryz.prog 93 #[.agg #[.bool na,.slice ua 0 uc,.int .i64 ea],.int .i64 k] w fun r w'=>r=.returned (.agg #[.bool false,.slice none 0 0,.int .i64 0])∧Bw w w':=by
 obtain⟨W,hW⟩:∃ W,W=(w.alloc (.cells #[.bool na,.slice ua 0 uc,.int .i64 ea] 132)).alloc (.cells #[.bool false,.slice none 0 0,.int .i64 0] 132):=⟨_,rfl⟩;obtain⟨hA,hB,hsz,hBW⟩:=qN1 _ _ hW;obtain⟨⟨a0,a1,a2⟩,-⟩:=qQ0 hA;obtain⟨⟨b0,b1,b2⟩,b3,b4,b5⟩:=qQ0 hB;have HX:Hid (Bw w W∧W.heap[w.heap.size+1]?=some (.cells #[.bool false,.slice none 0 0,.int .i64 0] 132 (0,0))):=⟨hBW,hB⟩;clear hA hB hsz hBW;have HE:Hid (W=(w.alloc (.cells #[.bool na,.slice ua 0 uc,.int .i64 ea] 132)).alloc (.cells #[.bool false,.slice none 0 0,.int .i64 0] 132)):=hW;rw[hW] at a0 a1 a2 b0 b1 b2 b3 b4 b5;clear hW
 go_enter Tryz.func93,Tryz.ntmps93
 go_wp2;refine xW9 (xE2 rfl _ _ (w.heap.size+1) 132 #[.bool false,.slice none 0 0,.int .i64 0] (0,0) _ rfl (qN1 _ _ rfl).2.1 Tryz.underlying132 rfl Tryz.info132) rfl ?_;exact⟨rfl,(qN1 _ _ rfl).2.2.2⟩
def gK (k:Int) (t:Bool×Nat×Int):Bool×Nat×Int:=if t.2.1=0 then(false,0,0) else(t.1,t.2.1,t.2.2+k)
theorem zI (na:Bool) (ua:Option Addr) (un uc:Nat) (ea k:Int) (w:World) (hn:un≤35184372088832) (hn0:((un:Int)==0)=false) (he : -2000000≤ea∧ea≤2000000) (hk : -2000000≤k∧k≤2000000) :
  Calls Tryz.prog 93 #[.agg #[.bool na,.slice ua un uc,.int .i64 ea],.int .i64 k] w fun r w'=>r=.returned (.agg #[.bool na,.slice ua un uc,.int .i64 (ea+k)])∧Bw w w':=by
 obtain⟨W,hW⟩:∃ W,W=(w.alloc (.cells #[.bool na,.slice ua un uc,.int .i64 ea] 132)).alloc (.cells #[.bool false,.slice none 0 0,.int .i64 0] 132):=⟨_,rfl⟩;obtain⟨hA,hB,hsz,hBW⟩:=qN1 _ _ hW;obtain⟨⟨a0,a1,a2⟩,-⟩:=qQ0 hA;obtain⟨⟨b0,b1,b2⟩,b3,b4,b5⟩:=qQ0 hB;obtain⟨he1,he2⟩:=he;obtain⟨hk1,hk2⟩:=hk;clear hA hB hsz hBW;rw[hW] at a0 a1 a2 b0 b1 b2 b3 b4 b5;clear hW
 go_enter Tryz.func93,Tryz.ntmps93
 go_wp2;refine xW9 (xE2 rfl _ _ (w.heap.size+1) 132 #[.bool na,.slice ua un uc,.int .i64 (ea+k)] (0,0) _ rfl (qN1 _ _ rfl).2.1 Tryz.underlying132 rfl Tryz.info132) rfl ?_;exact⟨rfl,(qN1 _ _ rfl).2.2.2⟩
theorem qA4 {t:Bool×Nat×Int} {X:Value} {w:World} {k:Int} (o:Gn t) (h:DN w X t) (hk : -1000000≤k∧k≤1000000):Calls Tryz.prog 93 #[X,.int .i64 k] w fun r w'=>∃ A,r=.returned A∧DN w' A (gK k t)∧Bw w w':=by
 obtain⟨ao,cap,rfl,a1⟩:=h;have hz:=o.zero;obtain⟨c1,f1,f2,f3⟩:=o;unfold gK;by_cases h0:t.2.1=0
 ·rw[if_pos h0,h0,qQ5];refine(zI0 t.1 ao cap t.2.2 k w).mono ?_
  rintro r w' ⟨rfl,hb⟩;exact⟨_,rfl,gdn0 _,hb⟩
 ·rw[if_neg h0];have hl:0<dlen t.2.1:=by have:=qK6 h0;omega
  refine(zI t.1 ao (dlen t.2.1) cap t.2.2 k w (by omega) (by rw[xC2];omega) ⟨by omega,by omega⟩ ⟨by omega,by omega⟩).mono ?_
  rintro r w' ⟨rfl,hb⟩;exact⟨_,rfl,⟨ao,cap,rfl,a1.later hb⟩,hb⟩
theorem yR2 {t:Bool×Nat×Int} {A:Value} {w:World} (h:DN w A t):Calls Tryz.prog 95 #[A] w fun r w'=>∃ B,r=.returned B∧DN w' B (gN t)∧Bw w w':=by
 obtain⟨ao,cap,rfl,hA⟩:=h;unfold gN;by_cases h0:t.2.1=0
 ·rw[if_pos h0,qQ7.2 h0];refine(yU2 t.1 ao cap t.2.2 w).mono ?_
  rintro r w' ⟨rfl,hb⟩;exact⟨_,rfl,gdn0 _,hb⟩
 ·rw[if_neg h0];have hd:dlen t.2.1≠0:=fun e=>h0 (qQ7.1 e);refine(zH4 t.1 ao (dlen t.2.1) cap t.2.2 w hA.small (by simp;omega)).mono ?_
  rintro r w' ⟨rfl,hb⟩;exact⟨_,rfl,⟨ao,cap,rfl,hA.later hb⟩,hb⟩
theorem yH6 (n:Int) (m:Nat) (w:World) (hm:m<18446744073709551616) (hn1:0≤n) (hn2:n≤9223372036854775807) (hwr:IntKind.u64.wrap n=(m:Int)) :
  Calls Tryz.prog 94 #[.int .i64 n] w fun r w'=>∃ A,r=.returned A∧NC w' w.heap.size A false m 0∧Bw w w':=by
 have hnn:¬ n<0:=by omega
 obtain⟨W,hW⟩:∃ W,W=w.alloc (.cells #[.bool false,.slice none 0 0,.int .i64 0] 132):=⟨_,rfl⟩;have k34:=qO (ng:=false) (m:=m) (e:=0) (W:=W) hm (by omega)
 have HB0:Hid (Bw w W∧W.heap[w.heap.size]?=some (.cells #[.bool false,.slice none 0 0,.int .i64 0] 132 (0,0))∧W.heap.size=w.heap.size+1):=⟨by rw[hW];exact(xL1 _ _).alloc (xL0 _) _,by rw[hW];exact xW8 _ _,by rw[hW];simp⟩
 (try unfold Bw at k34);rw[HB0.out.2.2] at k34
 go_enter Tryz.func94,Tryz.ntmps94
 go_wp2_with fail;rw[←hW];clear hW;refine k34.mono ?_;rintro r w3 ⟨s,ao,n,cap,ex,rfl,hn,hb⟩;have hs:=HB0.out.2.2;have HC3:Hid (w3.heap[w.heap.size]?=some (.cells #[.bool false,.slice none 0 0,.int .i64 0] 132 (0,0))):=qQ HB0.out.2.1 hb (by omega)
 obtain⟨⟨a1,a2,a3⟩,a4,a5,a6⟩:=qQ0 HC3.out;have HN:Hid (NC w3 (w.heap.size+1) (.agg #[.bool s,.slice ao n cap,.int .i64 ex]) false m 0∧Below (w.heap.size+1) W w3):=⟨hn.mono (by omega),hb⟩
 clear hn hb k34 hs
 go_wp2;refine xW9 (xE2 rfl _ _ w.heap.size 132 #[.bool s,.slice ao n cap,.int .i64 ex] (0,0) _ rfl (qX1 _ _ _ HC3.out) Tryz.underlying132 rfl Tryz.info132) rfl ?_;have hs:=HB0.out.2.2;exact⟨_,rfl,(HN.out.1.store (by omega) _ _ _).mono (by omega),qQ3 (HB0.out.1.trans (HN.out.2.mono (by omega))) (xL0 _) _ _ _⟩
theorem yH5 (n:Int) (m:Nat) (w:World) (hm:m<18446744073709551616) (hn1:n<0) (hn2 : -9223372036854775808≤n) (hwr : -(n+1)+1=(m:Int)) :
  Calls Tryz.prog 94 #[.int .i64 n] w fun r w'=>∃ A,r=.returned A∧NC w' w.heap.size A true m 0∧Bw w w':=by
 obtain⟨W,hW⟩:∃ W,W=w.alloc (.cells #[.bool false,.slice none 0 0,.int .i64 0] 132):=⟨_,rfl⟩;have k34:=qO (ng:=true) (m:=m) (e:=0) (W:=W) hm (by omega)
 have HB0:Hid (Bw w W∧W.heap[w.heap.size]?=some (.cells #[.bool false,.slice none 0 0,.int .i64 0] 132 (0,0))∧W.heap.size=w.heap.size+1):=⟨by rw[hW];exact(xL1 _ _).alloc (xL0 _) _,by rw[hW];exact xW8 _ _,by rw[hW];simp⟩
 (try unfold Bw at k34);rw[HB0.out.2.2] at k34
 go_enter Tryz.func94,Tryz.ntmps94
 go_wp2_with fail;rw[←hW];clear hW;refine k34.mono ?_;rintro r w3 ⟨s,ao,n,cap,ex,rfl,hn,hb⟩;have hs:=HB0.out.2.2;have HC3:Hid (w3.heap[w.heap.size]?=some (.cells #[.bool false,.slice none 0 0,.int .i64 0] 132 (0,0))):=qQ HB0.out.2.1 hb (by omega)
 obtain⟨⟨a1,a2,a3⟩,a4,a5,a6⟩:=qQ0 HC3.out;have HN:Hid (NC w3 (w.heap.size+1) (.agg #[.bool s,.slice ao n cap,.int .i64 ex]) true m 0∧Below (w.heap.size+1) W w3):=⟨hn.mono (by omega),hb⟩
 clear hn hb k34 hs
 go_wp2;refine xW9 (xE2 rfl _ _ w.heap.size 132 #[.bool s,.slice ao n cap,.int .i64 ex] (0,0) _ rfl (qX1 _ _ _ HC3.out) Tryz.underlying132 rfl Tryz.info132) rfl ?_;have hs:=HB0.out.2.2;exact⟨_,rfl,(HN.out.1.store (by omega) _ _ _).mono (by omega),qQ3 (HB0.out.1.trans (HN.out.2.mono (by omega))) (xL0 _) _ _ _⟩
theorem xB6 {n:Int} {w:World} (hn : -9223372036854775808≤n∧n≤9223372036854775807) :
  Calls Tryz.prog 94 #[.int .i64 n] w fun r w'=>∃ A,r=.returned A∧DN w' A (cn (decide (n<0)) n.natAbs 0)∧Bw w w':=by
 by_cases h:n<0
 ·rw[xL4 h];exact(yH5 n n.natAbs w (by omega) h (by omega) (by omega)).mono fun r w' ⟨A,e,h,hb⟩=>⟨A,e,h.dn,hb⟩
 ·rw[xL3 h];exact(yH6 n n.natAbs w (by omega) (by omega) (by omega) (by rw[xW7];omega)).mono fun r w' ⟨A,e,h,hb⟩=>⟨A,e,h.dn,hb⟩
def un (Z:Int) (p:Nat):Bool×Nat×Int:=cn (decide (Z<0)) Z.natAbs (-(p:Int))
theorem zL5 (Z:Int):sv (decide (Z<0)) Z.natAbs=Z:=by
 unfold sv;by_cases h:Z<0
 ·rw[if_pos (xL4 h)];omega
 ·rw[if_neg (by simpa using h)];omega
theorem qW2 {K p:Nat} (Z:Int) (h:p≤K):vz K (un Z p).1 (un Z p).2.1 (un Z p).2.2=Z*((2^(K - p):Nat):Int):=by
 unfold un;rw[yL0 (by omega)]
 unfold vz;rw[zL5,show(-(p:Int)+(K:Int)).toNat=K - p by omega]
theorem tz_le {x b:Nat} (h:x<2^b):tz x≤b:=by
 by_cases h0:x=0
 ·rw[h0];exact xW (Nat.le_of_eq (by rw[tz];rfl)) (xW5 _)
 ·have h2:=(qX0 x x (xL0 _) h0).1;have h3:2^tz x≤x:=by
   have h4:0<x / 2^tz x:=by
    rcases Nat.eq_zero_or_pos (x / 2^tz x)with h|h
    ·rw[h,Nat.mul_zero] at h2;omega
    ·exact h
   exact xW (Nat.le_mul_of_pos_right _ h4) (Nat.le_of_eq h2)
  exact xE8 ((Nat.pow_lt_pow_iff_right (by omega)).1 (xL9 h3 h))
theorem un_e {Z:Int} {p b:Nat} (h:Z.natAbs<2^b) : -(p:Int)≤(un Z p).2.2∧(un Z p).2.2≤b∧0≤(un Z p).2.2+(p:Int):=by
 have ht:=tz_le h;unfold un cn;by_cases h0:Z.natAbs=0
 ·rw[if_pos h0];simp only;omega
 ·rw[if_neg h0];simp only;omega
theorem zZ3 {x b:Nat} (h:x<2^b):dlen x≤b / 32+1:=by
 refine(qQ9 _ _).2 (xL8 h ?_)
 rw[show B=2^32 by rfl,←Nat.pow_mul]
 exact xL6 (by decide) (by omega)
theorem yZ5 (s:Bool) (z:Nat) (e:Int):cn (cn s z e).1 (cn s z e).2.1 (cn s z e).2.2=cn s z e:=by
 by_cases h0:z=0
 ·unfold cn;rw[if_pos h0,if_pos rfl]
 ·have h2:=(qX0 z z (xL0 _) h0).2;have:cn s z e=(s,z / 2^tz z,e+tz z):=by unfold cn;rw[if_neg h0]
  rw[this];exact zZ9 h2
theorem zG2 {Z:Int} {p b:Nat} (h:Z.natAbs<2^b):(un Z p).2.1<2^b:=by
 unfold un cn;split
 ·exact xL5 _
 ·exact xL9 (xW0 _ _) h
theorem qR2 {Z:Int} {p b:Nat} (h:Z.natAbs<2^b) (hb:b≤90000) (hp:p≤90000):Gn (un Z p):=by
 have h1:=un_e (p:=p) h;have h2:=zZ3 (zG2 (p:=p) h);exact⟨yZ5 _ _ _,by omega,by omega,by omega⟩
theorem zT1 {s:Bool} {z:Nat} {e:Int} {Z:Int} {p K:Nat} (hp:p≤K) (he:0≤e+K) (h:vz K s z e=Z*((2^(K - p):Nat):Int)):cn s z e=un Z p:=by
 unfold un;refine cn_eq he (by omega) ?_
 rw[h];unfold vz;rw[zL5,show(-(p:Int)+(K:Int)).toNat=K - p by omega]
theorem yI9 {a b:Int} {p:Nat}:gS (un a p) (un b p)=un (a+b) p:=by
 have e1:=(un_e (p:=p) (Nat.lt_two_pow_self (n:=a.natAbs))).2.2;have e2:=(un_e (p:=p) (Nat.lt_two_pow_self (n:=b.natAbs))).2.2;unfold gS;have hs:0≤(sumN (un a p).1 (un a p).2.1 (un a p).2.2 (un b p).1 (un b p).2.1 (un b p).2.2).2.2+(p:Int):=by
  unfold sumN;split
  ·exact e2
  ·split
   ·exact e1
   ·split
    ·simp only;omega
    ·split <;> (simp only;omega)
 refine zT1 (K:=p) (xL0 _) hs ?_;rw[yL e1 e2,qW2 a (xL0 _),qW2 b (xL0 _),←Int.add_mul]
theorem qG8 {Z:Int} {p:Nat}:((un Z p).1=true→0<dlen (un Z p).2.1)∧((un Z p).2.1=0↔Z=0):=by
 have hz:(un Z p).2.1=0↔Z=0:=by
  have h:=qW2 (K:=p) (p:=p) Z (xL0 _);have e:=qD7 (K:=p) (s:=(un Z p).1) (x:=(un Z p).2.1) (e:=(un Z p).2.2);rw[h,Nat.sub_self,xC7] at e;constructor
  ·intro h0;have:=e.2 h0;simpa using this
  ·intro h0;exact e.1 (by rw[h0];simp)
 refine⟨fun h=>?_,hz⟩
 by_cases h0:(un Z p).2.1=0
 ·have:Z=0:=hz.1 h0
  subst this;exact absurd h (by unfold un cn;rw[if_pos (by decide)];decide)
 ·have:dlen (un Z p).2.1≠0:=fun e=>h0 (qQ7.1 e)
  omega
theorem zI1 {a:Int} {p:Nat}:gN (un a p)=un (-a) p:=by
 unfold gN;by_cases h0:(un a p).2.1=0
 ·rw[if_pos h0];have:=qG8.2.1 h0
  subst this;unfold un cn;rw[if_pos (by decide)]
 ·rw[if_neg h0];have e1:=(un_e (p:=p) (Nat.lt_two_pow_self (n:=a.natAbs))).2.2;have k:cn (!(un a p).1) (un a p).2.1 (un a p).2.2=(!(un a p).1,(un a p).2.1,(un a p).2.2):=yH9 (yZ5 _ _ _) h0 _;rw[←k];refine zT1 (K:=p) (xL0 _) e1 ?_;have h:=qW2 (K:=p) (p:=p) a (xL0 _);unfold vz at h ⊢;have hs:sv (!(un a p).1) (un a p).2.1 = - sv (un a p).1 (un a p).2.1:=by unfold sv;cases (un a p).1 <;> simp
  rw[hs,Int.neg_mul,h,Int.neg_mul]
theorem gD_un {a b:Int} {p:Nat}:gD (un a p) (un b p)=un (a - b) p:=by
 have h:gD (un a p) (un b p)=gS (un a p) (gN (un b p)):=by
  unfold gD gS gN;by_cases h0:(un b p).2.1=0
  ·rw[if_pos h0];have hb:=qG8.2.1 h0;subst hb;have e:un 0 p=(false,0,0):=by unfold un cn;rw[if_pos (by decide)]
   rw[e,qQ5];rfl
  ·rw[if_neg h0];have hd:dlen (un b p).2.1≠0:=fun e=>h0 (qQ7.1 e);rw[xL4 (show 0<dlen (un b p).2.1 by omega),Bool.and_true]
 rw[h,zI1,yI9,Int.sub_eq_add_neg]
theorem yF0 {a b:Int} {p q:Nat}:gM (un a p) (un b q)=un (a*b) (p+q):=by
 have e1:=(un_e (p:=p) (Nat.lt_two_pow_self (n:=a.natAbs))).2.2;have e2:=(un_e (p:=q) (Nat.lt_two_pow_self (n:=b.natAbs))).2.2;unfold gM;refine zT1 (K:=p+q) (xL0 _) (by omega) ?_
 rw[xY6 e1 e2,qW2 a (xL0 _),qW2 b (xL0 _),Nat.sub_self,Nat.sub_self,Nat.sub_self];simp
theorem yF1 {a:Int} {p:Nat} {k:Int} {q:Nat} (h:(p:Int) - k=q):gK k (un a p)=un a q:=by
 unfold gK;by_cases h0:(un a p).2.1=0
 ·rw[if_pos h0];have hb:=qG8.2.1 h0;subst hb;unfold un cn;rw[if_pos (by decide)]
 ·rw[if_neg h0];unfold un at h0 ⊢;unfold cn at h0 ⊢;by_cases hz:a.natAbs=0
  ·rw[if_pos hz] at h0;exact absurd rfl h0
  ·rw[if_neg hz,if_neg hz];refine Prod.ext rfl (Prod.ext rfl ?_);simp only;omega
theorem yV3 (n:Int):cn (decide (n<0)) n.natAbs 0=un n 0:=rfl
end Go.Proofs.YtbanebginnakhaaGreatDoor
namespace Go.Proofs.YtbanebginnakhaaGreatDoor
inductive Smp:Nat→Nat→Nat→Nat→Nat→Nat→Prop
 | whole {a b c d:Nat}:0<b→a % b=0→Smp a b c d (a / b) 1
 | above {a b c d:Nat}:0<b→a % b≠0→(a / b+1)*d≤c→Smp a b c d (a / b+1) 1
 | more {a b c d p q:Nat}:0<b→a % b≠0→c<(a / b+1)*d→Smp d (c - a / b*d) b (a % b) p q→Smp a b c d (a / b*p+q) p
end Go.Proofs.YtbanebginnakhaaGreatDoor
namespace Go.Proofs.YtbanebginnakhaaGreatDoor
open Go.RowKit Go.Fl64
theorem zF2 {Z:Int} {p b:Nat} (h:Z.natAbs<2^b) (hb:b≤60000) (hp:p≤60000):okR (decide (Z<0)) Z.natAbs (-(p:Int))=true :=
 Fits.ok (lo := -(p:Int)) (hi:=(b:Int) - p) (.inr ⟨by omega,by omega,by rw[show((b:Int) - p - (-(p:Int))).toNat=b by omega];exact h⟩) (by omega) (by omega) (by omega)
theorem qG0 {Z:Int} {p b:Nat} (h:Z.natAbs<2^b) (hb:b≤60000) (hp:p≤60000):Ok (un Z p):=ok_cn (zF2 h hb hp)
theorem qB {x b:Nat} (k:Nat) (h:x<2^b):x<2^(b+k):=xL8 h (xL6 (by decide) (by omega))
theorem zU2 {a b:Int} {k:Nat} (h1:a.natAbs<2^k) (h2:b.natAbs<2^k):(a+b).natAbs<2^(k+1):=by rw[xC5];omega
theorem xZ8 {a b:Int} {k:Nat} (h1:a.natAbs<2^k) (h2:b.natAbs<2^k):(a - b).natAbs<2^(k+1):=by rw[xC5];omega
theorem qI5 {a b:Int} {k l:Nat} (h1:a.natAbs<2^k) (h2:b.natAbs<2^l):(a*b).natAbs<2^(k+l):=by
 rw[Int.natAbs_mul,xC3];exact Nat.mul_lt_mul'' h1 h2
theorem zK {a b:Int} {p k:Nat} (h1:a.natAbs<2^k) (h2:b.natAbs<2^k) (hk:k<60000) (hp:p≤60000):Op2 117 (un a p) (un b p) (un (a+b) p):=by
 have e:=yI9 (a:=a) (b:=b) (p:=p);have:=xR6 (qG0 (p:=p) h1 (by omega) hp) (qG0 (p:=p) h2 (by omega) hp) (by
  rw[zE1];have o:=qG0 (p:=p) (zU2 h1 h2) (by omega) hp
  rw[←e] at o;exact o)
 rw[←e];exact this
theorem yE6 {a b:Int} {p k:Nat} (h1:a.natAbs<2^k) (h2:b.natAbs<2^k) (hk:k<60000) (hp:p≤60000):Op2 194 (un a p) (un b p) (un (a - b) p):=by
 have e:=gD_un (a:=a) (b:=b) (p:=p);have:=xJ (qG0 (p:=p) h1 (by omega) hp) (qG0 (p:=p) h2 (by omega) hp) (by
  rw[zE1];have o:=qG0 (p:=p) (xZ8 h1 h2) (by omega) hp
  rw[←e] at o;exact o)
 rw[←e];exact this
theorem yA {a b:Int} {p q k l:Nat} (h1:a.natAbs<2^k) (h2:b.natAbs<2^l) (hk:k+l≤60000) (hp:p+q≤60000):Op2 89 (un a p) (un b q) (un (a*b) (p+q)):=by
 have e:=yF0 (a:=a) (b:=b) (p:=p) (q:=q);have:=xF2 (qG0 (p:=p) h1 (by omega) (by omega)) (qG0 (p:=q) h2 (by omega) (by omega)) (by
  rw[zE1];have o:=qG0 (p:=p+q) (qI5 h1 h2) (by omega) hp
  rw[←e] at o;exact o)
 rw[←e];exact this
theorem zZ8 {X Y A B:Nat} (hY:0<Y) (hB:0<B) (h:X*B=A*Y):X / Y=A / B∧(X % Y=0↔A % B=0):=by
 have h1:X / Y=A / B:=by
  rw[←Nat.mul_div_mul_right X Y hB,h,xC4 Y B,Nat.mul_div_mul_right A B hY]
 refine⟨h1,?_⟩
 have e1:=Nat.div_add_mod X Y;have e2:=Nat.div_add_mod A B;have e3:X % Y*B=A % B*Y:=by
  have g1:X*B=Y*(A / B)*B+X % Y*B:=by rw[←Nat.add_mul,←h1,e1]
  have g2:A*Y=B*(A / B)*Y+A % B*Y:=by rw[←Nat.add_mul,e2]
  have g3:Y*(A / B)*B=B*(A / B)*Y:=by ac_rfl
  omega
 constructor
 ·intro h0;rw[h0,Nat.zero_mul] at e3;rcases Nat.mul_eq_zero.1 e3.symm with h|h
  ·exact h
  ·omega
 ·intro h0;rw[h0,Nat.zero_mul] at e3;rcases Nat.mul_eq_zero.1 e3 with h|h
  ·exact h
  ·omega
theorem zT0 {A p:Nat}:(un (A:Int) p).1=false:=by
 unfold un cn;rw[xL3 (by omega)]
 split <;> rfl
theorem zC8 {A B p k:Nat} (h1:A<2^k) (h2:B<2^k) (h0:0<B) (hk:k≤60000) (hp:p≤60000) {W:World} {X Y:Value} (hT:Tab32 W) (hX:PN W X (un (A:Int) p)) (hY:PN W Y (un (B:Int) p)) :
  Calls Tryz.prog 154 #[X,Y,.int .i64 0] W fun r w'=>∃ s ao n cap e,r=.returned (.tuple #[.agg #[.bool s,.slice ao n cap,.int .i64 e],.bool (decide (A % B=0)),.int .i64 0])∧PN w' (.agg #[.bool s,.slice ao n cap,.int .i64 e]) (un ((A / B:Nat):Int) 0)∧Bw W w':=by
 have a1:((A:Nat):Int).natAbs<2^k:=by rw[xC1];exact h1
 have b1:((B:Nat):Int).natAbs<2^k:=by rw[xC1];exact h2
 have o1:=qG0 (p:=p) a1 hk hp;have o2:=qG0 (p:=p) b1 hk hp;have f1:=o1.facts;have f2:=o2.facts;have v1:=qW2 (K:=p) (p:=p) (A:Int) (xL0 _);have v2:=qW2 (K:=p) (p:=p) (B:Int) (xL0 _);have g1:=(un_e (p:=p) a1).2.2;have g2:=(un_e (p:=p) b1).2.2;have n1:=zT0 (A:=A) (p:=p);have n2:=zT0 (A:=B) (p:=p);have z2:(un (B:Int) p).2.1≠0:=fun h=>by have:=qG8.2.1 h;omega
 obtain⟨ua,uc,rfl,i1⟩:=hX;obtain⟨va,vc,rfl,i2⟩:=hY;obtain⟨t1,ht1⟩:∃ t,t=un (A:Int) p:=⟨_,rfl⟩;obtain⟨t2,ht2⟩:∃ t,t=un (B:Int) p:=⟨_,rfl⟩;rw[←ht1] at o1 f1 v1 g1 n1 i1 ⊢;rw[←ht2] at o2 f2 v2 g2 n2 z2 i2 ⊢;obtain⟨s1,x,ea⟩:=t1;obtain⟨s2,y,eb⟩:=t2;simp only at o1 f1 v1 g1 n1 i1 o2 f2 v2 g2 n2 z2 i2 ⊢
 subst n1;subst n2;have eA:x*2^(ea+(p:Int)).toNat=A:=by
  unfold vz sv at v1;rw[Nat.sub_self,xC7] at v1;simp only[Bool.false_eq_true,if_false,Int.mul_one] at v1;have:((x*2^(ea+(p:Int)).toNat:Nat):Int)=(A:Int):=by
   rw[xC8];simpa using v1
  exact Int.ofNat.inj this
 have eB:y*2^(eb+(p:Int)).toNat=B:=by
  unfold vz sv at v2;rw[Nat.sub_self,xC7] at v2;simp only[Bool.false_eq_true,if_false,Int.mul_one] at v2;have:((y*2^(eb+(p:Int)).toNat:Nat):Int)=(B:Int):=by
   rw[xC8];simpa using v2
  exact Int.ofNat.inj this
 obtain⟨P,hP⟩:∃ P,x*2^(ea+0 - min (ea+0) eb).toNat=P:=⟨_,rfl⟩;obtain⟨Q,hQ⟩:∃ Q,y*2^(eb - min (ea+0) eb).toNat=Q:=⟨_,rfl⟩;have hQ0:0<Q:=by rw[←hQ];exact Nat.mul_pos (xW1 z2) (xL5 _)
 have hcr:P*B=A*Q:=by
  rw[←hP,←hQ,←eA,←eB];have e1:(ea+0 - min (ea+0) eb).toNat+(eb+(p:Int)).toNat=(ea+(p:Int)).toNat+(eb - min (ea+0) eb).toNat:=by omega
  generalize (ea+0 - min (ea+0) eb).toNat=j1 at *;generalize (eb+(p:Int)).toNat=j2 at *;generalize (ea+(p:Int)).toNat=j3 at *;generalize (eb - min (ea+0) eb).toNat=j4 at *;have e2:(2:Nat)^j1*2^j2=2^j3*2^j4:=by rw[←xC3,←xC3,e1]
  calc x*2^j1*(y*2^j2)=x*y*(2^j1*2^j2):=by ac_rfl
   _=x*y*(2^j3*2^j4):=by rw[e2]
   _=x*2^j3*(y*2^j4):=by ac_rfl
 obtain⟨d1,d2⟩:=zZ8 hQ0 h0 hcr;refine(c44 (na:=false) (nb:=false) (place:=0) i1 i2 hT z2 (by omega) (by omega) o1 o2 ⟨f1.2.1,f1.2.2.1⟩ ⟨f2.2.1,f2.2.2.1⟩ (by omega) P Q hP hQ).mono ?_
 rintro r w' ⟨N,rfl,hN,hb⟩;have hz:(if((false:Bool) != false) && !(decide (P % Q=0))then P / Q+1 else P / Q)=A / B:=by rw[←d1];rfl
 have hdec:decide (P % Q=0)=decide (A % B=0):=by
  by_cases h:A % B=0
  ·rw[xL4 h,xL4 (d2.2 h)]
  ·rw[xL3 h,xL3 (fun g=>h (d2.1 g))]
 rw[hz] at hN;have hq1:((A / B:Nat):Int).natAbs<2^k:=by rw[xC1];exact xL9 (xW0 _ _) h1
 have hokq:okR ((false:Bool) != false) (A / B) (-(0:Int))=true:=by
  have:=zF2 (p:=0) hq1 hk (by omega)
  rw[xL3 (by omega),xC1] at this
  exact this
 rw[hz,hokq,hdec];have hpn:=hN.pn;have he:cn ((false:Bool) != false) (A / B) (-(0:Int))=un ((A / B:Nat):Int) 0:=by
  unfold un;rw[xL3 (by omega),xC1]
  rfl
 rw[he] at hpn;obtain⟨s',ao,n,cap,e',rfl⟩:=hpn.shape;exact⟨s',ao,n,cap,e',by rw[Bool.and_true];rfl,hpn,hb⟩
def Fv (W:World) (U:Value) (t1 t2:Bool×Nat×Int):Prop:=∃ (s1:Bool) (ao1:Option Addr) (n1 cp1:Nat) (e1:Int) (s2:Bool) (ao2:Option Addr) (n2 cp2:Nat) (e2:Int),U=.agg #[.bool s1,.slice ao1 n1 cp1,.int .i64 e1,.bool s2,.slice ao2 n2 cp2,.int .i64 e2]∧PN W (.agg #[.bool s1,.slice ao1 n1 cp1,.int .i64 e1]) t1∧PN W (.agg #[.bool s2,.slice ao2 n2 cp2,.int .i64 e2]) t2
theorem Fv.later {W w':World} {U:Value} {t1 t2:Bool×Nat×Int} (h:Fv W U t1 t2) (hb:Bw W w'):Fv w' U t1 t2:=by
 obtain⟨_,_,_,_,_,_,_,_,_,_,e,h1,h2⟩:=h;exact⟨_,_,_,_,_,_,_,_,_,_,e,h1.later hb,h2.later hb⟩
theorem qV9 {w:World} {g:Nat} {a b c d e f:Value} {T:TypeId} (h:w.heap[g]?=some (.cells #[a,b,c,d,e,f] T (0,0))) :
  (w.cell? ⟨g,0,none⟩=some a∧w.cell? ⟨g,1,none⟩=some b∧w.cell? ⟨g,2,none⟩=some c∧w.cell? ⟨g,3,none⟩=some d∧w.cell? ⟨g,4,none⟩=some e∧w.cell? ⟨g,5,none⟩=some f)∧(w.frozen? ⟨g,0,none⟩=false∧w.frozen? ⟨g,1,none⟩=false∧w.frozen? ⟨g,2,none⟩=false∧w.frozen? ⟨g,3,none⟩=false∧w.frozen? ⟨g,4,none⟩=false∧w.frozen? ⟨g,5,none⟩=false):=by
 simp[World.cell?,World.frozen?,h]
theorem qJ7 {w:World} {g:Nat} {a b c:Value} {T:TypeId} (h:w.heap[g]?=some (.cells #[a,b,c] T (0,0))) :
  (w.cell? ⟨g,0,none⟩=some a∧w.cell? ⟨g,1,none⟩=some b∧w.cell? ⟨g,2,none⟩=some c)∧(w.frozen? ⟨g,0,none⟩=false∧w.frozen? ⟨g,1,none⟩=false∧w.frozen? ⟨g,2,none⟩=false):=by
 simp[World.cell?,World.frozen?,h]
theorem qG9 {w W:World} (a b:Obj) (hW:W=(w.alloc a).alloc b):W.heap[w.heap.size]?=some a∧W.heap[w.heap.size+1]?=some b∧W.heap.size=w.heap.size+1+1∧Bw w W:=by
 subst hW;refine⟨?_,?_,by simp,((xL1 _ _).alloc (xL0 _) _).alloc (by simp) _⟩
 ·rw[Below.heap_alloc _ _ _ (by simp)];exact xW8 _ _
 ·have:=xW8 (w.alloc a) b
  simpa using this
theorem yB6 {W W':World} {ao:Option Addr} {n z g:Nat} {T:TypeId} {s1 s2:Bool} {a1 a2:Option Addr} {m1 c1 m2 c2:Nat} {e1 e2:Int} (h:At W ao n z) (hE:W.heap[g]?=some (.cells #[.bool s1,.slice a1 m1 c1,.int .i64 e1] T (0,0))∨W.heap[g]?=some (.cells #[.bool s1,.slice a1 m1 c1,.int .i64 e1,.bool s2,.slice a2 m2 c2,.int .i64 e2] T (0,0))) (hW:∀ b,b≠g→W'.heap[b]?=W.heap[b]?):At W' ao n z:=by
 obtain⟨bb,o,h1,h2⟩:=h;refine⟨bb,o,h1,fun i hi=>?_⟩
 have hc:=h2 i hi;have hne:bb≠g:=by
  rintro rfl;rcases hE with hE|hE
  ·simp only[World.cell?,hE] at hc;rcases(show o+i=0∨o+i=1∨o+i=2∨3≤o+i by omega)with e|e|e|e
   ·rw[e] at hc;simp at hc
   ·rw[e] at hc;simp at hc
   ·rw[e] at hc;simp at hc
   ·rw[Array.getElem?_eq_none (by simpa using e)] at hc;cases hc
  ·simp only[World.cell?,hE] at hc;rcases(show o+i=0∨o+i=1∨o+i=2∨o+i=3∨o+i=4∨o+i=5∨6≤o+i by omega)with e|e|e|e|e|e|e
   ·rw[e] at hc;simp at hc
   ·rw[e] at hc;simp at hc
   ·rw[e] at hc;simp at hc
   ·rw[e] at hc;simp at hc
   ·rw[e] at hc;simp at hc
   ·rw[e] at hc;simp at hc
   ·rw[Array.getElem?_eq_none (by simpa using e)] at hc;cases hc
 unfold World.cell? at hc ⊢;rw[hW bb hne];exact hc
theorem qY5 (W:World) (g b i:Nat) (v:Value) (h:b≠g):(W.setCell ⟨g,i,none⟩ v).heap[b]?=W.heap[b]?:=by
 simp[World.setCell,Array.getElem?_modify,Ne.symm h]
theorem PN.cells {W W':World} {A:Value} {t:Bool×Nat×Int} {g:Nat} {T:TypeId} {s1 s2:Bool} {a1 a2:Option Addr} {m1 c1 m2 c2:Nat} {e1 e2:Int} (h:PN W A t) (hE:W.heap[g]?=some (.cells #[.bool s1,.slice a1 m1 c1,.int .i64 e1] T (0,0))∨W.heap[g]?=some (.cells #[.bool s1,.slice a1 m1 c1,.int .i64 e1,.bool s2,.slice a2 m2 c2,.int .i64 e2] T (0,0))) (hW:∀ b,b≠g→W'.heap[b]?=W.heap[b]?):PN W' A t:=by
 obtain⟨ao,cap,rfl,a',c',h1,h2,h3,h4⟩:=h;exact⟨ao,cap,rfl,a',c',h1,h2,h3,yB6 h4 hE hW⟩
theorem PN.set3 {W:World} {A:Value} {t:Bool×Nat×Int} {g:Nat} {T:TypeId} {s1:Bool} {a1:Option Addr} {m1 c1:Nat} {e1:Int} (h:PN W A t) (hE:W.heap[g]?=some (.cells #[.bool s1,.slice a1 m1 c1,.int .i64 e1] T (0,0))) (x y z:Value):PN (((W.setCell ⟨g,0,none⟩ x).setCell ⟨g,1,none⟩ y).setCell ⟨g,2,none⟩ z) A t :=
 h.cells (s2:=false) (a2:=none) (m2:=0) (c2:=0) (e2:=0) (.inl hE) fun b hb=>by rw[qY5 _ _ _ _ _ hb,qY5 _ _ _ _ _ hb,qY5 _ _ _ _ _ hb]
theorem qT8 {w:World} {g:Nat} {a b c d e f:Value} {T:TypeId} (a1 b1 c1 a2 b2 c2:Value) (h:w.heap[g]?=some (.cells #[a,b,c,d,e,f] T (0,0))) :
  ((((((w.setCell ⟨g,0,none⟩ a1).setCell ⟨g,1,none⟩ b1).setCell ⟨g,2,none⟩ c1).setCell ⟨g,3,none⟩ a2).setCell ⟨g,4,none⟩ b2).setCell ⟨g,5,none⟩ c2).heap[g]?=some (.cells #[a1,b1,c1,a2,b2,c2] T (0,0)):=by
 simp[World.setCell,Array.getElem?_modify,h]
theorem PN.set6 {W:World} {A:Value} {t:Bool×Nat×Int} {g:Nat} {T:TypeId} {s1 s2:Bool} {a1 a2:Option Addr} {m1 c1 m2 c2:Nat} {e1 e2:Int} (h:PN W A t) (hE:W.heap[g]?=some (.cells #[.bool s1,.slice a1 m1 c1,.int .i64 e1,.bool s2,.slice a2 m2 c2,.int .i64 e2] T (0,0))) (x y z x' y' z':Value):PN ((((((W.setCell ⟨g,0,none⟩ x).setCell ⟨g,1,none⟩ y).setCell ⟨g,2,none⟩ z).setCell ⟨g,3,none⟩ x').setCell ⟨g,4,none⟩ y').setCell ⟨g,5,none⟩ z') A t :=
 h.cells (.inr hE) fun b hb=>by rw[qY5 _ _ _ _ _ hb,qY5 _ _ _ _ _ hb,qY5 _ _ _ _ _ hb,qY5 _ _ _ _ _ hb,qY5 _ _ _ _ _ hb,qY5 _ _ _ _ _ hb]
theorem qS5 {B:Nat} {w0 w:World} {g:Nat} (h:Below B w0 w) (hg:B≤g) (x y z:Value):Below B w0 (((w.setCell ⟨g,0,none⟩ x).setCell ⟨g,1,none⟩ y).setCell ⟨g,2,none⟩ z):=((h.setCell hg _).setCell hg _).setCell hg _
theorem qG6 {B:Nat} {w0 w:World} {g:Nat} (h:Below B w0 w) (hg:B≤g) (x y z x' y' z':Value):Below B w0 ((((((w.setCell ⟨g,0,none⟩ x).setCell ⟨g,1,none⟩ y).setCell ⟨g,2,none⟩ z).setCell ⟨g,3,none⟩ x').setCell ⟨g,4,none⟩ y').setCell ⟨g,5,none⟩ z'):=(((((h.setCell hg _).setCell hg _).setCell hg _).setCell hg _).setCell hg _).setCell hg _
theorem zY0 {w:World} {g:Nat} {a b c:Value} {T:TypeId} (a1 b1 c1:Value) (h:w.heap[g]?=some (.cells #[a,b,c] T (0,0))) :
  (((w.setCell ⟨g,0,none⟩ a1).setCell ⟨g,1,none⟩ b1).setCell ⟨g,2,none⟩ c1).heap[g]?=some (.cells #[a1,b1,c1] T (0,0)):=by
 simp[World.setCell,Array.getElem?_modify,h]
theorem zL1 {w W:World} (a b c:Obj) (hW:W=((w.alloc a).alloc b).alloc c):W.heap[w.heap.size]?=some a∧W.heap[w.heap.size+1]?=some b∧W.heap[w.heap.size+1+1]?=some c∧Bw w W:=by
 obtain⟨V,hV⟩:∃ V,V=(w.alloc a).alloc b:=⟨_,rfl⟩;obtain⟨h1,h2,h3,h4⟩:=qG9 a b hV;have hb:Bw V W:=by rw[hW,←hV];exact(xL1 _ _).alloc (xL0 _) _
 refine⟨qQ h1 hb (by omega),qQ h2 hb (by omega),?_,h4.trans (hb.mono h4.size)⟩
 rw[hW,←hV,←h3];exact xW8 _ _
def OutP (W:World) (T:Bool×Nat×Int) (r:Ending) (w':World):Prop:=∃ s ao n cap e,r=.returned (.agg #[.bool s,.slice ao n cap,.int .i64 e])∧PN w' (.agg #[.bool s,.slice ao n cap,.int .i64 e]) T∧Bw W w'
def qS7 (W:World) (t1 t2:Bool×Nat×Int) (r:Ending) (w':World):Prop:=∃ U,r=.returned U∧Fv w' U t1 t2∧Bw W w'
end Go.Proofs.YtbanebginnakhaaGreatDoor
namespace Go.Proofs.YtbanebginnakhaaGreatDoor
open Go.RowKit
structure ParL (W0:World) (a0:Act) (m:Nat) (slot:Nat→Tmp) (V:Nat→World→Value→Prop) (listed:Array Bool) (a:Act) (w:World):Prop where
 below:Bw W0 w
 size:a.tmps.size=a0.tmps.size
 defers:a.defers=a0.defers
 other:∀ s,(∀ j,j<m→s≠slot j)→a.tmps[s]?=a0.tmps[s]?
 val:∀ j,j<m→listed.getD j false=true→∃ u,a.tmps[slot j]?=some u∧V j w u
theorem qL1 {P:Program} {ops:Array Oper} {Q:Exit→Act→World→Prop} {id:Nat} (hm:P.follows .mixedOrders=true) (m:Nat) (slot:Nat→Tmp) (dep:Nat→List Nat)
  (W0:World) (a0:Act) (V:Nat→World→Value→Prop) (hsz:ops.size=m+1)
  (hord:∀ (i:Nat) (o:Oper),ops[i]?=some o→∀ e ∈ o.after,e.on<i)
  (hV1:∀ j w w' u,Bw w w'→V j w u→V j w' u)
  (hdep:∀ j,j<m→∀ j' ∈ dep j,j'<m∧∀ o,ops[j]?=some o→∃ e ∈ o.after,e.on=j'∧Region.binds .any e=true)
  (hA:∀ j,j<m→∀ (a:Act) (w:World),Bw W0 w→(∀ s,(∀ j,j<m→s≠slot j)→a.tmps[s]?=a0.tmps[s]?) →
   (∀ j' ∈ dep j,∃ u,a.tmps[slot j']?=some u∧V j' w u)→wpOp P ops Q j (fun a' w'=>∃ u,a'=a.put (some (slot j)) u∧V j w' u∧Bw w w') a w)
  (hlast:∀ o,ops[m]?=some o→∀ j,j<m→∃ e ∈ o.after,e.on=j∧Region.binds .any e=true)
  (hin:∀ j,j<m→slot j<a0.tmps.size)
  (hinj:∀ j j',j<m→j'<m→slot j=slot j'→j=j')
  (hL:∀ (u:Nat→Value) (a:Act) (w:World),Bw W0 w→(∀ j,j<m→a.tmps[slot j]?=some (u j)∧V j w (u j)) →
   a.tmps.size=a0.tmps.size→a.defers=a0.defers→(∀ s,(∀ j,j<m→s≠slot j)→a.tmps[s]?=a0.tmps[s]?)→wpOp P ops Q m (fun a' w'=>Q .normal a' w') a w) :
  (Code.region id ops true).wp P Q a0 W0:=by
 refine wp_region_any hm ?_;refine qT2 (fun listed a w=>(listed.getD m false=false∧ParL W0 a0 m slot V listed a w)∨((∀ i,i<m+1→listed.getD i false=true)∧Q .normal a w)) ?_ ?_ ops.size _ a0 _ (by simp) ?_ (by simp)
 ·intro listed a w i hl hI hr;obtain⟨hun,o,ho,hall⟩:=mem_ready.1 hr;have hunf:=qS1 hun;have hio:i<ops.size:=(Array.getElem?_eq_some_iff.1 ho).1;have hil:i<listed.size:=by omega
  have hset:=qS2 hil;have hne:∀ x,x≠i→(listed.setIfInBounds i true).getD x false=listed.getD x false:=fun x hx=>getD_set_ne false (Ne.symm hx);rcases hI with ⟨hm0,hI⟩|⟨hfull,-⟩
  ·by_cases him:i<m
   ·refine wpOp_mono ?_ (hA i him a w hI.below hI.other fun j' hj'=>?_)
    ·rintro a' w' ⟨u,rfl,hu,hb⟩;have hlt:slot i<a.tmps.size:=by rw[hI.size];exact hin i him
     refine .inl ⟨by rw[hne m (by omega)];exact hm0,hI.below.trans (hb.mono hI.below.size),by rw[qP1];exact hI.size,by rw[qG];exact hI.defers,fun s h1=>?_,fun j hj h1=>?_⟩
     ·rw[qX (h1 i him)];exact hI.other s h1
     ·by_cases e:j=i
      ·subst e;exact⟨u,qN4 hlt,hu⟩
      ·rw[hne j e] at h1;obtain⟨u',g1,g2⟩:=hI.val j hj h1;exact⟨u',by rw[qX (fun e2=>e (hinj j i hj him e2))];exact g1,hV1 _ _ _ _ hb g2⟩
    ·obtain⟨h1,h2⟩:=hdep i him j' hj';obtain⟨e,he,rfl,hbd⟩:=h2 o ho;exact hI.val _ h1 (hall e he hbd)
   ·obtain rfl:i=m:=by omega
    have hl2:∀ j,j<i→listed.getD j false=true:=fun j hj=>by
     obtain⟨e,he,rfl,hbd⟩:=hlast o ho j hj;exact hall e he hbd
    have hval:∀ j,∃ u,j<i→a.tmps[slot j]?=some u∧V j w u:=fun j=>by
     by_cases hj:j<i
     ·obtain⟨u,h1,h2⟩:=hI.val j hj (hl2 j hj);exact⟨u,fun _=>⟨h1,h2⟩⟩
     ·exact⟨undef,fun h=>absurd h hj⟩
    obtain⟨u,hu⟩:=Classical.axiomOfChoice hval;refine wpOp_mono ?_ (hL u a w hI.below hu hI.size hI.defers hI.other);intro a' w' hq;refine .inr ⟨fun j hj=>?_,hq⟩;by_cases e:j=i
    ·rw[e];exact hset
    ·rw[hne j e];exact hl2 j (by omega)
  ·rw[hfull i (by omega)] at hunf
   cases hunf
 ·intro listed a w hl hI hr;rcases hI with ⟨hm0,hI⟩|⟨-,hq⟩
  ·exfalso;have hfull:∀ i,i<ops.size→listed.getD i false=true:=by
    intro i;induction i using Nat.strongRecOn with
    | _ i ih =>
     intro hi;cases hx:listed.getD i false with
     | true=>rfl
     | false =>
      exfalso;have ho:ops[i]?=some ops[i]:=Array.getElem?_eq_getElem hi;have:i ∈ Region.ready .any ops listed:=by
       refine mem_ready.2 ⟨?_,ops[i],ho,fun e he _=>ih e.on (hord i _ ho e he) (Nat.lt_trans (hord i _ ho e he) hi)⟩;have hil:i<listed.size:=by omega
       simp only[Array.getD_eq_getD_getElem?,Array.getElem?_eq_getElem hil,Option.getD_some] at hx ⊢;exact hx
      rw[hr] at this;cases this
   rw[hfull m (by omega)] at hm0
   cases hm0
  ·exact hq
 ·have h0:∀ x,(Array.replicate ops.size false).getD x false=true→False:=fun x h=>by
   simp[Array.getD_eq_getD_getElem?,Array.getElem?_replicate] at h;split at h <;> simp at h
  refine .inl ⟨?_,(xL1 _ _).drew,rfl,rfl,fun _ _=>rfl,fun j _ h=>(h0 _ h).elim⟩;cases hx:(Array.replicate ops.size false).getD m false with
  | false=>rfl
  | true=>exact(h0 _ hx).elim
def vhas (o:Oper) (j:Nat):Bool:=o.after.any fun e=>e.on==j&&Region.binds .any e
def vrow (m sl:Nat) (dep:Nat→List Nat) (i:Nat) (o:Oper):Bool :=
 o.after.all (fun e=>decide (e.on<i))&&o.guard.isNone&&(i==m||o.dst==some (sl+i))&&((if i==m then List.range m else dep i).all fun j=>decide (j<m)&&vhas o j)
def vchk (ops:Array Oper) (m sl:Nat) (dep:Nat→List Nat):Bool :=
 ops.size==m+1&&(List.range (m+1)).all fun i=>match ops[i]? with|some o=>vrow m sl dep i o|none=>false
theorem qN0 {o:Oper} {j:Nat} (h:vhas o j=true):∃ e ∈ o.after,e.on=j∧Region.binds .any e=true:=by
 unfold vhas at h;obtain⟨i,hi,h2⟩:=Array.any_eq_true.1 h;rw[xC,beq_iff_eq] at h2;exact⟨_,Array.getElem_mem hi,h2.1,h2.2⟩
theorem qM1 {ops:Array Oper} {m sl:Nat} {dep:Nat→List Nat} (h:vchk ops m sl dep=true) {i:Nat} {o:Oper} (ho:ops[i]?=some o):i<m+1∧vrow m sl dep i o=true:=by
 unfold vchk at h;rw[xC,beq_iff_eq] at h;have hi:i<m+1:=by have:=(Array.getElem?_eq_some_iff.1 ho).1;omega
 have h1:=List.all_eq_true.1 h.2 i (List.mem_range.2 hi);simp only[ho] at h1;exact⟨hi,h1⟩
theorem qU8 {m sl:Nat} {dep:Nat→List Nat} {i:Nat} {o:Oper} (h:vrow m sl dep i o=true) :
  (∀ e ∈ o.after,e.on<i)∧o.guard=none∧(i<m→o.dst=some (sl+i))∧∀ j ∈ (if i==m then List.range m else dep i),j<m∧∃ e ∈ o.after,e.on=j∧Region.binds .any e=true:=by
 unfold vrow at h;rw[xC,xC,xC] at h;obtain⟨⟨⟨h1,h2⟩,h3⟩,h4⟩:=h;refine⟨fun e he=>of_decide_eq_true (Array.all_eq_true_iff_forall_mem.1 h1 e he),Option.isNone_iff_eq_none.1 h2,fun hi=>?_,fun j hj=>?_⟩
 ·rw[Bool.or_eq_true] at h3;rcases h3 with h3|h3
  ·rw[beq_iff_eq] at h3;omega
  ·simpa using h3
 ·have:=List.all_eq_true.1 h4 j hj
  rw[xC] at this;exact⟨of_decide_eq_true this.1,qN0 this.2⟩
theorem zM4 {P:Program} {ops:Array Oper} {Q:Exit→Act→World→Prop} {id:Nat} (hm:P.follows .mixedOrders=true) (m sl:Nat) (dep:Nat→List Nat)
  (W0:World) (a0:Act) (V:Nat→World→Value→Prop) (hchk:vchk ops m sl dep=true)
  (hV1:∀ j w w' u,Bw w w'→V j w u→V j w' u) (hin:sl+m≤a0.tmps.size)
  (hA:∀ j,j<m→∀ o,ops[j]?=some o→∀ (a:Act) (w:World),Bw W0 w→(∀ s:Nat,(s<sl∨sl+m≤s)→a.tmps[s]?=a0.tmps[s]?) →
   (∀ j' ∈ dep j,∃ u,a.tmps[sl+j']?=some u∧V j' w u)→o.wp P a w (fun a' w'=>∃ u,a'=a.put o.dst u∧V j w' u∧Bw w w') Q)
  (hL:∀ o,ops[m]?=some o→∀ (u:Nat→Value) (w:World),Bw W0 w→(∀ j,j<m→V j w (u j)) →
   o.wp P (putL a0 ((List.range m).map (fun j=>(sl+j,u j)))) w (fun a' w'=>Q .normal a' w') Q) :
  (Code.region id ops true).wp P Q a0 W0:=by
 have hsz:ops.size=m+1:=by
  unfold vchk at hchk;rw[xC,beq_iff_eq] at hchk;exact hchk.1
 have hoth:∀ {s:Nat},(s<sl∨sl+m≤s)→∀ j,j<m→s≠sl+j:=fun h j hj=>by omega
 refine qL1 hm m (fun j=>sl+j) dep W0 a0 V hsz (fun i o ho=>(qU8 (qM1 hchk ho).2).1) hV1 ?_ ?_ ?_ (fun j hj=>xL8 (Nat.add_lt_add_left hj sl) hin) (fun i i' _ _ h=>Nat.add_left_cancel h) ?_
 ·intro j hj j' hj';obtain⟨o,ho⟩:∃ o,ops[j]?=some o:=⟨ops[j]'(by omega),Array.getElem?_eq_getElem (by omega)⟩
  have h4:=(qU8 (qM1 hchk ho).2).2.2.2 j' (by rw[if_neg (by rw[beq_iff_eq];omega)];exact hj')
  refine⟨h4.1,fun o' ho'=>?_⟩
  obtain rfl:o=o':=xL2 (ho.symm.trans ho');exact h4.2
 ·intro j hj a w hb ho1 hd;obtain⟨o,ho⟩:∃ o,ops[j]?=some o:=⟨ops[j]'(by omega),Array.getElem?_eq_getElem (by omega)⟩
  obtain⟨-,h2,h3,-⟩:=qU8 (qM1 hchk ho).2;refine qY8 ho h2 ?_;have h5:=hA j hj o ho a w hb (fun s hs=>ho1 s (hoth hs)) hd;rw[h3 hj] at h5;exact h5
 ·intro o ho j hj;exact((qU8 (qM1 hchk ho).2).2.2.2 j (by rw[if_pos (by rw[beq_iff_eq])];exact List.mem_range.2 hj)).2
 ·intro u a w hb hu hs hd ho1;obtain⟨o,ho⟩:∃ o,ops[m]?=some o:=⟨ops[m]'(by omega),Array.getElem?_eq_getElem (by omega)⟩
  obtain⟨-,h2,-,-⟩:=qU8 (qM1 hchk ho).2;refine qY8 ho h2 ?_;have q1:((List.range m).map (fun j=>((sl+j,u j):Tmp×Value))).map (fun p:Tmp×Value=>p.1)=(List.range m).map (fun j=>sl+j):=by simp[Function.comp_def]
  have ha:=qT0 (a:=a) (a0:=a0) (l:=(List.range m).map (fun j=>((sl+j,u j):Tmp×Value))) (by
    rw[q1];refine List.pairwise_map.2 ((List.nodup_range (n:=m)).imp_of_mem ?_);intro x y hx hy hne he;exact hne (Nat.add_left_cancel he)) hs hd (by
    intro p hp;obtain⟨i,hi,rfl⟩:=List.mem_map.1 hp;exact(hu i (List.mem_range.1 hi)).1) (fun s hsn=>ho1 s (fun i hi he=>hsn (List.mem_map.2 ⟨_,List.mem_map.2 ⟨i,List.mem_range.2 hi,rfl⟩,he.symm⟩)))
  rw[ha];exact hL o ho u w hb (fun j hj=>(hu j hj).2)
theorem qZ5 {P:Program} {Q:Exit→Act→World→Prop} {o:Oper} {K:Act→World→Prop} {a:Act} {w:World} {s:Tmp} {v:Value}
  (hop:o.op=.move (.tmp s)) (hs:a.tmps[s]?=some v) (h:K (a.put o.dst v) w):o.wp P a w K Q:=by
 unfold Oper.wp;simp[execOp,hop,qZ0 hs,Oper.upon,h]
theorem qX3 {P:Program} {Q:Exit→Act→World→Prop} {o:Oper} {K:Act→World→Prop} {a:Act} {w:World} {s:Tmp} {v:Value}
  (hop:o.op=.assign (.tmp s)) (hs:a.tmps[s]?=some v) (h:K (a.put o.dst v) w):o.wp P a w K Q:=by
 unfold Oper.wp;simp[execOp,hop,qZ0 hs,Oper.upon,h]
theorem qZ1 {P:Program} {Q:Exit→Act→World→Prop} {o:Oper} {K:Act→World→Prop} {a:Act} {w:World}
  {f:FuncId} {args:Array Operand} {ts:Array TypeId} (hop:o.op=.call { callee:=.value (.func f),args:=args,argTypes:=ts }) {vs:Array Value}
  (hc:∀ vs w,(callFunc f vs).run P w=.ok (.enter f vs) w) (hv:args.map a.eval=vs) (h:Calls P f vs w fun r w'=>∃ v,r=.returned v∧K (a.put o.dst v) w'):o.wp P a w K Q:=by
 unfold Oper.wp;have e:(execOp a.eval o).run P w=.ok (.enter f vs) w:=by
  simp[execOp,hop,resolve,Deferred.ofValue,Act.eval,invoke,hv,hc]
 rw[e,Oper.upon_enter];refine h.mono ?_;rintro r w' ⟨v,rfl,hk⟩;exact hk
theorem qZ7 {P:Program} {Q:Exit→Act→World→Prop} {o:Oper} {K:Act→World→Prop} {a:Act} {w w':World} {v:Value}
  (hr:(execOp a.eval o).run P w=.ok (.value v) w') (h:K (a.put o.dst v) w'):o.wp P a w K Q:=by
 unfold Oper.wp;rw[hr];exact h
def qW6 (P:World→Value→Prop):Prop:=∀ W W' A,Bw W W'→P W A→P W' A
def qH5:List (World→Value→Prop)→Prop
 | []=>True
 | P :: r=>qW6 P∧qH5 r
def vL (L:List (World→Value→Prop)) (j:Nat):World→Value→Prop:=L[j]?.getD (fun _ _=>False)
def dL (D:List (List Nat)) (j:Nat):List Nat:=D[j]?.getD []
def isV (x:Value):World→Value→Prop:=fun _ u=>u=x
theorem qQ2 (x:Value):qW6 (isV x):=fun _ _ _ _ h=>h
theorem qM2:∀ {L:List (World→Value→Prop)},qH5 L→∀ j,qW6 (vL L j)
 | [],_,j=>fun W W' A hb h=>by simp[vL] at h
 | P :: r,hL,0=>hL.1
 | P :: r,hL,j+1=>by
  have:=qM2 hL.2 j
  exact this
theorem qT4 {P:Program} {ops:Array Oper} {Q:Exit→Act→World→Prop} {id:Nat} (hm:P.follows .mixedOrders=true) (m sl:Nat) (D:List (List Nat))
  (W0:World) (a0:Act) (L:List (World→Value→Prop)) (hchk:vchk ops m sl (dL D)=true)
  (hV1:qH5 L) (hin:sl+m≤a0.tmps.size)
  (hA:∀ j,j<m→∀ o,ops[j]?=some o→∀ (a:Act) (w:World),Bw W0 w→(∀ s:Nat,(s<sl∨sl+m≤s)→a.tmps[s]?=a0.tmps[s]?) →
   (∀ j' ∈ dL D j,∃ u,a.tmps[sl+j']?=some u∧vL L j' w u)→o.wp P a w (fun a' w'=>∃ u,a'=a.put o.dst u∧vL L j w' u∧Bw w w') Q)
  (hL:∀ o,ops[m]?=some o→∀ (u:Nat→Value) (w:World),Bw W0 w→(∀ j,j<m→vL L j w (u j)) →
   o.wp P (putL a0 ((List.range m).map (fun j=>(sl+j,u j)))) w (fun a' w'=>Q .normal a' w') Q) :
  (Code.region id ops true).wp P Q a0 W0 :=
 zM4 hm m sl (dL D) W0 a0 (vL L) hchk (fun j w w' u hb h=>qM2 hV1 j w w' u hb h) hin hA hL
theorem zQ2 {P:Program} {Q:Exit→Act→World→Prop} {o:Oper} {K:Act→World→Prop} {a:Act} {w:World}
  {ty:TypeId} {s v:Tmp} (hop:o.op=.store ty (.tmp s) (.tmp v)) {g:Nat} {old cs:Array Value}
  (hs:a.tmps[s]?=some (.pointer (some ⟨g,0,none⟩))) (hv:a.tmps[v]?=some (.agg cs)) (hb:w.heap[g]?=some (.cells old ty (0,0))) (hn:(P.info? ty).map (·.size)=some cs.size) (ho:old.size=cs.size) (h1:cs.all (·.oneCell')=true)
  (h:K (a.put o.dst undef) (w.setRow g cs)):o.wp P a w K Q:=by
 unfold Oper.wp;simp[execOp,hop,qZ0 hs,qZ0 hv,Instr.storeAt,Instr.sureAddr,run_storeVar_row w g ty ty old cs hb hn ho h1,Result.andThen,Oper.upon,h]
end Go.Proofs.YtbanebginnakhaaGreatDoor
namespace Go.Proofs.YtbanebginnakhaaGreatDoor
open Go.RowKit Go.Fl64
theorem yW2 (g o:Nat) (s:Bool) (ao:Option Addr) (n cp:Nat) (e:Int) (w:World) (h0:w.cell? ⟨g,o,none⟩=some (.bool s)) (h1:w.cell? ⟨g,o+1,none⟩=some (.slice ao n cp)) (h2:w.cell? ⟨g,o+2,none⟩=some (.int .i64 e)):(Instr.loadAt 84 (.pointer (some ⟨g,o,none⟩))).run Tryz.prog w=.ok (.agg #[.bool s,.slice ao n cp,.int .i64 e]) w :=
 run_loadAt_mid w g o 84 [.bool s,.slice ao n cp,.int .i64 e] _ (fun j v hv=>by
  match j with
  | 0=>simp at hv;subst hv;exact h0
  | 1=>simp at hv;subst hv;exact h1
  | 2=>simp at hv;subst hv;exact h2
  | k+3=>simp at hv) Tryz.underlying84 rfl Tryz.info84
def isP (T:Bool×Nat×Int):World→Value→Prop:=fun w u=>PN w u T
theorem qX8 (T:Bool×Nat×Int):qW6 (isP T):=fun _ _ _ hb h=>PN.later h hb
def isF (T T':Bool×Nat×Int):World→Value→Prop:=fun w u=>Fv w u T T'
theorem zZ1 (T T':Bool×Nat×Int):qW6 (isF T T'):=fun _ _ _ hb h=>Fv.later h hb
theorem nabs {A k:Nat} (h:A<2^k):((A:Nat):Int).natAbs<2^k:=by rw[xC1];exact h
theorem zE5 {a b k l:Nat} (h1:a<2^k) (h2:b<2^l):a*b<2^(k+l):=by rw[xC3];exact Nat.mul_lt_mul'' h1 h2
theorem paddN {a b p k:Nat} (h1:a<2^k) (h2:b<2^k) (hk:k<60000) (hp:p≤60000):Op2 117 (un (a:Int) p) (un (b:Int) p) (un ((a+b:Nat):Int) p):=by
 have:=zK (p:=p) (nabs h1) (nabs h2) hk hp
 rw[←Int.natCast_add] at this;exact this
theorem psubN {a b p k:Nat} (h1:a<2^k) (hle:b≤a) (hk:k<60000) (hp:p≤60000):Op2 194 (un (a:Int) p) (un (b:Int) p) (un ((a - b:Nat):Int) p):=by
 have:=yE6 (p:=p) (nabs h1) (nabs (xL9 hle h1)) hk hp
 rw[←Int.natCast_sub hle] at this;exact this
theorem yM6 (a:Nat) (t:Bool×Nat×Int) (w:World)
  (k:∀ W,Bw w W→Calls Tryz.prog 151 #[.float .f64 a] W fun r w'=>∃ s ao n cap e,r=.returned (.tuple #[.agg #[.bool s,.slice ao n cap,.int .i64 e],.int .i64 0])∧PN w' (.agg #[.bool s,.slice ao n cap,.int .i64 e]) t∧Bw W w') :
  Calls Tryz.prog 103 #[.float .f64 a] w fun r w'=>OutA w t r w':=by
 obtain⟨W,hW⟩:∃ W,W=w.alloc (.cells #[.bool false,.slice none 0 0,.int .i64 0] 84):=⟨_,rfl⟩;have HX:Hid (Bw w W∧W.heap[w.heap.size]?=some (.cells #[.bool false,.slice none 0 0,.int .i64 0] 84 (0,0))):=⟨by rw[hW];exact(xL1 _ _).alloc (xL0 _) _,by rw[hW];exact xW8 _ _⟩
 have k1:=k W HX.out.1;clear k
 go_enter Tryz.func103,Tryz.ntmps103
 go_wp2_with fail;rw[←hW];clear hW;refine k1.mono ?_;rintro r w1 ⟨s1,ao1,n1,cap1,ex1,rfl,hA,hb1⟩;obtain⟨W1,hW1⟩:∃ W1,W1=w1.alloc (.cells #[.bool s1,.slice ao1 n1 cap1,.int .i64 ex1] 84):=⟨_,rfl⟩;have hb2:Bw W W1:=by rw[hW1];exact hb1.alloc hb1.size _
 have HY:Hid (PN W1 (.agg #[.bool s1,.slice ao1 n1 cap1,.int .i64 ex1]) t∧Bw w W1∧W1.heap[w1.heap.size]?=some (.cells #[.bool s1,.slice ao1 n1 cap1,.int .i64 ex1] 84 (0,0))∧W1.heap[w.heap.size]?=some (.cells #[.bool false,.slice none 0 0,.int .i64 0] 84 (0,0))) :=
  ⟨by rw[hW1];exact hA.later ((xL1 _ _).alloc (xL0 _) _),HX.out.1.trans (hb2.mono HX.out.1.size),by rw[hW1];exact xW8 _ _,qQ HX.out.2 hb2 (qQ6 HX.out.2)⟩
 clear k1 hA hb1 hb2
 go_upto_region 2 with fail;rw[←hW1];clear hW1;generalize w1.heap.size=g1 at *;obtain⟨⟨a0,a1,a2⟩,-⟩:=qQ1 HY.out.2.2.1;obtain⟨⟨x1,x2,x3⟩,x4,x5,x6⟩:=qQ1 HY.out.2.2.2
 go_wp2;refine xW9 (xE2 rfl _ _ w.heap.size 84 #[.bool s1,.slice ao1 n1 cap1,.int .i64 ex1] (0,0) _ rfl (qX4 _ _ _ HY.out.2.2.2) Tryz.underlying84 rfl Tryz.info84) rfl ?_;exact⟨_,_,_,_,_,rfl,qB0 HY.out.1 HY.out.2.2.2 _ _ _,qQ3 HY.out.2.1 (xL0 _) _ _ _⟩
-- GEN: one call of two numbers each, the error let go
theorem yM7 (na nb:Bool) (ua va:Option Addr) (un uc vn vc:Nat) (ea eb:Int) (t:Bool×Nat×Int) (w:World)
  (k:∀ W,Bw w W→Calls Tryz.prog 117 #[.agg #[.bool na,.slice ua un uc,.int .i64 ea],.agg #[.bool nb,.slice va vn vc,.int .i64 eb]] W fun r w'=>∃ s ao n cap e,r=.returned (.tuple #[.agg #[.bool s,.slice ao n cap,.int .i64 e],.int .i64 0])∧PN w' (.agg #[.bool s,.slice ao n cap,.int .i64 e]) t∧Bw W w') :
  Calls Tryz.prog 75 #[.agg #[.bool na,.slice ua un uc,.int .i64 ea],.agg #[.bool nb,.slice va vn vc,.int .i64 eb]] w fun r w'=>OutA w t r w':=by
 obtain⟨W,hW⟩:∃ W,W=((w.alloc (.cells #[.bool na,.slice ua un uc,.int .i64 ea] 84)).alloc (.cells #[.bool nb,.slice va vn vc,.int .i64 eb] 84)).alloc (.cells #[.bool false,.slice none 0 0,.int .i64 0] 84):=⟨_,rfl⟩;obtain⟨hA,hB,hC,hsz,hBW⟩:=qK0 _ _ _ hW;obtain⟨⟨a0,a1,a2⟩,-⟩:=qQ1 hA;obtain⟨⟨b0,b1,b2⟩,-⟩:=qQ1 hB;have HX:Hid (Bw w W∧W.heap[w.heap.size+1+1]?=some (.cells #[.bool false,.slice none 0 0,.int .i64 0] 84 (0,0))):=⟨hBW,hC⟩;have k1:=k W HX.out.1;clear k hA hB hC hBW hsz;rw[hW] at a0 a1 a2 b0 b1 b2
 go_enter Tryz.func75,Tryz.ntmps75
 go_wp2_with fail;rw[←hW];clear hW a0 a1 a2 b0 b1 b2;refine k1.mono ?_;rintro r w1 ⟨s1,ao1,n1,cap1,ex1,rfl,hA,hb1⟩;obtain⟨W1,hW1⟩:∃ W1,W1=w1.alloc (.cells #[.bool s1,.slice ao1 n1 cap1,.int .i64 ex1] 84):=⟨_,rfl⟩;have hb2:Bw W W1:=by rw[hW1];exact hb1.alloc hb1.size _
 have HY:Hid (PN W1 (.agg #[.bool s1,.slice ao1 n1 cap1,.int .i64 ex1]) t∧Bw w W1∧W1.heap[w1.heap.size]?=some (.cells #[.bool s1,.slice ao1 n1 cap1,.int .i64 ex1] 84 (0,0))∧W1.heap[w.heap.size+1+1]?=some (.cells #[.bool false,.slice none 0 0,.int .i64 0] 84 (0,0))) :=
  ⟨by rw[hW1];exact hA.later ((xL1 _ _).alloc (xL0 _) _),HX.out.1.trans (hb2.mono HX.out.1.size),by rw[hW1];exact xW8 _ _,qQ HX.out.2 hb2 (qQ6 HX.out.2)⟩
 clear k1 hA hb1 hb2
 go_upto_region 2 with fail;rw[←hW1];clear hW1;generalize w1.heap.size=g1 at *;obtain⟨⟨c0,c1,c2⟩,-⟩:=qQ1 HY.out.2.2.1;obtain⟨⟨x1,x2,x3⟩,x4,x5,x6⟩:=qQ1 HY.out.2.2.2
 go_wp2;refine xW9 (xE2 rfl _ _ (w.heap.size+1+1) 84 #[.bool s1,.slice ao1 n1 cap1,.int .i64 ex1] (0,0) _ rfl (qX4 _ _ _ HY.out.2.2.2) Tryz.underlying84 rfl Tryz.info84) rfl ?_;exact⟨_,_,_,_,_,rfl,qB0 HY.out.1 HY.out.2.2.2 _ _ _,qQ3 HY.out.2.1 (by omega) _ _ _⟩
theorem yN6 (na nb:Bool) (ua va:Option Addr) (un uc vn vc:Nat) (ea eb:Int) (t:Bool×Nat×Int) (w:World)
  (k:∀ W,Bw w W→Calls Tryz.prog 194 #[.agg #[.bool na,.slice ua un uc,.int .i64 ea],.agg #[.bool nb,.slice va vn vc,.int .i64 eb]] W fun r w'=>∃ s ao n cap e,r=.returned (.tuple #[.agg #[.bool s,.slice ao n cap,.int .i64 e],.int .i64 0])∧PN w' (.agg #[.bool s,.slice ao n cap,.int .i64 e]) t∧Bw W w') :
  Calls Tryz.prog 157 #[.agg #[.bool na,.slice ua un uc,.int .i64 ea],.agg #[.bool nb,.slice va vn vc,.int .i64 eb]] w fun r w'=>OutA w t r w':=by
 obtain⟨W,hW⟩:∃ W,W=((w.alloc (.cells #[.bool na,.slice ua un uc,.int .i64 ea] 84)).alloc (.cells #[.bool nb,.slice va vn vc,.int .i64 eb] 84)).alloc (.cells #[.bool false,.slice none 0 0,.int .i64 0] 84):=⟨_,rfl⟩;obtain⟨hA,hB,hC,hsz,hBW⟩:=qK0 _ _ _ hW;obtain⟨⟨a0,a1,a2⟩,-⟩:=qQ1 hA;obtain⟨⟨b0,b1,b2⟩,-⟩:=qQ1 hB;have HX:Hid (Bw w W∧W.heap[w.heap.size+1+1]?=some (.cells #[.bool false,.slice none 0 0,.int .i64 0] 84 (0,0))):=⟨hBW,hC⟩;have k1:=k W HX.out.1;clear k hA hB hC hBW hsz;rw[hW] at a0 a1 a2 b0 b1 b2
 go_enter Tryz.func157,Tryz.ntmps157
 go_wp2_with fail;rw[←hW];clear hW a0 a1 a2 b0 b1 b2;refine k1.mono ?_;rintro r w1 ⟨s1,ao1,n1,cap1,ex1,rfl,hA,hb1⟩;obtain⟨W1,hW1⟩:∃ W1,W1=w1.alloc (.cells #[.bool s1,.slice ao1 n1 cap1,.int .i64 ex1] 84):=⟨_,rfl⟩;have hb2:Bw W W1:=by rw[hW1];exact hb1.alloc hb1.size _
 have HY:Hid (PN W1 (.agg #[.bool s1,.slice ao1 n1 cap1,.int .i64 ex1]) t∧Bw w W1∧W1.heap[w1.heap.size]?=some (.cells #[.bool s1,.slice ao1 n1 cap1,.int .i64 ex1] 84 (0,0))∧W1.heap[w.heap.size+1+1]?=some (.cells #[.bool false,.slice none 0 0,.int .i64 0] 84 (0,0))) :=
  ⟨by rw[hW1];exact hA.later ((xL1 _ _).alloc (xL0 _) _),HX.out.1.trans (hb2.mono HX.out.1.size),by rw[hW1];exact xW8 _ _,qQ HX.out.2 hb2 (qQ6 HX.out.2)⟩
 clear k1 hA hb1 hb2
 go_upto_region 2 with fail;rw[←hW1];clear hW1;generalize w1.heap.size=g1 at *;obtain⟨⟨c0,c1,c2⟩,-⟩:=qQ1 HY.out.2.2.1;obtain⟨⟨x1,x2,x3⟩,x4,x5,x6⟩:=qQ1 HY.out.2.2.2
 go_wp2;refine xW9 (xE2 rfl _ _ (w.heap.size+1+1) 84 #[.bool s1,.slice ao1 n1 cap1,.int .i64 ex1] (0,0) _ rfl (qX4 _ _ _ HY.out.2.2.2) Tryz.underlying84 rfl Tryz.info84) rfl ?_;exact⟨_,_,_,_,_,rfl,qB0 HY.out.1 HY.out.2.2.2 _ _ _,qQ3 HY.out.2.1 (by omega) _ _ _⟩
theorem qI8 (na nb:Bool) (ua va:Option Addr) (un uc vn vc:Nat) (ea eb:Int) (t:Bool×Nat×Int) (w:World)
  (k:∀ W,Bw w W→Calls Tryz.prog 89 #[.agg #[.bool na,.slice ua un uc,.int .i64 ea],.agg #[.bool nb,.slice va vn vc,.int .i64 eb]] W fun r w'=>∃ s ao n cap e,r=.returned (.tuple #[.agg #[.bool s,.slice ao n cap,.int .i64 e],.int .i64 0])∧PN w' (.agg #[.bool s,.slice ao n cap,.int .i64 e]) t∧Bw W w') :
  Calls Tryz.prog 52 #[.agg #[.bool na,.slice ua un uc,.int .i64 ea],.agg #[.bool nb,.slice va vn vc,.int .i64 eb]] w fun r w'=>OutA w t r w':=by
 obtain⟨W,hW⟩:∃ W,W=((w.alloc (.cells #[.bool na,.slice ua un uc,.int .i64 ea] 84)).alloc (.cells #[.bool nb,.slice va vn vc,.int .i64 eb] 84)).alloc (.cells #[.bool false,.slice none 0 0,.int .i64 0] 84):=⟨_,rfl⟩;obtain⟨hA,hB,hC,hsz,hBW⟩:=qK0 _ _ _ hW;obtain⟨⟨a0,a1,a2⟩,-⟩:=qQ1 hA;obtain⟨⟨b0,b1,b2⟩,-⟩:=qQ1 hB;have HX:Hid (Bw w W∧W.heap[w.heap.size+1+1]?=some (.cells #[.bool false,.slice none 0 0,.int .i64 0] 84 (0,0))):=⟨hBW,hC⟩;have k1:=k W HX.out.1;clear k hA hB hC hBW hsz;rw[hW] at a0 a1 a2 b0 b1 b2
 go_enter Tryz.func52,Tryz.ntmps52
 go_wp2_with fail;rw[←hW];clear hW a0 a1 a2 b0 b1 b2;refine k1.mono ?_;rintro r w1 ⟨s1,ao1,n1,cap1,ex1,rfl,hA,hb1⟩;obtain⟨W1,hW1⟩:∃ W1,W1=w1.alloc (.cells #[.bool s1,.slice ao1 n1 cap1,.int .i64 ex1] 84):=⟨_,rfl⟩;have hb2:Bw W W1:=by rw[hW1];exact hb1.alloc hb1.size _
 have HY:Hid (PN W1 (.agg #[.bool s1,.slice ao1 n1 cap1,.int .i64 ex1]) t∧Bw w W1∧W1.heap[w1.heap.size]?=some (.cells #[.bool s1,.slice ao1 n1 cap1,.int .i64 ex1] 84 (0,0))∧W1.heap[w.heap.size+1+1]?=some (.cells #[.bool false,.slice none 0 0,.int .i64 0] 84 (0,0))) :=
  ⟨by rw[hW1];exact hA.later ((xL1 _ _).alloc (xL0 _) _),HX.out.1.trans (hb2.mono HX.out.1.size),by rw[hW1];exact xW8 _ _,qQ HX.out.2 hb2 (qQ6 HX.out.2)⟩
 clear k1 hA hb1 hb2
 go_upto_region 2 with fail;rw[←hW1];clear hW1;generalize w1.heap.size=g1 at *;obtain⟨⟨c0,c1,c2⟩,-⟩:=qQ1 HY.out.2.2.1;obtain⟨⟨x1,x2,x3⟩,x4,x5,x6⟩:=qQ1 HY.out.2.2.2
 go_wp2;refine xW9 (xE2 rfl _ _ (w.heap.size+1+1) 84 #[.bool s1,.slice ao1 n1 cap1,.int .i64 ex1] (0,0) _ rfl (qX4 _ _ _ HY.out.2.2.2) Tryz.underlying84 rfl Tryz.info84) rfl ?_;exact⟨_,_,_,_,_,rfl,qB0 HY.out.1 HY.out.2.2.2 _ _ _,qQ3 HY.out.2.1 (by omega) _ _ _⟩
theorem qW0 {t1 t2 t3:Bool×Nat×Int} (h:Op2 117 t1 t2 t3) {X Y:Value} {w:World} (hT:Tab32 w) (h1:PN w X t1) (h2:PN w Y t2):Calls Tryz.prog 75 #[X,Y] w fun r w'=>OutA w t3 r w':=by
 obtain⟨s,ao,n,cap,e,rfl⟩:=h1.shape;obtain⟨s',ao',n',cap',e',rfl⟩:=h2.shape;exact yM7 s s' ao ao' n cap n' cap' e e' t3 w fun W hW=>h W _ _ (hT.later hW) (h1.later hW) (h2.later hW)
theorem yK6 {t1 t2 t3:Bool×Nat×Int} (h:Op2 194 t1 t2 t3) {X Y:Value} {w:World} (hT:Tab32 w) (h1:PN w X t1) (h2:PN w Y t2):Calls Tryz.prog 157 #[X,Y] w fun r w'=>OutA w t3 r w':=by
 obtain⟨s,ao,n,cap,e,rfl⟩:=h1.shape;obtain⟨s',ao',n',cap',e',rfl⟩:=h2.shape;exact yN6 s s' ao ao' n cap n' cap' e e' t3 w fun W hW=>h W _ _ (hT.later hW) (h1.later hW) (h2.later hW)
theorem qW7 {t1 t2 t3:Bool×Nat×Int} (h:Op2 89 t1 t2 t3) {X Y:Value} {w:World} (hT:Tab32 w) (h1:PN w X t1) (h2:PN w Y t2):Calls Tryz.prog 52 #[X,Y] w fun r w'=>OutA w t3 r w':=by
 obtain⟨s,ao,n,cap,e,rfl⟩:=h1.shape;obtain⟨s',ao',n',cap',e',rfl⟩:=h2.shape;exact qI8 s s' ao ao' n cap n' cap' e e' t3 w fun W hW=>h W _ _ (hT.later hW) (h1.later hW) (h2.later hW)
def rtK (t1 t2:Bool×Nat×Int):Nat:=(max 0 (64+(bl t2.2.1:Int) - (bl t1.2.1:Int))).toNat
def rtF (t1 t2:Bool×Nat×Int) (m:Int):Nat:=tfF (t1.1 != t2.1) (decide (t1.2.1*2^rtK t1 t2 % t2.2.1=0)) (t1.2.1*2^rtK t1 t2 / t2.2.1) (t1.2.2 - t2.2.2 - rtK t1 t2) m
theorem xH2 {t1 t2:Bool×Nat×Int} {X Y:Value} {m:Int} {w:World} (hT:Tab32 w) (o1:Ok t1) (o2:Ok t2) (h1:PN w X t1) (h2:PN w Y t2) (x0:t1.2.1≠0) (y0:t2.2.1≠0) (hm:1≤m∧m≤3) :
  Calls Tryz.prog 51 #[X,Y,.int .i64 m] w fun r w'=>r=.returned (.tuple #[.float .f64 (rtF t1 t2 m),.int .i64 0])∧Bw w w':=by
 obtain⟨pa,pc,rfl,i1⟩:=h1;obtain⟨qa,qc,rfl,i2⟩:=h2;have f1:=o1.facts;have f2:=o2.facts;have bx:=qY2 t1.2.1;have by':=qY2 t2.2.1;have hn0:((dlen t1.2.1:Int)==0)=false:=by
  have:dlen t1.2.1≠0:=fun e=>x0 (qQ7.1 e)
  simp;omega
 have hn1:((dlen t2.2.1:Int)==0)=false:=by
  have:dlen t2.2.1≠0:=fun e=>y0 (qQ7.1 e)
  simp;omega
 have hk:max 0 (64+(bl t2.2.1:Int) - (bl t1.2.1:Int))=(rtK t1 t2:Int):=by unfold rtK;omega
 refine yU9 t1.1 t2.1 pa qa _ pc _ qc _ _ (rtK t1 t2) (bl t1.2.1) (bl t2.2.1) t1.2.2 t2.2.2 m (t1.1 != t2.1) w (rfl:(!(t1.1==t2.1))=(t1.1 != t2.1)) hT i1 i2 (by omega) (by omega) y0 (by omega) (by omega) (by omega) (by omega) (by omega) rfl rfl (by omega) (by omega) hk (by omega) hn0 hn1 (fun W' g hW' hg=>?_)
 have:=zQ8 hg (i1.later hW') (i2.later hW') (by omega) (by omega)
 rw[show okN t1.1 (dlen t1.2.1) t1.2.1 t1.2.2=true from o1,show okN t2.1 (dlen t2.2.1) t2.2.1 t2.2.2=true from o2] at this;exact this
end Go.Proofs.YtbanebginnakhaaGreatDoor
namespace Go.Proofs.YtbanebginnakhaaGreatDoor
open Go.RowKit Go.Fl64
open Ie
theorem zU {x k:Nat} (h:x≠0):bl (x*2^k)=bl x+k:=by
 have h1:=qV0 x;have h2:=qP6 h;have hb:=qW4 h;have a:bl (x*2^k)≤bl x+k:=(qJ8 _ _).2 (by rw[xC3];exact xE4 h1 (xL5 k))
 have b:bl x+k - 1+1≤bl (x*2^k):=xZ.2 (by rw[show bl x+k - 1=bl x - 1+k by omega,xC3];exact xL7 _ h2)
 omega
theorem zX0 {N y:Nat} (hy:y≠0):bl N≤bl (N / y)+bl y:=by
 refine(qJ8 _ _).2 ?_
 have h1:N<y*(N / y+1):=Nat.lt_mul_div_succ N (xW1 hy);have h2:=qV0 (N / y);have h3:=qV0 y;rw[xC3,xC4 (2^bl (N / y))];exact xL8 h1 (Nat.mul_le_mul (xE8 h3) h2)
theorem qL9 {N y:Nat} (hy:y≠0) (hq:N / y≠0):bl (N / y)+bl y≤bl N+1:=by
 have h1:=qP6 hq;have h2:=qP6 hy;have b1:=qW4 hq;have b2:=qW4 hy;have h3:2^(bl (N / y) - 1+(bl y - 1))≤N:=by
  rw[xC3];exact xW (Nat.mul_le_mul h1 h2) (xE9 N y)
 have h4:=xL9 h3 (qV0 N);have h5:=(Nat.pow_lt_pow_iff_right (by omega:1<2)).1 h4
 omega
theorem yY:bl 1=1:=by rfl
theorem zW3 {W:World} {g:Nat} {s:Bool} {e m:Int} (h:At W (some ⟨g,0,none⟩) 1 1) (he1 : -4000000≤e) (he2:e≤4000000) (hm:1≤m∧m≤3) :
  Calls Tryz.prog 96 #[.agg #[.bool s,.slice (some ⟨g,0,none⟩) 1 1,.int .i64 e],.int .i64 m] W fun r w'=>r=.returned (.float .f64 (tfF s true 1 e m))∧Bw W w':=by
 have:=rto (neg:=s) (uc:=1) (x:=1) (ea:=e) (m:=m) (by rw[qK7];exact h) (by rw[qK7];exact xL0 _) rfl (by rw[qK7];omega) he1 he2 hm
 rw[←qM3 hm,qK7] at this;exact this
theorem yU {na nb:Bool} {ua va:Option Addr} {uc vc x y k:Nat} {ea eb m:Int} {w:World} (h1:Arg w ua (dlen x) uc x) (h2:Arg w va (dlen y) vc y) (hx:dlen x≤2048) (hy:dlen y≤2048) (ha : -65536≤ea∧ea≤65536) (hb : -65536≤eb∧eb≤65536) (hx0:x≠0) (hy0:y≠0) (hm:1≤m∧m≤3) (hk:max 0 (64+(bl y:Int) - (bl x:Int))=(k:Int)) :
  Calls Tryz.prog 100 #[.agg #[.bool na,.slice ua (dlen x) uc,.int .i64 ea],.agg #[.bool nb,.slice va (dlen y) vc,.int .i64 eb],.int .i64 m] w fun r w'=>r=.returned (.float .f64 (tfF (na != nb) (decide (x*2^k % y=0)) (x*2^k / y) (ea - eb - k) m))∧Bw w w':=by
 have bx:=qY2 x;have by':=qY2 y;have bx1:=qW4 hx0;have by1:=qW4 hy0;have hN:bl (x*2^k)=bl x+k:=zU hx0;have q1:=zX0 (N:=x*2^k) hy0;have h64:64≤bl (x*2^k / y):=by omega
 have hq0:x*2^k / y≠0:=fun e=>by rw[e] at h64;simp[bl] at h64
 have q2:=qL9 hy0 hq0;have hn0:((dlen x:Int)==0)=false:=qY9 (n:=0) hx0;have kHa:=fun W (hW:Bw w W)=>yC9 (neg:=na) (cap:=uc) (e:=ea) (h1.later hW).at_ hx0 (by omega) ⟨by omega,by omega⟩
 have kHb:=fun W (hW:Bw w W)=>yC9 (neg:=nb) (cap:=vc) (e:=eb) (h2.later hW).at_ hy0 (by omega) ⟨by omega,by omega⟩
 obtain⟨pl,hpl⟩:∃ pl:Int,min (max (60 - ((bl x:Int)+ea)+((bl y:Int)+eb)) (-1100)) 1100=pl:=⟨_,rfl⟩;by_cases hb1:1100<(bl x:Int)+ea - ((bl y:Int)+eb)
 ·rw[zL2 (s:=na != nb) (y:=1) (f:=1100) hm (.inl h64) (by omega) (by omega) (by rw[yY];omega)]
  exact qC0 na nb ua va _ uc _ vc _ ea eb m _ _ pl (na != nb) w rfl hn0 (by omega) (by omega) (by omega) (by omega) hpl (by omega) (by omega) _ (.inl ⟨hb1,rfl⟩) kHa kHb (fun g W hW hA=>zW3 hA (by omega) (by omega) hm)
 ·by_cases hb2:(bl x:Int)+ea - ((bl y:Int)+eb) < -1200
  ·rw[qT5 (s:=na != nb) (y:=1) (f := -1200) hm (.inl h64) (by omega) (by omega) (by rw[yY];omega)]
   exact qC0 na nb ua va _ uc _ vc _ ea eb m _ _ pl (na != nb) w rfl hn0 (by omega) (by omega) (by omega) (by omega) hpl (by omega) (by omega) _ (.inr ⟨hb2,rfl⟩) kHa kHb (fun g W hW hA=>zW3 hA (by omega) (by omega) hm)
  ·have hP : -1100≤pl∧pl≤1100:=by omega
   obtain⟨X,hX⟩:∃ X,ovX x ea eb (pl+60)=X:=⟨_,rfl⟩;obtain⟨Y,hY⟩:∃ Y,ovY y ea eb (pl+60)=Y:=⟨_,rfl⟩;have bX:(bl X:Int)=bl x+(ea+(pl+60) - min (ea+(pl+60)) eb):=by rw[←hX];unfold ovX;rw[zU hx0];omega
   have bY:(bl Y:Int)=bl y+(eb - min (ea+(pl+60)) eb):=by rw[←hY];unfold ovY;rw[zU hy0];omega
   have hX0:X≠0:=by rw[←hX];unfold ovX;exact Nat.mul_ne_zero hx0 (Nat.pos_iff_ne_zero.1 (xL5 _))
   have hY0:Y≠0:=by rw[←hY];unfold ovY;exact Nat.mul_ne_zero hy0 (Nat.pos_iff_ne_zero.1 (xL5 _))
   have r1:=zX0 (N:=X) hY0;have hzl:dlen (X / Y)≤20000:=by
    refine xW (qZ3 (xW0 X Y)) ?_;rw[←hX];unfold ovX;have:=qK1 (x:=x) (k:=(ea+(pl+60) - min (ea+(pl+60)) eb).toNat) rfl
    omega
   have kO:=fun W (hW:Bw w W)=>rover (na:=na) (nb:=nb) (ea:=ea) (eb:=eb) (place:=pl+60) (h1.later hW).at_ h1.le (h2.later hW).at_ h2.le hy0 (by omega) (by omega) ⟨by omega,by omega⟩ ⟨by omega,by omega⟩ ⟨by omega,by omega⟩ hX hY
   have hbq:decide (X % Y=0)=true→X / Y≠0:=fun h e=>by
    have h':=of_decide_eq_true h;have:=Nat.div_add_mod X Y
    rw[e,h',Nat.mul_zero] at this;exact hX0 this.symm
   have key:tfF (na != nb) (decide (x*2^k % y=0)) (x*2^k / y) (ea - eb - k) m=if decide (X % Y=0)then tfF (na != nb) true (X / Y) (-(pl+60)) m else tfF (na != nb) true (2*(X / Y)+1) (-(pl+60+1)) m:=by
    by_cases hs:64≤bl (X / Y)
    ·have re:=zH7 (s:=na != nb) (x:=x) (y:=y) (k:=k) (ea:=ea) (eb:=eb) (P:=pl+60) hm hy0 h64 (by rw[hX,hY];exact hs)
     rw[hX,hY] at re;rw[re];cases decide (X % Y=0)
     ·rw[if_neg (by decide),qF0 hs,show -(pl+60) - 1 = -(pl+60+1) by omega]
     ·rw[if_pos rfl]
    ·have hd:(bl x:Int)+ea - ((bl y:Int)+eb) < -1096:=by omega
     cases hdc:decide (X % Y=0)
     ·rw[if_neg (by decide)]
      refine qT5 hm (.inl h64) (by omega) (by omega) ?_
      by_cases hz:X / Y=0
      ·rw[hz,Nat.mul_zero,Nat.zero_add,yY];omega
      ·have r2:=qL9 hY0 hz;rw[zN6 hz];omega
     ·rw[if_pos rfl];have hz:=hbq hdc;have r2:=qL9 hY0 hz;exact qT5 hm (.inl h64) hz (by omega) (by omega)
   rw[key];refine zP0 na nb ua va _ uc _ vc _ ea eb m _ _ pl (na != nb) _ (decide (X % Y=0)) w hn0 (by omega) (by omega) (by omega) (by omega) hpl hP.1 hP.2 (by omega) (by omega) kHa kHb kO (fun W A hW hN=>?_)
   exact yU5 hN hbq hzl (by omega) (by omega) hm
end Go.Proofs.YtbanebginnakhaaGreatDoor
namespace Go.Proofs.YtbanebginnakhaaGreatDoor
open Go.RowKit Go.Fl64
theorem xS8 {x:Nat} (h0:x≠0):1≤bl x:=by unfold bl;rw[if_neg h0];omega
theorem zV9 {x k:Nat} (h:x≠0):bl (x*2^k)=bl x+k:=by
 have h1:=qV0 x;have h2:=qP6 h;have hb:=xS8 h;have a:bl (x*2^k)≤bl x+k:=(qJ8 _ _).2 (by rw[xC3];exact xE4 h1 (xL5 k))
 have b:bl x+k - 1<bl (x*2^k):=by
  apply Decidable.byContradiction
  intro hn;have h3:=qV0 (x*2^k);have h4:x*2^k<2^(bl x+k - 1):=xL8 h3 (xL6 (by decide) (by omega))
  rw[show bl x+k - 1=bl x - 1+k by omega,xC3] at h4
  have:=xL7 (2^k) h2
  omega
 omega
end Go.Proofs.YtbanebginnakhaaGreatDoor
namespace Go.Proofs.YtbanebginnakhaaGreatDoor
open Go.RowKit
def yV0 (m:Nat) (SL:List Nat) (dep:Nat→List Nat) (i:Nat) (o:Oper):Bool :=
 o.after.all (fun e=>decide (e.on<i))&&o.guard.isNone&&(i==m||o.dst==some (SL.getD i 0))&&((if i==m then List.range m else dep i).all fun j=>decide (j<m)&&vhas o j)
def zR8 (ops:Array Oper) (m:Nat) (SL:List Nat) (dep:Nat→List Nat):Bool :=
 ops.size==m+1&&(List.range (m+1)).all fun i=>match ops[i]? with|some o=>yV0 m SL dep i o|none=>false
theorem qH8 {ops:Array Oper} {m:Nat} {SL:List Nat} {dep:Nat→List Nat} (h:zR8 ops m SL dep=true) {i:Nat} {o:Oper} (ho:ops[i]?=some o):i<m+1∧yV0 m SL dep i o=true:=by
 unfold zR8 at h;rw[xC,beq_iff_eq] at h;have hi:i<m+1:=by have:=(Array.getElem?_eq_some_iff.1 ho).1;omega
 have h1:=List.all_eq_true.1 h.2 i (List.mem_range.2 hi);simp only[ho] at h1;exact⟨hi,h1⟩
theorem qV6 {m:Nat} {SL:List Nat} {dep:Nat→List Nat} {i:Nat} {o:Oper} (h:yV0 m SL dep i o=true) :
  (∀ e ∈ o.after,e.on<i)∧o.guard=none∧(i<m→o.dst=some (SL.getD i 0))∧∀ j ∈ (if i==m then List.range m else dep i),j<m∧∃ e ∈ o.after,e.on=j∧Region.binds .any e=true:=by
 unfold yV0 at h;rw[xC,xC,xC] at h;obtain⟨⟨⟨h1,h2⟩,h3⟩,h4⟩:=h;refine⟨fun e he=>of_decide_eq_true (Array.all_eq_true_iff_forall_mem.1 h1 e he),Option.isNone_iff_eq_none.1 h2,fun hi=>?_,fun j hj=>?_⟩
 ·rw[Bool.or_eq_true] at h3;rcases h3 with h3|h3
  ·rw[beq_iff_eq] at h3;omega
  ·simpa using h3
 ·have:=List.all_eq_true.1 h4 j hj
  rw[xC] at this;exact⟨of_decide_eq_true this.1,qN0 this.2⟩
theorem zX9 {P:Program} {ops:Array Oper} {Q:Exit→Act→World→Prop} {id:Nat} (hm:P.follows .mixedOrders=true) (m:Nat) (SL:List Nat) (dep:Nat→List Nat)
  (W0:World) (a0:Act) (V:Nat→World→Value→Prop) (hchk:zR8 ops m SL dep=true)
  (hV1:∀ j w w' u,Bw w w'→V j w u→V j w' u) (hsl:SL.length=m∧SL.Nodup∧∀ s ∈ SL,s<a0.tmps.size)
  (hA:∀ j,j<m→∀ o,ops[j]?=some o→∀ (a:Act) (w:World),Bw W0 w→(∀ s:Nat,SL.contains s=false→a.tmps[s]?=a0.tmps[s]?) →
   (∀ j' ∈ dep j,∃ u,a.tmps[SL.getD j' 0]?=some u∧V j' w u)→o.wp P a w (fun a' w'=>∃ u,a'=a.put o.dst u∧V j w' u∧Bw w w') Q)
  (hL:∀ o,ops[m]?=some o→∀ (u:Nat→Value) (w:World),Bw W0 w→(∀ j,j<m→V j w (u j)) →
   o.wp P (putL a0 ((List.range m).map (fun j=>(SL.getD j 0,u j)))) w (fun a' w'=>Q .normal a' w') Q) :
  (Code.region id ops true).wp P Q a0 W0:=by
 have hsz:ops.size=m+1:=by
  unfold zR8 at hchk;rw[xC,beq_iff_eq] at hchk;exact hchk.1
 have hmem:∀ j,j<m→SL.getD j 0 ∈ SL:=fun j hj=>by
  have h1:j<SL.length:=by rw[hsl.1];exact hj
  rw[List.getD_eq_getElem?_getD,List.getElem?_eq_getElem h1];exact List.getElem_mem h1
 have hinj:∀ i i',i<m→i'<m→SL.getD i 0=SL.getD i' 0→i=i':=fun i i' h1 h2 h=>by
  have g1:i<SL.length:=by rw[hsl.1];exact h1
  have g2:i'<SL.length:=by rw[hsl.1];exact h2
  rw[List.getD_eq_getElem?_getD,List.getD_eq_getElem?_getD,List.getElem?_eq_getElem g1,List.getElem?_eq_getElem g2] at h;exact(List.getElem_inj hsl.2.1).1 h
 have hoth:∀ {s:Nat},SL.contains s=false→∀ j,j<m→s≠SL.getD j 0:=fun {s} h j hj e=>by
  have h2:=hmem j hj;rw[←e] at h2;have:SL.contains s=true:=by simpa using h2
  rw[h] at this;cases this
 refine qL1 hm m (fun j=>SL.getD j 0) dep W0 a0 V hsz (fun i o ho=>(qV6 (qH8 hchk ho).2).1) hV1 ?_ ?_ ?_ (fun j hj=>hsl.2.2 _ (hmem j hj)) hinj ?_
 ·intro j hj j' hj';obtain⟨o,ho⟩:∃ o,ops[j]?=some o:=⟨ops[j]'(by omega),Array.getElem?_eq_getElem (by omega)⟩
  have h4:=(qV6 (qH8 hchk ho).2).2.2.2 j' (by rw[if_neg (by rw[beq_iff_eq];omega)];exact hj')
  refine⟨h4.1,fun o' ho'=>?_⟩
  obtain rfl:o=o':=xL2 (ho.symm.trans ho');exact h4.2
 ·intro j hj a w hb ho1 hd;obtain⟨o,ho⟩:∃ o,ops[j]?=some o:=⟨ops[j]'(by omega),Array.getElem?_eq_getElem (by omega)⟩
  obtain⟨-,h2,h3,-⟩:=qV6 (qH8 hchk ho).2;refine qY8 ho h2 ?_;have h5:=hA j hj o ho a w hb (fun s hs=>ho1 s (hoth hs)) hd;rw[h3 hj] at h5;exact h5
 ·intro o ho j hj;exact((qV6 (qH8 hchk ho).2).2.2.2 j (by rw[if_pos (by rw[beq_iff_eq])];exact List.mem_range.2 hj)).2
 ·intro u a w hb hu hs hd ho1;obtain⟨o,ho⟩:∃ o,ops[m]?=some o:=⟨ops[m]'(by omega),Array.getElem?_eq_getElem (by omega)⟩
  obtain⟨-,h2,-,-⟩:=qV6 (qH8 hchk ho).2;refine qY8 ho h2 ?_;have q1:((List.range m).map (fun j=>((SL.getD j 0,u j):Tmp×Value))).map (fun p:Tmp×Value=>p.1)=(List.range m).map (fun j=>SL.getD j 0):=by simp[Function.comp_def]
  have ha:=qT0 (a:=a) (a0:=a0) (l:=(List.range m).map (fun j=>((SL.getD j 0,u j):Tmp×Value))) (by
    rw[q1];refine List.pairwise_map.2 ((List.nodup_range (n:=m)).imp_of_mem ?_);intro x y hx hy hne he;exact hne (hinj x y (List.mem_range.1 hx) (List.mem_range.1 hy) he)) hs hd (by
    intro p hp;obtain⟨i,hi,rfl⟩:=List.mem_map.1 hp;exact(hu i (List.mem_range.1 hi)).1) (fun s hsn=>ho1 s (fun i hi he=>hsn (List.mem_map.2 ⟨_,List.mem_map.2 ⟨i,List.mem_range.2 hi,rfl⟩,he.symm⟩)))
  rw[ha];exact hL o ho u w hb (fun j hj=>(hu j hj).2)
theorem qS9 {P:Program} {ops:Array Oper} {Q:Exit→Act→World→Prop} {id:Nat} (hm:P.follows .mixedOrders=true) (m:Nat) (SL:List Nat) (D:List (List Nat))
  (W0:World) (a0:Act) (L:List (World→Value→Prop)) (hchk:zR8 ops m SL (dL D)=true)
  (hV1:qH5 L) (hsl:SL.length=m∧SL.Nodup∧∀ s ∈ SL,s<a0.tmps.size)
  (hA:∀ j,j<m→∀ o,ops[j]?=some o→∀ (a:Act) (w:World),Bw W0 w→(∀ s:Nat,SL.contains s=false→a.tmps[s]?=a0.tmps[s]?) →
   (∀ j' ∈ dL D j,∃ u,a.tmps[SL.getD j' 0]?=some u∧vL L j' w u)→o.wp P a w (fun a' w'=>∃ u,a'=a.put o.dst u∧vL L j w' u∧Bw w w') Q)
  (hL:∀ o,ops[m]?=some o→∀ (u:Nat→Value) (w:World),Bw W0 w→(∀ j,j<m→vL L j w (u j)) →
   o.wp P (putL a0 ((List.range m).map (fun j=>(SL.getD j 0,u j)))) w (fun a' w'=>Q .normal a' w') Q) :
  (Code.region id ops true).wp P Q a0 W0 :=
 zX9 hm m SL (dL D) W0 a0 (vL L) hchk (fun j w w' u hb h=>qM2 hV1 j w w' u hb h) hsl hA hL
end Go.Proofs.YtbanebginnakhaaGreatDoor
namespace Go.Proofs.YtbanebginnakhaaGreatDoor
open Go.RowKit Go.Fl64
theorem zT {a:Nat} (ha:a<18446744073709551616):(FloatKind.f64.format.order a 0 != some Ordering.eq) = !decide (mag a=0):=by
 have h:(FloatKind.f64.format.order a 0==some Ordering.eq)=decide (mag a=0):=by
  rw[yS7 a 0 ha (by decide)]
  have nb:qG2 0=false:=by decide
  unfold Fl64.eq;rw[nb];have e0:stp 0=0:=by decide
  rw[e0];by_cases h:mag a=0
  ·have:stp a=0:=by unfold stp sgn;rw[h];simp
   have na:qG2 a=false:=by unfold qG2;simp;omega
   simp[this,h,na]
  ·have:stp a≠0:=by unfold stp sgn;split <;> omega
   simp[this,h]
 rw[←h];rfl
theorem zC9 (a b:Nat) (ha:a<18446744073709551616) (hb:b<18446744073709551616) (w:World) :
  Calls Tryz.prog 16 #[.float .f64 a,.float .f64 b] w fun e w'=>e=.returned (.float .f64 (sig (neg b) (mag a)))∧w'=w:=by
 have kb:=Ie.run_bits;have kf:=Ie.run_frombits
 go_enter Tryz.func16,Tryz.ntmps16
 go_wp2
 go_ret;refine⟨?_,rfl⟩
 show Ending.returned (.float .f64 (bits .or .u64 (bits .andNot .u64 (a:Int) 9223372036854775808) (bits .and .u64 (b:Int) 9223372036854775808)).toNat)=_
 rw[qN9 a ha,zM b hb];cases neg b with
 | true=>rw[if_pos rfl,zE0 _ (zF3 a)];rfl
 | false=>rw[if_neg (by decide),yA3 _ (zF3 a)];rfl
end Go.Proofs.YtbanebginnakhaaGreatDoor
