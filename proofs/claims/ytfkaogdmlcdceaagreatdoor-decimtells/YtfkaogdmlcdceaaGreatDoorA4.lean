/- Own work: contracts of the program's functions, part 4: W26 W27 W31 W32 W36 W37 PR R1 R2 R3 W38 W39 W40 W34 W28 W29 W35 W41. -/
import Derived.Test.YtfkaogdmlcdceaaGreatDoorA3
import Derived.Deep.CutRange
import Derived.Orders
import Derived.Laws.Tables
import Derived.Test.YtfkaogdmlcdceaaGreatDoorA2
import Derived.Deep.RegionHeld3
import Derived.Laws.AppendOwnNone
import Derived.Lib.SliceRun
import Derived.Laws.IdiomStrings

set_option maxHeartbeats 16000000
set_option maxRecDepth 200000
set_option linter.unusedVariables false
set_option linter.unusedSimpArgs false
namespace Go.Proofs.YtfkaogdmlcdceaaGreatDoor
open Go.RowKit Go.Fl64
attribute [local go_sem] iV Nu
def sgI (neg:Bool) (n:Nat):Int:=if n=0 then 0 else if neg then -1 else 1
theorem c72 (neg:Bool) (ao:Option Addr) (n cap:Nat) (e:Int) (w:World) (J:n≤35184372088832) :
  Ca 156 #[.agg (Nu neg ao n cap e)] w fun r w'=>r=.returned (iV (sgI neg n))∧w'=w.alloc (.cells (Nu neg ao n cap e) 50):=by
 unfold sgI;by_cases u:n=0
 ·subst u
  go_enter Tryz.func156,Tryz.ntmps156
  go_wp2
  go_ret;exact⟨rfl,rfl⟩
 ·have Y:((n:Int)==0)=false:=by simp;omega
  rw[kU5 u];cases neg
  ·go_enter Tryz.func156,Tryz.ntmps156
   go_wp2
   go_ret;exact⟨rfl,rfl⟩
  ·go_enter Tryz.func156,Tryz.ntmps156
   go_wp2
   go_ret;exact⟨rfl,rfl⟩
theorem c75_1 (neg:Bool) (ao:Option Addr) (n cap b:Nat) (e:Int) (w:World) (T:b≤64000000) (F : -4000000≤e) (H:e≤4000000)
  (Y:∀ W,Bw w W→Ca 181 #[.slice ao n cap] W fun r w'=>r=.returned (iV b)∧w'=W) :
  Ca 189 #[.agg (Nu neg ao n cap e)] w (Rq w (iV (b+e))):=by
 obtain⟨W,V⟩:=eE (w.alloc (.cells (Nu neg ao n cap e) 50));have u:Bw w W:=by rw[V];exact bR.alloc lR _
 have J:Hn W w.heap.size neg ao n cap e 50:=by rw[V];exact kB7 _ _
 obtain⟨⟨a0,L,a2⟩,-⟩:=qQ3 J;have k:=fun d=>Y (W.drewN d) (u.trans ⟨rfl,rfl,rfl,kH8 _,fun _ _=>rfl⟩);have D:Hid _:=u;clear Y u J
 go_enter Tryz.func189,Tryz.ntmps189
 go_wp2;rw[←V];clear V
 go_quiet ((go_at_call 181;exact Calls.quiet_of_same (k _)))
 go_wp2
 go_ret;refine⟨kU7 Ending.returned (kU7 (Value.int IntKind.i64) ?_),D.out.trans ⟨rfl,rfl,rfl,kH8 _,fun _ _=>rfl⟩⟩
 first|rfl|omega|(rw[kB5];omega)|(unfold wrap64;omega)
theorem kK6 (neg:Bool) (ao:Option Addr) (n cap F:Nat) (e mode:Int) (w:World)
  (u:∀ W,Bw w W→Ca 183 #[.bool neg,.slice ao n cap,iV e,.bool true,iV mode] W (Rq W (.float .f64 F))) :
  Ca 274 #[.agg (Nu neg ao n cap e),iV mode] w (Rq w (.float .f64 F)):=by
 obtain⟨W,V⟩:=eE (w.alloc (.cells (Nu neg ao n cap e) 50));have Y:Bw w W:=by rw[V];exact bR.alloc lR _
 have k:=u W Y;have H:Hid _:=Y;clear u Y
 go_enter Tryz.func274,Tryz.ntmps274
 go_wp2_with fail;rw[←V];clear V;refine k.mono ?_;rintro r T ⟨rfl,J⟩;have D:Hid _:=H.out.trans (J.mono H.out.size);clear k J
 go_wp2
 go_ret;exact⟨rfl,D.out⟩
theorem c61 (w:World):Ca 53 #[iV 1] w fun r w'=>r=.returned (.float .f64 9218868437227405312)∧w'=w:=by
 have u:=Ie.run_frombits
 go_enter Tryz.func53,Tryz.ntmps53
 go_wp2
 go_ret;exact⟨rfl,rfl⟩
theorem c77_1 (na nb:Bool) (ua H:Option Addr) (un uc Y V:Nat) (ea eb s t:Int) (w:World) (hs:Hid (sgI na un=s)) (ht:Hid (sgI nb Y=t)) (qJ:(s != t)=true) (qY:un≤35184372088832) (qZ:Y≤35184372088832) :
  Calls Tryz.prog 223 #[.agg #[.bool na,.slice ua un uc,.int .i64 ea],.agg #[.bool nb,.slice H Y V,.int .i64 eb]] w fun r w'=>r=.returned (.int .i64 (cmpI s t))∧Bw w w':=by
 obtain⟨W,D⟩:=eE ((w.alloc (.cells #[.bool na,.slice ua un uc,.int .i64 ea] 50)).alloc (.cells #[.bool nb,.slice H Y V,.int .i64 eb] 50));have C:Bw w W:=by rw[D];exact(bR.alloc lR _).alloc (by simp) _
 have qK:W.heap[w.heap.size]?=some (.cells #[.bool na,.slice ua un uc,.int .i64 ea] 50 (0,0)):=by
  rw[D,Below.heap_alloc _ _ _ (by simp)];exact kB7 _ _
 have L:W.heap[w.heap.size+1]?=some (.cells #[.bool nb,.slice H Y V,.int .i64 eb] 50 (0,0)):=by
  have:=kB7 (w.alloc (.cells #[.bool na,.slice ua un uc,.int .i64 ea] 50)) (.cells #[.bool nb,.slice H Y V,.int .i64 eb] 50)
  rw[D];simpa using this
 have qX:W.heap.size=w.heap.size+1+1:=by rw[D];simp
 have HC:Hid (∀ w',Bw W w'→(w'.cell? ⟨w.heap.size+1,0,none⟩=some (.bool nb)∧w'.cell? ⟨w.heap.size+1,1,none⟩=some (.slice H Y V)∧w'.cell? ⟨w.heap.size+1,2,none⟩=some (.int .i64 eb))):=fun w' hb=>(qQ3 (qQ0 L hb ω)).1;have ka:∀ J,Calls Tryz.prog 156 #[.agg #[.bool na,.slice ua un uc,.int .i64 ea]] J fun r w'=>r=.returned (.int .i64 s)∧Bw J w':=fun J =>
  (c72 na ua un uc ea J qY).mono fun r w' ⟨e1,e2⟩=>⟨by rw[e1,hs.out],by rw[e2];exact bR.alloc lR _⟩
 have kb:∀ J,Calls Tryz.prog 156 #[.agg #[.bool nb,.slice H Y V,.int .i64 eb]] J fun r w'=>r=.returned (.int .i64 t)∧Bw J w':=fun J =>
  (c72 nb H Y V eb J qZ).mono fun r w' ⟨e1,e2⟩=>⟨by rw[e1,ht.out],by rw[e2];exact bR.alloc lR _⟩
 have T:=c128 s t;have HB:Hid (Bw w W):=C;generalize cmpI s t=cv at *;clear C qK L qX hs ht
 go_enter Tryz.func223,Tryz.ntmps223
 go_wp2_with fail;rw[←D];clear D;refine(ka W).mono ?_
 rintro r w1 ⟨rfl,F⟩;obtain⟨x1,x2,x3⟩:=HC.out w1 F
 go_wp2_with fail;refine(kb _).mono ?_
 rintro r w2 ⟨rfl,qQ⟩;have u:=qG7 F qQ;obtain⟨y1,y2,y3⟩:=HC.out w2 u;clear x1 x2 x3 F qQ
 go_wp2_with fail;refine(kb _).mono ?_
 rintro r w3 ⟨rfl,I⟩;have HF:Hid (Bw w w3):=HB.out.trans ((qG7 u I).mono HB.out.size);clear y1 y2 y3 u I ka kb
 go_wp2_with fail;refine(T _).mono ?_
 rintro r w4 ⟨rfl,rfl⟩
 go_wp2
 go_ret;exact⟨rfl,HF.out⟩
theorem c30_1 (na nb:Bool) (ua F:Option Addr) (un uc V H:Nat) (ea eb c:Int) (w:World)
  (L:∀ W g,Bw w W→W.heap[g]?=some (.cells #[.bool na,.slice ua un uc,iV ea,.bool nb,.slice F V H,iV eb] 50 (0,0))→Ca 128 #[.slice (some ⟨g,0,none⟩) 2 2] W (Rq W (.bool true)))
  (T:∀ W,Bw w W→Ca 223 #[.agg (Nu na ua un uc ea),.agg (Nu nb F V H eb)] W (Rq W (iV c))) :
  Ca 166 #[.agg (Nu na ua un uc ea),.agg (Nu nb F V H eb)] w (Rq w (iV c)):=by
 obtain⟨W,hW⟩:=eE (((w.alloc (.cells (Nu na ua un uc ea) 50)).alloc (.cells (Nu nb F V H eb) 50)).alloc (.cells #[.bool na,.slice ua un uc,iV ea,.bool nb,.slice F V H,iV eb] 50));obtain⟨hA,I,hC,C,Y⟩:=qK9 _ _ _ hW;have k1:=L W (w.heap.size+1+1) Y hC;have D:Hid ((Hn W w.heap.size na ua un uc ea 50∧Hn W (w.heap.size+1) nb F V H eb 50)∧W.heap.size=w.heap.size+1+1+1∧Bw w W):=⟨⟨hA,I⟩,C,Y⟩;have HK:Hid _:=T;clear hA I hC C Y L T
 go_enter Tryz.func166,Tryz.ntmps166
 go_wp2_with fail;rw[←hW];clear hW;refine k1.mono ?_;rintro r w1 ⟨rfl,u⟩;clear k1;have J:Hid _:=D.out.2.2.trans (u.mono D.out.2.2.size);obtain⟨⟨a0,a1,a2⟩,-⟩:=qQ3 (qQ0 D.out.1.1 u (by have:=D.out.2.1;omega))
 obtain⟨⟨b0,b1,b2⟩,-⟩:=qQ3 (qQ0 D.out.1.2 u (by have:=D.out.2.1;omega))
 clear u
 go_wp2_with fail;refine(HK.out w1 J.out).mono ?_
 rintro r w2 ⟨rfl,qQ⟩;have HF:Hid _:=J.out.trans (qQ.mono J.out.size);clear qQ
 go_wp2
 go_ret;exact⟨rfl,HF.out⟩
end Go.Proofs.YtfkaogdmlcdceaaGreatDoor
namespace Go.Proofs.YtfkaogdmlcdceaaGreatDoor
open Go.RowKit Go.Fl64
attribute [local go_sem] iV Nu
def tfD (x:Nat):Nat:=bl x - 64
def tfM (exact:Bool) (x:Nat):Nat:=if exact && !(decide (tz x<tfD x))then x / 2^tfD x else x / 2^tfD x ||| 1
def tfF (neg exact:Bool) (x:Nat) (e mode:Int):Nat:=Ie.mk neg (tfM exact x) (e+(tfD x:Int)) mode 9221120237041090561
theorem qY3 (x:Nat):bl x≤32*dlen x:=by
 have h:=(qZ3 (dlen x) x).1 lR;refine(qJ4 x _).2 ?_
 rw[Nat.pow_mul];exact h
theorem zU9 (x:Nat):dlen (x / 2^tfD x)≤2:=by
 refine(qZ3 2 _).2 ?_
 have u:x<2^(tfD x+64):=kF6 (qG2 x) (kF4 δ (by unfold tfD;omega))
 have Y:B^2=2^64:=by unfold B;decide
 rw[Y];rw[kN3] at u;exact Nat.div_lt_of_lt_mul u
theorem c110 {neg exact:Bool} {v:Value} {x:Nat} {e mode:Int} {w:World} (T:Tab32 w) (h:Is w v x) (hx:dlen x≤1000000) (Y : -4000000≤e) (u:e≤4000000) :
  Ca 183 #[.bool neg,v,iV e,.bool exact,iV mode] w (Rq w (.float .f64 (tfF neg exact x e mode))):=by
 have J:=zU9 x;have F:=qY3 x;by_cases D:bl x≤64
 ·have H:tfD x=0:=by unfold tfD;omega
  have W:tfF neg exact x e mode=Ie.mk neg (if exact then x else x ||| 1) e mode 9221120237041090561:=by
   unfold tfF tfM;rw[H,kN7,Nat.div_one,kF1 (Nat.not_lt_zero _),Bool.not_false,Bool.and_true];simp
  rw[H,kN7,Nat.div_one] at J;rw[W];exact kK3 neg exact v x (bl x) (dlen x) 0 e mode w h J rfl ω rfl J Y u
 ·have V:x≠0:=by
   intro L;apply D
   rw[L];decide
  exact kK2 neg exact v x (x / 2^tfD x) (tfD x) (tz x) (dlen (x / 2^tfD x)) e mode w T h hx V (show bl x=tfD x+64 by unfold tfD;omega) (by unfold tfD;omega) (by unfold tfD;omega) rfl rfl J rfl (tfM exact x) rfl Y u
theorem c106 {neg:Bool} {v:Value} {x:Nat} {e mode:Int} {w:World} (V:Tab32 w) (h:Is w v x) (hx:dlen x≤1000000) (Y : -4000000≤e) (u:e≤4000000) :
  Ca 274 #[NumV neg v e,iV mode] w (Rq w (.float .f64 (tfF neg true x e mode))):=by
 have H:=h;obtain⟨ua,uc,rfl,-,-,-⟩:=H;exact kK6 neg ua _ uc _ e mode w fun W J=>c110 (V.later J) (h.later J) hx Y u
end Go.Proofs.YtfkaogdmlcdceaaGreatDoor
namespace Go.Proofs.YtfkaogdmlcdceaaGreatDoor
open Go.RowKit
attribute [local go_sem] iV Nu
theorem zQ0 {na : Bool} {ua : Option Addr} {uc x g : Nat} {ea : Int} {W : World} (hg : W.heap[g]? = some (.cells #[.bool na, .slice ua (dlen x) uc, iV ea] 50 (0, 0)))
    (h1 : Is W (.slice ua (dlen x) uc) x) (hx : dlen x ≤ 35184372088832) :
    Ca 128 #[.slice (some ⟨g, 0, none⟩) 1 1] W fun r w' => r = .returned (.bool (okN na (dlen x) x ea)) ∧ Bw W w' := by
  obtain ⟨ao1, c1, e1, -, -, a1⟩ := h1
  simp only [Value.slice.injEq] at e1
  obtain ⟨rfl, -, rfl⟩ := e1
  have k := c67 g 1 (fun _ => na) (fun _ => ua) (fun _ => dlen x) (fun _ => uc) (fun _ => x) (fun _ => ea) W ω
    (fun i hi => by obtain rfl : i = 0 := by omega
                    simp [World.cell?, hg])
    (fun i hi => by obtain rfl : i = 0 := by omega
                    simp [World.cell?, hg])
    (fun i hi => by obtain rfl : i = 0 := by omega
                    simp [World.cell?, hg])
    (fun i hi => a1) (fun i hi => hx)
  refine k.mono ?_
  rintro r w' ⟨rfl, hb⟩
  refine ⟨kU7 Ending.returned (kU7 Value.bool ?_), hb⟩
  rw [Bool.eq_iff_iff]
  simp only [decide_eq_true_eq]
  exact ⟨fun h => h 0 ω, fun h i hi => h⟩
theorem c45_1 (na nb sg:Bool) (ua C:Option Addr) (un uc T L x y:Nat) (ea eb:Int) (w:World) (hT:Tab32 w) (h1:Is w (.slice ua un uc) x) (h2:Is w (.slice C T L) y) (hx:dlen x≤400000) (hy:dlen y≤400000) (qL : -4000000≤ea) (qT:ea≤4000000) (qR : -4000000≤eb) (qS:eb≤4000000) (qF:(!(na==nb))=sg) :
  Ca 221 #[.agg (Nu na ua un uc ea),.agg (Nu nb C T L eb)] w fun r w'=>∃ a,r=.returned a∧Nrm w' w.heap.size a sg (x*y) (ea+eb)∧Bw w w':=by
 obtain⟨W,hW⟩:=eE (((w.alloc (.cells (Nu na ua un uc ea) 50)).alloc (.cells (Nu nb C T L eb) 50)).alloc (.cells (Nu false none 0 0 0) 50));obtain⟨hA,V,hC,qY,u⟩:=qK9 _ _ _ hW;have qH:dlen (x*y)≤1000000:=by
  have l1:=(qZ3 (dlen x) x).1 lR;have l2:=(qZ3 (dlen y) y).1 lR;have:dlen (x*y)≤dlen x+dlen y:=(qZ3 _ _).2 (by
   rw[kN3];rcases Nat.eq_zero_or_pos x with h|h
   ·rw[h,Nat.zero_mul];exact Nat.mul_pos (qZ2 _) (qZ2 _)
   ·exact Nat.mul_lt_mul_of_lt_of_le l1 (kM8 l2) (qZ2 _))
  omega
 have HH:Hid _:=aI3 hC qY u;have qQ:∀ w4,Bw W w4→Ca 258 #[.slice ua un uc,.slice C T L] w4 fun r w'=>∃ v,r=.returned v∧Own w' W.heap.size v (x*y)∧Bw W w':=fun w4 Y =>
  (c143 ((h1.later u).later Y) ((h2.later u).later Y) ω ω).mono fun r w' ⟨v,e1,o1,o2⟩=>⟨v,e1,o1.mono Y.size,Y.trans (o2.mono Y.size)⟩
 have qJ:=hT.later u;have qZ:∀ v5 D,Own D W.heap.size v5 (x*y)→Bw W D→Ca 153 #[.bool sg,v5,iV (ea+eb)] D fun r w'=>∃ s ao n cap ex,r=.returned (.agg (Nu s ao n cap ex)) ∧
   Hid (Nrm w' D.heap.size (.agg (Nu s ao n cap ex)) sg (x*y) (ea+eb)∧W.heap.size≤D.heap.size)∧Bw W w'∧Hid (Hn w' (w.heap.size+1+1) false none 0 0 0 50) ∧
   (C3 w' (w.heap.size+1+1) false none 0 0 0)∧(w'.frozen? ⟨w.heap.size+1+1,0,none⟩=false∧w'.frozen? ⟨w.heap.size+1+1,1,none⟩=false∧w'.frozen? ⟨w.heap.size+1+1,2,none⟩=false):=by
  intro v5 D ho Y;refine(c56 ho.is ω (qJ.later Y) ω).mono ?_
  rintro r w6 ⟨a,rfl,hN,J⟩;obtain⟨s,ao,n,cap,ex,rfl⟩:=hN.shape;have F:=Y.trans (J.mono Y.size);have H:=qQ0 HH.out.1 F (by have:=HH.out.2.1;omega)
  obtain⟨f1,f2⟩:=qQ3 H;exact⟨s,ao,n,cap,ex,rfl,⟨hN,Y.size⟩,F,H,f1,f2⟩
 obtain⟨⟨a0,a1,a2⟩,-⟩:=qQ3 hA;obtain⟨⟨b0,b1,b2⟩,-⟩:=qQ3 V;have HK:Hid (∀ w',Bw W w'→((C3 w' w.heap.size na ua un uc ea)∧(C3 w' (w.heap.size+1) nb C T L eb))):=fun w' Y=>⟨(qQ3 (qQ0 hA Y ω)).1,(qQ3 (qQ0 V Y ω)).1⟩;have qG:Hid (∀ w',Below (w.heap.size+1+1) W w'→((C3 w' w.heap.size na ua un uc ea)∧(C3 w' (w.heap.size+1) nb C T L eb))):=fun w' Y=>⟨(qQ3 (qQ0 hA Y ω)).1,(qQ3 (qQ0 V Y ω)).1⟩;have qP:Hid (w.heap.size+1+1≤W.heap.size):=(by omega:w.heap.size+1+1≤W.heap.size)
 have qB:Bw W W.drew:=bR.drew;have wz:IntKind.i64.wrap (ea+eb)=ea+eb:=by rw[kB5];omega
 clear hA V hC qY u h1 h2 hx hy hT qJ qH
 go_enter Tryz.func221,Tryz.ntmps221
 go_upto_region 1 with fail;rw[←hW];clear hW
 go_region_held3 (fun w'=>((C3 w' w.heap.size na ua un uc ea)∧(C3 w' (w.heap.size+1) nb C T L eb))) (first|(with_reducible assumption)|exact⟨⟨a0,a1,a2⟩,b0,b1,b2⟩|(refine HK.out _ ?_;with_reducible assumption)|(refine qG.out _ (qQ4 (Below.mono J qP.out) lR _ _ _))|go_keep)
  (first|(go_at_call 258;refine(qQ _ (by first|(with_reducible assumption)|exact qB)).mono ?_;rintro r D ⟨v5,rfl,qX,qK⟩)|(go_at_call 153;(try simp only[qF,wz]);refine(qZ _ _ qX qK).mono ?_;rintro r w6 ⟨s6,qM,n6,qU,qN,rfl,qV,J,I,⟨x1,x2,x3⟩,x4,x5,x6⟩))
 have HF:Hid _:=J;clear qX qK J qZ qQ x1 x2 x3 x4 x5 x6 a0 a1 a2 b0 b1 b2 HK qG
 go_wp2;refine kB8 (kM2 rfl _ _ (w.heap.size+1+1) 50 (Nu s6 qM n6 qU qN) (0,0) _ rfl (qX8 _ _ _ I.out) Tryz.underlying50 rfl Tryz.info50) rfl ?_;obtain⟨-,hs,u⟩:=HH.out;have qD:=qV.out.2;exact⟨_,rfl,(qV.out.1.store ω _ _ _).mono ω,qQ4 (u.trans (HF.out.mono u.size)) ω _ _ _⟩
theorem c20_1 (na nb:Bool) (ua D:Option Addr) (un uc H F x y z:Nat) (ea eb e:Int) (s:Bool) (w:World) (hz:dlen z≤35184372088832)
  (qX:∀ W g,Bw w W→W.heap[g]?=some (.cells #[.bool na,.slice ua un uc,iV ea,.bool nb,.slice D H F,iV eb] 50 (0,0))→Ca 128 #[.slice (some ⟨g,0,none⟩) 2 2] W (Rq W (.bool true)))
  (qY:∀ W,Bw w W→Ca 221 #[.agg (Nu na ua un uc ea),.agg (Nu nb D H F eb)] W fun r w'=>∃ a,r=.returned a∧Nrm w' W.heap.size a s z e∧Bw W w') :
  Ca 162 #[NumV na (.slice ua un uc) ea,NumV nb (.slice D H F) eb] w fun r w'=>Held w s z e r w':=by
 obtain⟨W,hW⟩:=eE (((w.alloc (.cells (Nu na ua un uc ea) 50)).alloc (.cells (Nu nb D H F eb) 50)).alloc (.cells (Nu false none 0 0 0) 50));obtain⟨hA,qK,hC,T,u⟩:=qK9 _ _ _ hW;have qJ:Below w.heap.size w (W.alloc (.cells #[.bool na,.slice ua un uc,iV ea,.bool nb,.slice D H F,iV eb] 50)):=u.alloc u.size _;have k1:=qX (W.alloc (.cells #[.bool na,.slice ua un uc,iV ea,.bool nb,.slice D H F,iV eb] 50)) (w.heap.size+1+1+1) qJ (by rw[←T];exact kB7 _ _)
 have J:Hid ((Hn W w.heap.size na ua un uc ea 50∧Hn W (w.heap.size+1) nb D H F eb 50∧Hn W (w.heap.size+1+1) false none 0 0 0 50)∧W.heap.size=w.heap.size+1+1+1∧Bw w W∧Below W.heap.size W (W.alloc (.cells #[.bool na,.slice ua un uc,iV ea,.bool nb,.slice D H F,iV eb] 50))):=⟨⟨hA,qK,hC⟩,T,u,bR.alloc lR _⟩;have HZ:Hid _:=hz;have qG:Hid _:=qY;unfold NumV;clear hA qK hC T u qJ qX qY hz
 go_enter Tryz.func162,Tryz.ntmps162
 go_wp2_with fail;rw[←hW];clear hW;refine k1.mono ?_;rintro r w1 ⟨rfl,qU⟩;clear k1;have Y:=J.out.2.2.2.trans (qU.mono J.out.2.2.2.size);obtain⟨⟨a0,a1,a2⟩,-⟩:=qQ3 (qQ0 J.out.1.1 Y (by have:=J.out.2.1;omega))
 obtain⟨⟨b0,b1,b2⟩,-⟩:=qQ3 (qQ0 J.out.1.2.1 Y (by have:=J.out.2.1;omega))
 have V:Hid _:=Y;clear qU Y
 go_wp2_with fail;refine(qG.out w1 (J.out.2.2.1.trans (V.out.mono J.out.2.2.1.size))).mono ?_
 rintro r w2 ⟨A,rfl,hN,qV⟩;have qH:Hid _:=V.out.trans (qV.mono V.out.size);have HN:Hid _:=hN.mono V.out.size;clear hN qV a0 a1 a2 b0 b1 b2
 go_wp2_with fail;refine(c63n HN.out HZ.out).mono ?_
 rintro r w3 ⟨rfl,C⟩;have qZ:Hid _:=qH.out.trans (C.mono qH.out.size);have I:Hid (Nrm w3 W.heap.size A s z e):=by
  rcases HN.out with h|⟨h0,v,h1,ho⟩
  ·exact .inl h
  ·exact .inr ⟨h0,v,h1,ho.later C⟩
 have qQ:Hid (Hn w3 (w.heap.size+1+1) false none 0 0 0 50):=qQ0 J.out.1.2.2 qZ.out (by have:=J.out.2.1;omega)
 obtain⟨⟨x1,x2,x3⟩,x4,x5,x6⟩:=qQ3 qQ.out;obtain⟨s',ao,n,cap,ex,L⟩:=I.out.shape;have qB:Hid _:=L;clear C;cases hok:okR s z e
 ·clear L;have qF:Nil=.agg (Nu false none 0 0 0):=rfl
  go_wp2;refine kB8 (qQ6 rfl _ _ (w.heap.size+1+1) 50 (Nu false none 0 0 0) (0,0) _ rfl (qX8 _ _ _ qQ.out) Tryz.underlying50 rfl Tryz.info50) rfl ?_;obtain⟨-,hs,u,-⟩:=J.out;exact⟨A,by rw[hok];rfl,(I.out.store ω _ _ _).mono ω,qQ4 (u.trans (qZ.out.mono u.size)) ω _ _ _⟩
 ·subst L
  go_wp2;refine kB8 (qQ6 rfl _ _ (w.heap.size+1+1) 50 (Nu s' ao n cap ex) (0,0) _ rfl (qX8 _ _ _ qQ.out) Tryz.underlying50 rfl Tryz.info50) rfl ?_;obtain⟨-,hs,u,-⟩:=J.out;exact⟨_,by rw[hok];rfl,(I.out.store ω _ _ _).mono ω,qQ4 (u.trans (qZ.out.mono u.size)) ω _ _ _⟩
theorem xE7 {na nb:Bool} {ua H:Option Addr} {uc V x y:Nat} {ea eb:Int} {w:World} (L:Is w (.slice ua (dlen x) uc) x) (T:Is w (.slice H (dlen y) V) y) (hx:dlen x≤400000) (hy:dlen y≤400000) (D : -4000000≤ea∧ea≤4000000) (F : -4000000≤eb∧eb≤4000000)
  (J:okN na (dlen x) x ea=true) (Y:okN nb (dlen y) y eb=true) (hT:Tab32 w) :
  Ca 162 #[.agg (Nu na ua (dlen x) uc ea),.agg (Nu nb H (dlen y) V eb)] w fun r w'=>Held w (!(na==nb)) (x*y) (ea+eb) r w':=by
 have qQ:dlen (x*y)≤1000000:=by
  have I:=(qZ3 (dlen x) x).1 lR;have C:=(qZ3 (dlen y) y).1 lR;have:dlen (x*y)≤dlen x+dlen y:=(qZ3 _ _).2 (by
   rw[kN3];rcases Nat.eq_zero_or_pos x with h|h
   ·rw[h,Nat.zero_mul];exact Nat.mul_pos (qZ2 _) (qZ2 _)
   ·exact Nat.mul_lt_mul_of_lt_of_le I (kM8 C) (qZ2 _))
  omega
 exact c20_1 na nb ua H _ uc _ V x y (x*y) ea eb (ea+eb) (!(na==nb)) w ω (fun W g u hg=>by
  have:=qO9 hg (L.later u) (T.later u) ω ω
  rw[J,Y] at this;exact this) (fun W u=>c45_1 na nb _ ua H _ uc _ V x y ea eb W (hT.later u) (L.later u) (T.later u) hx hy D.1 D.2 F.1 F.2 rfl)
theorem c22_s (na:Bool) (ua:Option Addr) (un uc:Nat) (ea sv:Int) (w:World)
  (V:∀ W g,Bw w W→Hn W g na ua un uc ea 50→Ca 128 #[.slice (some ⟨g,0,none⟩) 1 1] W (Rq W (.bool true)))
  (J:∀ W,Ca 156 #[.agg (Nu na ua un uc ea)] W (Rq W (iV sv))) :
  Ca 89 #[.agg (Nu na ua un uc ea)] w (Rq w (iV sv)):=by
 obtain⟨W,T⟩:=eE (w.alloc (.cells (Nu na ua un uc ea) 50));have u:Bw w W:=by rw[T];exact bR.alloc lR _
 have Y:W.heap.size=w.heap.size+1:=by rw[T];simp
 have H:Hn W w.heap.size na ua un uc ea 50:=by rw[T];exact kB7 _ _
 have k1:=V (W.alloc (.cells (Nu na ua un uc ea) 50)) (w.heap.size+1) (u.alloc u.size _) (by rw[←Y];exact kB7 _ _)
 have I:Hid _:=aI3 u Y H;clear u Y H V
 go_enter Tryz.func89,Tryz.ntmps89
 go_wp2_with fail;rw[←T];clear T;refine k1.mono ?_;rintro r w1 ⟨rfl,D⟩;have C:Hid (Bw W w1):=((kH9 W.heap.size W).alloc lR _).trans (D.mono (by simp))
 clear k1 D;obtain⟨⟨x0,x1,x2⟩,-⟩:=qQ3 (qQ0 I.out.2.2 C.out (by have:=I.out.2.1;omega))
 have L:Hid _:=I.out.1.trans (C.out.mono I.out.1.size);have k3:=J w1;clear J
 go_wp2_with fail;refine k3.mono ?_;rintro r w3 ⟨rfl,F⟩;have qQ:Hid _:=L.out.trans (F.mono L.out.size);clear k3 F x0 x1 x2
 go_wp2_with fail
 go_ret;exact⟨rfl,qQ.out⟩
theorem xX5 {na:Bool} {ua:Option Addr} {uc x:Nat} {ea:Int} {w:World} (V:Is w (.slice ua (dlen x) uc) x) (hx:dlen x≤35184372088832) (u:okN na (dlen x) x ea=true) :
  Ca 89 #[.agg (Nu na ua (dlen x) uc ea)] w fun r w'=>r=.returned (iV (sgI na (dlen x)))∧Bw w w' :=
 c22_s na ua _ uc ea _ w (fun W g J Y=>by
  have:=zQ0 Y (V.later J) hx
  rw[u] at this;exact this) (fun W=>(c72 na ua _ uc ea W hx).mono fun r w' ⟨H,e2⟩=>⟨H,by rw[e2];exact bR.alloc lR _⟩)
theorem qC7 {P:Program} {Y:Array Oper} {Q:Exit→Act→World→Prop} {F:Region.Mode} (I:Array Bool→Act→World→Prop)
  (hs:∀ u a w i,u.size=Y.size→I u a w→i ∈ Region.ready F Y u→wpOp P Y Q i (fun C w'=>I (u.setIfInBounds i true) C w') a w)
  (he:∀ u a w,u.size=Y.size→I u a w→Region.ready F Y u = []→Q .normal a w) :
  ∀ (J:Nat) (u:Array Bool) (a:Act) (w:World),u.size=Y.size→I u a w→u.toList.count false≤J→wpAny P F Y Q J u a w:=by
 have V:∀ (u:Array Bool) i,u.getD i true=false→i<u.toList.length∧u.toList[i]?=some false:=by
  intro u i h;by_cases H:i<u.size
  ·refine⟨by simpa using H,?_⟩
   simp only[Array.getD_eq_getD_getElem?,Array.getElem?_eq_getElem H,Option.getD_some] at h;simp[Array.getElem?_toList,Array.getElem?_eq_getElem H,h]
  ·simp[Array.getD_eq_getD_getElem?,Array.getElem?_eq_none (Nat.le_of_not_lt H)] at h
 intro J;induction J with
 | zero =>
  intro u a w H T hc;have h0:Region.ready F Y u = []:=by
   cases hr:Region.ready F Y u with
   | nil=>rfl
   | cons x xs =>
    have hx:=(mem_ready.1 (show x ∈ Region.ready F Y u by rw[hr];exact List.mem_cons_self ..)).1
    have L:=(V u x hx).2;have D:=List.mem_of_getElem? L;have:=List.count_pos_iff.2 D
    omega
  exact⟨h0,he u a w H T h0⟩
 | succ J ih =>
  intro u a w H T hc;refine⟨fun h=>he u a w H T h,fun i hi=>?_⟩
  refine wpOp_mono (fun C w' W=>ih _ C w' (by simpa using H) W ?_) (hs u a w i H T hi)
  obtain⟨L,D⟩:=V u i (mem_ready.1 hi).1;have h3:u.toList[i]=false:=by
   have:=List.getElem?_eq_getElem L
   rw[this] at D;exact kF0 D
  have h4:=List.count_set (l:=u.toList) (i:=i) (a:=true) (b:=false) L;have h5:=List.count_pos_iff.2 (List.mem_of_getElem? D);rw[Array.toList_setIfInBounds,h4,h3];have e1:(if(false==false)=true then 1 else 0)=1:=rfl;have e2:(if(true==false)=true then 1 else 0)=0:=rfl;rw[e1,e2];omega
theorem qL1 {u:Array Bool} {i:Nat} (h:u.getD i true=false):u.getD i false=false:=by
 by_cases Y:i<u.size
 ·simp only[Array.getD_eq_getD_getElem?,Array.getElem?_eq_getElem Y,Option.getD_some] at h ⊢;exact h
 ·simp[Array.getD_eq_getD_getElem?,Array.getElem?_eq_none (Nat.le_of_not_lt Y)]
theorem qL2 {u:Array Bool} {i:Nat} (h:i<u.size):(u.setIfInBounds i true).getD i false=true:=by
 simp[Array.getD_eq_getD_getElem?,h]
theorem qX7 {a:Act} {d s:Tmp} {v:Value} (h:s≠d):(a.put (some d) v).tmps[s]?=a.tmps[s]?:=by
 simp[Act.put,Array.getElem?_setIfInBounds,Ne.symm h]
theorem qP9 {a:Act} {d:Tmp} {v:Value} (h:d<a.tmps.size):(a.put (some d) v).tmps[d]?=some v:=by
 simp[Act.put,Array.getElem?_setIfInBounds,h]
theorem qR0 {a:Act} {d:Option Tmp} {v:Value}:(a.put d v).tmps.size=a.tmps.size:=by
 cases d <;> simp[Act.put]
theorem qF8 {a:Act} {d:Option Tmp} {v:Value}:(a.put d v).defers=a.defers:=by
 cases d <;> simp[Act.put]
theorem qZ1 {a:Act} {s:Tmp} {v:Value} (h:a.tmps[s]?=some v):a.eval (.tmp s)=v:=by
 simp[Act.eval,Array.getD_eq_getD_getElem?,h]
theorem qV5 {P:Program} {u:Array Oper} {Q:Exit→Act→World→Prop} {i:Nat} {o:Oper} {K:Act→World→Prop} {a:Act} {w:World}
  (hi:u[i]?=some o) (Y:o.guard=none) (h:o.wp P a w K Q):wpOp P u Q i K a w:=by
 unfold wpOp;simp only[hi];rw[kU6 (by simp[Region.wanted,Y])]
 exact .inl h
theorem yQ0 {P:Program} {u:Array Oper} {Q:Exit→Act→World→Prop} {i:Nat} {o:Oper} {K:Act→World→Prop} {a:Act} {w:World}
  (hi:u[i]?=some o) (F:o.guard=none) {f:FuncId} {args:Array Operand} {J:Array TypeId} (Y:o.op=.call { callee:=.value (.func f),args:=args,argTypes:=J }) {vs:Array Value}
  (D:∀ vs w,(callFunc f vs).run P w=.ok (.enter f vs) w) (V:args.map a.eval=vs) (h:Calls P f vs w fun r w'=>∃ v,r=.returned v∧K (a.put o.dst v) w'):wpOp P u Q i K a w:=by
 refine qV5 hi F ?_;unfold Oper.wp;have e:(execOp a.eval o).run P w=.ok (.enter f vs) w:=by
  simp[execOp,Y,resolve,Deferred.ofValue,Act.eval,invoke,V,D]
 rw[e,Oper.upon_enter];refine h.mono ?_;rintro r w' ⟨v,rfl,H⟩;exact H
theorem qZ4 {P : Program} {f : FuncId} {Y : Func} (V : P.funcs[f]? = some Y) (u : (Y.name == "runtime.NumGoroutine") = false) (J : Y.body.isNone = false) (vs : Array Value) (w : World) :
  (callFunc f vs).run P w=.ok (.enter f vs) w:=by
 have F : ¬ Y.name = "runtime.NumGoroutine" := by simpa using u
 have H:¬ Y.body=none:=by intro e;rw[e] at J;simp at J
 simp[callFunc,V,F,H]
theorem zL9 {P:Program} {u:Array Oper} {Q:Exit→Act→World→Prop} {i:Nat} {o:Oper} {K:Act→World→Prop} {a:Act} {w:World}
  (hi:u[i]?=some o) (F:o.guard=none) {Y:TypeId} (J:o.op=.alloc Y) {V:Array Value} (H:∀ w,(zeroValue Y).run P w=.ok (.agg V) w)
  (h:K (a.put o.dst (.pointer (some ⟨w.heap.size,0,none⟩))) (w.alloc (.cells V Y))):wpOp P u Q i K a w:=by
 refine qV5 hi F ?_;unfold Oper.wp;simp[execOp,J,Instr.alloc,H,newVar,newRow,newObj,Value.cells,Result.andThen,Oper.upon];exact h
theorem qL0 {P:Program} {J:Array Oper} {Q:Exit→Act→World→Prop} {i:Nat} {o:Oper} {K:Act→World→Prop} {a:Act} {w:World}
  (hi:J[i]?=some o) (L:o.guard=none) {Y:TypeId} {s v:Tmp} (V:o.op=.store Y (.tmp s) (.tmp v)) {g:Nat} {u cs:Array Value}
  (F:a.tmps[s]?=some (.pointer (some ⟨g,0,none⟩))) (H:a.tmps[v]?=some (.agg cs)) (W:w.heap[g]?=some (.cells u Y (0,0))) (T:(P.info? Y).map (·.size)=some cs.size) (D:u.size=cs.size) (C:cs.all (·.oneCell')=true)
  (h:K (a.put o.dst undef) (w.setRow g cs)):wpOp P J Q i K a w:=by
 refine qV5 hi L ?_;unfold Oper.wp;simp[execOp,V,qZ1 F,qZ1 H,Instr.storeAt,Instr.sureAddr,run_storeVar_row w g Y Y u cs W T D C,Result.andThen,Oper.upon,h]
theorem one3 {a b:Value} {ao:Option Addr} {n cap:Nat} (J:a.oneCell'=true) (Y:b.oneCell'=true):(#[a,.slice ao n cap,b]:Array Value).all (·.oneCell')=true:=by
 have u:(Value.slice ao n cap).oneCell'=true:=rfl;simp only[List.all_toArray,List.all_cons,List.all_nil,J,Y,u,Bool.and_self]
theorem qN8 {B:Nat} {w w':World} (h:Below B w w') {g:Nat} (Y:B≤g) (cs:Array Value):Below B w (w'.setRow g cs) :=
 ⟨h.os,h.tape,h.output,by simpa using h.size,fun j u=>(setRow_other w' g j cs ω).trans (h.block j u)⟩
theorem r40 (ao:Option Addr) (n cap x:Nat) (w:World) (hx:dlen x≤n) (C:n≤cap) (hc:n≤70368744177664) (h:At w ao n x) :
  Ca 168 #[.slice ao n cap] w fun e w'=>e=.returned (.slice ao (dlen x) cap)∧w'=w:=by
 obtain⟨b,o,L,u⟩:=h
 go_enter Tryz.func168,Tryz.ntmps168
 go_wp2
 go_loop [3] (fun v=>∃ k:Nat,k≤n∧v=iV (k:Int)∧dlen x≤k) (fun v=>(intOf v).toNat)
 case atStart=>exact⟨n,kH8 _,rfl,hx⟩
 case round =>
  obtain⟨k,I,rfl,J⟩:=hrel;by_cases W:k=0
  ·subst W;have e:dlen x=0:=ω;clear J hx
   go_wp2
   go_ret;exact⟨rfl,rfl⟩
  ·obtain⟨j,rfl⟩:∃ j,k=j+1:=⟨k - 1,ω⟩;have T:j<n:=ω;obtain rfl:=L ω;have g:=u j T;have F:Hid _:=J;clear J u hx;generalize V:dg x j=q at g;have H:Hid _:=V;clear V;by_cases Y:q=0
   ·subst Y
    go_wp2;exact⟨⟨j,ω,by simp,zU8 F.out ω H.out⟩,by simp[intOf]⟩
   ·have D:((q:Int)==0)=false:=by simp;exact Y
    go_wp2
    go_ret;rw[zU7 F.out (.inr (by rw[kM5,H.out];exact Y))]
    exact⟨rfl,rfl⟩
theorem qL8 (x n:Nat):cells x (n+1)=cells x n ++ [.int .u32 (dg x n:Nat)]:=by
 simp[cells,List.range_succ]
theorem qV4 {w:World} {u:Nat} {v:Value} {y n:Nat} (h:w.ownsRow u 96 1 v n (cells y n)) :
  ∃ ao cap,v=.slice ao n cap∧n≤cap∧At w ao n y:=by
 rcases h.2 with ⟨Y,D⟩|⟨g,cap,c,Y,T,V,F,W,L,H⟩
 ·exact⟨none,0,by rw[Y,D],ω,0,0,fun h=>by omega,fun i hi=>by omega⟩
 ·refine⟨_,cap,Y,F,g,0,fun _=>rfl,fun i hi=>?_⟩
  have J:(cells y n)[i]?=c[i]?:=by
   rw[←H,kM1,List.getElem?_take,kU6 hi,Array.getElem?_toList]
  rw[qJ8 hi] at J;rw[kH6];simp[World.cell?,V,←J]
theorem qF0 {w:World} {ao:Option Addr} {n m y:Nat} (h:At w ao n y) (J:m≤n):At w ao m y:=by
 obtain⟨b,o,Y,u⟩:=h;exact⟨b,o,fun h=>Y ω,fun i hi=>u i ω⟩
theorem qS9 {x k u j m:Nat} {w wr w':World} {q:Int} {v H:Value} (F:q=(dg (x / 2^k) j:Nat)) (W:j<m) (V:Bw w wr) (D:wr.ownsRow w.heap.size 96 1 v j (cells (x / 2^k) j))
  (J:w'.ownsRow w.heap.size 96 1 H (j+1) (cells (x / 2^k) j ++ [.int .u32 q])) (L:(wr.alloc (.cells #[.int .u32 q] 96)).grownBy w' v.ownBlock) :
  (∃ Y:Nat,Y≤m∧iV ((u:Int)+j+1)=iV ((u:Int)+Y)∧w'.ownsRow w.heap.size 96 1 H Y (cells (x / 2^k) Y)∧Bw w w') ∧
  m - (intOf (iV ((u:Int)+j+1)) - u).toNat<m - (intOf (iV ((u:Int)+j)) - u).toNat:=by
 refine⟨⟨j+1,ω,by simp[Int.add_assoc],by rw[qL8,←F];exact J,?_⟩,by simp[intOf];omega⟩
 exact(V.alloc V.size _).grown L (by simp;have:=V.size;omega) (fun k T=>(D.lt k T).1)
theorem r64_1 (b o cap m Y V x k:Nat) (w:World) (qD:0<m) (hm:m≤17592186044416) (hk:k≤1099511627776) (qN:Y+m≤cap) (qQ:k / 32=Y) (qZ:k % 32=V)
  (hn:dlen x=Y+m) (J:∀ i,i<Y+m→w.cell? ⟨b,o+i,none⟩=some (.int .u32 (dg x i:Nat))) :
  Calls Tryz.prog 112 #[.slice (some ⟨b,o,none⟩) (Y+m:Nat) cap,.int .i64 k] w fun e w'=>∃ ao H bb,e=.returned (.tuple #[.slice ao (dlen (x / 2^k)) H,.bool bb])∧At w' ao (dlen (x / 2^k)) (x / 2^k)∧dlen (x / 2^k)≤H∧Bw w w':=by
 have hq:(k:Int).tdiv 32=((k / 32:Nat):Int):=by rw[kG6 ω];rfl
 have hr:(k:Int).tmod 32=((k % 32:Nat):Int):=by rw[Int.tmod_eq_emod_of_nonneg ω];rfl
 have qM:Y≤1099511627776:=ω;have qP:V<32:=ω;rw[qQ] at hq;rw[qZ] at hr;have HN:Hid (dlen x=Y+m):=hn;have HW:Hid (k / 32=Y):=qQ;have HP:Hid (k % 32=V):=qZ;clear hn qQ qZ;have qV:(Y:Int)<((Y+m:Nat):Int):=ω
 go_enter Tryz.func112,Tryz.ntmps112
 go_wp2
 go_loop [6,7] (fun a v=>∃ (bb:Bool) (i:Nat),a=.bool bb∧v=.int .i64 (i:Int)∧i≤Y) (fun _ v=>Y - (intOf v).toNat)
 case atStart=>exact⟨true,0,rfl,rfl,kB4 _⟩
 case round =>
  obtain⟨bb,i,rfl,rfl,hi⟩:=hrel;by_cases qG:i<Y
  ·have g1:=J i ω;generalize dg x i=d at *;have qT:(i:Int)<(Y:Int):=ω;clear J;cases bb
   ·go_wp2;exact⟨⟨_,i+1,rfl,by simp,ω⟩,by simp[intOf];omega⟩
   ·go_wp2;exact⟨⟨_,i+1,rfl,by simp,ω⟩,by simp[intOf];omega⟩
  ·obtain rfl:i=Y:=ω;clear qG hi;have HC:Hid (∀ L:Nat,L<i+m→w.cell? { block:=b,off:=o+L }=some (Value.int IntKind.u32 ↑(dg x L))):=J
   go_wp2_with fail;all_goals
    clear hq qV hr J
    go_loopw [9,10] (fun v c wr=>∃ j:Nat,j≤m∧c=.int .i64 ((i:Int)+j)∧wr.ownsRow w.heap.size 96 1 v j (cells (x / 2^k) j)∧Bw w wr) (fun _ c _=>m - (intOf c - i).toNat)
    case atStart=>exact⟨0,kB4 _,by simp,World.ownsRow_nil ..,kH9 _ _⟩
    case round =>
     obtain⟨j,hj,rfl,ho,T⟩:=hrel;have HO:Hid (wr.ownsRow w.heap.size 96 1 u9 j (cells (x / 2^k) j)):=ho;have HB:Hid (Bw w wr):=T;have qL:w.heap.size≤wr.heap.size:=T.size;by_cases qS:j+1<m
     ·have g1:=(T.cell (World.block_lt_of_cell? _ _ (HC.out (i+j) ω))).trans (HC.out (i+j) ω);have g4:=(T.cell (World.block_lt_of_cell? _ _ (HC.out (i+j+1) ω))).trans (HC.out (i+j+1) ω);have qU:(j:Int)+1<(m:Int):=ω;generalize hd:dg x (i+j)=d at *;generalize qX:dg x (i+j+1)=d1 at *;have HD:Hid (dg x (i+j)=d):=hd;have qF:Hid (dg x (i+(j+1))=d1):=qX;have HL:Hid (d<B∧d1<B):=⟨hd ▸ qX1 _ _,qX ▸ qX1 _ _⟩;clear hd qX T;obtain⟨i0,qY,I,C,W⟩:=info_parts Tryz.info96
      go_wp2_with (at_builtin;refine wpList_append_own _ rfl _ _ 48 rfl w.heap.size 96 i0 (.int .u32 0) 1 4 Tryz.underlying48 qY I C W rfl δ _ _ _ rfl (ho.alloc _) ⟨wr.heap.size,0,none⟩ 1 1 [.int .u32 (bits BinOp.or IntKind.u64 (IntKind.u64.wrap (d:Int)) (IntKind.u64.wrap (IntKind.u64.wrap (d1:Int)*4294967296)) / 2^V % 4294967296)] rfl rfl (cell_one_new _ _ _) (by intro u hu;simp at hu;subst hu;rfl) (by unfold maxLen;omega) ω (by simp;omega) ?_)
      intro v' w4 F D _
      go_wp2;exact qS9 (by rw[qS3 HL.out.1 HL.out.2,qG0 HW.out HP.out,HD.out,qF.out]) ω HB.out HO.out F D
     ·by_cases qR:j<m
      ·have g1:=(T.cell (World.block_lt_of_cell? _ _ (HC.out (i+j) ω))).trans (HC.out (i+j) ω);have qU:¬ (j:Int)+1<(m:Int):=ω;have qB:(j:Int)<(m:Int):=ω;generalize hd:dg x (i+j)=d at *;have HD:Hid (dg x (i+j)=d):=hd;have HL:Hid (d<B):=hd ▸ qX1 _ _;have HZ:Hid (dg x (i+(j+1))=0):=qK7 (by rw[HN.out];omega)
       clear hd T;obtain⟨i0,qY,I,C,W⟩:=info_parts Tryz.info96
       go_wp2_with (at_builtin;refine wpList_append_own _ rfl _ _ 48 rfl w.heap.size 96 i0 (.int .u32 0) 1 4 Tryz.underlying48 qY I C W rfl δ _ _ _ rfl (ho.alloc _) ⟨wr.heap.size,0,none⟩ 1 1 [.int .u32 (IntKind.u64.wrap (d:Int) / 2^V % 4294967296)] rfl rfl (cell_one_new _ _ _) (by intro u hu;simp at hu;subst hu;rfl) (by unfold maxLen;omega) ω (by simp;omega) ?_)
       intro v' w4 F D _
       go_wp2;exact qS9 (by rw[qS4 HL.out,qG0 HW.out HP.out,HD.out,HZ.out,Nat.zero_mul,kH7]) ω HB.out HO.out F D
      ·obtain rfl:j=m:=ω;have hL:=zZ8 (k:=k) (m:=j) (by rw[HW.out];exact HN.out)
       obtain⟨qK,H,rfl,qH,hA⟩:=qV4 ho;have HA:Hid (At wr qK (dlen (x / 2^k)) (x / 2^k)∧dlen (x / 2^k)≤H):=⟨qF0 hA hL,ω⟩;have qJ:=r40 qK j H (x / 2^k) wr hL qH ω hA;clear T ho hA
       go_wp2_with (first|(go_at_call 168;refine qJ.mono ?_;rintro e w' ⟨rfl,rfl⟩))
       refine kB8 (kM3 rfl _ _ _) rfl ?_;exact⟨_,_,_,rfl,HA.out.1,HA.out.2,HB.out⟩
theorem Tryz.info54:(Tryz.prog.info? 54).map (·.size)=some 3:=by kernel_rfl
theorem r64 {ao:Option Addr} {n cap x:Nat} {w:World} (F:dlen x=n) (H:n≤cap) (h:At w ao n x) (k:Nat) (hx:dlen x≤17592186044416) (L:k / 32<dlen x) (J:k≤1099511627776) :
  Ca 112 #[.slice ao n cap,iV k] w fun e w'=>∃ ao Y T,e=.returned (.tuple #[.slice ao (dlen (x / 2^k)) Y,.bool T])∧At w' ao (dlen (x / 2^k)) (x / 2^k)∧dlen (x / 2^k)≤Y∧Bw w w':=by
 obtain⟨b,o,D,u⟩:=h;subst F;obtain rfl:=D ω;obtain⟨m,V⟩:∃ m,dlen x=k / 32+m:=⟨dlen x - k / 32,ω⟩;rw[V] at u H ⊢;exact r64_1 b o cap m _ _ x k w ω ω J H rfl rfl V u
theorem qZ9 {w:World} {g:Nat} {a b c:Value} (J Y u:Value) (h:w.heap[g]?=some (.cells #[a,b,c] 54 (0,0))) :
  (((w.setCell ⟨g,0,none⟩ J).setCell ⟨g,1,none⟩ Y).setCell ⟨g,2,none⟩ u).heap[g]?=some (.cells #[J,Y,u] 54 (0,0)):=by
 simp[World.setCell,Array.getElem?_modify,h]
theorem qQ1 {w:World} {g:Nat} {a b c:Value} (h:w.heap[g]?=some (.cells #[a,b,c] 54 (0,0))) :
  (w.cell? ⟨g,0,none⟩=some a∧w.cell? ⟨g,1,none⟩=some b∧w.cell? ⟨g,2,none⟩=some c)∧(w.frozen? ⟨g,0,none⟩=false∧w.frozen? ⟨g,1,none⟩=false∧w.frozen? ⟨g,2,none⟩=false):=by
 simp[World.cell?,World.frozen?,h]
theorem xC (neg:Bool) (ao:Option Addr) (n cap:Nat) (e:Int) (w:World) (h:At w ao n 0) (Y:n≤cap) (J:n≤70368744177664) :
  Ca 103 (Nu neg ao n cap e) w fun e w'=>e=.returned (.agg (Nu false none 0 0 0))∧Bw w w':=by
 have u:Hid (Below w.heap.size w (w.alloc (.cells (Nu false none 0 0 0) 54))):=bR.alloc lR _;have k:=r40 ao n cap 0 (w.alloc (.cells (Nu false none 0 0 0) 54)) (by rw[qQ5];omega) Y J (h.later u.out)
 rw[qQ5] at k;clear h
 go_enter Tryz.func103,Tryz.ntmps103
 go_wp2_with fail;refine k.mono ?_;rintro e V ⟨rfl,rfl⟩
 go_wp2;refine kB8 (kM2 rfl _ _ w.heap.size 54 (Nu false none 0 0 0) (0,0) _ rfl (kB7 _ _) Tryz.underlying54 rfl Tryz.info54) rfl ?_;exact⟨rfl,u.out⟩
theorem yF1 (a:Nat) (h:a<4294967296):bits .and .u32 (a:Int) 1=((a % 2:Nat):Int):=by
 have e:=u32_and_nat a 1 h δ;rw[show((1:Nat):Int)=1 from rfl] at e;rw[e,Nat.and_one_is_mod]
theorem kJ5 {x t i p d T : Nat} (hT : tz x = T) (hx : x ≠ 0) (ht : t ≤ T) (h : t / 32 = i ∧ t % 32 = p ∧ dg x i = d) : (bits BinOp.and IntKind.u32 ((d : Int) / 2 ^ p) 1 == 0) = decide (t < T) := by
  obtain ⟨rfl, rfl, rfl⟩ := h
  subst hT
  have hl := qX1 x (t / 32)
  have e1 : ((dg x (t / 32) : Nat) : Int) / 2 ^ (t % 32) = ((dg x (t / 32) / 2 ^ (t % 32) : Nat) : Int) := by simp
  have hl2 : dg x (t / 32) / 2 ^ (t % 32) < 4294967296 := kF7 (kF9 ..) hl
  rw [e1, yF1 _ hl2]
  have e2 : dg x (t / 32) / 2 ^ (t % 32) % 2 = x / 2 ^ t % 2 := by
    unfold dg
    rw [qB9 (k := t), ← kN0]
    generalize x / B ^ (t / 32) = y
    have hp : t % 32 < 32 := kB3 _ ω
    generalize t % 32 = p at *
    have e3 : B = 2 ^ p * 2 ^ (32 - p) := by rw [← kN3]; unfold B; have : p + (32 - p) = 32 := by omega
                                             rw [this]
    have e4 : 2 ^ (32 - p) = 2 * 2 ^ (31 - p) := by have : 32 - p = (31 - p) + 1 := by omega
                                                    rw [this, kN5, kN4]
    rw [e3, Nat.mod_mul_right_div_self, e4, Nat.mod_mul_right_mod]
  rw [e2]
  obtain ⟨h1, h2⟩ := qX0 _ x lR hx
  by_cases ht2 : t < tz x
  · have e5 : x / 2 ^ t % 2 = 0 := by
      obtain ⟨k, hk⟩ : ∃ k, tz x = t + (k + 1) := ⟨tz x - t - 1, by omega⟩
      rw [← h1]
      generalize x / 2 ^ tz x = y
      rw [hk, kN3, kN6, Nat.mul_div_cancel_left _ (kF3 t), kN5, kN4 (2 ^ k) 2, kN6, Nat.mul_mod_right]
    rw [e5]; simp [ht2]
  · have : t = tz x := by omega
    subst this
    rw [h2]; simp
theorem zC0 {w:World} {u n x:Nat} {v:Value} (h:w.ownsRow u 96 1 v n (cells x n)) (J:dlen x=n):Own w u v x:=by
 rcases h.2 with ⟨rfl,W⟩|⟨g,cap,c,rfl,H,V,L,D,T,F⟩
 ·exact .inl ⟨rfl,qQ8.1 ω⟩
 ·refine .inr ⟨g,cap,fun i=>c.getD i undef,by rw[J],H,ω,by unfold maxLen at D;omega,⟨c,V,ω,fun i hi=>?_⟩,fun i hi=>?_⟩
  ·have:i<c.size:=ω
   simp[Array.getD_eq_getD_getElem?,Array.getElem?_eq_getElem this]
  ·have Y:(cells x n)[i]?=c[i]?:=by
    rw[←F,kM1,List.getElem?_take,kU6 ω,Array.getElem?_toList]
   rw[qJ8 ω] at Y;simp[Array.getD_eq_getD_getElem?,←Y]
theorem xV6 {w:World} {u g x:Nat} {v:Value} (h:Own w u v x) (L:g<u) (cs:Array Value):Own (w.setRow g cs) u v x:=by
 rcases h with h|⟨Y,cap,f,T,D,F,H,V,J⟩
 ·exact .inl h
 ·exact .inr ⟨Y,cap,f,T,D,F,H,V.of_block (setRow_other w g Y cs ω),J⟩
theorem xB8 (b o n cap x:Nat) (w:World) (qQ:0<n) (hn:n≤1000000000) (hx:dlen x=n) (J:∀ i,i<n→w.cell? ⟨b,o+i,none⟩=some (.int .u32 (dg x i:Nat))) :
  Ca 129 #[.slice (some ⟨b,o,none⟩) n cap] w fun r w'=>∃ v,r=.returned v∧Own w' w.heap.size v x∧Bw w w':=by
 have HX:Hid _:=hx;have T:=Lib.run_eql_slice_nil (P:=Tryz.prog) w 48 96 (some ⟨b,o,none⟩) n cap 0 0 Tryz.underlying48;have HN:Hid (∀ j u,(cells x n)[j]?=some u→(w.alloc (Obj.cells #[] 96)).cell? ((⟨b,o,none⟩:Addr).add j)=some u):=fun j u hj=>by
  have L:j<n:=by
   have:=(List.getElem?_eq_some_iff.1 hj).1
   rwa [qX6] at this
  rw[qJ8 L] at hj;have C:=J j L;rw[show(⟨b,o,none⟩:Addr).add j=⟨b,o+j,none⟩ by simp[Addr.add]]
  rw[World.cell?_alloc_old _ _ _ (by have:=World.block_lt_of_cell? _ _ C;show b≠w.heap.size;simp at this;omega)]
  rw[←hj];exact C
 have I:(w.alloc (Obj.cells #[] 96)).ownsRow w.heap.size 96 1 (.slice (some ⟨w.heap.size,0,none⟩) 0 0) 0 []:=⟨rfl,.inr ⟨w.heap.size,0,#[],rfl,kH8 _,kB7 _ _,kH8 _,by unfold maxLen;omega,rfl,rfl⟩⟩
 obtain⟨i0,W,D,F,H⟩:=info_parts Tryz.info96;clear hx J
 go_enter Tryz.func129,Tryz.ntmps129
 go_wp2_with (at_builtin;refine wpList_append_own _ rfl _ _ 48 rfl w.heap.size 96 i0 (.int .u32 0) 1 4 Tryz.underlying48 W D F H rfl δ _ 0 [] rfl I ⟨b,o,none⟩ n cap (cells x n) rfl (by rw[qX6,kM1]) HN.out (by intro u hu;simp[cells] at hu;obtain⟨j,-,rfl⟩:=hu;rfl) (by unfold maxLen;omega) ω (by simp) ?_)
 intro v' w2 V Y _;have HG:Hid (Bw w w2∧w2.ownsRow w.heap.size 96 1 v' n (cells x n)):=⟨Below.grown ((kH9 w.heap.size w).alloc lR _) Y (by simp) (fun k hk=>by simp[Value.ownBlock] at hk;omega),V⟩
 clear V Y T HN I W D F H
 go_wp2
 go_ret;exact⟨v',rfl,zC0 HG.out.2 HX.out,HG.out.1⟩
theorem yG4 (cap:Nat) (w:World) :
  Ca 129 #[.slice none 0 cap] w fun r w'=>r=.returned (.slice none 0 0)∧w'=w:=by
 have u:=Lib.run_eql_slice_nil (P:=Tryz.prog) w 48 96 none 0 cap 0 0 Tryz.underlying48
 go_enter Tryz.func129,Tryz.ntmps129
 go_wp2
 go_ret;exact⟨rfl,rfl⟩
theorem xB9 (Y:Addr) (cap:Nat) (w:World) :
  Ca 129 #[.slice (some Y) 0 cap] w fun r w'=>∃ v,r=.returned v∧Own w' w.heap.size v 0∧Bw w w':=by
 have u:=Lib.run_eql_slice_nil (P:=Tryz.prog) w 48 96 (some Y) 0 cap 0 0 Tryz.underlying48;have J:Hid (Below w.heap.size w (w.alloc (Obj.cells #[] 96))∧(w.alloc (Obj.cells #[] 96)).heap[w.heap.size]?=some (.cells #[] 96 (0,0))):=⟨bR.alloc lR _,kB7 _ _⟩
 go_enter Tryz.func129,Tryz.ntmps129
 go_wp2
 go_ret;refine⟨.slice (some ⟨w.heap.size,0,none⟩) 0 0,rfl,.inr ⟨w.heap.size,0,fun _=>undef,by rw[qQ5],kH8 _,by rw[qQ5];omega,ω,⟨#[],J.out.2,rfl,fun i hi=>by omega⟩,fun i hi=>by rw[qQ5] at hi;omega⟩,J.out.1⟩
theorem qC5 {v:Value} {x:Nat} {w:World} (h:Is w v x) (hx:dlen x≤1000000000) :
  Ca 129 #[v] w fun r w'=>∃ v,r=.returned v∧Own w' w.heap.size v x∧Bw w w':=by
 obtain⟨ao,cap,rfl,D,F,J⟩:=h;by_cases Y:x=0
 ·subst Y;rw[qQ5];cases ao with
  | none =>
   refine(yG4 cap w).mono ?_
   rintro r w' ⟨rfl,rfl⟩;exact⟨_,rfl,.inl ⟨rfl,rfl⟩,kH9 _ _⟩
  | some ad=>exact xB9 ad cap w
 ·have u:0<dlen x:=kB0 fun e=>Y (qQ8.1 e);obtain⟨b,o,H,V⟩:=J;obtain rfl:=H u;exact xB8 b o _ cap x w u hx rfl V
theorem neg_t (ua:Option Addr) (un uc x:Nat) (ea:Int) (w:World) (h1:Is w (.slice ua un uc) x) (hx:dlen x≤1000000) :
  Calls Tryz.prog 178 #[.agg #[.bool true,.slice ua un uc,.int .i64 ea]] w fun r w'=>∃ v,r=.returned (.agg #[.bool false,v,.int .i64 ea])∧Own w' w.heap.size v x∧Bw w w':=by
 obtain⟨W,hW⟩:=eE ((w.alloc (.cells #[.bool true,.slice ua un uc,.int .i64 ea] 50)).alloc (.cells #[.bool false,.slice none 0 0,.int .i64 0] 50));have L:Bw w W:=by rw[hW];exact(bR.alloc lR _).alloc (by simp) _
 have qX:W.heap[w.heap.size]?=some (.cells #[.bool true,.slice ua un uc,.int .i64 ea] 50 (0,0)):=by
  rw[hW,Below.heap_alloc _ _ _ (by simp)];exact kB7 _ _
 have qY:W.heap[w.heap.size+1]?=some (.cells #[.bool false,.slice none 0 0,.int .i64 0] 50 (0,0)):=by
  have:=kB7 (w.alloc (.cells #[.bool true,.slice ua un uc,.int .i64 ea] 50)) (.cells #[.bool false,.slice none 0 0,.int .i64 0] 50)
  rw[hW];simpa using this
 have qQ:W.heap.size=w.heap.size+1+1:=by rw[hW];simp
 have HX:Hid (Bw w W∧W.heap.size=w.heap.size+1+1∧W.heap[w.heap.size+1]?=some (.cells #[.bool false,.slice none 0 0,.int .i64 0] 50 (0,0))):=⟨L,qQ,qY⟩;have HK:Hid (∀ w',Below (w.heap.size+1) W w'→(w'.cell? ⟨w.heap.size,0,none⟩=some (.bool true)∧w'.cell? ⟨w.heap.size,1,none⟩=some (.slice ua un uc)∧w'.cell? ⟨w.heap.size,2,none⟩=some (.int .i64 ea))):=fun w' I=>(qQ3 (qQ0 qX I ω)).1;have kC:∀ w4,Bw W w4→Calls Tryz.prog 129 #[.slice ua un uc] w4 fun r w'=>∃ ao n cap,r=.returned (.slice ao n cap)∧Own w' W.heap.size (.slice ao n cap) x∧Bw W w':=fun w4 I =>
  (qC5 ((h1.later L).later I) ω).mono fun r w' ⟨v,e1,o1,o2⟩=>by
   obtain⟨ao,cap,rfl,-,-,-⟩:=o1.is;exact⟨_,_,_,e1,o1.mono I.size,I.trans (o2.mono I.size)⟩
 have qJ:Bw W W.drew:=bR.drew;have T:Below (w.heap.size+1) W W.drew:=bR.drew;have qV:un=dlen x:=by obtain⟨_,_,e,-⟩:=h1;simp only[Value.slice.injEq] at e;exact e.2.1
 have qG:un≤1000000:=ω;have H1:Hid (w.heap.size+1≤W.heap.size):=(by omega:w.heap.size+1≤W.heap.size)
 clear qX qY qQ L h1 hx qV
 go_enter Tryz.func178,Tryz.ntmps178
 go_upto_region 1 with fail;rw[←hW];clear hW;have qU:=HK.out W.drew T;refine wp_region_held (S:=fun w'=>w'.cell? ⟨w.heap.size,0,none⟩=some (.bool true)∧w'.cell? ⟨w.heap.size,1,none⟩=some (.slice ua un uc)∧w'.cell? ⟨w.heap.size,2,none⟩=some (.int .i64 ea)) (by kernel_rfl) ?_
 change wpAnyH _ _ _ _ _ _ _ _ W.drew
 refine wpAnyH_take (i := 0) (oi := { dst := some 3, op := Op.fieldAddr 50 (Operand.tmp 1) 0, type := 0, pos := "number.go:42", after := #[], guard := none }) (v := .pointer (some ⟨w.heap.size, 0, none⟩)) rfl (by kernel_rfl) (by kernel_rfl) (by kernel_rfl) (fun _ _ _ h => h) (.inl ⟨by rfl, (by intro H u; obtain ⟨D, F, s2⟩ := u; go_simp)⟩) (by assumption) ?_
 try simp only[Act.put,kU9,kG0,kG1]
 refine wpAnyH_take (i := 1) (oi := { dst := some 4, op := Op.load 4 (Operand.tmp 3), type := 4, pos := "number.go:42", after := #[{ on := 0, ground := Ground.data }], guard := none }) (v := .bool true) rfl (by kernel_rfl) (by kernel_rfl) (by kernel_rfl) (fun _ _ _ h => h) (.inl ⟨by rfl, (by intro H u; obtain ⟨D, F, s2⟩ := u; go_simp)⟩) (by assumption) ?_
 try simp only[Act.put,kU9,kG0,kG1]
 refine wpAnyH_take (i := 2) (oi := { dst := some 5, op := Op.unOp UnOp.not 4 (Operand.tmp 4), type := 4, pos := "number.go:42", after := #[{ on := 1, ground := Ground.data }], guard := none }) (v := .bool false) rfl (by kernel_rfl) (by kernel_rfl) (by kernel_rfl) (fun _ _ _ h => h) (.inl ⟨by rfl, (by intro H u; obtain ⟨D, F, s2⟩ := u; go_simp)⟩) (by assumption) ?_
 try simp only[Act.put,kU9,kG0,kG1]
 refine wpAnyH_take (i := 3) (oi := { dst := some 6, op := Op.move (Operand.tmp 5), type := 4, pos := "number.go:42", after := #[{ on := 2, ground := Ground.data }], guard := none }) (v := .bool false) rfl (by kernel_rfl) (by kernel_rfl) (by kernel_rfl) (fun _ _ _ h => h) (.inl ⟨by rfl, (by intro H u; obtain ⟨D, F, s2⟩ := u; go_simp)⟩) (by assumption) ?_
 try simp only[Act.put,kU9,kG0,kG1]
 refine wpAnyH_take (i := 4) (oi := { dst := some 7, op := Op.fieldAddr 50 (Operand.tmp 1) 1, type := 0, pos := "number.go:42", after := #[{ on := 3, ground := Ground.guard }], guard := some (3, true) }) (v := undef) rfl (by kernel_rfl) (by kernel_rfl) (by kernel_rfl) (fun _ _ _ h => h) (.inr ⟨by rfl, rfl⟩) (by assumption) ?_
 try simp only[Act.put,kU9,kG0,kG1]
 refine wpAnyH_take (i := 5) (oi := { dst := some 8, op := Op.load 48 (Operand.tmp 7), type := 48, pos := "number.go:42", after := #[{ on := 4, ground := Ground.data }, { on := 3, ground := Ground.guard }], guard := some (3, true) }) (v := undef) rfl (by kernel_rfl) (by kernel_rfl) (by kernel_rfl) (fun _ _ _ h => h) (.inr ⟨by rfl, rfl⟩) (by assumption) ?_
 try simp only[Act.put,kU9,kG0,kG1]
 refine wpAnyH_take (i := 6) (oi := { dst := some 9, op := Op.call { callee := Callee.builtin Builtin.len, args := #[Operand.tmp 8], argTypes := #[48] }, type := 3, pos := "number.go:42", after := #[{ on := 5, ground := Ground.data }, { on := 3, ground := Ground.guard }], guard := some (3, true) }) (v := undef) rfl (by kernel_rfl) (by kernel_rfl) (by kernel_rfl) (fun _ _ _ h => h) (.inr ⟨by rfl, rfl⟩) (by assumption) ?_
 try simp only[Act.put,kU9,kG0,kG1]
 refine wpAnyH_take (i := 7) (oi := { dst := some 10, op := Op.binOp BinOp.gtr 3 (Operand.tmp 9) (Operand.const (Value.int IntKind.i64 0)) 3, type := 4, pos := "number.go:42", after := #[{ on := 6, ground := Ground.data }, { on := 3, ground := Ground.guard }], guard := some (3, true) }) (v := undef) rfl (by kernel_rfl) (by kernel_rfl) (by kernel_rfl) (fun _ _ _ h => h) (.inr ⟨by rfl, rfl⟩) (by assumption) ?_
 try simp only[Act.put,kU9,kG0,kG1]
 refine wpAnyH_take (i := 8) (oi := { dst := some 11, op := Op.pick (Operand.tmp 6) (Operand.tmp 10) (Operand.const (Value.bool false)), type := 4, pos := "number.go:42", after := #[{ on := 3, ground := Ground.data }, { on := 7, ground := Ground.data }], guard := none }) (v := .bool false) rfl (by kernel_rfl) (by kernel_rfl) (by kernel_rfl) (fun _ _ _ h => h) (.inl ⟨by rfl, (by intro H u; obtain ⟨D, F, s2⟩ := u; go_simp)⟩) (by assumption) ?_
 try simp only[Act.put,kU9,kG0,kG1]
 refine wpAnyH_take (i := 9) (oi := { dst := some 12, op := Op.fieldAddr 50 (Operand.tmp 1) 1, type := 0, pos := "number.go:42", after := #[], guard := none }) (v := .pointer (some ⟨w.heap.size, 1, none⟩)) rfl (by kernel_rfl) (by kernel_rfl) (by kernel_rfl) (fun _ _ _ h => h) (.inl ⟨by rfl, (by intro H u; obtain ⟨D, F, s2⟩ := u; go_simp)⟩) (by assumption) ?_
 try simp only[Act.put,kU9,kG0,kG1]
 refine wpAnyH_take (i := 10) (oi := { dst := some 13, op := Op.load 48 (Operand.tmp 12), type := 48, pos := "number.go:42", after := #[{ on := 9, ground := Ground.data }], guard := none }) (v := .slice ua un uc) rfl (by kernel_rfl) (by kernel_rfl) (by kernel_rfl) (fun _ _ _ h => h) (.inl ⟨by rfl, (by intro H u; obtain ⟨D, F, s2⟩ := u; go_simp)⟩) (by assumption) ?_
 try simp only[Act.put,kU9,kG0,kG1]
 refine wpAnyH_take (i := 12) (oi := { dst := some 15, op := Op.fieldAddr 50 (Operand.tmp 1) 2, type := 0, pos := "number.go:42", after := #[], guard := none }) (v := .pointer (some ⟨w.heap.size, 2, none⟩)) rfl (by kernel_rfl) (by kernel_rfl) (by kernel_rfl) (fun _ _ _ h => h) (.inl ⟨by rfl, (by intro H u; obtain ⟨D, F, s2⟩ := u; go_simp)⟩) (by assumption) ?_
 try simp only[Act.put,kU9,kG0,kG1]
 refine wpAnyH_take (i := 13) (oi := { dst := some 16, op := Op.load 3 (Operand.tmp 15), type := 3, pos := "number.go:42", after := #[{ on := 12, ground := Ground.data }], guard := none }) (v := .int .i64 ea) rfl (by kernel_rfl) (by kernel_rfl) (by kernel_rfl) (fun _ _ _ h => h) (.inl ⟨by rfl, (by intro H u; obtain ⟨D, F, s2⟩ := u; go_simp)⟩) (by assumption) ?_
 try simp only[Act.put,kU9,kG0,kG1]
 refine wpAnyH_ready (rs := [11]) (by kernel_rfl) (by simp) ?_
 intro i hi;obtain rfl:i=11:=by simpa using hi
 refine yQ0 (o := { dst := some 14, op := Op.call { callee := Callee.value (Operand.func 129), args := #[Operand.tmp 13], argTypes := #[48] }, type := 48, pos := "number.go:42", after := #[{ on := 10, ground := Ground.data }, { on := 3, ground := Ground.chain }], guard := none }) rfl rfl rfl (qZ4 Tryz.func129 (by kernel_rfl) (by kernel_rfl)) (vs := #[.slice ua un uc]) (by simp [Act.eval]) ?_
 refine(kC _ qJ).mono ?_
 rintro r w5 ⟨C,n5,V,rfl,qZ,J⟩;have Y:=qQ0 HX.out.2.2 J (by have:=HX.out.2.1;omega)
 have qK:=HK.out _ (Below.mono J H1.out);refine⟨_,rfl,qK,?_⟩
 try simp only[Act.put,kU9,kG0,kG1]
 refine wpAnyH_take (i := 14) (oi := { dst := some 17, op := Op.build 50 #[(0, Operand.tmp 11), (1, Operand.tmp 14), (2, Operand.tmp 16)], type := 50, pos := "number.go:42", after := #[{ on := 8, ground := Ground.data }, { on := 11, ground := Ground.data }, { on := 13, ground := Ground.data }], guard := none }) (v := .agg #[.bool false, .slice C n5 V, .int .i64 ea]) rfl (by kernel_rfl) (by kernel_rfl) (by kernel_rfl) (fun _ _ _ h => h) (.inl ⟨by rfl, (by intro H u; go_simp)⟩) (by assumption) ?_
 try simp only[Act.put,kU9,kG0,kG1]
 refine wpAnyH_ready (rs := [15]) (by kernel_rfl) (by simp) ?_
 intro i hi;obtain rfl:i=15:=by simpa using hi
 refine qL0 (o := { dst := none, op := Op.store 50 (Operand.tmp 2) (Operand.tmp 17), type := 0, pos := "number.go:42", after := #[{ on := 14, ground := Ground.data }, { on := 11, ground := Ground.chain }, { on := 0, ground := Ground.phase }, { on := 1, ground := Ground.phase }, { on := 2, ground := Ground.phase }, { on := 3, ground := Ground.phase }, { on := 4, ground := Ground.phase }, { on := 5, ground := Ground.phase }, { on := 6, ground := Ground.phase }, { on := 7, ground := Ground.phase }, { on := 8, ground := Ground.phase }, { on := 9, ground := Ground.phase }, { on := 10, ground := Ground.phase }, { on := 11, ground := Ground.phase }, { on := 12, ground := Ground.phase }, { on := 13, ground := Ground.phase }, { on := 14, ground := Ground.phase }], guard := none }) rfl rfl rfl rfl rfl Y Tryz.info50 rfl (one3 rfl rfl) ?_;refine⟨HK.out _ (qN8 (Below.mono J H1.out) lR _),?_⟩
 refine wpAnyH_done (by kernel_rfl) ?_ _
 have HF:Hid (Bw W w5∧Own w5 W.heap.size (.slice C n5 V) x∧w5.heap[w.heap.size+1]?=some (.cells #[.bool false,.slice none 0 0,.int .i64 0] 50 (0,0))):=⟨J,qZ,Y⟩;clear qZ J Y kC HK qJ T qU qK
 go_wp2;refine kB8 (kM2 rfl _ _ (w.heap.size+1) 50 #[.bool false,.slice C n5 V,.int .i64 ea] (0,0) _ rfl (setRow_heap _ _ _ _ _ _ HF.out.2.2) Tryz.underlying50 rfl Tryz.info50) rfl ?_;obtain⟨q1,q2,-⟩:=HX.out;exact⟨_,rfl,(xV6 HF.out.2.1 ω _).mono ω,qN8 (q1.trans (HF.out.1.mono q1.size)) ω _⟩
theorem neg_f (ua:Option Addr) (un uc x:Nat) (ea:Int) (w:World) (h1:Is w (.slice ua un uc) x) (hx:dlen x≤1000000) :
  Calls Tryz.prog 178 #[.agg #[.bool false,.slice ua un uc,.int .i64 ea]] w fun r w'=>∃ v,r=.returned (.agg #[.bool (decide (0<un)),v,.int .i64 ea])∧Own w' w.heap.size v x∧Bw w w':=by
 obtain⟨W,D⟩:=eE ((w.alloc (.cells #[.bool false,.slice ua un uc,.int .i64 ea] 50)).alloc (.cells #[.bool false,.slice none 0 0,.int .i64 0] 50));have H:Bw w W:=by rw[D];exact(bR.alloc lR _).alloc (by simp) _
 have I:W.heap[w.heap.size]?=some (.cells #[.bool false,.slice ua un uc,.int .i64 ea] 50 (0,0)):=by
  rw[D,Below.heap_alloc _ _ _ (by simp)];exact kB7 _ _
 have C:W.heap[w.heap.size+1]?=some (.cells #[.bool false,.slice none 0 0,.int .i64 0] 50 (0,0)):=by
  have:=kB7 (w.alloc (.cells #[.bool false,.slice ua un uc,.int .i64 ea] 50)) (.cells #[.bool false,.slice none 0 0,.int .i64 0] 50)
  rw[D];simpa using this
 have T:W.heap.size=w.heap.size+1+1:=by rw[D];simp
 have HX:Hid (Bw w W∧W.heap.size=w.heap.size+1+1∧W.heap[w.heap.size+1]?=some (.cells #[.bool false,.slice none 0 0,.int .i64 0] 50 (0,0))):=⟨H,T,C⟩;have HK:Hid (∀ w',Below (w.heap.size+1) W w'→(w'.cell? ⟨w.heap.size,0,none⟩=some (.bool false)∧w'.cell? ⟨w.heap.size,1,none⟩=some (.slice ua un uc)∧w'.cell? ⟨w.heap.size,2,none⟩=some (.int .i64 ea))):=fun w' F=>(qQ3 (qQ0 I F ω)).1;have kC:∀ w4,Bw W w4→Calls Tryz.prog 129 #[.slice ua un uc] w4 fun r w'=>∃ ao n cap,r=.returned (.slice ao n cap)∧Own w' W.heap.size (.slice ao n cap) x∧Bw W w':=fun w4 F =>
  (qC5 ((h1.later H).later F) ω).mono fun r w' ⟨v,e1,o1,o2⟩=>by
   obtain⟨ao,cap,rfl,-,-,-⟩:=o1.is;exact⟨_,_,_,e1,o1.mono F.size,F.trans (o2.mono F.size)⟩
 have qQ:Bw W W.drew:=bR.drew;have J:Below (w.heap.size+1) W W.drew:=bR.drew;have qY:un=dlen x:=by obtain⟨_,_,e,-⟩:=h1;simp only[Value.slice.injEq] at e;exact e.2.1
 have qX:un≤1000000:=ω;have H1:Hid (w.heap.size+1≤W.heap.size):=(by omega:w.heap.size+1≤W.heap.size)
 clear I C T H h1 hx qY
 go_enter Tryz.func178,Tryz.ntmps178
 go_upto_region 1 with fail;rw[←D];clear D
 go_region_held3 (fun w'=>w'.cell? ⟨w.heap.size,0,none⟩=some (.bool false)∧w'.cell? ⟨w.heap.size,1,none⟩=some (.slice ua un uc)∧w'.cell? ⟨w.heap.size,2,none⟩=some (.int .i64 ea)) (first|(with_reducible assumption)|exact HK.out _ J|(refine HK.out _ (Below.mono ?_ H1.out);with_reducible assumption)|(refine HK.out _ (qQ4 (Below.mono Y H1.out) lR _ _ _))|go_keep)
  (first|(go_at_call 129;refine(kC _ (by first|(with_reducible assumption)|exact qQ)).mono ?_;rintro r w5 ⟨qZ,n5,V,rfl,L,Y⟩;have u:=qQ0 HX.out.2.2 Y (by have:=HX.out.2.1;omega);obtain⟨⟨x1,x2,x3⟩,x4,x5,x6⟩:=qQ3 u))
 have HF:Hid (Bw W w5∧Own w5 W.heap.size (.slice qZ n5 V) x∧w5.heap[w.heap.size+1]?=some (.cells #[.bool false,.slice none 0 0,.int .i64 0] 50 (0,0))):=⟨Y,L,u⟩;clear L Y u x1 x2 x3 x4 x5 x6 kC HK qQ J
 go_wp2;refine kB8 (kM2 rfl _ _ (w.heap.size+1) 50 #[.bool (decide (0<un)),.slice qZ n5 V,.int .i64 ea] (0,0) _ rfl (qX8 _ _ _ HF.out.2.2) Tryz.underlying50 rfl Tryz.info50) rfl ?_;obtain⟨q1,q2,-⟩:=HX.out;exact⟨_,rfl,(qU6 HF.out.2.1 ω _ _ _).mono ω,qQ4 (q1.trans (HF.out.1.mono q1.size)) ω _ _ _⟩
theorem yI5 {na:Bool} {ua:Option Addr} {un uc x:Nat} {ea:Int} {w:World} (u:Is w (.slice ua un uc) x) (hx:dlen x≤1000000) :
  Ca 178 #[.agg (Nu na ua un uc ea)] w fun r w'=>∃ v,r=.returned (.agg #[.bool (!na&&decide (0<un)),v,iV ea])∧Own w' w.heap.size v x∧Bw w w':=by
 cases na
 ·exact neg_f ua un uc x ea w u hx
 ·exact neg_t ua un uc x ea w u hx
end Go.Proofs.YtfkaogdmlcdceaaGreatDoor
namespace Go.Proofs.YtfkaogdmlcdceaaGreatDoor
open Go.RowKit Go.Fl64
attribute [local go_sem] iV Nu
theorem c159 (a:Nat) (u:a<18446744073709551616) (w:World) :
  Ca 17 #[.float .f64 a] w fun e w'=>e=.returned (.float .f64 (mag a))∧w'=w:=by
 have J:=Ie.run_bits;have Y:=Ie.run_frombits
 go_enter Tryz.func17,Tryz.ntmps17
 go_wp2
 go_ret;refine⟨?_,rfl⟩
 show Ending.returned (.float .f64 (bits .andNot .u64 a 9223372036854775808).toNat)=_
 rw[qI4 a u];simp
theorem xG1 (a:Nat) (u:a<18446744073709551616):mag a<18446744073709551616:=by unfold mag;omega
theorem c185 (w:World):Ca 262 #[iV 16] w fun e w'=>e=.returned (.bool true)∧w'=w:=by
 have h:(bits .and .i64 16 15==0)=true:=by decide +kernel
 have H:Hid _:=h;clear h
 go_enter Tryz.func262,Tryz.ntmps262
 go_wp2
 go_ret;exact⟨kU7 Ending.returned (kU7 Value.bool H.out),rfl⟩
theorem c186 (w:World) (u:Ie.Tab w):Ca 263 #[.int .u64 16] w fun e w'=>e=.returned (iV 4)∧w'=w:=by
 have k:=Ie.c51 16 ω ω w u;have e:Lib.ctz 64 16=4:=by decide
 rw[e] at k;clear e
 go_enter Tryz.func263,Tryz.ntmps263
 go_wp2_with fail;refine k.mono ?_;rintro r Y ⟨rfl,rfl⟩
 go_wp2
 go_ret;exact⟨rfl,rfl⟩
def hx (d:Nat):Nat:=if d<10 then 48+d else 87+d
theorem z147:Tryz.zeroCells237=Array.replicate 65 (.int .u8 0):=by kernel_rfl
structure Bt (w wr:World) (f:Nat→Nat):Prop where
 below:Bw w wr
 row:∃ c:Array Value,wr.heap[w.heap.size]?=some (.cells c 237 (0,0))∧c.size=65∧∀ t,t<65→c[t]?=some (.int .u8 (f t:Nat))
theorem Bt.start (w:World):Bt w (w.alloc (.cells Tryz.zeroCells237 237)) (fun _=>0) :=
 ⟨bR.alloc lR _,_,kB7 _ _,by rw[z147];simp,fun t u=>by rw[z147];simp[u]⟩
theorem Bt.cell {w wr:World} {f:Nat→Nat} (h:Bt w wr f) {i:Nat} (hi:i<65):wr.cell? ⟨w.heap.size,i,none⟩=some (.int .u8 (f i:Nat)):=by
 obtain⟨c,Y,J,u⟩:=h.row;simp[World.cell?,Y,u i hi]
theorem Bt.frozen {w wr:World} {f:Nat→Nat} (h:Bt w wr f) (i:Nat):wr.frozen? ⟨w.heap.size,i,none⟩=false:=by
 obtain⟨c,u,_,_⟩:=h.row;simp[World.frozen?,u]
theorem Bt.set {w wr:World} {f:Nat→Nat} (h:Bt w wr f) (i d:Nat):Bt w (wr.setCell ⟨w.heap.size,i,none⟩ (.int .u8 (d:Nat))) (fun t=>if t=i then d else f t):=by
 obtain⟨c,V,Y,J⟩:=h.row;refine⟨h.below.setCell lR _,c.setIfInBounds i (.int .u8 (d:Nat)),?_,by simpa using Y,fun t u=>?_⟩
 ·simp[World.setCell,Array.getElem?_modify,V]
 ·rw[Array.getElem?_setIfInBounds];by_cases e:t=i
  ·subst e;simp[Y,u]
  ·rw[kU5 (fun h=>e h.symm),J t u];simp[e]
theorem Bt.congr {w wr:World} {f g:Nat→Nat} (h:Bt w wr f) (e:∀ t,t<65→f t=g t):Bt w wr g:=by
 obtain⟨c,V,J,Y⟩:=h.row;exact⟨h.below,c,V,J,fun t u=>by rw[Y t u,e t u]⟩
theorem yK9 (m:Nat) (u:m<16) (h:m<(⟨#[48,49,50,51,52,53,54,55,56,57,97,98,99,100,101,102,103,104,105,106,107,108,109,110,111,112,113,114,115,116,117,118,119,120,121,122]⟩:ByteArray).size):((⟨#[48,49,50,51,52,53,54,55,56,57,97,98,99,100,101,102,103,104,105,106,107,108,109,110,111,112,113,114,115,116,117,118,119,120,121,122]⟩:ByteArray)[m]'h).toNat=hx m:=by
 have:m=0∨m=1∨m=2∨m=3∨m=4∨m=5∨m=6∨m=7∨m=8∨m=9∨m=10∨m=11∨m=12∨m=13∨m=14∨m=15:=ω
 rcases this with rfl|rfl|rfl|rfl|rfl|rfl|rfl|rfl|rfl|rfl|rfl|rfl|rfl|rfl|rfl|rfl <;> rfl
def hexL (u j:Nat):List UInt8:=(List.range (j+1)).map fun i=>UInt8.ofNat (hx (u / 16^(j - i) % 16))
theorem qH3 (u j:Nat):(hexL u j).length=j+1:=by simp[hexL]
theorem hx_lt (d:Nat) (h:d<16):hx d<256:=by unfold hx;split <;> omega
theorem yS4 {u j i:Nat} (h:i<(hexL u j).length):((hexL u j)[i].toNat:Int)=(hx (u / 16^(j - i) % 16):Nat):=by
 simp only[hexL,List.getElem_map,List.getElem_range];have:=hx_lt (u / 16^(j - i) % 16) (kB3 _ ω)
 rw[UInt8.toNat_ofNat_of_lt' this]
theorem kV0 (W:World) (g k:Nat) (J:k<65):(Instr.sliceAt 237 (.pointer (some ⟨g,0,none⟩)) (some (iV (k:Int))) none none).run Tryz.prog W=.ok (.slice (some ⟨g,k,none⟩) (65 - k) (65 - k)) W:=by
 have u:Tryz.prog.arrayLen 237=65:=by kernel_rfl
 rw[run_sliceAt_array_l W 237 ⟨g,0,none⟩ (by kernel_rfl) .i64 (k:Int) ω (by rw[u];omega)]
 have Y:∀ W,(sizeOf (Tryz.prog.elem 237)).run Tryz.prog W=.ok 1 W:=fun W=>by kernel_rfl
 rw[Y,u];show Result.ok (slicedAt ⟨g,0,none⟩ (k:Int).toNat 65 65 1) W=_
 unfold slicedAt;rw[kN9,kU5 ω,kM1];have:(⟨g,0,none⟩:Addr).add k=⟨g,k,none⟩:=by simp[Addr.add];omega
 rw[this]
theorem Nrm.later {w w':World} {u:Nat} {a:Value} {neg:Bool} {x:Nat} {e:Int} (h:Nrm w u a neg x e) (J:Bw w w'):Nrm w' u a neg x e:=by
 rcases h with h|⟨H,v,V,Y⟩
 ·exact .inl h
 ·exact .inr ⟨H,v,V,Y.later J⟩
theorem qQ7 {w:World} {g:Nat} {o:Obj} (h:w.heap[g]?=some o):g<w.heap.size:=(Array.getElem?_eq_some_iff.1 h).1
end Go.Proofs.YtfkaogdmlcdceaaGreatDoor
namespace Go.Proofs.YtfkaogdmlcdceaaGreatDoor
open Go.RowKit
attribute [local go_sem] iV Nu
theorem c21_t (na nb:Bool) (ua L:Option Addr) (un uc D T z:Nat) (ea eb e:Int) (s nn:Bool) (y:Nat) (w:World) (hz:dlen z≤35184372088832) (hok:okR s z e=true)
  (qJ:∀ W g,Bw w W→W.heap[g]?=some (.cells #[.bool na,.slice ua un uc,iV ea,.bool nb,.slice L D T,iV eb] 50 (0,0))→Ca 128 #[.slice (some ⟨g,0,none⟩) 2 2] W (Rq W (.bool true)))
  (kN:∀ W,Bw w W→Ca 178 #[.agg (Nu nb L D T eb)] W fun r w'=>∃ v,r=.returned (.agg #[.bool nn,v,iV eb])∧Own w' W.heap.size v y∧Bw W w')
  (kS:∀ W v qD,Bw w W→Own W qD v y→Ca 220 #[.agg (Nu na ua un uc ea),.agg #[.bool nn,v,iV eb]] W fun r w'=>∃ a,r=.returned a∧Nrm w' W.heap.size a s z e∧Bw W w') :
  Ca 161 #[.agg (Nu na ua un uc ea),.agg (Nu nb L D T eb)] w fun r w'=>Held w s z e r w':=by
 obtain⟨W,hW⟩:=eE (((w.alloc (.cells (Nu na ua un uc ea) 50)).alloc (.cells (Nu nb L D T eb) 50)).alloc (.cells (Nu false none 0 0 0) 50));obtain⟨hA,qN,hC,qY,qQ⟩:=qK9 _ _ _ hW;have qM:Below w.heap.size w (W.alloc (.cells #[.bool na,.slice ua un uc,iV ea,.bool nb,.slice L D T,iV eb] 50)):=qQ.alloc qQ.size _;have k1:=qJ (W.alloc (.cells #[.bool na,.slice ua un uc,iV ea,.bool nb,.slice L D T,iV eb] 50)) (w.heap.size+1+1+1) qM (by rw[←qY];exact kB7 _ _)
 have I:Hid ((Hn W w.heap.size na ua un uc ea 50∧Hn W (w.heap.size+1) nb L D T eb 50∧Hn W (w.heap.size+1+1) false none 0 0 0 50)∧W.heap.size=w.heap.size+1+1+1∧Bw w W∧Below W.heap.size W (W.alloc (.cells #[.bool na,.slice ua un uc,iV ea,.bool nb,.slice L D T,iV eb] 50))):=⟨⟨hA,qN,hC⟩,qY,qQ,bR.alloc lR _⟩;have HZ:Hid _:=And.intro hz hok;have qL:Hid _:=kN;have qT:Hid _:=kS;clear hA qN hC qY qQ qM qJ kN kS hz hok
 go_enter Tryz.func161,Tryz.ntmps161
 go_wp2_with fail;rw[←hW];clear hW;refine k1.mono ?_;rintro r Y ⟨rfl,qP⟩;clear k1;have J:=I.out.2.2.2.trans (qP.mono I.out.2.2.2.size);have C:Hid (Hn Y w.heap.size na ua un uc ea 50∧Hn Y (w.heap.size+1) nb L D T eb 50∧Hn Y (w.heap.size+1+1) false none 0 0 0 50∧w.heap.size+1+1+1≤Y.heap.size∧Bw w Y):=⟨qQ0 I.out.1.1 J (by have:=I.out.2.1;omega),qQ0 I.out.1.2.1 J (by have:=I.out.2.1;omega),qQ0 I.out.1.2.2 J (by have:=I.out.2.1;omega),by have:=J.size;have:=I.out.2.1;omega,I.out.2.2.1.trans (J.mono I.out.2.2.1.size)⟩
 clear qP J;have HK:Hid (∀ w',Below (w.heap.size+1+1) Y w'→((C3 w' w.heap.size na ua un uc ea)∧(C3 w' (w.heap.size+1) nb L D T eb))):=fun w' F=>⟨(qQ3 (qQ0 C.out.1 F ω)).1,(qQ3 (qQ0 C.out.2.1 F ω)).1⟩;have H1:Hid (w.heap.size+1+1≤Y.heap.size):=(by have:=C.out.2.2.2.1;omega:w.heap.size+1+1≤Y.heap.size)
 have qR:Bw Y Y.drew:=bR.drew;have qW:Below (w.heap.size+1+1) Y Y.drew:=bR.drew;have kn:∀ w4,Bw Y w4→Ca 178 #[.agg (Nu nb L D T eb)] w4 fun r w'=>∃ ao n cap,r=.returned (.agg (Nu nn ao n cap eb))∧Own w' Y.heap.size (.slice ao n cap) y∧Bw Y w':=fun w4 F =>
  (qL.out w4 (C.out.2.2.2.2.trans (F.mono C.out.2.2.2.2.size))).mono fun r w' ⟨v,e1,o1,o2⟩=>by
   obtain⟨ao,cap,rfl,-,-,-⟩:=o1.is;exact⟨_,_,_,e1,o1.mono F.size,F.trans (o2.mono F.size)⟩
 have ks:∀ ao n cap w5,Own w5 Y.heap.size (.slice ao n cap) y→Bw Y w5→Ca 220 #[.agg (Nu na ua un uc ea),.agg (Nu nn ao n cap eb)] w5 fun r w'=>∃ s' ao n cap ex,r=.returned (.agg (Nu s' ao n cap ex))∧Nrm w' Y.heap.size (.agg (Nu s' ao n cap ex)) s z e∧Bw Y w':=fun ao n cap w5 ho F =>
  (qT.out w5 _ _ (C.out.2.2.2.2.trans (F.mono C.out.2.2.2.2.size)) ho).mono fun r w' ⟨v,e1,o1,o2⟩=>by
   obtain⟨s',ao,n,cap,ex,rfl⟩:=o1.shape;exact⟨_,_,_,_,_,e1,o1.mono F.size,F.trans (o2.mono F.size)⟩
 have kb:∀ s6 H n6 u V w6,Nrm w6 Y.heap.size (.agg (Nu s6 H n6 u V)) s z e→Bw Y w6→Ca 200 #[.agg (Nu s6 H n6 u V)] w6 fun r w'=>r=.returned (.tuple #[.agg (Nu s6 H n6 u V),iV 0])∧Hid (Nrm w' Y.heap.size (.agg (Nu s6 H n6 u V)) s z e)∧Bw Y w'∧Hid (Hn w' (w.heap.size+1+1) false none 0 0 0 50) ∧
   (C3 w' (w.heap.size+1+1) false none 0 0 0)∧(w'.frozen? ⟨w.heap.size+1+1,0,none⟩=false∧w'.frozen? ⟨w.heap.size+1+1,1,none⟩=false∧w'.frozen? ⟨w.heap.size+1+1,2,none⟩=false):=fun s6 H n6 u V w6 hN F=>by
  have k:=c63n hN HZ.out.1;rw[HZ.out.2] at k;refine k.mono ?_;rintro r w' ⟨rfl,qB⟩;have qF:=F.trans (qB.mono F.size);have qZ:=qQ0 C.out.2.2.1 qF (by have:=C.out.2.2.2.1;omega)
  obtain⟨f1,f2⟩:=qQ3 qZ;exact⟨rfl,hN.later qB,qF,qZ,f1,f2⟩
 obtain⟨⟨a0,a1,a2⟩,b0,b1,b2⟩:=HK.out Y bR
 go_upto_region 3 with fail
 go_region_held3 (fun w'=>((C3 w' w.heap.size na ua un uc ea)∧(C3 w' (w.heap.size+1) nb L D T eb))) (first|(with_reducible assumption)|exact⟨⟨a0,a1,a2⟩,b0,b1,b2⟩|(refine HK.out _ (Below.mono ?_ H1.out);with_reducible assumption)|(refine HK.out _ (qQ4 (Below.mono qK H1.out) lR _ _ _))|go_keep)
  (first|(go_at_call 178;refine(kn _ (by first|(with_reducible assumption)|exact qR)).mono ?_;rintro r w5 ⟨qE,n5,qC,rfl,qV,qH⟩)|(go_at_call 220;refine(ks _ _ _ _ qV qH).mono ?_;rintro r w6 ⟨s6,H,n6,u,V,rfl,qU,qG⟩)|(go_at_call 200;refine(kb _ _ _ _ _ _ qU qG).mono ?_;rintro r w7 ⟨rfl,qS,qK,qX,⟨x1,x2,x3⟩,x4,x5,x6⟩))
 have HF:Hid _:=qK;clear qV qH qU qG qK kn ks kb x1 x2 x3 x4 x5 x6 a0 a1 a2 b0 b1 b2 HK
 go_wp2;refine kB8 (qQ6 rfl _ _ (w.heap.size+1+1) 50 (Nu s6 H n6 u V) (0,0) _ rfl (qX8 _ _ _ qX.out) Tryz.underlying50 rfl Tryz.info50) rfl ?_;have hs:=C.out.2.2.2.1;exact⟨.agg (Nu s6 H n6 u V),by rw[HZ.out.2];rfl,(qS.out.store ω _ _ _).mono ω,qQ4 (C.out.2.2.2.2.trans (HF.out.mono C.out.2.2.2.2.size)) ω _ _ _⟩
theorem c21_f (na nb:Bool) (ua L:Option Addr) (un uc D T z:Nat) (ea eb e:Int) (s nn:Bool) (y:Nat) (w:World) (hz:dlen z≤35184372088832) (hok:okR s z e=false)
  (qJ:∀ W g,Bw w W→W.heap[g]?=some (.cells #[.bool na,.slice ua un uc,iV ea,.bool nb,.slice L D T,iV eb] 50 (0,0))→Ca 128 #[.slice (some ⟨g,0,none⟩) 2 2] W (Rq W (.bool true)))
  (kN:∀ W,Bw w W→Ca 178 #[.agg (Nu nb L D T eb)] W fun r w'=>∃ v,r=.returned (.agg #[.bool nn,v,iV eb])∧Own w' W.heap.size v y∧Bw W w')
  (kS:∀ W v qD,Bw w W→Own W qD v y→Ca 220 #[.agg (Nu na ua un uc ea),.agg #[.bool nn,v,iV eb]] W fun r w'=>∃ a,r=.returned a∧Nrm w' W.heap.size a s z e∧Bw W w') :
  Ca 161 #[.agg (Nu na ua un uc ea),.agg (Nu nb L D T eb)] w fun r w'=>Held w s z e r w':=by
 obtain⟨W,hW⟩:=eE (((w.alloc (.cells (Nu na ua un uc ea) 50)).alloc (.cells (Nu nb L D T eb) 50)).alloc (.cells (Nu false none 0 0 0) 50));obtain⟨hA,qN,hC,qY,qQ⟩:=qK9 _ _ _ hW;have qM:Below w.heap.size w (W.alloc (.cells #[.bool na,.slice ua un uc,iV ea,.bool nb,.slice L D T,iV eb] 50)):=qQ.alloc qQ.size _;have k1:=qJ (W.alloc (.cells #[.bool na,.slice ua un uc,iV ea,.bool nb,.slice L D T,iV eb] 50)) (w.heap.size+1+1+1) qM (by rw[←qY];exact kB7 _ _)
 have I:Hid ((Hn W w.heap.size na ua un uc ea 50∧Hn W (w.heap.size+1) nb L D T eb 50∧Hn W (w.heap.size+1+1) false none 0 0 0 50)∧W.heap.size=w.heap.size+1+1+1∧Bw w W∧Below W.heap.size W (W.alloc (.cells #[.bool na,.slice ua un uc,iV ea,.bool nb,.slice L D T,iV eb] 50))):=⟨⟨hA,qN,hC⟩,qY,qQ,bR.alloc lR _⟩;have HZ:Hid _:=And.intro hz hok;have qL:Hid _:=kN;have qT:Hid _:=kS;clear hA qN hC qY qQ qM qJ kN kS hz hok
 go_enter Tryz.func161,Tryz.ntmps161
 go_wp2_with fail;rw[←hW];clear hW;refine k1.mono ?_;rintro r u ⟨rfl,qP⟩;clear k1;have Y:=I.out.2.2.2.trans (qP.mono I.out.2.2.2.size);have C:Hid (Hn u w.heap.size na ua un uc ea 50∧Hn u (w.heap.size+1) nb L D T eb 50∧Hn u (w.heap.size+1+1) false none 0 0 0 50∧w.heap.size+1+1+1≤u.heap.size∧Bw w u):=⟨qQ0 I.out.1.1 Y (by have:=I.out.2.1;omega),qQ0 I.out.1.2.1 Y (by have:=I.out.2.1;omega),qQ0 I.out.1.2.2 Y (by have:=I.out.2.1;omega),by have:=Y.size;have:=I.out.2.1;omega,I.out.2.2.1.trans (Y.mono I.out.2.2.1.size)⟩
 clear qP Y;have HK:Hid (∀ w',Below (w.heap.size+1+1) u w'→((C3 w' w.heap.size na ua un uc ea)∧(C3 w' (w.heap.size+1) nb L D T eb))):=fun w' V=>⟨(qQ3 (qQ0 C.out.1 V ω)).1,(qQ3 (qQ0 C.out.2.1 V ω)).1⟩;have H1:Hid (w.heap.size+1+1≤u.heap.size):=(by have:=C.out.2.2.2.1;omega:w.heap.size+1+1≤u.heap.size)
 have qR:Bw u u.drew:=bR.drew;have qW:Below (w.heap.size+1+1) u u.drew:=bR.drew;have kn:∀ w4,Bw u w4→Ca 178 #[.agg (Nu nb L D T eb)] w4 fun r w'=>∃ ao n cap,r=.returned (.agg (Nu nn ao n cap eb))∧Own w' u.heap.size (.slice ao n cap) y∧Bw u w':=fun w4 V =>
  (qL.out w4 (C.out.2.2.2.2.trans (V.mono C.out.2.2.2.2.size))).mono fun r w' ⟨v,e1,o1,o2⟩=>by
   obtain⟨ao,cap,rfl,-,-,-⟩:=o1.is;exact⟨_,_,_,e1,o1.mono V.size,V.trans (o2.mono V.size)⟩
 have ks:∀ ao n cap w5,Own w5 u.heap.size (.slice ao n cap) y→Bw u w5→Ca 220 #[.agg (Nu na ua un uc ea),.agg (Nu nn ao n cap eb)] w5 fun r w'=>∃ s' ao n cap ex,r=.returned (.agg (Nu s' ao n cap ex))∧Nrm w' u.heap.size (.agg (Nu s' ao n cap ex)) s z e∧Bw u w':=fun ao n cap w5 ho V =>
  (qT.out w5 _ _ (C.out.2.2.2.2.trans (V.mono C.out.2.2.2.2.size)) ho).mono fun r w' ⟨v,e1,o1,o2⟩=>by
   obtain⟨s',ao,n,cap,ex,rfl⟩:=o1.shape;exact⟨_,_,_,_,_,e1,o1.mono V.size,V.trans (o2.mono V.size)⟩
 have kb:∀ s6 F n6 J H w6,Nrm w6 u.heap.size (.agg (Nu s6 F n6 J H)) s z e→Bw u w6→Ca 200 #[.agg (Nu s6 F n6 J H)] w6 fun r w'=>r=.returned (.tuple #[.agg (Nu false none 0 0 0),iV 2])∧Hid (Nrm w' u.heap.size (.agg (Nu s6 F n6 J H)) s z e)∧Bw u w'∧Hid (Hn w' (w.heap.size+1+1) false none 0 0 0 50) ∧
   (C3 w' (w.heap.size+1+1) false none 0 0 0)∧(w'.frozen? ⟨w.heap.size+1+1,0,none⟩=false∧w'.frozen? ⟨w.heap.size+1+1,1,none⟩=false∧w'.frozen? ⟨w.heap.size+1+1,2,none⟩=false):=fun s6 F n6 J H w6 hN V=>by
  have k:=c63n hN HZ.out.1;rw[HZ.out.2] at k;refine k.mono ?_;rintro r w' ⟨rfl,qB⟩;have qF:=V.trans (qB.mono V.size);have qZ:=qQ0 C.out.2.2.1 qF (by have:=C.out.2.2.2.1;omega)
  obtain⟨f1,f2⟩:=qQ3 qZ;exact⟨rfl,hN.later qB,qF,qZ,f1,f2⟩
 obtain⟨⟨a0,a1,a2⟩,b0,b1,b2⟩:=HK.out u bR
 go_upto_region 3 with fail
 go_region_held3 (fun w'=>((C3 w' w.heap.size na ua un uc ea)∧(C3 w' (w.heap.size+1) nb L D T eb))) (first|(with_reducible assumption)|exact⟨⟨a0,a1,a2⟩,b0,b1,b2⟩|(refine HK.out _ (Below.mono ?_ H1.out);with_reducible assumption)|(refine HK.out _ (qQ4 (Below.mono qK H1.out) lR _ _ _))|go_keep)
  (first|(go_at_call 178;refine(kn _ (by first|(with_reducible assumption)|exact qR)).mono ?_;rintro r w5 ⟨qE,n5,qC,rfl,qV,qH⟩)|(go_at_call 220;refine(ks _ _ _ _ qV qH).mono ?_;rintro r w6 ⟨s6,F,n6,J,H,rfl,qU,qG⟩)|(go_at_call 200;refine(kb _ _ _ _ _ _ qU qG).mono ?_;rintro r w7 ⟨rfl,qS,qK,qX,⟨x1,x2,x3⟩,x4,x5,x6⟩))
 have HF:Hid _:=qK;clear qV qH qU qG qK kn ks kb x1 x2 x3 x4 x5 x6 a0 a1 a2 b0 b1 b2 HK
 go_wp2;refine kB8 (qQ6 rfl _ _ (w.heap.size+1+1) 50 (Nu false none 0 0 0) (0,0) _ rfl (qX8 _ _ _ qX.out) Tryz.underlying50 rfl Tryz.info50) rfl ?_;have hs:=C.out.2.2.2.1;exact⟨.agg (Nu s6 F n6 J H),by rw[HZ.out.2];rfl,(qS.out.store ω _ _ _).mono ω,qQ4 (C.out.2.2.2.2.trans (HF.out.mono C.out.2.2.2.2.size)) ω _ _ _⟩
theorem zU6 (na:Bool) (x:Nat) (ea:Int) (nb:Bool) (y:Nat) (eb:Int) (hx:dlen x≤500000) (V:dlen y≤500000) (F : -4000000≤ea∧ea≤4000000) (H : -4000000≤eb∧eb≤4000000):dlen (sumN na x ea nb y eb).2.1≤1000000:=by
 unfold sumN;have J:dlen (x*2^(ea - min ea eb).toNat)≤760000:=by have:=qK2 (x:=x) (k:=(ea - min ea eb).toNat) rfl;omega
 have Y:dlen (y*2^(eb - min ea eb).toNat)≤760000:=by have:=qK2 (x:=y) (k:=(eb - min ea eb).toNat) rfl;omega
 have u:=qJ7 (x*2^(ea - min ea eb).toNat) (y*2^(eb - min ea eb).toNat);split
 ·show dlen y≤_;omega
 ·split
  ·show dlen x≤_;omega
  ·split
   ·show dlen (_+_)≤_;omega
   ·split
    ·have:=qZ5 (Nat.sub_le (y*2^(eb - min ea eb).toNat) (x*2^(ea - min ea eb).toNat));show dlen (_ - _)≤_;omega
    ·have:=qZ5 (Nat.sub_le (x*2^(ea - min ea eb).toNat) (y*2^(eb - min ea eb).toNat));show dlen (_ - _)≤_;omega
theorem xS5 {na nb:Bool} {ua J:Option Addr} {uc Y x y:Nat} {ea eb:Int} {w:World} (I:Is w (.slice ua (dlen x) uc) x) (h2:Is w (.slice J (dlen y) Y) y) (hx:dlen x≤400000) (hy:dlen y≤400000) (C : -4000000≤ea∧ea≤4000000) (L : -4000000≤eb∧eb≤4000000)
  (F:okN na (dlen x) x ea=true) (H:okN nb (dlen y) y eb=true) (hT:Tab32 w) :
  Ca 161 #[.agg (Nu na ua (dlen x) uc ea),.agg (Nu nb J (dlen y) Y eb)] w fun r w'=>Held w (sumN na x ea (!nb&&decide (0<dlen y)) y eb).1 (sumN na x ea (!nb&&decide (0<dlen y)) y eb).2.1 (sumN na x ea (!nb&&decide (0<dlen y)) y eb).2.2 r w':=by
 have V:∀ W g,Bw w W→Hx W g #[.bool na,.slice ua (dlen x) uc,iV ea,.bool nb,.slice J (dlen y) Y,iV eb] 50→Ca 128 #[.slice (some ⟨g,0,none⟩) 2 2] W (Rq W (.bool true)):=fun W g u hg=>by
  have:=qO9 hg (I.later u) (h2.later u) ω ω
  rw[F,H] at this;exact this
 have kN:∀ W,Bw w W→Ca 178 #[.agg (Nu nb J (dlen y) Y eb)] W fun r w'=>∃ v,r=.returned (.agg #[.bool (!nb&&decide (0<dlen y)),v,iV eb])∧Own w' W.heap.size v y∧Bw W w':=fun W u=>yI5 (h2.later u) ω;have hz:dlen (sumN na x ea (!nb&&decide (0<dlen y)) y eb).2.1≤35184372088832:=by
  have:=zU6 na x ea (!nb&&decide (0<dlen y)) y eb (by omega:dlen x≤500000) (by omega:dlen y≤500000) C L
  omega
 cases hok:okR (sumN na x ea (!nb&&decide (0<dlen y)) y eb).1 (sumN na x ea (!nb&&decide (0<dlen y)) y eb).2.1 (sumN na x ea (!nb&&decide (0<dlen y)) y eb).2.2
 ·exact c21_f na nb ua J _ uc _ Y _ ea eb _ _ _ y w hz hok V kN (fun W v D u T=>c87 (I.later u) T.is ω ω C L (hT.later u))
 ·exact c21_t na nb ua J _ uc _ Y _ ea eb _ _ _ y w hz hok V kN (fun W v D u T=>c87 (I.later u) T.is ω ω C L (hT.later u))
end Go.Proofs.YtfkaogdmlcdceaaGreatDoor
