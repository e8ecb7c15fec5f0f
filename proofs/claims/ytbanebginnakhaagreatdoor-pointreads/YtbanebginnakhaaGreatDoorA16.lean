/- Own work: contracts of the program's functions, part 16: DCK DCL DCM DCN DIA DCV DCO DCP DCQ DCR DCS DCW. -/
import Derived.Test.YtbanebginnakhaaGreatDoorA15
import Derived.Test.YtbanebginnakhaaGreatDoorA11
import Derived.Laws.RangeAny
import Derived.Laws.Runes
import Derived.WalkMore
import Derived.Lib.OthersKept
import Derived.Test.YtbanebginnakhaaGreatDoorA14
import Derived.BigQuiet
import Derived.Test.YtbanebginnakhaaGreatDoorA8

set_option maxHeartbeats 16000000
set_option maxRecDepth 200000
set_option linter.unusedVariables false
set_option linter.unusedSimpArgs false
namespace Go.Proofs.YtbanebginnakhaaGreatDoor
open Go.RowKit Go.Fl64
theorem yJ4 (f:Nat) (g1:Nat) (w:World)
  (h1:w.heap[g1]?=some (.cells #[.float .f64 f] 34 (0,0))) (hf:(FloatKind.f64.format.order f 0==some Ordering.eq)=true) :
  Calls Tryz.prog 61 #[.pointer (some ⟨g1,0,none⟩)] w fun r w'=>r=.returned (.string ⟨#[48]⟩)∧w'=w:=by
 have c1:=qI1 h1 (xL1 _ _);clear h1
 go_enter Tryz.func61,Tryz.ntmps61
 go_wp2
 go_ret;exact⟨rfl,rfl⟩
theorem yJ3 (f fa:Nat) (x:Int) (d t:List UInt8) (g1:Nat) (w:World)
  (h1:w.heap[g1]?=some (.cells #[.float .f64 f] 34 (0,0))) (hf:(FloatKind.f64.format.order f 0==some Ordering.eq)=false) (hx : -10000≤x∧x≤10000) (hd:d.length≤20000)
  (k1:∀ W,Calls Tryz.prog 63 #[.float .f64 f] W fun r w'=>r=.returned (.float .f64 fa)∧w'=W)
  (k2:Hid (Calls Tryz.prog 62 #[.float .f64 fa] w fun r w'=>r=.returned (.tuple #[.string ⟨d.toArray⟩,.int .i64 x])∧Bw w w'))
  (k3:Hid ((x < -5∨20<x)→∀ W,Bw w W→Calls Tryz.prog 64 #[.string ⟨d.toArray⟩,.int .i64 x] W fun r w'=>r=.returned (.string ⟨t.toArray⟩)∧Bw W w'))
  (k4:Hid (¬ (x < -5∨20<x)→∀ W,Bw w W→Calls Tryz.prog 65 #[.string ⟨d.toArray⟩,.int .i64 (d.length - 1 - x)] W fun r w'=>r=.returned (.string ⟨t.toArray⟩)∧Bw W w')) :
  Calls Tryz.prog 61 #[.pointer (some ⟨g1,0,none⟩)] w fun r w'=>r=.returned (.string ⟨t.toArray⟩)∧Bw w w':=by
 have c1:=qI1 h1 (xL1 _ _);have hsz:(⟨d.toArray⟩:ByteArray).size=d.length:=rfl;have hw1:IntKind.i64.wrap ((d.length:Int) - 1)=d.length - 1:=by rw[xW6];omega
 have hw2:IntKind.i64.wrap ((d.length:Int) - 1 - x)=d.length - 1 - x:=by rw[xW6];omega
 have kk:=k2.out;clear h1 k2;by_cases hc:x < -5∨20<x
 ·have k5:=k3.out hc;clear k3 k4;rcases hc with h|h
  ·clear hx
   go_enter Tryz.func61,Tryz.ntmps61
   go_wp2_with (first|(go_at_call 63;refine(k1 _).mono ?_;rintro r w' ⟨rfl,rfl⟩))
   refine kk.mono ?_;rintro r w1 ⟨rfl,hb1⟩;have HB:Hid (Below _ _ w1):=hb1;have k6:=k5 w1 hb1;clear kk hb1 c1 k5
   go_wp2_with fail;refine k6.mono ?_;rintro r w2 ⟨rfl,hb2⟩;have HB2:Hid (Below _ _ w2):=HB.out.trans (hb2.mono HB.out.size);clear k6 hb2 HB
   go_wp2
   go_ret;exact⟨rfl,HB2.out⟩
  ·have h0:¬ x < -5:=by omega
   go_enter Tryz.func61,Tryz.ntmps61
   go_wp2_with (first|(go_at_call 63;refine(k1 _).mono ?_;rintro r w' ⟨rfl,rfl⟩))
   refine kk.mono ?_;rintro r w1 ⟨rfl,hb1⟩;have HB:Hid (Below _ _ w1):=hb1;have k6:=k5 w1 hb1;clear kk hb1 c1 k5
   go_wp2_with fail;refine k6.mono ?_;rintro r w2 ⟨rfl,hb2⟩;have HB2:Hid (Below _ _ w2):=HB.out.trans (hb2.mono HB.out.size);clear k6 hb2 HB
   go_wp2
   go_ret;exact⟨rfl,HB2.out⟩
 ·have k5:=k4.out hc;have h0:¬ x < -5:=fun h=>hc (.inl h);have h1:¬ 20<x:=fun h=>hc (.inr h);clear k3 k4 hc
  go_enter Tryz.func61,Tryz.ntmps61
  go_wp2_with (first|(go_at_call 63;refine(k1 _).mono ?_;rintro r w' ⟨rfl,rfl⟩))
  refine kk.mono ?_;rintro r w1 ⟨rfl,hb1⟩;have HB:Hid (Below _ _ w1):=hb1;have k6:=k5 w1 hb1;clear kk hb1 c1 k5
  go_wp2_with fail;refine k6.mono ?_;rintro r w2 ⟨rfl,hb2⟩;have HB2:Hid (Below _ _ w2):=HB.out.trans (hb2.mono HB.out.size);clear k6 hb2 HB
  go_wp2
  go_ret;exact⟨rfl,HB2.out⟩
theorem zU9 (s1:Bool) (ao1:Option Addr) (n1 cp1:Nat) (e1:Int) (ta:Bool×Nat×Int) (f g:Nat) (b:Bool) (er:Int) (w:World) (h1:PN w (.agg #[.bool s1,.slice ao1 n1 cp1,.int .i64 e1]) ta)
  (k1:Hid (∀ W,Bw w W→PN W (.agg #[.bool s1,.slice ao1 n1 cp1,.int .i64 e1]) ta→Calls Tryz.prog 224 #[.agg #[.bool s1,.slice ao1 n1 cp1,.int .i64 e1],.int .i64 2] W fun r w'=>r=.returned (.tuple #[.float .f64 g,.int .i64 er])∧Bw W w'))
  (hb:(FloatKind.f64.format.order g f==some Ordering.eq)=b) :
  Calls Tryz.prog 200 #[.agg #[.bool s1,.slice ao1 n1 cp1,.int .i64 e1],.float .f64 f] w fun r w'=>r=.returned (.bool b)∧Bw w w':=by
 obtain⟨W,hW⟩:∃ W,W=w.alloc (.cells #[.bool s1,.slice ao1 n1 cp1,.int .i64 e1] 84):=⟨_,rfl⟩;have H0:Hid (PBx W w.heap.size s1 ao1 n1 cp1 e1 ta∧Bw w W):=(by
  have hb:Bw w W:=by rw[hW];exact(xL1 _ _).alloc (xL0 _) _
  exact⟨⟨by rw[hW];exact xW8 _ _,h1.later hb⟩,hb⟩:_∧_)
 obtain⟨⟨c0,c1,c2⟩,-⟩:=qQ1 H0.out.1.1;have kk:=k1.out W H0.out.2 H0.out.1.2;clear k1 h1
 go_enter Tryz.func200,Tryz.ntmps200
 go_upto_region 1 with fail;rw[←hW];clear hW
 go_wp2_with fail;refine kk.mono ?_;rintro r w1 ⟨rfl,hb1⟩;have HB:Hid (Bw w w1):=H0.out.2.trans (hb1.mono H0.out.2.size);clear kk hb1 H0 c0 c1 c2
 go_wp2
 go_ret;exact⟨rfl,HB.out⟩
theorem zU7 (f:Nat) (x:Int) (N:Nat) (ta t1 t2 tn:Bool×Nat×Int) (d c:List UInt8) (w:World) (hx : -10000≤x∧x≤10000) (hd:d.length≤20000)
  (k1:Hid (∀ W,Bw w W→Calls Tryz.prog 103 #[.float .f64 f] W fun r w'=>OutA W ta r w'))
  (k2:Hid (∀ W X,Bw w W→PN W X ta→Calls Tryz.prog 104 #[X] W fun r w'=>r=.returned (.int .i64 x)∧Bw W w'))
  (k3:Hid (∀ W,Bw w W→Calls Tryz.prog 83 #[.int .i64 (16 - x)] W fun r w'=>qS7 W t1 t2 r w'))
  (k4:Hid (∀ W X S,Bw w W→PN W X ta→Fv W S t1 t2→Calls Tryz.prog 106 #[.float .f64 f,X,S] W fun r w'=>r=.returned (.int .u64 N)∧Bw W w'))
  (k5:Hid (∀ W,Bw w W→Calls Tryz.prog 77 #[.int .u64 N] W fun r w'=>OutA W tn r w'))
  (k6:Hid (∀ W X,Bw w W→PN W X tn→Calls Tryz.prog 105 #[X] W fun r w'=>r=.returned (.string ⟨d.toArray⟩)∧Bw W w'))
  (k7:Hid (∀ W,Bw w W→Calls Tryz.prog 107 #[.string ⟨d.toArray⟩,.string ⟨#[48]⟩] W fun r w'=>r=.returned (.string ⟨c.toArray⟩)∧Bw W w')) :
  Calls Tryz.prog 62 #[.float .f64 f] w fun r w'=>r=.returned (.tuple #[.string ⟨c.toArray⟩,.int .i64 (d.length - 1 - (16 - x))])∧Bw w w':=by
 have hw1:IntKind.i64.wrap (16 - x)=16 - x:=by rw[xW6];omega
 have hw2:IntKind.i64.wrap ((d.length:Int) - 1)=d.length - 1:=by rw[xW6];omega
 have hw3:IntKind.i64.wrap ((d.length:Int) - 1 - (16 - x))=d.length - 1 - (16 - x):=by rw[xW6];omega
 have hsz:(⟨d.toArray⟩:ByteArray).size=d.length:=rfl;have kk:=k1.out w (xL1 _ _);clear k1
 go_enter Tryz.func62,Tryz.ntmps62
 go_wp2_with fail;refine kk.mono ?_;rintro r w1 ⟨s1,ao1,n1,cp1,e1,rfl,hA,hb1⟩;clear kk;obtain⟨W1,hW1⟩:∃ W1,W1=w1.alloc (.cells #[.bool s1,.slice ao1 n1 cp1,.int .i64 e1] 84):=⟨_,rfl⟩;have hbV:Bw w1 W1:=by rw[hW1];exact(xL1 _ _).alloc (xL0 _) _
 have n6:W1.heap[w1.heap.size]?=some (.cells #[.bool s1,.slice ao1 n1 cp1,.int .i64 e1] 84 (0,0)):=by rw[hW1];exact xW8 _ _
 go_upto_region 2 with fail;rw[←hW1];clear hW1;have hA':=hA.later hbV;have hB1:Bw w W1:=hb1.trans (hbV.mono hb1.size);clear hbV hA hb1;generalize w1.heap.size=gqA at *;have H1:Hid (PBx W1 gqA s1 ao1 n1 cp1 e1 ta∧Bw w W1):=⟨⟨n6,hA'⟩,hB1⟩;obtain⟨⟨c0,c1,c2⟩,-⟩:=qQ1 H1.out.1.1;have kk:=k2.out W1 _ hB1 hA';clear k2 n6 hA' hB1
 go_wp2_with fail;refine kk.mono ?_;rintro r w2 ⟨rfl,hb2⟩;have H2:Hid (PBx w2 gqA s1 ao1 n1 cp1 e1 ta∧Bw w w2):=⟨H1.out.1.later hb2,H1.out.2.trans (hb2.mono H1.out.2.size)⟩;clear kk hb2 H1 c0 c1 c2
 go_upto_region 4 with fail;obtain⟨m1,hBW⟩:=H2.out;refine qF9 [0,1,2,3,4,5,6,7] [14,15,16,17,18,19,20,7] [[],[],[],[2],[0,1,3],[4],[5],[6]] w2 _ [isV (.float .f64 f),isV (.agg #[.bool s1,.slice ao1 n1 cp1,.int .i64 e1]),isV (.int .i64 (16 - x)),isF t1 t2,isV (.int .u64 N),isP tn,isV (.string ⟨d.toArray⟩),isV (.string ⟨d.toArray⟩)] (by kernel_rfl) ⟨qQ2 _,qQ2 _,qQ2 _,zZ1 _ _,qQ2 _,qX8 _,qQ2 _,qQ2 _,trivial⟩ (by show ∀ s ∈ [14,15,16,17,18,19,20,7],s<28;decide) ?_ ?_
 ·intro j hj o ho act U hb hoth hdep;have hj':j<8:=hj;have hbU:Bw w U:=hBW.trans (hb.mono hBW.size);have t0':act.tmps[(0:Nat)]?=some (Value.float .f64 f):=(hoth 0 (by decide)).trans rfl
  have t4':act.tmps[(4:Nat)]?=some (Value.pointer (some ⟨gqA,0,none⟩)):=(hoth 4 (by decide)).trans rfl
  have t6':act.tmps[(6:Nat)]?=some (Value.int .i64 (16 - x)):=(hoth 6 (by decide)).trans rfl
  have d4:=(qJ7 (qQ m1.1 hb (qQ6 m1.1))).1;rcases(by omega:j=0∨j=1∨j=2∨j=3∨j=4∨j=5∨j=6∨j=7)with rfl|rfl|rfl|rfl|rfl|rfl|rfl|rfl
  ·obtain rfl:=xL2 ho;exact .inl ⟨rfl,qZ5 rfl t0' ⟨_,rfl,rfl,xL1 _ _⟩⟩
  ·obtain rfl:=xL2 ho;exact .inl ⟨rfl,qJ1 (f:=0) rfl t4' d4.1 d4.2.1 d4.2.2 ⟨_,rfl,rfl,xL1 _ _⟩⟩
  ·obtain rfl:=xL2 ho;exact .inl ⟨rfl,qZ5 rfl t6' ⟨_,rfl,rfl,xL1 _ _⟩⟩
  ·obtain rfl:=xL2 ho;have y2:act.tmps[(16:Nat)]?=_:=dV (hdep 2 (by simp[dL])) rfl
   refine .inl ⟨rfl,qZ1 rfl (qX2 Tryz.func83 (by kernel_rfl) (by kernel_rfl)) (qB8 y2) ?_⟩
   refine(k3.out U hbU).mono ?_
   rintro r w' ⟨A,rfl,hA,hb'⟩;exact⟨_,rfl,_,rfl,hA,hb'⟩
  ·obtain rfl:=xL2 ho;have y0:act.tmps[(14:Nat)]?=_:=dV (hdep 0 (by simp[dL])) rfl
   have y1:act.tmps[(15:Nat)]?=_:=dV (hdep 1 (by simp[dL])) rfl
   obtain⟨u3,y3,v3⟩:=hdep 3 (by simp[dL])
   have y3':act.tmps[(17:Nat)]?=_:=y3;refine .inl ⟨rfl,qZ1 rfl (qX2 Tryz.func106 (by kernel_rfl) (by kernel_rfl)) (xF8 y0 y1 y3') ?_⟩
   refine(k4.out U _ _ hbU (m1.2.later hb) v3).mono ?_
   rintro r w' ⟨rfl,hb'⟩;exact⟨_,rfl,_,rfl,rfl,hb'⟩
  ·obtain rfl:=xL2 ho;have y4:act.tmps[(18:Nat)]?=_:=dV (hdep 4 (by simp[dL])) rfl
   refine .inl ⟨rfl,qZ1 rfl (qX2 Tryz.func77 (by kernel_rfl) (by kernel_rfl)) (qB8 y4) ?_⟩
   refine(k5.out U hbU).mono ?_
   rintro r w' ⟨_,_,_,_,_,rfl,hA,hb'⟩;exact⟨_,rfl,_,rfl,hA,hb'⟩
  ·obtain rfl:=xL2 ho;obtain⟨u5,y5,v5⟩:=hdep 5 (by simp[dL])
   have y5':act.tmps[(19:Nat)]?=_:=y5;refine .inl ⟨rfl,qZ1 rfl (qX2 Tryz.func105 (by kernel_rfl) (by kernel_rfl)) (qB8 y5') ?_⟩
   refine(k6.out U _ hbU v5).mono ?_
   rintro r w' ⟨rfl,hb'⟩;exact⟨_,rfl,_,rfl,rfl,hb'⟩
  ·obtain rfl:=xL2 ho;have y6:act.tmps[(20:Nat)]?=_:=dV (hdep 6 (by simp[dL])) rfl
   exact .inl ⟨rfl,qX3 rfl y6 ⟨_,rfl,rfl,xL1 _ _⟩⟩
 ·intro u W5 hb5 hu;have u7:u 7=.string ⟨d.toArray⟩:=hu 7 (by show 7<8;decide)
  have HB:Hid (Bw w W5):=hBW.trans (hb5.mono hBW.size);have kk:=k7.out W5 HB.out;clear hu hb5 k3 k4 k5 k6 k7 H2 m1 hBW hw1;simp only[putL,show List.range 8 = [0,1,2,3,4,5,6,7] from rfl,show List.range 8 = [0,1,2,3,4,5,6,7] from rfl,List.length_cons,List.length_nil,List.getD_cons_zero,List.getD_cons_succ,List.map_cons,List.map_nil,List.cons_append,List.nil_append,List.foldl_cons,List.foldl_nil,Nat.reduceLT,Nat.reduceMod,Nat.reduceDiv,Nat.reduceMul,Nat.reduceAdd,Nat.reduceEqDiff,reduceIte,Nat.one_ne_zero,Act.put,List.setIfInBounds_toArray,List.set_cons_zero,List.set_cons_succ];rw[u7];clear u7
  go_wp2_with fail;refine kk.mono ?_;rintro r w6 ⟨rfl,hb6⟩;have HB6:Hid (Bw w w6):=HB.out.trans (hb6.mono HB.out.size);clear kk hb6 HB
  go_wp2;refine xW9 (xE3 rfl _ _ _) rfl ?_;exact⟨rfl,HB6.out⟩
def isDg (c:Nat) (b:Int):Bool:=(decide (48≤c)&&decide (c≤57))||(((decide (97≤c)&&decide (c≤102))||(decide (65≤c)&&decide (c≤70)))&&(b==16))
theorem yM3 (c:Nat) (b:Int) (w:World) (hc:c<256) :
  Calls Tryz.prog 73 #[.int .u8 c,.int .i64 b] w fun r w'=>r=.returned (.bool (isDg c b))∧w'=w:=by
 rcases(by omega:c≤47∨(48≤c∧c≤57)∨(58≤c∧c≤64)∨(65≤c∧c≤70)∨(71≤c∧c≤96)∨(97≤c∧c≤102)∨103≤c)with h|h|h|h|h|h|h
 ·have hr:isDg c b=false:=by
   unfold isDg;rw[show(decide (48≤c)&&decide (c≤57))=false by simp;omega,show((decide (97≤c)&&decide (c≤102))||(decide (65≤c)&&decide (c≤70)))=false by simp;omega];simp
  have z48:¬ (48:Int)≤(c:Int):=by omega
  have z57:(c:Int)≤57:=by omega
  have z97:¬ (97:Int)≤(c:Int):=by omega
  have z102:(c:Int)≤102:=by omega
  have z65:¬ (65:Int)≤(c:Int):=by omega
  have z70:(c:Int)≤70:=by omega
  rw[hr];clear hr h hc
  go_enter Tryz.func73,Tryz.ntmps73
  go_wp2
  go_ret;exact⟨rfl,rfl⟩
 ·have hr:isDg c b=true:=by
   unfold isDg;simp;omega
  have z48:(48:Int)≤(c:Int):=by omega
  have z57:(c:Int)≤57:=by omega
  have z97:¬ (97:Int)≤(c:Int):=by omega
  have z102:(c:Int)≤102:=by omega
  have z65:¬ (65:Int)≤(c:Int):=by omega
  have z70:(c:Int)≤70:=by omega
  rw[hr];clear hr h hc
  go_enter Tryz.func73,Tryz.ntmps73
  go_wp2
  go_ret;exact⟨rfl,rfl⟩
 ·have hr:isDg c b=false:=by
   unfold isDg;rw[show(decide (48≤c)&&decide (c≤57))=false by simp;omega,show((decide (97≤c)&&decide (c≤102))||(decide (65≤c)&&decide (c≤70)))=false by simp;omega];simp
  have z48:(48:Int)≤(c:Int):=by omega
  have z57:¬ (c:Int)≤57:=by omega
  have z97:¬ (97:Int)≤(c:Int):=by omega
  have z102:(c:Int)≤102:=by omega
  have z65:¬ (65:Int)≤(c:Int):=by omega
  have z70:(c:Int)≤70:=by omega
  rw[hr];clear hr h hc
  go_enter Tryz.func73,Tryz.ntmps73
  go_wp2
  go_ret;exact⟨rfl,rfl⟩
 ·have hr:isDg c b=(b==16):=by
   unfold isDg;rw[show(decide (48≤c)&&decide (c≤57))=false by simp;omega,show((decide (97≤c)&&decide (c≤102))||(decide (65≤c)&&decide (c≤70)))=true by simp;omega];simp
  have z48:(48:Int)≤(c:Int):=by omega
  have z57:¬ (c:Int)≤57:=by omega
  have z97:¬ (97:Int)≤(c:Int):=by omega
  have z102:(c:Int)≤102:=by omega
  have z65:(65:Int)≤(c:Int):=by omega
  have z70:(c:Int)≤70:=by omega
  rw[hr];clear hr h hc
  go_enter Tryz.func73,Tryz.ntmps73
  go_wp2
  go_ret;exact⟨rfl,rfl⟩
 ·have hr:isDg c b=false:=by
   unfold isDg;rw[show(decide (48≤c)&&decide (c≤57))=false by simp;omega,show((decide (97≤c)&&decide (c≤102))||(decide (65≤c)&&decide (c≤70)))=false by simp;omega];simp
  have z48:(48:Int)≤(c:Int):=by omega
  have z57:¬ (c:Int)≤57:=by omega
  have z97:¬ (97:Int)≤(c:Int):=by omega
  have z102:(c:Int)≤102:=by omega
  have z65:(65:Int)≤(c:Int):=by omega
  have z70:¬ (c:Int)≤70:=by omega
  rw[hr];clear hr h hc
  go_enter Tryz.func73,Tryz.ntmps73
  go_wp2
  go_ret;exact⟨rfl,rfl⟩
 ·have hr:isDg c b=(b==16):=by
   unfold isDg;rw[show(decide (48≤c)&&decide (c≤57))=false by simp;omega,show((decide (97≤c)&&decide (c≤102))||(decide (65≤c)&&decide (c≤70)))=true by simp;omega];simp
  have z48:(48:Int)≤(c:Int):=by omega
  have z57:¬ (c:Int)≤57:=by omega
  have z97:(97:Int)≤(c:Int):=by omega
  have z102:(c:Int)≤102:=by omega
  have z65:(65:Int)≤(c:Int):=by omega
  have z70:¬ (c:Int)≤70:=by omega
  rw[hr];clear hr h hc
  go_enter Tryz.func73,Tryz.ntmps73
  go_wp2
  go_ret;exact⟨rfl,rfl⟩
 ·have hr:isDg c b=false:=by
   unfold isDg;rw[show(decide (48≤c)&&decide (c≤57))=false by simp;omega,show((decide (97≤c)&&decide (c≤102))||(decide (65≤c)&&decide (c≤70)))=false by simp;omega];simp
  have z48:(48:Int)≤(c:Int):=by omega
  have z57:¬ (c:Int)≤57:=by omega
  have z97:(97:Int)≤(c:Int):=by omega
  have z102:¬ (c:Int)≤102:=by omega
  have z65:(65:Int)≤(c:Int):=by omega
  have z70:¬ (c:Int)≤70:=by omega
  rw[hr];clear hr h hc
  go_enter Tryz.func73,Tryz.ntmps73
  go_wp2
  go_ret;exact⟨rfl,rfl⟩
def bL (L:List UInt8) (k:Nat):Nat:=((L[k]?).getD 0).toNat
theorem yY4 (L:List UInt8) (k:Nat):bL L k<256:=UInt8.toNat_lt _
theorem qU0 (L:List UInt8) (k:Nat) (h:k<(⟨L.toArray⟩:ByteArray).size):((⟨L.toArray⟩:ByteArray)[k]'h).toNat=bL L k:=by
 unfold bL;have h2:k<L.length:=h;rw[List.getElem?_eq_getElem h2];rfl
def qZ8 (L:List UInt8) (b:Int):Bool:=L.all (fun c=>isDg c.toNat b)
theorem qU1 (L:List UInt8) (b:Int):qZ8 L b=true↔∀ k,k<L.length→isDg (bL L k) b=true:=by
 unfold qZ8 bL;rw[List.all_eq_true];constructor
 ·intro h k hk;rw[List.getElem?_eq_getElem hk];exact h _ (List.getElem_mem hk)
 ·intro h x hx;obtain⟨k,hk,rfl⟩:=List.getElem_of_mem hx;have:=h k hk
  rw[List.getElem?_eq_getElem hk] at this;exact this
theorem qE0 (L:List UInt8) (b:Int) (w:World) (hL:L.length≤2000000) :
  Calls Tryz.prog 45 #[.string ⟨L.toArray⟩,.int .i64 b] w fun r w'=>r=.returned (.bool (qZ8 L b&&decide (L ≠ [])))∧w'=w:=by
 have hsz:(⟨L.toArray⟩:ByteArray).size=L.length:=rfl;have HL:Hid (qZ8 L b=true↔∀ k,k<L.length→isDg (bL L k) b=true):=qU1 L b;obtain⟨n,hn⟩:∃ n,n=L.length:=⟨_,rfl⟩;rw[←hn] at hsz hL HL;have hg:∀ k (h:k<(⟨L.toArray⟩:ByteArray).size),((⟨L.toArray⟩:ByteArray)[k]'h).toNat=bL L k:=qU0 L;have Hn:Hid (n=L.length):=hn;obtain⟨al,hal⟩:∃ al,al=qZ8 L b:=⟨_,rfl⟩;have Hal:Hid (al=qZ8 L b):=hal;rw[←hal] at HL ⊢;clear hn hal
 go_enter Tryz.func45,Tryz.ntmps45
 go_wp2
 go_loopw [8] (fun v wr=>∃ i:Nat,i≤n∧v=.int .i64 i∧wr=w∧Hid (∀ k,k<i→isDg (bL L k) b=true)) (fun v _=>n - (intOf v).toNat)
 case atStart=>exact⟨0,xW5 _,rfl,rfl,(fun k hk=>absurd hk (Nat.not_lt_zero _):∀ k,k<0→isDg (bL L k) b=true)⟩
 case round =>
  obtain⟨i,hi,rfl,rfl,hM⟩:=hrel;by_cases hic:i<n
  ·have hii:(i:Int)<(n:Int):=by omega
   have hwi:IntKind.i64.wrap ((i:Int)+1)=(i:Int)+1:=by rw[xW6];omega
   have kd:=yM3 (bL L i) b;have hlt:=yY4 L i
   go_wp2_with fail;refine(kd _ hlt).mono ?_
   rintro r w1 ⟨rfl,rfl⟩;clear kd hlt;obtain⟨q,hq⟩:∃ q,q=isDg (bL L i) b:=⟨_,rfl⟩;rw[←hq];have Hq:Hid (q=isDg (bL L i) b):=hq;clear hq;cases q
   ·have ha:al=false:=by
     cases al
     ·rfl
     ·have h3:=HL.out.1 rfl i hic;rw[←Hq.out] at h3;cases h3
    subst ha;clear hg
    go_wp2
    go_ret;exact⟨rfl,rfl⟩
   ·clear hg
    go_wp2;refine⟨⟨i+1,by omega,by push_cast;rfl,by first|rfl|trivial,(fun k hk=>?_:∀ k,k<i+1→isDg (bL L k) b=true)⟩,by simp[intOf];omega⟩
    by_cases hk2:k<i
    ·exact hM.out k hk2
    ·obtain rfl:k=i:=by omega
     exact Hq.out.symm
  ·have hii:¬ (i:Int)<(n:Int):=by omega
   have ha:al=true:=HL.out.2 fun k hk=>hM.out k (by omega)
   subst ha;clear hg hM
   go_wp2
   go_ret;have he:L.isEmpty=decide (L = []):=by cases L <;> simp
   refine⟨?_,rfl⟩
   show Ending.returned (Value.bool (!L.isEmpty))=_
   rw[he]
end Go.Proofs.YtbanebginnakhaaGreatDoor
namespace Go.Proofs.YtbanebginnakhaaGreatDoor
open Go Go.RowKit Go.Fl64
theorem qS6 (w:World) (s:ByteArray) (p:Nat):Below w.heap.size w (w.iter s p):=(xL1 _ _).alloc (xL0 _) _
theorem xY1 (c0 c1:UInt8) (h0:c0.toNat<128) (h1:c1.toNat<128) (r:Int) (hr:128≤r) (hr2:r≤2147483647) (w:World) :
  Calls Tryz.prog 68 #[.string ⟨#[c0,c1]⟩,.int .i32 r] w fun e w'=>e=.returned (.int .i64 (-1))∧Bw w w':=by
 have hsz:(⟨#[c0,c1]⟩:ByteArray).size=2:=rfl;obtain⟨s,hs⟩:∃ s:ByteArray,s=⟨#[c0,c1]⟩:=⟨_,rfl⟩;rw[←hs] at hsz ⊢;have q1:(0:Int)≤r:=by omega
 have q2:¬ (r<128):=by omega
 have g0:s[0]'(by omega)=c0:=by subst hs;rfl
 have g1:s[1]'(by omega)=c1:=by subst hs;rfl
 by_cases h3:r=65533
 ·subst h3;have n0:=fun ty=>run_next_ascii (P:=Tryz.prog) w s 0 ty (by omega) (by rw[g0];exact h0)
  have n1:=fun ty=>run_next_ascii (P:=Tryz.prog) w s 1 ty (by omega) (by rw[g1];exact h1)
  have n2:=fun ty=>run_next_end (P:=Tryz.prog) w s 2 ty (by omega)
  rw[g0] at n0;rw[g1] at n1;have e0:((c0.toNat:Int)==65533)=false:=by rw[xC2];omega
  have e1:((c1.toNat:Int)==65533)=false:=by rw[xC2];omega
  have HB:Hid (Below w.heap.size w (w.iter s 2)):=qS6 _ _ _;clear hs g0 g1 hr hr2 q1 q2 h0 h1
  go_enter Tryz.func68,Tryz.ntmps68
  go_wp2_with fail
  go_loopg [5,6] 2 (fun g _ _ wx=>∃ i:Nat,i+g=2∧wx=w.iter s i)
  case atStart=>exact⟨0,rfl,rfl⟩
  case round =>
   obtain⟨i,hig,rfl⟩:=hrel;rcases(by omega:i=0∨i=1∨i=2)with rfl|rfl|rfl
   ·go_wp2
    go_roundg 1
    case measure=>omega
    case rel=>exact⟨1,rfl,rfl⟩
   ·go_wp2
    go_roundg 0
    case measure=>omega
    case rel=>exact⟨2,rfl,rfl⟩
   ·go_wp2
    go_ret;exact⟨rfl,HB.out⟩
 ·have h3':(r==65533)=false:=by rw[xC2];exact h3
  have kv:=Tryz.utf8_ValidRune r;cases hv:Lib.validRune r
  ·rw[hv] at kv;clear hs g0 g1 hsz h3 hv
   go_enter Tryz.func68,Tryz.ntmps68
   go_wp2_with (first|(go_at_call 111;refine(kv _).mono ?_;rintro e w' ⟨rfl,hw⟩;replace hw:=hw.symm;subst hw))
   go_ret;exact⟨rfl,xL1 _ _⟩
  ·rw[hv] at kv;have hval:Utf8.valid r=true:=by
    rw[validRune_eq];unfold Lib.validRune at hv;simpa [validRune] using hv
   obtain⟨f1,f2,f3⟩:=encode_facts r hval hr;have hcv:∀ w,(convert 21 9 (.int .i32 r)).run Tryz.prog w=.ok (.string (Utf8.encode r)) w:=fun w=>run_convert_int_string w _ _ _ _ (by rw[Tryz.underlying21];rfl) Tryz.underlying9
   generalize hE:Utf8.encode r=E at *;obtain⟨lz,hlz⟩:∃ lz,E.size=lz:=⟨_,rfl⟩;have wl:IntKind.i64.wrap ((lz:Int) - 1)=((lz - 1:Nat):Int):=by rw[xW6];omega
   clear hv hval h3 hE;rw[hlz] at f1 f2;clear g0 hr hr2;by_cases hl:lz=2
   ·obtain⟨cl,hcl⟩:∃ cl:UInt8,E[1]'(by omega)=cl:=⟨_,rfl⟩
    have hc128:128≤cl.toNat:=by
     have:=f3 (by omega)
     rw[←hcl];simpa [hlz,hl] using this
    subst hl;have kk:∀ w,Calls Tryz.prog 110 #[.string ByteArray.empty,.int .u8 (cl.toNat:Int)] w fun e w'=>e=.returned (.int .i64 (-1))∧w'=w:=fun w=>Tryz.strings_IndexByte ByteArray.empty (cl.toNat:Int) w;have x2:IntKind.i64.wrap (1+1)=2:=by decide
    have x3:IntKind.i64.wrap 2=2:=by decide
    have ne:((c1.toNat:Int)==(cl.toNat:Int))=false:=by rw[xC2];omega
    have gs:∀ h,(s[1]'h).toNat=c1.toNat:=fun h=>by rw[g1]
    have gE:∀ h,(E[1]'h).toNat=cl.toNat:=fun h=>by rw[hcl]
    have x1:(1:Int)<2:=by decide
    clear f3 f1 f2 g1 hcl hs
    go_enter Tryz.func68,Tryz.ntmps68
    go_wp2_with (first|(go_at_call 111;refine(kv _).mono ?_;rintro e w' ⟨rfl,hw⟩;replace hw:=hw.symm;subst hw))
    go_step3
    go_wp2_with fail
    go_loopg [9] 0 (fun g v wx=>v=.int .i64 1∧wx=w)
    case atStart=>exact⟨rfl,rfl⟩
    case round =>
     obtain⟨rfl,hw⟩:=hrel;replace hw:=hw.symm;subst hw
     go_wp2_with fail
     go_step3
     go_upto_region 6 with fail
     go_quiet (fail)
     have HB:Hid (Below w.heap.size w (w.drewN nq)):=qD3 (xL1 _ _) _
     go_upto_region 7 with fail;generalize w.drewN nq=w1 at *
     go_quiet (first|(go_at_call 110;refine Calls.quiet_of_same (kk _)))
     go_wp2;rw[Exit.noGoto_ret];simp only[Exit.inBlock,Exit.then,Exit.noGoto_ret]
     go_ret;exact⟨rfl,qD3 HB.out _⟩
   ·have hn:¬ ((lz - 1:Nat):Int)<2:=by omega
    clear f3 hs g1 hl f1 f2
    go_enter Tryz.func68,Tryz.ntmps68
    go_wp2_with (first|(go_at_call 111;refine(kv _).mono ?_;rintro e w' ⟨rfl,hw⟩;replace hw:=hw.symm;subst hw))
    go_step3
    go_wp2_with fail
    go_loopg [9] 0 (fun g v wx=>v=.int .i64 ((lz - 1:Nat):Int)∧wx=w)
    case atStart=>exact⟨rfl,rfl⟩
    case round =>
     obtain⟨rfl,hw⟩:=hrel;replace hw:=hw.symm;subst hw
     go_wp2;rw[Exit.noGoto_ret]
     go_ret;exact⟨rfl,xL1 _ _⟩
def asc (L:List UInt8):Bool:=L.all (fun c=>decide (c.toNat<128))
def IxA (L M:List UInt8) (v:Int):Prop:=((asc L=true∨8<L.length)→v=Lib.indexAny L M)∧(v = -1∨∃ i,i<L.length∧v=(i:Int)∧∃ c,L[i]?=some c∧M.contains c=true)
theorem xT9 (L:List UInt8) (c0 c1:UInt8) (h0:c0.toNat<128) (h1:c1.toNat<128) (w:World) (h8:L.length≤8) :
  Calls Tryz.prog 42 #[.string ⟨L.toArray⟩,.string ⟨#[c0,c1]⟩] w fun e w'=>∃ v:Int,e=.returned (.int .i64 v)∧(v = -1∨∃ i,i<L.length∧v=(i:Int)∧∃ c,L[i]?=some c ∧ [c0,c1].contains c=true)∧Bw w w':=by
 obtain⟨s,hs⟩:∃ s:ByteArray,s=⟨L.toArray⟩:=⟨_,rfl⟩;obtain⟨t,ht⟩:∃ t:ByteArray,t=⟨#[c0,c1]⟩:=⟨_,rfl⟩;have hsz:s.size=L.length:=by rw[hs];rfl
 have htz:t.size=2:=by rw[ht];rfl
 have hte:t.toList.isEmpty=false:=by rw[Lib.toList_data,ht];rfl
 have Hl:Hid (∀ i (h:i<s.size),L[i]?=some (s[i]'h)):=fun i h=>by
  have h2:i<L.length:=by omega
  subst hs;rw[List.getElem?_eq_getElem h2];rfl
 have kr:∀ (r:Int) W,128≤r→r≤2147483647→Calls Tryz.prog 68 #[.string t,.int .i32 r] W fun e w'=>e=.returned (.int .i64 (-1))∧Bw W w':=fun r W a b=>by rw[ht];exact xY1 c0 c1 h0 h1 r a b W
 have ka:∀ (r:Int) W,0≤r→r<128→Calls Tryz.prog 68 #[.string t,.int .i32 r] W fun e w'=>e=.returned (.int .i64 (Lib.indexByte [c0,c1] r.toNat.toUInt8))∧w'=W:=fun r W a b=>by
  have h:=Tryz.strings_IndexRune_ascii t r W a b;rw[ht] at h ⊢;exact h
 have ku:=Tryz.strings_shouldUseASCIISet;rw[←hs,←ht];clear hs ht
 go_enter Tryz.func42,Tryz.ntmps42;have hu:∀ W,Calls Tryz.prog 69 #[.int .i64 (L.length:Int)] W fun e w'=>e=.returned (.bool false)∧w'=W:=fun W=>by
  have h:=ku (L.length:Int) W;rw[show decide ((8:Int)<(L.length:Int))=false from xL3 (by omega)] at h
  exact h
 clear ku;obtain⟨n,hn⟩:∃ n,L.length=n:=⟨_,rfl⟩;rw[hn] at hsz h8
 go_wp2_with (first|(go_at_call 69;rw[hn] at hu;refine(hu _).mono ?_;rintro e w' ⟨rfl,hw⟩;replace hw:=hw.symm;subst hw))
 go_loopg [9,10] n (fun g _ _ wx=>∃ p:Nat,n≤p+g∧Hid (wx.heap[w.heap.size]?=some (.stringIter s p)∧Bw w wx))
 case atStart=>exact⟨0,by omega,⟨World.iter_heap _ _ _,qS6 _ _ _⟩⟩
 case round =>
  obtain⟨p,hpg,HI⟩:=hrel;by_cases hp:p<n
  ·have hp':p<s.size:=by omega
   have hnx:=fun ty=>Lib.run_next_any_at (P:=Tryz.prog) wr w.heap.size s p ty HI.out.1 hp';obtain⟨x,hx⟩:∃ x:UInt8,s[p]'hp'=x:=⟨_,rfl⟩;have HX:Hid (L[p]?=some x):=(by rw[Hl.out p hp',hx]:L[p]?=some x)
   have hd2:1≤(Utf8.decode s p).2:=by
    by_cases h:(s[p]'hp').toNat<128
    ·rw[decode_ascii s p hp' h];exact xL0 1
    ·exact(decode_high s p hp' (by omega)).2
   have HN:Hid ((wr.iterAt w.heap.size s (p+(Utf8.decode s p).2)).heap[w.heap.size]?=some (.stringIter s (p+(Utf8.decode s p).2))∧Below w.heap.size w (wr.iterAt w.heap.size s (p+(Utf8.decode s p).2))):=⟨Lib.iterAt_heap _ _ _ _ _ HI.out.1,Lib.below_iterAt HI.out.2 (xL0 _) _ _⟩;generalize hp2:p+(Utf8.decode s p).2=p2 at *;have hpp:p<p2:=by omega
   generalize wr.iterAt w.heap.size s p2=W2 at *;by_cases ha:x.toNat<128
   ·have hd1:(Utf8.decode s p).1=x.toNat:=by rw[decode_ascii s p hp' (by rw[hx];exact ha),hx]
    rw[hd1] at hnx;have hk:=ka (x.toNat:Int) W2 (by omega) (by omega)
    have hback:((x.toNat:Int)).toNat.toUInt8=x:=by simp
    rw[hback] at hk;have hcon:=Lib.contains_iff_indexByte [c0,c1] x;clear hd2 hd1 hp2 hx ka kr hback;cases hin : [c0,c1].contains x
    ·rw[hin] at hcon;have hlt:¬ ((0:Int)≤Lib.indexByte [c0,c1] x):=of_decide_eq_false hcon.symm;clear hcon;generalize Lib.indexByte [c0,c1] x=v at *
     go_wp2_with fail;refine hk.mono ?_;rintro e w' ⟨rfl,hw⟩;replace hw:=hw.symm;subst hw
     go_wp2
     go_roundg (gk - 1)
     case measure=>omega
     case rel=>exact⟨p2,by omega,HN⟩
    ·rw[hin] at hcon;have hge:(0:Int)≤Lib.indexByte [c0,c1] x:=of_decide_eq_true hcon.symm;clear hcon;generalize Lib.indexByte [c0,c1] x=v at *;have HC:Hid ([c0,c1].contains x=true):=hin;clear hin
     go_wp2_with fail;refine hk.mono ?_;rintro e w' ⟨rfl,hw⟩;replace hw:=hw.symm;subst hw
     go_wp2
     go_ret;exact⟨_,rfl,.inr ⟨p,by omega,rfl,x,HX.out,HC.out⟩,HN.out.2⟩
   ·have hd1:=(decode_high s p hp' (by rw[hx];omega)).1
    have hd3:=decode_le s p;have hk:=kr ((Utf8.decode s p).1:Int) W2 (by omega) (by omega)
    generalize (Utf8.decode s p).1=r at *;clear hd2 hd1 hd3 hp2 hx ka kr
    go_wp2_with fail;refine hk.mono ?_;rintro e w3 ⟨rfl,hb⟩;have HN3:Hid (w3.heap[w.heap.size]?=some (.stringIter s p2)∧Bw w w3):=⟨(hb.block _ (Array.getElem?_eq_some_iff.1 HN.out.1).1).trans HN.out.1,HN.out.2.trans (hb.mono HN.out.2.size)⟩;clear hk hb HN
    go_wp2
    go_roundg (gk - 1)
    case measure=>omega
    case rel=>exact⟨p2,by omega,HN3⟩
  ·have hp':¬ p<s.size:=by omega
   have hnx:=fun ty=>Lib.run_next_end_at (P:=Tryz.prog) wr w.heap.size s p ty HI.out.1 hp';clear ka kr
   go_wp2
   go_ret;exact⟨_,rfl,.inl rfl,HI.out.2⟩
theorem yV7:(∀ w,(zeroValue 109).run Tryz.prog w=.ok (.agg (Array.replicate 256 (.bool false))) w)∧(Tryz.prog.info? 109).map (·.size)=some 256:=zero_of_info (by kernel_rfl)
theorem qV8 (L M:List UInt8):Lib.indexAny L M = -1∨∃ i,i<L.length∧Lib.indexAny L M=(i:Int)∧∃ c,L[i]?=some c∧M.contains c=true:=by
 induction L with
 | nil=>exact .inl rfl
 | cons b l ih =>
  unfold Lib.indexAny;by_cases hb:M.contains b=true
  ·rw[if_pos hb];exact .inr ⟨0,by simp,rfl,b,rfl,hb⟩
  ·rw[if_neg hb];rcases ih with h|⟨i,h1,h2,c,h3,h4⟩
   ·rw[h];exact .inl rfl
   ·rw[h2];have hne:((i:Int) == -1)=false:=by rw[xC2];omega
    rw[hne];exact .inr ⟨i+1,by simp;omega,by simp,c,by simpa using h3,h4⟩
theorem Dany (L:List UInt8) (c0 c1:UInt8) (h0:c0.toNat<128) (h1:c1.toNat<128) (w:World) (hL:L.length≤1100000) :
  Calls Tryz.prog 42 #[.string ⟨L.toArray⟩,.string ⟨#[c0,c1]⟩] w fun e w'=>∃ v:Int,e=.returned (.int .i64 v)∧IxA L [c0,c1] v∧Bw w w':=by
 have hc:∀ (j:Nat) (b:UInt8),(⟨#[c0,c1]⟩:ByteArray).data.toList[j]?=some b→b.toNat<128:=fun j b hb=>by
  have hb' : [c0,c1][j]?=some b:=hb;rcases(by omega:j=0∨j=1∨2≤j)with rfl|rfl|h
  ·obtain rfl:c0=b:=by simpa using hb'
   exact h0
  ·obtain rfl:c1=b:=by simpa using hb'
   exact h1
  ·rw[List.getElem?_eq_none (by simpa using h)] at hb'
   cases hb'
 have hsz:(⟨L.toArray⟩:ByteArray).size=L.length:=rfl;by_cases h8:L.length≤8
 ·by_cases ha:asc L=true
  ·refine(Tryz.strings_IndexAny_short ⟨L.toArray⟩ ⟨#[c0,c1]⟩ w (by show 2≤2;omega) h8 ?_).mono ?_
   ·intro j b hb;have hb':L[j]?=some b:=by simpa using hb
    have:=List.all_eq_true.1 ha b (List.mem_of_getElem? hb')
    simpa using this
   ·rintro e w' ⟨rfl,p,rfl⟩;exact⟨_,rfl,⟨fun _=>rfl,qV8 _ _⟩,qS6 _ _ _⟩
  ·refine(xT9 L c0 c1 h0 h1 w h8).mono ?_
   rintro e w' ⟨v,rfl,hv,hb⟩;exact⟨v,rfl,⟨fun h=>(h.elim ha (by omega)).elim,hv⟩,hb⟩
 ·refine(Tryz.strings_IndexAny_long yV7.1 ⟨L.toArray⟩ ⟨#[c0,c1]⟩ w (by show 2≤2;omega) (by omega) (by omega) (by show 2<_;omega) hc).mono ?_
  rintro e w' ⟨rfl,rfl⟩;exact⟨_,rfl,⟨fun _=>rfl,qV8 _ _⟩,((xL1 _ _).alloc (xL0 _) _).alloc (by simp) _⟩
def dvP (b:Nat) (L:List UInt8):Nat→Nat
 | 0=>0
 | i+1=>dvP b L i*b+dgB (bL L i)
theorem zZ2 {b:Nat} {L:List UInt8}:∀ {i:Nat},(∀ j,j<i→dgB (bL L j)<b)→dvP b L i<b^i
 | 0,_=>Nat.one_pos
 | i+1,h=>by
  have h1:=zZ2 (i:=i) fun j hj=>h j (by omega)
  have h2:=h i (by omega)
  show dvP b L i*b+dgB (bL L i)<b^(i+1)
  rw[xC5];have h3:(dvP b L i+1)*b≤b^i*b:=xL7 _ h1;rw[Nat.add_mul] at h3;omega
theorem yT0 (L:List UInt8) (i:Nat):btA ⟨L.toArray⟩ i=bL L i:=by
 unfold btA bL;simp
theorem xN9 {c:Nat} (h:dgB c<10):48≤c∧c≤57:=by
 unfold dgB at h;split at h
 ·assumption
 ·split at h <;> omega
theorem xN8 {c:Nat} (h0:¬ (48≤c∧c≤57)) (h:dgB c<16):97≤lowB c∧lowB c≤102:=by
 unfold dgB at h;rw[if_neg h0] at h;split at h
 ·assumption
 ·omega
theorem xT8 (L:List UInt8) (w:World) (hs:L.length≤15) (h00:0<L.length) (hd:∀ j,j<L.length→dgB (bL L j)<10) :
  Calls Tryz.prog 115 #[.string ⟨L.toArray⟩,.int .i64 10,.int .i64 64] w fun r w'=>r=.returned (.tuple #[.int .u64 ((dvP 10 L L.length:Nat):Int),.nilIface])∧Bw w w':=by
 obtain⟨s,hse⟩:∃ s:ByteArray,s=⟨L.toArray⟩:=⟨_,rfl⟩;have hsn:s.size=L.length:=by rw[hse];rfl
 have h0:s.toList.isEmpty=false:=by
  rw[Lib.toList_data,hse];cases L with
  | nil=>simp at h00
  | cons a t=>rfl
 obtain⟨cap,W,hc,hB,hcell⟩:=qC9 s w;have HB:Hid (Bw w W):=hB;have HC:Hid (∀ j,j<L.length→W.cell? ⟨w.heap.size,j,none⟩=some (.int .u8 ((bL L j:Nat):Int))):=fun j hj=>by
  rw[hcell j (by omega),hse,yT0]
 have HD:Hid (∀ j,j<L.length→dgB (bL L j)<10):=hd;rw[←hse];clear hB hcell hd hse;have mx1:IntKind.u64.wrap 18446744073709551616=0:=by decide
 have mx2:IntKind.u64.wrap (0 - 1)=18446744073709551615:=by decide
 have mx3:IntKind.u64.wrap (-1)=18446744073709551615:=by decide
 rw[hsn] at hc;generalize hn:L.length=n at *
 go_enter Tryz.func115,Tryz.ntmps115
 go_wp2_with fail;clear hc mx1 mx2 mx3
 go_loopw [101,13,12] (fun i v u wr=>∃ j:Nat,j≤n∧i=.int .i64 (j:Int)∧v=.int .u64 ((dvP 10 L j:Nat):Int)∧u=.bool false∧wr=W) (fun i _ _ _=>n - (intOf i).toNat)
 case atStart=>exact⟨0,by omega,rfl,rfl,rfl,rfl⟩
 case round =>
  obtain⟨j,hj,rfl,rfl,rfl,rfl⟩:=hrel;by_cases hlt:j<n
  ·have hcj:=HC.out j hlt;have hb:=yY4 L j;have hlb:=zA hb;have hp:dvP 10 L j<10^j:=zZ2 fun k hk=>HD.out k (by omega)
   have hp7:dvP 10 L j<72057594037927936:=xL8 hp (xW (xL6 (by omega) (show j≤14 by omega)) (by decide))
   have kl:=yR7 (bL L j) hb;have hdc:=HD.out j hlt;have HS:Hid (dvP 10 L (j+1)=dvP 10 L j*10+dgB (bL L j)):=rfl;generalize hce:bL L j=c at *;generalize hve:dvP 10 L j=v at *;have hdec:48≤c∧c≤57:=xN9 hdc;obtain⟨D,hDe⟩:∃ D:Nat,D=dgB c:=⟨_,rfl⟩;have hdg:=zO6 hdec.1 hdec.2;have hD16:D<10:=by omega
   have q0:((c:Int)==95)=false:=by rw[xC2];omega
   have q1:(48:Int)≤(c:Int):=by omega
   have q2:(c:Int)≤57:=by omega
   have q3:IntKind.u8.wrap ((c:Int) - 48)=(D:Int):=by rw[IntKind.wrap_u8];omega
   obtain⟨M,hM⟩:∃ M:Nat,M=v*10:=⟨_,rfl⟩;obtain⟨N1,hN⟩:∃ N1:Nat,N1=M+D:=⟨_,rfl⟩;have v1:IntKind.u64.wrap ((v:Int)*10)=(M:Int):=by rw[xW7];omega
   have v2:IntKind.u64.wrap ((M:Int)+(D:Int))=(N1:Int):=by rw[xW7];omega
   have v3:IntKind.u64.wrap (D:Int)=(D:Int):=by rw[xW7];omega
   have v4:IntKind.u8.wrap 10=10:=by decide
   have v5:IntKind.u64.wrap 10=10:=by decide
   have HN:Hid (dvP 10 L (j+1)=N1):=(by rw[HS.out,←hDe];omega:dvP 10 L (j+1)=N1)
   have y1:decide ((10:Int)≤(D:Int))=false:=xL3 (by omega)
   have y2:decide ((1844674407370955162:Int)≤(v:Int))=false:=xL3 (by omega)
   have y3:decide ((N1:Int)<(M:Int))=false:=xL3 (by omega)
   have y4:decide ((18446744073709551615:Int)<(N1:Int))=false:=xL3 (by omega)
   clear hN hM hp hp7 hDe HS hve hce hlb hdec hdg hb hD16 hdc
   go_upto_region 46 with (first|(go_at_call 167;refine(kl _).mono ?_;rintro e w' ⟨rfl,hw'⟩;replace hw':=hw'.symm;subst hw'))
   clear q0 q1 q2 q3 kl;clear h0 h00 hn hcj
   go_upto_region 48 with fail
   go_upto_region 50 with fail
   go_wp2_with fail
   go_roundw
   case rel=>exact⟨j+1,by omega,by simp,by rw[HN.out],(by first|rfl|trivial),(by first|rfl|trivial)⟩
   case measure=>simp[intOf];omega
   all_goals (exfalso;have q:=of_decide_eq_false y3;omega)
  ·obtain rfl:n=j:=by omega
   go_wp2_with fail;refine xW9 (xE3 rfl _ _ _) rfl ?_;exact⟨rfl,HB.out⟩
theorem xT7 (L:List UInt8) (w:World) (hs:L.length≤15) (h00:0<L.length) (hd:∀ j,j<L.length→dgB (bL L j)<16) :
  Calls Tryz.prog 115 #[.string ⟨L.toArray⟩,.int .i64 16,.int .i64 64] w fun r w'=>r=.returned (.tuple #[.int .u64 ((dvP 16 L L.length:Nat):Int),.nilIface])∧Bw w w':=by
 obtain⟨s,hse⟩:∃ s:ByteArray,s=⟨L.toArray⟩:=⟨_,rfl⟩;have hsn:s.size=L.length:=by rw[hse];rfl
 have h0:s.toList.isEmpty=false:=by
  rw[Lib.toList_data,hse];cases L with
  | nil=>simp at h00
  | cons a t=>rfl
 obtain⟨cap,W,hc,hB,hcell⟩:=qC9 s w;have HB:Hid (Bw w W):=hB;have HC:Hid (∀ j,j<L.length→W.cell? ⟨w.heap.size,j,none⟩=some (.int .u8 ((bL L j:Nat):Int))):=fun j hj=>by
  rw[hcell j (by omega),hse,yT0]
 have HD:Hid (∀ j,j<L.length→dgB (bL L j)<16):=hd;rw[←hse];clear hB hcell hd hse;have mx1:IntKind.u64.wrap 18446744073709551616=0:=by decide
 have mx2:IntKind.u64.wrap (0 - 1)=18446744073709551615:=by decide
 have mx3:IntKind.u64.wrap (-1)=18446744073709551615:=by decide
 rw[hsn] at hc;generalize hn:L.length=n at *
 go_enter Tryz.func115,Tryz.ntmps115
 go_wp2_with fail;clear hc mx1 mx2 mx3
 go_loopw [101,13,12] (fun i v u wr=>∃ j:Nat,j≤n∧i=.int .i64 (j:Int)∧v=.int .u64 ((dvP 16 L j:Nat):Int)∧u=.bool false∧wr=W) (fun i _ _ _=>n - (intOf i).toNat)
 case atStart=>exact⟨0,by omega,rfl,rfl,rfl,rfl⟩
 case round =>
  obtain⟨j,hj,rfl,rfl,rfl,rfl⟩:=hrel;by_cases hlt:j<n
  ·have hcj:=HC.out j hlt;have hb:=yY4 L j;have hlb:=zA hb;have hp:dvP 16 L j<16^j:=zZ2 fun k hk=>HD.out k (by omega)
   have hp7:dvP 16 L j<72057594037927936:=xL8 hp (xW (xL6 (by omega) (show j≤14 by omega)) (by decide))
   have kl:=yR7 (bL L j) hb;have hdc:=HD.out j hlt;have HS:Hid (dvP 16 L (j+1)=dvP 16 L j*16+dgB (bL L j)):=rfl;generalize hce:bL L j=c at *;generalize hve:dvP 16 L j=v at *;by_cases hdec:48≤c∧c≤57
   ·obtain⟨D,hDe⟩:∃ D:Nat,D=dgB c:=⟨_,rfl⟩;have hdg:=zO6 hdec.1 hdec.2;have hD16:D<16:=by omega
    have q0:((c:Int)==95)=false:=by rw[xC2];omega
    have q1:(48:Int)≤(c:Int):=by omega
    have q2:(c:Int)≤57:=by omega
    have q3:IntKind.u8.wrap ((c:Int) - 48)=(D:Int):=by rw[IntKind.wrap_u8];omega
    obtain⟨M,hM⟩:∃ M:Nat,M=v*16:=⟨_,rfl⟩;obtain⟨N1,hN⟩:∃ N1:Nat,N1=M+D:=⟨_,rfl⟩;have v1:IntKind.u64.wrap ((v:Int)*16)=(M:Int):=by rw[xW7];omega
    have v2:IntKind.u64.wrap ((M:Int)+(D:Int))=(N1:Int):=by rw[xW7];omega
    have v3:IntKind.u64.wrap (D:Int)=(D:Int):=by rw[xW7];omega
    have v4:IntKind.u8.wrap 16=16:=by decide
    have v5:IntKind.u64.wrap 16=16:=by decide
    have HN:Hid (dvP 16 L (j+1)=N1):=(by rw[HS.out,←hDe];omega:dvP 16 L (j+1)=N1)
    have y1:decide ((16:Int)≤(D:Int))=false:=xL3 (by omega)
    have y2:decide ((1152921504606846976:Int)≤(v:Int))=false:=xL3 (by omega)
    have y3:decide ((N1:Int)<(M:Int))=false:=xL3 (by omega)
    have y4:decide ((18446744073709551615:Int)<(N1:Int))=false:=xL3 (by omega)
    clear hN hM hp hp7 hDe HS hve hce hlb hdec hdg hb hD16 hdc
    go_upto_region 46 with (first|(go_at_call 167;refine(kl _).mono ?_;rintro e w' ⟨rfl,hw'⟩;replace hw':=hw'.symm;subst hw'))
    clear q0 q1 q2 q3 kl;clear h0 h00 hn hcj
    go_upto_region 48 with fail
    go_upto_region 50 with fail
    go_wp2_with fail
    go_roundw
    case rel=>exact⟨j+1,by omega,by simp,by rw[HN.out],(by first|rfl|trivial),(by first|rfl|trivial)⟩
    case measure=>simp[intOf];omega
    all_goals (exfalso;have q:=of_decide_eq_false y3;omega)
   ·have hlet:97≤lowB c∧lowB c≤102:=xN8 hdec hdc;have hc95:c≠95:=by
     intro h;rw[h] at hlet;exact absurd hlet.2 (by decide)
    have hc48:57<c:=by
     apply Decidable.byContradiction
     intro h;have:=zE9 (show c<48 by omega)
     omega
    have q95:((c:Int)==95)=false:=by rw[xC2];omega
    have qd:¬ ((c:Int)≤57):=by omega
    have qe:(48:Int)≤(c:Int):=by omega
    obtain⟨D,hDe⟩:∃ D:Nat,D=dgB c:=⟨_,rfl⟩;have hdg:=xQ0 hdec hlet.1 hlet.2;have hD16:D<16:=by omega
    obtain⟨L1,hL1⟩:∃ L1:Nat,L1=lowB c:=⟨_,rfl⟩;rw[←hL1] at kl hlet hdg;obtain⟨L2,hL2⟩:∃ L2:Nat,L2=L1 - 97:=⟨_,rfl⟩;have q1:(97:Int)≤(L1:Int):=by omega
    have q2:(L1:Int)≤122:=by omega
    have q3:IntKind.u8.wrap ((L1:Int) - 97)=(L2:Int):=by rw[IntKind.wrap_u8];omega
    have q4:IntKind.u8.wrap ((L2:Int)+10)=(D:Int):=by rw[IntKind.wrap_u8];omega
    obtain⟨M,hM⟩:∃ M:Nat,M=v*16:=⟨_,rfl⟩;obtain⟨N1,hN⟩:∃ N1:Nat,N1=M+D:=⟨_,rfl⟩;have v1:IntKind.u64.wrap ((v:Int)*16)=(M:Int):=by rw[xW7];omega
    have v2:IntKind.u64.wrap ((M:Int)+(D:Int))=(N1:Int):=by rw[xW7];omega
    have v3:IntKind.u64.wrap (D:Int)=(D:Int):=by rw[xW7];omega
    have v4:IntKind.u8.wrap 16=16:=by decide
    have v5:IntKind.u64.wrap 16=16:=by decide
    have HN:Hid (dvP 16 L (j+1)=N1):=(by rw[HS.out,←hDe];omega:dvP 16 L (j+1)=N1)
    have y1:decide ((16:Int)≤(D:Int))=false:=xL3 (by omega)
    have y2:decide ((1152921504606846976:Int)≤(v:Int))=false:=xL3 (by omega)
    have y3:decide ((N1:Int)<(M:Int))=false:=xL3 (by omega)
    have y4:decide ((18446744073709551615:Int)<(N1:Int))=false:=xL3 (by omega)
    clear hN hM hp hp7 hDe HS hve hce hlb hL1 hL2 hlet hdec hdg hb hD16 hdc hc95 hc48
    go_upto_region 46 with (first|(go_at_call 167;refine(kl _).mono ?_;rintro e w' ⟨rfl,hw'⟩;replace hw':=hw'.symm;subst hw'))
    clear q1 q2 q3 q4 qd qe q95 kl;clear h0 h00 hn hcj
    go_upto_region 48 with fail
    go_upto_region 50 with fail
    go_wp2_with fail
    go_roundw
    case rel=>exact⟨j+1,by omega,by simp,by rw[HN.out],(by first|rfl|trivial),(by first|rfl|trivial)⟩
    case measure=>simp[intOf];omega
    all_goals (exfalso;have q:=of_decide_eq_false y3;omega)
  ·obtain rfl:n=j:=by omega
   go_wp2_with fail;refine xW9 (xE3 rfl _ _ _) rfl ?_;exact⟨rfl,HB.out⟩
theorem xY0 (L:List UInt8) (w:World) (hs:L.length≤15) (h00:0<L.length) (hd:∀ j,j<L.length→dgB (bL L j)<10) :
  Calls Tryz.prog 74 #[.string ⟨L.toArray⟩,.int .i64 10,.int .i64 64] w fun r w'=>r=.returned (.tuple #[.int .u64 ((dvP 10 L L.length:Nat):Int),.nilIface])∧Bw w w':=by
 have k:=xT8 L w hs h00 hd;clear hd;generalize dvP 10 L L.length=D at *
 go_enter Tryz.func74,Tryz.ntmps74
 go_wp2_with fail;refine k.mono ?_;rintro r w1 ⟨rfl,hb⟩;have HB:Hid (Bw w w1):=hb;clear k hb
 go_wp2_with fail;refine xW9 (xE3 rfl _ _ _) rfl ?_;exact⟨rfl,HB.out⟩
theorem xY (L:List UInt8) (w:World) (hs:L.length≤15) (h00:0<L.length) (hd:∀ j,j<L.length→dgB (bL L j)<16) :
  Calls Tryz.prog 74 #[.string ⟨L.toArray⟩,.int .i64 16,.int .i64 64] w fun r w'=>r=.returned (.tuple #[.int .u64 ((dvP 16 L L.length:Nat):Int),.nilIface])∧Bw w w':=by
 have k:=xT7 L w hs h00 hd;clear hd;generalize dvP 16 L L.length=D at *
 go_enter Tryz.func74,Tryz.ntmps74
 go_wp2_with fail;refine k.mono ?_;rintro r w1 ⟨rfl,hb⟩;have HB:Hid (Bw w w1):=hb;clear k hb
 go_wp2_with fail;refine xW9 (xE3 rfl _ _ _) rfl ?_;exact⟨rfl,HB.out⟩
end Go.Proofs.YtbanebginnakhaaGreatDoor
namespace Go.Proofs.YtbanebginnakhaaGreatDoor
open Go.RowKit Go.Fl64
def rdE (L:List UInt8):Nat→Nat
 | 0=>0
 | k+1=>min (10*rdE L k+(bL L k - 48)) 6000
theorem yD9 (L:List UInt8) (k:Nat):rdE L k≤6000:=by
 cases k with
 | zero=>exact xW5 _
 | succ k=>exact Nat.min_le_right _ _
theorem qR8 {c:Nat} (h:isDg c 10=true):48≤c∧c≤57:=by
 unfold isDg at h;simp at h
 exact h
theorem zU8 (s D:List UInt8) (sg:Int) (w:World)
  (k1:∀ W,Calls Tryz.prog 25 #[.string ⟨s.toArray⟩] W fun r w'=>r=.returned (.tuple #[.int .i64 sg,.string ⟨D.toArray⟩])∧Bw W w')
  (k2:∀ W,Calls Tryz.prog 45 #[.string ⟨D.toArray⟩,.int .i64 10] W fun r w'=>r=.returned (.bool false)∧w'=W) :
  Calls Tryz.prog 43 #[.string ⟨s.toArray⟩] w fun r w'=>r=.returned (.tuple #[.int .i64 0,.bool false])∧Bw w w':=by
 go_enter Tryz.func43,Tryz.ntmps43
 go_wp2_with (first|(go_at_call 25;refine(k1 _).mono ?_;rintro r w1 ⟨rfl,hb1⟩)|(go_at_call 45;refine(k2 _).mono ?_;rintro r w' ⟨rfl,rfl⟩))
 refine xW9 (xE3 rfl _ _ _) rfl ?_;exact⟨rfl,hb1⟩
theorem zS9 (s D:List UInt8) (sg:Int) (w:World) (hL:D.length≤2000000) (hs:sg=1∨sg = -1)
  (k1:∀ W,Calls Tryz.prog 25 #[.string ⟨s.toArray⟩] W fun r w'=>r=.returned (.tuple #[.int .i64 sg,.string ⟨D.toArray⟩])∧Bw W w')
  (k2:∀ W,Calls Tryz.prog 45 #[.string ⟨D.toArray⟩,.int .i64 10] W fun r w'=>r=.returned (.bool true)∧w'=W)
  (hd:Hid (∀ k,k<D.length→isDg (bL D k) 10=true)) :
  Calls Tryz.prog 43 #[.string ⟨s.toArray⟩] w fun r w'=>r=.returned (.tuple #[.int .i64 (sg*rdE D D.length),.bool true])∧Bw w w':=by
 have hsz:(⟨D.toArray⟩:ByteArray).size=D.length:=rfl;obtain⟨n,hn⟩:∃ n,n=D.length:=⟨_,rfl⟩;rw[←hn] at hsz hL hd ⊢;have hg:∀ k (h:k<(⟨D.toArray⟩:ByteArray).size),((⟨D.toArray⟩:ByteArray)[k]'h).toNat=bL D k:=qU0 D;have Hn:Hid (n=D.length):=hn;have Hs:Hid (sg=1∨sg = -1):=hs;clear hn hs
 go_enter Tryz.func43,Tryz.ntmps43
 go_wp2_with (first|(go_at_call 25;refine(k1 _).mono ?_;rintro r w1 ⟨rfl,hb1⟩)|(go_at_call 45;refine(k2 _).mono ?_;rintro r w' ⟨rfl,rfl⟩))
 clear k1 k2
 rename World=>w0
 have HB:Hid (Bw w w0):=hb1;clear hb1
 go_loopw [6,18] (fun e v wr=>∃ i:Nat,i≤n∧e=.int .i64 (rdE D i:Nat)∧v=.int .i64 i∧wr=w0) (fun _ v _=>n - (intOf v).toNat)
 case atStart=>exact⟨0,xW5 _,rfl,rfl,rfl⟩
 case round =>
  obtain⟨i,hi,rfl,rfl,rfl⟩:=hrel;obtain⟨E,hE⟩:∃ E,E=rdE D i:=⟨_,rfl⟩;have hE6:E≤6000:=by rw[hE];exact yD9 _ _
  rw[←hE];by_cases hic:i<n
  ·have hii:(i:Int)<(n:Int):=by omega
   obtain⟨c,hc⟩:∃ c,c=bL D i:=⟨_,rfl⟩;have hcd:=qR8 (hd.out i hic);have hg2:=hg i;rw[←hc] at hcd hg2;have hwi:IntKind.i64.wrap ((i:Int)+1)=(i:Int)+1:=by rw[xW6];omega
   obtain⟨q,hq⟩:∃ q,c=48+q:=⟨c - 48,by omega⟩
   have hw1:IntKind.i64.wrap (10*(E:Int))=10*E:=by rw[xW6];omega
   have hw2:IntKind.u8.wrap ((c:Int) - 48)=(q:Int):=by rw[IntKind.wrap_u8];omega
   have hw3:IntKind.i64.wrap (q:Int)=(q:Int):=by rw[xW6];omega
   have hw4:IntKind.i64.wrap (10*(E:Int)+q)=10*E+q:=by rw[xW6];omega
   obtain⟨M,hM⟩:∃ M,M=rdE D (i+1):=⟨_,rfl⟩;have hmin:min (10*(E:Int)+q) 6000=(M:Int):=by
    rw[hM];unfold rdE;rw[←hE,←hc,hq];omega
   have HM:Hid (M=rdE D (i+1)):=hM;clear hM hE hc hg
   go_wp2;have e48:(48+(q:Int) - 48)=q:=by omega
   rw[e48,hmin];refine⟨⟨i+1,by omega,by rw[HM.out],by push_cast;rfl,trivial⟩,by simp[intOf];omega⟩
  ·have hii:¬ (i:Int)<(n:Int):=by omega
   obtain rfl:i=n:=by omega
   have HE:Hid (E=rdE D i):=hE;clear hg hE;rcases Hs.out with rfl|rfl
   ·have hw:IntKind.i64.wrap (1*(E:Int))=1*E:=by rw[xW6];omega
    go_wp2;refine xW9 (xE3 rfl _ _ _) rfl ?_;rw[←HE.out];exact⟨rfl,HB.out⟩
   ·have hw:IntKind.i64.wrap (-1*(E:Int)) = -1*E:=by rw[xW6];omega
    have hw':IntKind.i64.wrap (-(E:Int)) = -E:=by rw[xW6];omega
    go_wp2;refine xW9 (xE3 rfl _ _ _) rfl ?_;rw[←HE.out];refine⟨?_,HB.out⟩
    simp
def csS (s:List UInt8):Int:=if s.head?=some 45 then -1 else 1
def csD (s:List UInt8):List UInt8:=if s.head?=some 45∨s.head?=some 43 then s.tail else s
theorem zR1 (s:List UInt8) (w:World) (hL:s.length≤2000000)
  (k1:∀ W,Calls Tryz.prog 41 #[.string ⟨s.toArray⟩,.string ⟨#[45]⟩] W fun r w'=>r=.returned (.bool (s.head?==some 45))∧w'=W)
  (k2:∀ W,Calls Tryz.prog 41 #[.string ⟨s.toArray⟩,.string ⟨#[43]⟩] W fun r w'=>r=.returned (.bool (s.head?==some 43))∧w'=W) :
  Calls Tryz.prog 25 #[.string ⟨s.toArray⟩] w fun r w'=>r=.returned (.tuple #[.int .i64 (csS s),.string ⟨(csD s).toArray⟩])∧Bw w w':=by
 have ed:=qJ0 s 1;rw[List.drop_one] at ed;have hsz:(⟨s.toArray⟩:ByteArray).size=s.length:=rfl;by_cases h1:s.head?=some 45
 ·have hl:(1:Int)≤(s.length:Int):=by cases s with|nil=>simp at h1|cons a t=>rw[List.length_cons];omega
  have e1:csS s = -1:=by unfold csS;rw[if_pos h1]
  have e2:csD s=s.tail:=by unfold csD;rw[if_pos (.inl h1)]
  have hb:(s.head?==some 45)=true:=by rw[h1];rfl
  rw[hb] at k1;rw[e1,e2];clear e1 e2 h1 hb k2
  go_enter Tryz.func25,Tryz.ntmps25
  go_wp2_with (first|(go_at_call 41;refine(k1 _).mono ?_;rintro r w' ⟨rfl,rfl⟩))
  go_quiet (fail)
  go_wp2;refine xW9 (xE3 rfl _ _ _) rfl ?_;exact⟨rfl,qD3 (xL1 _ _) nq⟩
 ·have hb:(s.head?==some 45)=false:=by simp[h1]
  have e1:csS s=1:=by unfold csS;rw[if_neg h1]
  rw[hb] at k1;rw[e1];by_cases h2:s.head?=some 43
  ·have hl:(1:Int)≤(s.length:Int):=by cases s with|nil=>simp at h2|cons a t=>rw[List.length_cons];omega
   have e2:csD s=s.tail:=by unfold csD;rw[if_pos (.inr h2)]
   have hb2:(s.head?==some 43)=true:=by rw[h2];rfl
   rw[hb2] at k2;rw[e2];clear e1 e2 h1 h2 hb hb2
   go_enter Tryz.func25,Tryz.ntmps25
   go_wp2_with fail;refine(k1 _).mono ?_
   rintro r w1 ⟨rfl,rfl⟩
   go_wp2_with fail;refine(k2 _).mono ?_
   rintro r w2 ⟨rfl,rfl⟩
   go_wp2_with fail
   go_quiet (fail)
   go_wp2;refine xW9 (xE3 rfl _ _ _) rfl ?_;exact⟨rfl,qD3 (xL1 _ _) nq⟩
  ·have e2:csD s=s:=by unfold csD;rw[if_neg (fun h=>h.elim h1 h2)]
   have hb2:(s.head?==some 43)=false:=by simp[h2]
   rw[hb2] at k2;rw[e2];clear e1 e2 h1 h2 hb hb2
   go_enter Tryz.func25,Tryz.ntmps25
   go_wp2_with fail;refine(k1 _).mono ?_
   rintro r w1 ⟨rfl,rfl⟩
   go_wp2_with fail;refine(k2 _).mono ?_
   rintro r w2 ⟨rfl,rfl⟩
   go_wp2;refine xW9 (xE3 rfl _ _ _) rfl ?_;exact⟨rfl,xL1 _ _⟩
theorem yN3 (k:Int) (T1 T2:Bool×Nat×Int) (w:World)
  (k1:∀ W,Bw w W→Calls Tryz.prog 118 #[.int .i64 1] W fun r w'=>OutP W T1 r w') (k2:Hid (∀ W X,Bw w W→PN W X T1→Calls Tryz.prog 125 #[X,.int .i64 k] W fun r w'=>OutA W T2 r w')):Calls Tryz.prog 82 #[.int .i64 k] w fun r w'=>qS7 w T2 T1 r w':=by
 obtain⟨W,hW⟩:∃ W,W=w.alloc (.cells #[.bool false,.slice none 0 0,.int .i64 0,.bool false,.slice none 0 0,.int .i64 0] 90):=⟨_,rfl⟩;have HC:Hid (W.heap[w.heap.size]?=some (.cells #[.bool false,.slice none 0 0,.int .i64 0,.bool false,.slice none 0 0,.int .i64 0] 90 (0,0))∧Bw w W):=(by rw[hW];exact⟨xW8 _ _,(xL1 _ _).alloc (xL0 _) _⟩:_∧_)
 have kk0:=k1 W HC.out.2;have HK2:Hid _:=k1;clear k1
 go_enter Tryz.func82,Tryz.ntmps82
 go_upto_region 1 with fail;rw[←hW];clear hW
 go_wp2_with fail;refine kk0.mono ?_;rintro r w0 ⟨s0,ao0,n0,cp0,e0,rfl,hp0,hb0⟩;clear kk0;have HC0:Hid (w0.heap[w.heap.size]?=some (.cells #[.bool false,.slice none 0 0,.int .i64 0,.bool false,.slice none 0 0,.int .i64 0] 90 (0,0))∧Bw w w0):=⟨qQ HC.out.1 hb0 (qQ6 HC.out.1),HC.out.2.trans (hb0.mono HC.out.2.size)⟩;have kk:=k2.out w0 _ HC0.out.2 hp0;clear hp0 hb0 HC k2
 go_wp2_with fail;refine kk.mono ?_;rintro r w1 ⟨s1,ao1,n1,cp1,e1,rfl,hp,hb1⟩;clear kk;have HG:Hid (w1.heap[w.heap.size]?=some (.cells #[.bool false,.slice none 0 0,.int .i64 0,.bool false,.slice none 0 0,.int .i64 0] 90 (0,0))∧Bw w w1∧PN w1 (.agg #[.bool s1,.slice ao1 n1 cp1,.int .i64 e1]) T2):=⟨qQ HC0.out.1 hb1 (qQ6 HC0.out.1),HC0.out.2.trans (hb1.mono HC0.out.2.size),hp⟩;have kk:=HK2.out w1 HG.out.2.1;clear hp hb1 HC0 HK2
 go_wp2_with fail;refine kk.mono ?_;rintro r w2 ⟨s2,ao2,n2,cp2,e2,rfl,hp,hb2⟩;clear kk;have HH:Hid (w2.heap[w.heap.size]?=some (.cells #[.bool false,.slice none 0 0,.int .i64 0,.bool false,.slice none 0 0,.int .i64 0] 90 (0,0))∧Bw w w2∧PN w2 (.agg #[.bool s1,.slice ao1 n1 cp1,.int .i64 e1]) T2∧PN w2 (.agg #[.bool s2,.slice ao2 n2 cp2,.int .i64 e2]) T1):=⟨qQ HG.out.1 hb2 (qQ6 HG.out.1),HG.out.2.1.trans (hb2.mono HG.out.2.1.size),HG.out.2.2.later hb2,hp⟩;clear hp hb2 HG;obtain⟨⟨c0,c1,c2,c3,c4,c5⟩,d0,d1,d2,d3,d4,d5⟩:=qV9 HH.out.1
 go_wp2_with fail;refine xW9 (xE2 rfl _ _ w.heap.size 90 #[.bool s1,.slice ao1 n1 cp1,.int .i64 e1,.bool s2,.slice ao2 n2 cp2,.int .i64 e2] (0,0) _ rfl (qT8 _ _ _ _ _ _ HH.out.1) Tryz.underlying90 rfl (by kernel_rfl)) rfl ?_
 exact⟨_,rfl,⟨_,_,_,_,_,_,_,_,_,_,rfl,HH.out.2.2.1.set6 HH.out.1 _ _ _ _ _ _,HH.out.2.2.2.set6 HH.out.1 _ _ _ _ _ _⟩,qG6 HH.out.2.1 (xL0 _) _ _ _ _ _ _⟩
theorem qU {w:World} {g:Nat} {a b c d:Value} {T:TypeId} (h:w.heap[g]?=some (.cells #[a,b,c,d] T (0,0))):w.cell? ⟨g,0,none⟩=some a∧w.cell? ⟨g,1,none⟩=some b∧w.cell? ⟨g,2,none⟩=some c∧w.cell? ⟨g,3,none⟩=some d:=by
 simp[World.cell?,h]
theorem yN9 (b h e:Int) (d:ByteArray) (t1 t2:Bool×Nat×Int) (w:World) (hb:¬ b=16) (hh:0≤h∧h≤1000000) (he : -1000000≤e∧e≤1000000)
  (k1:Hid (∀ W,Bw w W→Calls Tryz.prog 83 #[.int .i64 (e - h)] W fun r w'=>qS7 W t1 t2 r w')) :
  Calls Tryz.prog 50 #[.agg #[.int .i64 b,.string d,.int .i64 h,.int .i64 e]] w fun r w'=>qS7 w t1 t2 r w':=by
 obtain⟨W,hW⟩:∃ W,W=(w.alloc (.cells #[.int .i64 b,.string d,.int .i64 h,.int .i64 e] 59)).alloc (.cells #[.bool false,.slice none 0 0,.int .i64 0,.bool false,.slice none 0 0,.int .i64 0] 90):=⟨_,rfl⟩;obtain⟨m1,m2,m3,m4⟩:=qG9 _ _ hW;obtain⟨c0,c1,c2,c3⟩:=qU m1;have HC:Hid (W.heap[w.heap.size+1]?=some (.cells #[.bool false,.slice none 0 0,.int .i64 0,.bool false,.slice none 0 0,.int .i64 0] 90 (0,0))∧Bw w W):=⟨m2,m4⟩;have hw1:IntKind.i64.wrap (4*h)=4*h:=by rw[xW6];omega
 have hw2:IntKind.i64.wrap (e - 4*h)=e - 4*h:=by rw[xW6];omega
 have hw3:IntKind.i64.wrap (e - h)=e - h:=by rw[xW6];omega
 have kk:=k1.out W m4;clear m1 m2 m3 m4 k1 hh he
 skip
 go_enter Tryz.func50,Tryz.ntmps50
 go_upto_region 1 with fail;rw[←hW];clear hW
 go_wp2_with fail;refine kk.mono ?_;rintro r w1 ⟨_,rfl,⟨s1,ao1,n1,cp1,e1,s2,ao2,n2,cp2,e2,rfl,hp,hq⟩,hb1⟩;clear kk c0 c1 c2 c3;have HH:Hid (w1.heap[w.heap.size+1]?=some (.cells #[.bool false,.slice none 0 0,.int .i64 0,.bool false,.slice none 0 0,.int .i64 0] 90 (0,0))∧Bw w w1∧PN w1 (.agg #[.bool s1,.slice ao1 n1 cp1,.int .i64 e1]) t1∧PN w1 (.agg #[.bool s2,.slice ao2 n2 cp2,.int .i64 e2]) t2):=⟨qQ HC.out.1 hb1 (qQ6 HC.out.1),HC.out.2.trans (hb1.mono HC.out.2.size),hp,hq⟩;clear hp hq hb1 HC;obtain⟨⟨c0,c1,c2,c3,c4,c5⟩,d0,d1,d2,d3,d4,d5⟩:=qV9 HH.out.1
 go_wp2_with fail;refine xW9 (xE2 rfl _ _ (w.heap.size+1) 90 #[.bool s1,.slice ao1 n1 cp1,.int .i64 e1,.bool s2,.slice ao2 n2 cp2,.int .i64 e2] (0,0) _ rfl (qT8 _ _ _ _ _ _ HH.out.1) Tryz.underlying90 rfl (by kernel_rfl)) rfl ?_
 exact⟨_,rfl,⟨_,_,_,_,_,_,_,_,_,_,rfl,HH.out.2.2.1.set6 HH.out.1 _ _ _ _ _ _,HH.out.2.2.2.set6 HH.out.1 _ _ _ _ _ _⟩,qG6 HH.out.2.1 (Nat.le_succ _) _ _ _ _ _ _⟩
theorem yN8 (b h e:Int) (d:ByteArray) (t1 t2:Bool×Nat×Int) (w:World) (hb:b=16) (hh:0≤h∧h≤1000000) (he : -1000000≤e∧e≤1000000)
  (k1:Hid (∀ W,Bw w W→Calls Tryz.prog 82 #[.int .i64 (e - 4*h)] W fun r w'=>qS7 W t1 t2 r w')) :
  Calls Tryz.prog 50 #[.agg #[.int .i64 b,.string d,.int .i64 h,.int .i64 e]] w fun r w'=>qS7 w t1 t2 r w':=by
 obtain⟨W,hW⟩:∃ W,W=(w.alloc (.cells #[.int .i64 b,.string d,.int .i64 h,.int .i64 e] 59)).alloc (.cells #[.bool false,.slice none 0 0,.int .i64 0,.bool false,.slice none 0 0,.int .i64 0] 90):=⟨_,rfl⟩;obtain⟨m1,m2,m3,m4⟩:=qG9 _ _ hW;obtain⟨c0,c1,c2,c3⟩:=qU m1;have HC:Hid (W.heap[w.heap.size+1]?=some (.cells #[.bool false,.slice none 0 0,.int .i64 0,.bool false,.slice none 0 0,.int .i64 0] 90 (0,0))∧Bw w W):=⟨m2,m4⟩;have hw1:IntKind.i64.wrap (4*h)=4*h:=by rw[xW6];omega
 have hw2:IntKind.i64.wrap (e - 4*h)=e - 4*h:=by rw[xW6];omega
 have hw3:IntKind.i64.wrap (e - h)=e - h:=by rw[xW6];omega
 have kk:=k1.out W m4;clear m1 m2 m3 m4 k1 hh he;subst hb
 go_enter Tryz.func50,Tryz.ntmps50
 go_upto_region 1 with fail;rw[←hW];clear hW
 go_wp2_with fail;refine kk.mono ?_;rintro r w1 ⟨_,rfl,⟨s1,ao1,n1,cp1,e1,s2,ao2,n2,cp2,e2,rfl,hp,hq⟩,hb1⟩;clear kk c0 c1 c2 c3;have HH:Hid (w1.heap[w.heap.size+1]?=some (.cells #[.bool false,.slice none 0 0,.int .i64 0,.bool false,.slice none 0 0,.int .i64 0] 90 (0,0))∧Bw w w1∧PN w1 (.agg #[.bool s1,.slice ao1 n1 cp1,.int .i64 e1]) t1∧PN w1 (.agg #[.bool s2,.slice ao2 n2 cp2,.int .i64 e2]) t2):=⟨qQ HC.out.1 hb1 (qQ6 HC.out.1),HC.out.2.trans (hb1.mono HC.out.2.size),hp,hq⟩;clear hp hq hb1 HC;obtain⟨⟨c0,c1,c2,c3,c4,c5⟩,d0,d1,d2,d3,d4,d5⟩:=qV9 HH.out.1
 go_wp2_with fail;refine xW9 (xE2 rfl _ _ (w.heap.size+1) 90 #[.bool s1,.slice ao1 n1 cp1,.int .i64 e1,.bool s2,.slice ao2 n2 cp2,.int .i64 e2] (0,0) _ rfl (qT8 _ _ _ _ _ _ HH.out.1) Tryz.underlying90 rfl (by kernel_rfl)) rfl ?_
 exact⟨_,rfl,⟨_,_,_,_,_,_,_,_,_,_,rfl,HH.out.2.2.1.set6 HH.out.1 _ _ _ _ _ _,HH.out.2.2.2.set6 HH.out.1 _ _ _ _ _ _⟩,qG6 HH.out.2.1 (Nat.le_succ _) _ _ _ _ _ _⟩
def isR2 (f:Nat) (er:Int):World→Value→Prop:=isV (.tuple #[.float .f64 f,.int .i64 er])
theorem zS7 (b h e m sg er:Int) (d:ByteArray) (neg:Bool) (tw tz t1 t2 tm:Bool×Nat×Int) (f:Nat) (w:World) (hsg:Hid (¬ sg=0))
  (k1:Hid (∀ W,Bw w W→Calls Tryz.prog 46 #[.agg #[.int .i64 b,.string d,.int .i64 h,.int .i64 e]] W fun r w'=>OutA W tw r w'))
  (k2:Hid (∀ W X,Bw w W→PN W X tw→Calls Tryz.prog 47 #[X] W fun r w'=>r=.returned (.int .i64 sg)∧Bw W w'))
  (k3:Hid (neg=true→∀ W X,Bw w W→PN W X tw→Calls Tryz.prog 49 #[X] W fun r w'=>OutA W tz r w')) (hz:Hid (neg=false→tz=tw))
  (k4:Hid (∀ W,Bw w W→Calls Tryz.prog 50 #[.agg #[.int .i64 b,.string d,.int .i64 h,.int .i64 e]] W fun r w'=>qS7 W t1 t2 r w'))
  (k5:Hid (∀ W X Y,Bw w W→PN W X tz→PN W Y t1→Calls Tryz.prog 52 #[X,Y] W fun r w'=>OutA W tm r w'))
  (k6:Hid (∀ W X Y,Bw w W→PN W X tm→PN W Y t2→Calls Tryz.prog 51 #[X,Y,.int .i64 m] W fun r w'=>r=.returned (.tuple #[.float .f64 f,.int .i64 er])∧Bw W w')) :
  Calls Tryz.prog 27 #[.agg #[.int .i64 b,.string d,.int .i64 h,.int .i64 e],.bool neg,.int .i64 m] w fun r w'=>r=.returned (.float .f64 f)∧Bw w w':=by
 obtain⟨W,hW⟩:∃ W,W=w.alloc (.cells #[.int .i64 b,.string d,.int .i64 h,.int .i64 e] 59):=⟨_,rfl⟩;have m1:W.heap[w.heap.size]?=some (.cells #[.int .i64 b,.string d,.int .i64 h,.int .i64 e] 59 (0,0)):=by rw[hW];exact xW8 _ _
 have m4:Bw w W:=by rw[hW];exact(xL1 _ _).alloc (xL0 _) _
 obtain⟨c0,c1,c2,c3⟩:=qU m1;have HC:Hid (W.heap[w.heap.size]?=some (.cells #[.int .i64 b,.string d,.int .i64 h,.int .i64 e] 59 (0,0))∧Bw w W):=⟨m1,m4⟩;have kk:=k1.out W m4;clear m1 m4 k1
 go_enter Tryz.func27,Tryz.ntmps27
 go_upto_region 1 with fail;rw[←hW];clear hW
 go_wp2_with fail;refine kk.mono ?_;rintro r w1 ⟨s1,ao1,n1,cp1,e1,rfl,hA,hb1⟩;clear kk c0 c1 c2 c3;obtain⟨W1,hW1⟩:∃ W1,W1=w1.alloc (.cells #[.bool s1,.slice ao1 n1 cp1,.int .i64 e1] 84):=⟨_,rfl⟩;have hbV:Bw w1 W1:=by rw[hW1];exact(xL1 _ _).alloc (xL0 _) _
 have n6:W1.heap[w1.heap.size]?=some (.cells #[.bool s1,.slice ao1 n1 cp1,.int .i64 e1] 84 (0,0)):=by rw[hW1];exact xW8 _ _
 go_upto_region 2 with fail;rw[←hW1];clear hW1;have hA':=hA.later hbV;have hb1':Bw W W1:=hb1.trans (hbV.mono hb1.size);have hlt:w.heap.size<w1.heap.size:=xL8 (qQ6 HC.out.1) hb1.size;clear hbV hA hb1;generalize w1.heap.size=gqA at *;have H1:Hid (W1.heap[w.heap.size]?=some (.cells #[.int .i64 b,.string d,.int .i64 h,.int .i64 e] 59 (0,0))∧PBx W1 gqA s1 ao1 n1 cp1 e1 tw∧Bw w W1∧w.heap.size<gqA):=⟨qQ HC.out.1 hb1' (qQ6 HC.out.1),⟨n6,hA'⟩,HC.out.2.trans (hb1'.mono HC.out.2.size),hlt⟩;obtain⟨⟨c0,c1,c2⟩,-⟩:=qQ1 H1.out.2.1.1;have kk:=k2.out W1 _ H1.out.2.2.1 hA';have hsg':=hsg.out;clear k2 n6 hA' hb1' hlt HC hsg
 go_wp2_with fail;refine kk.mono ?_;rintro r w2 ⟨rfl,hb2⟩;have H2:Hid (w2.heap[w.heap.size]?=some (.cells #[.int .i64 b,.string d,.int .i64 h,.int .i64 e] 59 (0,0))∧PBx w2 gqA s1 ao1 n1 cp1 e1 tw∧Bw w w2∧w.heap.size<gqA):=⟨qQ H1.out.1 hb2 (qQ6 H1.out.1),H1.out.2.1.later hb2,H1.out.2.2.1.trans (hb2.mono H1.out.2.2.1.size),H1.out.2.2.2⟩;clear kk hb2 H1 c0 c1 c2
 go_upto_if 19 with fail
 go_cut [] from 11 to 21 (fun wx=>∃ (s5:Bool) (ao5:Option Addr) (n5 cp5:Nat) (e5:Int),Hid (wx.heap[w.heap.size]?=some (.cells #[.int .i64 b,.string d,.int .i64 h,.int .i64 e] 59 (0,0))∧PBx wx gqA s5 ao5 n5 cp5 e5 tz∧Bw w wx∧w.heap.size<gqA))
 case first =>
  cases neg
  ·go_wp2
   go_meet
   obtain rfl:=hz.out (by first|rfl|trivial)
   exact⟨_,_,_,_,_,H2⟩
  ·obtain⟨⟨c0,c1,c2⟩,g0,g1,g2⟩:=qQ1 H2.out.2.1.1;have kk:=k3.out rfl w2 _ H2.out.2.2.1 H2.out.2.1.2;clear k3
   go_wp2_with fail;refine kk.mono ?_;rintro r w3 ⟨s3,ao3,n3,cp3,e3,rfl,hA,hb3⟩;have H3:Hid ((w3.heap[w.heap.size]?=some (.cells #[.int .i64 b,.string d,.int .i64 h,.int .i64 e] 59 (0,0))∧PBx w3 gqA s1 ao1 n1 cp1 e1 tw∧Bw w w3∧w.heap.size<gqA)∧PN w3 (.agg #[.bool s3,.slice ao3 n3 cp3,.int .i64 e3]) tz):=⟨⟨qQ H2.out.1 hb3 (qQ6 H2.out.1),H2.out.2.1.later hb3,H2.out.2.2.1.trans (hb3.mono H2.out.2.2.1.size),H2.out.2.2.2⟩,hA⟩;clear kk hA hb3 H2 c0 c1 c2 g0 g1 g2;obtain⟨⟨c0,c1,c2⟩,g0,g1,g2⟩:=qQ1 H3.out.1.2.1.1
   go_wp2
   go_meet
   have a:=H3.out;exact⟨_,_,_,_,_,⟨by rw[qU3 _ _ _ (Nat.ne_of_lt a.1.2.2.2)];exact a.1.1,⟨zY0 _ _ _ a.1.2.1.1,a.2.set3 a.1.2.1.1 _ _ _⟩,qS5 a.1.2.2.1 (xE8 a.1.2.2.2) _ _ _,a.1.2.2.2⟩⟩
 case rest =>
 obtain⟨s5,ao5,n5,cp5,e5,H4⟩:=hcut;clear H2 k3 hz;obtain⟨c0,c1,c2,c3⟩:=qU H4.out.1;have kk:=k4.out _ H4.out.2.2.1;clear k4
 go_wp2_with fail;refine kk.mono ?_;rintro r w5 ⟨_,rfl,⟨s1,ao1,n1,cp1,e1,s2,ao2,n2,cp2,e2,rfl,hp,hq⟩,hb5⟩;clear kk c0 c1 c2 c3;obtain⟨W5,hW5⟩:∃ W5,W5=w5.alloc (.cells #[.bool s1,.slice ao1 n1 cp1,.int .i64 e1,.bool s2,.slice ao2 n2 cp2,.int .i64 e2] 90):=⟨_,rfl⟩;have hbV:Bw w5 W5:=by rw[hW5];exact(xL1 _ _).alloc (xL0 _) _
 have n6:W5.heap[w5.heap.size]?=some (.cells #[.bool s1,.slice ao1 n1 cp1,.int .i64 e1,.bool s2,.slice ao2 n2 cp2,.int .i64 e2] 90 (0,0)):=by rw[hW5];exact xW8 _ _
 go_upto_region 7 with fail;rw[←hW5];clear hW5;have hb5':=hb5.trans (hbV.mono hb5.size);have p1:=hp.later hbV;have p2:=hq.later hbV;clear hbV hp hq hb5;generalize w5.heap.size=gqS at *;have m1:=H4.out.2.1.later hb5';have hBW:=H4.out.2.2.1.trans (hb5'.mono H4.out.2.2.1.size);clear H4 hb5';refine qF9 [0,1,2,3,4,5,6,7,8,9,10,11,12] [25,26,27,28,29,30,31,32,24,33,34,9,10] [[],[],[1],[0,2],[],[4],[],[3,5,6],[7],[8],[8],[9],[10]] W5 _ [isV (.agg #[.bool s5,.slice ao5 n5 cp5,.int .i64 e5]),isV (.pointer (some ⟨gqS,0,none⟩)),isV (.agg #[.bool s1,.slice ao1 n1 cp1,.int .i64 e1]),isP tm,isV (.pointer (some ⟨gqS,3,none⟩)),isV (.agg #[.bool s2,.slice ao2 n2 cp2,.int .i64 e2]),isV (.int .i64 m),isR2 f er,isR2 f er,isV (.float .f64 f),isV (.int .i64 er),isV (.float .f64 f),isV (.int .i64 er)] (by kernel_rfl) ⟨qQ2 _,qQ2 _,qQ2 _,qX8 _,qQ2 _,qQ2 _,qQ2 _,qQ2 _,qQ2 _,qQ2 _,qQ2 _,qQ2 _,qQ2 _,trivial⟩ (by show ∀ s ∈ [25,26,27,28,29,30,31,32,24,33,34,9,10],s<36;decide) ?_ ?_
 ·intro j hj o ho act U hb hoth hdep;have hj':j<13:=hj;have hbU:Bw w U:=hBW.trans (hb.mono hBW.size);have t2':act.tmps[(2:Nat)]?=some (Value.int .i64 m):=(hoth 2 (by decide)).trans rfl
  have t7':act.tmps[(7:Nat)]?=some (Value.pointer (some ⟨gqA,0,none⟩)):=(hoth 7 (by decide)).trans rfl
  have t8':act.tmps[(8:Nat)]?=some (Value.pointer (some ⟨gqS,0,none⟩)):=(hoth 8 (by decide)).trans rfl
  have d7:=(qJ7 (qQ m1.1 hb (qQ6 m1.1))).1;have d8:=(qV9 (qQ n6 hb (qQ6 n6))).1;rcases(by omega:j=0∨j=1∨j=2∨j=3∨j=4∨j=5∨j=6∨j=7∨j=8∨j=9∨j=10∨j=11∨j=12)with rfl|rfl|rfl|rfl|rfl|rfl|rfl|rfl|rfl|rfl|rfl|rfl|rfl
  ·obtain rfl:=xL2 ho;exact .inl ⟨rfl,qJ1 (f:=0) rfl t7' d7.1 d7.2.1 d7.2.2 ⟨_,rfl,rfl,xL1 _ _⟩⟩
  ·obtain rfl:=xL2 ho;exact .inl ⟨rfl,zQ4 rfl t8' ⟨_,rfl,rfl,xL1 _ _⟩⟩
  ·obtain rfl:=xL2 ho;have y1:act.tmps[(26:Nat)]?=_:=dV (hdep 1 (by simp[dL])) rfl
   exact .inl ⟨rfl,qJ1 (f:=0) rfl y1 d8.1 d8.2.1 d8.2.2.1 ⟨_,rfl,rfl,xL1 _ _⟩⟩
  ·obtain rfl:=xL2 ho;have y0:act.tmps[(25:Nat)]?=_:=dV (hdep 0 (by simp[dL])) rfl
   have y2:act.tmps[(27:Nat)]?=_:=dV (hdep 2 (by simp[dL])) rfl
   refine .inl ⟨rfl,qZ1 rfl (qX2 Tryz.func52 (by kernel_rfl) (by kernel_rfl)) (map2 y0 y2) ?_⟩
   refine(k5.out U _ _ hbU (m1.2.later hb) (p1.later hb)).mono ?_
   rintro r w' ⟨_,_,_,_,_,rfl,hA,hb'⟩;exact⟨_,rfl,_,rfl,hA,hb'⟩
  ·obtain rfl:=xL2 ho;exact .inl ⟨rfl,zQ3 rfl t8' ⟨_,rfl,rfl,xL1 _ _⟩⟩
  ·obtain rfl:=xL2 ho;have y4:act.tmps[(29:Nat)]?=_:=dV (hdep 4 (by simp[dL])) rfl
   exact .inl ⟨rfl,qJ1 (f:=3) rfl y4 d8.2.2.2.1 d8.2.2.2.2.1 d8.2.2.2.2.2 ⟨_,rfl,rfl,xL1 _ _⟩⟩
  ·obtain rfl:=xL2 ho;exact .inl ⟨rfl,qZ5 rfl t2' ⟨_,rfl,rfl,xL1 _ _⟩⟩
  ·obtain rfl:=xL2 ho;obtain⟨u3,y3,v3⟩:=hdep 3 (by simp[dL])
   have y3':act.tmps[(28:Nat)]?=_:=y3;have y5:act.tmps[(30:Nat)]?=_:=dV (hdep 5 (by simp[dL])) rfl
   have y6:act.tmps[(31:Nat)]?=_:=dV (hdep 6 (by simp[dL])) rfl
   refine .inl ⟨rfl,qZ1 rfl (qX2 Tryz.func51 (by kernel_rfl) (by kernel_rfl)) (xF8 y3' y5 y6) ?_⟩
   refine(k6.out U _ _ hbU v3 (p2.later hb)).mono ?_
   rintro r w' ⟨rfl,hb'⟩;exact⟨_,rfl,_,rfl,rfl,hb'⟩
  ·obtain rfl:=xL2 ho;have y7:act.tmps[(32:Nat)]?=_:=dV (hdep 7 (by simp[dL])) rfl
   exact .inl ⟨rfl,qZ5 rfl y7 ⟨_,rfl,rfl,xL1 _ _⟩⟩
  ·obtain rfl:=xL2 ho;have y8:act.tmps[(24:Nat)]?=_:=dV (hdep 8 (by simp[dL])) rfl
   exact .inl ⟨rfl,qV2 rfl y8 rfl ⟨_,rfl,rfl,xL1 _ _⟩⟩
  ·obtain rfl:=xL2 ho;have y8:act.tmps[(24:Nat)]?=_:=dV (hdep 8 (by simp[dL])) rfl
   exact .inl ⟨rfl,qV2 rfl y8 rfl ⟨_,rfl,rfl,xL1 _ _⟩⟩
  ·obtain rfl:=xL2 ho;have y9:act.tmps[(33:Nat)]?=_:=dV (hdep 9 (by simp[dL])) rfl
   exact .inl ⟨rfl,qX3 rfl y9 ⟨_,rfl,rfl,xL1 _ _⟩⟩
  ·obtain rfl:=xL2 ho;have y10:act.tmps[(34:Nat)]?=_:=dV (hdep 10 (by simp[dL])) rfl
   exact .inl ⟨rfl,qX3 rfl y10 ⟨_,rfl,rfl,xL1 _ _⟩⟩
 ·intro u W6 hb6 hu;have u11:u 11=.float .f64 f:=hu 11 (by show 11<13;decide)
  have HB:Hid (Bw w W6):=hBW.trans (hb6.mono hBW.size);clear hu hb6 k5 k6 m1 hBW n6 p1 p2;simp only[putL,show List.range 13 = [0,1,2,3,4,5,6,7,8,9,10,11,12] from rfl,show List.range 13 = [0,1,2,3,4,5,6,7,8,9,10,11,12] from rfl,List.length_cons,List.length_nil,List.getD_cons_zero,List.getD_cons_succ,List.map_cons,List.map_nil,List.cons_append,List.nil_append,List.foldl_cons,List.foldl_nil,Nat.reduceLT,Nat.reduceMod,Nat.reduceDiv,Nat.reduceMul,Nat.reduceAdd,Nat.reduceEqDiff,reduceIte,Nat.one_ne_zero,Act.put,List.setIfInBounds_toArray,List.set_cons_zero,List.set_cons_succ];rw[u11];clear u11
  go_wp2
  go_ret;exact⟨rfl,HB.out⟩
end Go.Proofs.YtbanebginnakhaaGreatDoor
namespace Go.Proofs.YtbanebginnakhaaGreatDoor
open Go Go.RowKit Go.Fl64
theorem yK9 (N:Nat) (d0 d1:Int) (t:Bool×Nat×Int) (w:World) (hN:N<18446744073709551616) (hd0:(N:Int) % 4294967296=d0) (hd1:(N:Int) / 4294967296=d1)
  (kK:∀ W g,Bw w W→W.heap[g]?=some (.cells #[.int .u32 d0,.int .u32 d1] 50 (0,0))→Calls Tryz.prog 120 #[.bool false,.slice (some ⟨g,0,none⟩) 2 2,.int .i64 0] W fun r w'=>yK3 W t r w') :
  Calls Tryz.prog 77 #[.int .u64 N] w fun r w'=>OutA w t r w':=by
 obtain⟨w1,hw1⟩:∃ w1,w1=w.alloc (.cells #[.bool false,.slice none 0 0,.int .i64 0] 84):=⟨_,rfl⟩;have HA:Hid (Bw w w1∧w1.heap[w.heap.size]?=some (.cells #[.bool false,.slice none 0 0,.int .i64 0] 84 (0,0))):=⟨by rw[hw1];exact(xL1 _ _).alloc (xL0 _) _,by rw[hw1];exact xW8 _ _⟩
 obtain⟨W,hW⟩:∃ W,W=w1.alloc (.cells #[.int .u32 d0,.int .u32 d1] 50):=⟨_,rfl⟩;have hbV:Bw w1 W:=by rw[hW];exact(xL1 _ _).alloc (xL0 _) _
 have HBW:Hid (Bw w W∧W.heap[w.heap.size]?=some (.cells #[.bool false,.slice none 0 0,.int .i64 0] 84 (0,0))):=⟨HA.out.1.trans (hbV.mono HA.out.1.size),qQ HA.out.2 hbV (qQ6 HA.out.2)⟩;have k1:=kK W w1.heap.size HBW.out.1 (by rw[hW];exact xW8 _ _)
 clear kK hbV
 go_enter Tryz.func77,Tryz.ntmps77
 go_upto_region 1 with fail;rw[←hw1];clear hw1
 go_wp2_with fail;rw[←hW];clear hW HA;refine k1.mono ?_;rintro r w2 ⟨s1,ao1,n1,cp1,e1,rfl,hp,hb⟩;clear k1 hd0 hd1 hN;obtain⟨V,hV⟩:∃ V,V=w2.alloc (.cells #[.bool s1,.slice ao1 n1 cp1,.int .i64 e1] 84):=⟨_,rfl⟩;have hbV:Bw w2 V:=by rw[hV];exact(xL1 _ _).alloc (xL0 _) _
 have n6:V.heap[w2.heap.size]?=some (.cells #[.bool s1,.slice ao1 n1 cp1,.int .i64 e1] 84 (0,0)):=by rw[hV];exact xW8 _ _
 go_upto_region 2 with fail;rw[←hV];clear hV;have hb':=hb.trans (hbV.mono hb.size);have hlt:w.heap.size<w2.heap.size:=xL8 (qQ6 HBW.out.2) hb.size;have hp':=hp.later hbV;clear hp hb hbV;generalize w2.heap.size=gqA at *;have H1:Hid (V.heap[w.heap.size]?=some (.cells #[.bool false,.slice none 0 0,.int .i64 0] 84 (0,0))∧PBx V gqA s1 ao1 n1 cp1 e1 t∧Bw w V):=⟨qQ HBW.out.2 hb' (qQ6 HBW.out.2),⟨n6,hp'⟩,HBW.out.1.trans (hb'.mono HBW.out.1.size)⟩;clear HBW n6 hp' hb';obtain⟨⟨c0,c1,c2⟩,-⟩:=qQ1 H1.out.2.1.1;obtain⟨⟨z0,z1,z2⟩,y0,y1,y2⟩:=qQ1 H1.out.1
 go_wp2;refine xW9 (xE2 rfl _ _ w.heap.size 84 #[.bool s1,.slice ao1 n1 cp1,.int .i64 e1] (0,0) _ rfl (zY0 _ _ _ H1.out.1) Tryz.underlying84 rfl Tryz.info84) rfl ?_;exact⟨_,_,_,_,_,rfl,H1.out.2.1.2.set3 H1.out.1 _ _ _,qS5 H1.out.2.2 (xL0 _) _ _ _⟩
theorem yJ {N:Nat} {w:World} (hT:Tab32 w) (hN:N<18446744073709551616):Calls Tryz.prog 77 #[.int .u64 N] w fun r w'=>OutA w (un (N:Int) 0) r w':=by
 refine yK9 N _ _ (un (N:Int) 0) w hN rfl rfl ?_;intro W g hW hg;have hcell:∀ i,i<2→W.cell? ⟨g,0+i,none⟩=some (.int .u32 (dg N i:Nat)):=by
  intro i hi;rcases(show i=0∨i=1 by omega)with rfl|rfl
  ·rw[show(dg N 0:Nat)=N % 4294967296 by unfold dg B;simp]
   simp[World.cell?,hg]
  ·rw[show(dg N 1:Nat)=N / 4294967296 by unfold dg B;rw[Nat.pow_one,xW3 (by omega)]]
   simp[World.cell?,hg]
 have hR:okR false N 0=true:=by
  have:=zF2 (Z:=(N:Int)) (p:=0) (b:=64) (by rw[xC1];omega) (by omega) (by omega)
  rwa [xC1,show decide ((N:Int)<0)=false from xL3 (by omega)] at this
 have key:Calls Tryz.prog 120 #[.bool false,.slice (some ⟨g,0,none⟩) 2 2,.int .i64 0] W fun r w'=>Mk25 W w' false N 0 r∧Bw W w':=by
  by_cases h:N=0
  ·subst h;exact c15_0 false (some ⟨g,0,none⟩) 2 2 0 W ⟨g,0,fun _=>rfl,hcell⟩ (by omega) (by omega)
  ·exact c15_1 false g 0 2 2 N 0 W hcell ((qQ9 2 N).2 (by unfold B;omega)) (by omega) (by omega) (by omega) h (by omega) (hT.later hW)
 refine key.mono ?_;rintro r w' ⟨⟨-,A,rfl,hN'⟩|⟨h,-⟩,hb⟩
 ·have hp:=hN'.pn;have e1:cn false N 0=un (N:Int) 0:=by unfold un;rw[xC1,show decide ((N:Int)<0)=false from xL3 (by omega)];rfl
  rw[e1] at hp;obtain⟨s,ao,n,cap,e,rfl⟩:=hp.shape;exact⟨s,ao,n,cap,e,rfl,hp,hb⟩
 ·rw[hR] at h;cases h
theorem zI9 (b:Nat) (L:List UInt8) (k:Nat):∀ m,dvP b L (k+m)=dvP b L k*b^m+dvP b (L.drop k) m
 | 0=>by simp[dvP]
 | m+1=>by
  show dvP b L (k+m)*b+dgB (bL L (k+m))=dvP b L k*b^(m+1)+(dvP b (L.drop k) m*b+dgB (bL (L.drop k) m))
  have e:bL (L.drop k) m=bL L (k+m):=by unfold bL;rw[List.getElem?_drop]
  rw[zI9 b L k m,e,xC5,Nat.add_mul,xC6,Nat.add_assoc]
theorem zB8 (b:Nat) (L:List UInt8) (n:Nat):∀ m,m≤n→dvP b (L.take n) m=dvP b L m
 | 0,_=>rfl
 | m+1,h=>by
  show dvP b (L.take n) m*b+dgB (bL (L.take n) m)=dvP b L m*b+dgB (bL L m)
  have e:bL (L.take n) m=bL L m:=by unfold bL;rw[List.getElem?_take_of_lt (by omega)]
  rw[zB8 b L n m (by omega),e]
theorem zV5 (L:List UInt8):(⟨L.toArray⟩:ByteArray).toList.isEmpty=L.isEmpty:=by rw[Lib.toList_data]
theorem yN2 (B:Nat) (L:List UInt8) (h e:Int) (P Qn V:Nat→Bool×Nat×Int) (Rk:Nat→Nat→Bool×Nat×Int) (w:World) (hP0:P 0=nilN) (hL:L.length≤5000)
  (k1:Hid (∀ W (pt:List UInt8) k,pt=(L.drop k).take (min 15 (L.length - k))→k<L.length→Calls Tryz.prog 74 #[.string ⟨pt.toArray⟩,.int .i64 (B:Int),.int .i64 64] W fun r w'=>r=.returned (.tuple #[.int .u64 ((dvP B pt pt.length:Nat):Int),.nilIface])∧Bw W w'))
  (k2:Hid (∀ W n,Bw w W→n≤15→Calls Tryz.prog 76 #[.int .i64 (B:Int),.int .i64 (n:Nat)] W fun r w'=>OutA W (Qn n) r w'))
  (k3:Hid (∀ W X Y k n,Bw w W→PN W X (P k)→PN W Y (Qn n)→k+n≤L.length→n≤15→Calls Tryz.prog 52 #[X,Y] W fun r w'=>OutA W (Rk k n) r w'))
  (k4:Hid (∀ W (pt:List UInt8) k,pt=(L.drop k).take (min 15 (L.length - k))→k<L.length→Bw w W→Calls Tryz.prog 77 #[.int .u64 ((dvP B pt pt.length:Nat):Int)] W fun r w'=>OutA W (V k) r w'))
  (k5:Hid (∀ W X Y k n,Bw w W→PN W X (Rk k n)→PN W Y (V k)→n=min 15 (L.length - k)→k<L.length→Calls Tryz.prog 75 #[X,Y] W fun r w'=>OutA W (P (k+n)) r w')) :
  Calls Tryz.prog 46 #[.agg #[.int .i64 (B:Int),.string ⟨L.toArray⟩,.int .i64 h,.int .i64 e]] w fun r w'=>OutA w (P L.length) r w':=by
 obtain⟨W,hW⟩:∃ W,W=(w.alloc (.cells #[.int .i64 (B:Int),.string ⟨L.toArray⟩,.int .i64 h,.int .i64 e] 59)).alloc (.cells #[.bool false,.slice none 0 0,.int .i64 0] 84):=⟨_,rfl⟩;obtain⟨z1,z2,z3,z4⟩:=qG9 _ _ hW;obtain⟨W1,hW1⟩:∃ W1,W1=W.alloc (.cells #[.bool false,.slice none 0 0,.int .i64 0] 84):=⟨_,rfl⟩;have hb1:Bw W W1:=by rw[hW1];exact(xL1 _ _).alloc (xL0 _) _
 have n6:W1.heap[W.heap.size]?=some (.cells #[.bool false,.slice none 0 0,.int .i64 0] 84 (0,0)):=by rw[hW1];exact xW8 _ _
 obtain⟨gqS,hgq⟩:∃ g,g=W.heap.size:=⟨_,rfl⟩;rw[←hgq] at n6;have H0:Hid (W1.heap[w.heap.size]?=some (.cells #[.int .i64 (B:Int),.string ⟨L.toArray⟩,.int .i64 h,.int .i64 e] 59 (0,0))∧PBx W1 gqS false none 0 0 0 (P 0)∧Bw w W1∧w.heap.size+1<gqS∧W1.heap[w.heap.size+1]?=some (.cells #[.bool false,.slice none 0 0,.int .i64 0] 84 (0,0))):=⟨qQ z1 hb1 (qQ6 z1),⟨n6,by rw[hP0];exact yE9 _⟩,z4.trans (hb1.mono z4.size),by rw[hgq];omega,qQ z2 hb1 (qQ6 z2)⟩
 obtain⟨c0,c1,c2,c3⟩:=qU H0.out.1;clear z1 z2 z3 z4 hb1 n6
 go_enter Tryz.func46,Tryz.ntmps46
 go_upto_region 1 with fail;rw[←hW];clear hW
 go_upto_region 2 with fail;rw[←hW1,←hgq];clear hW1 hgq
 go_wp2;clear c0 c1 c2 c3
 go_loopg [4] L.length (fun m v wr=>∃ (k:Nat) (s3:Bool) (ao3:Option Addr) (n3 cp3:Nat) (e3:Int),k+m=L.length∧v=.string ⟨(L.drop k).toArray⟩∧Hid (wr.heap[w.heap.size]?=some (.cells #[.int .i64 (B:Int),.string ⟨L.toArray⟩,.int .i64 h,.int .i64 e] 59 (0,0))∧PBx wr gqS s3 ao3 n3 cp3 e3 (P k)∧Bw w wr∧w.heap.size+1<gqS∧wr.heap[w.heap.size+1]?=some (.cells #[.bool false,.slice none 0 0,.int .i64 0] 84 (0,0))))
 case atStart=>exact⟨0,false,none,0,0,0,by omega,by rw[List.drop_zero],H0⟩
 case round =>
  obtain⟨k,s3,ao3,n3,cp3,e3,hk,rfl,HI⟩:=hrel;clear H0;obtain⟨R,hR⟩:∃ R:ByteArray,R=⟨(L.drop k).toArray⟩:=⟨_,rfl⟩;have hRe:R.toList.isEmpty=(L.drop k).isEmpty:=by rw[hR];exact zV5 _
  have hRs:R.size=L.length - k:=by rw[hR];show(L.drop k).length=_;rw[List.length_drop]
  rw[←hR];by_cases hkl:k<L.length
  ·have hRe':R.toList.isEmpty=false:=by rw[hRe];cases hq:L.drop k with|nil=>rw[List.drop_eq_nil_iff] at hq;omega|cons a t=>rfl
   obtain⟨m,hm⟩:∃ m,m=min 15 (L.length - k):=⟨_,rfl⟩;obtain⟨pt,hP⟩:∃ pt:List UInt8,pt=(L.drop k).take m:=⟨_,rfl⟩;have hPl:pt.length=m:=by rw[hP,List.length_take,List.length_drop];omega
   have hm0:0<m:=by omega
   have hmi:min (15:Int) ((R.size:Nat):Int)=(m:Int):=by rw[hRs];omega
   have hx1:R.extract 0 m=⟨pt.toArray⟩:=by rw[hR,hP];exact qJ4 _ _
   have hx2:R.extract m R.size=⟨(L.drop (k+m)).toArray⟩:=by
    rw[hRs,hR];have:=qJ0 (L.drop k) m
    rw[List.length_drop,List.drop_drop] at this;exact this
   have hPs:(⟨pt.toArray⟩:ByteArray).size=m:=hPl;have hle:(m:Int)≤(R.size:Int):=by rw[hRs];omega
   have HM:Hid (m=min 15 (L.length - k)∧pt=(L.drop k).take m∧pt.length=m∧k<L.length∧k+gk=L.length∧0<m∧k+m≤L.length∧m≤15∧pt=(L.drop k).take (min 15 (L.length - k))):=⟨hm,hP,hPl,hkl,hk,hm0,by omega,by omega,by rw[←hm];exact hP⟩
   obtain⟨c0,c1,c2,c3⟩:=qU HI.out.1;have kk:=fun W=>k1.out W pt k HM.out.2.2.2.2.2.2.2.2 hkl;rw[hPl] at kk;obtain⟨v,hv⟩:∃ v,v=dvP B pt m:=⟨_,rfl⟩;have HV:Hid (v=dvP B pt m):=hv;rw[←hv] at kk;clear hRe hkl hm hP hPl hm0 hk hv hR;generalize hRz:R.size=rz at *;clear hRs
   go_wp2_with fail;refine(kk _).mono ?_
   rintro r w1 ⟨rfl,hb1⟩;have H1:Hid (w1.heap[w.heap.size]?=some (.cells #[.int .i64 (B:Int),.string ⟨L.toArray⟩,.int .i64 h,.int .i64 e] 59 (0,0))∧PBx w1 gqS s3 ao3 n3 cp3 e3 (P k)∧Bw w w1∧w.heap.size+1<gqS∧w1.heap[w.heap.size+1]?=some (.cells #[.bool false,.slice none 0 0,.int .i64 0] 84 (0,0))):=⟨qQ HI.out.1 hb1 (qQ6 HI.out.1),HI.out.2.1.later hb1,HI.out.2.2.1.trans (hb1.mono HI.out.2.2.1.size),HI.out.2.2.2.1,qQ HI.out.2.2.2.2 hb1 (qQ6 HI.out.2.2.2.2)⟩;clear kk hb1 HI c0 c1 c2 c3 hx1 hx2 hmi hle hRe'
   go_upto_region 7 with fail;obtain⟨m1,m2,hBW,m3,m4⟩:=H1.out;refine qS9 qX7 10 [29,30,31,32,33,34,35,36,37,38] [[],[],[1],[],[3],[2,4],[0,5],[],[7],[6,8]] w1 _ [isV (.agg #[.bool s3,.slice ao3 n3 cp3,.int .i64 e3]),isV (.pointer (some ⟨w.heap.size,0,none⟩)),isV (.int .i64 (B:Int)),isV (.string ⟨pt.toArray⟩),isV (.int .i64 (m:Nat)),isP (Qn m),isP (Rk k m),isV (.int .u64 (v:Nat)),isP (V k),isP (P (k+m))] (by kernel_rfl) ⟨qQ2 _,qQ2 _,qQ2 _,qQ2 _,qQ2 _,qX8 _,qX8 _,qQ2 _,qX8 _,qX8 _,trivial⟩ ⟨rfl,by decide,by show ∀ s ∈ [29,30,31,32,33,34,35,36,37,38],s<40;decide⟩ ?_ ?_
   ·intro j hj o ho act U hb hoth hdep;have hj':j<10:=hj;have hbU:Bw w U:=hBW.trans (hb.mono hBW.size);have t1':act.tmps[(1:Nat)]?=some (Value.pointer (some ⟨w.heap.size,0,none⟩)):=(hoth 1 (by decide)).trans rfl
    have t3':act.tmps[(3:Nat)]?=some (Value.pointer (some ⟨gqS,0,none⟩)):=(hoth 3 (by decide)).trans rfl
    have t5':act.tmps[(5:Nat)]?=some (Value.string ⟨pt.toArray⟩):=(hoth 5 (by decide)).trans rfl
    have t6':act.tmps[(6:Nat)]?=some (Value.int .u64 (v:Nat)):=(hoth 6 (by decide)).trans rfl
    have d3:=(qJ7 (qQ m2.1 hb (qQ6 m2.1))).1;have d1:=qU (qQ m1 hb (qQ6 m1));rcases(by omega:j=0∨j=1∨j=2∨j=3∨j=4∨j=5∨j=6∨j=7∨j=8∨j=9)with rfl|rfl|rfl|rfl|rfl|rfl|rfl|rfl|rfl|rfl
    ·obtain rfl:=xL2 ho;exact(qJ1 (f:=0) rfl t3' d3.1 d3.2.1 d3.2.2 ⟨_,rfl,rfl,xL1 _ _⟩)
    ·obtain rfl:=xL2 ho;exact(qZ7 (w':=U) (by simp[execOp,Act.eval,t1',go_sem]) ⟨_,rfl,rfl,xL1 _ _⟩)
    ·obtain rfl:=xL2 ho;have y1:act.tmps[(30:Nat)]?=_:=dV (hdep 1 (by simp[dL])) rfl
     exact(qZ7 (w':=U) (by simp[execOp,Act.eval,y1,go_sem,d1.1]) ⟨_,rfl,rfl,xL1 _ _⟩)
    ·obtain rfl:=xL2 ho;exact(qZ5 rfl t5' ⟨_,rfl,rfl,xL1 _ _⟩)
    ·obtain rfl:=xL2 ho;have y3:act.tmps[(32:Nat)]?=_:=dV (hdep 3 (by simp[dL])) rfl
     exact(qZ7 (w':=U) (by simp[execOp,Act.eval,y3,go_sem,hPs]) ⟨_,rfl,rfl,xL1 _ _⟩)
    ·obtain rfl:=xL2 ho;have y2:act.tmps[(31:Nat)]?=_:=dV (hdep 2 (by simp[dL])) rfl
     have y4:act.tmps[(33:Nat)]?=_:=dV (hdep 4 (by simp[dL])) rfl
     refine(qZ1 rfl (qX2 Tryz.func76 (by kernel_rfl) (by kernel_rfl)) (map2 y2 y4) ?_)
     refine(k2.out U m hbU HM.out.2.2.2.2.2.2.2.1).mono ?_
     rintro r w' ⟨_,_,_,_,_,rfl,hA,hb'⟩;exact⟨_,rfl,_,rfl,hA,hb'⟩
    ·obtain rfl:=xL2 ho;have y0:act.tmps[(29:Nat)]?=_:=dV (hdep 0 (by simp[dL])) rfl
     obtain⟨u5,y5,v5⟩:=hdep 5 (by simp[dL])
     have y5':act.tmps[(34:Nat)]?=_:=y5;refine(qZ1 rfl (qX2 Tryz.func52 (by kernel_rfl) (by kernel_rfl)) (map2 y0 y5') ?_)
     refine(k3.out U _ _ k m hbU (m2.2.later hb) v5 HM.out.2.2.2.2.2.2.1 HM.out.2.2.2.2.2.2.2.1).mono ?_
     rintro r w' ⟨_,_,_,_,_,rfl,hA,hb'⟩;exact⟨_,rfl,_,rfl,hA,hb'⟩
    ·obtain rfl:=xL2 ho;exact(qZ5 rfl t6' ⟨_,rfl,rfl,xL1 _ _⟩)
    ·obtain rfl:=xL2 ho;have y7:act.tmps[(36:Nat)]?=_:=dV (hdep 7 (by simp[dL])) rfl
     refine(qZ1 rfl (qX2 Tryz.func77 (by kernel_rfl) (by kernel_rfl)) (qB8 y7) ?_)
     have k9:=k4.out U pt k HM.out.2.2.2.2.2.2.2.2 HM.out.2.2.2.1 hbU;rw[HM.out.2.2.1,←HV.out] at k9;refine k9.mono ?_;rintro r w' ⟨_,_,_,_,_,rfl,hA,hb'⟩;exact⟨_,rfl,_,rfl,hA,hb'⟩
    ·obtain rfl:=xL2 ho;obtain⟨u6,y6,v6⟩:=hdep 6 (by simp[dL])
     have y6':act.tmps[(35:Nat)]?=_:=y6;obtain⟨u8,y8,v8⟩:=hdep 8 (by simp[dL])
     have y8':act.tmps[(37:Nat)]?=_:=y8;refine(qZ1 rfl (qX2 Tryz.func75 (by kernel_rfl) (by kernel_rfl)) (map2 y6' y8') ?_)
     refine(k5.out U _ _ k m hbU v6 v8 HM.out.1 HM.out.2.2.2.1).mono ?_
     rintro r w' ⟨_,_,_,_,_,rfl,hA,hb'⟩;exact⟨_,rfl,_,rfl,hA,hb'⟩
   ·intro o ho u W5 hb5 hu;have hop:o.op=.store 84 (.tmp 3) (.tmp 38):=by rw[←xL2 ho];rfl
    have hds:o.dst=none:=by rw[←xL2 ho];rfl
    clear ho;have q9:PN W5 (u 9) (P (k+m)):=hu 9 (by decide)
    obtain⟨s5,ao5,n5,cp5,e5,h5⟩:=q9.shape;rw[h5] at q9;have H5:Hid ((W5.heap[w.heap.size]?=some (.cells #[.int .i64 (B:Int),.string ⟨L.toArray⟩,.int .i64 h,.int .i64 e] 59 (0,0))∧PBx W5 gqS s3 ao3 n3 cp3 e3 (P k)∧Bw w W5∧w.heap.size+1<gqS∧W5.heap[w.heap.size+1]?=some (.cells #[.bool false,.slice none 0 0,.int .i64 0] 84 (0,0)))∧PN W5 (.agg #[.bool s5,.slice ao5 n5 cp5,.int .i64 e5]) (P (k+m))):=⟨⟨qQ m1 hb5 (qQ6 m1),m2.later hb5,hBW.trans (hb5.mono hBW.size),m3,qQ m4 hb5 (qQ6 m4)⟩,q9⟩;clear hu hb5 m1 m2 m3 m4 hBW H1 q9;simp only[putL,show List.range 10 = [0,1,2,3,4,5,6,7,8,9] from rfl,List.length_cons,List.length_nil,List.getD_cons_zero,List.getD_cons_succ,List.map_cons,List.map_nil,List.cons_append,List.nil_append,List.foldl_cons,List.foldl_nil,Nat.reduceLT,Nat.reduceMod,Nat.reduceDiv,Nat.reduceMul,Nat.reduceAdd,Nat.reduceEqDiff,reduceIte,Nat.one_ne_zero,Act.put,List.setIfInBounds_toArray,List.set_cons_zero,List.set_cons_succ];rw[h5];clear h5;refine zQ2 hop (g:=gqS) (cs:=#[.bool s5,.slice ao5 n5 cp5,.int .i64 e5]) rfl rfl H5.out.1.2.1.1 (by kernel_rfl) rfl (one3 rfl rfl) ?_
    rw[hds];simp only[Act.put];have H6:Hid ((W5.setRow gqS #[.bool s5,.slice ao5 n5 cp5,.int .i64 e5]).heap[w.heap.size]?=some (.cells #[.int .i64 (B:Int),.string ⟨L.toArray⟩,.int .i64 h,.int .i64 e] 59 (0,0))∧PBx (W5.setRow gqS #[.bool s5,.slice ao5 n5 cp5,.int .i64 e5]) gqS s5 ao5 n5 cp5 e5 (P (k+m))∧Below w.heap.size w (W5.setRow gqS #[.bool s5,.slice ao5 n5 cp5,.int .i64 e5])∧w.heap.size+1<gqS∧(W5.setRow gqS #[.bool s5,.slice ao5 n5 cp5,.int .i64 e5]).heap[w.heap.size+1]?=some (.cells #[.bool false,.slice none 0 0,.int .i64 0] 84 (0,0))):=by
     obtain⟨⟨a1,a2,a3,a4,a5⟩,a6⟩:=H5.out;have hlt:=qQ6 a2.1;exact⟨(setRow_other _ _ _ _ (by omega)).trans a1,⟨setRow_heap _ _ _ _ _ _ a2.1,PN.row3 a6 a2.1 ⟨_,_,_,_,_,rfl⟩ _⟩,qG7 a3 (by omega) _,a4,(setRow_other _ _ _ _ (by omega)).trans a5⟩
    clear H5;generalize W5.setRow gqS #[.bool s5,.slice ao5 n5 cp5,.int .i64 e5]=W6 at *
    go_wp2_with fail
    go_roundg (gk - m)
    case measure=>have:=HM.out;omega
    case rel=>exact⟨k+m,s5,ao5,n5,cp5,e5,by have:=HM.out;omega,rfl,H6⟩
  ·obtain rfl:k=L.length:=by omega
   have hRe':R.toList.isEmpty=true:=by rw[hRe,List.drop_length];rfl
   obtain⟨⟨a0,a1,a2⟩,-⟩:=qQ1 HI.out.2.1.1;obtain⟨⟨b0,b1,b2⟩,f0,f1,f2⟩:=qQ1 HI.out.2.2.2.2;clear hRe hRs hR hk hkl
   go_wp2;refine xW9 (xE2 rfl _ _ (w.heap.size+1) 84 #[.bool s3,.slice ao3 n3 cp3,.int .i64 e3] (0,0) _ rfl (zY0 _ _ _ HI.out.2.2.2.2) Tryz.underlying84 rfl Tryz.info84) rfl ?_;exact⟨_,_,_,_,_,rfl,HI.out.2.1.2.set3 HI.out.2.2.2.2 _ _ _,qS5 HI.out.2.2.1 (by omega) _ _ _⟩
end Go.Proofs.YtbanebginnakhaaGreatDoor
