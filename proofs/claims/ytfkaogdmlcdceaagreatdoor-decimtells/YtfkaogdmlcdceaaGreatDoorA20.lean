/- Own work: contracts of the program's functions, part 20: DUP DUQ DUR DUS DUT. -/
import Derived.Test.YtfkaogdmlcdceaaGreatDoorA19
import Derived.Test.YtfkaogdmlcdceaaGreatDoorA16

set_option maxHeartbeats 16000000
set_option maxRecDepth 200000
set_option linter.unusedVariables false
set_option linter.unusedSimpArgs false
namespace Go.Proofs.YtfkaogdmlcdceaaGreatDoor
open Go Go.RowKit Go.Fl64
attribute [local go_sem] iV Nu
theorem yO8 (f:Nat) (t:ByteArray) (w:World)
  (Y:∀ W,Ca 27 #[.float .f64 f] W fun r w'=>r=.returned (.tuple #[.string t,.bool true])∧w'=W) :
  Ca 8 #[.float .f64 f] w fun r w'=>r=.returned (.string t)∧w'=w:=by
 go_enter Tryz.func8,Tryz.ntmps8
 go_wp2_with (go_at_call 27;refine(Y _).mono ?_;rintro r w' ⟨rfl,u⟩;replace u:=u.symm;subst u)
 go_ret;exact⟨rfl,rfl⟩
theorem kZ3 (f:Nat) (u:List UInt8) (w:World) (F:(FloatKind.f64.format.order f 0==some Ordering.eq)=true) (V:u.length≤1)
  (J:∀ W,Ca 27 #[.float .f64 f] W fun r w'=>r=.returned (.tuple #[.string ⟨u.toArray⟩,.bool false])∧w'=W) :
  Ca 8 #[.float .f64 f] w fun r w'=>r=.returned (.string ⟨(u ++ [48]).toArray⟩)∧w'=w:=by
 have H:(⟨u.toArray⟩:ByteArray).size+(⟨#[48]⟩:ByteArray).size≤9223372036854775807:=by
  rw[bsz,show(⟨#[48]⟩:ByteArray).size=1 from rfl];omega
 have D:(⟨u.toArray⟩:ByteArray)++⟨#[48]⟩=⟨(u ++ [48]).toArray⟩:=qZ0 _ [48]
 go_enter Tryz.func8,Tryz.ntmps8
 go_wp2_with (go_at_call 27;refine(J _).mono ?_;rintro r w' ⟨rfl,Y⟩;replace Y:=Y.symm;subst Y)
 go_ret;exact⟨rfl,rfl⟩
theorem kZ2 (f fa:Nat) (x:Int) (Y d t:List UInt8) (w:World) (hx : -10000≤x∧x≤10000) (hf:(FloatKind.f64.format.order f 0==some Ordering.eq)=false) (qZ:Y.length≤1) (hd:Hid (1≤d.length∧d.length≤1000)) (hT:t.length≤100)
  (kW:∀ W,Ca 27 #[.float .f64 f] W fun r w'=>r=.returned (.tuple #[.string ⟨Y.toArray⟩,.bool false])∧w'=W)
  (kA:∀ W,Ca 17 #[.float .f64 f] W fun r w'=>r=.returned (.float .f64 fa)∧w'=W)
  (kS:Hid (∀ W,Ca 28 #[.float .f64 fa] W (Rq W (.tuple #[.string ⟨d.toArray⟩,iV x]))))
  (qU:x < -5∨20<x)
  (kT:Hid (∀ W,Ca 29 #[iV x] W (Rq W (.string ⟨t.toArray⟩)))) :
  Ca 8 #[.float .f64 f] w (Rq w (.string ⟨(Y++exL d t).toArray⟩)):=by
 have qQ:(⟨d.toArray⟩:ByteArray).size=d.length:=rfl;have HL:Hid _:=aI4 hd.out.2 qZ hT hd.out.1;have qB:(1:Int)≤(d.length:Int):=by have:=hd.out;omega
 have et:=qK0 d 1;have ed:=qJ3 d 1;rw[List.drop_one] at ed;obtain⟨A,D⟩:∃ A:List UInt8,A=d.take 1++(if 1<d.length then 46 :: d.drop 1 else []):=⟨_,rfl⟩;have L:A.length≤1001:=by
  have:=HL.out
  rw[D,kM0,List.length_take];split
  ·rw[kG2,List.length_drop];omega
  ·simp;omega
 have qX:(⟨(d.take 1).toArray⟩:ByteArray).size+(⟨#[46]⟩:ByteArray).size≤9223372036854775807:=by
  rw[bsz,show(⟨#[46]⟩:ByteArray).size=1 from rfl,List.length_take];omega
 have e1:(⟨(d.take 1).toArray⟩:ByteArray)++⟨#[46]⟩=⟨(d.take 1 ++ [46]).toArray⟩:=qZ0 _ [46];have qY:(⟨(d.take 1 ++ [46]).toArray⟩:ByteArray).size+(⟨d.tail.toArray⟩:ByteArray).size≤9223372036854775807:=by
  rw[bsz,bsz,kM0,List.length_take,List.length_tail];have:=HL.out;simp;omega
 obtain⟨B,hB⟩:∃ B:List UInt8,B=Y++A:=⟨_,rfl⟩;obtain⟨C,hC⟩:∃ C:List UInt8,C=B ++ [101]:=⟨_,rfl⟩;have qH:B.length≤1102:=by have:=HL.out;rw[hB,kM0];omega
 have qG:C.length≤1103:=by rw[hC,kM0];simp;omega
 have T:(⟨Y.toArray⟩:ByteArray).size+(⟨A.toArray⟩:ByteArray).size≤9223372036854775807:=by rw[bsz,bsz];have:=HL.out;omega
 have e3:(⟨Y.toArray⟩:ByteArray)++⟨A.toArray⟩=⟨B.toArray⟩:=by rw[hB];exact qZ0 _ _
 have qP:(⟨B.toArray⟩:ByteArray).size+(⟨#[101]⟩:ByteArray).size≤9223372036854775807:=by
  rw[bsz,show(⟨#[101]⟩:ByteArray).size=1 from rfl];omega
 have e4:(⟨B.toArray⟩:ByteArray)++⟨#[101]⟩=⟨C.toArray⟩:=by rw[hC];exact qZ0 _ [101]
 have qM:(⟨C.toArray⟩:ByteArray).size+(⟨t.toArray⟩:ByteArray).size≤9223372036854775807:=by
  rw[bsz,bsz];have:=HL.out;omega
 obtain⟨R,hR⟩:∃ R:List UInt8,R=Y++exL d t:=⟨_,rfl⟩;have e5:(⟨C.toArray⟩:ByteArray)++⟨t.toArray⟩=⟨R.toArray⟩:=by
  rw[qZ0,hC,hB,hR];unfold exL;rw[←D];simp
 rw[←hR];clear hB hC qH qG hR qZ hT;obtain⟨b1,qK⟩:∃ b1:Bool,decide (x < -5)=b1:=⟨_,rfl⟩;have qJ:(x < -5)∨(¬ x < -5∧20<x):=ω;clear qU qK b1;rcases qJ with qV|⟨qV,qN⟩
 ·have q1:=kS.out w
  go_enter Tryz.func8,Tryz.ntmps8
  go_wp2_with (first|(go_at_call 27;refine(kW _).mono ?_;rintro r w' ⟨rfl,J⟩;replace J:=J.symm;subst J)|(go_at_call 17;refine(kA _).mono ?_;rintro r w' ⟨rfl,J⟩;replace J:=J.symm;subst J))
  refine q1.mono ?_;rintro r w1 ⟨rfl,F⟩;have I:Hid _:=F;clear q1 F kW kA kS
  go_upto_region 8 with fail;by_cases qF:(1:Int)<(d.length:Int)
  ·have e2:(⟨(d.take 1 ++ [46]).toArray⟩:ByteArray)++⟨d.tail.toArray⟩=⟨A.toArray⟩:=by rw[qZ0,D,kU6 ω,List.drop_one,List.append_assoc];rfl
   clear D L
   go_upto_region 9 with fail
   go_quiet (fail)
   have H:=fun U=>kT.out U
   go_wp2_with fail;refine(H _).mono ?_
   rintro r w5 ⟨rfl,u⟩;have V:Hid _:=(qH9 I.out nq).trans (u.mono (qH9 I.out nq).size);clear H u
   go_wp2_with fail
   go_ret;exact⟨rfl,V.out⟩
  ·have e2:d.take 1=A:=by rw[D,kU5 ω,List.append_nil]
   have e6:A=d:=by rw[←e2,List.take_of_length_le ω]
   rw[e6] at T e3;rw[qQ] at T;clear D L et ed e1 qX qY e2 e6;have H:=kT.out w1
   go_wp2_with fail;refine H.mono ?_;rintro r w5 ⟨rfl,u⟩;have V:Hid _:=I.out.trans (u.mono I.out.size);clear H u
   go_wp2_with fail
   go_ret;exact⟨rfl,V.out⟩
 ·have q1:=kS.out w
  go_enter Tryz.func8,Tryz.ntmps8
  go_wp2_with (first|(go_at_call 27;refine(kW _).mono ?_;rintro r w' ⟨rfl,J⟩;replace J:=J.symm;subst J)|(go_at_call 17;refine(kA _).mono ?_;rintro r w' ⟨rfl,J⟩;replace J:=J.symm;subst J))
  refine q1.mono ?_;rintro r w1 ⟨rfl,F⟩;have I:Hid _:=F;clear q1 F kW kA kS
  go_upto_region 8 with fail;by_cases qF:(1:Int)<(d.length:Int)
  ·have e2:(⟨(d.take 1 ++ [46]).toArray⟩:ByteArray)++⟨d.tail.toArray⟩=⟨A.toArray⟩:=by rw[qZ0,D,kU6 ω,List.drop_one,List.append_assoc];rfl
   clear D L
   go_upto_region 9 with fail
   go_quiet (fail)
   have H:=fun U=>kT.out U
   go_wp2_with fail;refine(H _).mono ?_
   rintro r w5 ⟨rfl,u⟩;have V:Hid _:=(qH9 I.out nq).trans (u.mono (qH9 I.out nq).size);clear H u
   go_wp2_with fail
   go_ret;exact⟨rfl,V.out⟩
  ·have e2:d.take 1=A:=by rw[D,kU5 ω,List.append_nil]
   have e6:A=d:=by rw[←e2,List.take_of_length_le ω]
   rw[e6] at T e3;rw[qQ] at T;clear D L et ed e1 qX qY e2 e6;have H:=kT.out w1
   go_wp2_with fail;refine H.mono ?_;rintro r w5 ⟨rfl,u⟩;have V:Hid _:=I.out.trans (u.mono I.out.size);clear H u
   go_wp2_with fail
   go_ret;exact⟨rfl,V.out⟩
theorem kZ0 (f fa:Nat) (x:Int) (u d t:List UInt8) (w:World) (hx : -10000≤x∧x≤10000) (hf:(FloatKind.f64.format.order f 0==some Ordering.eq)=false) (V:u.length≤1) (hd:Hid (1≤d.length∧d.length≤1000)) 
  (kW:∀ W,Ca 27 #[.float .f64 f] W fun r w'=>r=.returned (.tuple #[.string ⟨u.toArray⟩,.bool false])∧w'=W)
  (kA:∀ W,Ca 17 #[.float .f64 f] W fun r w'=>r=.returned (.float .f64 fa)∧w'=W)
  (kS:Hid (∀ W,Ca 28 #[.float .f64 fa] W (Rq W (.tuple #[.string ⟨d.toArray⟩,iV x]))))
  (h0:x<0) (h5:¬ x < -5) (I:Hid (t=nzL (-x - 1)))  :
  Ca 8 #[.float .f64 f] w (Rq w (.string ⟨(u++([48,46]++(t++d))).toArray⟩)):=by
 have hT:t.length≤100:=by rw[I.out,qP5];omega
 have J:(⟨d.toArray⟩:ByteArray).size=d.length:=rfl;have HL:Hid _:=aI4 hd.out.2 V hT hd.out.1;have qV:¬ 20<x:=ω;have u1:IntKind.i64.wrap (-x) = -x:=by rw[kB5];omega
 have u2:IntKind.i64.wrap (-x - 1) = -x - 1:=by rw[kB5];omega
 have L:=fun W=>d4nz (-x - 1) W ω;rw[←I.out] at L;obtain⟨B,T⟩:∃ B:List UInt8,B=u ++ [48,46]:=⟨_,rfl⟩;obtain⟨C,D⟩:∃ C:List UInt8,C=B++t:=⟨_,rfl⟩;have qY:B.length≤3:=by have:=HL.out;rw[T,kM0];simp;omega
 have qZ:C.length≤103:=by rw[D,kM0];omega
 have qJ:(⟨u.toArray⟩:ByteArray).size+(⟨#[48,46]⟩:ByteArray).size≤9223372036854775807:=by rw[bsz,show(⟨#[48,46]⟩:ByteArray).size=2 from rfl];have:=HL.out;omega
 have e3:(⟨u.toArray⟩:ByteArray)++⟨#[48,46]⟩=⟨B.toArray⟩:=by rw[T];exact qZ0 _ [48,46]
 have qK:(⟨B.toArray⟩:ByteArray).size+(⟨t.toArray⟩:ByteArray).size≤9223372036854775807:=by rw[bsz,bsz];omega
 have e4:(⟨B.toArray⟩:ByteArray)++⟨t.toArray⟩=⟨C.toArray⟩:=by rw[D];exact qZ0 _ _
 have qQ:(⟨C.toArray⟩:ByteArray).size+(⟨d.toArray⟩:ByteArray).size≤9223372036854775807:=by
  rw[bsz,bsz];have:=HL.out;omega
 obtain⟨R,hR⟩:∃ R:List UInt8,R=u++([48,46]++(t++d)):=⟨_,rfl⟩;have e5:(⟨C.toArray⟩:ByteArray)++⟨d.toArray⟩=⟨R.toArray⟩:=by
  rw[qZ0,D,T,hR];simp
 rw[←hR];rw[J] at qQ;clear T D qY qZ hR V hT I;have q1:=kS.out w
 go_enter Tryz.func8,Tryz.ntmps8
 go_wp2_with (first|(go_at_call 27;refine(kW _).mono ?_;rintro r w' ⟨rfl,Y⟩;replace Y:=Y.symm;subst Y)|(go_at_call 17;refine(kA _).mono ?_;rintro r w' ⟨rfl,Y⟩;replace Y:=Y.symm;subst Y))
 refine q1.mono ?_;rintro r w1 ⟨rfl,F⟩;have HB:Hid _:=F;clear q1 F kW kA kS;have q2:=fun W=>L W;clear L
 go_wp2_with fail;refine(q2 _).mono ?_
 rintro r w5 ⟨rfl,H⟩;have qX:Hid _:=HB.out.trans (H.mono HB.out.size);clear q2 H
 go_wp2_with fail
 go_ret;exact⟨rfl,qX.out⟩
theorem kZ1 (f fa:Nat) (x:Int) (u d t:List UInt8) (w:World) (hx : -10000≤x∧x≤10000) (hf:(FloatKind.f64.format.order f 0==some Ordering.eq)=false) (V:u.length≤1) (hd:Hid (1≤d.length∧d.length≤1000)) 
  (kW:∀ W,Ca 27 #[.float .f64 f] W fun r w'=>r=.returned (.tuple #[.string ⟨u.toArray⟩,.bool false])∧w'=W)
  (kA:∀ W,Ca 17 #[.float .f64 f] W fun r w'=>r=.returned (.float .f64 fa)∧w'=W)
  (kS:Hid (∀ W,Ca 28 #[.float .f64 fa] W (Rq W (.tuple #[.string ⟨d.toArray⟩,iV x]))))
  (h0:¬ x<0) (qX:¬ 20<x) (hl:(d.length:Int)≤x+1) (L:Hid (t=nzL (x+1 - d.length)))  :
  Ca 8 #[.float .f64 f] w (Rq w (.string ⟨(u++(d++t)).toArray⟩)):=by
 have hT:t.length≤100:=by rw[L.out,qP5];omega
 have J:(⟨d.toArray⟩:ByteArray).size=d.length:=rfl;have HL:Hid _:=aI4 hd.out.2 V hT hd.out.1;have h5:¬ x < -5:=ω;have u1:IntKind.i64.wrap (x+1)=x+1:=by rw[kB5];omega
 have u2:IntKind.i64.wrap (x+1 - (d.length:Int))=x+1 - (d.length:Int):=by rw[kB5];omega
 have T:=fun W=>d4nz (x+1 - (d.length:Int)) W ω;rw[←L.out] at T;obtain⟨B,D⟩:∃ B:List UInt8,B=u++d:=⟨_,rfl⟩;have qQ:B.length≤1003:=by have:=HL.out;rw[D,kM0];omega
 have C:(⟨u.toArray⟩:ByteArray).size+(⟨d.toArray⟩:ByteArray).size≤9223372036854775807:=by rw[bsz,bsz];have:=HL.out;omega
 have e3:(⟨u.toArray⟩:ByteArray)++⟨d.toArray⟩=⟨B.toArray⟩:=by rw[D];exact qZ0 _ _
 have qY:(⟨B.toArray⟩:ByteArray).size+(⟨t.toArray⟩:ByteArray).size≤9223372036854775807:=by rw[bsz,bsz];omega
 obtain⟨R,I⟩:∃ R:List UInt8,R=u++(d++t):=⟨_,rfl⟩;have e5:(⟨B.toArray⟩:ByteArray)++⟨t.toArray⟩=⟨R.toArray⟩:=by
  rw[qZ0,D,I];simp
 rw[←I];rw[J] at C;clear D qQ I V hT L;have q1:=kS.out w
 go_enter Tryz.func8,Tryz.ntmps8
 go_wp2_with (first|(go_at_call 27;refine(kW _).mono ?_;rintro r w' ⟨rfl,Y⟩;replace Y:=Y.symm;subst Y)|(go_at_call 17;refine(kA _).mono ?_;rintro r w' ⟨rfl,Y⟩;replace Y:=Y.symm;subst Y))
 refine q1.mono ?_;rintro r w1 ⟨rfl,F⟩;have HB:Hid _:=F;clear q1 F kW kA kS;have q2:=fun W=>T W;clear T
 go_wp2_with fail;refine(q2 _).mono ?_
 rintro r w5 ⟨rfl,H⟩;have qZ:Hid _:=HB.out.trans (H.mono HB.out.size);clear q2 H
 go_wp2_with fail
 go_ret;exact⟨rfl,qZ.out⟩
theorem kQ9 (f fa:Nat) (x:Int) (u d:List UInt8) (w:World) (hx : -10000≤x∧x≤10000) (hf:(FloatKind.f64.format.order f 0==some Ordering.eq)=false) (V:u.length≤1) (hd:Hid (1≤d.length∧d.length≤1000))
  (kW:∀ W,Ca 27 #[.float .f64 f] W fun r w'=>r=.returned (.tuple #[.string ⟨u.toArray⟩,.bool false])∧w'=W)
  (kA:∀ W,Ca 17 #[.float .f64 f] W fun r w'=>r=.returned (.float .f64 fa)∧w'=W)
  (kS:Hid (∀ W,Ca 28 #[.float .f64 fa] W (Rq W (.tuple #[.string ⟨d.toArray⟩,iV x]))))
  (q:Nat) (hq:x+1=(q:Int)) (h0:¬ x<0) (qN:¬ 20<x) (hl:¬ (d.length:Int)≤x+1) :
  Ca 8 #[.float .f64 f] w (Rq w (.string ⟨(u++(d.take q++46 :: d.drop q)).toArray⟩)):=by
 have qJ:(⟨d.toArray⟩:ByteArray).size=d.length:=rfl;have I:Hid _:=aI3 hd.out.2 V hd.out.1;have h5:¬ x < -5:=ω;have u1:IntKind.i64.wrap (x+1)=(q:Int):=by rw[←hq,kB5];omega
 have qG:¬ (d.length:Int)≤(q:Int):=ω;have qU:(0:Int)≤(q:Int):=ω;have qV:(q:Int)≤(d.length:Int):=ω;have qQ:q≤d.length:=ω;have et:=qK0 d q;have ed:=qJ3 d q;obtain⟨X,D⟩:∃ X:List UInt8,X=d.take q:=⟨_,rfl⟩;obtain⟨Y,F⟩:∃ Y:List UInt8,Y=d.drop q:=⟨_,rfl⟩;have qY:X.length≤1000:=by have:=I.out;rw[D,List.length_take];omega
 have qZ:Y.length≤1000:=by have:=I.out;rw[F,List.length_drop];omega
 obtain⟨B,L⟩:∃ B:List UInt8,B=u++X:=⟨_,rfl⟩;obtain⟨C,T⟩:∃ C:List UInt8,C=B ++ [46]:=⟨_,rfl⟩;have qK:B.length≤1003:=by have:=I.out;rw[L,kM0];omega
 have qX:C.length≤1004:=by rw[T,kM0];simp;omega
 have qB:(⟨u.toArray⟩:ByteArray).size+(⟨X.toArray⟩:ByteArray).size≤9223372036854775807:=by rw[bsz,bsz];have:=I.out;omega
 have e3:(⟨u.toArray⟩:ByteArray)++⟨X.toArray⟩=⟨B.toArray⟩:=by rw[L];exact qZ0 _ _
 have qF:(⟨B.toArray⟩:ByteArray).size+(⟨#[46]⟩:ByteArray).size≤9223372036854775807:=by rw[bsz,show(⟨#[46]⟩:ByteArray).size=1 from rfl];omega
 have e4:(⟨B.toArray⟩:ByteArray)++⟨#[46]⟩=⟨C.toArray⟩:=by rw[T];exact qZ0 _ [46]
 have qH:(⟨C.toArray⟩:ByteArray).size+(⟨Y.toArray⟩:ByteArray).size≤9223372036854775807:=by rw[bsz,bsz];omega
 obtain⟨R,hR⟩:∃ R:List UInt8,R=u++(d.take q++46 :: d.drop q):=⟨_,rfl⟩;have e5:(⟨C.toArray⟩:ByteArray)++⟨Y.toArray⟩=⟨R.toArray⟩:=by
  rw[qZ0,T,L,hR,D,F];simp
 rw[←D] at et;rw[←F] at ed;rw[←hR];clear L T qK qX hR V D F qY qZ qQ hq hl;have q1:=kS.out w
 go_enter Tryz.func8,Tryz.ntmps8
 go_wp2_with (first|(go_at_call 27;refine(kW _).mono ?_;rintro r w' ⟨rfl,J⟩;replace J:=J.symm;subst J)|(go_at_call 17;refine(kA _).mono ?_;rintro r w' ⟨rfl,J⟩;replace J:=J.symm;subst J))
 refine q1.mono ?_;rintro r w1 ⟨rfl,H⟩;have HB:Hid _:=H;clear q1 H kW kA kS
 go_upto_region 15 with fail
 go_quiet (fail)
 go_wp2_with fail
 go_ret;exact⟨rfl,qH9 HB.out nq⟩
def DNb (w:World) (B:Nat) (A:Value) (t:Bool×Nat×Int):Prop:=DN w A t∧∀ (s:Bool) (ao:Option Addr) (n cp:Nat) (e:Int),A=.agg #[.bool s,.slice ao n cp,.int .i64 e]→∀ ad:Addr,ao=some ad→0<n→B≤ad.block
theorem NC.dnb {w:World} {u:Nat} {a:Value} {neg:Bool} {x:Nat} {e:Int} (h:NC w u a neg x e):DNb w u a (cn neg x e):=by
 refine⟨h.dn,?_⟩
 obtain⟨ao,cap,rfl,L,F⟩:=h;intro s D n W e' H T V J;have Y:=Value.agg.inj H;simp at Y
 obtain⟨-,⟨rfl,rfl,-⟩,-⟩:=Y;exact F T V J
theorem DNb.later {w w':World} {B:Nat} {A:Value} {t:Bool×Nat×Int} (h:DNb w B A t) (u:Bw w w'):DNb w' B A t:=⟨h.1.later u,h.2⟩
theorem xI9 {H J:Bool×Nat×Int} {X Y:Value} {w:World} (o1:Gn H) (L:Gn J) (h1:DN w X H) (h2:DN w Y J):Ca 45 #[X,Y] w fun r w'=>∃ A,r=.returned A∧DNb w' w.heap.size A (gD H J)∧Bw w w':=by
 obtain⟨ao,cap,rfl,a1⟩:=h1;obtain⟨V,u,rfl,a2⟩:=h2;have z2:=L.zero;obtain⟨I,f1,f2,f3⟩:=o1;obtain⟨c2,g1,g2,g3⟩:=L;unfold gD;by_cases D:J.2.1=0
 ·have e2:=z2 D;have e3:J.1=false:=by rw[e2]
  have e4:J.2.2=0:=by rw[e2]
  rw[D,e3,e4,qQ5];have C:=fun(W:World) (F:Bw w W)=>qO5 (nb:=false) (y:=0) (eb:=0) (a1.later F) (yJ5 W) I rfl ω ω ω ω ω (by rw[qQ5];omega)
  simp only[qQ5] at C;exact(qS8 H.1 false ao V (dlen H.2.1) cap 0 u H.2.2 0 false none 0 0 0 _ _ _ w (fun W=>zX5 false V u 0 W) C).mono fun r w' ⟨A,e,h,T⟩=>⟨A,e,h.dnb,T⟩
 ·have hl:0<dlen J.2.1:=by have:=qJ1 D;omega
  rw[kF2 hl,Bool.and_true];exact(qS8 H.1 J.1 ao V (dlen H.2.1) cap (dlen J.2.1) u H.2.2 J.2.2 (!J.1) V (dlen J.2.1) u J.2.2 _ _ _ w (fun W=>qC0 J.1 V (dlen J.2.1) u J.2.2 W ω (by rw[kN2];omega)) (fun W F=>qO5 (a1.later F) (a2.later F) I (zY1 c2 D _) ω ω ω ω ω ω)).mono fun r w' ⟨A,e,h,T⟩=>⟨A,e,h.dnb,T⟩
theorem xT8 {w w':World} {B m:Nat} {V:Value} {Y:List Value} {g s:Nat} {cs:Array Value} (J:w'.ownsRow B 5 1 V m Y) (u:w'.heap[g]?=some (.cells cs 54 (0,0))):some g≠V.ownBlock:=by
 obtain⟨-,⟨rfl,-⟩|⟨F,T,D,rfl,-,H,-⟩⟩:=J
 ·simp[Value.ownBlock]
 ·intro e;have e':g=F:=by simpa [Value.ownBlock] using e
  subst e';rw[H] at u;have:=kF0 u
  injection this with _ h2;exact absurd h2 δ
theorem NbQ.grown {W F:World} {g:Nat} {s:Bool} {ao:Option Addr} {n Y:Nat} {e:Int} {t:Bool×Nat×Int} {B b m:Nat} {V:Value} {C:List Value} (h:NbQ W g s ao n Y e t) (hb:DNb W b (.agg (Nu s ao n Y e)) t) (I:W.ownsRow B 5 1 V m C) (hl:∀ k,V.ownBlock=some k→k<b) (D:W.grownBy F V.ownBlock):NbQ F g s ao n Y e t:=by
 refine⟨(D.block g h.lt (xT8 (s:=0) (w':=W) (w:=W) I h.1)).trans h.1,?_⟩
 obtain⟨⟨H,cap,L,u⟩,h3⟩:=hb;refine⟨H,cap,L,u.nil,?_,u.le,u.small⟩
 obtain⟨J,o,T,h5⟩:=u.at_;refine⟨J,o,T,fun i hi=>?_⟩
 have h6:=h3 _ _ _ _ _ L ⟨J,o,none⟩ (T ω) ω;refine D.cell (h5 i hi) ?_;intro e9;have:=hl J e9.symm
 simp at h6
 omega
theorem OB.storeQ {w wr:World} {v:Value} {L:List UInt8} (h:OB w wr v L) {g:Nat} {s:Bool} {ao:Option Addr} {n cp:Nat} {e:Int} (D:Hn wr g s ao n cp e 54) (H:w.heap.size≤g) (x y z:Value):OB w (((wr.setCell ⟨g,0,none⟩ x).setCell ⟨g,1,none⟩ y).setCell ⟨g,2,none⟩ z) v L:=by
 obtain⟨⟨u,h|⟨I,V,J,C,W,Y,T⟩⟩,F⟩:=h
 ·exact⟨⟨u,.inl h⟩,qQ4 F H _ _ _⟩
 ·refine⟨⟨u,.inr ⟨I,V,J,C,W,qB6 Y ?_ _ _ _,T⟩⟩,qQ4 F H _ _ _⟩
  rintro rfl;rw[D] at Y;have:=kF0 Y
  injection this with _ h9;exact absurd h9 δ
theorem yK7 {d:Nat} (h:d<16):hx d<256:=by unfold hx;split <;> omega
def hxO (dg:Nat→Nat) (i:Nat):List UInt8:=(List.range i).map fun j=>UInt8.ofNat (hx (dg j))
theorem qF1 (dg:Nat→Nat) (i:Nat):(hxO dg i).length=i:=by unfold hxO;simp
theorem qP0 (dg:Nat→Nat) (i:Nat):hxO dg (i+1)=hxO dg i ++ [UInt8.ofNat (hx (dg i))]:=by unfold hxO;rw[List.range_succ,List.map_append];rfl
theorem yO9 (f:Nat) (t:ByteArray) (w:World)
  (Y:∀ W,Ca 27 #[.float .f64 f] W fun r w'=>r=.returned (.tuple #[.string t,.bool true])∧w'=W) :
  Ca 12 #[.float .f64 f] w fun r w'=>r=.returned (.string t)∧w'=w:=by
 go_enter Tryz.func12,Tryz.ntmps12
 go_wp2_with (go_at_call 27;refine(Y _).mono ?_;rintro r w' ⟨rfl,u⟩;replace u:=u.symm;subst u)
 go_ret;exact⟨rfl,rfl⟩
theorem kZ5 (f:Nat) (u:List UInt8) (w:World) (F:(FloatKind.f64.format.order f 0==some Ordering.eq)=true) (V:u.length≤1)
  (J:∀ W,Ca 27 #[.float .f64 f] W fun r w'=>r=.returned (.tuple #[.string ⟨u.toArray⟩,.bool false])∧w'=W) :
  Ca 12 #[.float .f64 f] w fun r w'=>r=.returned (.string ⟨(u ++ [48,120,48,112,48]).toArray⟩)∧w'=w:=by
 have H:(⟨u.toArray⟩:ByteArray).size+(⟨#[48,120,48,112,48]⟩:ByteArray).size≤9223372036854775807:=by
  rw[bsz,show(⟨#[48,120,48,112,48]⟩:ByteArray).size=5 from rfl];omega
 have D:(⟨u.toArray⟩:ByteArray)++⟨#[48,120,48,112,48]⟩=⟨(u ++ [48,120,48,112,48]).toArray⟩:=qZ0 _ [48,120,48,112,48]
 go_enter Tryz.func12,Tryz.ntmps12
 go_wp2_with (go_at_call 27;refine(J _).mono ?_;rintro r w' ⟨rfl,Y⟩;replace Y:=Y.symm;subst Y)
 go_ret;exact⟨rfl,rfl⟩
theorem kZ4 (f:Nat) (h qC zM:Int) (K:Nat) (qK t T:List UInt8) (dg:Nat→Nat) (tA t1 tO:Bool×Nat×Int) (tR tS tD tW:Nat→Bool×Nat×Int) (ex:Nat→Bool) (w:World)
  (hf:(FloatKind.f64.format.order f 0==some Ordering.eq)=false) (yK:qK.length≤1) (hT:t.length≤100) (hK:Hid (K≤1000)) (yX:IntKind.i64.wrap (h - 1)=qC) (zS:IntKind.i64.wrap (-qC)=zM)
  (kW:∀ W,Ca 27 #[.float .f64 f] W fun r w'=>r=.returned (.tuple #[.string ⟨qK.toArray⟩,.bool false])∧w'=W)
  (kA:Hid (∀ W,Ca 35 #[.float .f64 f] W fun r w'=>OutQ W tA r w'))
  (kH:Hid (∀ W X,DN W X tA→Ca 44 #[X] W (Rq W (iV h))))
  (kS:Hid (∀ W X,DN W X tA→Ca 37 #[X,iV zM] W fun r w'=>OutQ W t1 r w'))
  (kO:Hid (∀ W,Ca 46 #[iV 1] W fun r w'=>OutQ W tO r w'))
  (kL:Hid (∀ W X Y,DN W X t1→DN W Y tO→Ca 45 #[X,Y] W fun r w'=>OutQ W (tR 0) r w'))
  (kG:Hid (∀ i,i≤K→∀ W X,DN W X (tR i)→Ca 47 #[X] W (Rq W (iV (if i<K then 1 else 0)))))
  (yL:Hid (∀ i,i<K→∀ W X,DN W X (tR i)→Ca 37 #[X,iV 4] W fun r w'=>OutQ W (tS i) r w'))
  (kC:Hid (∀ i,i<K→∀ W X,DN W X (tS i)→Ca 48 #[X,iV 0] W fun r w'=>OutS W (tD i) (ex i) r w'))
  (kM:Hid (∀ i,i<K→∀ W X Y,DN W X (tS i)→DN W Y (tD i)→Ca 45 #[X,Y] W fun r w'=>∃ A,r=.returned A∧DNb w' W.heap.size A (tR (i+1))∧Bw W w'))
  (zI:Hid (∀ n:Nat,n≤15→∀ W,Ca 46 #[iV (n:Nat)] W fun r w'=>OutQ W (tW n) r w'))
  (zO:Hid (∀ i n:Nat,i<K→n≤15→∀ W X Y,DN W X (tW n)→DN W Y (tD i)→Ca 49 #[X,Y] W (Rq W (iV (cmpI (n:Int) (dg i:Nat))))))
  (yI:Hid (∀ i,i<K→dg i≤15))
  (kT:Hid (∀ W,Ca 29 #[iV qC] W (Rq W (.string ⟨t.toArray⟩))))
  (yF:Hid (T=qK++([48,120,49]++(if 0<K then 46 :: hxO dg K else [])++112 :: t))) :
  Ca 12 #[.float .f64 f] w (Rq w (.string ⟨T.toArray⟩)):=by
 have q1:=kA.out w;have HL:Hid (qK.length≤1∧t.length≤100):=⟨yK,hT⟩;obtain⟨i0,yJ,yY,yZ,yQ⟩:=info_parts qA9
 go_enter Tryz.func12,Tryz.ntmps12
 go_wp2_with (go_at_call 27;refine(kW _).mono ?_;rintro r w' ⟨rfl,hw⟩;replace hw:=hw.symm;subst hw)
 refine q1.mono ?_;rintro r w1 ⟨s1,qR,n1,qS,e1,rfl,yU,zW⟩;obtain⟨V,hV⟩:=eE (w1.alloc (.cells (Nu s1 qR n1 qS e1) 54));obtain⟨gA,zT⟩:=eE w1.heap.size;have H1:Hid (NbQ V gA s1 qR n1 qS e1 (tA)∧Bw w V):=by
  have qM:Bw w1 V:=by rw[hV];exact bR.alloc lR _
  exact⟨⟨by rw[hV,zT];exact kB7 _ _,yU.later qM⟩,zW.trans (qM.mono zW.size)⟩
 clear q1 yU zW kW kA yK hT
 go_upto_region 7 with fail;rw[←hV,←zT];clear hV zT;obtain⟨⟨c0,c1,c2⟩,-⟩:=qQ1 H1.out.1.1;have q1:=kH.out V _ H1.out.1.2
 go_wp2_with fail;refine q1.mono ?_;rintro r w2 ⟨rfl,qG⟩;have H2:Hid (NbQ w2 gA s1 qR n1 qS e1 (tA)∧Bw w w2):=⟨H1.out.1.later qG,H1.out.2.trans (qG.mono H1.out.2.size)⟩;clear q1 qG H1 c0 c1 c2;obtain⟨⟨c0,c1,c2⟩,-⟩:=qQ1 H2.out.1.1;have q1:=kS.out w2 _ H2.out.1.2
 go_wp2_with fail;refine q1.mono ?_;rintro r w3 ⟨s2,qW,n2,qL,e2,rfl,zQ,qA⟩;have zA:Hid (Bw w w3):=H2.out.2.trans (qA.mono H2.out.2.size);have yD:Hid (DN w3 (.agg (Nu s2 qW n2 qL e2)) t1):=zQ;clear q1 qA zQ H2 c0 c1 c2;have q1:=kO.out w3
 go_wp2_with fail;refine q1.mono ?_;rintro r w4 ⟨s3,qX,n3,qY,e3,rfl,qO,qP⟩;have zN:Hid (Bw w w4):=zA.out.trans (qP.mono zA.out.size);have q2:=kL.out w4 _ _ (yD.out.later qP) qO;clear q1 qP qO zA yD
 go_wp2_with fail;refine q2.mono ?_;rintro r w5 ⟨s4,yM,n4,yN,e4,rfl,qE,qV⟩;obtain⟨V2,zG⟩:∃ V,V=w5.alloc (.cells (Nu s4 yM n4 yN e4) 54):=⟨_,rfl⟩;obtain⟨gR,zV⟩:=eE w5.heap.size;have H3:Hid (NbQ V2 gR s4 yM n4 yN e4 (tR 0)∧Bw w V2∧w.heap.size≤gR):=by
  have qM:Bw w5 V2:=by rw[zG];exact bR.alloc lR _
  have hb:=qV.trans (qM.mono qV.size);exact⟨⟨by rw[zG,zV];exact kB7 _ _,qE.later qM⟩,zN.out.trans (hb.mono zN.out.size),by rw[zV];exact kF8 zN.out.size qV.size⟩
 clear q2 qE qV zN yX zS kH kS kO kL
 go_upto_region 9 with fail;rw[←zG,←zV];clear zG zV
 go_upto_region 10 with fail
 go_loopw [8] (fun v wr=>∃ (i:Nat) (s1:Bool) (qR:Option Addr) (n1 qS:Nat) (e1:Int),i≤K∧Hid (NbQ wr gR s1 qR n1 qS e1 (tR i)∧OB w wr v (hxO dg i))) (fun v _=>K - qS2 v)
 case atStart=>exact⟨0,_,_,_,_,_,kB4 _,H3.out.1,⟨World.ownsRow_nil ..,H3.out.2.1⟩⟩
 case round =>
  obtain⟨i,s1,qR,n1,qS,e1,hi,HI⟩:=hrel;have yP:Hid (w.heap.size≤gR):=H3.out.2.2;clear H3;obtain⟨vo,vc,yC⟩:=HI.out.2.shape;subst yC;rw[qF1] at HI ⊢;obtain⟨⟨c0,c1,c2⟩,f0,f1,f2⟩:=qQ1 HI.out.1.1;have q1:=kG.out i hi wr _ HI.out.1.2;by_cases qN:i<K
  ·have qJ:Hid (i<K):=qN;rw[kU6 qN] at q1;clear qN
   go_wp2_with fail;refine q1.mono ?_;rintro r w2 ⟨rfl,qG⟩;have H2:Hid (NbQ w2 gR s1 qR n1 qS e1 (tR i)∧OB w w2 (.slice vo i vc) (hxO dg i)):=⟨HI.out.1.later qG,HI.out.2.later qG⟩;clear q1 qG HI c0 c1 c2 f0 f1 f2;obtain⟨⟨c0,c1,c2⟩,-⟩:=qQ1 H2.out.1.1;have q1:=yL.out i qJ.out w2 _ H2.out.1.2
   go_wp2_with fail;refine q1.mono ?_;rintro r w3 ⟨s2,qW,n2,qL,e2,rfl,zQ,qA⟩;have H4:Hid (NbQ w3 gR s1 qR n1 qS e1 (tR i)∧OB w w3 (.slice vo i vc) (hxO dg i)∧DN w3 (.agg (Nu s2 qW n2 qL e2)) (tS i)):=⟨H2.out.1.later qA,H2.out.2.later qA,zQ⟩;clear q1 zQ qA H2 c0 c1 c2;obtain⟨⟨c0,c1,c2⟩,f0,f1,f2⟩:=qQ1 H4.out.1.1;obtain⟨V3,zE⟩:=eE (((w3.setCell ⟨gR,0,none⟩ (.bool s2)).setCell ⟨gR,1,none⟩ (.slice qW n2 qL)).setCell ⟨gR,2,none⟩ (iV e2));have H5:Hid (NbQ V3 gR s2 qW n2 qL e2 (tS i)∧OB w V3 (.slice vo i vc) (hxO dg i)):=by
    rw[zE];exact⟨H4.out.1.put H4.out.2.2,H4.out.2.1.storeQ H4.out.1.1 yP.out _ _ _⟩
   go_upto_region 12 with fail;rw[←zE];clear zE H4 c0 c1 c2 f0 f1 f2;obtain⟨⟨c0,c1,c2⟩,-⟩:=qQ1 H5.out.1.1;have q1:=kC.out i qJ.out V3 _ H5.out.1.2
   go_wp2_with fail;refine q1.mono ?_;rintro r w4 ⟨sd,qF,nd,qH,ed,rfl,qO,qP⟩;obtain⟨V4,zU⟩:∃ V,V=w4.alloc (.cells (Nu sd qF nd qH ed) 54):=⟨_,rfl⟩;obtain⟨gd,zJ⟩:=eE w4.heap.size;have H6:Hid (NbQ V4 gR s2 qW n2 qL e2 (tS i)∧NbQ V4 gd sd qF nd qH ed (tD i)∧OB w V4 (.slice vo i vc) (hxO dg i)∧gR<gd):=by
    have qM:Bw w4 V4:=by rw[zU];exact bR.alloc lR _
    have hb:=qP.trans (qM.mono qP.size);exact⟨H5.out.1.later hb,⟨by rw[zU,zJ];exact kB7 _ _,qO.later qM⟩,H5.out.2.later hb,by rw[zJ];exact kF6 H5.out.1.lt qP.size⟩
   clear q1 qO qP H5 c0 c1 c2
   go_upto_region 13 with fail;rw[←zU,←zJ];clear zU zJ;obtain⟨⟨c0,c1,c2⟩,f0,f1,f2⟩:=qQ1 H6.out.1.1;obtain⟨⟨d0,d1,d2⟩,-⟩:=qQ1 H6.out.2.1.1;have q1:=kM.out i qJ.out V4 _ _ H6.out.1.2 H6.out.2.1.2
   go_wp2_with fail;refine q1.mono ?_;rintro r w5 ⟨A,rfl,qE,qV⟩;obtain⟨s3,qX,n3,qY,e3,rfl⟩:=qE.1.shape;have H7:Hid (NbQ w5 gR s2 qW n2 qL e2 (tS i)∧NbQ w5 gd sd qF nd qH ed (tD i)∧OB w w5 (.slice vo i vc) (hxO dg i)∧gR<gd∧DNb w5 V4.heap.size (.agg (Nu s3 qX n3 qY e3)) (tR (i+1))∧∀ k,(Value.slice vo i vc).ownBlock=some k→k<V4.heap.size):=⟨H6.out.1.later qV,H6.out.2.1.later qV,H6.out.2.2.1.later qV,H6.out.2.2.2,qE,fun k hk=>(H6.out.2.2.1.1.lt k hk).2⟩;clear q1 qE qV H6 c0 c1 c2 d0 d1 d2 f0 f1 f2;obtain⟨⟨c0,c1,c2⟩,f0,f1,f2⟩:=qQ1 H7.out.1.1;obtain⟨V5,zC⟩:=eE (((w5.setCell ⟨gR,0,none⟩ (.bool s3)).setCell ⟨gR,1,none⟩ (.slice qX n3 qY)).setCell ⟨gR,2,none⟩ (iV e3));have H8:Hid (NbQ V5 gR s3 qX n3 qY e3 (tR (i+1))∧NbQ V5 gd sd qF nd qH ed (tD i)∧OB w V5 (.slice vo i vc) (hxO dg i)∧DNb V5 V4.heap.size (.agg (Nu s3 qX n3 qY e3)) (tR (i+1))∧∀ k,(Value.slice vo i vc).ownBlock=some k→k<V4.heap.size):=by
    rw[zC];exact⟨H7.out.1.put H7.out.2.2.2.2.1.1,H7.out.2.1.other H7.out.1.1 (by have:=H7.out.2.2.2.1;omega) _ _ _,H7.out.2.2.1.storeQ H7.out.1.1 yP.out _ _ _,⟨H7.out.2.2.2.2.1.1.storeQ H7.out.1.1 _ _ _,H7.out.2.2.2.2.1.2⟩,H7.out.2.2.2.2.2⟩
   go_upto_region 14 with fail;rw[←zC];clear zC H7 c0 c1 c2 f0 f1 f2
   go_upto_region 15 with fail
   go_loopw [11] (fun v wx=>∃ n:Nat,n≤dg i∧v=iV (n:Nat)∧Hid (NbQ wx gR s3 qX n3 qY e3 (tR (i+1))∧NbQ wx gd sd qF nd qH ed (tD i)∧OB w wx (.slice vo i vc) (hxO dg i)∧DNb wx V4.heap.size (.agg (Nu s3 qX n3 qY e3)) (tR (i+1))∧∀ k,(Value.slice vo i vc).ownBlock=some k→k<V4.heap.size)) (fun v _=>dg i - (intOf v).toNat)
   case atStart=>exact⟨0,kB4 _,rfl,H8⟩
   case round =>
    obtain⟨n,hn,rfl,HJ⟩:=hrel;clear H8;have yV:=yI.out i qJ.out;have yW:IntKind.i64.wrap ((n:Int)+1)=(n:Int)+1:=by rw[kB5];omega
    by_cases yE:n<dg i
    ·have zZ:(n:Int)<15:=ω;have zL:cmpI (n:Int) (dg i:Nat)<0:=by unfold cmpI;split <;> omega
     go_upto_region 15 with fail;refine qJ2 [0,1,2,3,4,5,6,7,8] [49,50,51,52,53,54,55,56,57] [[],[0],[1],[2],[3,2],[2],[4,5,2],[6,2],[2,7]] wr _ [isV (iV (n:Nat)),isV (.bool true),isV (.bool true),isV (iV (n:Nat)),isD (tW n),isV (.agg (Nu sd qF nd qH ed)),isV (iV (cmpI (n:Int) (dg i:Nat))),isV (.bool true),isV (.bool true)] (by kernel_rfl) ⟨qQ2 _,qQ2 _,qQ2 _,qQ2 _,qX9 _,qQ2 _,qQ2 _,qQ2 _,qQ2 _,trivial⟩ (by show ∀ s ∈ [49,50,51,52,53,54,55,56,57],s<82;decide) ?_ ?_
     ·intro j hj o F act U hb qQ J;have zR:j<9:=hj;have qU:act.tmps[(11:Nat)]?=some (iV (n:Nat)):=(qQ 11 δ).trans rfl;have zX:act.tmps[(9:Nat)]?=some (Value.pointer (some ⟨gd,0,none⟩)):=(qQ 9 δ).trans rfl;have dd:=(qQ1 (HJ.out.2.1.later hb).1).1;rcases(by omega:j=0∨j=1∨j=2∨j=3∨j=4∨j=5∨j=6∨j=7∨j=8)with rfl|rfl|rfl|rfl|rfl|rfl|rfl|rfl|rfl
      ·obtain rfl:=kF0 F;exact .inl ⟨rfl,qZ7 rfl qU ⟨_,rfl,rfl,kH9 _ _⟩⟩
      ·obtain rfl:=kF0 F;have y0:act.tmps[(49:Nat)]?=_:=dV (J 0 (by simp[dL])) rfl
       exact .inl ⟨rfl,qZ6 (w':=U) (by simp[execOp,y0,qY1,go_sem,zZ]) ⟨_,rfl,rfl,kH9 _ _⟩⟩
      ·obtain rfl:=kF0 F;have y1:act.tmps[(50:Nat)]?=_:=dV (J 1 (by simp[dL])) rfl
       exact .inl ⟨rfl,qZ7 rfl y1 ⟨_,rfl,rfl,kH9 _ _⟩⟩
      ·obtain rfl:=kF0 F;have y2:act.tmps[(51:Nat)]?=_:=dV (J 2 (by simp[dL])) rfl
       exact .inr (qY6 rfl rfl rfl rfl y2 (qZ7 rfl qU ⟨_,rfl,rfl,kH9 _ _⟩))
      ·obtain rfl:=kF0 F;have y3:act.tmps[(52:Nat)]?=_:=dV (J 3 (by simp[dL])) rfl
       have y2:act.tmps[(51:Nat)]?=_:=dV (J 2 (by simp[dL])) rfl
       refine .inr (qY6 rfl rfl rfl rfl y2 (qQ9 rfl (qZ4 Tryz.func46 (by kernel_rfl) (by kernel_rfl)) (vs:=#[iV (n:Nat)]) (by simp[qZ1 y3]) ?_))
       refine(zI.out n ω U).mono ?_
       rintro r w' ⟨q1,q2,q3,q4,q5,rfl,hA,qB⟩;exact⟨_,rfl,_,rfl,hA,qB⟩
      ·obtain rfl:=kF0 F;have y2:act.tmps[(51:Nat)]?=_:=dV (J 2 (by simp[dL])) rfl
       exact .inr (qY6 rfl rfl rfl rfl y2 (qJ0 rfl zX dd.1 dd.2.1 dd.2.2 ⟨_,rfl,rfl,kH9 _ _⟩))
      ·obtain rfl:=kF0 F;obtain⟨u4,zP,v4⟩:=J 4 (by simp[dL])
       have y4:act.tmps[(53:Nat)]?=_:=zP;have y5:act.tmps[(54:Nat)]?=_:=dV (J 5 (by simp[dL])) rfl
       have y2:act.tmps[(51:Nat)]?=_:=dV (J 2 (by simp[dL])) rfl
       refine .inr (qY6 rfl rfl rfl rfl y2 (qQ9 rfl (qZ4 Tryz.func49 (by kernel_rfl) (by kernel_rfl)) (vs:=#[u4,.agg (Nu sd qF nd qH ed)]) (by simp[qZ1 y4,qZ1 y5]) ?_))
       refine(zO.out i n qJ.out ω U _ _ v4 (HJ.out.2.1.later hb).2).mono ?_
       rintro r w' ⟨rfl,qB⟩;exact⟨_,rfl,_,rfl,rfl,qB⟩
      ·obtain rfl:=kF0 F;have y6:act.tmps[(55:Nat)]?=_:=dV (J 6 (by simp[dL])) rfl
       have y2:act.tmps[(51:Nat)]?=_:=dV (J 2 (by simp[dL])) rfl
       exact .inr (qY6 rfl rfl rfl rfl y2 (qZ6 (w':=U) (by simp[execOp,y6,qY1,go_sem,zL]) ⟨_,rfl,rfl,kH9 _ _⟩))
      ·obtain rfl:=kF0 F;have y2:act.tmps[(51:Nat)]?=_:=dV (J 2 (by simp[dL])) rfl
       have y7:act.tmps[(56:Nat)]?=_:=dV (J 7 (by simp[dL])) rfl
       exact .inl ⟨rfl,qZ6 (w':=U) (by simp[execOp,y2,y7,qY1,go_sem]) ⟨_,rfl,rfl,kH9 _ _⟩⟩
     ·intro u W9 H hu;have u8:u 8=.bool true:=hu 8 (by show 8<9;decide)
      clear hu;simp only[putL,show List.range 9 = [0,1,2,3,4,5,6,7,8] from rfl,kG2,kG3,kG4,kG5,kH2,kH3,kH0,kG9,List.foldl_cons,List.foldl_nil,Nat.reduceLT,Nat.reduceMod,Nat.reduceDiv,Nat.reduceMul,Nat.reduceAdd,Nat.reduceEqDiff,reduceIte,kG8,Act.put,kU9,kG0,kG1];rw[u8];clear u8;have HK:Hid (NbQ W9 gR s3 qX n3 qY e3 (tR (i+1))∧NbQ W9 gd sd qF nd qH ed (tD i)∧OB w W9 (.slice vo i vc) (hxO dg i)∧DNb W9 V4.heap.size (.agg (Nu s3 qX n3 qY e3)) (tR (i+1))∧∀ k,(Value.slice vo i vc).ownBlock=some k→k<V4.heap.size):=⟨HJ.out.1.later H,HJ.out.2.1.later H,HJ.out.2.2.1.later H,HJ.out.2.2.2.1.later H,HJ.out.2.2.2.2⟩;clear H HJ
      go_wp2_with fail;exact⟨⟨n+1,ω,by congr 1,HK⟩,by simp[intOf];omega⟩
    ·obtain rfl:n=dg i:=ω;obtain⟨n,qI⟩:=eE (dg i);have HN:Hid (n=dg i):=qI;rw[←qI] at yV yW ⊢;clear yE hn;have xJ:(n:Int)<16:=ω;have zK:n<16:=ω;have zB:Hid (w.heap.size≤wr.heap.size):=HJ.out.2.2.1.2.size;rcases(by omega:n<15∨n=15)with h15'|h15'
     ·have zZ:(n:Int)<15:=ω;have zL:¬ cmpI (n:Int) (dg i:Nat)<0:=by rw[←qI];unfold cmpI;split <;> omega
      clear qI
      go_upto_region 15 with fail;refine qJ2 [0,1,2,3,4,5,6,7,8] [49,50,51,52,53,54,55,56,57] [[],[0],[1],[2],[3,2],[2],[4,5,2],[6,2],[2,7]] wr _ [isV (iV (n:Nat)),isV (.bool true),isV (.bool true),isV (iV (n:Nat)),isD (tW n),isV (.agg (Nu sd qF nd qH ed)),isV (iV (cmpI (n:Int) (dg i:Nat))),isV (.bool false),isV (.bool false)] (by kernel_rfl) ⟨qQ2 _,qQ2 _,qQ2 _,qQ2 _,qX9 _,qQ2 _,qQ2 _,qQ2 _,qQ2 _,trivial⟩ (by show ∀ s ∈ [49,50,51,52,53,54,55,56,57],s<82;decide) ?_ ?_
      ·intro j hj o F act U hb qQ J;have zR:j<9:=hj;have qU:act.tmps[(11:Nat)]?=some (iV (n:Nat)):=(qQ 11 δ).trans rfl;have zX:act.tmps[(9:Nat)]?=some (Value.pointer (some ⟨gd,0,none⟩)):=(qQ 9 δ).trans rfl;have dd:=(qQ1 (HJ.out.2.1.later hb).1).1;rcases(by omega:j=0∨j=1∨j=2∨j=3∨j=4∨j=5∨j=6∨j=7∨j=8)with rfl|rfl|rfl|rfl|rfl|rfl|rfl|rfl|rfl
       ·obtain rfl:=kF0 F;exact .inl ⟨rfl,qZ7 rfl qU ⟨_,rfl,rfl,kH9 _ _⟩⟩
       ·obtain rfl:=kF0 F;have y0:act.tmps[(49:Nat)]?=_:=dV (J 0 (by simp[dL])) rfl
        exact .inl ⟨rfl,qZ6 (w':=U) (by simp[execOp,y0,qY1,go_sem,zZ]) ⟨_,rfl,rfl,kH9 _ _⟩⟩
       ·obtain rfl:=kF0 F;have y1:act.tmps[(50:Nat)]?=_:=dV (J 1 (by simp[dL])) rfl
        exact .inl ⟨rfl,qZ7 rfl y1 ⟨_,rfl,rfl,kH9 _ _⟩⟩
       ·obtain rfl:=kF0 F;have y2:act.tmps[(51:Nat)]?=_:=dV (J 2 (by simp[dL])) rfl
        exact .inr (qY6 rfl rfl rfl rfl y2 (qZ7 rfl qU ⟨_,rfl,rfl,kH9 _ _⟩))
       ·obtain rfl:=kF0 F;have y3:act.tmps[(52:Nat)]?=_:=dV (J 3 (by simp[dL])) rfl
        have y2:act.tmps[(51:Nat)]?=_:=dV (J 2 (by simp[dL])) rfl
        refine .inr (qY6 rfl rfl rfl rfl y2 (qQ9 rfl (qZ4 Tryz.func46 (by kernel_rfl) (by kernel_rfl)) (vs:=#[iV (n:Nat)]) (by simp[qZ1 y3]) ?_))
        refine(zI.out n ω U).mono ?_
        rintro r w' ⟨q1,q2,q3,q4,q5,rfl,hA,qB⟩;exact⟨_,rfl,_,rfl,hA,qB⟩
       ·obtain rfl:=kF0 F;have y2:act.tmps[(51:Nat)]?=_:=dV (J 2 (by simp[dL])) rfl
        exact .inr (qY6 rfl rfl rfl rfl y2 (qJ0 rfl zX dd.1 dd.2.1 dd.2.2 ⟨_,rfl,rfl,kH9 _ _⟩))
       ·obtain rfl:=kF0 F;obtain⟨u4,zP,v4⟩:=J 4 (by simp[dL])
        have y4:act.tmps[(53:Nat)]?=_:=zP;have y5:act.tmps[(54:Nat)]?=_:=dV (J 5 (by simp[dL])) rfl
        have y2:act.tmps[(51:Nat)]?=_:=dV (J 2 (by simp[dL])) rfl
        refine .inr (qY6 rfl rfl rfl rfl y2 (qQ9 rfl (qZ4 Tryz.func49 (by kernel_rfl) (by kernel_rfl)) (vs:=#[u4,.agg (Nu sd qF nd qH ed)]) (by simp[qZ1 y4,qZ1 y5]) ?_))
        refine(zO.out i n qJ.out ω U _ _ v4 (HJ.out.2.1.later hb).2).mono ?_
        rintro r w' ⟨rfl,qB⟩;exact⟨_,rfl,_,rfl,rfl,qB⟩
       ·obtain rfl:=kF0 F;have y6:act.tmps[(55:Nat)]?=_:=dV (J 6 (by simp[dL])) rfl
        have y2:act.tmps[(51:Nat)]?=_:=dV (J 2 (by simp[dL])) rfl
        exact .inr (qY6 rfl rfl rfl rfl y2 (qZ6 (w':=U) (by simp[execOp,y6,qY1,go_sem,zL]) ⟨_,rfl,rfl,kH9 _ _⟩))
       ·obtain rfl:=kF0 F;have y2:act.tmps[(51:Nat)]?=_:=dV (J 2 (by simp[dL])) rfl
        have y7:act.tmps[(56:Nat)]?=_:=dV (J 7 (by simp[dL])) rfl
        exact .inl ⟨rfl,qZ6 (w':=U) (by simp[execOp,y2,y7,qY1,go_sem]) ⟨_,rfl,rfl,kH9 _ _⟩⟩
      ·intro u W9 H hu;have u8:u 8=.bool false:=hu 8 (by show 8<9;decide)
       clear hu;simp only[putL,show List.range 9 = [0,1,2,3,4,5,6,7,8] from rfl,kG2,kG3,kG4,kG5,kH2,kH3,kH0,kG9,List.foldl_cons,List.foldl_nil,Nat.reduceLT,Nat.reduceMod,Nat.reduceDiv,Nat.reduceMul,Nat.reduceAdd,Nat.reduceEqDiff,reduceIte,kG8,Act.put,kU9,kG0,kG1];rw[u8];clear u8;have HK:Hid (NbQ W9 gR s3 qX n3 qY e3 (tR (i+1))∧OB w W9 (.slice vo i vc) (hxO dg i)∧DNb W9 V4.heap.size (.agg (Nu s3 qX n3 qY e3)) (tR (i+1))∧(∀ k,(Value.slice vo i vc).ownBlock=some k→k<V4.heap.size)∧w.heap.size≤W9.heap.size):=⟨HJ.out.1.later H,HJ.out.2.2.1.later H,HJ.out.2.2.2.1.later H,HJ.out.2.2.2.2,kF8 zB.out H.size⟩;clear H HJ zB;have zY:Hid (W9.ownsRow w.heap.size 5 1 (.slice vo i vc) i (Lib.byteCells (hxO dg i))):=by
        have h:=HK.out.2.1.1;rw[qF1] at h;exact h
       have yA:i≤1000:=by have:=qJ.out;have:=hK.out;omega
       go_wp2_with (at_builtin;refine wpList_append_own _ rfl _ _ 65 rfl w.heap.size 5 i0 (.int .u8 0) 1 1 Tryz.underlying65 yJ yY yZ yQ rfl δ _ _ _ rfl (zY.out.alloc _) ⟨W9.heap.size,0,none⟩ 1 1 [.int .u8 _] rfl rfl (cell_one_new _ _ _) (by intro u hu;simp at hu;subst hu;rfl) (by unfold maxLen;omega) (by have:=HK.out.2.2.2.2;omega) (by simp;have:=HK.out.2.2.2.2;omega) ?_)
       intro v' w4 qZ I _;rw[zU2 n zK] at qZ I;have HP:=HK.out.2.1.push (yK7 zK) (by rw[qF1];exact qZ) I
       have qT:Below W9.heap.size W9 (W9.alloc (.cells #[.int .u8 ((hx n:Nat):Int)] 5)):=bR.alloc lR _;have HG:=(HK.out.1.later qT).grown (HK.out.2.2.1.later qT) (HK.out.2.1.1.alloc _) HK.out.2.2.2.1 I;have HF:Hid (NbQ w4 gR s3 qX n3 qY e3 (tR (i+1))∧OB w w4 v' (hxO dg (i+1))):=⟨HG,by rw[qP0,←HN.out];exact HP⟩
       have zD:=HF.out.2.shape;clear HP HG qT qZ I HK
       go_wp2_with fail;refine⟨⟨i+1,_,_,_,_,_,qJ.out,HF⟩,?_⟩
       obtain⟨q1,q2,q3⟩:=zD;rw[q3,qF1];have:=qJ.out
       simp[qS2];omega
     ·have zZ:¬ (n:Int)<15:=ω;clear qI h15'
      go_upto_region 15 with fail;refine qJ2 [0,1,2,3,4,5,6,7,8] [49,50,51,52,53,54,55,56,57] [[],[0],[1],[2],[3,2],[2],[4,5,2],[6,2],[2,7]] wr _ [isV (iV (n:Nat)),isV (.bool false),isV (.bool false),isV (undef),isV (undef),isV (undef),isV (undef),isV (undef),isV (.bool false)] (by kernel_rfl) ⟨qQ2 _,qQ2 _,qQ2 _,qQ2 _,qQ2 _,qQ2 _,qQ2 _,qQ2 _,qQ2 _,trivial⟩ (by show ∀ s ∈ [49,50,51,52,53,54,55,56,57],s<82;decide) ?_ ?_
      ·intro j hj o F act U hb qQ J;have zR:j<9:=hj;have qU:act.tmps[(11:Nat)]?=some (iV (n:Nat)):=(qQ 11 δ).trans rfl;have zX:act.tmps[(9:Nat)]?=some (Value.pointer (some ⟨gd,0,none⟩)):=(qQ 9 δ).trans rfl;rcases(by omega:j=0∨j=1∨j=2∨j=3∨j=4∨j=5∨j=6∨j=7∨j=8)with rfl|rfl|rfl|rfl|rfl|rfl|rfl|rfl|rfl
       ·obtain rfl:=kF0 F;exact .inl ⟨rfl,qZ7 rfl qU ⟨_,rfl,rfl,kH9 _ _⟩⟩
       ·obtain rfl:=kF0 F;have y0:act.tmps[(49:Nat)]?=_:=dV (J 0 (by simp[dL])) rfl
        exact .inl ⟨rfl,qZ6 (w':=U) (by simp[execOp,y0,qY1,go_sem,zZ]) ⟨_,rfl,rfl,kH9 _ _⟩⟩
       ·obtain rfl:=kF0 F;have y1:act.tmps[(50:Nat)]?=_:=dV (J 1 (by simp[dL])) rfl
        exact .inl ⟨rfl,qZ7 rfl y1 ⟨_,rfl,rfl,kH9 _ _⟩⟩
       ·obtain rfl:=kF0 F;have y2:act.tmps[(51:Nat)]?=_:=dV (J 2 (by simp[dL])) rfl
        exact .inr (qV1 rfl rfl rfl rfl y2 δ ⟨_,rfl,rfl,kH9 _ _⟩)
       ·obtain rfl:=kF0 F;have y3:act.tmps[(52:Nat)]?=_:=dV (J 3 (by simp[dL])) rfl
        have y2:act.tmps[(51:Nat)]?=_:=dV (J 2 (by simp[dL])) rfl
        exact .inr (qV1 rfl rfl rfl rfl y2 δ ⟨_,rfl,rfl,kH9 _ _⟩)
       ·obtain rfl:=kF0 F;have y2:act.tmps[(51:Nat)]?=_:=dV (J 2 (by simp[dL])) rfl
        exact .inr (qV1 rfl rfl rfl rfl y2 δ ⟨_,rfl,rfl,kH9 _ _⟩)
       ·obtain rfl:=kF0 F;have y4:act.tmps[(53:Nat)]?=_:=dV (J 4 (by simp[dL])) rfl
        have y5:act.tmps[(54:Nat)]?=_:=dV (J 5 (by simp[dL])) rfl
        have y2:act.tmps[(51:Nat)]?=_:=dV (J 2 (by simp[dL])) rfl
        exact .inr (qV1 rfl rfl rfl rfl y2 δ ⟨_,rfl,rfl,kH9 _ _⟩)
       ·obtain rfl:=kF0 F;have y6:act.tmps[(55:Nat)]?=_:=dV (J 6 (by simp[dL])) rfl
        have y2:act.tmps[(51:Nat)]?=_:=dV (J 2 (by simp[dL])) rfl
        exact .inr (qV1 rfl rfl rfl rfl y2 δ ⟨_,rfl,rfl,kH9 _ _⟩)
       ·obtain rfl:=kF0 F;have y2:act.tmps[(51:Nat)]?=_:=dV (J 2 (by simp[dL])) rfl
        have y7:act.tmps[(56:Nat)]?=_:=dV (J 7 (by simp[dL])) rfl
        exact .inl ⟨rfl,qZ6 (w':=U) (by simp[execOp,y2,y7,qY1,go_sem]) ⟨_,rfl,rfl,kH9 _ _⟩⟩
      ·intro u W9 H hu;have u8:u 8=.bool false:=hu 8 (by show 8<9;decide)
       clear hu;simp only[putL,show List.range 9 = [0,1,2,3,4,5,6,7,8] from rfl,kG2,kG3,kG4,kG5,kH2,kH3,kH0,kG9,List.foldl_cons,List.foldl_nil,Nat.reduceLT,Nat.reduceMod,Nat.reduceDiv,Nat.reduceMul,Nat.reduceAdd,Nat.reduceEqDiff,reduceIte,kG8,Act.put,kU9,kG0,kG1];rw[u8];clear u8;have HK:Hid (NbQ W9 gR s3 qX n3 qY e3 (tR (i+1))∧OB w W9 (.slice vo i vc) (hxO dg i)∧DNb W9 V4.heap.size (.agg (Nu s3 qX n3 qY e3)) (tR (i+1))∧(∀ k,(Value.slice vo i vc).ownBlock=some k→k<V4.heap.size)∧w.heap.size≤W9.heap.size):=⟨HJ.out.1.later H,HJ.out.2.2.1.later H,HJ.out.2.2.2.1.later H,HJ.out.2.2.2.2,kF8 zB.out H.size⟩;clear H HJ zB;have zY:Hid (W9.ownsRow w.heap.size 5 1 (.slice vo i vc) i (Lib.byteCells (hxO dg i))):=by
        have h:=HK.out.2.1.1;rw[qF1] at h;exact h
       have yA:i≤1000:=by have:=qJ.out;have:=hK.out;omega
       go_wp2_with (at_builtin;refine wpList_append_own _ rfl _ _ 65 rfl w.heap.size 5 i0 (.int .u8 0) 1 1 Tryz.underlying65 yJ yY yZ yQ rfl δ _ _ _ rfl (zY.out.alloc _) ⟨W9.heap.size,0,none⟩ 1 1 [.int .u8 _] rfl rfl (cell_one_new _ _ _) (by intro u hu;simp at hu;subst hu;rfl) (by unfold maxLen;omega) (by have:=HK.out.2.2.2.2;omega) (by simp;have:=HK.out.2.2.2.2;omega) ?_)
       intro v' w4 qZ I _;rw[zU2 n zK] at qZ I;have HP:=HK.out.2.1.push (yK7 zK) (by rw[qF1];exact qZ) I
       have qT:Below W9.heap.size W9 (W9.alloc (.cells #[.int .u8 ((hx n:Nat):Int)] 5)):=bR.alloc lR _;have HG:=(HK.out.1.later qT).grown (HK.out.2.2.1.later qT) (HK.out.2.1.1.alloc _) HK.out.2.2.2.1 I;have HF:Hid (NbQ w4 gR s3 qX n3 qY e3 (tR (i+1))∧OB w w4 v' (hxO dg (i+1))):=⟨HG,by rw[qP0,←HN.out];exact HP⟩
       have zD:=HF.out.2.shape;clear HP HG qT qZ I HK
       go_wp2_with fail;refine⟨⟨i+1,_,_,_,_,_,qJ.out,HF⟩,?_⟩
       obtain⟨q1,q2,q3⟩:=zD;rw[q3,qF1];have:=qJ.out
       simp[qS2];omega
  ·obtain rfl:i=K:=ω;rw[kU5 qN] at q1;clear qN
   go_wp2_with fail;refine q1.mono ?_;rintro r w2 ⟨rfl,qG⟩;have HO:Hid (OB w w2 (.slice vo i vc) (hxO dg i)):=HI.out.2.later qG;have HB:Hid (Bw w w2):=HO.out.2;have xZ:=hK.out;clear q1 qG HI c0 c1 c2 f0 f1 f2;by_cases zF:0<i
   ·have xU:(0:Int)<(i:Int):=ω;obtain⟨L,zH⟩:=eE (hxO dg i);have xV:L.length=i:=by rw[zH];exact qF1 _ _
    have qD:=yF.out;rw[kU6 zF] at qD;have xK:Hid (BC w2 (.slice vo i vc) L):=by rw[zH];exact HO.out.bc
    rw[←zH] at qD;obtain⟨B,hB⟩:∃ B:List UInt8,B=qK ++ [48,120,49,46]:=⟨_,rfl⟩;obtain⟨C,hC⟩:∃ C:List UInt8,C=B++L:=⟨_,rfl⟩;obtain⟨D,hD⟩:∃ D:List UInt8,D=C ++ [112]:=⟨_,rfl⟩;have yB:B.length≤5:=by have:=HL.out;rw[hB,kM0];simp;omega
    have xH:C.length≤1005:=by rw[hC,kM0];omega
    have xG:D.length≤1006:=by rw[hD,kM0];simp;omega
    have yH:(⟨qK.toArray⟩:ByteArray).size+(⟨#[48,120,49,46]⟩:ByteArray).size≤9223372036854775807:=by rw[bsz,show(⟨#[48,120,49,46]⟩:ByteArray).size=4 from rfl];have:=HL.out;omega
    have e3:(⟨qK.toArray⟩:ByteArray)++⟨#[48,120,49,46]⟩=⟨B.toArray⟩:=by rw[hB];exact qZ0 _ [48,120,49,46]
    have yG:(⟨B.toArray⟩:ByteArray).size+(⟨L.toArray⟩:ByteArray).size≤9223372036854775807:=by rw[bsz,bsz];omega
    have e4:(⟨B.toArray⟩:ByteArray)++⟨L.toArray⟩=⟨C.toArray⟩:=by rw[hC];exact qZ0 _ _
    have xQ:(⟨C.toArray⟩:ByteArray).size+(⟨#[112]⟩:ByteArray).size≤9223372036854775807:=by rw[bsz,show(⟨#[112]⟩:ByteArray).size=1 from rfl];omega
    have e5:(⟨C.toArray⟩:ByteArray)++⟨#[112]⟩=⟨D.toArray⟩:=by rw[hD];exact qZ0 _ [112]
    have yO:(⟨D.toArray⟩:ByteArray).size+(⟨t.toArray⟩:ByteArray).size≤9223372036854775807:=by rw[bsz,bsz];have:=HL.out;omega
    have e6:(⟨D.toArray⟩:ByteArray)++⟨t.toArray⟩=⟨T.toArray⟩:=by
     rw[qZ0,hD,hC,hB,qD];simp
    clear hB hC hD qD zH zF
    go_upto_region 19 with fail;refine qJ2 [0,1,2,3,4,5,6,7,8,9] [68,69,70,71,72,73,74,75,76,2] [[],[0],[],[2],[1,3],[4],[],[6],[5,7],[8]] w2 _ [isV (.string ⟨qK.toArray⟩),isV (.string ⟨B.toArray⟩),isV (.slice vo i vc),isV (.string ⟨L.toArray⟩),isV (.string ⟨C.toArray⟩),isV (.string ⟨D.toArray⟩),isV (iV qC),isV (.string ⟨t.toArray⟩),isV (.string ⟨T.toArray⟩),isV (.string ⟨T.toArray⟩)] (by kernel_rfl) ⟨qQ2 _,qQ2 _,qQ2 _,qQ2 _,qQ2 _,qQ2 _,qQ2 _,qQ2 _,qQ2 _,qQ2 _,trivial⟩ (by show ∀ s ∈ [68,69,70,71,72,73,74,75,76,2],s<82;decide) ?_ ?_
    ·intro j hj o F act U hb qQ J;have zR:j<10:=hj;have yT:act.tmps[(3:Nat)]?=some (Value.string ⟨qK.toArray⟩):=(qQ 3 δ).trans rfl;have yS:act.tmps[(8:Nat)]?=some (Value.slice vo i vc):=(qQ 8 δ).trans rfl;have yR:act.tmps[(6:Nat)]?=some (iV qC):=(qQ 6 δ).trans rfl;rcases(by omega:j=0∨j=1∨j=2∨j=3∨j=4∨j=5∨j=6∨j=7∨j=8∨j=9)with rfl|rfl|rfl|rfl|rfl|rfl|rfl|rfl|rfl|rfl
     ·obtain rfl:=kF0 F;exact .inl ⟨rfl,qZ7 rfl yT ⟨_,rfl,rfl,kH9 _ _⟩⟩
     ·obtain rfl:=kF0 F;have y0:act.tmps[(68:Nat)]?=_:=dV (J 0 (by simp[dL])) rfl
      exact .inl ⟨rfl,qZ6 (w':=U) (by simp[execOp,y0,qY1,go_sem,yH,e3];have:=HL.out;omega) ⟨_,rfl,rfl,kH9 _ _⟩⟩
     ·obtain rfl:=kF0 F;exact .inl ⟨rfl,qZ7 rfl yS ⟨_,rfl,rfl,kH9 _ _⟩⟩
     ·obtain rfl:=kF0 F;have y2:act.tmps[(70:Nat)]?=_:=dV (J 2 (by simp[dL])) rfl
      exact .inl ⟨rfl,qZ6 (w':=U) (by simp[execOp,qZ1 y2,(xK.out.later hb).conv]) ⟨_,rfl,rfl,kH9 _ _⟩⟩
     ·obtain rfl:=kF0 F;have y1:act.tmps[(69:Nat)]?=_:=dV (J 1 (by simp[dL])) rfl
      have y3:act.tmps[(71:Nat)]?=_:=dV (J 3 (by simp[dL])) rfl
      exact .inl ⟨rfl,qZ6 (w':=U) (by simp[execOp,y1,y3,qY1,go_sem,yG,e4];have:=HL.out;omega) ⟨_,rfl,rfl,kH9 _ _⟩⟩
     ·obtain rfl:=kF0 F;have y4:act.tmps[(72:Nat)]?=_:=dV (J 4 (by simp[dL])) rfl
      exact .inl ⟨rfl,qZ6 (w':=U) (by simp[execOp,y4,qY1,go_sem,xQ,e5];have:=HL.out;omega) ⟨_,rfl,rfl,kH9 _ _⟩⟩
     ·obtain rfl:=kF0 F;exact .inl ⟨rfl,qZ7 rfl yR ⟨_,rfl,rfl,kH9 _ _⟩⟩
     ·obtain rfl:=kF0 F;have y6:act.tmps[(74:Nat)]?=_:=dV (J 6 (by simp[dL])) rfl
      refine .inl ⟨rfl,qQ9 rfl (qZ4 Tryz.func29 (by kernel_rfl) (by kernel_rfl)) (vs:=#[iV qC]) (by simp[qZ1 y6]) ?_⟩
      refine(kT.out U).mono ?_
      rintro r w' ⟨rfl,qB⟩;exact⟨_,rfl,_,rfl,rfl,qB⟩
     ·obtain rfl:=kF0 F;have y5:act.tmps[(73:Nat)]?=_:=dV (J 5 (by simp[dL])) rfl
      have y7:act.tmps[(75:Nat)]?=_:=dV (J 7 (by simp[dL])) rfl
      exact .inl ⟨rfl,qZ6 (w':=U) (by simp[execOp,y5,y7,qY1,go_sem,yO,e6];have:=HL.out;omega) ⟨_,rfl,rfl,kH9 _ _⟩⟩
     ·obtain rfl:=kF0 F;have y8:act.tmps[(76:Nat)]?=_:=dV (J 8 (by simp[dL])) rfl
      exact .inl ⟨rfl,qX5 rfl y8 ⟨_,rfl,rfl,kH9 _ _⟩⟩
    ·intro u W9 H hu;have u9:u 9=.string ⟨T.toArray⟩:=hu 9 (by show 9<10;decide)
     clear hu;simp only[putL,show List.range 10 = [0,1,2,3,4,5,6,7,8,9] from rfl,kG2,kG3,kG4,kG5,kH2,kH3,kH0,kG9,List.foldl_cons,List.foldl_nil,Nat.reduceLT,Nat.reduceMod,Nat.reduceDiv,Nat.reduceMul,Nat.reduceAdd,Nat.reduceEqDiff,reduceIte,kG8,Act.put,kU9,kG0,kG1];rw[u9];clear u9;have xY:Hid (Bw w W9):=HB.out.trans (H.mono HB.out.size);clear H
     go_wp2
     go_ret;exact⟨rfl,xY.out⟩
   ·obtain rfl:i=0:=ω;have qD:=yF.out;rw[kU5 zF] at qD;obtain⟨B,hB⟩:∃ B:List UInt8,B=qK ++ [48,120,49,112]:=⟨_,rfl⟩;have yB:B.length≤5:=by have:=HL.out;rw[hB,kM0];simp;omega
    have yH:(⟨qK.toArray⟩:ByteArray).size+(⟨#[48,120,49,112]⟩:ByteArray).size≤9223372036854775807:=by rw[bsz,show(⟨#[48,120,49,112]⟩:ByteArray).size=4 from rfl];have:=HL.out;omega
    have e3:(⟨qK.toArray⟩:ByteArray)++⟨#[48,120,49,112]⟩=⟨B.toArray⟩:=by rw[hB];exact qZ0 _ [48,120,49,112]
    have yG:(⟨B.toArray⟩:ByteArray).size+(⟨t.toArray⟩:ByteArray).size≤9223372036854775807:=by rw[bsz,bsz];have:=HL.out;omega
    have e4:(⟨B.toArray⟩:ByteArray)++⟨t.toArray⟩=⟨T.toArray⟩:=by
     rw[qZ0,hB,qD];simp
    clear hB yB qD xZ zF;have q2:=kT.out w2
    go_wp2_with fail;refine q2.mono ?_;rintro r w5 ⟨rfl,qV⟩;have xX:Hid (Bw w w5):=HB.out.trans (qV.mono HB.out.size);clear q2 qV
    go_wp2_with fail
    go_ret;exact⟨rfl,xX.out⟩
theorem yD7 (p:Nat→Bool):∀ n,p n=true→∃ k,k≤n∧p k=true∧∀ i,i<k→p i=false:=by
 intro n;induction n using Nat.strongRecOn with
 | _ n ih =>
  intro h;by_cases c:∃ j,j<n∧p j=true
  ·obtain⟨j,Y,u⟩:=c;obtain⟨k,H,V,J⟩:=ih j Y u;exact⟨k,ω,V,J⟩
  ·refine⟨n,kH8 _,h,fun i hi=>?_⟩
   cases u:p i
   ·rfl
   ·exact absurd ⟨i,hi,u⟩ c
theorem yV3:(16:Nat)^16=18446744073709551616:=by decide
def hxV (u i:Nat):Nat:=u*16^i % 18446744073709551616
def hxG (u i:Nat):Nat:=u / 16^(15 - i) % 16
theorem yK8 {u i:Nat} (hi:i≤15):16*hxV u i / 18446744073709551616=hxG u i:=by
 unfold hxV hxG;have J:(18446744073709551616:Nat)=16^(15 - i)*16*16^i:=by
  rw[←kN5,←kN3,show 15 - i+1+i=16 by omega,yV3]
 have Y:∀ Q S x:Nat,0<S→16*(x % (Q*16)*S) / (Q*16*S)=x / Q % 16:=by
  intro Q S x V;have e2:16*(x % (Q*16)*S)=x % (Q*16)*(16*S):=by ac_rfl
  rw[e2,kN6 Q,Nat.mul_div_mul_right _ _ ω,Nat.mod_mul_right_div_self]
 rw[J,Nat.mul_mod_mul_right];exact Y _ _ _ (kH1 δ)
theorem zR4 (u i:Nat):16*hxV u i % 18446744073709551616=hxV u (i+1):=by
 unfold hxV;rw[Nat.mul_mod_mod,kN5];congr 1
 ac_rfl
theorem xA8 (u:Nat):hxV u 16=0:=by
 unfold hxV;rw[yV3];exact Nat.mul_mod_left _ _
theorem xX1 {L:List UInt8} (h:∀ x,L.getLast?=some x→x≠48):Lib.trimRightB L 48=L:=by
 obtain⟨z,u,J⟩:=qE0 L;cases z with
 | zero =>
  rw[List.replicate_zero,List.append_nil] at u;exact u.symm
 | succ z =>
  exfalso;have Y:=kU7 List.getLast? u;rw[List.replicate_succ',←List.append_assoc,List.getLast?_concat] at Y;exact h 48 Y rfl
theorem zR5 {dg:Nat→Nat} {K:Nat}:∀ j,(∀ i,K≤i→i<K+j→dg i=0)→hxO dg (K+j)=hxO dg K++List.replicate j 48
 | 0,_=>by simp
 | j+1,h=>by
  rw[←kH4,qP0,zR5 j (fun i u Y=>h i u ω),h (K+j) ω ω,List.replicate_succ',List.append_assoc];rfl
theorem zV9 {f g:Nat→Nat}:∀ K,(∀ i,i<K→f i=g i)→hxO f K=hxO g K
 | 0,_=>rfl
 | K+1,h=>by rw[qP0,qP0,zV9 K (fun i hi=>h i ω),h K ω]
theorem hx_ne {d:Nat} (V:d≠0) (h:d<16):UInt8.ofNat (hx d)≠48:=by
 intro Y;have u:=kU7 UInt8.toNat Y;rw[UInt8.toNat_ofNat_of_lt' (yK7 h)] at u;have J:(48:UInt8).toNat=48:=rfl;unfold hx at u;split at u <;> omega
theorem yS3 {dg:Nat→Nat} {K:Nat} (h:∀ i,i<K→dg i<16) (u:∀ k,K=k+1→dg k≠0):∀ x,(hxO dg K).getLast?=some x→x≠48:=by
 intro x hx;cases K with
 | zero=>exact absurd hx (by simp[hxO])
 | succ k =>
  rw[qP0,List.getLast?_concat] at hx;obtain rfl:=kF0 hx;exact hx_ne (u k rfl) (h k ω)
theorem yJ0 (u j k:Nat) (h:k<(hexL u j).length):(hexL u j)[k]=UInt8.ofNat (hx (u / 16^(j - k) % 16)):=by
 simp[hexL]
theorem xH2 (dg:Nat→Nat) (K i:Nat) (h:i<(hxO dg K).length):(hxO dg K)[i]=UInt8.ofNat (hx (dg i)):=by
 simp[hxO]
theorem xI2 {u:Nat} (F:u<18446744073709551616):nzL (16 - (hxD u).length)++hxD u=hxO (hxG u) 16:=by
 obtain⟨a,b,c⟩:=qC4 15 u (by rw[show(15+1)=16 from rfl,yV3];exact F)
 unfold hxD;generalize hxJ 15 u=j at *;have V:=qH3 u j;have Y:(nzL (16 - (hexL u j).length)).length=15 - j:=by rw[qP5,V];omega
 have J:u<16^(j+1):=by
  have:=(kM6 (kH1 (by decide:0<16))).1 a
  rw[kN5,kN4];exact this
 apply List.ext_getElem
 ·rw[kM0,Y,V,qF1];omega
 ·intro i L H;have T:i<16:=by rw[qF1] at H;exact H
  rw[xH2];by_cases hi:i<15 - j
  ·rw[List.getElem_append_left (by rw[Y];exact hi)]
   have D:hxG u i=0:=by
    unfold hxG;rw[Nat.div_eq_of_lt (kF6 J (kF4 δ ω))]
   rw[D];unfold nzL;rw[List.getElem_replicate];rfl
  ·rw[List.getElem_append_right (by rw[Y];omega),yJ0]
   unfold hxG;rw[Y,show j - (i - (15 - j))=15 - i by omega]
theorem zR6 {m:Nat} (T:m≠0) (H:m<18446744073709551616):1≤bl m∧bl m≤64∧m*2^(65 - bl m)=hxB m+18446744073709551616∧hxB m<18446744073709551616:=by
 have W:1≤bl m:=kB0 fun h=>by
  have:=(qJ4 m 0).1 ω
  rw[kN7] at this;omega
 have L:bl m≤64:=(qJ4 m 64).2 (by rw[show(2:Nat)^64=18446744073709551616 from by decide];exact H)
 have D:=qI2 T;have F:m<2^bl m:=(qJ4 m (bl m)).1 lR;have V:2^(bl m - 1)*2^(65 - bl m)≤m*2^(65 - bl m):=kF5 _ D;have J:m*2^(65 - bl m)<2^bl m*2^(65 - bl m):=kM4 F (kF3 _);rw[←kN3,show bl m - 1+(65 - bl m)=64 by omega] at V
 rw[←kN3,show bl m+(65 - bl m)=65 by omega] at J
 have Y:(2:Nat)^64=18446744073709551616:=by decide
 have u:(2:Nat)^65=36893488147419103232:=by decide
 rw[Y] at V;rw[u] at J;unfold hxB;generalize m*2^(65 - bl m)=x at *;exact⟨W,L,ω,ω⟩
theorem xI3 {m:Nat} (H:m % 2=1) (F:m<18446744073709551616):hxB m=0↔bl m=1:=by
 obtain⟨C,W,u,L⟩:=zR6 (m:=m) ω F;have V:(2:Nat)^64=18446744073709551616:=by decide
 constructor
 ·intro h;rw[h,kH6,←V,show(2:Nat)^64=2^(bl m - 1)*2^(65 - bl m) by rw[←kN3,show bl m - 1+(65 - bl m)=64 by omega]] at u
  have J:=Nat.eq_of_mul_eq_mul_right (kF3 _) u;by_cases Y:bl m=1
  ·exact Y
  ·obtain⟨k,D⟩:∃ k,bl m - 1=k+1:=⟨bl m - 2,ω⟩;rw[D,kN5] at J;omega
 ·intro h;have J:m<2^bl m:=(qJ4 m (bl m)).1 lR;rw[h] at J;have Y:m=1:=ω;subst Y;rw[h] at u;have T:1*2^(65 - 1)=18446744073709551616:=by decide
  rw[T] at u;omega
theorem xI {m z r P:Nat} (D:m≠0) (F:m<18446744073709551616) (T:P+1=bl m+z) (H:r+2^P=m*2^z):r*18446744073709551616=hxB m*2^P:=by
 obtain⟨b1,I,V,C⟩:=zR6 D F;have Y:(18446744073709551616:Nat)=2^64:=by decide
 have u:∀ M Q:Nat,M*2^(65 - bl m)=hxB m+Q→m*2^z*Q=M*2^(65 - bl m)*2^P→(r+2^P)*Q=(hxB m+Q)*2^P→r*Q=hxB m*2^P:=by
  intro M Q W L J;rw[Nat.add_mul,Nat.add_mul,kN4 Q (2^P)] at J;exact Nat.add_right_cancel J
 have e2:m*2^z*18446744073709551616=m*2^(65 - bl m)*2^P:=by
  rw[Y,kN6,kN6,←kN3,←kN3,show z+64=65 - bl m+P by omega]
 exact u m 18446744073709551616 V e2 (by rw[H,e2,V])
def hxR (r P i:Nat):Nat:=r*16^i % 2^P
theorem xI1 {u r P:Nat} (h:r*18446744073709551616=u*2^P) (i:Nat):hxR r P i*18446744073709551616=hxV u i*2^P:=by
 unfold hxR hxV;rw[←Nat.mul_mod_mul_right,←Nat.mul_mod_mul_right];have e:r*16^i*18446744073709551616=u*16^i*2^P:=by
  rw[Nat.mul_right_comm,h,Nat.mul_right_comm]
 rw[e,kN4 (2^P)]
theorem xA9 {u r P:Nat} (h:r*18446744073709551616=u*2^P) (i:Nat):hxR r P i=0↔hxV u i=0:=by
 have J:=xI1 h i;have H:=kF3 P;constructor
 ·intro Y;rw[Y,Nat.zero_mul] at J;rcases Nat.mul_eq_zero.1 J.symm with V|V <;> omega
 ·intro Y;rw[Y,Nat.zero_mul] at J;omega
theorem xI0 {u r P:Nat} (h:r*18446744073709551616=u*2^P) (i:Nat):16*hxR r P i / 2^P=16*hxV u i / 18446744073709551616:=by
 have J:=xI1 h i;have Y:=kF3 P;have V:16*hxR r P i / 2^P=16*hxR r P i*18446744073709551616 / (2^P*18446744073709551616):=(Nat.mul_div_mul_right _ _ δ).symm;have e2:16*hxV u i / 18446744073709551616=16*hxV u i*2^P / (18446744073709551616*2^P):=(Nat.mul_div_mul_right _ _ Y).symm;rw[V,e2,kN6,kN6 16 (hxV u i),J,kN4 (2^P)]
theorem yS2 (r P i:Nat):16*hxR r P i % 2^P=hxR r P (i+1):=by
 unfold hxR;rw[Nat.mul_mod_mod,kN5];congr 1
 ac_rfl
theorem xH1 {m z r P:Nat} (H:m % 2=1) (T:m<18446744073709551616) (hP:P+1=bl m+z) (hr:r+2^P=m*2^z):∃ K,K≤16∧(∀ i,i<K→hxR r P i≠0)∧hxR r P K=0∧(0<K↔1<bl m)∧hxC m=hxO (fun i=>16*hxR r P i / 2^P) K:=by
 have W:m≠0:=ω;obtain⟨b1,b2,b3,I⟩:=zR6 W T;have D:=xI W T hP hr;have F:=xI3 H T;unfold hxC;rw[xI2 I];generalize hxB m=u at *;obtain⟨K,k1,Y,V⟩:=yD7 (fun i=>decide (hxV u i=0)) 16 (kF2 (xA8 u));have Y:=of_decide_eq_true Y;have V:∀ i,i<K→hxV u i≠0:=fun i hi=>of_decide_eq_false (V i hi);have hz:∀ j,hxV u (K+j)=0:=by
  intro j;induction j with
  | zero=>exact Y
  | succ j ih=>rw[←kH4,←zR4,ih]
 refine⟨K,k1,fun i hi h=>V i hi ((xA9 D i).1 h),(xA9 D K).2 Y,?_,?_⟩
 ·have C:hxV u 0=u:=by unfold hxV;rw[kN7,kM1,kB2 I]
  constructor
  ·intro h;have:=V 0 h
   rw[C] at this;have:bl m≠1:=fun J=>this (F.2 J)
   omega
  ·intro h;refine kB0 fun J=>?_;rw[J,C] at Y;have:=F.1 Y
   omega
 ·have e1:hxO (fun i=>16*hxR r P i / 2^P) K=hxO (hxG u) K:=by
   refine zV9 K fun i hi=>?_;rw[xI0 D,yK8 ω]
  have e2:hxO (hxG u) 16=hxO (hxG u) K++List.replicate (16 - K) 48:=by
   have:=zR5 (dg:=hxG u) (K:=K) (16 - K) (fun i h1 L=>by
    rw[←yK8 ω,show i=K+(i - K) by omega,hz])
   rw[show K+(16 - K)=16 by omega] at this
   exact this
  rw[e1,e2,qS0];refine xX1 (yS3 (fun i hi=>kB3 _ δ) ?_);intro k hk J;subst hk;rw[←yK8 ω] at J;have h1:=V k ω;have L:=zR4 u k;rw[Y] at L;have h3:=Nat.div_add_mod (16*hxV u k) 18446744073709551616;rw[J,L] at h3;omega
theorem hx_dn {x d P:Nat} (h:d=x / 2^P):((x:Nat):Int) - ((d:Nat):Int)*((2^P:Nat):Int)=((x % 2^P:Nat):Int):=by
 have u:=Nat.div_add_mod x (2^P);rw[←h,kN4] at u;rw[←kN8];generalize 2^P=M at *;generalize x % M=y at *;generalize d*M=z at *;omega
theorem qL3 {r P i:Nat}:hxR r P i<2^P∧16*hxR r P i<2^(P+4)∧16*hxR r P i / 2^P≤15∧16*hxR r P i / 2^P<2^4:=by
 have u:hxR r P i<2^P:=kB3 _ (kF3 P);have Y:16*hxR r P i / 2^P<16:=(kM6 (kF3 P)).2 ω;refine⟨u,by rw[kN3];omega,ω,ω⟩
theorem un_16 {x P:Nat}:un ((x:Nat):Int) P=un ((16*x:Nat):Int) (P+4):=by
 have h:=qU8 ((x:Nat):Int) P 4;rw[←kN8,show x*2^4=16*x by omega] at h
 exact h
theorem xP8 {x P:Nat}:un ((x:Nat):Int) 0=un (((x:Nat):Int)*((2^P:Nat):Int)) P:=by
 have h:=qU8 ((x:Nat):Int) 0 P;rw[kH6] at h;exact h
theorem kZ6 {a:Nat} (w:World) (I:a<18446744073709551616) :
  Ca 12 #[.float .f64 a] w (Rq w (.string ⟨(hxTx a).toArray⟩)):=by
 unfold hxTx;rcases(by omega:9218868437227405312<mag a∨mag a=9218868437227405312∨mag a<9218868437227405312)with hf|hf|hf
 ·rw[kU6 hf];refine(yO9 a _ w (fun W=>qL5 a (neg a) W (fun W=>Ie.c33 a I W) (zH7 I hf))).mono ?_
  rintro r w' ⟨rfl,rfl⟩;exact⟨rfl,kH9 _ _⟩
 ·rw[kU5 ω,kU6 hf];obtain⟨o1,o2⟩:=zH8 I hf;refine(yO9 a _ w (fun W=>qL6 a (neg a) W (fun W=>Ie.c33 a I W) o1 o2)).mono ?_
  rintro r w' ⟨rfl,rfl⟩;exact⟨rfl,kH9 _ _⟩
 ·rw[kU5 ω,kU5 ω];have kw:=fun W=>zT5 I hf W;obtain⟨s1,s2⟩:=xR9 (neg a);rw[s1] at kw;have ho:=xF5 I (kM8 hf);by_cases hz:mag a=0
  ·rw[kF2 hz] at ho;have e:hxT a = [48,120,48,112,48]:=by
    have h1:(Ie.sM a).toNat=0:=(yP9 hz).1;unfold hxT;rw[kU6 h1]
   rw[e];have h:=kZ5 a (sgL (neg a) []) w ho s2 kw;rw[zS0] at h;refine h.mono ?_;rintro r w' ⟨rfl,rfl⟩;exact⟨rfl,kH9 _ _⟩
  ·rw[kF1 hz] at ho;obtain⟨o1,o2,o3,o4,o5⟩:=yY3 hf hz;have qX:=kQ2 hz;have hA:=qI9 a;have J:fU a=nM a*2^(Ie.sE a+1074).toNat:=by rw[o5];exact(qW6 a hf).1.symm
   have hT:hxT a=hxL (bl (nM a)) (hxC (nM a)) (Lib.itoa (Ie.sE a+bl (nM a) - 1)):=by
    have h1:¬ (Ie.sM a).toNat=0:=by show ¬ nM a=0;omega
    unfold hxT;rw[kU5 h1];rfl
   rw[hT];obtain⟨b1,b2⟩:=yH6 hA qX;have hb:=qF2;have V:nM a<18446744073709551616:=ω;obtain⟨c1,c2,-,-⟩:=zR6 (m:=nM a) ω V;have C:bl (fU a)=bl (nM a)+(Ie.sE a+1074).toNat:=by rw[J];exact qI0 ω
   have L:=qI2 qX;have T:fU a<2^bl (fU a):=(qJ4 _ _).1 lR;obtain⟨z,qQ⟩:=eE ((Ie.sE a+1074).toNat);have hE:Ie.sE a=(z:Int) - 1074:=ω;rw[←qQ] at J C;rw[hE];obtain⟨P,hP⟩:∃ P,P+1=bl (nM a)+z:=⟨bl (nM a)+z - 1,ω⟩;rw[C,←hP] at L T;rw[kM5] at L;obtain⟨r,hr⟩:∃ r,r+2^P=fU a:=⟨fU a - 2^P,ω⟩;have qK:r<2^P:=by rw[kN5] at T;omega
   have D:=hr;rw[J] at D;obtain⟨K,k1,k2,k3,k4,k5⟩:=xH1 o1 V hP D;have qZ:(z:Int) - 1074+(bl (nM a):Int) - 1=(P:Int) - 1074:=ω;rw[qZ,k5];have qG:P≤2300:=ω;have qJ:hxR r P 0=r:=by unfold hxR;rw[kN7,kM1,kB2 qK]
   have qY:(bl (fU a):Int)=(P:Int)+1:=ω;clear J C L T D hE qQ k5 hT o5;refine kZ4 a ((P:Int)+1 - 1074) ((P:Int) - 1074) (1074 - (P:Int)) K (sgL (neg a) []) (Lib.itoa ((P:Int) - 1074)) _ (fun i=>16*hxR r P i / 2^P) (un ((fU a:Nat):Int) 1074) (un ((fU a:Nat):Int) P) (un 1 0) (fun i=>un ((hxR r P i:Nat):Int) P) (fun i=>un ((16*hxR r P i:Nat):Int) P) (fun i=>un ((16*hxR r P i / 2^P:Nat):Int) 0) (fun n=>un ((n:Nat):Int) 0) (fun i=>decide (16*hxR r P i % 2^P=0)) w (by show(FloatKind.f64.format.order a 0==some Ordering.eq)=false;exact ho) s2 (zV4 ω) (by omega:K≤1000) (by rw[kB5];omega) (by rw[kB5];omega) kw (fun W=>yT3 I W) ?_ ?_ ?_ ?_ ?_ ?_ ?_ ?_ ?_ ?_ ?_ (fun W=>zJ5 _ W ω) ?_
   ·intro W Y H;have h:=xO (qY4 hA) ω ω (show((fU a:Nat):Int)≠0 by omega) H
    rw[kN1,qY] at h;exact h
   ·intro W X u;have h:=zY0 (k:=1074 - (P:Int)) (qG3 (qY4 hA) ω ω) u ω;rw[yJ6 (q:=P) ω] at h;exact h.mono fun r w' h=>outQ h
   ·exact fun W=>(qA4 (n:=1) ω W).mono fun r w' h=>outQ h
   ·intro W X Y u H;have e1:un 1 0=un ((2^P:Nat):Int) P:=by
     have h:=xP8 (x:=1) (P:=P);rw[show((1:Nat):Int)=1 from rfl,Int.one_mul] at h;exact h
    rw[e1] at H;have h:=xH4 (qG3 (p:=P) (qY4 hA) ω ω) (qG3 (p:=P) (qY4 (show 2^P<2^(P+1)from Nat.pow_lt_pow_right δ ω)) ω ω) u H;rw[yJ7,show((fU a:Nat):Int) - ((2^P:Nat):Int)=((r:Nat):Int) by omega] at h
    show Calls _ _ _ _ fun r' w'=>OutQ W (un ((hxR r P 0:Nat):Int) P) r' w'
    rw[qJ];exact h.mono fun r w' h=>outQ h
   ·intro i hi W X u;have h:=sgQ (qY4 (qL3 (r:=r) (P:=P) (i:=i)).1) ω ω u;have e:(if((hxR r P i:Nat):Int)=0 then(0:Int)else if((hxR r P i:Nat):Int)<0 then -1 else 1)=if i<K then 1 else 0:=by
     by_cases F:i<K
     ·have:=k2 i F
      rw[kU6 F,kU5 ω,kU5 ω]
     ·obtain rfl:i=K:=ω;rw[kU5 F,k3];rfl
    rw[e] at h;exact h
   ·intro i hi W X u;have qU:DN W X (un ((16*hxR r P i:Nat):Int) (P+4)):=by rw[←un_16];exact u
    have h:=zY0 (k:=4) (qG3 (qY4 (qL3 (r:=r) (P:=P) (i:=i)).2.1) ω ω) qU ω;rw[yJ6 (q:=P) ω] at h;exact h.mono fun r w' h=>outQ h
   ·intro i hi W X u;exact(xO0 (p:=P) (K:=2^P) rfl (qL3 (r:=r) (P:=P) (i:=i)).2.1 ω ω u).mono fun r w' h=>outS h
   ·intro i hi W X Y u H;obtain⟨q1,q2,q3,q4⟩:=qL3 (r:=r) (P:=P) (i:=i);have qV:DN W Y (un (((16*hxR r P i / 2^P:Nat):Int)*((2^P:Nat):Int)) P):=by rw[←xP8];exact H
    have h:=xI9 (qG3 (p:=P) (qY4 q2) ω ω) (qG3 (p:=P) (by rw[←kN8];exact qY4 (mulN q4 (show 2^P<2^(P+1)from Nat.pow_lt_pow_right δ ω))) ω ω) u qV
    rw[yJ7,hx_dn rfl,yS2] at h;exact h
   ·exact fun n hn W=>(qA4 (n:=(n:Nat)) ω W).mono fun r w' h=>outQ h
   ·intro i n hi hn W X Y u H;obtain⟨q1,q2,q3,q4⟩:=qL3 (r:=r) (P:=P) (i:=i);exact zY4 (qY4 (show n<2^4 by omega)) (qY4 q4) ω ω ω u H
   ·exact fun i hi=>(qL3 (r:=r) (P:=P) (i:=i)).2.2.1
   ·show sgL (neg a) (hxL (bl (nM a)) _ _)=_
    rw[←zS0];unfold hxL;by_cases F:0<K
    ·rw[kU6 F,kU6 (k4.1 F)]
    ·rw[kU5 F,kU5 (fun h=>F (k4.2 h))]
theorem pt_n {d:List UInt8} {x:Int} (u:1≤d.length) (h:x<0):ptL d ((d.length:Int) - 1 - x) = [48,46]++(nzL (-x - 1)++d):=by
 have e:nzL ((d.length:Int) - 1 - x+1 - (d.length:Int))=48 :: nzL (-x - 1):=by
  unfold nzL;rw[show((d.length:Int) - 1 - x+1 - (d.length:Int)).toNat=(-x - 1).toNat+1 by omega,List.replicate_succ]
 unfold ptL;rw[kU5 ω];simp only[];rw[e,show(48 :: nzL (-x - 1)++d).length - ((d.length:Int) - 1 - x).toNat=1 by rw[kM0,kG2,qP5];omega]
 rfl
theorem pt_i {d:List UInt8} {x:Int} (u:1≤d.length) (h:(d.length:Int)≤x+1):ptL d ((d.length:Int) - 1 - x)=d++nzL (x+1 - d.length):=by
 unfold ptL;rw[kU6 ω,show nzL (1 - (d.length:Int)) = [] by unfold nzL;rw[show(1 - (d.length:Int)).toNat=0 by omega];rfl,kG9,show -((d.length:Int) - 1 - x)=x+1 - d.length by omega]
theorem pt_p {d:List UInt8} {x:Int} {q:Nat} (Y:¬ x<0) (h:¬ (d.length:Int)≤x+1) (u:x+1=(q:Int)):ptL d ((d.length:Int) - 1 - x)=d.take q++46 :: d.drop q:=by
 have e:nzL ((d.length:Int) - 1 - x+1 - (d.length:Int)) = []:=by
  unfold nzL;rw[show((d.length:Int) - 1 - x+1 - (d.length:Int)).toNat=0 by omega]
  rfl
 unfold ptL;rw[kU5 ω];simp only[];rw[e,kG9,show d.length - ((d.length:Int) - 1 - x).toNat=q by omega]
theorem zN5 {a:Nat} (w:World) (J:a<18446744073709551616) :
  Ca 8 #[.float .f64 a] w (Rq w (.string ⟨(shTx a).toArray⟩)):=by
 unfold shTx;rcases(by omega:9218868437227405312<mag a∨mag a=9218868437227405312∨mag a<9218868437227405312)with hf|hf|hf
 ·rw[kU6 hf];refine(yO8 a _ w (fun W=>qL5 a (neg a) W (fun W=>Ie.c33 a J W) (zH7 J hf))).mono ?_
  rintro r w' ⟨rfl,rfl⟩;exact⟨rfl,kH9 _ _⟩
 ·rw[kU5 ω,kU6 hf];obtain⟨o1,o2⟩:=zH8 J hf;refine(yO8 a _ w (fun W=>qL6 a (neg a) W (fun W=>Ie.c33 a J W) o1 o2)).mono ?_
  rintro r w' ⟨rfl,rfl⟩;exact⟨rfl,kH9 _ _⟩
 ·rw[kU5 ω,kU5 ω];have V:=fun W=>zT5 J hf W;obtain⟨s1,s2⟩:=xR9 (neg a);rw[s1] at V;have u:=xF5 J (kM8 hf);by_cases C:mag a=0
  ·rw[kU6 C];rw[kF2 C] at u;have h:=kZ3 a (sgL (neg a) []) w u s2 V;rw[zS0] at h;refine h.mono ?_;rintro r w' ⟨rfl,rfl⟩;exact⟨rfl,kH9 _ _⟩
  ·rw[kU5 C];rw[kF1 C] at u;have Y:0<mag a:=ω;obtain⟨qQ,hE⟩:=xR3 Y hf;obtain⟨hd,-⟩:=yQ8 Y hf;have T:=fun W=>zC6 Y hf W;have L:=fun W=>c159 a J W;unfold shS;generalize shD (mag a)=d at *;generalize shE (mag a)=x at *;have hD:1≤d.length∧d.length≤1000:=⟨hd,ω⟩;rw[←zS0];by_cases H:x < -5∨20<x
   ·rw[kU6 H];exact kZ2 a (mag a) x (sgL (neg a) []) d (Lib.itoa x) w ω u s2 hD (zV4 ω) V L T H (fun W=>zJ5 _ W ω)
   ·rw[kU5 H];have h5:¬ x < -5:=fun h=>H (.inl h);have F:¬ 20<x:=fun h=>H (.inr h);by_cases D:x<0
    ·rw[pt_n hd D];exact kZ0 a (mag a) x (sgL (neg a) []) d _ w ω u s2 hD V L T D h5 rfl
    ·by_cases I:(d.length:Int)≤x+1
     ·rw[pt_i hd I];exact kZ1 a (mag a) x (sgL (neg a) []) d _ w ω u s2 hD V L T D F I rfl
     ·obtain⟨q,hq⟩:∃ q:Nat,x+1=(q:Int):=⟨(x+1).toNat,ω⟩;rw[pt_p D I hq];exact kQ9 a (mag a) x (sgL (neg a) []) d w ω u s2 hD V L T q hq D F I
theorem zG1 (f:Nat) (S1 S2 S3:ByteArray) (w:World)
  (k1:∀ W,Bw w W→Ca 7 #[.float .f64 f] W (Rq W (.string S1)))
  (k2:∀ W,Bw w W→Ca 8 #[.float .f64 f] W (Rq W (.string S1)))
  (k3:∀ W,Bw w W→Ca 9 #[.float .f64 f] W (Rq W (.string S2)))
  (k4:∀ W,Bw w W→Ca 10 #[.float .f64 f] W (Rq W (.string S2)))
  (k5:∀ W,Bw w W→Ca 11 #[.float .f64 f] W (Rq W (.string S3)))
  (k6:∀ W,Bw w W→Ca 12 #[.float .f64 f] W (Rq W (.string S3)))
  (k7:∀ W,Bw w W→Ca 13 #[] W (Rq W (.bool true))) :
  Ca 3 #[.float .f64 f] w (Rq w (.bool true)):=by
 have j1:=k1 w bR;have K2:Hid _:=k2;have K3:Hid _:=k3;have K4:Hid _:=k4;have K5:Hid _:=k5;have K6:Hid _:=k6;have K7:Hid _:=k7;have D:Hid (Bw w w):=kH9 _ _;clear k1 k2 k3 k4 k5 k6 k7
 go_enter Tryz.func3,Tryz.ntmps3
 go_wp2_with fail;refine j1.mono ?_;rintro r w1 ⟨rfl,qY⟩;have F:Hid _:=D.out.trans (qY.mono D.out.size);have j2:=K2.out w1 F.out;clear j1 qY K2 D
 go_wp2_with fail;refine j2.mono ?_;rintro r w2 ⟨rfl,qZ⟩;have H:Hid _:=F.out.trans (qZ.mono F.out.size);have j3:=K3.out w2 H.out;clear j2 qZ K3 F
 go_wp2_with fail;refine j3.mono ?_;rintro r w3 ⟨rfl,qQ⟩;have V:Hid _:=H.out.trans (qQ.mono H.out.size);have j4:=K4.out w3 V.out;clear j3 qQ K4 H
 go_wp2_with fail;refine j4.mono ?_;rintro r w4 ⟨rfl,I⟩;have J:Hid _:=V.out.trans (I.mono V.out.size);have j5:=K5.out w4 J.out;clear j4 I K5 V
 go_wp2_with fail;refine j5.mono ?_;rintro r w5 ⟨rfl,C⟩;have Y:Hid _:=J.out.trans (C.mono J.out.size);have j6:=K6.out w5 Y.out;clear j5 C K6 J
 go_wp2_with fail;refine j6.mono ?_;rintro r w6 ⟨rfl,L⟩;have u:Hid _:=Y.out.trans (L.mono Y.out.size);have j7:=K7.out w6 u.out;clear j6 L K7 Y
 go_wp2_with fail;refine j7.mono ?_;rintro r w7 ⟨rfl,T⟩;have qX:Hid _:=u.out.trans (T.mono u.out.size);clear j7 T u
 go_wp2_with fail
 go_ret;exact⟨rfl,qX.out⟩
theorem decimTells_ok (a:Nat) (w:World) (J:a<18446744073709551616) (H:Tab32 w) (V:Ie.Tab w) (Y:Tab10 w) :
  Ca 3 #[.float .f64 a] w fun r w'=>r=.returned (.bool true)∧Bw w w' :=
 zG1 a _ _ _ w (fun W u=>zA5 (H.later u) (Tab.later V u) (Y.later u) J) (fun W u=>zN5 W J) (fun W u=>xP1 (H.later u) (Tab.later V u) J) (fun W u=>yT4 W J) (fun W u=>DHexA (Tab.later V u) (Y.later u) J) (fun W u=>kZ6 W J) (fun W u=>kV5 (H.later u) (Tab.later V u) (Y.later u))
end Go.Proofs.YtfkaogdmlcdceaaGreatDoor
