/- Own work: contracts of the program's functions, part 21: DSP DSQ. -/
import Derived.Test.YtkcmhaknalomjaaGreatDoorA20
import Derived.Test.YtkcmhaknalomjaaGreatDoorA15
import Derived.Test.YtkcmhaknalomjaaGreatDoorA18

set_option maxHeartbeats 16000000
set_option maxRecDepth 200000
set_option linter.unusedVariables false
set_option linter.unusedSimpArgs false
namespace Go.Proofs.YtkcmhaknalomjaaGreatDoor
open Go Go.RowKit Go.Fl64
theorem zY2 (f:Nat) (p m:Int) (b:Bool) (w:World)
  (kM:∀ W,Calls Tryz.prog 29 #[.int .i64 m] W fun r w'=>r=.returned (.bool b)∧w'=W) (hno:b=false∨p<1∨1100<p) :
  Calls Tryz.prog 21 #[.float .f64 f,.int .i64 p,.int .i64 m] w fun r w'=>r=.returned (.tuple #[.string ⟨#[]⟩,.int .i64 1])∧Bw w w':=by
 cases b
 ·clear hno
  go_enter Tryz.func21,Tryz.ntmps21
  go_wp2_with (go_at_call 29;refine(kM _).mono ?_;rintro r w' ⟨rfl,hw⟩;replace hw:=hw.symm;subst hw)
  refine xG6 (xF rfl _ _ _) rfl ?_;exact⟨rfl,xV9 _ _⟩
 ·rcases(by simpa using hno:p<1∨1100<p)with h|h
  ·clear hno
   go_enter Tryz.func21,Tryz.ntmps21
   go_wp2_with (go_at_call 29;refine(kM _).mono ?_;rintro r w' ⟨rfl,hw⟩;replace hw:=hw.symm;subst hw)
   refine xG6 (xF rfl _ _ _) rfl ?_;exact⟨rfl,xV9 _ _⟩
  ·have h0:¬ p<1:=by omega
   clear hno
   go_enter Tryz.func21,Tryz.ntmps21
   go_wp2_with (go_at_call 29;refine(kM _).mono ?_;rintro r w' ⟨rfl,hw⟩;replace hw:=hw.symm;subst hw)
   refine xG6 (xF rfl _ _ _) rfl ?_;exact⟨rfl,xV9 _ _⟩
theorem qW4 (f:Nat) (p m:Int) (t:ByteArray) (w:World) (h0:¬ p<1) (h1:¬ 1100<p)
  (kM:∀ W,Calls Tryz.prog 29 #[.int .i64 m] W fun r w'=>r=.returned (.bool true)∧w'=W)
  (kW:∀ W,Calls Tryz.prog 38 #[.float .f64 f] W fun r w'=>r=.returned (.tuple #[.string t,.bool true])∧w'=W) :
  Calls Tryz.prog 21 #[.float .f64 f,.int .i64 p,.int .i64 m] w fun r w'=>r=.returned (.tuple #[.string t,.int .i64 0])∧Bw w w':=by
 go_enter Tryz.func21,Tryz.ntmps21
 go_wp2_with (first|(go_at_call 29;refine(kM _).mono ?_;rintro r w' ⟨rfl,hw⟩;replace hw:=hw.symm;subst hw)|(go_at_call 38;refine(kW _).mono ?_;rintro r w' ⟨rfl,hw⟩;replace hw:=hw.symm;subst hw))
 refine xG6 (xF rfl _ _ _) rfl ?_;exact⟨rfl,xV9 _ _⟩
theorem zF2 (f N:Nat) (n m:Int) (sgl t d2:List UInt8) (w:World) (h0:¬ n<1) (h1:¬ 1100<n) (hN:Hid (n=(N:Int))) (hd2:Hid (d2.length=N)) (hZ:Hid (d2=nzL n))
  (hf:(FloatKind.f64.format.order f 0 != some Ordering.eq)=false)
  (kM:∀ W,Calls Tryz.prog 29 #[.int .i64 m] W fun r w'=>r=.returned (.bool true)∧w'=W)
  (kW:∀ W,Calls Tryz.prog 38 #[.float .f64 f] W fun r w'=>r=.returned (.tuple #[.string ⟨sgl.toArray⟩,.bool false])∧w'=W)
  (kT:Hid (∀ W,Calls Tryz.prog 40 #[.int .i64 0] W fun r w'=>r=.returned (.string ⟨t.toArray⟩)∧Bw W w')) (hsg:sgl.length≤1) (hT:t.length≤100) :
  Calls Tryz.prog 21 #[.float .f64 f,.int .i64 n,.int .i64 m] w fun r w'=>r=.returned (.tuple #[.string ⟨(sgl++exL d2 t).toArray⟩,.int .i64 0])∧Bw w w':=by
 have q1:=d4nz n w (by omega)
 rw[←hZ.out] at q1;have hsz:(⟨d2.toArray⟩:ByteArray).size=d2.length:=rfl;have hdl1:(1:Int)≤(d2.length:Int):=by have:=hd2.out;have:=hN.out;omega
 have HL:Hid (d2.length≤1100∧sgl.length≤1∧t.length≤100∧1≤d2.length):=by have:=hd2.out;have:=hN.out;exact⟨by omega,hsg,hT,by omega⟩
 have et:=qY1 d2 1;have ed:=qK0 d2 1;rw[List.drop_one] at ed;obtain⟨A,hA⟩:∃ A:List UInt8,A=d2.take 1++(if 1<d2.length then 46 :: d2.drop 1 else []):=⟨_,rfl⟩;have hAl:A.length≤1101:=by
  have:=HL.out
  rw[hA,xH7,List.length_take];split
  ·rw[List.length_cons,List.length_drop];omega
  ·simp;omega
 have hc1:(⟨(d2.take 1).toArray⟩:ByteArray).size+(⟨#[46]⟩:ByteArray).size≤9223372036854775807:=by
  rw[bsz,show(⟨#[46]⟩:ByteArray).size=1 from rfl,List.length_take];omega
 have e1:(⟨(d2.take 1).toArray⟩:ByteArray)++⟨#[46]⟩=⟨(d2.take 1 ++ [46]).toArray⟩:=qQ8 _ [46];have hc2:(⟨(d2.take 1 ++ [46]).toArray⟩:ByteArray).size+(⟨d2.tail.toArray⟩:ByteArray).size≤9223372036854775807:=by
  rw[bsz,bsz,xH7,List.length_take,List.length_tail];have:=HL.out;simp;omega
 obtain⟨B,hB⟩:∃ B:List UInt8,B=sgl++A:=⟨_,rfl⟩;obtain⟨C,hC⟩:∃ C:List UInt8,C=B ++ [101]:=⟨_,rfl⟩;have hBl:B.length≤1102:=by have:=HL.out;rw[hB,xH7];omega
 have hCl:C.length≤1103:=by rw[hC,xH7];simp;omega
 have hc3:(⟨sgl.toArray⟩:ByteArray).size+(⟨A.toArray⟩:ByteArray).size≤9223372036854775807:=by rw[bsz,bsz];have:=HL.out;omega
 have e3:(⟨sgl.toArray⟩:ByteArray)++⟨A.toArray⟩=⟨B.toArray⟩:=by rw[hB];exact qQ8 _ _
 have hc4:(⟨B.toArray⟩:ByteArray).size+(⟨#[101]⟩:ByteArray).size≤9223372036854775807:=by
  rw[bsz,show(⟨#[101]⟩:ByteArray).size=1 from rfl];omega
 have e4:(⟨B.toArray⟩:ByteArray)++⟨#[101]⟩=⟨C.toArray⟩:=by rw[hC];exact qQ8 _ [101]
 have hc5:(⟨C.toArray⟩:ByteArray).size+(⟨t.toArray⟩:ByteArray).size≤9223372036854775807:=by
  rw[bsz,bsz];have:=HL.out;omega
 obtain⟨R,hR⟩:∃ R:List UInt8,R=sgl++exL d2 t:=⟨_,rfl⟩;have e5:(⟨C.toArray⟩:ByteArray)++⟨t.toArray⟩=⟨R.toArray⟩:=by
  rw[qQ8,hC,hB,hR];unfold exL;rw[←hA];simp
 rw[←hR];clear hB hC hBl hCl hR
 go_enter Tryz.func21,Tryz.ntmps21
 go_wp2_with (first|(go_at_call 29;refine(kM _).mono ?_;rintro r w' ⟨rfl,hw⟩;replace hw:=hw.symm;subst hw)|(go_at_call 38;refine(kW _).mono ?_;rintro r w' ⟨rfl,hw⟩;replace hw:=hw.symm;subst hw))
 refine q1.mono ?_;rintro r w1 ⟨rfl,hb1⟩;have HB:Hid (Bw w w1):=hb1;clear q1 hb1 hsg hT
 go_upto_region 7 with fail;by_cases h1n:(1:Int)<n
 ·have e2:(⟨(d2.take 1 ++ [46]).toArray⟩:ByteArray)++⟨d2.tail.toArray⟩=⟨A.toArray⟩:=by rw[qQ8,hA,if_pos (by have:=hd2.out;have:=hN.out;omega),List.drop_one,List.append_assoc];rfl
  clear hA hAl
  go_upto_region 14 with fail
  go_quiet (fail)
  have q2:=fun U=>kT.out U
  go_wp2_with fail;refine(q2 _).mono ?_
  rintro r w5 ⟨rfl,hb5⟩;have HB5:Hid (Bw w w5):=(qU5 HB.out nq).trans (hb5.mono (qU5 HB.out nq).size);clear q2 hb5
  go_wp2_with fail;refine xG6 (xF rfl _ _ _) rfl ?_;exact⟨rfl,HB5.out⟩
 ·have e2:d2.take 1=A:=by rw[hA,if_neg (by have:=hd2.out;have:=hN.out;omega),List.append_nil]
  have e6:A=d2:=by rw[←e2,List.take_of_length_le (by have:=hd2.out;have:=hN.out;omega)]
  rw[e6] at hc3 e3;rw[hsz] at hc3;clear hA hAl et ed e1 hc1 hc2 e2 e6;have q2:=kT.out w1
  go_wp2_with fail;refine q2.mono ?_;rintro r w5 ⟨rfl,hb5⟩;have HB5:Hid (Bw w w5):=HB.out.trans (hb5.mono HB.out.size);clear q2 hb5
  go_wp2_with fail;refine xG6 (xF rfl _ _ _) rfl ?_;exact⟨rfl,HB5.out⟩
theorem zY4 (f N:Nat) (m x:Int) (ng:Bool) (sgl t d d2:List UInt8) (tA tN:Bool×Nat×Int) (w:World) (h0:¬ (N:Int)<1) (h1:¬ 1100<(N:Int)) (hd2:Hid (d2.length=N)) (hx : -10000≤x∧x≤10000) (hd:Hid (N<d.length∧d.length≤1101)) (h2:Hid (d2=d.take N))
  (hf:(FloatKind.f64.format.order f 0 != some Ordering.eq)=true)
  (kM:∀ W,Calls Tryz.prog 29 #[.int .i64 m] W fun r w'=>r=.returned (.bool true)∧w'=W)
  (kW:∀ W,Calls Tryz.prog 38 #[.float .f64 f] W fun r w'=>r=.returned (.tuple #[.string ⟨sgl.toArray⟩,.bool false])∧w'=W)
  (kA:Hid (∀ W,Calls Tryz.prog 46 #[.float .f64 f] W fun r w'=>OutQ W tA r w'))
  (kPl:Hid (∀ W X,DN W X tA→Calls Tryz.prog 68 #[X] W fun r w'=>r=.returned (.int .i64 x)∧Bw W w'))
  (kS:∀ W,Calls Tryz.prog 63 #[.float .f64 f] W fun r w'=>r=.returned (.bool ng)∧w'=W)
  (kR:Hid (∀ W X,DN W X tA→Calls Tryz.prog 62 #[X,.int .i64 ((N:Int) - 1 - x),.bool ng,.int .i64 m] W fun r w'=>OutQ W tN r w'))
  (kD:Hid (∀ W X,DN W X tN→Calls Tryz.prog 47 #[X] W fun r w'=>r=.returned (.string ⟨d.toArray⟩)∧Bw W w'))
  (kT:Hid (∀ W,Calls Tryz.prog 40 #[.int .i64 (x+1)] W fun r w'=>r=.returned (.string ⟨t.toArray⟩)∧Bw W w')) (hsg:sgl.length≤1) (hT:t.length≤100) :
  Calls Tryz.prog 21 #[.float .f64 f,.int .i64 (N:Int),.int .i64 m] w fun r w'=>r=.returned (.tuple #[.string ⟨(sgl++exL d2 t).toArray⟩,.int .i64 0])∧Bw w w':=by
 have q1:=d4nz (N:Int) w (by omega)
 have hN:Hid ((N:Int)=(N:Int)):=rfl;have u1:IntKind.i64.wrap ((N:Int) - 1)=(N:Int) - 1:=by rw[xG3];omega
 have u2:IntKind.i64.wrap ((N:Int) - 1 - x)=(N:Int) - 1 - x:=by rw[xG3];omega
 have u3:IntKind.i64.wrap (x+1)=x+1:=by rw[xG3];omega
 have hszd:(⟨d.toArray⟩:ByteArray).size=d.length:=rfl;have hlt:=(by have:=hd.out;omega:(N:Int)<(d.length:Int))
 have hN0:(0:Int)≤(N:Int):=by omega
 have hNd:(N:Int)≤(d.length:Int):=by omega
 have et2:(⟨d.toArray⟩:ByteArray).extract 0 N=⟨d2.toArray⟩:=by rw[h2.out];exact qY1 d N
 have hsz:(⟨d2.toArray⟩:ByteArray).size=d2.length:=rfl;have hdl1:(1:Int)≤(d2.length:Int):=by have:=hd2.out;have:=hN.out;omega
 have HL:Hid (d2.length≤1100∧sgl.length≤1∧t.length≤100∧1≤d2.length):=by have:=hd2.out;have:=hN.out;exact⟨by omega,hsg,hT,by omega⟩
 have et:=qY1 d2 1;have ed:=qK0 d2 1;rw[List.drop_one] at ed;obtain⟨A,hA⟩:∃ A:List UInt8,A=d2.take 1++(if 1<d2.length then 46 :: d2.drop 1 else []):=⟨_,rfl⟩;have hAl:A.length≤1101:=by
  have:=HL.out
  rw[hA,xH7,List.length_take];split
  ·rw[List.length_cons,List.length_drop];omega
  ·simp;omega
 have hc1:(⟨(d2.take 1).toArray⟩:ByteArray).size+(⟨#[46]⟩:ByteArray).size≤9223372036854775807:=by
  rw[bsz,show(⟨#[46]⟩:ByteArray).size=1 from rfl,List.length_take];omega
 have e1:(⟨(d2.take 1).toArray⟩:ByteArray)++⟨#[46]⟩=⟨(d2.take 1 ++ [46]).toArray⟩:=qQ8 _ [46];have hc2:(⟨(d2.take 1 ++ [46]).toArray⟩:ByteArray).size+(⟨d2.tail.toArray⟩:ByteArray).size≤9223372036854775807:=by
  rw[bsz,bsz,xH7,List.length_take,List.length_tail];have:=HL.out;simp;omega
 obtain⟨B,hB⟩:∃ B:List UInt8,B=sgl++A:=⟨_,rfl⟩;obtain⟨C,hC⟩:∃ C:List UInt8,C=B ++ [101]:=⟨_,rfl⟩;have hBl:B.length≤1102:=by have:=HL.out;rw[hB,xH7];omega
 have hCl:C.length≤1103:=by rw[hC,xH7];simp;omega
 have hc3:(⟨sgl.toArray⟩:ByteArray).size+(⟨A.toArray⟩:ByteArray).size≤9223372036854775807:=by rw[bsz,bsz];have:=HL.out;omega
 have e3:(⟨sgl.toArray⟩:ByteArray)++⟨A.toArray⟩=⟨B.toArray⟩:=by rw[hB];exact qQ8 _ _
 have hc4:(⟨B.toArray⟩:ByteArray).size+(⟨#[101]⟩:ByteArray).size≤9223372036854775807:=by
  rw[bsz,show(⟨#[101]⟩:ByteArray).size=1 from rfl];omega
 have e4:(⟨B.toArray⟩:ByteArray)++⟨#[101]⟩=⟨C.toArray⟩:=by rw[hC];exact qQ8 _ [101]
 have hc5:(⟨C.toArray⟩:ByteArray).size+(⟨t.toArray⟩:ByteArray).size≤9223372036854775807:=by
  rw[bsz,bsz];have:=HL.out;omega
 obtain⟨R,hR⟩:∃ R:List UInt8,R=sgl++exL d2 t:=⟨_,rfl⟩;have e5:(⟨C.toArray⟩:ByteArray)++⟨t.toArray⟩=⟨R.toArray⟩:=by
  rw[qQ8,hC,hB,hR];unfold exL;rw[←hA];simp
 rw[←hR];clear hB hC hBl hCl hR;obtain⟨ZN,hZN⟩:∃ ZN:ByteArray,ZN=⟨(nzL (N:Int)).toArray⟩:=⟨_,rfl⟩;rw[←hZN] at q1;clear hZN
 go_enter Tryz.func21,Tryz.ntmps21
 go_wp2_with (first|(go_at_call 29;refine(kM _).mono ?_;rintro r w' ⟨rfl,hw⟩;replace hw:=hw.symm;subst hw)|(go_at_call 38;refine(kW _).mono ?_;rintro r w' ⟨rfl,hw⟩;replace hw:=hw.symm;subst hw))
 refine q1.mono ?_;rintro r w1 ⟨rfl,hb1⟩;have HB1:Hid (Bw w w1):=hb1;have q2:=kA.out w1;clear q1 hb1 hsg hT
 go_wp2_with fail;refine q2.mono ?_;rintro r w2 ⟨s1,ao1,n1,cp1,e9,rfl,hd9,hb2⟩;have HB2:Hid (Bw w w2):=HB1.out.trans (hb2.mono HB1.out.size);have q1:=kPl.out w2 _ hd9;clear q2 hd9 hb2 HB1
 go_wp2_with fail;refine q1.mono ?_;rintro r w3 ⟨rfl,hb3⟩;have HB3:Hid (Bw w w3):=HB2.out.trans (hb3.mono HB2.out.size);have q2:=kA.out w3;clear q1 hb3 HB2
 go_wp2_with fail;refine q2.mono ?_;rintro r w4 ⟨s2,ao2,n2,cp2,e8,rfl,hd9,hb2⟩;have HB2:Hid (Bw w w4):=HB3.out.trans (hb2.mono HB3.out.size);have q1:=kR.out w4 _ hd9;clear q2 hd9 hb2 HB3
 go_wp2_with (go_at_call 63;refine(kS _).mono ?_;rintro r w' ⟨rfl,hw⟩;replace hw:=hw.symm;subst hw)
 refine q1.mono ?_;rintro r w6 ⟨s3,ao3,n3,cp3,e7,rfl,hd9,hb3⟩;have HB3:Hid (Bw w w6):=HB2.out.trans (hb3.mono HB2.out.size);have q2:=kD.out w6 _ hd9;clear q1 hd9 hb3 HB2
 go_wp2_with fail;refine q2.mono ?_;rintro r w7 ⟨rfl,hb2⟩;have HB:Hid (Bw w w7):=HB3.out.trans (hb2.mono HB3.out.size);clear q2 hb2 HB3 kM kW kS
 go_upto_region 13 with fail;by_cases h1n:(1:Int)<(N:Int)
 ·have e2:(⟨(d2.take 1 ++ [46]).toArray⟩:ByteArray)++⟨d2.tail.toArray⟩=⟨A.toArray⟩:=by rw[qQ8,hA,if_pos (by have:=hd2.out;have:=hN.out;omega),List.drop_one,List.append_assoc];rfl
  clear hA hAl
  go_upto_region 14 with fail
  go_quiet (fail)
  have q2:=fun U=>kT.out U
  go_wp2_with fail;refine(q2 _).mono ?_
  rintro r w5 ⟨rfl,hb5⟩;have HB5:Hid (Bw w w5):=(qU5 HB.out nq).trans (hb5.mono (qU5 HB.out nq).size);clear q2 hb5
  go_wp2_with fail;refine xG6 (xF rfl _ _ _) rfl ?_;exact⟨rfl,HB5.out⟩
 ·have e2:d2.take 1=A:=by rw[hA,if_neg (by have:=hd2.out;have:=hN.out;omega),List.append_nil]
  have e6:A=d2:=by rw[←e2,List.take_of_length_le (by have:=hd2.out;have:=hN.out;omega)]
  rw[e6] at hc3 e3;rw[hsz] at hc3;clear hA hAl et ed e1 hc1 hc2 e2 e6;have q2:=kT.out w7
  go_wp2_with fail;refine q2.mono ?_;rintro r w5 ⟨rfl,hb5⟩;have HB5:Hid (Bw w w5):=HB.out.trans (hb5.mono HB.out.size);clear q2 hb5
  go_wp2_with fail;refine xG6 (xF rfl _ _ _) rfl ?_;exact⟨rfl,HB5.out⟩
theorem zY3 (f N:Nat) (m x:Int) (ng:Bool) (sgl t d d2:List UInt8) (tA tN:Bool×Nat×Int) (w:World) (h0:¬ (N:Int)<1) (h1:¬ 1100<(N:Int)) (hd2:Hid (d2.length=N)) (hx : -10000≤x∧x≤10000) (hd:Hid (d.length=N)) (h2:Hid (d2=d))
  (hf:(FloatKind.f64.format.order f 0 != some Ordering.eq)=true)
  (kM:∀ W,Calls Tryz.prog 29 #[.int .i64 m] W fun r w'=>r=.returned (.bool true)∧w'=W)
  (kW:∀ W,Calls Tryz.prog 38 #[.float .f64 f] W fun r w'=>r=.returned (.tuple #[.string ⟨sgl.toArray⟩,.bool false])∧w'=W)
  (kA:Hid (∀ W,Calls Tryz.prog 46 #[.float .f64 f] W fun r w'=>OutQ W tA r w'))
  (kPl:Hid (∀ W X,DN W X tA→Calls Tryz.prog 68 #[X] W fun r w'=>r=.returned (.int .i64 x)∧Bw W w'))
  (kS:∀ W,Calls Tryz.prog 63 #[.float .f64 f] W fun r w'=>r=.returned (.bool ng)∧w'=W)
  (kR:Hid (∀ W X,DN W X tA→Calls Tryz.prog 62 #[X,.int .i64 ((N:Int) - 1 - x),.bool ng,.int .i64 m] W fun r w'=>OutQ W tN r w'))
  (kD:Hid (∀ W X,DN W X tN→Calls Tryz.prog 47 #[X] W fun r w'=>r=.returned (.string ⟨d.toArray⟩)∧Bw W w'))
  (kT:Hid (∀ W,Calls Tryz.prog 40 #[.int .i64 (x)] W fun r w'=>r=.returned (.string ⟨t.toArray⟩)∧Bw W w')) (hsg:sgl.length≤1) (hT:t.length≤100) :
  Calls Tryz.prog 21 #[.float .f64 f,.int .i64 (N:Int),.int .i64 m] w fun r w'=>r=.returned (.tuple #[.string ⟨(sgl++exL d2 t).toArray⟩,.int .i64 0])∧Bw w w':=by
 have q1:=d4nz (N:Int) w (by omega)
 have hN:Hid ((N:Int)=(N:Int)):=rfl;have u1:IntKind.i64.wrap ((N:Int) - 1)=(N:Int) - 1:=by rw[xG3];omega
 have u2:IntKind.i64.wrap ((N:Int) - 1 - x)=(N:Int) - 1 - x:=by rw[xG3];omega
 have u3:IntKind.i64.wrap (x+1)=x+1:=by rw[xG3];omega
 have hszd:(⟨d.toArray⟩:ByteArray).size=d.length:=rfl;have hlt:=(by have:=hd.out;omega:¬ (N:Int)<(d.length:Int))
 obtain rfl:d2=d:=h2.out;have hsz:(⟨d2.toArray⟩:ByteArray).size=d2.length:=rfl;have hdl1:(1:Int)≤(d2.length:Int):=by have:=hd2.out;have:=hN.out;omega
 have HL:Hid (d2.length≤1100∧sgl.length≤1∧t.length≤100∧1≤d2.length):=by have:=hd2.out;have:=hN.out;exact⟨by omega,hsg,hT,by omega⟩
 have et:=qY1 d2 1;have ed:=qK0 d2 1;rw[List.drop_one] at ed;obtain⟨A,hA⟩:∃ A:List UInt8,A=d2.take 1++(if 1<d2.length then 46 :: d2.drop 1 else []):=⟨_,rfl⟩;have hAl:A.length≤1101:=by
  have:=HL.out
  rw[hA,xH7,List.length_take];split
  ·rw[List.length_cons,List.length_drop];omega
  ·simp;omega
 have hc1:(⟨(d2.take 1).toArray⟩:ByteArray).size+(⟨#[46]⟩:ByteArray).size≤9223372036854775807:=by
  rw[bsz,show(⟨#[46]⟩:ByteArray).size=1 from rfl,List.length_take];omega
 have e1:(⟨(d2.take 1).toArray⟩:ByteArray)++⟨#[46]⟩=⟨(d2.take 1 ++ [46]).toArray⟩:=qQ8 _ [46];have hc2:(⟨(d2.take 1 ++ [46]).toArray⟩:ByteArray).size+(⟨d2.tail.toArray⟩:ByteArray).size≤9223372036854775807:=by
  rw[bsz,bsz,xH7,List.length_take,List.length_tail];have:=HL.out;simp;omega
 obtain⟨B,hB⟩:∃ B:List UInt8,B=sgl++A:=⟨_,rfl⟩;obtain⟨C,hC⟩:∃ C:List UInt8,C=B ++ [101]:=⟨_,rfl⟩;have hBl:B.length≤1102:=by have:=HL.out;rw[hB,xH7];omega
 have hCl:C.length≤1103:=by rw[hC,xH7];simp;omega
 have hc3:(⟨sgl.toArray⟩:ByteArray).size+(⟨A.toArray⟩:ByteArray).size≤9223372036854775807:=by rw[bsz,bsz];have:=HL.out;omega
 have e3:(⟨sgl.toArray⟩:ByteArray)++⟨A.toArray⟩=⟨B.toArray⟩:=by rw[hB];exact qQ8 _ _
 have hc4:(⟨B.toArray⟩:ByteArray).size+(⟨#[101]⟩:ByteArray).size≤9223372036854775807:=by
  rw[bsz,show(⟨#[101]⟩:ByteArray).size=1 from rfl];omega
 have e4:(⟨B.toArray⟩:ByteArray)++⟨#[101]⟩=⟨C.toArray⟩:=by rw[hC];exact qQ8 _ [101]
 have hc5:(⟨C.toArray⟩:ByteArray).size+(⟨t.toArray⟩:ByteArray).size≤9223372036854775807:=by
  rw[bsz,bsz];have:=HL.out;omega
 obtain⟨R,hR⟩:∃ R:List UInt8,R=sgl++exL d2 t:=⟨_,rfl⟩;have e5:(⟨C.toArray⟩:ByteArray)++⟨t.toArray⟩=⟨R.toArray⟩:=by
  rw[qQ8,hC,hB,hR];unfold exL;rw[←hA];simp
 rw[←hR];clear hB hC hBl hCl hR;obtain⟨ZN,hZN⟩:∃ ZN:ByteArray,ZN=⟨(nzL (N:Int)).toArray⟩:=⟨_,rfl⟩;rw[←hZN] at q1;clear hZN
 go_enter Tryz.func21,Tryz.ntmps21
 go_wp2_with (first|(go_at_call 29;refine(kM _).mono ?_;rintro r w' ⟨rfl,hw⟩;replace hw:=hw.symm;subst hw)|(go_at_call 38;refine(kW _).mono ?_;rintro r w' ⟨rfl,hw⟩;replace hw:=hw.symm;subst hw))
 refine q1.mono ?_;rintro r w1 ⟨rfl,hb1⟩;have HB1:Hid (Bw w w1):=hb1;have q2:=kA.out w1;clear q1 hb1 hsg hT
 go_wp2_with fail;refine q2.mono ?_;rintro r w2 ⟨s1,ao1,n1,cp1,e9,rfl,hd9,hb2⟩;have HB2:Hid (Bw w w2):=HB1.out.trans (hb2.mono HB1.out.size);have q1:=kPl.out w2 _ hd9;clear q2 hd9 hb2 HB1
 go_wp2_with fail;refine q1.mono ?_;rintro r w3 ⟨rfl,hb3⟩;have HB3:Hid (Bw w w3):=HB2.out.trans (hb3.mono HB2.out.size);have q2:=kA.out w3;clear q1 hb3 HB2
 go_wp2_with fail;refine q2.mono ?_;rintro r w4 ⟨s2,ao2,n2,cp2,e8,rfl,hd9,hb2⟩;have HB2:Hid (Bw w w4):=HB3.out.trans (hb2.mono HB3.out.size);have q1:=kR.out w4 _ hd9;clear q2 hd9 hb2 HB3
 go_wp2_with (go_at_call 63;refine(kS _).mono ?_;rintro r w' ⟨rfl,hw⟩;replace hw:=hw.symm;subst hw)
 refine q1.mono ?_;rintro r w6 ⟨s3,ao3,n3,cp3,e7,rfl,hd9,hb3⟩;have HB3:Hid (Bw w w6):=HB2.out.trans (hb3.mono HB2.out.size);have q2:=kD.out w6 _ hd9;clear q1 hd9 hb3 HB2
 go_wp2_with fail;refine q2.mono ?_;rintro r w7 ⟨rfl,hb2⟩;have HB:Hid (Bw w w7):=HB3.out.trans (hb2.mono HB3.out.size);clear q2 hb2 HB3 kM kW kS
 go_upto_region 13 with fail;by_cases h1n:(1:Int)<(N:Int)
 ·have e2:(⟨(d2.take 1 ++ [46]).toArray⟩:ByteArray)++⟨d2.tail.toArray⟩=⟨A.toArray⟩:=by rw[qQ8,hA,if_pos (by have:=hd2.out;have:=hN.out;omega),List.drop_one,List.append_assoc];rfl
  clear hA hAl
  go_upto_region 14 with fail
  go_quiet (fail)
  have q2:=fun U=>kT.out U
  go_wp2_with fail;refine(q2 _).mono ?_
  rintro r w5 ⟨rfl,hb5⟩;have HB5:Hid (Bw w w5):=(qU5 HB.out nq).trans (hb5.mono (qU5 HB.out nq).size);clear q2 hb5
  go_wp2_with fail;refine xG6 (xF rfl _ _ _) rfl ?_;exact⟨rfl,HB5.out⟩
 ·have e2:d2.take 1=A:=by rw[hA,if_neg (by have:=hd2.out;have:=hN.out;omega),List.append_nil]
  have e6:A=d2:=by rw[←e2,List.take_of_length_le (by have:=hd2.out;have:=hN.out;omega)]
  rw[e6] at hc3 e3;rw[hsz] at hc3;clear hA hAl et ed e1 hc1 hc2 e2 e6;have q2:=kT.out w7
  go_wp2_with fail;refine q2.mono ?_;rintro r w5 ⟨rfl,hb5⟩;have HB5:Hid (Bw w w5):=HB.out.trans (hb5.mono HB.out.size);clear q2 hb5
  go_wp2_with fail;refine xG6 (xF rfl _ _ _) rfl ?_;exact⟨rfl,HB5.out⟩
theorem zO {Z:Int} {p b:Nat} (h:Z.natAbs<2^b) (hb:b≤60000) (hp:p≤60000) {W:World} {X:Value} (hX:PN W X (un Z p)):Calls Tryz.prog 67 #[X] W fun r w'=>OutA W (un ((Z.natAbs:Nat):Int) p) r w':=by
 obtain⟨ao,cap,rfl,hI⟩:=hX;have ok:=qV6 (p:=p) h hb hp;have f:=ok.facts;refine(yH hI (by omega) ok).mono ?_
 rintro r w' ⟨v,rfl,hO,hB⟩;obtain⟨ao',cap',rfl,o1,o2,o3⟩:=hO.is;rw[yJ7];exact⟨_,_,_,_,_,rfl,⟨ao',cap',rfl,⟨ao',cap',rfl,o1,o2,o3⟩⟩,hB⟩
theorem xZ5 (N:Nat):N<10^(dcR N).length:=by
 induction N using Nat.strongRecOn with
 | _ N ih =>
  by_cases h0:N=0
  ·subst h0;decide
  ·have h:=ih (N / 10) (by omega)
   rw[qR2 h0,xH7,List.length_singleton,xH2];omega
theorem xZ7 {N k:Nat} (h:10^k≤N):k<(dcR N).length:=by
 rcases Nat.lt_or_ge k (dcR N).length with h1|h1
 ·exact h1
 ·have h2:=xZ5 N;have h3:10^(dcR N).length≤10^k:=xU3 (by decide) h1
  omega
theorem xZ6 {N b:Nat} (h:N<10^b):(dcR N).length≤b:=by
 have:=zZ5 h
 unfold rvD at this;rw[List.length_reverse] at this;exact this
theorem qA6 {A:Nat} {n:Nat} {neg:Bool} {m:Int} (hA:A<2^bU) (h0:A≠0) (hn:1≤n):n≤(dcR (rdN A ((n:Int) - 1 - woX A) neg m)).length∧(dcR (rdN A ((n:Int) - 1 - woX A) neg m)).length≤n+1:=by
 obtain⟨p1,p2,-,-⟩:=qS7 hA h0;have h1:=qM4 A (-woX A);rw[show -woX A+1=1 - woX A by omega] at h1
 have h2:=qR A ((n:Int) - 1 - woX A) (n - 1);rw[show(n:Int) - 1 - woX A - ((n - 1:Nat):Int) = -woX A by omega] at h2
 have h3:scF A ((n:Int) - 1 - woX A)≤rdN A ((n:Int) - 1 - woX A) neg m∧rdN A ((n:Int) - 1 - woX A) neg m≤scF A ((n:Int) - 1 - woX A)+1:=by
  unfold rdN;split
  ·omega
  ·split <;> omega
 generalize scF A ((n:Int) - 1 - woX A)=u at *;generalize rdN A ((n:Int) - 1 - woX A) neg m=v at *;generalize scF A (1 - woX A)=s1 at *;generalize scF A (-woX A)=s0 at *;have hP:0<10^(n - 1):=Nat.pow_pos (by decide)
 have e10:10^n=10^(n - 1)*10:=by rw[←xH2];congr 1;omega
 have g1:10^(n - 1)≤u:=by
  rcases Nat.lt_or_ge u (10^(n - 1))with h|h
  ·rw[Nat.div_eq_of_lt h] at h2;omega
  ·exact h
 have g2:u<10^n:=by
  rw[e10,xH1];rw[←xF2 hP];omega
 constructor
 ·have:=xZ7 (xU7 g1 h3.1)
  omega
 ·refine xZ6 ?_;rw[xH2];omega
def dgX (a:Nat) (n m:Int):List UInt8:=dcR (uN a (n - 1 - woX (fU a)) m)
def dgT (a:Nat) (n m:Int):List UInt8:=if 9218868437227405312<mag a then [110,97,110] else if mag a=9218868437227405312 then sgL (neg a) [105,110,102] else
 if mag a=0 then sgL (neg a) (exL (nzL n) (Lib.itoa 0))else sgL (neg a) (exL ((dgX a n m).take n.toNat) (Lib.itoa (if n.toNat<(dgX a n m).length then woX (fU a)+1 else woX (fU a))))
def dgA (a:Nat) (n m:Int):List UInt8×Int:=if 1≤m∧m≤3∧1≤n∧n≤1100 then(dgT a n m,0) else([],1)
theorem xZ1 {a:Nat} {n m:Int} (h:¬ (1≤m∧m≤3∧1≤n∧n≤1100)):decide (1≤m∧m≤3)=false∨n<1∨1100<n:=by
 by_cases h1:1≤m∧m≤3
 ·exact .inr (by omega)
 ·exact .inl (xU0 h1)
theorem dg_z {a:Nat} (ha:a<18446744073709551616) (h:mag a=0):a=0∨a=9223372036854775808:=by
 unfold mag at h;omega
theorem xZ2 {a:Nat} (h:mag a≠0):fU a≠0:=by
 have h2:=Ie.mant_ne (a:=a) h;unfold fU;exact Nat.ne_of_gt (Nat.mul_pos (by omega) (xU2 _))
theorem xZ0 {a:Nat} (ha:a<18446744073709551616) (hf:mag a≤9218868437227405312):(FloatKind.f64.format.order a 0==some Ordering.eq)=decide (mag a=0):=by
 have o:=qA9 a 0 ha (by decide)
 have h1:qK2 a=false:=by unfold qK2;exact xU0 (by omega)
 have hs:stp a=if neg a then -(mag a:Int) else(mag a:Int):=by unfold stp sgn;rfl
 unfold eq at o;rw[h1,show stp 0=0 by decide] at o
 rw[o];by_cases h:mag a=0
 ·rw[xU1 h,xU1 (by rw[hs];split <;> omega)]
  rfl
 ·rw[xU0 h,xU0 (by rw[hs];split <;> omega)]
  simp
theorem qT3 {x:Int} (h : -5000≤x∧x≤5000):(Lib.itoa x).length≤100:=by
 have:=Lib.itoa_length_le x (by omega) (by omega)
 omega
theorem zT7 (d t:List UInt8):(exL d t).length≤d.length+t.length+3:=by
 unfold exL;rw[xH7,xH7,List.length_take,List.length_cons];split
 ·rw[List.length_cons,List.length_drop];omega
 ·simp;omega
theorem yJ2 {a:Nat} (n m:Int) {w:World} (hT:Tab32 w) (hI:Ie.Tab w) (h10:Tab10 w) (ha:a<18446744073709551616) :
  Calls Tryz.prog 20 #[.float .f64 a,.int .i64 n,.int .i64 m] w fun r w'=>r=.returned (.tuple #[.string ⟨(dgA a n m).1.toArray⟩,.int .i64 (dgA a n m).2])∧Bw w w':=by
 unfold dgA;by_cases h:1≤m∧m≤3∧1≤n∧n≤1100
 ·rw[if_pos h];have k0:=qS3 m;rw[xU1 (show 1≤m∧m≤3 by omega)] at k0
  unfold dgT;rcases(by omega:9218868437227405312<mag a∨mag a=9218868437227405312∨mag a<9218868437227405312)with hf|hf|hf
  ·rw[if_pos hf];refine qP8 a n m _ w (by omega) (by omega) k0 ?_
   intro W g1 g2 g3 hW b1 b2 b3;have kC:=fun V=>Ie.c9 a ha V;rw[zW5 hf] at kC;refine(zQ3 a _ _ W kC).mono ?_
   rintro r w' ⟨rfl,rfl⟩;exact⟨rfl,xV9 _ _⟩
  ·rw[if_neg (by omega),if_pos hf]
   obtain⟨c1,c2⟩:=zW6 hf;refine qP8 a n m _ w (by omega) (by omega) k0 ?_
   intro W g1 g2 g3 hW b1 b2 b3;have kC:=fun V=>Ie.c9 a ha V;rw[c1,c2] at kC;refine(zQ4 a _ _ W kC).mono ?_
   rintro r w' ⟨rfl,rfl⟩;exact⟨rfl,xV9 _ _⟩
  ·rw[if_neg (by omega),if_neg (by omega)]
   obtain⟨c1,c2,c3⟩:=qS hf;obtain⟨N,hN⟩:∃ N:Nat,n=(N:Int):=⟨n.toNat,by omega⟩
   have hnN:n.toNat=N:=by omega
   by_cases hz:mag a=0
   ·rw[if_pos hz];have hl:=qS6 n;have hl2:=zT7 (nzL n) (Lib.itoa 0);have hl3:=qT3 (x:=0) (by omega)
    refine qP8 a n m _ w (by omega) (by omega) k0 ?_
    intro W g1 g2 g3 hW b1 b2 b3;have kC:=fun V=>Ie.c9 a ha V;rw[c3] at kC;refine qG6 a _ _ (neg a) _ _ W c1 c2 (by omega) kC (qZ4 Tryz.func64 (by kernel_rfl) (by kernel_rfl)) ?_
    refine zN2 a n m _ g1 g2 g3 W b1 b2 ⟨by omega,by omega⟩ (dg_z ha hz) (knz W) ?_
    intro V hV;exact qA0 _ _ 0 V (by omega) (by omega) hl3 (fun U hU=>yK4 (by omega) (((h10.later hW).later hV).later hU))
   ·rw[if_neg hz];have hA0:=xZ2 hz;obtain⟨p1,p2,p3,p4⟩:=qS7 (qT4 a) hA0;obtain⟨x,hx⟩:∃ x,x=woX (fU a):=⟨_,rfl⟩;have hrd:=qA6 (neg:=neg a) (m:=m) (n:=N) (qT4 a) hA0 (by omega)
    rw[←hN] at hrd;unfold dgX;rw[←yF0 (by omega)] at hrd
    rw[←hx] at hrd p3 p4 ⊢;have hlt:(List.take n.toNat (dcR (uN a (n - 1 - x) m))).length=N:=by rw[List.length_take,hnN];omega
    have hxx : -5000≤(if n.toNat<(dcR (uN a (n - 1 - x) m)).length then x+1 else x)∧(if n.toNat<(dcR (uN a (n - 1 - x) m)).length then x+1 else x)≤5000:=by split <;> omega
    have hl3:=qT3 hxx;have hl2:=zT7 (List.take n.toNat (dcR (uN a (n - 1 - x) m))) (Lib.itoa (if n.toNat<(dcR (uN a (n - 1 - x) m)).length then x+1 else x));refine qP8 a n m _ w (by omega) (by omega) k0 ?_
    intro W g1 g2 g3 hW b1 b2 b3;have kC:=fun V=>Ie.c9 a ha V;rw[c3] at kC;refine qG6 a _ _ (neg a) _ _ W c1 c2 (by omega) kC (qZ4 Tryz.func64 (by kernel_rfl) (by kernel_rfl)) ?_
    have ho:=xZ0 ha (by omega)
    rw[xU0 hz] at ho;refine zN1 a n m x N (un (sZ a) kP) (un ((fU a:Nat):Int) kP) (un ((uN a (n - 1 - x) m:Nat):Int) 0) (dcR (uN a (n - 1 - x) m)) _ g1 g2 g3 W b1 b2 b3 ⟨by omega,by omega⟩ hN (by omega) ho ?_ ?_ ?_ ?_ ?_ ?_
    ·intro V hV;exact qL ((hT.later hW).later hV) (Tab.later (Tab.later hI hW) hV) ha hf
    ·intro V X hV hX;have h:=zO (qH9 a) (by rw[qG5];omega) (by rw[qD9];omega) hX
     rw[yV6] at h;exact h
    ·intro V X hV hX;rw[hx];exact yH0 ((hT.later hW).later hV) (qT4 a) hA0 hX
    ·intro V hV;exact zE3 ((hT.later hW).later hV) (Tab.later (Tab.later hI hW) hV) ha hf (by omega) (by omega) (by omega)
    ·intro V X hV hX;have h:=qB7 ((hT.later hW).later hV) (zG5 (by omega) (by omega)) dk6 hX
     rw[zL9] at h;exact h
    ·intro V hV;rw[hnN] at hlt hl3 hl2 hxx ⊢;exact qA0 _ _ _ V (by omega) (by omega) hl3 (fun U hU=>yK4 (by omega) (((h10.later hW).later hV).later hU))
 ·rw[if_neg h];exact zN0 a n m _ w (qS3 m) (xZ1 (a:=a) h)
theorem sg_if (s:Bool):(if s then(⟨#[45]⟩:ByteArray) else⟨#[]⟩)=⟨(sgL s []).toArray⟩∧(sgL s []).length≤1:=by cases s <;> exact⟨rfl,by decide⟩
theorem zP7 (s:Bool) (t:List UInt8):sgL s []++t=sgL s t:=by cases s <;> rfl
theorem zW2 {a:Nat} (n m:Int) (w:World) (ha:a<18446744073709551616) :
  Calls Tryz.prog 21 #[.float .f64 a,.int .i64 n,.int .i64 m] w fun r w'=>r=.returned (.tuple #[.string ⟨(dgA a n m).1.toArray⟩,.int .i64 (dgA a n m).2])∧Bw w w':=by
 unfold dgA;by_cases h:1≤m∧m≤3∧1≤n∧n≤1100
 ·rw[if_pos h];have k0:=zU9 m;rw[xU1 (show 1≤m∧m≤3 by omega)] at k0
  unfold dgT;rcases(by omega:9218868437227405312<mag a∨mag a=9218868437227405312∨mag a<9218868437227405312)with hf|hf|hf
  ·rw[if_pos hf];exact qW4 a n m _ w (by omega) (by omega) k0 (fun W=>qW2 a (neg a) W (fun W=>Ie.c33 a ha W) (zN6 ha hf))
  ·rw[if_neg (by omega),if_pos hf]
   obtain⟨o1,o2⟩:=zN7 ha hf;exact qW4 a n m _ w (by omega) (by omega) k0 (fun W=>qW3 a (neg a) W (fun W=>Ie.c33 a ha W) o1 o2)
  ·rw[if_neg (by omega),if_neg (by omega)]
   obtain⟨N,hN⟩:∃ N:Nat,n=(N:Int):=⟨n.toNat,by omega⟩
   have hnN:n.toNat=N:=by omega
   have kw:=fun W=>yG3 ha hf W;obtain⟨s1,s2⟩:=sg_if (neg a);rw[s1] at kw;have ho:=xZ0 ha (xF4 hf);have hl3:∀ x:Int,-5000≤x∧x≤5000→(Lib.itoa x).length≤100:=fun x hx=>qT3 hx;by_cases hz:mag a=0
   ·rw[if_pos hz];rw[xU1 hz] at ho;have h:=zF2 a N n m (sgL (neg a) []) (Lib.itoa 0) (nzL n) w (by omega) (by omega) hN (show(nzL n).length=N by rw[qS6];exact hnN) rfl (by show(!(FloatKind.f64.format.order a 0==some Ordering.eq))=false;rw[ho];rfl) k0 kw (fun W=>qR8 0 W (by omega)) s2 (hl3 0 (by omega))
    rw[zP7] at h;exact h
   ·rw[if_neg hz];rw[xU0 hz] at ho;have ho':(FloatKind.f64.format.order a 0 != some Ordering.eq)=true:=by show(!(FloatKind.f64.format.order a 0==some Ordering.eq))=true;rw[ho];rfl
    have hA0:=xZ2 hz;obtain⟨p1,p2,p3,p4⟩:=qS7 (qT4 a) hA0;obtain⟨x,hx⟩:∃ x,x=woX (fU a):=⟨_,rfl⟩;have hrd:=qA6 (neg:=neg a) (m:=m) (n:=N) (qT4 a) hA0 (by omega)
    have hlt2:=zG5 (a:=a) (m:=m) (pl:=n - 1 - woX (fU a)) (by omega) (by omega)
    have e:=yF0 (a:=a) (k:=n - 1 - woX (fU a)) (m:=m) (by omega)
    rw[e] at hlt2;unfold dgX;rw[e];rw[←hN] at hrd;rw[←hx] at hrd hlt2 p3 p4 ⊢;obtain⟨v,hv⟩:∃ v,v=rdN (fU a) (n - 1 - x) (neg a) m:=⟨_,rfl⟩;have hv0:v≠0:=fun h9=>by rw[←hv,h9,yS9] at hrd;simp at hrd;omega
    have hdc:dcD v=dcR v:=by unfold dcD;rw[if_neg hv0]
    have kR:=fun(W:World) (X:Value) (hX:DN W X (un ((fU a:Nat):Int) 1074))=>qO4 (k:=n - 1 - x) (m:=m) (neg:=neg a) (qT4 a) (by omega) (by omega) hX
    have kD:=fun(W:World) (X:Value) (hX:DN W X (un ((v:Nat):Int) 0))=>zU7 hX (by rw[hv];exact hlt2) dk6
    rw[hdc] at kD;rw[←hv] at hrd kR ⊢;have kP:=fun(W:World) (X:Value) (hX:DN W X (un ((fU a:Nat):Int) 1074))=>yR5 (qT4 a) hA0 hX;rw[←hx] at kP;subst hN;rw[xH6];clear e hlt2 hx hv;by_cases hc:N<(dcR v).length
    ·rw[if_pos hc];have h:=zY4 a N m x (neg a) (sgL (neg a) []) (Lib.itoa (x+1)) (dcR v) ((dcR v).take N) _ _ w (by omega) (by omega) (show((dcR v).take N).length=N by rw[List.length_take];omega) (by omega) (show N<(dcR v).length∧(dcR v).length≤1101 by omega) rfl ho' k0 kw (fun W=>yR4 ha W) kP (fun W=>Ie.c33 a ha W) kR kD (fun W=>qR8 _ W (by omega)) s2 (hl3 _ (by omega))
     rw[zP7] at h;exact h
    ·rw[if_neg hc];have e2:(dcR v).take N=dcR v:=List.take_of_length_le (by omega)
     rw[e2];have h:=zY3 a N m x (neg a) (sgL (neg a) []) (Lib.itoa x) (dcR v) (dcR v) _ _ w (by omega) (by omega) (show(dcR v).length=N by omega) (by omega) (show(dcR v).length=N by omega) rfl ho' k0 kw (fun W=>yR4 ha W) kP (fun W=>Ie.c33 a ha W) kR kD (fun W=>qR8 _ W (by omega)) s2 (hl3 _ (by omega))
     rw[zP7] at h;exact h
 ·rw[if_neg h];exact zY2 a n m _ w (zU9 m) (xZ1 (a:=a) h)
theorem qO3 (f:Nat) (n m E1 E2:Int) (S1 S2:ByteArray) (w:World)
  (k1:∀ W,Bw w W→Calls Tryz.prog 18 #[.float .f64 f,.int .i64 n,.int .i64 m] W fun r w'=>r=.returned (.tuple #[.string S1,.int .i64 E1])∧Bw W w')
  (k2:∀ W,Bw w W→Calls Tryz.prog 19 #[.float .f64 f,.int .i64 n,.int .i64 m] W fun r w'=>r=.returned (.tuple #[.string S1,.int .i64 E1])∧Bw W w')
  (k3:∀ W,Bw w W→Calls Tryz.prog 20 #[.float .f64 f,.int .i64 n,.int .i64 m] W fun r w'=>r=.returned (.tuple #[.string S2,.int .i64 E2])∧Bw W w')
  (k4:∀ W,Bw w W→Calls Tryz.prog 21 #[.float .f64 f,.int .i64 n,.int .i64 m] W fun r w'=>r=.returned (.tuple #[.string S2,.int .i64 E2])∧Bw W w')
  (k5:∀ W,Bw w W→Calls Tryz.prog 11 #[] W fun r w'=>r=.returned (.bool true)∧Bw W w') :
  Calls Tryz.prog 5 #[.float .f64 f,.int .i64 n,.int .i64 m] w fun r w'=>r=.returned (.bool true)∧Bw w w':=by
 have j1:=k1 w (xV9 _ _);have K2:Hid _:=k2;have K3:Hid _:=k3;have K4:Hid _:=k4;have K5:Hid _:=k5;clear k1 k2 k3 k4 k5
 go_enter Tryz.func5,Tryz.ntmps5
 go_wp2_with fail;refine j1.mono ?_;rintro r w1 ⟨rfl,hb1⟩;have HB1:Hid (Bw w w1):=hb1;have j2:=K2.out w1 hb1;clear j1 hb1 K2
 go_wp2_with fail;refine j2.mono ?_;rintro r w2 ⟨rfl,hb2⟩;have HB2:Hid (Bw w w2):=HB1.out.trans (hb2.mono HB1.out.size);have j1:=K3.out w2 HB2.out;clear j2 hb2 K3 HB1
 go_wp2_with fail;refine j1.mono ?_;rintro r w3 ⟨rfl,hb1⟩;have HB1:Hid (Bw w w3):=HB2.out.trans (hb1.mono HB2.out.size);have j2:=K4.out w3 HB1.out;clear j1 hb1 K4 HB2
 go_wp2_with fail;refine j2.mono ?_;rintro r w4 ⟨rfl,hb2⟩;have HB2:Hid (Bw w w4):=HB1.out.trans (hb2.mono HB1.out.size);have j1:=K5.out w4 HB2.out;clear j2 hb2 K5 HB1
 go_wp2_with fail;refine j1.mono ?_;rintro r w5 ⟨rfl,hb1⟩;have HB1:Hid (Bw w w5):=HB2.out.trans (hb1.mono HB2.out.size);clear j1 hb1 HB2
 go_wp2_with fail
 go_ret;exact⟨rfl,HB1.out⟩
theorem decimFixed_ok (a:Nat) (n m:Int) (w:World) (ha:a<18446744073709551616) (hT:Tab32 w) (hI:Ie.Tab w) (h10:Tab10 w) :
  Calls Tryz.prog 5 #[.float .f64 a,.int .i64 n,.int .i64 m] w fun r w'=>r=.returned (.bool true)∧Bw w w' :=
 qO3 a n m _ _ _ _ w (fun W hW=>yL0 n m (hT.later hW) (Tab.later hI hW) ha) (fun W hW=>yZ7 n m W ha) (fun W hW=>yJ2 n m (hT.later hW) (Tab.later hI hW) (h10.later hW) ha) (fun W hW=>zW2 n m W ha) (fun W hW=>xJ9 (hT.later hW) (Tab.later hI hW) (h10.later hW))
end Go.Proofs.YtkcmhaknalomjaaGreatDoor
