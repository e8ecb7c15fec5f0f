/- Own work: contracts of the program's functions, part 23: DUP DUQ DUR DUS DUT. -/
import Derived.Test.YtfkaogdmlcdceaaGreatDoorA22
import Derived.Test.YtfkaogdmlcdceaaGreatDoorA19

set_option maxHeartbeats 16000000
set_option maxRecDepth 200000
set_option linter.unusedVariables false
set_option linter.unusedSimpArgs false
namespace Go.Proofs.YtfkaogdmlcdceaaGreatDoor
open Go Go.RowKit Go.Fl64
theorem d4Sh_w (f:Nat) (t:ByteArray) (w:World)
  (kW:∀ W,Calls Tryz.prog 27 #[.float .f64 f] W fun r w'=>r=.returned (.tuple #[.string t,.bool true])∧w'=W) :
  Calls Tryz.prog 8 #[.float .f64 f] w fun r w'=>r=.returned (.string t)∧w'=w:=by
 go_enter Tryz.func8,Tryz.ntmps8
 go_wp2_with (go_at_call 27;refine(kW _).mono ?_;rintro r w' ⟨rfl,hw⟩;replace hw:=hw.symm;subst hw)
 go_ret
 exact⟨rfl,rfl⟩
theorem d4Sh_0 (f:Nat) (sgl:List UInt8) (w:World) (hf:(FloatKind.f64.format.order f 0==some Ordering.eq)=true) (hsg:sgl.length≤1)
  (kW:∀ W,Calls Tryz.prog 27 #[.float .f64 f] W fun r w'=>r=.returned (.tuple #[.string ⟨sgl.toArray⟩,.bool false])∧w'=W) :
  Calls Tryz.prog 8 #[.float .f64 f] w fun r w'=>r=.returned (.string ⟨(sgl ++ [48]).toArray⟩)∧w'=w:=by
 have hc1:(⟨sgl.toArray⟩:ByteArray).size+(⟨#[48]⟩:ByteArray).size≤9223372036854775807:=by
  rw[bsz,show(⟨#[48]⟩:ByteArray).size=1 from rfl];omega
 have e1:(⟨sgl.toArray⟩:ByteArray)++⟨#[48]⟩=⟨(sgl ++ [48]).toArray⟩:=bytes_cat _ [48]
 go_enter Tryz.func8,Tryz.ntmps8
 go_wp2_with (go_at_call 27;refine(kW _).mono ?_;rintro r w' ⟨rfl,hw⟩;replace hw:=hw.symm;subst hw)
 go_ret
 exact⟨rfl,rfl⟩
theorem d4Sh_e (f fa:Nat) (x:Int) (sgl d t:List UInt8) (w:World) (hx : -10000≤x∧x≤10000) (hf:(FloatKind.f64.format.order f 0==some Ordering.eq)=false) (hsg:sgl.length≤1) (hd:Hid (1≤d.length∧d.length≤1000)) (hT:t.length≤100)
  (kW:∀ W,Calls Tryz.prog 27 #[.float .f64 f] W fun r w'=>r=.returned (.tuple #[.string ⟨sgl.toArray⟩,.bool false])∧w'=W)
  (kA:∀ W,Calls Tryz.prog 17 #[.float .f64 f] W fun r w'=>r=.returned (.float .f64 fa)∧w'=W)
  (kS:Hid (∀ W,Calls Tryz.prog 28 #[.float .f64 fa] W fun r w'=>r=.returned (.tuple #[.string ⟨d.toArray⟩,.int .i64 x])∧Bw W w'))
  (hx2:x < -5∨20<x)
  (kT:Hid (∀ W,Calls Tryz.prog 29 #[.int .i64 x] W fun r w'=>r=.returned (.string ⟨t.toArray⟩)∧Bw W w')) :
  Calls Tryz.prog 8 #[.float .f64 f] w fun r w'=>r=.returned (.string ⟨(sgl++exL d t).toArray⟩)∧Bw w w':=by
 have hszd:(⟨d.toArray⟩:ByteArray).size=d.length:=rfl
 have HL:Hid (d.length≤1000∧sgl.length≤1∧t.length≤100∧1≤d.length):=⟨hd.out.2,hsg,hT,hd.out.1⟩
 have hdl1:(1:Int)≤(d.length:Int):=by have:=hd.out;omega
 have et:=ext_take d 1
 have ed:=ext_drop d 1
 rw[List.drop_one] at ed
 obtain⟨A,hA⟩:∃ A:List UInt8,A=d.take 1++(if 1<d.length then 46 :: d.drop 1 else []):=⟨_,rfl⟩
 have hAl:A.length≤1001:=by
  have:=HL.out
  rw[hA,List.length_append,List.length_take]
  split
  ·rw[List.length_cons,List.length_drop];omega
  ·simp;omega
 have hc1:(⟨(d.take 1).toArray⟩:ByteArray).size+(⟨#[46]⟩:ByteArray).size≤9223372036854775807:=by
  rw[bsz,show(⟨#[46]⟩:ByteArray).size=1 from rfl,List.length_take];omega
 have e1:(⟨(d.take 1).toArray⟩:ByteArray)++⟨#[46]⟩=⟨(d.take 1 ++ [46]).toArray⟩:=bytes_cat _ [46]
 have hc2:(⟨(d.take 1 ++ [46]).toArray⟩:ByteArray).size+(⟨d.tail.toArray⟩:ByteArray).size≤9223372036854775807:=by
  rw[bsz,bsz,List.length_append,List.length_take,List.length_tail];have:=HL.out;simp;omega
 obtain⟨B,hB⟩:∃ B:List UInt8,B=sgl++A:=⟨_,rfl⟩
 obtain⟨C,hC⟩:∃ C:List UInt8,C=B ++ [101]:=⟨_,rfl⟩
 have hBl:B.length≤1102:=by have:=HL.out;rw[hB,List.length_append];omega
 have hCl:C.length≤1103:=by rw[hC,List.length_append];simp;omega
 have hc3:(⟨sgl.toArray⟩:ByteArray).size+(⟨A.toArray⟩:ByteArray).size≤9223372036854775807:=by rw[bsz,bsz];have:=HL.out;omega
 have e3:(⟨sgl.toArray⟩:ByteArray)++⟨A.toArray⟩=⟨B.toArray⟩:=by rw[hB];exact bytes_cat _ _
 have hc4:(⟨B.toArray⟩:ByteArray).size+(⟨#[101]⟩:ByteArray).size≤9223372036854775807:=by
  rw[bsz,show(⟨#[101]⟩:ByteArray).size=1 from rfl];omega
 have e4:(⟨B.toArray⟩:ByteArray)++⟨#[101]⟩=⟨C.toArray⟩:=by rw[hC];exact bytes_cat _ [101]
 have hc5:(⟨C.toArray⟩:ByteArray).size+(⟨t.toArray⟩:ByteArray).size≤9223372036854775807:=by
  rw[bsz,bsz];have:=HL.out;omega
 obtain⟨R,hR⟩:∃ R:List UInt8,R=sgl++exL d t:=⟨_,rfl⟩
 have e5:(⟨C.toArray⟩:ByteArray)++⟨t.toArray⟩=⟨R.toArray⟩:=by
  rw[bytes_cat,hC,hB,hR]
  unfold exL
  rw[←hA]
  simp
 rw[←hR]
 clear hB hC hBl hCl hR hsg hT
 obtain⟨b1,hb1x⟩:∃ b1:Bool,decide (x < -5)=b1:=⟨_,rfl⟩
 have key:(x < -5)∨(¬ x < -5∧20<x):=by omega
 clear hx2 hb1x b1
 rcases key with hxa|⟨hxa,hxb⟩
 ·have q1:=kS.out w
  go_enter Tryz.func8,Tryz.ntmps8
  go_wp2_with (first|(go_at_call 27;refine(kW _).mono ?_;rintro r w' ⟨rfl,hw⟩;replace hw:=hw.symm;subst hw)|(go_at_call 17;refine(kA _).mono ?_;rintro r w' ⟨rfl,hw⟩;replace hw:=hw.symm;subst hw))
  refine q1.mono ?_
  rintro r w1 ⟨rfl,hb1⟩
  have HB:Hid (Bw w w1):=hb1
  clear q1 hb1 kW kA kS
  go_upto_region 8 with fail
  by_cases h1n:(1:Int)<(d.length:Int)
  ·have e2:(⟨(d.take 1 ++ [46]).toArray⟩:ByteArray)++⟨d.tail.toArray⟩=⟨A.toArray⟩:=by rw[bytes_cat,hA,if_pos (by omega),List.drop_one,List.append_assoc];rfl
   clear hA hAl
   go_upto_region 9 with fail
   go_quiet (fail)
   have q2:=fun U=>kT.out U
   go_wp2_with fail
   refine(q2 _).mono ?_
   rintro r w5 ⟨rfl,hb5⟩
   have HB5:Hid (Bw w w5):=(bdrewN HB.out nq).trans (hb5.mono (bdrewN HB.out nq).size)
   clear q2 hb5
   go_wp2_with fail
   go_ret
   exact⟨rfl,HB5.out⟩
  ·have e2:d.take 1=A:=by rw[hA,if_neg (by omega),List.append_nil]
   have e6:A=d:=by rw[←e2,List.take_of_length_le (by omega)]
   rw[e6] at hc3 e3
   rw[hszd] at hc3
   clear hA hAl et ed e1 hc1 hc2 e2 e6
   have q2:=kT.out w1
   go_wp2_with fail
   refine q2.mono ?_
   rintro r w5 ⟨rfl,hb5⟩
   have HB5:Hid (Bw w w5):=HB.out.trans (hb5.mono HB.out.size)
   clear q2 hb5
   go_wp2_with fail
   go_ret
   exact⟨rfl,HB5.out⟩
 ·have q1:=kS.out w
  go_enter Tryz.func8,Tryz.ntmps8
  go_wp2_with (first|(go_at_call 27;refine(kW _).mono ?_;rintro r w' ⟨rfl,hw⟩;replace hw:=hw.symm;subst hw)|(go_at_call 17;refine(kA _).mono ?_;rintro r w' ⟨rfl,hw⟩;replace hw:=hw.symm;subst hw))
  refine q1.mono ?_
  rintro r w1 ⟨rfl,hb1⟩
  have HB:Hid (Bw w w1):=hb1
  clear q1 hb1 kW kA kS
  go_upto_region 8 with fail
  by_cases h1n:(1:Int)<(d.length:Int)
  ·have e2:(⟨(d.take 1 ++ [46]).toArray⟩:ByteArray)++⟨d.tail.toArray⟩=⟨A.toArray⟩:=by rw[bytes_cat,hA,if_pos (by omega),List.drop_one,List.append_assoc];rfl
   clear hA hAl
   go_upto_region 9 with fail
   go_quiet (fail)
   have q2:=fun U=>kT.out U
   go_wp2_with fail
   refine(q2 _).mono ?_
   rintro r w5 ⟨rfl,hb5⟩
   have HB5:Hid (Bw w w5):=(bdrewN HB.out nq).trans (hb5.mono (bdrewN HB.out nq).size)
   clear q2 hb5
   go_wp2_with fail
   go_ret
   exact⟨rfl,HB5.out⟩
  ·have e2:d.take 1=A:=by rw[hA,if_neg (by omega),List.append_nil]
   have e6:A=d:=by rw[←e2,List.take_of_length_le (by omega)]
   rw[e6] at hc3 e3
   rw[hszd] at hc3
   clear hA hAl et ed e1 hc1 hc2 e2 e6
   have q2:=kT.out w1
   go_wp2_with fail
   refine q2.mono ?_
   rintro r w5 ⟨rfl,hb5⟩
   have HB5:Hid (Bw w w5):=HB.out.trans (hb5.mono HB.out.size)
   clear q2 hb5
   go_wp2_with fail
   go_ret
   exact⟨rfl,HB5.out⟩
theorem d4Sh_n (f fa:Nat) (x:Int) (sgl d t:List UInt8) (w:World) (hx : -10000≤x∧x≤10000) (hf:(FloatKind.f64.format.order f 0==some Ordering.eq)=false) (hsg:sgl.length≤1) (hd:Hid (1≤d.length∧d.length≤1000)) 
  (kW:∀ W,Calls Tryz.prog 27 #[.float .f64 f] W fun r w'=>r=.returned (.tuple #[.string ⟨sgl.toArray⟩,.bool false])∧w'=W)
  (kA:∀ W,Calls Tryz.prog 17 #[.float .f64 f] W fun r w'=>r=.returned (.float .f64 fa)∧w'=W)
  (kS:Hid (∀ W,Calls Tryz.prog 28 #[.float .f64 fa] W fun r w'=>r=.returned (.tuple #[.string ⟨d.toArray⟩,.int .i64 x])∧Bw W w'))
  (h0:x<0) (h5:¬ x < -5) (ht:Hid (t=nzL (-x - 1)))  :
  Calls Tryz.prog 8 #[.float .f64 f] w fun r w'=>r=.returned (.string ⟨(sgl++([48,46]++(t++d))).toArray⟩)∧Bw w w':=by
 have hT:t.length≤100:=by rw[ht.out,nz_len];omega
 have hszd:(⟨d.toArray⟩:ByteArray).size=d.length:=rfl
 have HL:Hid (d.length≤1000∧sgl.length≤1∧t.length≤100∧1≤d.length):=⟨hd.out.2,hsg,hT,hd.out.1⟩
 have h20:¬ 20<x:=by omega
 have u1:IntKind.i64.wrap (-x) = -x:=by rw[IntKind.wrap_i64];omega
 have u2:IntKind.i64.wrap (-x - 1) = -x - 1:=by rw[IntKind.wrap_i64];omega
 have kT:=fun W=>d4nz (-x - 1) W (by omega)
 rw[←ht.out] at kT
 obtain⟨B,hB⟩:∃ B:List UInt8,B=sgl ++ [48,46]:=⟨_,rfl⟩
 obtain⟨C,hC⟩:∃ C:List UInt8,C=B++t:=⟨_,rfl⟩
 have hBl:B.length≤3:=by have:=HL.out;rw[hB,List.length_append];simp;omega
 have hCl:C.length≤103:=by rw[hC,List.length_append];omega
 have hc3:(⟨sgl.toArray⟩:ByteArray).size+(⟨#[48,46]⟩:ByteArray).size≤9223372036854775807:=by rw[bsz,show(⟨#[48,46]⟩:ByteArray).size=2 from rfl];have:=HL.out;omega
 have e3:(⟨sgl.toArray⟩:ByteArray)++⟨#[48,46]⟩=⟨B.toArray⟩:=by rw[hB];exact bytes_cat _ [48,46]
 have hc4:(⟨B.toArray⟩:ByteArray).size+(⟨t.toArray⟩:ByteArray).size≤9223372036854775807:=by rw[bsz,bsz];omega
 have e4:(⟨B.toArray⟩:ByteArray)++⟨t.toArray⟩=⟨C.toArray⟩:=by rw[hC];exact bytes_cat _ _
 have hc5:(⟨C.toArray⟩:ByteArray).size+(⟨d.toArray⟩:ByteArray).size≤9223372036854775807:=by
  rw[bsz,bsz];have:=HL.out;omega
 obtain⟨R,hR⟩:∃ R:List UInt8,R=sgl++([48,46]++(t++d)):=⟨_,rfl⟩
 have e5:(⟨C.toArray⟩:ByteArray)++⟨d.toArray⟩=⟨R.toArray⟩:=by
  rw[bytes_cat,hC,hB,hR]
  simp
 rw[←hR]
 rw[hszd] at hc5
 clear hB hC hBl hCl hR hsg hT ht
 have q1:=kS.out w
 go_enter Tryz.func8,Tryz.ntmps8
 go_wp2_with (first|(go_at_call 27;refine(kW _).mono ?_;rintro r w' ⟨rfl,hw⟩;replace hw:=hw.symm;subst hw)|(go_at_call 17;refine(kA _).mono ?_;rintro r w' ⟨rfl,hw⟩;replace hw:=hw.symm;subst hw))
 refine q1.mono ?_
 rintro r w1 ⟨rfl,hb1⟩
 have HB:Hid (Bw w w1):=hb1
 clear q1 hb1 kW kA kS
 have q2:=fun W=>kT W
 clear kT
 go_wp2_with fail
 refine(q2 _).mono ?_
 rintro r w5 ⟨rfl,hb5⟩
 have HB5:Hid (Bw w w5):=HB.out.trans (hb5.mono HB.out.size)
 clear q2 hb5
 go_wp2_with fail
 go_ret
 exact⟨rfl,HB5.out⟩
theorem d4Sh_i (f fa:Nat) (x:Int) (sgl d t:List UInt8) (w:World) (hx : -10000≤x∧x≤10000) (hf:(FloatKind.f64.format.order f 0==some Ordering.eq)=false) (hsg:sgl.length≤1) (hd:Hid (1≤d.length∧d.length≤1000)) 
  (kW:∀ W,Calls Tryz.prog 27 #[.float .f64 f] W fun r w'=>r=.returned (.tuple #[.string ⟨sgl.toArray⟩,.bool false])∧w'=W)
  (kA:∀ W,Calls Tryz.prog 17 #[.float .f64 f] W fun r w'=>r=.returned (.float .f64 fa)∧w'=W)
  (kS:Hid (∀ W,Calls Tryz.prog 28 #[.float .f64 fa] W fun r w'=>r=.returned (.tuple #[.string ⟨d.toArray⟩,.int .i64 x])∧Bw W w'))
  (h0:¬ x<0) (h20:¬ 20<x) (hl:(d.length:Int)≤x+1) (ht:Hid (t=nzL (x+1 - d.length)))  :
  Calls Tryz.prog 8 #[.float .f64 f] w fun r w'=>r=.returned (.string ⟨(sgl++(d++t)).toArray⟩)∧Bw w w':=by
 have hT:t.length≤100:=by rw[ht.out,nz_len];omega
 have hszd:(⟨d.toArray⟩:ByteArray).size=d.length:=rfl
 have HL:Hid (d.length≤1000∧sgl.length≤1∧t.length≤100∧1≤d.length):=⟨hd.out.2,hsg,hT,hd.out.1⟩
 have h5:¬ x < -5:=by omega
 have u1:IntKind.i64.wrap (x+1)=x+1:=by rw[IntKind.wrap_i64];omega
 have u2:IntKind.i64.wrap (x+1 - (d.length:Int))=x+1 - (d.length:Int):=by rw[IntKind.wrap_i64];omega
 have kT:=fun W=>d4nz (x+1 - (d.length:Int)) W (by omega)
 rw[←ht.out] at kT
 obtain⟨B,hB⟩:∃ B:List UInt8,B=sgl++d:=⟨_,rfl⟩
 have hBl:B.length≤1003:=by have:=HL.out;rw[hB,List.length_append];omega
 have hc3:(⟨sgl.toArray⟩:ByteArray).size+(⟨d.toArray⟩:ByteArray).size≤9223372036854775807:=by rw[bsz,bsz];have:=HL.out;omega
 have e3:(⟨sgl.toArray⟩:ByteArray)++⟨d.toArray⟩=⟨B.toArray⟩:=by rw[hB];exact bytes_cat _ _
 have hc4:(⟨B.toArray⟩:ByteArray).size+(⟨t.toArray⟩:ByteArray).size≤9223372036854775807:=by rw[bsz,bsz];omega
 obtain⟨R,hR⟩:∃ R:List UInt8,R=sgl++(d++t):=⟨_,rfl⟩
 have e5:(⟨B.toArray⟩:ByteArray)++⟨t.toArray⟩=⟨R.toArray⟩:=by
  rw[bytes_cat,hB,hR]
  simp
 rw[←hR]
 rw[hszd] at hc3
 clear hB hBl hR hsg hT ht
 have q1:=kS.out w
 go_enter Tryz.func8,Tryz.ntmps8
 go_wp2_with (first|(go_at_call 27;refine(kW _).mono ?_;rintro r w' ⟨rfl,hw⟩;replace hw:=hw.symm;subst hw)|(go_at_call 17;refine(kA _).mono ?_;rintro r w' ⟨rfl,hw⟩;replace hw:=hw.symm;subst hw))
 refine q1.mono ?_
 rintro r w1 ⟨rfl,hb1⟩
 have HB:Hid (Bw w w1):=hb1
 clear q1 hb1 kW kA kS
 have q2:=fun W=>kT W
 clear kT
 go_wp2_with fail
 refine(q2 _).mono ?_
 rintro r w5 ⟨rfl,hb5⟩
 have HB5:Hid (Bw w w5):=HB.out.trans (hb5.mono HB.out.size)
 clear q2 hb5
 go_wp2_with fail
 go_ret
 exact⟨rfl,HB5.out⟩
theorem d4Sh_p (f fa:Nat) (x:Int) (sgl d:List UInt8) (w:World) (hx : -10000≤x∧x≤10000) (hf:(FloatKind.f64.format.order f 0==some Ordering.eq)=false) (hsg:sgl.length≤1) (hd:Hid (1≤d.length∧d.length≤1000))
  (kW:∀ W,Calls Tryz.prog 27 #[.float .f64 f] W fun r w'=>r=.returned (.tuple #[.string ⟨sgl.toArray⟩,.bool false])∧w'=W)
  (kA:∀ W,Calls Tryz.prog 17 #[.float .f64 f] W fun r w'=>r=.returned (.float .f64 fa)∧w'=W)
  (kS:Hid (∀ W,Calls Tryz.prog 28 #[.float .f64 fa] W fun r w'=>r=.returned (.tuple #[.string ⟨d.toArray⟩,.int .i64 x])∧Bw W w'))
  (q:Nat) (hq:x+1=(q:Int)) (h0:¬ x<0) (h20:¬ 20<x) (hl:¬ (d.length:Int)≤x+1) :
  Calls Tryz.prog 8 #[.float .f64 f] w fun r w'=>r=.returned (.string ⟨(sgl++(d.take q++46 :: d.drop q)).toArray⟩)∧Bw w w':=by
 have hszd:(⟨d.toArray⟩:ByteArray).size=d.length:=rfl
 have HL:Hid (d.length≤1000∧sgl.length≤1∧1≤d.length):=⟨hd.out.2,hsg,hd.out.1⟩
 have h5:¬ x < -5:=by omega
 have u1:IntKind.i64.wrap (x+1)=(q:Int):=by rw[←hq,IntKind.wrap_i64];omega
 have hl2:¬ (d.length:Int)≤(q:Int):=by omega
 have hq0:(0:Int)≤(q:Int):=by omega
 have hqE:(q:Int)≤(d.length:Int):=by omega
 have hqn:q≤d.length:=by omega
 have et:=ext_take d q
 have ed:=ext_drop d q
 obtain⟨X,hX⟩:∃ X:List UInt8,X=d.take q:=⟨_,rfl⟩
 obtain⟨Y,hY⟩:∃ Y:List UInt8,Y=d.drop q:=⟨_,rfl⟩
 have hXl:X.length≤1000:=by have:=HL.out;rw[hX,List.length_take];omega
 have hYl:Y.length≤1000:=by have:=HL.out;rw[hY,List.length_drop];omega
 obtain⟨B,hB⟩:∃ B:List UInt8,B=sgl++X:=⟨_,rfl⟩
 obtain⟨C,hC⟩:∃ C:List UInt8,C=B ++ [46]:=⟨_,rfl⟩
 have hBl:B.length≤1003:=by have:=HL.out;rw[hB,List.length_append];omega
 have hCl:C.length≤1004:=by rw[hC,List.length_append];simp;omega
 have hc3:(⟨sgl.toArray⟩:ByteArray).size+(⟨X.toArray⟩:ByteArray).size≤9223372036854775807:=by rw[bsz,bsz];have:=HL.out;omega
 have e3:(⟨sgl.toArray⟩:ByteArray)++⟨X.toArray⟩=⟨B.toArray⟩:=by rw[hB];exact bytes_cat _ _
 have hc4:(⟨B.toArray⟩:ByteArray).size+(⟨#[46]⟩:ByteArray).size≤9223372036854775807:=by rw[bsz,show(⟨#[46]⟩:ByteArray).size=1 from rfl];omega
 have e4:(⟨B.toArray⟩:ByteArray)++⟨#[46]⟩=⟨C.toArray⟩:=by rw[hC];exact bytes_cat _ [46]
 have hc5:(⟨C.toArray⟩:ByteArray).size+(⟨Y.toArray⟩:ByteArray).size≤9223372036854775807:=by rw[bsz,bsz];omega
 obtain⟨R,hR⟩:∃ R:List UInt8,R=sgl++(d.take q++46 :: d.drop q):=⟨_,rfl⟩
 have e5:(⟨C.toArray⟩:ByteArray)++⟨Y.toArray⟩=⟨R.toArray⟩:=by
  rw[bytes_cat,hC,hB,hR,hX,hY]
  simp
 rw[←hX] at et
 rw[←hY] at ed
 rw[←hR]
 clear hB hC hBl hCl hR hsg hX hY hXl hYl hqn hq hl
 have q1:=kS.out w
 go_enter Tryz.func8,Tryz.ntmps8
 go_wp2_with (first|(go_at_call 27;refine(kW _).mono ?_;rintro r w' ⟨rfl,hw⟩;replace hw:=hw.symm;subst hw)|(go_at_call 17;refine(kA _).mono ?_;rintro r w' ⟨rfl,hw⟩;replace hw:=hw.symm;subst hw))
 refine q1.mono ?_
 rintro r w1 ⟨rfl,hb1⟩
 have HB:Hid (Bw w w1):=hb1
 clear q1 hb1 kW kA kS
 go_upto_region 15 with fail
 go_quiet (fail)
 go_wp2_with fail
 go_ret
 exact⟨rfl,bdrewN HB.out nq⟩
def DNb (w:World) (B:Nat) (A:Value) (t:Bool×Nat×Int):Prop:=DN w A t∧∀ (s:Bool) (ao:Option Addr) (n cp:Nat) (e:Int),A=.agg #[.bool s,.slice ao n cp,.int .i64 e]→∀ ad:Addr,ao=some ad→0<n→B≤ad.block
theorem NC.dnb {w:World} {base:Nat} {a:Value} {neg:Bool} {x:Nat} {e:Int} (h:NC w base a neg x e):DNb w base a (cn neg x e):=by
 refine⟨h.dn,?_⟩
 obtain⟨ao,cap,rfl,h2,h3⟩:=h
 intro s ao' n cp e' h4 ad h5 h6
 have h7:=Value.agg.inj h4
 simp at h7
 obtain⟨-,⟨rfl,rfl,-⟩,-⟩:=h7
 exact h3 ad h5 h6
theorem DNb.later {w w':World} {B:Nat} {A:Value} {t:Bool×Nat×Int} (h:DNb w B A t) (hb:Bw w w'):DNb w' B A t:=⟨h.1.later hb,h.2⟩
theorem glessB {t1 t2:Bool×Nat×Int} {X Y:Value} {w:World} (o1:Gn t1) (o2:Gn t2) (h1:DN w X t1) (h2:DN w Y t2):Calls Tryz.prog 45 #[X,Y] w fun r w'=>∃ A,r=.returned A∧DNb w' w.heap.size A (gD t1 t2)∧Bw w w':=by
 obtain⟨ao,cap,rfl,a1⟩:=h1
 obtain⟨ao',cap',rfl,a2⟩:=h2
 have z2:=o2.zero
 obtain⟨c1,f1,f2,f3⟩:=o1
 obtain⟨c2,g1,g2,g3⟩:=o2
 unfold gD
 by_cases h0:t2.2.1=0
 ·have e2:=z2 h0
  have e3:t2.1=false:=by rw[e2]
  have e4:t2.2.2=0:=by rw[e2]
  rw[h0,e3,e4,dlen_zero]
  have k2:=fun(W:World) (hW:Bw w W)=>rplusG (nb:=false) (y:=0) (eb:=0) (a1.later hW) (garg0D W) c1 rfl (by omega) (by omega) (by omega) (by omega) (by omega) (by rw[dlen_zero];omega)
  simp only[dlen_zero] at k2
  exact(rlessN_1 t1.1 false ao ao' (dlen t1.2.1) cap 0 cap' t1.2.2 0 false none 0 0 0 _ _ _ w (fun W=>rminus_0 false ao' cap' 0 W) k2).mono fun r w' ⟨A,e,h,hb⟩=>⟨A,e,h.dnb,hb⟩
 ·have hl:0<dlen t2.2.1:=by have:=dlen_pos h0;omega
  rw[decide_eq_true hl,Bool.and_true]
  exact(rlessN_1 t1.1 t2.1 ao ao' (dlen t1.2.1) cap (dlen t2.2.1) cap' t1.2.2 t2.2.2 (!t2.1) ao' (dlen t2.2.1) cap' t2.2.2 _ _ _ w (fun W=>rminus_1 t2.1 ao' (dlen t2.2.1) cap' t2.2.2 W (by omega) (by rw[beq_eq_false_iff_ne];omega)) (fun W hW=>rplusG (a1.later hW) (a2.later hW) c1 (gcn_turn c2 h0 _) (by omega) (by omega) (by omega) (by omega) (by omega) (by omega))).mono fun r w' ⟨A,e,h,hb⟩=>⟨A,e,h.dnb,hb⟩
theorem row_ne {w w':World} {B m:Nat} {V:Value} {xs:List Value} {g s:Nat} {cs:Array Value} (ho:w'.ownsRow B 5 1 V m xs) (hE:w'.heap[g]?=some (.cells cs 54 (0,0))):some g≠V.ownBlock:=by
 obtain⟨-,⟨rfl,-⟩|⟨g',cp,cur,rfl,-,hh,-⟩⟩:=ho
 ·simp[Value.ownBlock]
 ·intro e
  have e':g=g':=by simpa [Value.ownBlock] using e
  subst e'
  rw[hh] at hE
  have:=Option.some.inj hE
  injection this with _ h2
  exact absurd h2 (by decide)
theorem NbQ.grown {W w4:World} {g:Nat} {s:Bool} {ao:Option Addr} {n cp:Nat} {e:Int} {t:Bool×Nat×Int} {B b m:Nat} {V:Value} {xs:List Value} (h:NbQ W g s ao n cp e t) (hb:DNb W b (.agg #[.bool s,.slice ao n cp,.int .i64 e]) t) (ho:W.ownsRow B 5 1 V m xs) (hl:∀ k,V.ownBlock=some k→k<b) (hg:W.grownBy w4 V.ownBlock):NbQ w4 g s ao n cp e t:=by
 refine⟨(hg.block g h.lt (row_ne (s:=0) (w':=W) (w:=W) ho h.1)).trans h.1,?_⟩
 obtain⟨⟨ao',cap,h1,h2⟩,h3⟩:=hb
 refine⟨ao',cap,h1,h2.nil,?_,h2.le,h2.small⟩
 obtain⟨bb,o,h4,h5⟩:=h2.at_
 refine⟨bb,o,h4,fun i hi=>?_⟩
 have h6:=h3 _ _ _ _ _ h1 ⟨bb,o,none⟩ (h4 (by omega)) (by omega)
 refine hg.cell (h5 i hi) ?_
 intro e9
 have:=hl bb e9.symm
 simp at h6
 omega
theorem OB.storeQ {w wr:World} {v:Value} {L:List UInt8} (h:OB w wr v L) {g:Nat} {s:Bool} {ao:Option Addr} {n cp:Nat} {e:Int} (hE:wr.heap[g]?=some (.cells #[.bool s,.slice ao n cp,.int .i64 e] 54 (0,0))) (hg:w.heap.size≤g) (x y z:Value):OB w (((wr.setCell ⟨g,0,none⟩ x).setCell ⟨g,1,none⟩ y).setCell ⟨g,2,none⟩ z) v L:=by
 obtain⟨⟨hlen,h|⟨g',cp',cur,h0,h1,h2,h3⟩⟩,hB⟩:=h
 ·exact⟨⟨hlen,.inl h⟩,below_store3 hB hg _ _ _⟩
 ·refine⟨⟨hlen,.inr ⟨g',cp',cur,h0,h1,heap_otherQ h2 ?_ _ _ _,h3⟩⟩,below_store3 hB hg _ _ _⟩
  rintro rfl
  rw[hE] at h2
  have:=Option.some.inj h2
  injection this with _ h9
  exact absurd h9 (by decide)
theorem hx_lt8 {d:Nat} (h:d<16):hx d<256:=by unfold hx;split <;> omega
def hxO (dg:Nat→Nat) (i:Nat):List UInt8:=(List.range i).map fun j=>UInt8.ofNat (hx (dg j))
theorem hxO_len (dg:Nat→Nat) (i:Nat):(hxO dg i).length=i:=by unfold hxO;simp
theorem hxO_step (dg:Nat→Nat) (i:Nat):hxO dg (i+1)=hxO dg i ++ [UInt8.ofNat (hx (dg i))]:=by unfold hxO;rw[List.range_succ,List.map_append];rfl
theorem d4Hx_w (f:Nat) (t:ByteArray) (w:World)
  (kW:∀ W,Calls Tryz.prog 27 #[.float .f64 f] W fun r w'=>r=.returned (.tuple #[.string t,.bool true])∧w'=W) :
  Calls Tryz.prog 12 #[.float .f64 f] w fun r w'=>r=.returned (.string t)∧w'=w:=by
 go_enter Tryz.func12,Tryz.ntmps12
 go_wp2_with (go_at_call 27;refine(kW _).mono ?_;rintro r w' ⟨rfl,hw⟩;replace hw:=hw.symm;subst hw)
 go_ret
 exact⟨rfl,rfl⟩
theorem d4Hx_0 (f:Nat) (sgl:List UInt8) (w:World) (hf:(FloatKind.f64.format.order f 0==some Ordering.eq)=true) (hsg:sgl.length≤1)
  (kW:∀ W,Calls Tryz.prog 27 #[.float .f64 f] W fun r w'=>r=.returned (.tuple #[.string ⟨sgl.toArray⟩,.bool false])∧w'=W) :
  Calls Tryz.prog 12 #[.float .f64 f] w fun r w'=>r=.returned (.string ⟨(sgl ++ [48,120,48,112,48]).toArray⟩)∧w'=w:=by
 have hc1:(⟨sgl.toArray⟩:ByteArray).size+(⟨#[48,120,48,112,48]⟩:ByteArray).size≤9223372036854775807:=by
  rw[bsz,show(⟨#[48,120,48,112,48]⟩:ByteArray).size=5 from rfl];omega
 have e1:(⟨sgl.toArray⟩:ByteArray)++⟨#[48,120,48,112,48]⟩=⟨(sgl ++ [48,120,48,112,48]).toArray⟩:=bytes_cat _ [48,120,48,112,48]
 go_enter Tryz.func12,Tryz.ntmps12
 go_wp2_with (go_at_call 27;refine(kW _).mono ?_;rintro r w' ⟨rfl,hw⟩;replace hw:=hw.symm;subst hw)
 go_ret
 exact⟨rfl,rfl⟩
theorem d4Hx_1 (f:Nat) (h top ntop:Int) (K:Nat) (sgl t T:List UInt8) (dg:Nat→Nat) (tA t1 tO:Bool×Nat×Int) (tR tS tD tW:Nat→Bool×Nat×Int) (ex:Nat→Bool) (w:World)
  (hf:(FloatKind.f64.format.order f 0==some Ordering.eq)=false) (hsg:sgl.length≤1) (hT:t.length≤100) (hK:Hid (K≤1000)) (htop:IntKind.i64.wrap (h - 1)=top) (hntop:IntKind.i64.wrap (-top)=ntop)
  (kW:∀ W,Calls Tryz.prog 27 #[.float .f64 f] W fun r w'=>r=.returned (.tuple #[.string ⟨sgl.toArray⟩,.bool false])∧w'=W)
  (kA:Hid (∀ W,Calls Tryz.prog 35 #[.float .f64 f] W fun r w'=>OutQ W tA r w'))
  (kH:Hid (∀ W X,DN W X tA→Calls Tryz.prog 44 #[X] W fun r w'=>r=.returned (.int .i64 h)∧Bw W w'))
  (kS:Hid (∀ W X,DN W X tA→Calls Tryz.prog 37 #[X,.int .i64 ntop] W fun r w'=>OutQ W t1 r w'))
  (kO:Hid (∀ W,Calls Tryz.prog 46 #[.int .i64 1] W fun r w'=>OutQ W tO r w'))
  (kL:Hid (∀ W X Y,DN W X t1→DN W Y tO→Calls Tryz.prog 45 #[X,Y] W fun r w'=>OutQ W (tR 0) r w'))
  (kG:Hid (∀ i,i≤K→∀ W X,DN W X (tR i)→Calls Tryz.prog 47 #[X] W fun r w'=>r=.returned (.int .i64 (if i<K then 1 else 0))∧Bw W w'))
  (kS4:Hid (∀ i,i<K→∀ W X,DN W X (tR i)→Calls Tryz.prog 37 #[X,.int .i64 4] W fun r w'=>OutQ W (tS i) r w'))
  (kC:Hid (∀ i,i<K→∀ W X,DN W X (tS i)→Calls Tryz.prog 48 #[X,.int .i64 0] W fun r w'=>OutS W (tD i) (ex i) r w'))
  (kM:Hid (∀ i,i<K→∀ W X Y,DN W X (tS i)→DN W Y (tD i)→Calls Tryz.prog 45 #[X,Y] W fun r w'=>∃ A,r=.returned A∧DNb w' W.heap.size A (tR (i+1))∧Bw W w'))
  (kWn:Hid (∀ n:Nat,n≤15→∀ W,Calls Tryz.prog 46 #[.int .i64 (n:Nat)] W fun r w'=>OutQ W (tW n) r w'))
  (kOr:Hid (∀ i n:Nat,i<K→n≤15→∀ W X Y,DN W X (tW n)→DN W Y (tD i)→Calls Tryz.prog 49 #[X,Y] W fun r w'=>r=.returned (.int .i64 (cmpI (n:Int) (dg i:Nat)))∧Bw W w'))
  (hdg:Hid (∀ i,i<K→dg i≤15))
  (kT:Hid (∀ W,Calls Tryz.prog 29 #[.int .i64 top] W fun r w'=>r=.returned (.string ⟨t.toArray⟩)∧Bw W w'))
  (hTT:Hid (T=sgl++([48,120,49]++(if 0<K then 46 :: hxO dg K else [])++112 :: t))) :
  Calls Tryz.prog 12 #[.float .f64 f] w fun r w'=>r=.returned (.string ⟨T.toArray⟩)∧Bw w w':=by
 have q1:=kA.out w
 have HL:Hid (sgl.length≤1∧t.length≤100):=⟨hsg,hT⟩
 obtain⟨i0,hi0,hz0,hz1,hz2⟩:=info_parts byte_info
 go_enter Tryz.func12,Tryz.ntmps12
 go_wp2_with (go_at_call 27;refine(kW _).mono ?_;rintro r w' ⟨rfl,hw⟩;replace hw:=hw.symm;subst hw)
 refine q1.mono ?_
 rintro r w1 ⟨s1,ao1,n1,cp1,e1,rfl,hd1,hb1⟩
 obtain⟨V,hV⟩:∃ V,V=w1.alloc (.cells #[.bool s1,.slice ao1 n1 cp1,.int .i64 e1] 54):=⟨_,rfl⟩
 obtain⟨gA,hgA⟩:∃ gA,gA=w1.heap.size:=⟨_,rfl⟩
 have H1:Hid (NbQ V gA s1 ao1 n1 cp1 e1 (tA)∧Bw w V):=by
  have hbV:Bw w1 V:=by rw[hV];exact(Below.refl _ _).alloc (Nat.le_refl _) _
  exact⟨⟨by rw[hV,hgA];exact heap_alloc_new _ _,hd1.later hbV⟩,hb1.trans (hbV.mono hb1.size)⟩
 clear q1 hd1 hb1 kW kA hsg hT
 go_upto_region 7 with fail
 rw[←hV,←hgA]
 clear hV hgA
 obtain⟨⟨c0,c1,c2⟩,-⟩:=box_cells29 H1.out.1.1
 have q1:=kH.out V _ H1.out.1.2
 go_wp2_with fail
 refine q1.mono ?_
 rintro r w2 ⟨rfl,hb2⟩
 have H2:Hid (NbQ w2 gA s1 ao1 n1 cp1 e1 (tA)∧Bw w w2):=⟨H1.out.1.later hb2,H1.out.2.trans (hb2.mono H1.out.2.size)⟩
 clear q1 hb2 H1 c0 c1 c2
 obtain⟨⟨c0,c1,c2⟩,-⟩:=box_cells29 H2.out.1.1
 have q1:=kS.out w2 _ H2.out.1.2
 go_wp2_with fail
 refine q1.mono ?_
 rintro r w3 ⟨s2,ao2,n2,cp2,e2,rfl,hd3,hb3⟩
 have HB3:Hid (Bw w w3):=H2.out.2.trans (hb3.mono H2.out.2.size)
 have HD3:Hid (DN w3 (.agg #[.bool s2,.slice ao2 n2 cp2,.int .i64 e2]) t1):=hd3
 clear q1 hb3 hd3 H2 c0 c1 c2
 have q1:=kO.out w3
 go_wp2_with fail
 refine q1.mono ?_
 rintro r w4 ⟨s3,ao3,n3,cp3,e3,rfl,hd4,hb4⟩
 have HB4:Hid (Bw w w4):=HB3.out.trans (hb4.mono HB3.out.size)
 have q2:=kL.out w4 _ _ (HD3.out.later hb4) hd4
 clear q1 hb4 hd4 HB3 HD3
 go_wp2_with fail
 refine q2.mono ?_
 rintro r w5 ⟨s4,ao4,n4,cp4,e4,rfl,hd5,hb5⟩
 obtain⟨V2,hV2⟩:∃ V,V=w5.alloc (.cells #[.bool s4,.slice ao4 n4 cp4,.int .i64 e4] 54):=⟨_,rfl⟩
 obtain⟨gR,hgR⟩:∃ gR,gR=w5.heap.size:=⟨_,rfl⟩
 have H3:Hid (NbQ V2 gR s4 ao4 n4 cp4 e4 (tR 0)∧Bw w V2∧w.heap.size≤gR):=by
  have hbV:Bw w5 V2:=by rw[hV2];exact(Below.refl _ _).alloc (Nat.le_refl _) _
  have hb:=hb5.trans (hbV.mono hb5.size)
  exact⟨⟨by rw[hV2,hgR];exact heap_alloc_new _ _,hd5.later hbV⟩,HB4.out.trans (hb.mono HB4.out.size),by rw[hgR];exact Nat.le_trans HB4.out.size hb5.size⟩
 clear q2 hd5 hb5 HB4 htop hntop kH kS kO kL
 go_upto_region 9 with fail
 rw[←hV2,←hgR]
 clear hV2 hgR
 go_upto_region 10 with fail
 go_loopw [8] (fun v wr=>∃ (i:Nat) (s1:Bool) (ao1:Option Addr) (n1 cp1:Nat) (e1:Int),i≤K∧Hid (NbQ wr gR s1 ao1 n1 cp1 e1 (tR i)∧OB w wr v (hxO dg i))) (fun v _=>K - sliceLen v)
 case atStart=>exact⟨0,_,_,_,_,_,Nat.zero_le _,H3.out.1,⟨World.ownsRow_nil ..,H3.out.2.1⟩⟩
 case round =>
  obtain⟨i,s1,ao1,n1,cp1,e1,hi,HI⟩:=hrel
  have HGR:Hid (w.heap.size≤gR):=H3.out.2.2
  clear H3
  obtain⟨vo,vc,hsh⟩:=HI.out.2.shape
  subst hsh
  rw[hxO_len] at HI ⊢
  obtain⟨⟨c0,c1,c2⟩,f0,f1,f2⟩:=box_cells29 HI.out.1.1
  have q1:=kG.out i hi wr _ HI.out.1.2
  by_cases hiK':i<K
  ·have hiK:Hid (i<K):=hiK'
   rw[if_pos hiK'] at q1
   clear hiK'
   go_wp2_with fail
   refine q1.mono ?_
   rintro r w2 ⟨rfl,hb2⟩
   have H2:Hid (NbQ w2 gR s1 ao1 n1 cp1 e1 (tR i)∧OB w w2 (.slice vo i vc) (hxO dg i)):=⟨HI.out.1.later hb2,HI.out.2.later hb2⟩
   clear q1 hb2 HI c0 c1 c2 f0 f1 f2
   obtain⟨⟨c0,c1,c2⟩,-⟩:=box_cells29 H2.out.1.1
   have q1:=kS4.out i hiK.out w2 _ H2.out.1.2
   go_wp2_with fail
   refine q1.mono ?_
   rintro r w3 ⟨s2,ao2,n2,cp2,e2,rfl,hd3,hb3⟩
   have H4:Hid (NbQ w3 gR s1 ao1 n1 cp1 e1 (tR i)∧OB w w3 (.slice vo i vc) (hxO dg i)∧DN w3 (.agg #[.bool s2,.slice ao2 n2 cp2,.int .i64 e2]) (tS i)):=⟨H2.out.1.later hb3,H2.out.2.later hb3,hd3⟩
   clear q1 hd3 hb3 H2 c0 c1 c2
   obtain⟨⟨c0,c1,c2⟩,f0,f1,f2⟩:=box_cells29 H4.out.1.1
   obtain⟨V3,hV3⟩:∃ V3,V3=((w3.setCell ⟨gR,0,none⟩ (.bool s2)).setCell ⟨gR,1,none⟩ (.slice ao2 n2 cp2)).setCell ⟨gR,2,none⟩ (.int .i64 e2):=⟨_,rfl⟩
   have H5:Hid (NbQ V3 gR s2 ao2 n2 cp2 e2 (tS i)∧OB w V3 (.slice vo i vc) (hxO dg i)):=by
    rw[hV3]
    exact⟨H4.out.1.put H4.out.2.2,H4.out.2.1.storeQ H4.out.1.1 HGR.out _ _ _⟩
   go_upto_region 12 with fail
   rw[←hV3]
   clear hV3 H4 c0 c1 c2 f0 f1 f2
   obtain⟨⟨c0,c1,c2⟩,-⟩:=box_cells29 H5.out.1.1
   have q1:=kC.out i hiK.out V3 _ H5.out.1.2
   go_wp2_with fail
   refine q1.mono ?_
   rintro r w4 ⟨sd,aod,nd,cpd,ed,rfl,hd4,hb4⟩
   obtain⟨V4,hV4⟩:∃ V,V=w4.alloc (.cells #[.bool sd,.slice aod nd cpd,.int .i64 ed] 54):=⟨_,rfl⟩
   obtain⟨gd,hgd⟩:∃ gd,gd=w4.heap.size:=⟨_,rfl⟩
   have H6:Hid (NbQ V4 gR s2 ao2 n2 cp2 e2 (tS i)∧NbQ V4 gd sd aod nd cpd ed (tD i)∧OB w V4 (.slice vo i vc) (hxO dg i)∧gR<gd):=by
    have hbV:Bw w4 V4:=by rw[hV4];exact(Below.refl _ _).alloc (Nat.le_refl _) _
    have hb:=hb4.trans (hbV.mono hb4.size)
    exact⟨H5.out.1.later hb,⟨by rw[hV4,hgd];exact heap_alloc_new _ _,hd4.later hbV⟩,H5.out.2.later hb,by rw[hgd];exact Nat.lt_of_lt_of_le H5.out.1.lt hb4.size⟩
   clear q1 hd4 hb4 H5 c0 c1 c2
   go_upto_region 13 with fail
   rw[←hV4,←hgd]
   clear hV4 hgd
   obtain⟨⟨c0,c1,c2⟩,f0,f1,f2⟩:=box_cells29 H6.out.1.1
   obtain⟨⟨d0,d1,d2⟩,-⟩:=box_cells29 H6.out.2.1.1
   have q1:=kM.out i hiK.out V4 _ _ H6.out.1.2 H6.out.2.1.2
   go_wp2_with fail
   refine q1.mono ?_
   rintro r w5 ⟨A,rfl,hd5,hb5⟩
   obtain⟨s3,ao3,n3,cp3,e3,rfl⟩:=hd5.1.shape
   have H7:Hid (NbQ w5 gR s2 ao2 n2 cp2 e2 (tS i)∧NbQ w5 gd sd aod nd cpd ed (tD i)∧OB w w5 (.slice vo i vc) (hxO dg i)∧gR<gd∧DNb w5 V4.heap.size (.agg #[.bool s3,.slice ao3 n3 cp3,.int .i64 e3]) (tR (i+1))∧∀ k,(Value.slice vo i vc).ownBlock=some k→k<V4.heap.size):=⟨H6.out.1.later hb5,H6.out.2.1.later hb5,H6.out.2.2.1.later hb5,H6.out.2.2.2,hd5,fun k hk=>(H6.out.2.2.1.1.lt k hk).2⟩
   clear q1 hd5 hb5 H6 c0 c1 c2 d0 d1 d2 f0 f1 f2
   obtain⟨⟨c0,c1,c2⟩,f0,f1,f2⟩:=box_cells29 H7.out.1.1
   obtain⟨V5,hV5⟩:∃ V5,V5=((w5.setCell ⟨gR,0,none⟩ (.bool s3)).setCell ⟨gR,1,none⟩ (.slice ao3 n3 cp3)).setCell ⟨gR,2,none⟩ (.int .i64 e3):=⟨_,rfl⟩
   have H8:Hid (NbQ V5 gR s3 ao3 n3 cp3 e3 (tR (i+1))∧NbQ V5 gd sd aod nd cpd ed (tD i)∧OB w V5 (.slice vo i vc) (hxO dg i)∧DNb V5 V4.heap.size (.agg #[.bool s3,.slice ao3 n3 cp3,.int .i64 e3]) (tR (i+1))∧∀ k,(Value.slice vo i vc).ownBlock=some k→k<V4.heap.size):=by
    rw[hV5]
    exact⟨H7.out.1.put H7.out.2.2.2.2.1.1,H7.out.2.1.other H7.out.1.1 (by have:=H7.out.2.2.2.1;omega) _ _ _,H7.out.2.2.1.storeQ H7.out.1.1 HGR.out _ _ _,⟨H7.out.2.2.2.2.1.1.storeQ H7.out.1.1 _ _ _,H7.out.2.2.2.2.1.2⟩,H7.out.2.2.2.2.2⟩
   go_upto_region 14 with fail
   rw[←hV5]
   clear hV5 H7 c0 c1 c2 f0 f1 f2
   go_upto_region 15 with fail
   go_loopw [11] (fun v wx=>∃ n:Nat,n≤dg i∧v=.int .i64 (n:Nat)∧Hid (NbQ wx gR s3 ao3 n3 cp3 e3 (tR (i+1))∧NbQ wx gd sd aod nd cpd ed (tD i)∧OB w wx (.slice vo i vc) (hxO dg i)∧DNb wx V4.heap.size (.agg #[.bool s3,.slice ao3 n3 cp3,.int .i64 e3]) (tR (i+1))∧∀ k,(Value.slice vo i vc).ownBlock=some k→k<V4.heap.size)) (fun v _=>dg i - (intOf v).toNat)
   case atStart=>exact⟨0,Nat.zero_le _,rfl,H8⟩
   case round =>
    obtain⟨n,hn,rfl,HJ⟩:=hrel
    clear H8
    have hd15:=hdg.out i hiK.out
    have hwn:IntKind.i64.wrap ((n:Int)+1)=(n:Int)+1:=by rw[IntKind.wrap_i64];omega
    by_cases hlt:n<dg i
    ·have h15:(n:Int)<15:=by omega
     have hcm:cmpI (n:Int) (dg i:Nat)<0:=by unfold cmpI;split <;> omega
     go_upto_region 15 with fail
     refine r_region [0,1,2,3,4,5,6,7,8] [49,50,51,52,53,54,55,56,57] [[],[0],[1],[2],[3,2],[2],[4,5,2],[6,2],[2,7]] wr _ [isV (.int .i64 (n:Nat)),isV (.bool true),isV (.bool true),isV (.int .i64 (n:Nat)),isD (tW n),isV (.agg #[.bool sd,.slice aod nd cpd,.int .i64 ed]),isV (.int .i64 (cmpI (n:Int) (dg i:Nat))),isV (.bool true),isV (.bool true)] (by kernel_rfl) ⟨isV_stays _,isV_stays _,isV_stays _,isV_stays _,isD_stays _,isV_stays _,isV_stays _,isV_stays _,isV_stays _,trivial⟩ (by show ∀ s ∈ [49,50,51,52,53,54,55,56,57],s<82;decide) ?_ ?_
     ·intro j hj o ho act U hb hoth hdep
      have hj':j<9:=hj
      have t11':act.tmps[(11:Nat)]?=some (Value.int .i64 (n:Nat)):=(hoth 11 (by decide)).trans rfl
      have t9':act.tmps[(9:Nat)]?=some (Value.pointer (some ⟨gd,0,none⟩)):=(hoth 9 (by decide)).trans rfl
      have dd:=(box_cells29 (HJ.out.2.1.later hb).1).1
      rcases(by omega:j=0∨j=1∨j=2∨j=3∨j=4∨j=5∨j=6∨j=7∨j=8)with rfl|rfl|rfl|rfl|rfl|rfl|rfl|rfl|rfl
      ·obtain rfl:=Option.some.inj ho
       exact .inl ⟨rfl,owp_move rfl t11' ⟨_,rfl,rfl,Below.refl _ _⟩⟩
      ·obtain rfl:=Option.some.inj ho
       have y0:act.tmps[(49:Nat)]?=_:=dV (hdep 0 (by simp[dL])) rfl
       exact .inl ⟨rfl,owp_run1 (w':=U) (by simp[execOp,y0,eval_cst,go_sem,h15]) ⟨_,rfl,rfl,Below.refl _ _⟩⟩
      ·obtain rfl:=Option.some.inj ho
       have y1:act.tmps[(50:Nat)]?=_:=dV (hdep 1 (by simp[dL])) rfl
       exact .inl ⟨rfl,owp_move rfl y1 ⟨_,rfl,rfl,Below.refl _ _⟩⟩
      ·obtain rfl:=Option.some.inj ho
       have y2:act.tmps[(51:Nat)]?=_:=dV (hdep 2 (by simp[dL])) rfl
       exact .inr (wpOp_take rfl rfl rfl rfl y2 (owp_move rfl t11' ⟨_,rfl,rfl,Below.refl _ _⟩))
      ·obtain rfl:=Option.some.inj ho
       have y3:act.tmps[(52:Nat)]?=_:=dV (hdep 3 (by simp[dL])) rfl
       have y2:act.tmps[(51:Nat)]?=_:=dV (hdep 2 (by simp[dL])) rfl
       refine .inr (wpOp_take rfl rfl rfl rfl y2 (owp_call rfl (enters Tryz.func46 (by kernel_rfl) (by kernel_rfl)) (vs:=#[.int .i64 (n:Nat)]) (by simp[eval_get y3]) ?_))
       refine(kWn.out n (by omega) U).mono ?_
       rintro r w' ⟨q1,q2,q3,q4,q5,rfl,hA,hb'⟩
       exact⟨_,rfl,_,rfl,hA,hb'⟩
      ·obtain rfl:=Option.some.inj ho
       have y2:act.tmps[(51:Nat)]?=_:=dV (hdep 2 (by simp[dL])) rfl
       exact .inr (wpOp_take rfl rfl rfl rfl y2 (owp_ldD rfl t9' dd.1 dd.2.1 dd.2.2 ⟨_,rfl,rfl,Below.refl _ _⟩))
      ·obtain rfl:=Option.some.inj ho
       obtain⟨u4,y40,v4⟩:=hdep 4 (by simp[dL])
       have y4:act.tmps[(53:Nat)]?=_:=y40
       have y5:act.tmps[(54:Nat)]?=_:=dV (hdep 5 (by simp[dL])) rfl
       have y2:act.tmps[(51:Nat)]?=_:=dV (hdep 2 (by simp[dL])) rfl
       refine .inr (wpOp_take rfl rfl rfl rfl y2 (owp_call rfl (enters Tryz.func49 (by kernel_rfl) (by kernel_rfl)) (vs:=#[u4,.agg #[.bool sd,.slice aod nd cpd,.int .i64 ed]]) (by simp[eval_get y4,eval_get y5]) ?_))
       refine(kOr.out i n hiK.out (by omega) U _ _ v4 (HJ.out.2.1.later hb).2).mono ?_
       rintro r w' ⟨rfl,hb'⟩
       exact⟨_,rfl,_,rfl,rfl,hb'⟩
      ·obtain rfl:=Option.some.inj ho
       have y6:act.tmps[(55:Nat)]?=_:=dV (hdep 6 (by simp[dL])) rfl
       have y2:act.tmps[(51:Nat)]?=_:=dV (hdep 2 (by simp[dL])) rfl
       exact .inr (wpOp_take rfl rfl rfl rfl y2 (owp_run1 (w':=U) (by simp[execOp,y6,eval_cst,go_sem,hcm]) ⟨_,rfl,rfl,Below.refl _ _⟩))
      ·obtain rfl:=Option.some.inj ho
       have y2:act.tmps[(51:Nat)]?=_:=dV (hdep 2 (by simp[dL])) rfl
       have y7:act.tmps[(56:Nat)]?=_:=dV (hdep 7 (by simp[dL])) rfl
       exact .inl ⟨rfl,owp_run1 (w':=U) (by simp[execOp,y2,y7,eval_cst,go_sem]) ⟨_,rfl,rfl,Below.refl _ _⟩⟩
     ·intro u W9 hb9 hu
      have u8:u 8=.bool true:=hu 8 (by show 8<9;decide)
      clear hu
      simp only[putL,show List.range 9 = [0,1,2,3,4,5,6,7,8] from rfl,List.length_cons,List.length_nil,List.getD_cons_zero,List.getD_cons_succ,List.map_cons,List.map_nil,List.cons_append,List.nil_append,List.foldl_cons,List.foldl_nil,Nat.reduceLT,Nat.reduceMod,Nat.reduceDiv,Nat.reduceMul,Nat.reduceAdd,Nat.reduceEqDiff,reduceIte,Nat.one_ne_zero,Act.put,List.setIfInBounds_toArray,List.set_cons_zero,List.set_cons_succ]
      rw[u8]
      clear u8
      have HK:Hid (NbQ W9 gR s3 ao3 n3 cp3 e3 (tR (i+1))∧NbQ W9 gd sd aod nd cpd ed (tD i)∧OB w W9 (.slice vo i vc) (hxO dg i)∧DNb W9 V4.heap.size (.agg #[.bool s3,.slice ao3 n3 cp3,.int .i64 e3]) (tR (i+1))∧∀ k,(Value.slice vo i vc).ownBlock=some k→k<V4.heap.size):=⟨HJ.out.1.later hb9,HJ.out.2.1.later hb9,HJ.out.2.2.1.later hb9,HJ.out.2.2.2.1.later hb9,HJ.out.2.2.2.2⟩
      clear hb9 HJ
      go_wp2_with fail
      exact⟨⟨n+1,by omega,by congr 1,HK⟩,by simp[intOf];omega⟩
    ·obtain rfl:n=dg i:=by omega
     obtain⟨n,hnn⟩:∃ n,n=dg i:=⟨_,rfl⟩
     have HN:Hid (n=dg i):=hnn
     rw[←hnn] at hd15 hwn ⊢
     clear hlt hn
     have hq16:(n:Int)<16:=by omega
     have hqn:n<16:=by omega
     have HSZ:Hid (w.heap.size≤wr.heap.size):=HJ.out.2.2.1.2.size
     rcases(by omega:n<15∨n=15)with h15'|h15'
     ·have h15:(n:Int)<15:=by omega
      have hcm:¬ cmpI (n:Int) (dg i:Nat)<0:=by rw[←hnn];unfold cmpI;split <;> omega
      clear hnn
      go_upto_region 15 with fail
      refine r_region [0,1,2,3,4,5,6,7,8] [49,50,51,52,53,54,55,56,57] [[],[0],[1],[2],[3,2],[2],[4,5,2],[6,2],[2,7]] wr _ [isV (.int .i64 (n:Nat)),isV (.bool true),isV (.bool true),isV (.int .i64 (n:Nat)),isD (tW n),isV (.agg #[.bool sd,.slice aod nd cpd,.int .i64 ed]),isV (.int .i64 (cmpI (n:Int) (dg i:Nat))),isV (.bool false),isV (.bool false)] (by kernel_rfl) ⟨isV_stays _,isV_stays _,isV_stays _,isV_stays _,isD_stays _,isV_stays _,isV_stays _,isV_stays _,isV_stays _,trivial⟩ (by show ∀ s ∈ [49,50,51,52,53,54,55,56,57],s<82;decide) ?_ ?_
      ·intro j hj o ho act U hb hoth hdep
       have hj':j<9:=hj
       have t11':act.tmps[(11:Nat)]?=some (Value.int .i64 (n:Nat)):=(hoth 11 (by decide)).trans rfl
       have t9':act.tmps[(9:Nat)]?=some (Value.pointer (some ⟨gd,0,none⟩)):=(hoth 9 (by decide)).trans rfl
       have dd:=(box_cells29 (HJ.out.2.1.later hb).1).1
       rcases(by omega:j=0∨j=1∨j=2∨j=3∨j=4∨j=5∨j=6∨j=7∨j=8)with rfl|rfl|rfl|rfl|rfl|rfl|rfl|rfl|rfl
       ·obtain rfl:=Option.some.inj ho
        exact .inl ⟨rfl,owp_move rfl t11' ⟨_,rfl,rfl,Below.refl _ _⟩⟩
       ·obtain rfl:=Option.some.inj ho
        have y0:act.tmps[(49:Nat)]?=_:=dV (hdep 0 (by simp[dL])) rfl
        exact .inl ⟨rfl,owp_run1 (w':=U) (by simp[execOp,y0,eval_cst,go_sem,h15]) ⟨_,rfl,rfl,Below.refl _ _⟩⟩
       ·obtain rfl:=Option.some.inj ho
        have y1:act.tmps[(50:Nat)]?=_:=dV (hdep 1 (by simp[dL])) rfl
        exact .inl ⟨rfl,owp_move rfl y1 ⟨_,rfl,rfl,Below.refl _ _⟩⟩
       ·obtain rfl:=Option.some.inj ho
        have y2:act.tmps[(51:Nat)]?=_:=dV (hdep 2 (by simp[dL])) rfl
        exact .inr (wpOp_take rfl rfl rfl rfl y2 (owp_move rfl t11' ⟨_,rfl,rfl,Below.refl _ _⟩))
       ·obtain rfl:=Option.some.inj ho
        have y3:act.tmps[(52:Nat)]?=_:=dV (hdep 3 (by simp[dL])) rfl
        have y2:act.tmps[(51:Nat)]?=_:=dV (hdep 2 (by simp[dL])) rfl
        refine .inr (wpOp_take rfl rfl rfl rfl y2 (owp_call rfl (enters Tryz.func46 (by kernel_rfl) (by kernel_rfl)) (vs:=#[.int .i64 (n:Nat)]) (by simp[eval_get y3]) ?_))
        refine(kWn.out n (by omega) U).mono ?_
        rintro r w' ⟨q1,q2,q3,q4,q5,rfl,hA,hb'⟩
        exact⟨_,rfl,_,rfl,hA,hb'⟩
       ·obtain rfl:=Option.some.inj ho
        have y2:act.tmps[(51:Nat)]?=_:=dV (hdep 2 (by simp[dL])) rfl
        exact .inr (wpOp_take rfl rfl rfl rfl y2 (owp_ldD rfl t9' dd.1 dd.2.1 dd.2.2 ⟨_,rfl,rfl,Below.refl _ _⟩))
       ·obtain rfl:=Option.some.inj ho
        obtain⟨u4,y40,v4⟩:=hdep 4 (by simp[dL])
        have y4:act.tmps[(53:Nat)]?=_:=y40
        have y5:act.tmps[(54:Nat)]?=_:=dV (hdep 5 (by simp[dL])) rfl
        have y2:act.tmps[(51:Nat)]?=_:=dV (hdep 2 (by simp[dL])) rfl
        refine .inr (wpOp_take rfl rfl rfl rfl y2 (owp_call rfl (enters Tryz.func49 (by kernel_rfl) (by kernel_rfl)) (vs:=#[u4,.agg #[.bool sd,.slice aod nd cpd,.int .i64 ed]]) (by simp[eval_get y4,eval_get y5]) ?_))
        refine(kOr.out i n hiK.out (by omega) U _ _ v4 (HJ.out.2.1.later hb).2).mono ?_
        rintro r w' ⟨rfl,hb'⟩
        exact⟨_,rfl,_,rfl,rfl,hb'⟩
       ·obtain rfl:=Option.some.inj ho
        have y6:act.tmps[(55:Nat)]?=_:=dV (hdep 6 (by simp[dL])) rfl
        have y2:act.tmps[(51:Nat)]?=_:=dV (hdep 2 (by simp[dL])) rfl
        exact .inr (wpOp_take rfl rfl rfl rfl y2 (owp_run1 (w':=U) (by simp[execOp,y6,eval_cst,go_sem,hcm]) ⟨_,rfl,rfl,Below.refl _ _⟩))
       ·obtain rfl:=Option.some.inj ho
        have y2:act.tmps[(51:Nat)]?=_:=dV (hdep 2 (by simp[dL])) rfl
        have y7:act.tmps[(56:Nat)]?=_:=dV (hdep 7 (by simp[dL])) rfl
        exact .inl ⟨rfl,owp_run1 (w':=U) (by simp[execOp,y2,y7,eval_cst,go_sem]) ⟨_,rfl,rfl,Below.refl _ _⟩⟩
      ·intro u W9 hb9 hu
       have u8:u 8=.bool false:=hu 8 (by show 8<9;decide)
       clear hu
       simp only[putL,show List.range 9 = [0,1,2,3,4,5,6,7,8] from rfl,List.length_cons,List.length_nil,List.getD_cons_zero,List.getD_cons_succ,List.map_cons,List.map_nil,List.cons_append,List.nil_append,List.foldl_cons,List.foldl_nil,Nat.reduceLT,Nat.reduceMod,Nat.reduceDiv,Nat.reduceMul,Nat.reduceAdd,Nat.reduceEqDiff,reduceIte,Nat.one_ne_zero,Act.put,List.setIfInBounds_toArray,List.set_cons_zero,List.set_cons_succ]
       rw[u8]
       clear u8
       have HK:Hid (NbQ W9 gR s3 ao3 n3 cp3 e3 (tR (i+1))∧OB w W9 (.slice vo i vc) (hxO dg i)∧DNb W9 V4.heap.size (.agg #[.bool s3,.slice ao3 n3 cp3,.int .i64 e3]) (tR (i+1))∧(∀ k,(Value.slice vo i vc).ownBlock=some k→k<V4.heap.size)∧w.heap.size≤W9.heap.size):=⟨HJ.out.1.later hb9,HJ.out.2.2.1.later hb9,HJ.out.2.2.2.1.later hb9,HJ.out.2.2.2.2,Nat.le_trans HSZ.out hb9.size⟩
       clear hb9 HJ HSZ
       have HROW:Hid (W9.ownsRow w.heap.size 5 1 (.slice vo i vc) i (Lib.byteCells (hxO dg i))):=by
        have h:=HK.out.2.1.1
        rw[hxO_len] at h
        exact h
       have hi9:i≤1000:=by have:=hiK.out;have:=hK.out;omega
       go_wp2_with (at_builtin;refine wpList_append_own _ rfl _ _ 65 rfl w.heap.size 5 i0 (.int .u8 0) 1 1 Tryz.underlying65 hi0 hz0 hz1 hz2 rfl (by decide) _ _ _ rfl (HROW.out.alloc _) ⟨W9.heap.size,0,none⟩ 1 1 [.int .u8 _] rfl rfl (cell_one_new _ _ _) (by intro u hu;simp at hu;subst hu;rfl) (by unfold maxLen;omega) (by have:=HK.out.2.2.2.2;omega) (by simp;have:=HK.out.2.2.2.2;omega) ?_)
       intro v' w4 hown4 hgrow _
       rw[hex16_get n hqn] at hown4 hgrow
       have HP:=HK.out.2.1.push (hx_lt8 hqn) (by rw[hxO_len];exact hown4) hgrow
       have hbA:Below W9.heap.size W9 (W9.alloc (.cells #[.int .u8 ((hx n:Nat):Int)] 5)):=(Below.refl _ _).alloc (Nat.le_refl _) _
       have HG:=(HK.out.1.later hbA).grown (HK.out.2.2.1.later hbA) (HK.out.2.1.1.alloc _) HK.out.2.2.2.1 hgrow
       have HF:Hid (NbQ w4 gR s3 ao3 n3 cp3 e3 (tR (i+1))∧OB w w4 v' (hxO dg (i+1))):=⟨HG,by rw[hxO_step,←HN.out];exact HP⟩
       have hsl:=HF.out.2.shape
       clear HP HG hbA hown4 hgrow HK
       go_wp2_with fail
       refine⟨⟨i+1,_,_,_,_,_,hiK.out,HF⟩,?_⟩
       obtain⟨q1,q2,q3⟩:=hsl
       rw[q3,hxO_len]
       have:=hiK.out
       simp[sliceLen]
       omega
     ·have h15:¬ (n:Int)<15:=by omega
      clear hnn h15'
      go_upto_region 15 with fail
      refine r_region [0,1,2,3,4,5,6,7,8] [49,50,51,52,53,54,55,56,57] [[],[0],[1],[2],[3,2],[2],[4,5,2],[6,2],[2,7]] wr _ [isV (.int .i64 (n:Nat)),isV (.bool false),isV (.bool false),isV (undef),isV (undef),isV (undef),isV (undef),isV (undef),isV (.bool false)] (by kernel_rfl) ⟨isV_stays _,isV_stays _,isV_stays _,isV_stays _,isV_stays _,isV_stays _,isV_stays _,isV_stays _,isV_stays _,trivial⟩ (by show ∀ s ∈ [49,50,51,52,53,54,55,56,57],s<82;decide) ?_ ?_
      ·intro j hj o ho act U hb hoth hdep
       have hj':j<9:=hj
       have t11':act.tmps[(11:Nat)]?=some (Value.int .i64 (n:Nat)):=(hoth 11 (by decide)).trans rfl
       have t9':act.tmps[(9:Nat)]?=some (Value.pointer (some ⟨gd,0,none⟩)):=(hoth 9 (by decide)).trans rfl
       rcases(by omega:j=0∨j=1∨j=2∨j=3∨j=4∨j=5∨j=6∨j=7∨j=8)with rfl|rfl|rfl|rfl|rfl|rfl|rfl|rfl|rfl
       ·obtain rfl:=Option.some.inj ho
        exact .inl ⟨rfl,owp_move rfl t11' ⟨_,rfl,rfl,Below.refl _ _⟩⟩
       ·obtain rfl:=Option.some.inj ho
        have y0:act.tmps[(49:Nat)]?=_:=dV (hdep 0 (by simp[dL])) rfl
        exact .inl ⟨rfl,owp_run1 (w':=U) (by simp[execOp,y0,eval_cst,go_sem,h15]) ⟨_,rfl,rfl,Below.refl _ _⟩⟩
       ·obtain rfl:=Option.some.inj ho
        have y1:act.tmps[(50:Nat)]?=_:=dV (hdep 1 (by simp[dL])) rfl
        exact .inl ⟨rfl,owp_move rfl y1 ⟨_,rfl,rfl,Below.refl _ _⟩⟩
       ·obtain rfl:=Option.some.inj ho
        have y2:act.tmps[(51:Nat)]?=_:=dV (hdep 2 (by simp[dL])) rfl
        exact .inr (wpOp_skip rfl rfl rfl rfl y2 (by decide) ⟨_,rfl,rfl,Below.refl _ _⟩)
       ·obtain rfl:=Option.some.inj ho
        have y3:act.tmps[(52:Nat)]?=_:=dV (hdep 3 (by simp[dL])) rfl
        have y2:act.tmps[(51:Nat)]?=_:=dV (hdep 2 (by simp[dL])) rfl
        exact .inr (wpOp_skip rfl rfl rfl rfl y2 (by decide) ⟨_,rfl,rfl,Below.refl _ _⟩)
       ·obtain rfl:=Option.some.inj ho
        have y2:act.tmps[(51:Nat)]?=_:=dV (hdep 2 (by simp[dL])) rfl
        exact .inr (wpOp_skip rfl rfl rfl rfl y2 (by decide) ⟨_,rfl,rfl,Below.refl _ _⟩)
       ·obtain rfl:=Option.some.inj ho
        have y4:act.tmps[(53:Nat)]?=_:=dV (hdep 4 (by simp[dL])) rfl
        have y5:act.tmps[(54:Nat)]?=_:=dV (hdep 5 (by simp[dL])) rfl
        have y2:act.tmps[(51:Nat)]?=_:=dV (hdep 2 (by simp[dL])) rfl
        exact .inr (wpOp_skip rfl rfl rfl rfl y2 (by decide) ⟨_,rfl,rfl,Below.refl _ _⟩)
       ·obtain rfl:=Option.some.inj ho
        have y6:act.tmps[(55:Nat)]?=_:=dV (hdep 6 (by simp[dL])) rfl
        have y2:act.tmps[(51:Nat)]?=_:=dV (hdep 2 (by simp[dL])) rfl
        exact .inr (wpOp_skip rfl rfl rfl rfl y2 (by decide) ⟨_,rfl,rfl,Below.refl _ _⟩)
       ·obtain rfl:=Option.some.inj ho
        have y2:act.tmps[(51:Nat)]?=_:=dV (hdep 2 (by simp[dL])) rfl
        have y7:act.tmps[(56:Nat)]?=_:=dV (hdep 7 (by simp[dL])) rfl
        exact .inl ⟨rfl,owp_run1 (w':=U) (by simp[execOp,y2,y7,eval_cst,go_sem]) ⟨_,rfl,rfl,Below.refl _ _⟩⟩
      ·intro u W9 hb9 hu
       have u8:u 8=.bool false:=hu 8 (by show 8<9;decide)
       clear hu
       simp only[putL,show List.range 9 = [0,1,2,3,4,5,6,7,8] from rfl,List.length_cons,List.length_nil,List.getD_cons_zero,List.getD_cons_succ,List.map_cons,List.map_nil,List.cons_append,List.nil_append,List.foldl_cons,List.foldl_nil,Nat.reduceLT,Nat.reduceMod,Nat.reduceDiv,Nat.reduceMul,Nat.reduceAdd,Nat.reduceEqDiff,reduceIte,Nat.one_ne_zero,Act.put,List.setIfInBounds_toArray,List.set_cons_zero,List.set_cons_succ]
       rw[u8]
       clear u8
       have HK:Hid (NbQ W9 gR s3 ao3 n3 cp3 e3 (tR (i+1))∧OB w W9 (.slice vo i vc) (hxO dg i)∧DNb W9 V4.heap.size (.agg #[.bool s3,.slice ao3 n3 cp3,.int .i64 e3]) (tR (i+1))∧(∀ k,(Value.slice vo i vc).ownBlock=some k→k<V4.heap.size)∧w.heap.size≤W9.heap.size):=⟨HJ.out.1.later hb9,HJ.out.2.2.1.later hb9,HJ.out.2.2.2.1.later hb9,HJ.out.2.2.2.2,Nat.le_trans HSZ.out hb9.size⟩
       clear hb9 HJ HSZ
       have HROW:Hid (W9.ownsRow w.heap.size 5 1 (.slice vo i vc) i (Lib.byteCells (hxO dg i))):=by
        have h:=HK.out.2.1.1
        rw[hxO_len] at h
        exact h
       have hi9:i≤1000:=by have:=hiK.out;have:=hK.out;omega
       go_wp2_with (at_builtin;refine wpList_append_own _ rfl _ _ 65 rfl w.heap.size 5 i0 (.int .u8 0) 1 1 Tryz.underlying65 hi0 hz0 hz1 hz2 rfl (by decide) _ _ _ rfl (HROW.out.alloc _) ⟨W9.heap.size,0,none⟩ 1 1 [.int .u8 _] rfl rfl (cell_one_new _ _ _) (by intro u hu;simp at hu;subst hu;rfl) (by unfold maxLen;omega) (by have:=HK.out.2.2.2.2;omega) (by simp;have:=HK.out.2.2.2.2;omega) ?_)
       intro v' w4 hown4 hgrow _
       rw[hex16_get n hqn] at hown4 hgrow
       have HP:=HK.out.2.1.push (hx_lt8 hqn) (by rw[hxO_len];exact hown4) hgrow
       have hbA:Below W9.heap.size W9 (W9.alloc (.cells #[.int .u8 ((hx n:Nat):Int)] 5)):=(Below.refl _ _).alloc (Nat.le_refl _) _
       have HG:=(HK.out.1.later hbA).grown (HK.out.2.2.1.later hbA) (HK.out.2.1.1.alloc _) HK.out.2.2.2.1 hgrow
       have HF:Hid (NbQ w4 gR s3 ao3 n3 cp3 e3 (tR (i+1))∧OB w w4 v' (hxO dg (i+1))):=⟨HG,by rw[hxO_step,←HN.out];exact HP⟩
       have hsl:=HF.out.2.shape
       clear HP HG hbA hown4 hgrow HK
       go_wp2_with fail
       refine⟨⟨i+1,_,_,_,_,_,hiK.out,HF⟩,?_⟩
       obtain⟨q1,q2,q3⟩:=hsl
       rw[q3,hxO_len]
       have:=hiK.out
       simp[sliceLen]
       omega
  ·obtain rfl:i=K:=by omega
   rw[if_neg hiK'] at q1
   clear hiK'
   go_wp2_with fail
   refine q1.mono ?_
   rintro r w2 ⟨rfl,hb2⟩
   have HO:Hid (OB w w2 (.slice vo i vc) (hxO dg i)):=HI.out.2.later hb2
   have HB:Hid (Bw w w2):=HO.out.2
   have hK2:=hK.out
   clear q1 hb2 HI c0 c1 c2 f0 f1 f2
   by_cases hK0:0<i
   ·have hK1:(0:Int)<(i:Int):=by omega
    obtain⟨L,hLL⟩:∃ L,L=hxO dg i:=⟨_,rfl⟩
    have hLl:L.length=i:=by rw[hLL];exact hxO_len _ _
    have hTE:=hTT.out
    rw[if_pos hK0] at hTE
    have BCV:Hid (BC w2 (.slice vo i vc) L):=by rw[hLL];exact HO.out.bc
    rw[←hLL] at hTE
    obtain⟨B,hB⟩:∃ B:List UInt8,B=sgl ++ [48,120,49,46]:=⟨_,rfl⟩
    obtain⟨C,hC⟩:∃ C:List UInt8,C=B++L:=⟨_,rfl⟩
    obtain⟨D,hD⟩:∃ D:List UInt8,D=C ++ [112]:=⟨_,rfl⟩
    have hBl:B.length≤5:=by have:=HL.out;rw[hB,List.length_append];simp;omega
    have hCl:C.length≤1005:=by rw[hC,List.length_append];omega
    have hDl:D.length≤1006:=by rw[hD,List.length_append];simp;omega
    have hc3:(⟨sgl.toArray⟩:ByteArray).size+(⟨#[48,120,49,46]⟩:ByteArray).size≤9223372036854775807:=by rw[bsz,show(⟨#[48,120,49,46]⟩:ByteArray).size=4 from rfl];have:=HL.out;omega
    have e3:(⟨sgl.toArray⟩:ByteArray)++⟨#[48,120,49,46]⟩=⟨B.toArray⟩:=by rw[hB];exact bytes_cat _ [48,120,49,46]
    have hc4:(⟨B.toArray⟩:ByteArray).size+(⟨L.toArray⟩:ByteArray).size≤9223372036854775807:=by rw[bsz,bsz];omega
    have e4:(⟨B.toArray⟩:ByteArray)++⟨L.toArray⟩=⟨C.toArray⟩:=by rw[hC];exact bytes_cat _ _
    have hc5:(⟨C.toArray⟩:ByteArray).size+(⟨#[112]⟩:ByteArray).size≤9223372036854775807:=by rw[bsz,show(⟨#[112]⟩:ByteArray).size=1 from rfl];omega
    have e5:(⟨C.toArray⟩:ByteArray)++⟨#[112]⟩=⟨D.toArray⟩:=by rw[hD];exact bytes_cat _ [112]
    have hc6:(⟨D.toArray⟩:ByteArray).size+(⟨t.toArray⟩:ByteArray).size≤9223372036854775807:=by rw[bsz,bsz];have:=HL.out;omega
    have e6:(⟨D.toArray⟩:ByteArray)++⟨t.toArray⟩=⟨T.toArray⟩:=by
     rw[bytes_cat,hD,hC,hB,hTE]
     simp
    clear hB hC hD hTE hLL hK0
    go_upto_region 19 with fail
    refine r_region [0,1,2,3,4,5,6,7,8,9] [68,69,70,71,72,73,74,75,76,2] [[],[0],[],[2],[1,3],[4],[],[6],[5,7],[8]] w2 _ [isV (.string ⟨sgl.toArray⟩),isV (.string ⟨B.toArray⟩),isV (.slice vo i vc),isV (.string ⟨L.toArray⟩),isV (.string ⟨C.toArray⟩),isV (.string ⟨D.toArray⟩),isV (.int .i64 top),isV (.string ⟨t.toArray⟩),isV (.string ⟨T.toArray⟩),isV (.string ⟨T.toArray⟩)] (by kernel_rfl) ⟨isV_stays _,isV_stays _,isV_stays _,isV_stays _,isV_stays _,isV_stays _,isV_stays _,isV_stays _,isV_stays _,isV_stays _,trivial⟩ (by show ∀ s ∈ [68,69,70,71,72,73,74,75,76,2],s<82;decide) ?_ ?_
    ·intro j hj o ho act U hb hoth hdep
     have hj':j<10:=hj
     have t3':act.tmps[(3:Nat)]?=some (Value.string ⟨sgl.toArray⟩):=(hoth 3 (by decide)).trans rfl
     have t8':act.tmps[(8:Nat)]?=some (Value.slice vo i vc):=(hoth 8 (by decide)).trans rfl
     have t6':act.tmps[(6:Nat)]?=some (Value.int .i64 top):=(hoth 6 (by decide)).trans rfl
     rcases(by omega:j=0∨j=1∨j=2∨j=3∨j=4∨j=5∨j=6∨j=7∨j=8∨j=9)with rfl|rfl|rfl|rfl|rfl|rfl|rfl|rfl|rfl|rfl
     ·obtain rfl:=Option.some.inj ho
      exact .inl ⟨rfl,owp_move rfl t3' ⟨_,rfl,rfl,Below.refl _ _⟩⟩
     ·obtain rfl:=Option.some.inj ho
      have y0:act.tmps[(68:Nat)]?=_:=dV (hdep 0 (by simp[dL])) rfl
      exact .inl ⟨rfl,owp_run1 (w':=U) (by simp[execOp,y0,eval_cst,go_sem,hc3,e3];have:=HL.out;omega) ⟨_,rfl,rfl,Below.refl _ _⟩⟩
     ·obtain rfl:=Option.some.inj ho
      exact .inl ⟨rfl,owp_move rfl t8' ⟨_,rfl,rfl,Below.refl _ _⟩⟩
     ·obtain rfl:=Option.some.inj ho
      have y2:act.tmps[(70:Nat)]?=_:=dV (hdep 2 (by simp[dL])) rfl
      exact .inl ⟨rfl,owp_run1 (w':=U) (by simp[execOp,eval_get y2,(BCV.out.later hb).conv]) ⟨_,rfl,rfl,Below.refl _ _⟩⟩
     ·obtain rfl:=Option.some.inj ho
      have y1:act.tmps[(69:Nat)]?=_:=dV (hdep 1 (by simp[dL])) rfl
      have y3:act.tmps[(71:Nat)]?=_:=dV (hdep 3 (by simp[dL])) rfl
      exact .inl ⟨rfl,owp_run1 (w':=U) (by simp[execOp,y1,y3,eval_cst,go_sem,hc4,e4];have:=HL.out;omega) ⟨_,rfl,rfl,Below.refl _ _⟩⟩
     ·obtain rfl:=Option.some.inj ho
      have y4:act.tmps[(72:Nat)]?=_:=dV (hdep 4 (by simp[dL])) rfl
      exact .inl ⟨rfl,owp_run1 (w':=U) (by simp[execOp,y4,eval_cst,go_sem,hc5,e5];have:=HL.out;omega) ⟨_,rfl,rfl,Below.refl _ _⟩⟩
     ·obtain rfl:=Option.some.inj ho
      exact .inl ⟨rfl,owp_move rfl t6' ⟨_,rfl,rfl,Below.refl _ _⟩⟩
     ·obtain rfl:=Option.some.inj ho
      have y6:act.tmps[(74:Nat)]?=_:=dV (hdep 6 (by simp[dL])) rfl
      refine .inl ⟨rfl,owp_call rfl (enters Tryz.func29 (by kernel_rfl) (by kernel_rfl)) (vs:=#[.int .i64 top]) (by simp[eval_get y6]) ?_⟩
      refine(kT.out U).mono ?_
      rintro r w' ⟨rfl,hb'⟩
      exact⟨_,rfl,_,rfl,rfl,hb'⟩
     ·obtain rfl:=Option.some.inj ho
      have y5:act.tmps[(73:Nat)]?=_:=dV (hdep 5 (by simp[dL])) rfl
      have y7:act.tmps[(75:Nat)]?=_:=dV (hdep 7 (by simp[dL])) rfl
      exact .inl ⟨rfl,owp_run1 (w':=U) (by simp[execOp,y5,y7,eval_cst,go_sem,hc6,e6];have:=HL.out;omega) ⟨_,rfl,rfl,Below.refl _ _⟩⟩
     ·obtain rfl:=Option.some.inj ho
      have y8:act.tmps[(76:Nat)]?=_:=dV (hdep 8 (by simp[dL])) rfl
      exact .inl ⟨rfl,owp_assign rfl y8 ⟨_,rfl,rfl,Below.refl _ _⟩⟩
    ·intro u W9 hb9 hu
     have u9:u 9=.string ⟨T.toArray⟩:=hu 9 (by show 9<10;decide)
     clear hu
     simp only[putL,show List.range 10 = [0,1,2,3,4,5,6,7,8,9] from rfl,List.length_cons,List.length_nil,List.getD_cons_zero,List.getD_cons_succ,List.map_cons,List.map_nil,List.cons_append,List.nil_append,List.foldl_cons,List.foldl_nil,Nat.reduceLT,Nat.reduceMod,Nat.reduceDiv,Nat.reduceMul,Nat.reduceAdd,Nat.reduceEqDiff,reduceIte,Nat.one_ne_zero,Act.put,List.setIfInBounds_toArray,List.set_cons_zero,List.set_cons_succ]
     rw[u9]
     clear u9
     have HB9:Hid (Bw w W9):=HB.out.trans (hb9.mono HB.out.size)
     clear hb9
     go_wp2
     go_ret
     exact⟨rfl,HB9.out⟩
   ·obtain rfl:i=0:=by omega
    have hTE:=hTT.out
    rw[if_neg hK0] at hTE
    obtain⟨B,hB⟩:∃ B:List UInt8,B=sgl ++ [48,120,49,112]:=⟨_,rfl⟩
    have hBl:B.length≤5:=by have:=HL.out;rw[hB,List.length_append];simp;omega
    have hc3:(⟨sgl.toArray⟩:ByteArray).size+(⟨#[48,120,49,112]⟩:ByteArray).size≤9223372036854775807:=by rw[bsz,show(⟨#[48,120,49,112]⟩:ByteArray).size=4 from rfl];have:=HL.out;omega
    have e3:(⟨sgl.toArray⟩:ByteArray)++⟨#[48,120,49,112]⟩=⟨B.toArray⟩:=by rw[hB];exact bytes_cat _ [48,120,49,112]
    have hc4:(⟨B.toArray⟩:ByteArray).size+(⟨t.toArray⟩:ByteArray).size≤9223372036854775807:=by rw[bsz,bsz];have:=HL.out;omega
    have e4:(⟨B.toArray⟩:ByteArray)++⟨t.toArray⟩=⟨T.toArray⟩:=by
     rw[bytes_cat,hB,hTE]
     simp
    clear hB hBl hTE hK2 hK0
    have q2:=kT.out w2
    go_wp2_with fail
    refine q2.mono ?_
    rintro r w5 ⟨rfl,hb5⟩
    have HB5:Hid (Bw w w5):=HB.out.trans (hb5.mono HB.out.size)
    clear q2 hb5
    go_wp2_with fail
    go_ret
    exact⟨rfl,HB5.out⟩
theorem least_ex (p:Nat→Bool):∀ n,p n=true→∃ k,k≤n∧p k=true∧∀ i,i<k→p i=false:=by
 intro n
 induction n using Nat.strongRecOn with
 | _ n ih =>
  intro h
  by_cases c:∃ j,j<n∧p j=true
  ·obtain⟨j,hj,hp⟩:=c
   obtain⟨k,h1,h2,h3⟩:=ih j hj hp
   exact⟨k,by omega,h2,h3⟩
  ·refine⟨n,Nat.le_refl _,h,fun i hi=>?_⟩
   cases hp:p i
   ·rfl
   ·exact absurd ⟨i,hi,hp⟩ c
theorem e16_16:(16:Nat)^16=18446744073709551616:=by decide
def hxV (u i:Nat):Nat:=u*16^i % 18446744073709551616
def hxG (u i:Nat):Nat:=u / 16^(15 - i) % 16
theorem hxV_dg {u i:Nat} (hi:i≤15):16*hxV u i / 18446744073709551616=hxG u i:=by
 unfold hxV hxG
 have e1:(18446744073709551616:Nat)=16^(15 - i)*16*16^i:=by
  rw[←Nat.pow_succ,←Nat.pow_add,show 15 - i+1+i=16 by omega,e16_16]
 have key:∀ Q S x:Nat,0<S→16*(x % (Q*16)*S) / (Q*16*S)=x / Q % 16:=by
  intro Q S x hS
  have e2:16*(x % (Q*16)*S)=x % (Q*16)*(16*S):=by ac_rfl
  rw[e2,Nat.mul_assoc Q,Nat.mul_div_mul_right _ _ (by omega),Nat.mod_mul_right_div_self]
 rw[e1,Nat.mul_mod_mul_right]
 exact key _ _ _ (Nat.pow_pos (by decide))
theorem hxV_step (u i:Nat):16*hxV u i % 18446744073709551616=hxV u (i+1):=by
 unfold hxV
 rw[Nat.mul_mod_mod,Nat.pow_succ]
 congr 1
 ac_rfl
theorem hxV_16 (u:Nat):hxV u 16=0:=by
 unfold hxV
 rw[e16_16]
 exact Nat.mul_mod_left _ _
theorem trim_id {L:List UInt8} (h:∀ x,L.getLast?=some x→x≠48):Lib.trimRightB L 48=L:=by
 obtain⟨z,h1,h2⟩:=trimR_split L
 cases z with
 | zero =>
  rw[List.replicate_zero,List.append_nil] at h1
  exact h1.symm
 | succ z =>
  exfalso
  have h3:=congrArg List.getLast? h1
  rw[List.replicate_succ',←List.append_assoc,List.getLast?_concat] at h3
  exact h 48 h3 rfl
theorem hxO_zero {dg:Nat→Nat} {K:Nat}:∀ j,(∀ i,K≤i→i<K+j→dg i=0)→hxO dg (K+j)=hxO dg K++List.replicate j 48
 | 0,_=>by simp
 | j+1,h=>by
  rw[←Nat.add_assoc,hxO_step,hxO_zero j (fun i h1 h2=>h i h1 (by omega)),h (K+j) (by omega) (by omega),List.replicate_succ',List.append_assoc]
  rfl
theorem hxO_congr {f g:Nat→Nat}:∀ K,(∀ i,i<K→f i=g i)→hxO f K=hxO g K
 | 0,_=>rfl
 | K+1,h=>by rw[hxO_step,hxO_step,hxO_congr K (fun i hi=>h i (by omega)),h K (by omega)]
theorem hx_ne {d:Nat} (h0:d≠0) (h:d<16):UInt8.ofNat (hx d)≠48:=by
 intro h9
 have h10:=congrArg UInt8.toNat h9
 rw[UInt8.toNat_ofNat_of_lt' (hx_lt8 h)] at h10
 have h11:(48:UInt8).toNat=48:=rfl
 unfold hx at h10
 split at h10 <;> omega
theorem hxO_last {dg:Nat→Nat} {K:Nat} (h:∀ i,i<K→dg i<16) (h0:∀ k,K=k+1→dg k≠0):∀ x,(hxO dg K).getLast?=some x→x≠48:=by
 intro x hx
 cases K with
 | zero=>exact absurd hx (by simp[hxO])
 | succ k =>
  rw[hxO_step,List.getLast?_concat] at hx
  obtain rfl:=Option.some.inj hx
  exact hx_ne (h0 k rfl) (h k (by omega))
theorem hexL_getQ (u j k:Nat) (h:k<(hexL u j).length):(hexL u j)[k]=UInt8.ofNat (hx (u / 16^(j - k) % 16)):=by
 simp[hexL]
theorem hxO_get (dg:Nat→Nat) (K i:Nat) (h:i<(hxO dg K).length):(hxO dg K)[i]=UInt8.ofNat (hx (dg i)):=by
 simp[hxO]
theorem hxD_16 {u:Nat} (hu:u<18446744073709551616):nzL (16 - (hxD u).length)++hxD u=hxO (hxG u) 16:=by
 obtain⟨a,b,c⟩:=hxJ_spec 15 u (by rw[show(15+1)=16 from rfl,e16_16];exact hu)
 unfold hxD
 generalize hxJ 15 u=j at *
 have l1:(hexL u j).length=j+1:=hexL_length u j
 have l2:(nzL (16 - (hexL u j).length)).length=15 - j:=by rw[nz_len,l1];omega
 have hlt:u<16^(j+1):=by
  have:=(Nat.div_lt_iff_lt_mul (Nat.pow_pos (by decide:0<16))).1 a
  rw[Nat.pow_succ,Nat.mul_comm]
  exact this
 apply List.ext_getElem
 ·rw[List.length_append,l2,l1,hxO_len];omega
 ·intro i h1 h2
  have h3:i<16:=by rw[hxO_len] at h2;exact h2
  rw[hxO_get]
  by_cases hi:i<15 - j
  ·rw[List.getElem_append_left (by rw[l2];exact hi)]
   have e3:hxG u i=0:=by
    unfold hxG
    rw[Nat.div_eq_of_lt (Nat.lt_of_lt_of_le hlt (Nat.pow_le_pow_right (by decide) (by omega)))]
   rw[e3]
   unfold nzL
   rw[List.getElem_replicate]
   rfl
  ·rw[List.getElem_append_right (by rw[l2];omega),hexL_getQ]
   unfold hxG
   rw[l2,show j - (i - (15 - j))=15 - i by omega]
theorem hxB_eq {m:Nat} (h0:m≠0) (hm:m<18446744073709551616):1≤bl m∧bl m≤64∧m*2^(65 - bl m)=hxB m+18446744073709551616∧hxB m<18446744073709551616:=by
 have b1:1≤bl m:=Nat.pos_of_ne_zero fun h=>by
  have:=(bl_le m 0).1 (by omega)
  rw[Nat.pow_zero] at this
  omega
 have b2:bl m≤64:=(bl_le m 64).2 (by rw[show(2:Nat)^64=18446744073709551616 from by decide];exact hm)
 have h1:=bl_pow_le h0
 have h2:m<2^bl m:=(bl_le m (bl m)).1 (Nat.le_refl _)
 have h3:2^(bl m - 1)*2^(65 - bl m)≤m*2^(65 - bl m):=Nat.mul_le_mul_right _ h1
 have h4:m*2^(65 - bl m)<2^bl m*2^(65 - bl m):=Nat.mul_lt_mul_of_pos_right h2 (Nat.two_pow_pos _)
 rw[←Nat.pow_add,show bl m - 1+(65 - bl m)=64 by omega] at h3
 rw[←Nat.pow_add,show bl m+(65 - bl m)=65 by omega] at h4
 have e64:(2:Nat)^64=18446744073709551616:=by decide
 have e65:(2:Nat)^65=36893488147419103232:=by decide
 rw[e64] at h3
 rw[e65] at h4
 unfold hxB
 generalize m*2^(65 - bl m)=x at *
 exact⟨b1,b2,by omega,by omega⟩
theorem hxB_ne {m:Nat} (hodd:m % 2=1) (hm:m<18446744073709551616):hxB m=0↔bl m=1:=by
 obtain⟨b1,b2,b3,b4⟩:=hxB_eq (m:=m) (by omega) hm
 have e64:(2:Nat)^64=18446744073709551616:=by decide
 constructor
 ·intro h
  rw[h,Nat.zero_add,←e64,show(2:Nat)^64=2^(bl m - 1)*2^(65 - bl m) by rw[←Nat.pow_add,show bl m - 1+(65 - bl m)=64 by omega]] at b3
  have h2:=Nat.eq_of_mul_eq_mul_right (Nat.two_pow_pos _) b3
  by_cases h3:bl m=1
  ·exact h3
  ·obtain⟨k,hk⟩:∃ k,bl m - 1=k+1:=⟨bl m - 2,by omega⟩
   rw[hk,Nat.pow_succ] at h2
   omega
 ·intro h
  have h2:m<2^bl m:=(bl_le m (bl m)).1 (Nat.le_refl _)
  rw[h] at h2
  have h3:m=1:=by omega
  subst h3
  rw[h] at b3
  have e4:1*2^(65 - 1)=18446744073709551616:=by decide
  rw[e4] at b3
  omega
theorem hxR_eq {m z r P:Nat} (h0:m≠0) (hm:m<18446744073709551616) (hP:P+1=bl m+z) (hr:r+2^P=m*2^z):r*18446744073709551616=hxB m*2^P:=by
 obtain⟨b1,b2,b3,b4⟩:=hxB_eq h0 hm
 have e64:(18446744073709551616:Nat)=2^64:=by decide
 have key:∀ M Q:Nat,M*2^(65 - bl m)=hxB m+Q→m*2^z*Q=M*2^(65 - bl m)*2^P→(r+2^P)*Q=(hxB m+Q)*2^P→r*Q=hxB m*2^P:=by
  intro M Q g1 g2 g3
  rw[Nat.add_mul,Nat.add_mul,Nat.mul_comm Q (2^P)] at g3
  exact Nat.add_right_cancel g3
 have e2:m*2^z*18446744073709551616=m*2^(65 - bl m)*2^P:=by
  rw[e64,Nat.mul_assoc,Nat.mul_assoc,←Nat.pow_add,←Nat.pow_add,show z+64=65 - bl m+P by omega]
 exact key m 18446744073709551616 b3 e2 (by rw[hr,e2,b3])
def hxR (r P i:Nat):Nat:=r*16^i % 2^P
theorem hxR_V {u r P:Nat} (h:r*18446744073709551616=u*2^P) (i:Nat):hxR r P i*18446744073709551616=hxV u i*2^P:=by
 unfold hxR hxV
 rw[←Nat.mul_mod_mul_right,←Nat.mul_mod_mul_right]
 have e:r*16^i*18446744073709551616=u*16^i*2^P:=by
  rw[Nat.mul_right_comm,h,Nat.mul_right_comm]
 rw[e,Nat.mul_comm (2^P)]
theorem hxR_z {u r P:Nat} (h:r*18446744073709551616=u*2^P) (i:Nat):hxR r P i=0↔hxV u i=0:=by
 have h1:=hxR_V h i
 have hp:=Nat.two_pow_pos P
 constructor
 ·intro h2
  rw[h2,Nat.zero_mul] at h1
  rcases Nat.mul_eq_zero.1 h1.symm with h3|h3 <;> omega
 ·intro h2
  rw[h2,Nat.zero_mul] at h1
  omega
theorem hxR_dg {u r P:Nat} (h:r*18446744073709551616=u*2^P) (i:Nat):16*hxR r P i / 2^P=16*hxV u i / 18446744073709551616:=by
 have h1:=hxR_V h i
 have hp:=Nat.two_pow_pos P
 have e1:16*hxR r P i / 2^P=16*hxR r P i*18446744073709551616 / (2^P*18446744073709551616):=(Nat.mul_div_mul_right _ _ (by decide)).symm
 have e2:16*hxV u i / 18446744073709551616=16*hxV u i*2^P / (18446744073709551616*2^P):=(Nat.mul_div_mul_right _ _ hp).symm
 rw[e1,e2,Nat.mul_assoc,Nat.mul_assoc 16 (hxV u i),h1,Nat.mul_comm (2^P)]
theorem hxR_step (r P i:Nat):16*hxR r P i % 2^P=hxR r P (i+1):=by
 unfold hxR
 rw[Nat.mul_mod_mod,Nat.pow_succ]
 congr 1
 ac_rfl
theorem hx_same {m z r P:Nat} (hodd:m % 2=1) (hm:m<18446744073709551616) (hP:P+1=bl m+z) (hr:r+2^P=m*2^z):∃ K,K≤16∧(∀ i,i<K→hxR r P i≠0)∧hxR r P K=0∧(0<K↔1<bl m)∧hxC m=hxO (fun i=>16*hxR r P i / 2^P) K:=by
 have h0:m≠0:=by omega
 obtain⟨b1,b2,b3,b4⟩:=hxB_eq h0 hm
 have hu:=hxR_eq h0 hm hP hr
 have hne:=hxB_ne hodd hm
 unfold hxC
 rw[hxD_16 b4]
 generalize hxB m=u at *
 obtain⟨K,k1,k2,k3⟩:=least_ex (fun i=>decide (hxV u i=0)) 16 (decide_eq_true (hxV_16 u))
 have k2:=of_decide_eq_true k2
 have k3:∀ i,i<K→hxV u i≠0:=fun i hi=>of_decide_eq_false (k3 i hi)
 have hz:∀ j,hxV u (K+j)=0:=by
  intro j
  induction j with
  | zero=>exact k2
  | succ j ih=>rw[←Nat.add_assoc,←hxV_step,ih]
 refine⟨K,k1,fun i hi h=>k3 i hi ((hxR_z hu i).1 h),(hxR_z hu K).2 k2,?_,?_⟩
 ·have e0:hxV u 0=u:=by unfold hxV;rw[Nat.pow_zero,Nat.mul_one,Nat.mod_eq_of_lt b4]
  constructor
  ·intro h
   have:=k3 0 h
   rw[e0] at this
   have:bl m≠1:=fun h9=>this (hne.2 h9)
   omega
  ·intro h
   refine Nat.pos_of_ne_zero fun h9=>?_
   rw[h9,e0] at k2
   have:=hne.1 k2
   omega
 ·have e1:hxO (fun i=>16*hxR r P i / 2^P) K=hxO (hxG u) K:=by
   refine hxO_congr K fun i hi=>?_
   rw[hxR_dg hu,hxV_dg (by omega)]
  have e2:hxO (hxG u) 16=hxO (hxG u) K++List.replicate (16 - K) 48:=by
   have:=hxO_zero (dg:=hxG u) (K:=K) (16 - K) (fun i h1 h2=>by
    rw[←hxV_dg (by omega),show i=K+(i - K) by omega,hz])
   rw[show K+(16 - K)=16 by omega] at this
   exact this
  rw[e1,e2,trimR_app]
  refine trim_id (hxO_last (fun i hi=>Nat.mod_lt _ (by decide)) ?_)
  intro k hk h9
  subst hk
  rw[←hxV_dg (by omega)] at h9
  have h1:=k3 k (by omega)
  have h2:=hxV_step u k
  rw[k2] at h2
  have h3:=Nat.div_add_mod (16*hxV u k) 18446744073709551616
  rw[h9,h2] at h3
  omega
theorem hx_dn {x d P:Nat} (h:d=x / 2^P):((x:Nat):Int) - ((d:Nat):Int)*((2^P:Nat):Int)=((x % 2^P:Nat):Int):=by
 have h1:=Nat.div_add_mod x (2^P)
 rw[←h,Nat.mul_comm] at h1
 rw[←Int.natCast_mul]
 generalize 2^P=M at *
 generalize x % M=y at *
 generalize d*M=z at *
 omega
theorem hx_lt16 {r P i:Nat}:hxR r P i<2^P∧16*hxR r P i<2^(P+4)∧16*hxR r P i / 2^P≤15∧16*hxR r P i / 2^P<2^4:=by
 have h1:hxR r P i<2^P:=Nat.mod_lt _ (Nat.two_pow_pos P)
 have h2:16*hxR r P i / 2^P<16:=(Nat.div_lt_iff_lt_mul (Nat.two_pow_pos P)).2 (by omega)
 refine⟨h1,by rw[Nat.pow_add];omega,by omega,by omega⟩
theorem un_16 {x P:Nat}:un ((x:Nat):Int) P=un ((16*x:Nat):Int) (P+4):=by
 have h:=un_shiftD ((x:Nat):Int) P 4
 rw[←Int.natCast_mul,show x*2^4=16*x by omega] at h
 exact h
theorem un_up {x P:Nat}:un ((x:Nat):Int) 0=un (((x:Nat):Int)*((2^P:Nat):Int)) P:=by
 have h:=un_shiftD ((x:Nat):Int) 0 P
 rw[Nat.zero_add] at h
 exact h
theorem d4HexA {a:Nat} (w:World) (ha:a<18446744073709551616) :
  Calls Tryz.prog 12 #[.float .f64 a] w fun r w'=>r=.returned (.string ⟨(hxTx a).toArray⟩)∧Bw w w':=by
 unfold hxTx
 rcases(by omega:9218868437227405312<mag a∨mag a=9218868437227405312∨mag a<9218868437227405312)with hf|hf|hf
 ·rw[if_pos hf]
  refine(d4Hx_w a _ w (fun W=>d4word_nan a (neg a) W (fun W=>Ie.c33 a ha W) (word_on ha hf))).mono ?_
  rintro r w' ⟨rfl,rfl⟩
  exact⟨rfl,Below.refl _ _⟩
 ·rw[if_neg (by omega),if_pos hf]
  obtain⟨o1,o2⟩:=word_o1 ha hf
  refine(d4Hx_w a _ w (fun W=>d4word_inf a (neg a) W (fun W=>Ie.c33 a ha W) o1 o2)).mono ?_
  rintro r w' ⟨rfl,rfl⟩
  exact⟨rfl,Below.refl _ _⟩
 ·rw[if_neg (by omega),if_neg (by omega)]
  have kw:=fun W=>d4word ha hf W
  obtain⟨s1,s2⟩:=sg_if (neg a)
  rw[s1] at kw
  have ho:=dg_o0 ha (Nat.le_of_lt hf)
  by_cases hz:mag a=0
  ·rw[decide_eq_true hz] at ho
   have e:hxT a = [48,120,48,112,48]:=by
    have h1:(Ie.sM a).toNat=0:=(num_zero hz).1
    unfold hxT
    rw[if_pos h1]
   rw[e]
   have h:=d4Hx_0 a (sgL (neg a) []) w ho s2 kw
   rw[sg_app] at h
   refine h.mono ?_
   rintro r w' ⟨rfl,rfl⟩
   exact⟨rfl,Below.refl _ _⟩
  ·rw[decide_eq_false hz] at ho
   obtain⟨o1,o2,o3,o4,o5⟩:=num_parts hf hz
   have hA0:=dg_fU hz
   have hA:=fU_lt a
   have hAe:fU a=nM a*2^(Ie.sE a+1074).toNat:=by rw[o5];exact(val_mant a hf).1.symm
   have hT:hxT a=hxL (bl (nM a)) (hxC (nM a)) (Lib.itoa (Ie.sE a+bl (nM a) - 1)):=by
    have h1:¬ (Ie.sM a).toNat=0:=by show ¬ nM a=0;omega
    unfold hxT
    rw[if_neg h1]
    rfl
   rw[hT]
   obtain⟨b1,b2⟩:=bl_bU hA hA0
   have hb:=bU_eq
   have hm64:nM a<18446744073709551616:=by omega
   obtain⟨c1,c2,-,-⟩:=hxB_eq (m:=nM a) (by omega) hm64
   have hbl:bl (fU a)=bl (nM a)+(Ie.sE a+1074).toNat:=by rw[hAe];exact bl_shlD (by omega)
   have hp1:=bl_pow_le hA0
   have hp2:fU a<2^bl (fU a):=(bl_le _ _).1 (Nat.le_refl _)
   obtain⟨z,hz9⟩:∃ z,z=(Ie.sE a+1074).toNat:=⟨_,rfl⟩
   have hE:Ie.sE a=(z:Int) - 1074:=by omega
   rw[←hz9] at hAe hbl
   rw[hE]
   obtain⟨P,hP⟩:∃ P,P+1=bl (nM a)+z:=⟨bl (nM a)+z - 1,by omega⟩
   rw[hbl,←hP] at hp1 hp2
   rw[Nat.add_sub_cancel] at hp1
   obtain⟨r,hr⟩:∃ r,r+2^P=fU a:=⟨fU a - 2^P,by omega⟩
   have hr2:r<2^P:=by rw[Nat.pow_succ] at hp2;omega
   have hr3:=hr
   rw[hAe] at hr3
   obtain⟨K,k1,k2,k3,k4,k5⟩:=hx_same o1 hm64 hP hr3
   have htop:(z:Int) - 1074+(bl (nM a):Int) - 1=(P:Int) - 1074:=by omega
   rw[htop,k5]
   have hPb:P≤2300:=by omega
   have hr0:hxR r P 0=r:=by unfold hxR;rw[Nat.pow_zero,Nat.mul_one,Nat.mod_eq_of_lt hr2]
   have hbl3:(bl (fU a):Int)=(P:Int)+1:=by omega
   clear hAe hbl hp1 hp2 hr3 hE hz9 k5 hT o5
   refine d4Hx_1 a ((P:Int)+1 - 1074) ((P:Int) - 1074) (1074 - (P:Int)) K (sgL (neg a) []) (Lib.itoa ((P:Int) - 1074)) _ (fun i=>16*hxR r P i / 2^P) (un ((fU a:Nat):Int) 1074) (un ((fU a:Nat):Int) P) (un 1 0) (fun i=>un ((hxR r P i:Nat):Int) P) (fun i=>un ((16*hxR r P i:Nat):Int) P) (fun i=>un ((16*hxR r P i / 2^P:Nat):Int) 0) (fun n=>un ((n:Nat):Int) 0) (fun i=>decide (16*hxR r P i % 2^P=0)) w (by show(FloatKind.f64.format.order a 0==some Ordering.eq)=false;exact ho) s2 (itoa_lenQ (by omega)) (by omega:K≤1000) (by rw[IntKind.wrap_i64];omega) (by rw[IntKind.wrap_i64];omega) kw (fun W=>d4abs ha W) ?_ ?_ ?_ ?_ ?_ ?_ ?_ ?_ ?_ ?_ ?_ (fun W=>rdecimal4 _ W (by omega)) ?_
   ·intro W Y hY
    have h:=ghigh (nat_lt hA) (by omega) (by omega) (show((fU a:Nat):Int)≠0 by omega) hY
    rw[Int.natAbs_natCast,hbl3] at h
    exact h
   ·intro W X hX
    have h:=gscaled (k:=1074 - (P:Int)) (un_gn (nat_lt hA) (by omega) (by omega)) hX (by omega)
    rw[gK_un (q:=P) (by omega)] at h
    exact h.mono fun r w' h=>outQ h
   ·exact fun W=>(dwholeU (n:=1) (by omega) W).mono fun r w' h=>outQ h
   ·intro W X Y hX hY
    have e1:un 1 0=un ((2^P:Nat):Int) P:=by
     have h:=un_up (x:=1) (P:=P)
     rw[show((1:Nat):Int)=1 from rfl,Int.one_mul] at h
     exact h
    rw[e1] at hY
    have h:=gless (un_gn (p:=P) (nat_lt hA) (by omega) (by omega)) (un_gn (p:=P) (nat_lt (show 2^P<2^(P+1)from Nat.pow_lt_pow_right (by decide) (by omega))) (by omega) (by omega)) hX hY
    rw[gD_un,show((fU a:Nat):Int) - ((2^P:Nat):Int)=((r:Nat):Int) by omega] at h
    show Calls _ _ _ _ fun r' w'=>OutQ W (un ((hxR r P 0:Nat):Int) P) r' w'
    rw[hr0]
    exact h.mono fun r w' h=>outQ h
   ·intro i hi W X hX
    have h:=sgQ (nat_lt (hx_lt16 (r:=r) (P:=P) (i:=i)).1) (by omega) (by omega) hX
    have e:(if((hxR r P i:Nat):Int)=0 then(0:Int)else if((hxR r P i:Nat):Int)<0 then -1 else 1)=if i<K then 1 else 0:=by
     by_cases hK:i<K
     ·have:=k2 i hK
      rw[if_pos hK,if_neg (by omega),if_neg (by omega)]
     ·obtain rfl:i=K:=by omega
      rw[if_neg hK,k3]
      rfl
    rw[e] at h
    exact h
   ·intro i hi W X hX
    have hX2:DN W X (un ((16*hxR r P i:Nat):Int) (P+4)):=by rw[←un_16];exact hX
    have h:=gscaled (k:=4) (un_gn (nat_lt (hx_lt16 (r:=r) (P:=P) (i:=i)).2.1) (by omega) (by omega)) hX2 (by omega)
    rw[gK_un (q:=P) (by omega)] at h
    exact h.mono fun r w' h=>outQ h
   ·intro i hi W X hX
    exact(gcutN (p:=P) (K:=2^P) rfl (hx_lt16 (r:=r) (P:=P) (i:=i)).2.1 (by omega) (by omega) hX).mono fun r w' h=>outS h
   ·intro i hi W X Y hX hY
    obtain⟨q1,q2,q3,q4⟩:=hx_lt16 (r:=r) (P:=P) (i:=i)
    have hY2:DN W Y (un (((16*hxR r P i / 2^P:Nat):Int)*((2^P:Nat):Int)) P):=by rw[←un_up];exact hY
    have h:=glessB (un_gn (p:=P) (nat_lt q2) (by omega) (by omega)) (un_gn (p:=P) (by rw[←Int.natCast_mul];exact nat_lt (mulN q4 (show 2^P<2^(P+1)from Nat.pow_lt_pow_right (by decide) (by omega)))) (by omega) (by omega)) hX hY2
    rw[gD_un,hx_dn rfl,hxR_step] at h
    exact h
   ·exact fun n hn W=>(dwholeU (n:=(n:Nat)) (by omega) W).mono fun r w' h=>outQ h
   ·intro i n hi hn W X Y hX hY
    obtain⟨q1,q2,q3,q4⟩:=hx_lt16 (r:=r) (P:=P) (i:=i)
    exact dorderU (nat_lt (show n<2^4 by omega)) (nat_lt q4) (by omega) (by omega) (by omega) hX hY
   ·exact fun i hi=>(hx_lt16 (r:=r) (P:=P) (i:=i)).2.2.1
   ·show sgL (neg a) (hxL (bl (nM a)) _ _)=_
    rw[←sg_app]
    unfold hxL
    by_cases hK:0<K
    ·rw[if_pos hK,if_pos (k4.1 hK)]
    ·rw[if_neg hK,if_neg (fun h=>hK (k4.2 h))]
theorem pt_n {d:List UInt8} {x:Int} (hd:1≤d.length) (h:x<0):ptL d ((d.length:Int) - 1 - x) = [48,46]++(nzL (-x - 1)++d):=by
 have e:nzL ((d.length:Int) - 1 - x+1 - (d.length:Int))=48 :: nzL (-x - 1):=by
  unfold nzL
  rw[show((d.length:Int) - 1 - x+1 - (d.length:Int)).toNat=(-x - 1).toNat+1 by omega,List.replicate_succ]
 unfold ptL
 rw[if_neg (by omega)]
 simp only[]
 rw[e,show(48 :: nzL (-x - 1)++d).length - ((d.length:Int) - 1 - x).toNat=1 by rw[List.length_append,List.length_cons,nz_len];omega]
 rfl
theorem pt_i {d:List UInt8} {x:Int} (hd:1≤d.length) (h:(d.length:Int)≤x+1):ptL d ((d.length:Int) - 1 - x)=d++nzL (x+1 - d.length):=by
 unfold ptL
 rw[if_pos (by omega),show nzL (1 - (d.length:Int)) = [] by unfold nzL;rw[show(1 - (d.length:Int)).toNat=0 by omega];rfl,List.nil_append,show -((d.length:Int) - 1 - x)=x+1 - d.length by omega]
theorem pt_p {d:List UInt8} {x:Int} {q:Nat} (h0:¬ x<0) (h:¬ (d.length:Int)≤x+1) (hq:x+1=(q:Int)):ptL d ((d.length:Int) - 1 - x)=d.take q++46 :: d.drop q:=by
 have e:nzL ((d.length:Int) - 1 - x+1 - (d.length:Int)) = []:=by
  unfold nzL
  rw[show((d.length:Int) - 1 - x+1 - (d.length:Int)).toNat=0 by omega]
  rfl
 unfold ptL
 rw[if_neg (by omega)]
 simp only[]
 rw[e,List.nil_append,show d.length - ((d.length:Int) - 1 - x).toNat=q by omega]
theorem d4ShortestA {a:Nat} (w:World) (ha:a<18446744073709551616) :
  Calls Tryz.prog 8 #[.float .f64 a] w fun r w'=>r=.returned (.string ⟨(shTx a).toArray⟩)∧Bw w w':=by
 unfold shTx
 rcases(by omega:9218868437227405312<mag a∨mag a=9218868437227405312∨mag a<9218868437227405312)with hf|hf|hf
 ·rw[if_pos hf]
  refine(d4Sh_w a _ w (fun W=>d4word_nan a (neg a) W (fun W=>Ie.c33 a ha W) (word_on ha hf))).mono ?_
  rintro r w' ⟨rfl,rfl⟩
  exact⟨rfl,Below.refl _ _⟩
 ·rw[if_neg (by omega),if_pos hf]
  obtain⟨o1,o2⟩:=word_o1 ha hf
  refine(d4Sh_w a _ w (fun W=>d4word_inf a (neg a) W (fun W=>Ie.c33 a ha W) o1 o2)).mono ?_
  rintro r w' ⟨rfl,rfl⟩
  exact⟨rfl,Below.refl _ _⟩
 ·rw[if_neg (by omega),if_neg (by omega)]
  have kw:=fun W=>d4word ha hf W
  obtain⟨s1,s2⟩:=sg_if (neg a)
  rw[s1] at kw
  have ho:=dg_o0 ha (Nat.le_of_lt hf)
  by_cases hz:mag a=0
  ·rw[if_pos hz]
   rw[decide_eq_true hz] at ho
   have h:=d4Sh_0 a (sgL (neg a) []) w ho s2 kw
   rw[sg_app] at h
   refine h.mono ?_
   rintro r w' ⟨rfl,rfl⟩
   exact⟨rfl,Below.refl _ _⟩
  ·rw[if_neg hz]
   rw[decide_eq_false hz] at ho
   have hm0:0<mag a:=by omega
   obtain⟨hl2,hE⟩:=shE_b hm0 hf
   obtain⟨hd,-⟩:=shD_pos hm0 hf
   have kS:=fun W=>d4shortest hm0 hf W
   have kA:=fun W=>c159 a ha W
   unfold shS
   generalize shD (mag a)=d at *
   generalize shE (mag a)=x at *
   have hD:1≤d.length∧d.length≤1000:=⟨hd,by omega⟩
   rw[←sg_app]
   by_cases hc:x < -5∨20<x
   ·rw[if_pos hc]
    exact d4Sh_e a (mag a) x (sgL (neg a) []) d (Lib.itoa x) w (by omega) ho s2 hD (itoa_lenQ (by omega)) kw kA kS hc (fun W=>rdecimal4 _ W (by omega))
   ·rw[if_neg hc]
    have h5:¬ x < -5:=fun h=>hc (.inl h)
    have h20:¬ 20<x:=fun h=>hc (.inr h)
    by_cases h0:x<0
    ·rw[pt_n hd h0]
     exact d4Sh_n a (mag a) x (sgL (neg a) []) d _ w (by omega) ho s2 hD kw kA kS h0 h5 rfl
    ·by_cases hl:(d.length:Int)≤x+1
     ·rw[pt_i hd hl]
      exact d4Sh_i a (mag a) x (sgL (neg a) []) d _ w (by omega) ho s2 hD kw kA kS h0 h20 hl rfl
     ·obtain⟨q,hq⟩:∃ q:Nat,x+1=(q:Int):=⟨(x+1).toNat,by omega⟩
      rw[pt_p h0 hl hq]
      exact d4Sh_p a (mag a) x (sgL (neg a) []) d w (by omega) ho s2 hD kw kA kS q hq h0 h20 hl
theorem decimTells_1 (f:Nat) (S1 S2 S3:ByteArray) (w:World)
  (k1:∀ W,Bw w W→Calls Tryz.prog 7 #[.float .f64 f] W fun r w'=>r=.returned (.string S1)∧Bw W w')
  (k2:∀ W,Bw w W→Calls Tryz.prog 8 #[.float .f64 f] W fun r w'=>r=.returned (.string S1)∧Bw W w')
  (k3:∀ W,Bw w W→Calls Tryz.prog 9 #[.float .f64 f] W fun r w'=>r=.returned (.string S2)∧Bw W w')
  (k4:∀ W,Bw w W→Calls Tryz.prog 10 #[.float .f64 f] W fun r w'=>r=.returned (.string S2)∧Bw W w')
  (k5:∀ W,Bw w W→Calls Tryz.prog 11 #[.float .f64 f] W fun r w'=>r=.returned (.string S3)∧Bw W w')
  (k6:∀ W,Bw w W→Calls Tryz.prog 12 #[.float .f64 f] W fun r w'=>r=.returned (.string S3)∧Bw W w')
  (k7:∀ W,Bw w W→Calls Tryz.prog 13 #[] W fun r w'=>r=.returned (.bool true)∧Bw W w') :
  Calls Tryz.prog 3 #[.float .f64 f] w fun r w'=>r=.returned (.bool true)∧Bw w w':=by
 have j1:=k1 w (Below.refl _ _)
 have K2:Hid _:=k2
 have K3:Hid _:=k3
 have K4:Hid _:=k4
 have K5:Hid _:=k5
 have K6:Hid _:=k6
 have K7:Hid _:=k7
 have HB0:Hid (Bw w w):=Below.refl _ _
 clear k1 k2 k3 k4 k5 k6 k7
 go_enter Tryz.func3,Tryz.ntmps3
 go_wp2_with fail
 refine j1.mono ?_
 rintro r w1 ⟨rfl,hb1⟩
 have HB1:Hid (Bw w w1):=HB0.out.trans (hb1.mono HB0.out.size)
 have j2:=K2.out w1 HB1.out
 clear j1 hb1 K2 HB0
 go_wp2_with fail
 refine j2.mono ?_
 rintro r w2 ⟨rfl,hb2⟩
 have HB2:Hid (Bw w w2):=HB1.out.trans (hb2.mono HB1.out.size)
 have j3:=K3.out w2 HB2.out
 clear j2 hb2 K3 HB1
 go_wp2_with fail
 refine j3.mono ?_
 rintro r w3 ⟨rfl,hb3⟩
 have HB3:Hid (Bw w w3):=HB2.out.trans (hb3.mono HB2.out.size)
 have j4:=K4.out w3 HB3.out
 clear j3 hb3 K4 HB2
 go_wp2_with fail
 refine j4.mono ?_
 rintro r w4 ⟨rfl,hb4⟩
 have HB4:Hid (Bw w w4):=HB3.out.trans (hb4.mono HB3.out.size)
 have j5:=K5.out w4 HB4.out
 clear j4 hb4 K5 HB3
 go_wp2_with fail
 refine j5.mono ?_
 rintro r w5 ⟨rfl,hb5⟩
 have HB5:Hid (Bw w w5):=HB4.out.trans (hb5.mono HB4.out.size)
 have j6:=K6.out w5 HB5.out
 clear j5 hb5 K6 HB4
 go_wp2_with fail
 refine j6.mono ?_
 rintro r w6 ⟨rfl,hb6⟩
 have HB6:Hid (Bw w w6):=HB5.out.trans (hb6.mono HB5.out.size)
 have j7:=K7.out w6 HB6.out
 clear j6 hb6 K7 HB5
 go_wp2_with fail
 refine j7.mono ?_
 rintro r w7 ⟨rfl,hb7⟩
 have HB7:Hid (Bw w w7):=HB6.out.trans (hb7.mono HB6.out.size)
 clear j7 hb7 HB6
 go_wp2_with fail
 go_ret
 exact⟨rfl,HB7.out⟩
theorem decimTells_ok (a:Nat) (w:World) (ha:a<18446744073709551616) (hT:Tab32 w) (hI:Ie.Tab w) (h10:Tab10 w) :
  Calls Tryz.prog 3 #[.float .f64 a] w fun r w'=>r=.returned (.bool true)∧Bw w w' :=
 decimTells_1 a _ _ _ w (fun W hW=>DShortestA (hT.later hW) (Tab.later hI hW) (h10.later hW) ha) (fun W hW=>d4ShortestA W ha) (fun W hW=>DExactA (hT.later hW) (Tab.later hI hW) ha) (fun W hW=>d4ExactA W ha) (fun W hW=>DHexA (Tab.later hI hW) (h10.later hW) ha) (fun W hW=>d4HexA W ha) (fun W hW=>Dworks (hT.later hW) (Tab.later hI hW) (h10.later hW))
end Go.Proofs.YtfkaogdmlcdceaaGreatDoor
