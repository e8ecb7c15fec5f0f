/- Own work: contracts of the program's functions, part 16: DDH DDI. -/
import Derived.Test.YtijolhhlkkpdkaaGreatDoorA15

set_option maxHeartbeats 16000000
set_option maxRecDepth 200000
set_option linter.unusedVariables false
set_option linter.unusedSimpArgs false
namespace Go.Proofs.YtijolhhlkkpdkaaGreatDoor
open Go Go.RowKit Go.Fl64
theorem Dmodes_n1 (s0 S:List UInt8) (p1 p2:Bool) (w:World) (hL:s0.length≤4611686018427387904) (hp1:p1=(!s0.isEmpty&&(decide (bL s0 0=43)||decide (bL s0 0=45)))) (hS:Hid (S=if p1=true then s0.tail else s0)) (hp2:p2=(!S.isEmpty&&(decide (bL S 0=43)||decide (bL S 0=45))))
  (kW:Hid (∀ W,Bw w W→Calls Tryz.prog 12 #[] W fun r w'=>r=.returned (.bool true)∧Bw W w')) (a b c d:Nat) (E H:Int) (h2:p2=false)
  (k1:Hid (∀ W,Bw w W→Calls Tryz.prog 9 #[.string ⟨(S).toArray⟩,.int .i64 1] W fun r w'=>r=.returned (.tuple #[.float .f64 a,.int .i64 E])∧Bw W w'))
  (k2:Hid (∀ W,Bw w W→Calls Tryz.prog 9 #[.string ⟨(S).toArray⟩,.int .i64 2] W fun r w'=>r=.returned (.tuple #[.float .f64 b,.int .i64 E])∧Bw W w'))
  (k3:Hid (∀ W,Bw w W→Calls Tryz.prog 9 #[.string ⟨(S).toArray⟩,.int .i64 3] W fun r w'=>r=.returned (.tuple #[.float .f64 c,.int .i64 E])∧Bw W w'))
  (k4:Hid (∀ W,Bw w W→Calls Tryz.prog 9 #[.string ⟨(45 :: S).toArray⟩,.int .i64 1] W fun r w'=>r=.returned (.tuple #[.float .f64 d,.int .i64 H])∧Bw W w')) (hE:E=0) (hH:H=0) (hl:S.length<1048576) (hb:b=a) (hc:c=a) (o1:(FloatKind.f64.format.order a a==some Ordering.eq)=true) (o1n:(FloatKind.f64.format.order a a != some Ordering.eq)=false) (n1:∀ W,(Op.unary .neg (.float .f64 a)).run Tryz.prog W=.ok (.float .f64 d) W)
  (kl1:∀ W,Calls Tryz.prog 11 #[.float .f64 a,.float .f64 a] W fun r w'=>r=.returned (.bool true)∧w'=W)
  (kl2:∀ W,Calls Tryz.prog 11 #[.float .f64 d,.float .f64 d] W fun r w'=>r=.returned (.bool true)∧w'=W) :
  Calls Tryz.prog 7 #[.string ⟨s0.toArray⟩] w fun r w'=>r=.returned (.bool true)∧Bw w w':=by
 obtain⟨R,hR⟩:∃ R:ByteArray,R=⟨s0.toArray⟩:=⟨_,rfl⟩
 have hRe:R.toList.isEmpty=s0.isEmpty:=by rw[hR];exact bytes_empty _
 have hRs:R.size=s0.length:=by rw[hR];rfl
 have hRg:∀ h,(R[0]'h).toNat=bL s0 0:=by subst hR;exact fun h=>bL_get s0 0 h
 obtain⟨T,hT0⟩:∃ T:ByteArray,T=⟨S.toArray⟩:=⟨_,rfl⟩
 have hTe:T.toList.isEmpty=S.isEmpty:=by rw[hT0];exact bytes_empty _
 have hTs:T.size=S.length:=by rw[hT0];rfl
 have hTg:∀ h,(T[0]'h).toNat=bL S 0:=by subst hT0;exact fun h=>bL_get S 0 h
 have HT:Hid (T=⟨S.toArray⟩):=hT0
 have Hp1:Hid (p1=(!s0.isEmpty&&(decide (bL s0 0=43)||decide (bL s0 0=45)))):=hp1
 have Hp2:Hid (p2=(!S.isEmpty&&(decide (bL S 0=43)||decide (bL S 0=45)))):=hp2
 have hx:p1=true→R.extract 1 R.size=T:=fun h=>by
  rw[hRs,hR,hT0,hS.out,if_pos h]
  have:=ext_drop s0 1
  rw[List.drop_one] at this
  exact this
 have hx2:p1=false→R=T:=fun h=>by rw[hR,hT0,hS.out,if_neg (by rw[h];decide)]
 have hl1:p1=true→(1:Int)≤(R.size:Int):=fun h=>by
  rw[Hp1.out,Bool.and_eq_true] at h
  have:0<s0.length:=by cases s0 with|nil=>simp at h|cons a t=>simp
  omega
 have HX:Hid ((p1=true→R.extract 1 R.size=T∧(1:Int)≤(R.size:Int))∧(p1=false→R=T)):=⟨fun h=>⟨hx h,hl1 h⟩,hx2⟩
 have hTb:T.size≤4611686018427387904:=by
  rw[hTs,hS.out]
  split
  ·rw[List.length_tail];omega
  ·omega
 rw[←hR]
 clear hx hx2 hl1 hp1 hp2 hR hT0 hS
 go_enter Tryz.func7,Tryz.ntmps7
 go_upto_region 1 with fail
 go_cut [23] from 12 to 22 (fun v wx=>v=.bool p1∧wx=w)
 case first =>
  cases he:s0.isEmpty
  ·rw[he] at hRe
   have hs0:(0:Int)<(R.size:Int):=by
    have:0<s0.length:=by cases s0 with|nil=>simp at he|cons a t=>simp
    omega
   have hp':=Hp1.out
   by_cases c1:bL s0 0=43
   ·have e1:((bL s0 0:Int)==43)=true:=by rw[c1];rfl
    have HP:Hid (p1=true):=(by rw[hp'];simp[he,c1]:p1=true)
    clear hp' he c1
    generalize bL s0 0=c at *
    go_wp2
    go_meet
    exact⟨by rw[HP.out],rfl⟩
   ·have e1:((bL s0 0:Int)==43)=false:=by rw[beq_eq_false_iff_ne];omega
    by_cases c2:bL s0 0=45
    ·have e2:((bL s0 0:Int)==45)=true:=by rw[c2];rfl
     have HP:Hid (p1=true):=(by rw[hp'];simp[he,c2]:p1=true)
     clear hp' he c1 c2
     generalize bL s0 0=c at *
     go_wp2
     go_meet
     exact⟨by rw[HP.out],rfl⟩
    ·have e2:((bL s0 0:Int)==45)=false:=by rw[beq_eq_false_iff_ne];omega
     have HP:Hid (p1=false):=(by rw[hp'];simp[he,c1,c2]:p1=false)
     clear hp' he c1 c2
     generalize bL s0 0=c at *
     go_wp2
     go_meet
     exact⟨by rw[HP.out],rfl⟩
  ·rw[he] at hRe
   have HP:Hid (p1=false):=(by rw[Hp1.out];simp[he]:p1=false)
   go_wp2
   go_meet
   exact⟨by rw[HP.out],rfl⟩
 case rest =>
 obtain⟨rfl,hw⟩:=hcut
 replace hw:=hw.symm
 subst hw
 go_upto_if 23 with fail
 go_cut [0] from 24 to 25 (fun v wx=>v=.string T∧wx=w)
 case first =>
  cases p1
  ·obtain rfl:=HX.out.2 rfl
   go_wp2
   go_meet
   exact⟨rfl,rfl⟩
  ·obtain⟨e1,e2⟩:=HX.out.1 rfl
   rw[hRs] at e1 e2
   go_wp2
   go_meet
   exact⟨rfl,rfl⟩
 case rest =>
 obtain⟨rfl,hw⟩:=hcut
 replace hw:=hw.symm
 subst hw
 clear HX Hp1 hRe hRs hRg
 go_upto_region 3 with fail
 go_cut [37] from 26 to 36 (fun v wx=>v=.bool p2∧wx=w)
 case first =>
  cases he:S.isEmpty
  ·rw[he] at hTe
   have hs0:(0:Int)<(T.size:Int):=by
    have:0<S.length:=by cases S with|nil=>simp at he|cons a t=>simp
    omega
   have hp':=Hp2.out
   by_cases c1:bL S 0=43
   ·have e1:((bL S 0:Int)==43)=true:=by rw[c1];rfl
    have HP:Hid (p2=true):=(by rw[hp'];simp[he,c1]:p2=true)
    clear hp' he c1
    generalize bL S 0=c at *
    go_wp2
    go_meet
    exact⟨by rw[HP.out],rfl⟩
   ·have e1:((bL S 0:Int)==43)=false:=by rw[beq_eq_false_iff_ne];omega
    by_cases c2:bL S 0=45
    ·have e2:((bL S 0:Int)==45)=true:=by rw[c2];rfl
     have HP:Hid (p2=true):=(by rw[hp'];simp[he,c2]:p2=true)
     clear hp' he c1 c2
     generalize bL S 0=c at *
     go_wp2
     go_meet
     exact⟨by rw[HP.out],rfl⟩
    ·have e2:((bL S 0:Int)==45)=false:=by rw[beq_eq_false_iff_ne];omega
     have HP:Hid (p2=false):=(by rw[hp'];simp[he,c1,c2]:p2=false)
     clear hp' he c1 c2
     generalize bL S 0=c at *
     go_wp2
     go_meet
     exact⟨by rw[HP.out],rfl⟩
  ·rw[he] at hTe
   have HP:Hid (p2=false):=(by rw[Hp2.out];simp[he]:p2=false)
   go_wp2
   go_meet
   exact⟨by rw[HP.out],rfl⟩
 case rest =>
 obtain⟨rfl,hw⟩:=hcut
 replace hw:=hw.symm
 subst hw
 clear Hp2 hTe hTg
 subst h2
 have q1:=k1.out w (Below.refl _ _)
 have hcat:(⟨#[45]⟩:ByteArray)++T=⟨(45 :: S).toArray⟩:=by rw[HT.out,show(⟨#[45]⟩:ByteArray)=⟨[45].toArray⟩from rfl,bytes_cat];rfl
 have hcsz:(⟨#[45]⟩:ByteArray).size+T.size≤9223372036854775807:=by show 1+T.size≤_;omega
 rw[←HT.out] at q1
 clear k1
 go_wp2_with fail
 refine q1.mono ?_
 rintro r w1 ⟨rfl,b1⟩
 have B1:Hid (Bw w w1):=b1
 have q2:=k2.out w1 B1.out
 rw[←HT.out] at q2
 clear q1 b1 k2
 go_wp2_with fail
 refine q2.mono ?_
 rintro r w2 ⟨rfl,b2⟩
 have B2:Hid (Bw w w2):=B1.out.trans (b2.mono B1.out.size)
 have q3:=k3.out w2 B2.out
 rw[←HT.out] at q3
 clear q2 b2 B1 k3
 go_wp2_with fail
 refine q3.mono ?_
 rintro r w3 ⟨rfl,b3⟩
 have B3:Hid (Bw w w3):=B2.out.trans (b3.mono B2.out.size)
 have q4:=k4.out w3 B3.out
 clear q3 b3 B2 k4
 go_wp2_with fail
 refine q4.mono ?_
 rintro r w4 ⟨rfl,b4⟩
 have B4:Hid (Bw w w4):=B3.out.trans (b4.mono B3.out.size)
 have qW:=kW.out w4 B4.out
 clear q4 b4 B3 kW hcat hcsz
 rw[hTs] at hTb
 subst hE
 subst hH
 subst hb
 subst hc
 have e3:decide ((1048576:Int)≤(S.length:Int))=false:=decide_eq_false (by omega)
 clear hl hTb
 go_upto_region 11 with fail
 go_upto_region 13 with fail
 go_upto_region 15 with fail
 go_wp2_with (first|(go_at_call 11;first|(with_reducible refine(kl1 _).mono ?_;rintro r w' ⟨rfl,hw⟩;replace hw:=hw.symm;subst hw)|(with_reducible refine(kl2 _).mono ?_;rintro r w' ⟨rfl,hw⟩;replace hw:=hw.symm;subst hw)))
 refine qW.mono ?_
 rintro r w5 ⟨rfl,b5⟩
 have B5:Hid (Bw w w5):=B4.out.trans (b5.mono B4.out.size)
 clear qW b5
 go_wp2
 go_ret
 exact⟨rfl,B5.out⟩
theorem Dmodes_n2 (s0 S:List UInt8) (p1 p2:Bool) (w:World) (hL:s0.length≤4611686018427387904) (hp1:p1=(!s0.isEmpty&&(decide (bL s0 0=43)||decide (bL s0 0=45)))) (hS:Hid (S=if p1=true then s0.tail else s0)) (hp2:p2=(!S.isEmpty&&(decide (bL S 0=43)||decide (bL S 0=45))))
  (kW:Hid (∀ W,Bw w W→Calls Tryz.prog 12 #[] W fun r w'=>r=.returned (.bool true)∧Bw W w')) (a b c d:Nat) (E H:Int) (h2:p2=false)
  (k1:Hid (∀ W,Bw w W→Calls Tryz.prog 9 #[.string ⟨(S).toArray⟩,.int .i64 1] W fun r w'=>r=.returned (.tuple #[.float .f64 a,.int .i64 E])∧Bw W w'))
  (k2:Hid (∀ W,Bw w W→Calls Tryz.prog 9 #[.string ⟨(S).toArray⟩,.int .i64 2] W fun r w'=>r=.returned (.tuple #[.float .f64 b,.int .i64 E])∧Bw W w'))
  (k3:Hid (∀ W,Bw w W→Calls Tryz.prog 9 #[.string ⟨(S).toArray⟩,.int .i64 3] W fun r w'=>r=.returned (.tuple #[.float .f64 c,.int .i64 E])∧Bw W w'))
  (k4:Hid (∀ W,Bw w W→Calls Tryz.prog 9 #[.string ⟨(45 :: S).toArray⟩,.int .i64 1] W fun r w'=>r=.returned (.tuple #[.float .f64 d,.int .i64 H])∧Bw W w')) (hE:E=0) (hH:H=0) (hl:S.length<1048576) (hb:b=a) (o1:(FloatKind.f64.format.order a a==some Ordering.eq)=true) (o1n:(FloatKind.f64.format.order a a != some Ordering.eq)=false) (o2:(FloatKind.f64.format.order c c==some Ordering.eq)=true) (o2n:(FloatKind.f64.format.order c c != some Ordering.eq)=false) (l1:(FloatKind.f64.format.order a c==some Ordering.lt)=true) (l2:(FloatKind.f64.format.order a c==some Ordering.eq)=false) (l3:(FloatKind.f64.format.order a c==some Ordering.gt)=false) (l4:(FloatKind.f64.format.order a c != some Ordering.eq)=true) (n1:∀ W,(Op.unary .neg (.float .f64 c)).run Tryz.prog W=.ok (.float .f64 d) W)
  (kl1:∀ W,Calls Tryz.prog 11 #[.float .f64 a,.float .f64 a] W fun r w'=>r=.returned (.bool true)∧w'=W)
  (kl2:∀ W,Calls Tryz.prog 11 #[.float .f64 d,.float .f64 d] W fun r w'=>r=.returned (.bool true)∧w'=W)
  (ki:∀ W,Calls Tryz.prog 24 #[.int .i64 1] W fun r w'=>r=.returned (.float .f64 9218868437227405312)∧w'=W)
  (kx:∀ W,Calls Tryz.prog 23 #[.float .f64 a,.float .f64 9218868437227405312] W fun r w'=>r=.returned (.float .f64 c)∧w'=W) :
  Calls Tryz.prog 7 #[.string ⟨s0.toArray⟩] w fun r w'=>r=.returned (.bool true)∧Bw w w':=by
 obtain⟨R,hR⟩:∃ R:ByteArray,R=⟨s0.toArray⟩:=⟨_,rfl⟩
 have hRe:R.toList.isEmpty=s0.isEmpty:=by rw[hR];exact bytes_empty _
 have hRs:R.size=s0.length:=by rw[hR];rfl
 have hRg:∀ h,(R[0]'h).toNat=bL s0 0:=by subst hR;exact fun h=>bL_get s0 0 h
 obtain⟨T,hT0⟩:∃ T:ByteArray,T=⟨S.toArray⟩:=⟨_,rfl⟩
 have hTe:T.toList.isEmpty=S.isEmpty:=by rw[hT0];exact bytes_empty _
 have hTs:T.size=S.length:=by rw[hT0];rfl
 have hTg:∀ h,(T[0]'h).toNat=bL S 0:=by subst hT0;exact fun h=>bL_get S 0 h
 have HT:Hid (T=⟨S.toArray⟩):=hT0
 have Hp1:Hid (p1=(!s0.isEmpty&&(decide (bL s0 0=43)||decide (bL s0 0=45)))):=hp1
 have Hp2:Hid (p2=(!S.isEmpty&&(decide (bL S 0=43)||decide (bL S 0=45)))):=hp2
 have hx:p1=true→R.extract 1 R.size=T:=fun h=>by
  rw[hRs,hR,hT0,hS.out,if_pos h]
  have:=ext_drop s0 1
  rw[List.drop_one] at this
  exact this
 have hx2:p1=false→R=T:=fun h=>by rw[hR,hT0,hS.out,if_neg (by rw[h];decide)]
 have hl1:p1=true→(1:Int)≤(R.size:Int):=fun h=>by
  rw[Hp1.out,Bool.and_eq_true] at h
  have:0<s0.length:=by cases s0 with|nil=>simp at h|cons a t=>simp
  omega
 have HX:Hid ((p1=true→R.extract 1 R.size=T∧(1:Int)≤(R.size:Int))∧(p1=false→R=T)):=⟨fun h=>⟨hx h,hl1 h⟩,hx2⟩
 have hTb:T.size≤4611686018427387904:=by
  rw[hTs,hS.out]
  split
  ·rw[List.length_tail];omega
  ·omega
 rw[←hR]
 clear hx hx2 hl1 hp1 hp2 hR hT0 hS
 go_enter Tryz.func7,Tryz.ntmps7
 go_upto_region 1 with fail
 go_cut [23] from 12 to 22 (fun v wx=>v=.bool p1∧wx=w)
 case first =>
  cases he:s0.isEmpty
  ·rw[he] at hRe
   have hs0:(0:Int)<(R.size:Int):=by
    have:0<s0.length:=by cases s0 with|nil=>simp at he|cons a t=>simp
    omega
   have hp':=Hp1.out
   by_cases c1:bL s0 0=43
   ·have e1:((bL s0 0:Int)==43)=true:=by rw[c1];rfl
    have HP:Hid (p1=true):=(by rw[hp'];simp[he,c1]:p1=true)
    clear hp' he c1
    generalize bL s0 0=c at *
    go_wp2
    go_meet
    exact⟨by rw[HP.out],rfl⟩
   ·have e1:((bL s0 0:Int)==43)=false:=by rw[beq_eq_false_iff_ne];omega
    by_cases c2:bL s0 0=45
    ·have e2:((bL s0 0:Int)==45)=true:=by rw[c2];rfl
     have HP:Hid (p1=true):=(by rw[hp'];simp[he,c2]:p1=true)
     clear hp' he c1 c2
     generalize bL s0 0=c at *
     go_wp2
     go_meet
     exact⟨by rw[HP.out],rfl⟩
    ·have e2:((bL s0 0:Int)==45)=false:=by rw[beq_eq_false_iff_ne];omega
     have HP:Hid (p1=false):=(by rw[hp'];simp[he,c1,c2]:p1=false)
     clear hp' he c1 c2
     generalize bL s0 0=c at *
     go_wp2
     go_meet
     exact⟨by rw[HP.out],rfl⟩
  ·rw[he] at hRe
   have HP:Hid (p1=false):=(by rw[Hp1.out];simp[he]:p1=false)
   go_wp2
   go_meet
   exact⟨by rw[HP.out],rfl⟩
 case rest =>
 obtain⟨rfl,hw⟩:=hcut
 replace hw:=hw.symm
 subst hw
 go_upto_if 23 with fail
 go_cut [0] from 24 to 25 (fun v wx=>v=.string T∧wx=w)
 case first =>
  cases p1
  ·obtain rfl:=HX.out.2 rfl
   go_wp2
   go_meet
   exact⟨rfl,rfl⟩
  ·obtain⟨e1,e2⟩:=HX.out.1 rfl
   rw[hRs] at e1 e2
   go_wp2
   go_meet
   exact⟨rfl,rfl⟩
 case rest =>
 obtain⟨rfl,hw⟩:=hcut
 replace hw:=hw.symm
 subst hw
 clear HX Hp1 hRe hRs hRg
 go_upto_region 3 with fail
 go_cut [37] from 26 to 36 (fun v wx=>v=.bool p2∧wx=w)
 case first =>
  cases he:S.isEmpty
  ·rw[he] at hTe
   have hs0:(0:Int)<(T.size:Int):=by
    have:0<S.length:=by cases S with|nil=>simp at he|cons a t=>simp
    omega
   have hp':=Hp2.out
   by_cases c1:bL S 0=43
   ·have e1:((bL S 0:Int)==43)=true:=by rw[c1];rfl
    have HP:Hid (p2=true):=(by rw[hp'];simp[he,c1]:p2=true)
    clear hp' he c1
    generalize bL S 0=c at *
    go_wp2
    go_meet
    exact⟨by rw[HP.out],rfl⟩
   ·have e1:((bL S 0:Int)==43)=false:=by rw[beq_eq_false_iff_ne];omega
    by_cases c2:bL S 0=45
    ·have e2:((bL S 0:Int)==45)=true:=by rw[c2];rfl
     have HP:Hid (p2=true):=(by rw[hp'];simp[he,c2]:p2=true)
     clear hp' he c1 c2
     generalize bL S 0=c at *
     go_wp2
     go_meet
     exact⟨by rw[HP.out],rfl⟩
    ·have e2:((bL S 0:Int)==45)=false:=by rw[beq_eq_false_iff_ne];omega
     have HP:Hid (p2=false):=(by rw[hp'];simp[he,c1,c2]:p2=false)
     clear hp' he c1 c2
     generalize bL S 0=c at *
     go_wp2
     go_meet
     exact⟨by rw[HP.out],rfl⟩
  ·rw[he] at hTe
   have HP:Hid (p2=false):=(by rw[Hp2.out];simp[he]:p2=false)
   go_wp2
   go_meet
   exact⟨by rw[HP.out],rfl⟩
 case rest =>
 obtain⟨rfl,hw⟩:=hcut
 replace hw:=hw.symm
 subst hw
 clear Hp2 hTe hTg
 subst h2
 have q1:=k1.out w (Below.refl _ _)
 have hcat:(⟨#[45]⟩:ByteArray)++T=⟨(45 :: S).toArray⟩:=by rw[HT.out,show(⟨#[45]⟩:ByteArray)=⟨[45].toArray⟩from rfl,bytes_cat];rfl
 have hcsz:(⟨#[45]⟩:ByteArray).size+T.size≤9223372036854775807:=by show 1+T.size≤_;omega
 rw[←HT.out] at q1
 clear k1
 go_wp2_with fail
 refine q1.mono ?_
 rintro r w1 ⟨rfl,b1⟩
 have B1:Hid (Bw w w1):=b1
 have q2:=k2.out w1 B1.out
 rw[←HT.out] at q2
 clear q1 b1 k2
 go_wp2_with fail
 refine q2.mono ?_
 rintro r w2 ⟨rfl,b2⟩
 have B2:Hid (Bw w w2):=B1.out.trans (b2.mono B1.out.size)
 have q3:=k3.out w2 B2.out
 rw[←HT.out] at q3
 clear q2 b2 B1 k3
 go_wp2_with fail
 refine q3.mono ?_
 rintro r w3 ⟨rfl,b3⟩
 have B3:Hid (Bw w w3):=B2.out.trans (b3.mono B2.out.size)
 have q4:=k4.out w3 B3.out
 clear q3 b3 B2 k4
 go_wp2_with fail
 refine q4.mono ?_
 rintro r w4 ⟨rfl,b4⟩
 have B4:Hid (Bw w w4):=B3.out.trans (b4.mono B3.out.size)
 have qW:=kW.out w4 B4.out
 clear q4 b4 B3 kW hcat hcsz
 rw[hTs] at hTb
 subst hE
 subst hH
 subst hb
 have e3:decide ((1048576:Int)≤(S.length:Int))=false:=decide_eq_false (by omega)
 clear hl hTb
 go_upto_region 11 with fail
 go_upto_region 13 with fail
 go_upto_region 15 with fail
 go_wp2_with (first|(go_at_call 11;first|(with_reducible refine(kl1 _).mono ?_;rintro r w' ⟨rfl,hw⟩;replace hw:=hw.symm;subst hw)|(with_reducible refine(kl2 _).mono ?_;rintro r w' ⟨rfl,hw⟩;replace hw:=hw.symm;subst hw))|(go_at_call 24;(with_reducible refine(ki _).mono ?_;rintro r w' ⟨rfl,hw⟩;replace hw:=hw.symm;subst hw))|(go_at_call 23;(with_reducible refine(kx _).mono ?_;rintro r w' ⟨rfl,hw⟩;replace hw:=hw.symm;subst hw)))
 refine qW.mono ?_
 rintro r w5 ⟨rfl,b5⟩
 have B5:Hid (Bw w w5):=B4.out.trans (b5.mono B4.out.size)
 clear qW b5
 go_wp2
 go_ret
 exact⟨rfl,B5.out⟩
theorem Dmodes_n3 (s0 S:List UInt8) (p1 p2:Bool) (w:World) (hL:s0.length≤4611686018427387904) (hp1:p1=(!s0.isEmpty&&(decide (bL s0 0=43)||decide (bL s0 0=45)))) (hS:Hid (S=if p1=true then s0.tail else s0)) (hp2:p2=(!S.isEmpty&&(decide (bL S 0=43)||decide (bL S 0=45))))
  (kW:Hid (∀ W,Bw w W→Calls Tryz.prog 12 #[] W fun r w'=>r=.returned (.bool true)∧Bw W w')) (a b c d:Nat) (E H:Int) (h2:p2=false)
  (k1:Hid (∀ W,Bw w W→Calls Tryz.prog 9 #[.string ⟨(S).toArray⟩,.int .i64 1] W fun r w'=>r=.returned (.tuple #[.float .f64 a,.int .i64 E])∧Bw W w'))
  (k2:Hid (∀ W,Bw w W→Calls Tryz.prog 9 #[.string ⟨(S).toArray⟩,.int .i64 2] W fun r w'=>r=.returned (.tuple #[.float .f64 b,.int .i64 E])∧Bw W w'))
  (k3:Hid (∀ W,Bw w W→Calls Tryz.prog 9 #[.string ⟨(S).toArray⟩,.int .i64 3] W fun r w'=>r=.returned (.tuple #[.float .f64 c,.int .i64 E])∧Bw W w'))
  (k4:Hid (∀ W,Bw w W→Calls Tryz.prog 9 #[.string ⟨(45 :: S).toArray⟩,.int .i64 1] W fun r w'=>r=.returned (.tuple #[.float .f64 d,.int .i64 H])∧Bw W w')) (hE:E=0) (hH:H=0) (hl:S.length<1048576) (hb:b=c) (o1:(FloatKind.f64.format.order a a==some Ordering.eq)=true) (o1n:(FloatKind.f64.format.order a a != some Ordering.eq)=false) (o2:(FloatKind.f64.format.order c c==some Ordering.eq)=true) (o2n:(FloatKind.f64.format.order c c != some Ordering.eq)=false) (l1:(FloatKind.f64.format.order a c==some Ordering.lt)=true) (l2:(FloatKind.f64.format.order a c==some Ordering.eq)=false) (l3:(FloatKind.f64.format.order a c==some Ordering.gt)=false) (l4:(FloatKind.f64.format.order a c != some Ordering.eq)=true) (n1:∀ W,(Op.unary .neg (.float .f64 c)).run Tryz.prog W=.ok (.float .f64 d) W)
  (kl1:∀ W,Calls Tryz.prog 11 #[.float .f64 c,.float .f64 a] W fun r w'=>r=.returned (.bool false)∧w'=W)
  (kl2:∀ W,Calls Tryz.prog 11 #[.float .f64 d,.float .f64 d] W fun r w'=>r=.returned (.bool true)∧w'=W)
  (kl3:∀ W,Calls Tryz.prog 11 #[.float .f64 c,.float .f64 c] W fun r w'=>r=.returned (.bool true)∧w'=W)
  (ki:∀ W,Calls Tryz.prog 24 #[.int .i64 1] W fun r w'=>r=.returned (.float .f64 9218868437227405312)∧w'=W)
  (kx:∀ W,Calls Tryz.prog 23 #[.float .f64 a,.float .f64 9218868437227405312] W fun r w'=>r=.returned (.float .f64 c)∧w'=W) :
  Calls Tryz.prog 7 #[.string ⟨s0.toArray⟩] w fun r w'=>r=.returned (.bool true)∧Bw w w':=by
 obtain⟨R,hR⟩:∃ R:ByteArray,R=⟨s0.toArray⟩:=⟨_,rfl⟩
 have hRe:R.toList.isEmpty=s0.isEmpty:=by rw[hR];exact bytes_empty _
 have hRs:R.size=s0.length:=by rw[hR];rfl
 have hRg:∀ h,(R[0]'h).toNat=bL s0 0:=by subst hR;exact fun h=>bL_get s0 0 h
 obtain⟨T,hT0⟩:∃ T:ByteArray,T=⟨S.toArray⟩:=⟨_,rfl⟩
 have hTe:T.toList.isEmpty=S.isEmpty:=by rw[hT0];exact bytes_empty _
 have hTs:T.size=S.length:=by rw[hT0];rfl
 have hTg:∀ h,(T[0]'h).toNat=bL S 0:=by subst hT0;exact fun h=>bL_get S 0 h
 have HT:Hid (T=⟨S.toArray⟩):=hT0
 have Hp1:Hid (p1=(!s0.isEmpty&&(decide (bL s0 0=43)||decide (bL s0 0=45)))):=hp1
 have Hp2:Hid (p2=(!S.isEmpty&&(decide (bL S 0=43)||decide (bL S 0=45)))):=hp2
 have hx:p1=true→R.extract 1 R.size=T:=fun h=>by
  rw[hRs,hR,hT0,hS.out,if_pos h]
  have:=ext_drop s0 1
  rw[List.drop_one] at this
  exact this
 have hx2:p1=false→R=T:=fun h=>by rw[hR,hT0,hS.out,if_neg (by rw[h];decide)]
 have hl1:p1=true→(1:Int)≤(R.size:Int):=fun h=>by
  rw[Hp1.out,Bool.and_eq_true] at h
  have:0<s0.length:=by cases s0 with|nil=>simp at h|cons a t=>simp
  omega
 have HX:Hid ((p1=true→R.extract 1 R.size=T∧(1:Int)≤(R.size:Int))∧(p1=false→R=T)):=⟨fun h=>⟨hx h,hl1 h⟩,hx2⟩
 have hTb:T.size≤4611686018427387904:=by
  rw[hTs,hS.out]
  split
  ·rw[List.length_tail];omega
  ·omega
 rw[←hR]
 clear hx hx2 hl1 hp1 hp2 hR hT0 hS
 go_enter Tryz.func7,Tryz.ntmps7
 go_upto_region 1 with fail
 go_cut [23] from 12 to 22 (fun v wx=>v=.bool p1∧wx=w)
 case first =>
  cases he:s0.isEmpty
  ·rw[he] at hRe
   have hs0:(0:Int)<(R.size:Int):=by
    have:0<s0.length:=by cases s0 with|nil=>simp at he|cons a t=>simp
    omega
   have hp':=Hp1.out
   by_cases c1:bL s0 0=43
   ·have e1:((bL s0 0:Int)==43)=true:=by rw[c1];rfl
    have HP:Hid (p1=true):=(by rw[hp'];simp[he,c1]:p1=true)
    clear hp' he c1
    generalize bL s0 0=c at *
    go_wp2
    go_meet
    exact⟨by rw[HP.out],rfl⟩
   ·have e1:((bL s0 0:Int)==43)=false:=by rw[beq_eq_false_iff_ne];omega
    by_cases c2:bL s0 0=45
    ·have e2:((bL s0 0:Int)==45)=true:=by rw[c2];rfl
     have HP:Hid (p1=true):=(by rw[hp'];simp[he,c2]:p1=true)
     clear hp' he c1 c2
     generalize bL s0 0=c at *
     go_wp2
     go_meet
     exact⟨by rw[HP.out],rfl⟩
    ·have e2:((bL s0 0:Int)==45)=false:=by rw[beq_eq_false_iff_ne];omega
     have HP:Hid (p1=false):=(by rw[hp'];simp[he,c1,c2]:p1=false)
     clear hp' he c1 c2
     generalize bL s0 0=c at *
     go_wp2
     go_meet
     exact⟨by rw[HP.out],rfl⟩
  ·rw[he] at hRe
   have HP:Hid (p1=false):=(by rw[Hp1.out];simp[he]:p1=false)
   go_wp2
   go_meet
   exact⟨by rw[HP.out],rfl⟩
 case rest =>
 obtain⟨rfl,hw⟩:=hcut
 replace hw:=hw.symm
 subst hw
 go_upto_if 23 with fail
 go_cut [0] from 24 to 25 (fun v wx=>v=.string T∧wx=w)
 case first =>
  cases p1
  ·obtain rfl:=HX.out.2 rfl
   go_wp2
   go_meet
   exact⟨rfl,rfl⟩
  ·obtain⟨e1,e2⟩:=HX.out.1 rfl
   rw[hRs] at e1 e2
   go_wp2
   go_meet
   exact⟨rfl,rfl⟩
 case rest =>
 obtain⟨rfl,hw⟩:=hcut
 replace hw:=hw.symm
 subst hw
 clear HX Hp1 hRe hRs hRg
 go_upto_region 3 with fail
 go_cut [37] from 26 to 36 (fun v wx=>v=.bool p2∧wx=w)
 case first =>
  cases he:S.isEmpty
  ·rw[he] at hTe
   have hs0:(0:Int)<(T.size:Int):=by
    have:0<S.length:=by cases S with|nil=>simp at he|cons a t=>simp
    omega
   have hp':=Hp2.out
   by_cases c1:bL S 0=43
   ·have e1:((bL S 0:Int)==43)=true:=by rw[c1];rfl
    have HP:Hid (p2=true):=(by rw[hp'];simp[he,c1]:p2=true)
    clear hp' he c1
    generalize bL S 0=c at *
    go_wp2
    go_meet
    exact⟨by rw[HP.out],rfl⟩
   ·have e1:((bL S 0:Int)==43)=false:=by rw[beq_eq_false_iff_ne];omega
    by_cases c2:bL S 0=45
    ·have e2:((bL S 0:Int)==45)=true:=by rw[c2];rfl
     have HP:Hid (p2=true):=(by rw[hp'];simp[he,c2]:p2=true)
     clear hp' he c1 c2
     generalize bL S 0=c at *
     go_wp2
     go_meet
     exact⟨by rw[HP.out],rfl⟩
    ·have e2:((bL S 0:Int)==45)=false:=by rw[beq_eq_false_iff_ne];omega
     have HP:Hid (p2=false):=(by rw[hp'];simp[he,c1,c2]:p2=false)
     clear hp' he c1 c2
     generalize bL S 0=c at *
     go_wp2
     go_meet
     exact⟨by rw[HP.out],rfl⟩
  ·rw[he] at hTe
   have HP:Hid (p2=false):=(by rw[Hp2.out];simp[he]:p2=false)
   go_wp2
   go_meet
   exact⟨by rw[HP.out],rfl⟩
 case rest =>
 obtain⟨rfl,hw⟩:=hcut
 replace hw:=hw.symm
 subst hw
 clear Hp2 hTe hTg
 subst h2
 have q1:=k1.out w (Below.refl _ _)
 have hcat:(⟨#[45]⟩:ByteArray)++T=⟨(45 :: S).toArray⟩:=by rw[HT.out,show(⟨#[45]⟩:ByteArray)=⟨[45].toArray⟩from rfl,bytes_cat];rfl
 have hcsz:(⟨#[45]⟩:ByteArray).size+T.size≤9223372036854775807:=by show 1+T.size≤_;omega
 rw[←HT.out] at q1
 clear k1
 go_wp2_with fail
 refine q1.mono ?_
 rintro r w1 ⟨rfl,b1⟩
 have B1:Hid (Bw w w1):=b1
 have q2:=k2.out w1 B1.out
 rw[←HT.out] at q2
 clear q1 b1 k2
 go_wp2_with fail
 refine q2.mono ?_
 rintro r w2 ⟨rfl,b2⟩
 have B2:Hid (Bw w w2):=B1.out.trans (b2.mono B1.out.size)
 have q3:=k3.out w2 B2.out
 rw[←HT.out] at q3
 clear q2 b2 B1 k3
 go_wp2_with fail
 refine q3.mono ?_
 rintro r w3 ⟨rfl,b3⟩
 have B3:Hid (Bw w w3):=B2.out.trans (b3.mono B2.out.size)
 have q4:=k4.out w3 B3.out
 clear q3 b3 B2 k4
 go_wp2_with fail
 refine q4.mono ?_
 rintro r w4 ⟨rfl,b4⟩
 have B4:Hid (Bw w w4):=B3.out.trans (b4.mono B3.out.size)
 have qW:=kW.out w4 B4.out
 clear q4 b4 B3 kW hcat hcsz
 rw[hTs] at hTb
 subst hE
 subst hH
 subst hb
 have e3:decide ((1048576:Int)≤(S.length:Int))=false:=decide_eq_false (by omega)
 clear hl hTb
 go_upto_region 11 with fail
 go_upto_region 13 with fail
 go_upto_region 15 with fail
 go_wp2_with (first|(go_at_call 11;first|(with_reducible refine(kl1 _).mono ?_;rintro r w' ⟨rfl,hw⟩;replace hw:=hw.symm;subst hw)|(with_reducible refine(kl2 _).mono ?_;rintro r w' ⟨rfl,hw⟩;replace hw:=hw.symm;subst hw)|(with_reducible refine(kl3 _).mono ?_;rintro r w' ⟨rfl,hw⟩;replace hw:=hw.symm;subst hw))|(go_at_call 24;(with_reducible refine(ki _).mono ?_;rintro r w' ⟨rfl,hw⟩;replace hw:=hw.symm;subst hw))|(go_at_call 23;(with_reducible refine(kx _).mono ?_;rintro r w' ⟨rfl,hw⟩;replace hw:=hw.symm;subst hw)))
 refine qW.mono ?_
 rintro r w5 ⟨rfl,b5⟩
 have B5:Hid (Bw w w5):=B4.out.trans (b5.mono B4.out.size)
 clear qW b5
 go_wp2
 go_ret
 exact⟨rfl,B5.out⟩
theorem rdA_S {S:List UInt8} {m:Int} (hm:1≤m∧m≤3) (c1:csD S=S) (c2:csS S=1):rdA S m=if 1048576<S.length then(0,2)
  else if S = [105,110,102] then(9218868437227405312,0)else if S = [110,97,110] then(9221120237041090561,0)
  else if psOk S=false then(0,3)else if 1100<(psD S).length then(0,2) else(rdFl false (psb S) (psD S) (psH S) (psX S) m,0):=by
 unfold rdA
 rw[if_neg (not_not_intro hm),c1,c2]
 rfl
theorem rdA_N {S:List UInt8}:rdA (45 :: S) 1=if 1048576<S.length+1 then(0,2)
  else if S = [105,110,102] then(18442240474082181120,0)else if S = [110,97,110] then(9221120237041090561,0)
  else if psOk S=false then(0,3)else if 1100<(psD S).length then(0,2) else(rdFl true (psb S) (psD S) (psH S) (psX S) 1,0):=by
 have c1:csD (45 :: S)=S:=by unfold csD;simp
 have c2:csS (45 :: S) = -1:=by unfold csS;simp
 unfold rdA
 rw[if_neg (by decide),c1,c2]
 rfl
theorem oself {a:Nat} (h:a≤9218868437227405312):(FloatKind.f64.format.order a a==some Ordering.eq)=true:=by
 rw[ord_eq a a (by omega) (by omega),eq_pos h h];simp
theorem oselfn {a:Nat} (h:a≤9218868437227405312):(FloatKind.f64.format.order a a != some Ordering.eq)=false:=by
 show(!(FloatKind.f64.format.order a a==some Ordering.eq))=false
 rw[oself h];rfl
theorem olt {a c:Nat} (h:c≤9218868437227405312) (hl:a<c):(FloatKind.f64.format.order a c==some Ordering.lt)=true:=by
 rw[ord_lt a c (by omega) (by omega),lt_pos (by omega) h];exact decide_eq_true hl
theorem oeq {a c:Nat} (h:c≤9218868437227405312) (hl:a<c):(FloatKind.f64.format.order a c==some Ordering.eq)=false:=by
 rw[ord_eq a c (by omega) (by omega),eq_pos (by omega) h];exact decide_eq_false (by omega)
theorem ogt {a c:Nat} (h:c≤9218868437227405312) (hl:a<c):(FloatKind.f64.format.order a c==some Ordering.gt)=false:=by
 rw[ord_gt a c (by omega) (by omega),lt_pos h (by omega)];exact decide_eq_false (by omega)
theorem one {a c:Nat} (h:c≤9218868437227405312) (hl:a<c):(FloatKind.f64.format.order a c != some Ordering.eq)=true:=by
 show(!(FloatKind.f64.format.order a c==some Ordering.eq))=true
 rw[oeq h hl];rfl
theorem run_neg_le {R:Nat} (h:R≤9218868437227405312) (W:World):(Op.unary UnOp.neg (Value.float .f64 R)).run Tryz.prog W=.ok (.float .f64 (R+9223372036854775808)) W:=by
 have hn:Op.negFloat .f64 R=R+9223372036854775808:=by rw[Fl64.negF R (by omega)];unfold Fl64.ngt Fl64.neg;simp;omega
 rw[←hn];rfl
theorem like_same {a:Nat} (h:a<18446744073709551616) (W:World):Calls Tryz.prog 11 #[.float .f64 a,.float .f64 a] W fun r w'=>r=.returned (.bool true)∧w'=W:=by
 have k:=Dlike a a h h W
 rw[same_selfD] at k
 exact k
theorem like_not {a c:Nat} (h:c≤9218868437227405312) (hl:a<c) (W:World):Calls Tryz.prog 11 #[.float .f64 c,.float .f64 a] W fun r w'=>r=.returned (.bool false)∧w'=W:=by
 have k:=Dlike c a (by omega) (by omega) W
 have e:same c a=false:=by
  unfold same isNaN
  have h1:((c:Int)==(a:Int))=false:=by rw[beq_eq_false_iff_ne];omega
  rw[h1]
  have h2:=(eq_pos (a:=a) (b:=a) (by omega) (by omega))
  unfold eq isNaN at h2
  revert h2
  simp
  exact fun h _=>h
 rw[e] at k
 exact k
theorem decimModes_ok (s0:List UInt8) (w:World) (hL:s0.length≤4611686018427387904) (hT:Tab32 w) (hI:Ie.Tab w) (h10:Tab10 w) :
  Calls Tryz.prog 7 #[.string ⟨s0.toArray⟩] w fun r w'=>r=.returned (.bool true)∧Bw w w':=by
 obtain⟨p1,hp1⟩:∃ p1:Bool,p1=(!s0.isEmpty&&(decide (bL s0 0=43)||decide (bL s0 0=45))):=⟨_,rfl⟩
 obtain⟨S,hS⟩:∃ S:List UInt8,S=if p1=true then s0.tail else s0:=⟨_,rfl⟩
 obtain⟨p2,hp2⟩:∃ p2:Bool,p2=(!S.isEmpty&&(decide (bL S 0=43)||decide (bL S 0=45))):=⟨_,rfl⟩
 have kW:Hid (∀ W,Bw w W→Calls Tryz.prog 12 #[] W fun r w'=>r=.returned (.bool true)∧Bw W w'):=fun W hW=>Dworks (hT.later hW) (Tab.later hI hW) (h10.later hW)
 by_cases h2:p2=true
 ·exact Dmodes_sign s0 S p1 p2 w hL hp1 hS hp2 kW h2
 have h2:p2=false:=by simpa using h2
 have k:∀ (s:List UInt8) (m:Int) (a:Nat) (E:Int),rdA s m=(a,E)→∀ W,Bw w W→Calls Tryz.prog 9 #[.string ⟨s.toArray⟩,.int .i64 m] W fun r w'=>r=.returned (.tuple #[.float .f64 a,.int .i64 E])∧Bw W w':=by
  intro s m a E h W hW
  have q:=DRead (s:=s) (m:=m) (hT.later hW)
  rw[h] at q
  exact q
 have hc:csD S=S∧csS S=1:=by
  rw[hp2] at h2
  cases S with
  | nil=>exact⟨rfl,rfl⟩
  | cons x t =>
   have hx:¬ x=43∧¬ x=45:=by
    simp[bL] at h2
    exact⟨fun e=>h2.1 (by rw[e];rfl),fun e=>h2.2 (by rw[e];rfl)⟩
   unfold csD csS
   simp[hx.1,hx.2]
 obtain⟨c1,c2⟩:=hc
 have r1:=rdA_S (m:=1) (by decide) c1 c2
 have r2:=rdA_S (m:=2) (by decide) c1 c2
 have r3:=rdA_S (m:=3) (by decide) c1 c2
 have r4:=rdA_N (S:=S)
 by_cases hl:1048576<S.length
 ·rw[if_pos hl] at r1 r2 r3
  rw[if_pos (by omega)] at r4
  exact Dmodes_err s0 S p1 p2 w hL hp1 hS hp2 kW 0 0 0 0 2 2 h2 (k _ _ _ _ r1) (k _ _ _ _ r2) (k _ _ _ _ r3) (k _ _ _ _ r4) (by decide) (.inl rfl)
 rw[if_neg hl] at r1 r2 r3
 by_cases e1:S = [105,110,102]
 ·rw[if_pos e1] at r1 r2 r3 r4
  rw[if_neg (by rw[e1];decide)] at r4
  exact Dmodes_n1 s0 S p1 p2 w hL hp1 hS hp2 kW _ _ _ _ 0 0 h2 (k _ _ _ _ r1) (k _ _ _ _ r2) (k _ _ _ _ r3) (k _ _ _ _ r4) rfl rfl (by rw[e1];decide) rfl rfl (oself (by decide)) (oselfn (by decide)) (fun W=>run_neg_le (by decide) W) (like_same (by decide)) (like_same (by decide))
 rw[if_neg e1] at r1 r2 r3 r4
 by_cases e2:S = [110,97,110]
 ·rw[if_pos e2] at r1 r2 r3 r4
  rw[if_neg (by rw[e2];decide)] at r4
  exact Dmodes_nan s0 S p1 p2 w hL hp1 hS hp2 kW _ _ _ _ 0 0 h2 (k _ _ _ _ r1) (k _ _ _ _ r2) (k _ _ _ _ r3) (k _ _ _ _ r4) rfl (by decide +kernel) (by decide +kernel) (by decide +kernel)
 rw[if_neg e2] at r1 r2 r3 r4
 by_cases e3:psOk S=false
 ·rw[if_pos e3] at r1 r2 r3 r4
  by_cases h5:1048576<S.length+1
  ·rw[if_pos h5] at r4
   exact Dmodes_err s0 S p1 p2 w hL hp1 hS hp2 kW 0 0 0 0 3 2 h2 (k _ _ _ _ r1) (k _ _ _ _ r2) (k _ _ _ _ r3) (k _ _ _ _ r4) (by decide) (.inr ⟨by decide,by omega⟩)
  ·rw[if_neg h5] at r4
   exact Dmodes_err s0 S p1 p2 w hL hp1 hS hp2 kW 0 0 0 0 3 3 h2 (k _ _ _ _ r1) (k _ _ _ _ r2) (k _ _ _ _ r3) (k _ _ _ _ r4) (by decide) (.inl rfl)
 rw[if_neg e3] at r1 r2 r3 r4
 by_cases e4:1100<(psD S).length
 ·rw[if_pos e4] at r1 r2 r3 r4
  have r5:rdA (45 :: S) 1=(0,2):=by rw[r4];split <;> rfl
  exact Dmodes_err s0 S p1 p2 w hL hp1 hS hp2 kW 0 0 0 0 2 2 h2 (k _ _ _ _ r1) (k _ _ _ _ r2) (k _ _ _ _ r3) (k _ _ _ _ r5) (by decide) (.inl rfl)
 rw[if_neg e4] at r1 r2 r3 r4
 have hok:psOk S=true:=by simpa using e3
 have hb:psb S=10∨psb S=16:=(psb_or S).elim (fun h=>.inl h.1) (fun h=>.inr h.1)
 obtain⟨X,e,he,hR⟩:=rd_one hb (psOk_dg hok) (by omega) (show psH S≤1100 from Nat.le_trans (psH_le S) (by omega)) (psX_le S)
 rw[hR false 1 (by decide)] at r1
 rw[hR false 2 (by decide)] at r2
 rw[hR false 3 (by decide)] at r3
 rw[hR true 1 (by decide)] at r4
 have q1:sig false (bdy X e (wyN false 1))=bdy X e 0:=rfl
 have q2:sig false (bdy X e (wyN false 2))=bdy X e 1:=rfl
 have q3:sig false (bdy X e (wyN false 3))=bdy X e 2:=rfl
 have q4:sig true (bdy X e (wyN true 1))=bdy X e 2+9223372036854775808:=rfl
 rw[q1] at r1
 rw[q2] at r2
 rw[q3] at r3
 rw[q4] at r4
 have b0:=bdy_le X e 0
 have b1:=bdy_le X e 1
 have b2:=bdy_le X e 2
 have st:=bdy_step (x:=X) he
 obtain⟨o1,o2,o3,-⟩:=bdy_order (K:=70000) (Nat.le_refl _) (x:=X) he
 generalize bdy X e 0=a at *
 generalize bdy X e 1=b at *
 generalize bdy X e 2=c at *
 by_cases h5:1048576<S.length+1
 ·rw[if_pos h5] at r4
  exact Dmodes_long s0 S p1 p2 w hL hp1 hS hp2 kW a b c 0 0 2 h2 (k _ _ _ _ r1) (k _ _ _ _ r2) (k _ _ _ _ r3) (k _ _ _ _ r4) rfl (oselfn b1) (by omega)
 rw[if_neg h5] at r4
 by_cases hac:c=a
 ·subst hac
  have hb:b=c:=by omega
  subst hb
  exact Dmodes_n1 s0 S p1 p2 w hL hp1 hS hp2 kW _ _ _ _ 0 0 h2 (k _ _ _ _ r1) (k _ _ _ _ r2) (k _ _ _ _ r3) (k _ _ _ _ r4) rfl rfl (by omega) rfl rfl (oself b0) (oselfn b0) (fun W=>run_neg_le b0 W) (like_same (by omega)) (like_same (by omega))
 have hc:c=a+1:=by omega
 have kx:∀ W,Calls Tryz.prog 23 #[.float .f64 a,.float .f64 9218868437227405312] W fun r w'=>r=.returned (.float .f64 c)∧w'=W:=fun W=>by
  have:=Dnextafter (a:=a) (by omega) W
  rw[←hc] at this
  exact this
 have hlt:a<c:=by omega
 by_cases hba:b=a
 ·exact Dmodes_n2 s0 S p1 p2 w hL hp1 hS hp2 kW a b c _ 0 0 h2 (k _ _ _ _ r1) (k _ _ _ _ r2) (k _ _ _ _ r3) (k _ _ _ _ r4) rfl rfl (by omega) hba (oself b0) (oselfn b0) (oself b2) (oselfn b2) (olt b2 hlt) (oeq b2 hlt) (ogt b2 hlt) (one b2 hlt) (fun W=>run_neg_le b2 W) (like_same (by omega)) (like_same (by omega)) cinf_p kx
 ·exact Dmodes_n3 s0 S p1 p2 w hL hp1 hS hp2 kW a b c _ 0 0 h2 (k _ _ _ _ r1) (k _ _ _ _ r2) (k _ _ _ _ r3) (k _ _ _ _ r4) rfl rfl (by omega) (by omega) (oself b0) (oselfn b0) (oself b2) (oselfn b2) (olt b2 hlt) (oeq b2 hlt) (ogt b2 hlt) (one b2 hlt) (fun W=>run_neg_le b2 W) (like_not b2 hlt) (like_same (by omega)) (like_same (by omega)) cinf_p kx
end Go.Proofs.YtijolhhlkkpdkaaGreatDoor
