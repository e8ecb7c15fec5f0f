/- Own work: contracts of the program's functions, part 4: IW5 IW6 IW7 IW4 W24 W30 NW W25 W26 W27 W31 W32 W36 W37 PR R1 R2 R3. -/
import Derived.Test.YtokklnjoalkjaaaGreatDoorA3
import Derived.Deep.QuietTactic
import Derived.BigQuiet
import Derived.Test.YtokklnjoalkjaaaGreatDoorA2
import Derived.Deep.CutRange
import Derived.Orders
import Derived.Laws.Tables

set_option maxHeartbeats 16000000
set_option maxRecDepth 200000
set_option linter.unusedVariables false
set_option linter.unusedSimpArgs false
/- What the program's rounding answers: a mantissa shifted and rounded, and the bits of m times 2 to the e, rounded. -/
namespace Go.Proofs.YtokklnjoalkjaaaGreatDoor.Ie
open Go.RowKit Go.Fl64
theorem c58_0 (m d K L F K1:Int) (o:Bool) (w:World) (h1:1≤d) (h2:d≤64) (hm:0≤m) (hK:m / 2^d.toNat=K) (hL:IntKind.u64.wrap (m - IntKind.u64.wrap (K*2^d.toNat))=L) (hF:IntKind.u64.wrap (2^(d.toNat - 1))=F) (ho:(bits BinOp.and IntKind.u64 K 1==1)=o) (hK1:IntKind.u64.wrap (K+1)=K1) :
  Calls Tryz.prog 163 #[.int .u64 m,.int .i64 d,.int .i64 0] w fun e w'=>e=.returned (.int .u64 K)∧w'=w:=by
 go_enter Tryz.func163,Tryz.ntmps163
 go_wp2
 go_ret
 exact⟨rfl,rfl⟩
theorem c58_1 (m d K L F K1:Int) (o:Bool) (w:World) (h1:1≤d) (h2:d≤64) (hm:0≤m) (hK:m / 2^d.toNat=K) (hL:IntKind.u64.wrap (m - IntKind.u64.wrap (K*2^d.toNat))=L) (hF:IntKind.u64.wrap (2^(d.toNat - 1))=F) (ho:(bits BinOp.and IntKind.u64 K 1==1)=o) (hK1:IntKind.u64.wrap (K+1)=K1) :
  Calls Tryz.prog 163 #[.int .u64 m,.int .i64 d,.int .i64 1] w fun e w'=>e=.returned (.int .u64 (if decide (F<L)||((L==F)&&o)then K1 else K))∧w'=w:=by
 by_cases h3:F<L
 ·rw[decide_eq_true h3]
  simp only[Bool.true_or,if_true]
  go_enter Tryz.func163,Tryz.ntmps163
  go_wp2
  go_ret
  exact⟨rfl,rfl⟩
 ·rw[decide_eq_false h3]
  cases h4:(L==F) with
  | true =>
   cases o with
   | true =>
    simp only[Bool.false_or,Bool.true_and,if_true]
    go_enter Tryz.func163,Tryz.ntmps163
    go_wp2
    go_ret
    exact⟨rfl,rfl⟩
   | false =>
    simp only[Bool.false_or,Bool.true_and,if_false,Bool.false_eq_true]
    go_enter Tryz.func163,Tryz.ntmps163
    go_wp2
    go_ret
    exact⟨rfl,rfl⟩
  | false =>
   simp only[Bool.false_or,Bool.false_and,if_false,Bool.false_eq_true]
   go_enter Tryz.func163,Tryz.ntmps163
   go_wp2
   go_ret
   exact⟨rfl,rfl⟩
theorem c58_2 (m d K L F K1:Int) (o:Bool) (w:World) (h1:1≤d) (h2:d≤64) (hm:0≤m) (hK:m / 2^d.toNat=K) (hL:IntKind.u64.wrap (m - IntKind.u64.wrap (K*2^d.toNat))=L) (hF:IntKind.u64.wrap (2^(d.toNat - 1))=F) (ho:(bits BinOp.and IntKind.u64 K 1==1)=o) (hK1:IntKind.u64.wrap (K+1)=K1) :
  Calls Tryz.prog 163 #[.int .u64 m,.int .i64 d,.int .i64 2] w fun e w'=>e=.returned (.int .u64 (if(L != 0)then K1 else K))∧w'=w:=by
 cases h3:(L != 0) with
 | true =>
  simp only[if_true]
  go_enter Tryz.func163,Tryz.ntmps163
  go_wp2
  go_ret
  exact⟨rfl,rfl⟩
 | false =>
  simp only[if_false,Bool.false_eq_true]
  go_enter Tryz.func163,Tryz.ntmps163
  go_wp2
  go_ret
  exact⟨rfl,rfl⟩
theorem c58_0b (m d:Int) (w:World) (h2:64<d) :
  Calls Tryz.prog 163 #[.int .u64 m,.int .i64 d,.int .i64 0] w fun e w'=>e=.returned (.int .u64 0)∧w'=w:=by
 go_enter Tryz.func163,Tryz.ntmps163
 go_wp2
 go_ret
 exact⟨rfl,rfl⟩
theorem c58_1b (m d:Int) (w:World) (h2:64<d) :
  Calls Tryz.prog 163 #[.int .u64 m,.int .i64 d,.int .i64 1] w fun e w'=>e=.returned (.int .u64 0)∧w'=w:=by
 go_enter Tryz.func163,Tryz.ntmps163
 go_wp2
 go_ret
 exact⟨rfl,rfl⟩
theorem c58_2b (m d:Int) (w:World) (h2:64<d) :
  Calls Tryz.prog 163 #[.int .u64 m,.int .i64 d,.int .i64 2] w fun e w'=>e=.returned (.int .u64 1)∧w'=w:=by
 go_enter Tryz.func163,Tryz.ntmps163
 go_wp2
 go_ret
 exact⟨rfl,rfl⟩
def rup (M d:Nat) (way:Int):Bool :=
 if way=1 then decide (2^d<2*(M % 2^d))||(decide (2*(M % 2^d)=2^d)&&decide (M / 2^d % 2=1))else if way=2 then decide (M % 2^d≠0)else false
def rnd (M d:Nat) (way:Int):Nat:=if rup M d way then M / 2^d+1 else M / 2^d
theorem rnd_big (M d:Nat) (way:Int) (hM:M<18446744073709551616) (hM0:M≠0) (hd:64<d):rnd M d way=if way=2 then 1 else 0:=by
 have hp:2^65≤2^d:=Nat.pow_le_pow_right (by decide) hd
 have hp':36893488147419103232≤2^d:=hp
 have e1:M % 2^d=M:=Nat.mod_eq_of_lt (by omega)
 have e2:M / 2^d=0:=Nat.div_eq_of_lt (by omega)
 unfold rnd rup
 rw[e1,e2]
 by_cases h1:way=1
 ·subst h1
  simp
  omega
 ·rw[if_neg h1]
  by_cases h2:way=2
  ·subst h2
   simp[hM0]
  ·rw[if_neg h2,if_neg h2]
   rfl
theorem c58 (M d:Nat) (way:Int) (hM:M<18446744073709551616) (hM0:M≠0) (hd:1≤d) (hw:way=0∨way=1∨way=2) (w:World) :
  Calls Tryz.prog 163 #[.int .u64 M,.int .i64 d,.int .i64 way] w fun e w'=>e=.returned (.int .u64 (rnd M d way))∧w'=w:=by
 by_cases hb:64<d
 ·rw[rnd_big M d way hM hM0 hb]
  rcases hw with rfl|rfl|rfl
  ·exact c58_0b M d w (by omega)
  ·exact c58_1b M d w (by omega)
  ·exact c58_2b M d w (by omega)
 ·have hp:0<2^d:=Nat.two_pow_pos d
  have hdm:2^d*(M / 2^d)+M % 2^d=M:=Nat.div_add_mod M (2^d)
  have hml:M % 2^d<2^d:=Nat.mod_lt _ hp
  have e1:2^d=2*2^(d - 1):=by rw[←Nat.pow_succ',show(d - 1).succ=d by omega]
  have hpb:2^(d - 1)≤9223372036854775808:=(show 2^(d - 1)≤2^63 from Nat.pow_le_pow_right (by decide) (by omega))
  have cK:(M:Int) / 2^(d:Int).toNat=((M / 2^d:Nat):Int):=by rw[Int.toNat_natCast];simp
  have cL:IntKind.u64.wrap ((M:Int) - IntKind.u64.wrap (((M / 2^d:Nat):Int)*2^(d:Int).toNat))=((M % 2^d:Nat):Int):=by
   have e2:((M / 2^d:Nat):Int)*2^(d:Int).toNat=((2^d*(M / 2^d):Nat):Int):=by
    rw[Int.toNat_natCast,Int.natCast_mul,Int.mul_comm]
    simp
   rw[e2,IntKind.wrap_u64,IntKind.wrap_u64]
   omega
  have cF:IntKind.u64.wrap (2^((d:Int).toNat - 1))=((2^(d - 1):Nat):Int):=by
   have e2:(2:Int)^((d:Int).toNat - 1)=((2^(d - 1):Nat):Int):=by rw[Int.toNat_natCast];simp
   rw[e2,IntKind.wrap_u64]
   omega
  have hkb:M / 2^d≤9223372036854775808:=by
   have:M / 2^d≤M / 2:=Nat.div_le_div_left (by omega) (by decide)
   omega
  have co:(bits BinOp.and IntKind.u64 ((M / 2^d:Nat):Int) 1==1)=decide (M / 2^d % 2=1):=by
   have e:=u64_and_nat (M / 2^d) 1 (by omega) (by decide)
   rw[show((1:Nat):Int)=1 from rfl] at e
   rw[e,Nat.and_one_is_mod,Bool.beq_eq_decide_eq]
   congr 1
   apply propext
   omega
  have cK1:IntKind.u64.wrap (((M / 2^d:Nat):Int)+1)=((M / 2^d+1:Nat):Int):=by
   clear cL cF cK co hdm hml
   generalize M / 2^d=q at hkb ⊢
   rw[IntKind.wrap_u64]
   omega
  rcases hw with rfl|rfl|rfl
  ·have:=c58_0 M d _ _ _ _ _ w (by omega) (by omega) (by omega) cK cL cF co cK1
   exact this
  ·have:=c58_1 M d _ _ _ _ _ w (by omega) (by omega) (by omega) cK cL cF co cK1
   have e3:(if decide (((2^(d - 1):Nat):Int)<((M % 2^d:Nat):Int))||((((M % 2^d:Nat):Int)==((2^(d - 1):Nat):Int))&&decide (M / 2^d % 2=1)) then((M / 2^d+1:Nat):Int) else((M / 2^d:Nat):Int))=(rnd M d 1:Int):=by
    unfold rnd rup
    rw[if_pos rfl]
    have e4:decide (((2^(d - 1):Nat):Int)<((M % 2^d:Nat):Int))=decide (2^d<2*(M % 2^d)):=by
     congr 1;apply propext;omega
    have e5:(((M % 2^d:Nat):Int)==((2^(d - 1):Nat):Int))=decide (2*(M % 2^d)=2^d):=by
     rw[Bool.beq_eq_decide_eq];congr 1;apply propext;omega
    rw[e4,e5]
    split <;> rfl
   rw[e3] at this
   exact this
  ·have:=c58_2 M d _ _ _ _ _ w (by omega) (by omega) (by omega) cK cL cF co cK1
   have e3:(if((((M % 2^d:Nat):Int)) != 0) then((M / 2^d+1:Nat):Int) else((M / 2^d:Nat):Int))=(rnd M d 2:Int):=by
    unfold rnd rup
    rw[if_neg (show ¬ (2:Int)=1 by decide),if_pos (show(2:Int)=2 from rfl)]
    have e4:((((M % 2^d:Nat):Int)) != 0)=decide (M % 2^d≠0):=by
     rw[bne,Bool.beq_eq_decide_eq,←decide_not];congr 1;apply propext;omega
    rw[e4]
    split <;> rfl
   rw[e3] at this
   exact this
end Go.Proofs.YtokklnjoalkjaaaGreatDoor.Ie
/- What the program's roundBody answers: the bits of m times 2 to the e, rounded inward, to the nearest or outward. -/
namespace Go.Proofs.YtokklnjoalkjaaaGreatDoor.Ie
open Go.RowKit Go.Fl64
def nz (m:Nat):Nat:=64 - bitLen m
def tp (m:Nat):Nat:=m*2^nz m
def pl (m:Nat) (e:Int):Int:=if e - (nz m:Int)+63 - 52 < -1074 then -1074 else e - (nz m:Int)+63 - 52
def raw (m:Nat) (e way:Int):Int:=(pl m e+1074)*4503599627370496+(rnd (tp m) (pl m e - (e - (nz m:Int))).toNat way:Int)
def bod (m:Nat) (e way:Int):Int:=if raw m e way<9218868437227405312 then raw m e way else if way==0 then 9218868437227405311 else 9218868437227405312
theorem nz_facts (m:Nat) (hm:m<18446744073709551616) (h0:m≠0):nz m≤63∧9223372036854775808≤tp m∧tp m<18446744073709551616:=by
 obtain⟨h1,h2⟩:=bitLen_spec m
 have h2:=h2 h0
 have h3:=bitLen_le64 m hm
 have h4:bitLen m≠0:=by unfold bitLen;rw[if_neg h0];omega
 have hp:0<2^nz m:=Nat.two_pow_pos _
 have e1:2^bitLen m*2^nz m=18446744073709551616:=by
  rw[←Nat.pow_add,show bitLen m+nz m=64 by unfold nz;omega]
 have e2:2^(bitLen m - 1)*2^nz m=9223372036854775808:=by
  rw[←Nat.pow_add,show bitLen m - 1+nz m=63 by unfold nz;omega]
 refine⟨by unfold nz;omega,?_,?_⟩
 ·rw[←e2];exact Nat.mul_le_mul_right _ h2
 ·rw[←e1];exact(Nat.mul_lt_mul_right hp).2 h1
theorem rnd_le (M d:Nat) (way:Int) (hM:M<18446744073709551616) (hd:11≤d):rnd M d way≤9007199254740992:=by
 have hp:2^11≤2^d:=Nat.pow_le_pow_right (by decide) hd
 have h1:M / 2^d≤M / 2^11:=Nat.div_le_div_left hp (by decide)
 have h2:M / 2^11<9007199254740992:=by omega
 unfold rnd
 split <;> omega
theorem drop_ge (m:Nat) (e:Int):11≤(pl m e - (e - (nz m:Int))).toNat:=by
 unfold pl
 split <;> omega
theorem raw_bounds (m:Nat) (e way:Int) (hm:m<18446744073709551616) (h0:m≠0):(pl m e+1074)*4503599627370496≤raw m e way∧raw m e way≤(pl m e+1076)*4503599627370496 ∧ -1074≤pl m e:=by
 have h1:=rnd_le (tp m) (pl m e - (e - (nz m:Int))).toNat way (nz_facts m hm h0).2.2 (drop_ge m e)
 unfold raw
 refine⟨by omega,by omega,?_⟩
 unfold pl
 split <;> omega
theorem bod_bounds (m:Nat) (e way:Int) (hm:m<18446744073709551616) (h0:m≠0):0≤bod m e way∧bod m e way≤9218868437227405312:=by
 have h1:=raw_bounds m e way hm h0
 unfold bod
 split
 ·omega
 ·split <;> omega
theorem bod_clamp (m:Nat) (e way:Int) (hm:m<18446744073709551616) (h0:m≠0) :
  bod m (if 1100<(if e < -1200 then -1200 else e)then 1100 else(if e < -1200 then -1200 else e)) way=bod m e way:=by
 obtain⟨hz,ht0,ht1⟩:=nz_facts m hm h0
 by_cases h1:e < -1200
 ·rw[if_pos h1,if_neg (by omega)]
  have p1:pl m (-1200) = -1074:=by unfold pl;rw[if_pos (by omega)]
  have p2:pl m e = -1074:=by unfold pl;rw[if_pos (by omega)]
  unfold bod raw
  rw[p1,p2,rnd_big _ _ way ht1 (by omega) (by omega),rnd_big _ _ way ht1 (by omega) (by omega)]
 ·rw[if_neg h1]
  by_cases h2:1100<e
  ·rw[if_pos h2]
   have q1:=(raw_bounds m 1100 way hm h0).1
   have q2:=(raw_bounds m e way hm h0).1
   have p1:pl m 1100=1100 - (nz m:Int)+63 - 52:=by unfold pl;rw[if_neg (by omega)]
   have p2:pl m e=e - (nz m:Int)+63 - 52:=by unfold pl;rw[if_neg (by omega)]
   unfold bod
   rw[if_neg (show ¬ raw m 1100 way<9218868437227405312 by omega),if_neg (show ¬ raw m e way<9218868437227405312 by omega)]
  ·rw[if_neg h2]
theorem c53x (m e way S Mn e0 E P B:Int) (R:Int→Int) (w:World) (hS0:0≤S) (hS1:S≤63) (hM:IntKind.u64.wrap (m*2^S.toNat)=Mn)
  (hc1:(if e < -1200 then -1200 else e)=e0) (hc2:(if 1100<e0 then 1100 else e0)=E) (hp:(if E - S+63 - 52 < -1074 then -1074 else E - S+63 - 52)=P)
  (hE0 : -1200≤E) (hE1:E≤1100) (hp0 : -1074≤P) (hp1:P≤1111)
  (hB:IntKind.u64.wrap ((P+1074)*4503599627370496+R (P - (E - S)))=B)
  (k57:∀ w,Calls Tryz.prog 162 #[.int .u64 m] w fun e w'=>e=.returned (.int .i64 S)∧w'=w)
  (k58:∀ w,Calls Tryz.prog 163 #[.int .u64 Mn,.int .i64 (P - (E - S)),.int .i64 way] w fun e w'=>e=.returned (.int .u64 (R (P - (E - S))))∧w'=w) :
  Calls Tryz.prog 129 #[.int .u64 m,.int .i64 e,.int .i64 way] w fun e w'=>e=.returned (.int .u64 (if B<9218868437227405312 then B else if way==0 then 9218868437227405311 else 9218868437227405312))∧w'=w:=by
 have kb:=run_bits
 by_cases h1:B<9218868437227405312
 ·rw[if_pos h1]
  go_enter Tryz.func129,Tryz.ntmps129
  go_wp2_with (first|(go_at_call 162;refine(k57 _).mono ?_;rintro e w' ⟨rfl,rfl⟩)|(go_at_call 163;refine(k58 _).mono ?_;rintro e w' ⟨rfl,rfl⟩))
  go_ret
  exact⟨rfl,rfl⟩
 ·rw[if_neg h1]
  cases h2:(way==0) with
  | true =>
   simp only[if_true]
   go_enter Tryz.func129,Tryz.ntmps129
   go_wp2_with (first|(go_at_call 162;refine(k57 _).mono ?_;rintro e w' ⟨rfl,rfl⟩)|(go_at_call 163;refine(k58 _).mono ?_;rintro e w' ⟨rfl,rfl⟩))
   go_ret
   exact⟨rfl,rfl⟩
  | false =>
   simp only[if_false,Bool.false_eq_true]
   go_enter Tryz.func129,Tryz.ntmps129
   go_wp2_with (first|(go_at_call 162;refine(k57 _).mono ?_;rintro e w' ⟨rfl,rfl⟩)|(go_at_call 163;refine(k58 _).mono ?_;rintro e w' ⟨rfl,rfl⟩))
   go_ret
   exact⟨rfl,rfl⟩
theorem c53 (m:Nat) (e way:Int) (hm:m<18446744073709551616) (h0:m≠0) (hw:way=0∨way=1∨way=2) (w:World) :
  Calls Tryz.prog 129 #[.int .u64 m,.int .i64 e,.int .i64 way] w fun r w'=>r=.returned (.int .u64 (bod m e way))∧w'=w:=by
 rw[←bod_clamp m e way hm h0]
 generalize hE:(if 1100<(if e < -1200 then -1200 else e)then 1100 else(if e < -1200 then -1200 else e))=E
 have hE0 : -1200≤E∧E≤1100:=by
  rw[←hE]
  by_cases h1:e < -1200
  ·rw[if_pos h1,if_neg (by omega)];omega
  ·rw[if_neg h1]
   by_cases h2:1100<e
   ·rw[if_pos h2];omega
   ·rw[if_neg h2];omega
 obtain⟨hz,ht0,ht1⟩:=nz_facts m hm h0
 have hb:=raw_bounds m E way hm h0
 have hd:=drop_ge m E
 have hl:=bitLen_le64 m hm
 have k57:=c57 m hm
 have ez:(64:Int) - (bitLen m:Int)=(nz m:Int):=by unfold nz;omega
 rw[ez] at k57
 have k58:=fun w=>c58 (tp m) (pl m E - (E - (nz m:Int))).toNat way ht1 (by omega) (by omega) hw w
 have ed:(((pl m E - (E - (nz m:Int))).toNat:Nat):Int)=pl m E - (E - (nz m:Int)):=by omega
 rw[ed] at k58
 have hM:IntKind.u64.wrap ((m:Int)*2^(nz m:Int).toNat)=((tp m:Nat):Int):=by
  have e1:(m:Int)*2^(nz m:Int).toNat=((tp m:Nat):Int):=by
   rw[Int.toNat_natCast]
   unfold tp
   simp
  rw[e1,IntKind.wrap_u64]
  omega
 have hP1:pl m E≤1111:=by unfold pl;split <;> omega
 have hB:IntKind.u64.wrap ((pl m E+1074)*4503599627370496+(fun D:Int=>(rnd (tp m) D.toNat way:Int)) (pl m E - (E - (nz m:Int))))=raw m E way:=by
  show IntKind.u64.wrap (raw m E way)=raw m E way
  rw[IntKind.wrap_u64]
  omega
 exact c53x m e way (nz m) (tp m) _ E (pl m E) (raw m E way) (fun D=>(rnd (tp m) D.toNat way:Int)) w (by omega) (by omega) hM rfl hE rfl hE0.1 hE0.2 hb.2.2 hP1 hB k57 k58
end Go.Proofs.YtokklnjoalkjaaaGreatDoor.Ie
/- What the program's Make answers: the float of m times 2 to the e, rounded by the mode. -/
namespace Go.Proofs.YtokklnjoalkjaaaGreatDoor.Ie
open Go.RowKit Go.Fl64
def wy (neg:Bool) (mode:Int):Int:=if mode=2 then 1 else if(neg==(mode==1))then 2 else 0
def mk (neg:Bool) (m:Nat) (e mode:Int) (nan:Nat):Nat:=if mode=1∨mode=2∨mode=3 then sig neg (if m=0 then 0 else(bod m e (wy neg mode)).toNat)else nan
theorem c52 (w:World):Calls Tryz.prog 38 #[] w fun e w'=>e=.returned (.float .f64 9221120237041090561)∧w'=w:=by
 have kf:=run_frombits
 go_enter Tryz.func38,Tryz.ntmps38
 go_wp2
 go_ret
 exact⟨rfl,rfl⟩
theorem c24_2true (m e B C:Int) (w:World) (hm:(m != 0)=true)
  (k53:∀ w,Calls Tryz.prog 129 #[.int .u64 m,.int .i64 e,.int .i64 1] w fun r w'=>r=.returned (.int .u64 B)∧w'=w) (hor:bits .or .u64 B 9223372036854775808=C) :
  Calls Tryz.prog 92 #[.bool true,.int .u64 m,.int .i64 e,.int .i64 2] w fun r w'=>r=.returned (.float .f64 C.toNat)∧w'=w:=by
 have kf:=run_frombits
 go_enter Tryz.func92,Tryz.ntmps92
 go_wp2_with (first|(go_at_call 129;refine(k53 _).mono ?_;rintro e w' ⟨rfl,rfl⟩))
 go_ret
 exact⟨rfl,rfl⟩
theorem c24_2truez (e C:Int) (w:World) (hor:bits .or .u64 0 9223372036854775808=C) :
  Calls Tryz.prog 92 #[.bool true,.int .u64 0,.int .i64 e,.int .i64 2] w fun r w'=>r=.returned (.float .f64 C.toNat)∧w'=w:=by
 have kf:=run_frombits
 go_enter Tryz.func92,Tryz.ntmps92
 go_wp2
 go_ret
 exact⟨rfl,rfl⟩
theorem c24_2false (m e B C:Int) (w:World) (hm:(m != 0)=true)
  (k53:∀ w,Calls Tryz.prog 129 #[.int .u64 m,.int .i64 e,.int .i64 1] w fun r w'=>r=.returned (.int .u64 B)∧w'=w) (hor:bits .or .u64 B 9223372036854775808=C) :
  Calls Tryz.prog 92 #[.bool false,.int .u64 m,.int .i64 e,.int .i64 2] w fun r w'=>r=.returned (.float .f64 B.toNat)∧w'=w:=by
 have kf:=run_frombits
 go_enter Tryz.func92,Tryz.ntmps92
 go_wp2_with (first|(go_at_call 129;refine(k53 _).mono ?_;rintro e w' ⟨rfl,rfl⟩))
 go_ret
 exact⟨rfl,rfl⟩
theorem c24_2falsez (e C:Int) (w:World) (hor:bits .or .u64 0 9223372036854775808=C) :
  Calls Tryz.prog 92 #[.bool false,.int .u64 0,.int .i64 e,.int .i64 2] w fun r w'=>r=.returned (.float .f64 0)∧w'=w:=by
 have kf:=run_frombits
 go_enter Tryz.func92,Tryz.ntmps92
 go_wp2
 go_ret
 exact⟨rfl,rfl⟩
theorem c24_1true (m e B C:Int) (w:World) (hm:(m != 0)=true)
  (k53:∀ w,Calls Tryz.prog 129 #[.int .u64 m,.int .i64 e,.int .i64 2] w fun r w'=>r=.returned (.int .u64 B)∧w'=w) (hor:bits .or .u64 B 9223372036854775808=C) :
  Calls Tryz.prog 92 #[.bool true,.int .u64 m,.int .i64 e,.int .i64 1] w fun r w'=>r=.returned (.float .f64 C.toNat)∧w'=w:=by
 have kf:=run_frombits
 go_enter Tryz.func92,Tryz.ntmps92
 go_wp2_with (first|(go_at_call 129;refine(k53 _).mono ?_;rintro e w' ⟨rfl,rfl⟩))
 go_ret
 exact⟨rfl,rfl⟩
theorem c24_1truez (e C:Int) (w:World) (hor:bits .or .u64 0 9223372036854775808=C) :
  Calls Tryz.prog 92 #[.bool true,.int .u64 0,.int .i64 e,.int .i64 1] w fun r w'=>r=.returned (.float .f64 C.toNat)∧w'=w:=by
 have kf:=run_frombits
 go_enter Tryz.func92,Tryz.ntmps92
 go_wp2
 go_ret
 exact⟨rfl,rfl⟩
theorem c24_3false (m e B C:Int) (w:World) (hm:(m != 0)=true)
  (k53:∀ w,Calls Tryz.prog 129 #[.int .u64 m,.int .i64 e,.int .i64 2] w fun r w'=>r=.returned (.int .u64 B)∧w'=w) (hor:bits .or .u64 B 9223372036854775808=C) :
  Calls Tryz.prog 92 #[.bool false,.int .u64 m,.int .i64 e,.int .i64 3] w fun r w'=>r=.returned (.float .f64 B.toNat)∧w'=w:=by
 have kf:=run_frombits
 go_enter Tryz.func92,Tryz.ntmps92
 go_wp2_with (first|(go_at_call 129;refine(k53 _).mono ?_;rintro e w' ⟨rfl,rfl⟩))
 go_ret
 exact⟨rfl,rfl⟩
theorem c24_3falsez (e C:Int) (w:World) (hor:bits .or .u64 0 9223372036854775808=C) :
  Calls Tryz.prog 92 #[.bool false,.int .u64 0,.int .i64 e,.int .i64 3] w fun r w'=>r=.returned (.float .f64 0)∧w'=w:=by
 have kf:=run_frombits
 go_enter Tryz.func92,Tryz.ntmps92
 go_wp2
 go_ret
 exact⟨rfl,rfl⟩
theorem c24_1false (m e B C:Int) (w:World) (hm:(m != 0)=true)
  (k53:∀ w,Calls Tryz.prog 129 #[.int .u64 m,.int .i64 e,.int .i64 0] w fun r w'=>r=.returned (.int .u64 B)∧w'=w) (hor:bits .or .u64 B 9223372036854775808=C) :
  Calls Tryz.prog 92 #[.bool false,.int .u64 m,.int .i64 e,.int .i64 1] w fun r w'=>r=.returned (.float .f64 B.toNat)∧w'=w:=by
 have kf:=run_frombits
 go_enter Tryz.func92,Tryz.ntmps92
 go_wp2_with (first|(go_at_call 129;refine(k53 _).mono ?_;rintro e w' ⟨rfl,rfl⟩))
 go_ret
 exact⟨rfl,rfl⟩
theorem c24_1falsez (e C:Int) (w:World) (hor:bits .or .u64 0 9223372036854775808=C) :
  Calls Tryz.prog 92 #[.bool false,.int .u64 0,.int .i64 e,.int .i64 1] w fun r w'=>r=.returned (.float .f64 0)∧w'=w:=by
 have kf:=run_frombits
 go_enter Tryz.func92,Tryz.ntmps92
 go_wp2
 go_ret
 exact⟨rfl,rfl⟩
theorem c24_3true (m e B C:Int) (w:World) (hm:(m != 0)=true)
  (k53:∀ w,Calls Tryz.prog 129 #[.int .u64 m,.int .i64 e,.int .i64 0] w fun r w'=>r=.returned (.int .u64 B)∧w'=w) (hor:bits .or .u64 B 9223372036854775808=C) :
  Calls Tryz.prog 92 #[.bool true,.int .u64 m,.int .i64 e,.int .i64 3] w fun r w'=>r=.returned (.float .f64 C.toNat)∧w'=w:=by
 have kf:=run_frombits
 go_enter Tryz.func92,Tryz.ntmps92
 go_wp2_with (first|(go_at_call 129;refine(k53 _).mono ?_;rintro e w' ⟨rfl,rfl⟩))
 go_ret
 exact⟨rfl,rfl⟩
theorem c24_3truez (e C:Int) (w:World) (hor:bits .or .u64 0 9223372036854775808=C) :
  Calls Tryz.prog 92 #[.bool true,.int .u64 0,.int .i64 e,.int .i64 3] w fun r w'=>r=.returned (.float .f64 C.toNat)∧w'=w:=by
 have kf:=run_frombits
 go_enter Tryz.func92,Tryz.ntmps92
 go_wp2
 go_ret
 exact⟨rfl,rfl⟩
theorem c24_none (neg:Bool) (m e mode:Int) (w:World) (h1:(mode==1)=false) (h2:(mode==2)=false) (h3:(mode==3)=false) :
  Calls Tryz.prog 92 #[.bool neg,.int .u64 m,.int .i64 e,.int .i64 mode] w fun r w'=>r=.returned (.float .f64 9221120237041090561)∧w'=w:=by
 go_enter Tryz.func92,Tryz.ntmps92
 go_wp2_with (first|(go_at_call 38;refine(c52 _).mono ?_;rintro e w' ⟨rfl,rfl⟩))
 go_ret
 exact⟨rfl,rfl⟩
theorem c24 (neg:Bool) (m:Nat) (e mode:Int) (hm:m<18446744073709551616) (w:World) :
  Calls Tryz.prog 92 #[.bool neg,.int .u64 m,.int .i64 e,.int .i64 mode] w fun r w'=>r=.returned (.float .f64 (mk neg m e mode 9221120237041090561))∧w'=w:=by
 have hz:bits .or .u64 0 9223372036854775808=9223372036854775808:=by decide +kernel
 by_cases hmode:mode=1∨mode=2∨mode=3
 ·unfold mk
  rw[if_pos hmode]
  by_cases h0:m=0
  ·subst h0
   rw[if_pos rfl]
   rcases hmode with rfl|rfl|rfl <;> cases neg
   ·exact c24_1falsez e _ w hz
   ·exact c24_1truez e _ w hz
   ·exact c24_2falsez e _ w hz
   ·exact c24_2truez e _ w hz
   ·exact c24_3falsez e _ w hz
   ·exact c24_3truez e _ w hz
  ·rw[if_neg h0]
   have hb:((m:Int) != 0)=true:=by simp;omega
   have hor:∀ way,bits .or .u64 (bod m e way) 9223372036854775808=(((bod m e way).toNat+9223372036854775808:Nat):Int):=by
    intro way
    have h1:=bod_bounds m e way hm h0
    have h2:=or_sign (bod m e way).toNat (by omega)
    rw[show(((bod m e way).toNat:Nat):Int)=bod m e way by omega] at h2
    exact h2
   rcases hmode with rfl|rfl|rfl <;> cases neg
   ·exact c24_1false m e _ _ w hb (fun w=>c53 m e 0 hm h0 (by simp) w) (hor 0)
   ·exact c24_1true m e _ _ w hb (fun w=>c53 m e 2 hm h0 (by simp) w) (hor 2)
   ·exact c24_2false m e _ _ w hb (fun w=>c53 m e 1 hm h0 (by simp) w) (hor 1)
   ·exact c24_2true m e _ _ w hb (fun w=>c53 m e 1 hm h0 (by simp) w) (hor 1)
   ·exact c24_3false m e _ _ w hb (fun w=>c53 m e 2 hm h0 (by simp) w) (hor 2)
   ·exact c24_3true m e _ _ w hb (fun w=>c53 m e 0 hm h0 (by simp) w) (hor 0)
 ·unfold mk
  rw[if_neg hmode]
  exact c24_none neg m e mode w (by simp;omega) (by simp;omega) (by simp;omega)
end Go.Proofs.YtokklnjoalkjaaaGreatDoor.Ie
/- What the program's lastPlace and Split answer. -/
namespace Go.Proofs.YtokklnjoalkjaaaGreatDoor.Ie
open Go.RowKit Go.Fl64
def lp (a:Nat):Int := -1075+max 1 ((mag a / 4503599627370496:Nat):Int)
def mant (a:Nat):Nat:=if mag a<4503599627370496 then mag a else 4503599627370496+mag a % 4503599627370496
theorem c47 (a:Nat) (ha:a<18446744073709551616) (w:World) :
  Calls Tryz.prog 161 #[.float .f64 a] w fun e w'=>e=.returned (.int .i64 (lp a))∧w'=w:=by
 have k32:=c32 a ha
 have e:Hid (wrap64 (-1075+max 1 (wrap64 ((mag a:Int) / 4503599627370496)))=lp a):=by
  have:=mag_lt a
  show wrap64 (-1075+max 1 (wrap64 ((mag a:Int) / 4503599627370496)))=lp a
  unfold lp wrap64
  omega
 clear ha
 generalize (mag a:Int)=m at k32 e ⊢
 generalize lp a=r at e ⊢
 go_enter Tryz.func161,Tryz.ntmps161
 go_wp2_with (first|(go_at_call 159;refine(k32 _).mono ?_;rintro e w' ⟨rfl,rfl⟩))
 all_goals go_ret
 ·refine⟨?_,rfl⟩
  show Ending.returned (.int .i64 (wrap64 (-1075+wrap64 (m / 4503599627370496))))=_
  rw[←e.out,Int.max_eq_right (Int.le_of_lt (by assumption))]
 ·refine⟨?_,rfl⟩
  show Ending.returned (.int .i64 (wrap64 (-1074)))=_
  rw[←e.out,Int.max_eq_left (by assumption)]
  rfl
theorem results_tmp4 {fn:Func} {t u v x:Tmp} (h:fn.results = #[.tmp t,.tmp u,.tmp v,.tmp x]) (tmps:Array Value) (P:Program) (w:World) :
  (results fn tmps).run P w=.ok (.tuple #[tmps.getD t undef,tmps.getD u undef,tmps.getD v undef,tmps.getD x undef]) w:=by
 simp[results,h]
theorem cls1 {a:Nat} (h:9218868437227405312<mag a):cls a=1∧cneg a=false:=by
 unfold cls cneg
 rw[if_pos (by omega),if_pos (by omega)]
 exact⟨rfl,rfl⟩
theorem cls2 {a:Nat} (h:mag a=9218868437227405312):cls a=2∧cneg a=neg a:=by
 unfold cls cneg
 rw[h]
 exact⟨rfl,rfl⟩
theorem cls3 {a:Nat} (h:mag a=0):cls a=3∧cneg a=neg a:=by
 unfold cls cneg
 rw[h]
 exact⟨rfl,rfl⟩
theorem int_beq_false {x y:Int} (h:x≠y):(x==y)=false:=by simpa using h
theorem cls4 {a:Nat} (h0:mag a≠0) (h:mag a<4503599627370496):cls a=4∧cneg a=neg a:=by
 have e1:¬ (9218868437227405312:Int)<(mag a:Int):=by omega
 have e2:((mag a:Int)==9218868437227405312)=false:=int_beq_false (by omega)
 have e3:((mag a:Int)==0)=false:=int_beq_false (by omega)
 have e4:(mag a:Int)<4503599627370496:=by omega
 refine⟨?_,if_neg e1⟩
 simp only[cls,e1,e2,e3,e4,if_true,if_false,Bool.false_eq_true]
theorem cls5 {a:Nat} (h:4503599627370496≤mag a) (h1:mag a<9218868437227405312):cls a=5∧cneg a=neg a:=by
 have e1:¬ (9218868437227405312:Int)<(mag a:Int):=by omega
 have e2:((mag a:Int)==9218868437227405312)=false:=int_beq_false (by omega)
 have e3:((mag a:Int)==0)=false:=int_beq_false (by omega)
 have e4:¬ (mag a:Int)<4503599627370496:=by omega
 refine⟨?_,if_neg e1⟩
 simp only[cls,e1,e2,e3,e4,if_false,Bool.false_eq_true]
def sM (a:Nat):Int:=if 9218868437227405312≤mag a then 0 else if mag a=0 then 0 else(mant a:Int) / 2^Lib.ctz 64 (mant a)
def sE (a:Nat):Int:=if 9218868437227405312≤mag a then 0 else if mag a=0 then 0 else lp a+(Lib.ctz 64 (mant a):Int)
def sN (a:Nat):Bool:=if 9218868437227405312≤mag a then false else neg a
def sO (a:Nat):Bool:=if 9218868437227405312≤mag a then false else true
theorem c22_12 (a:Nat) (w:World) (s:Bool) (M c:Int) (hc:c=1∨c=2)
  (k9:∀ w,Calls Tryz.prog 158 #[.float .f64 a] w fun e w'=>e=.returned (.tuple #[.int .i64 c,.bool s])∧w'=w)
  (k32:∀ w,Calls Tryz.prog 159 #[.float .f64 a] w fun e w'=>e=.returned (.int .u64 M)∧w'=w) :
  Calls Tryz.prog 125 #[.float .f64 a] w fun e w'=>e=.returned (.tuple #[.int .u64 0,.int .i64 0,.bool false,.bool false])∧w'=w:=by
 rcases hc with rfl|rfl
 ·go_enter Tryz.func125,Tryz.ntmps125
  go_wp2_with (first|(go_at_call 158;refine(k9 _).mono ?_;rintro e w' ⟨rfl,rfl⟩)|(go_at_call 159;refine(k32 _).mono ?_;rintro e w' ⟨rfl,rfl⟩))
  refine bodyPost_ret (results_tmp4 rfl _ _ _) rfl ?_
  exact⟨rfl,rfl⟩
 ·go_enter Tryz.func125,Tryz.ntmps125
  go_wp2_with (first|(go_at_call 158;refine(k9 _).mono ?_;rintro e w' ⟨rfl,rfl⟩)|(go_at_call 159;refine(k32 _).mono ?_;rintro e w' ⟨rfl,rfl⟩))
  refine bodyPost_ret (results_tmp4 rfl _ _ _) rfl ?_
  exact⟨rfl,rfl⟩
theorem c22_3 (a:Nat) (w:World) (s:Bool) (M:Int)
  (k9:∀ w,Calls Tryz.prog 158 #[.float .f64 a] w fun e w'=>e=.returned (.tuple #[.int .i64 3,.bool s])∧w'=w)
  (k32:∀ w,Calls Tryz.prog 159 #[.float .f64 a] w fun e w'=>e=.returned (.int .u64 M)∧w'=w) :
  Calls Tryz.prog 125 #[.float .f64 a] w fun e w'=>e=.returned (.tuple #[.int .u64 0,.int .i64 0,.bool s,.bool true])∧w'=w:=by
 go_enter Tryz.func125,Tryz.ntmps125
 go_wp2_with (first|(go_at_call 158;refine(k9 _).mono ?_;rintro e w' ⟨rfl,rfl⟩)|(go_at_call 159;refine(k32 _).mono ?_;rintro e w' ⟨rfl,rfl⟩))
 refine bodyPost_ret (results_tmp4 rfl _ _ _) rfl ?_
 exact⟨rfl,rfl⟩
theorem c22_4 (a:Nat) (w:World) (s:Bool) (x:Nat) (T L M:Int)
  (k9:∀ w,Calls Tryz.prog 158 #[.float .f64 a] w fun e w'=>e=.returned (.tuple #[.int .i64 4,.bool s])∧w'=w)
  (k32:∀ w,Calls Tryz.prog 159 #[.float .f64 a] w fun e w'=>e=.returned (.int .u64 M)∧w'=w)
  (k47:∀ w,Calls Tryz.prog 161 #[.float .f64 a] w fun e w'=>e=.returned (.int .i64 L)∧w'=w)
  (k51:∀ w,Tab w→Calls Tryz.prog 160 #[.int .u64 x] w fun e w'=>e=.returned (.int .i64 T)∧w'=w)
  (hand:bits .and .u64 M 4503599627370495=(x:Int)) (hT0:0≤T) (hT1:T<64) (hT:Tab w) :
  Calls Tryz.prog 125 #[.float .f64 a] w fun e w'=>e=.returned (.tuple #[.int .u64 ((x:Int) / 2^T.toNat),.int .i64 (wrap64 (L+T)),.bool s,.bool true])∧∃ n,w'=w.drewN n:=by
 have KT:Hid (Tab w):=hT
 clear hT
 go_enter Tryz.func125,Tryz.ntmps125
 go_wp2_with (first|(go_at_call 158;refine(k9 _).mono ?_;rintro e w' ⟨rfl,rfl⟩)|(go_at_call 159;refine(k32 _).mono ?_;rintro e w' ⟨rfl,rfl⟩)|(go_at_call 160;refine(k51 _ KT.out).mono ?_;rintro e w' ⟨rfl,rfl⟩))
 go_quiet (first|(go_at_call 161;refine Calls.quiet_of_same (k47 _)))
 go_wp2
 refine bodyPost_ret (results_tmp4 rfl _ _ _) rfl ?_
 exact⟨rfl,_,rfl⟩
theorem c22_5 (a:Nat) (w:World) (s:Bool) (x:Nat) (T L M m:Int)
  (k9:∀ w,Calls Tryz.prog 158 #[.float .f64 a] w fun e w'=>e=.returned (.tuple #[.int .i64 5,.bool s])∧w'=w)
  (k32:∀ w,Calls Tryz.prog 159 #[.float .f64 a] w fun e w'=>e=.returned (.int .u64 M)∧w'=w)
  (k47:∀ w,Calls Tryz.prog 161 #[.float .f64 a] w fun e w'=>e=.returned (.int .i64 L)∧w'=w)
  (k51:∀ w,Tab w→Calls Tryz.prog 160 #[.int .u64 x] w fun e w'=>e=.returned (.int .i64 T)∧w'=w)
  (hand:bits .and .u64 M 4503599627370495=m) (hor:bits .or .u64 m 4503599627370496=(x:Int)) (hT0:0≤T) (hT1:T<64) (hT:Tab w) :
  Calls Tryz.prog 125 #[.float .f64 a] w fun e w'=>e=.returned (.tuple #[.int .u64 ((x:Int) / 2^T.toNat),.int .i64 (wrap64 (L+T)),.bool s,.bool true])∧∃ n,w'=w.drewN n:=by
 have KT:Hid (Tab w):=hT
 clear hT
 go_enter Tryz.func125,Tryz.ntmps125
 go_wp2_with (first|(go_at_call 158;refine(k9 _).mono ?_;rintro e w' ⟨rfl,rfl⟩)|(go_at_call 159;refine(k32 _).mono ?_;rintro e w' ⟨rfl,rfl⟩)|(go_at_call 160;refine(k51 _ KT.out).mono ?_;rintro e w' ⟨rfl,rfl⟩))
 go_quiet (first|(go_at_call 161;refine Calls.quiet_of_same (k47 _)))
 go_wp2
 refine bodyPost_ret (results_tmp4 rfl _ _ _) rfl ?_
 exact⟨rfl,_,rfl⟩
theorem and_mant (x:Nat) (h:x<18446744073709551616):bits .and .u64 (x:Int) 4503599627370495=((x % 4503599627370496:Nat):Int):=by
 have e:=u64_and_nat x 4503599627370495 h (by decide)
 rw[show((4503599627370495:Nat):Int)=4503599627370495 from rfl] at e
 rw[e]
 congr 1
 have:=Nat.and_two_pow_sub_one_eq_mod x 52
 simpa using this
theorem or_mant (x:Nat) (h:x<4503599627370496):bits .or .u64 (x:Int) 4503599627370496=((4503599627370496+x:Nat):Int):=by
 have e:=u64_or_nat x 4503599627370496 (by omega) (by decide)
 rw[show((4503599627370496:Nat):Int)=4503599627370496 from rfl] at e
 rw[e]
 congr 1
 have:=Nat.two_pow_add_eq_or_of_lt (i:=52) h 1
 rw[Nat.or_comm,←(show 2^52*1=4503599627370496 from rfl),←this]
theorem mant_bound (a:Nat):mant a<9007199254740992:=by
 unfold mant
 split <;> omega
theorem mant_ne {a:Nat} (h:mag a≠0):mant a≠0:=by
 unfold mant
 split <;> omega
theorem lp_bound (a:Nat) : -1074≤lp a∧lp a≤972:=by
 have:=mag_lt a
 unfold lp
 omega
theorem c22 (a:Nat) (ha:a<18446744073709551616) (w:World) (hT:Tab w) :
  Calls Tryz.prog 125 #[.float .f64 a] w fun e w'=>e=.returned (.tuple #[.int .u64 (sM a),.int .i64 (sE a),.bool (sN a),.bool (sO a)])∧∃ n,w'=w.drewN n:=by
 have k9:=c9 a ha
 have k32:=c32 a ha
 have k47:=c47 a ha
 by_cases h1:9218868437227405312≤mag a
 ·unfold sM sE sN sO
  rw[if_pos h1,if_pos h1,if_pos h1,if_pos h1]
  by_cases h2:mag a=9218868437227405312
  ·rw[(cls2 h2).1] at k9
   exact(c22_12 a w _ _ 2 (.inr rfl) k9 k32).mono fun e w' h=>⟨h.1,0,h.2⟩
  ·rw[(cls1 (a:=a) (by omega)).1] at k9
   exact(c22_12 a w _ _ 1 (.inl rfl) k9 k32).mono fun e w' h=>⟨h.1,0,h.2⟩
 ·unfold sM sE sN sO
  rw[if_neg h1,if_neg h1,if_neg h1,if_neg h1]
  by_cases h2:mag a=0
  ·rw[if_pos h2,if_pos h2]
   rw[(cls3 h2).1,(cls3 h2).2] at k9
   exact(c22_3 a w _ _ k9 k32).mono fun e w' h=>⟨h.1,0,h.2⟩
  ·rw[if_neg h2,if_neg h2]
   have hm:=mant_ne h2
   have hb:=mant_bound a
   have hl:=lp_bound a
   obtain⟨_,hk⟩:=Lib.lowest_bit 64 (mant a) hm (by omega)
   have k51:=fun w hT=>c51 (mant a) (by omega) hm w hT
   have ew:wrap64 (lp a+(Lib.ctz 64 (mant a):Int))=lp a+(Lib.ctz 64 (mant a):Int):=by unfold wrap64;omega
   by_cases h3:mag a<4503599627370496
   ·rw[(cls4 h2 h3).1,(cls4 h2 h3).2] at k9
    have e:mant a=mag a:=if_pos h3
    have:=c22_4 a w _ (mant a) (Lib.ctz 64 (mant a)) (lp a) (mag a) k9 k32 k47 k51 (by rw[and_mant _ (by omega),e];omega) (by omega) (by omega) hT
    rw[ew,Int.toNat_natCast] at this
    exact this
   ·rw[(cls5 (a:=a) (by omega) (by omega)).1,(cls5 (a:=a) (by omega) (by omega)).2] at k9
    have e:mant a=4503599627370496+mag a % 4503599627370496:=if_neg h3
    have:=c22_5 a w _ (mant a) (Lib.ctz 64 (mant a)) (lp a) (mag a) _ k9 k32 k47 k51 (and_mant _ (by omega)) (by rw[or_mant _ (by omega),e]) (by omega) (by omega) hT
    rw[ew,Int.toNat_natCast] at this
    exact this
end Go.Proofs.YtokklnjoalkjaaaGreatDoor.Ie
namespace Go.Proofs.YtokklnjoalkjaaaGreatDoor
open Go.RowKit Go.Fl64
theorem c9_1 (a m:Nat) (e:Int) (s:Bool) (w:World) (hT:Tab32 w) (hm:m<18446744073709551616) (he1 : -4000000≤e) (he2:e≤4000000) (hnn:(FloatKind.f64.format.order a a != some Ordering.eq)=false)
  (k55:∀ W,Bw w W→Calls Tryz.prog 125 #[.float .f64 a] W fun r w'=>r=.returned (.tuple #[.int .u64 m,.int .i64 e,.bool s,.bool true])∧∃ n,w'=W.drewN n) :
  Calls Tryz.prog 89 #[.float .f64 a] w fun r w'=>∃ A,r=.returned (.tuple #[A,.int .i64 0])∧Nrm w' w.heap.size A s m e∧Bw w w':=by
 obtain⟨W,hW⟩:∃ W,W=w.alloc (.cells #[.bool false,.slice none 0 0,.int .i64 0] 45):=⟨_,rfl⟩
 have hBW:Bw w W:=by rw[hW];exact(Below.refl _ _).alloc (Nat.le_refl _) _
 have hC:W.heap[w.heap.size]?=some (.cells #[.bool false,.slice none 0 0,.int .i64 0] 45 (0,0)):=by rw[hW];exact heap_alloc_new _ _
 have hsz:W.heap.size=w.heap.size+1:=by rw[hW];simp
 have HH:Hid (W.heap[w.heap.size]?=some (.cells #[.bool false,.slice none 0 0,.int .i64 0] 45 (0,0))∧W.heap.size=w.heap.size+1∧Bw w W∧Tab32 W∧m<18446744073709551616):=⟨hC,hsz,hBW,hT.later hBW,hm⟩
 have k1:=k55 W hBW
 have HW:Hid (W=w.alloc (.cells #[.bool false,.slice none 0 0,.int .i64 0] 45)):=hW
 clear k55 hC hsz hBW hT hm
 go_enter Tryz.func89,Tryz.ntmps89
 go_wp2_with fail
 rw[←hW]
 clear hW
 refine k1.mono ?_
 rintro r w1' ⟨rfl,dd,rfl⟩
 obtain⟨w1,hw1⟩:∃ w1,w1=W.drewN dd:=⟨_,rfl⟩
 rw[←hw1]
 have HH0:=HH.out
 clear HH
 have HH:Hid (w1.heap[w.heap.size]?=some (.cells #[.bool false,.slice none 0 0,.int .i64 0] 45 (0,0))∧w1.heap.size=w.heap.size+1∧Bw w w1∧Tab32 w1∧m<18446744073709551616):=by
  rw[hw1]
  exact⟨HH0.1,HH0.2.1,HH0.2.2.1.trans ⟨rfl,rfl,rfl,Nat.le_refl _,fun _ _=>rfl⟩,HH0.2.2.2.1,HH0.2.2.2.2⟩
 have k57:=c57 m w1 HH0.2.2.2.2
 clear k1 hw1 HH0 HW
 go_wp2_with fail
 refine k57.mono ?_
 rintro r w2 ⟨v,rfl,hO,hB2⟩
 clear k57
 have hl:dlen m≤2:=(dlen_le 2 m).2 (by have:=HH.out.2.2.2.2;unfold B;omega)
 have k56:=c56 (neg:=s) (e:=e) hO.is (by omega) (HH.out.2.2.2.1.later hB2) (by omega)
 have HB2:Hid (Bw w1 w2):=hB2
 clear hO hB2 hl
 go_wp2_with fail
 refine k56.mono ?_
 rintro r w3 ⟨A,rfl,hN,hB3⟩
 clear k56
 obtain⟨s',ao,n',cap,ex,rfl⟩:=hN.shape
 have HB3:Hid (Bw w1 w3):=HB2.out.trans (hB3.mono HB2.out.size)
 have HC3:Hid (w3.heap[w.heap.size]?=some (.cells #[.bool false,.slice none 0 0,.int .i64 0] 45 (0,0))):=box_later HH.out.1 HB3.out (by have:=HH.out.2.1;omega)
 obtain⟨⟨a1,a2,a3⟩,a4,a5,a6⟩:=box_cells HC3.out
 have HN:Hid (Nrm w3 w1.heap.size (.agg #[.bool s',.slice ao n' cap,.int .i64 ex]) s m e):=hN.mono HB2.out.size
 clear hN hB3
 go_wp2
 refine bodyPost_ret (results_cell_tmp_row rfl _ _ w.heap.size 45 #[.bool s',.slice ao n' cap,.int .i64 ex] (0,0) _ rfl (store3 _ _ _ HC3.out) Tryz.underlying45 rfl Tryz.info45) rfl ?_
 have hs:=HH.out.2.1
 exact⟨_,rfl,(HN.out.store (by omega) _ _ _).mono (by omega),below_store3 (HH.out.2.2.1.trans (HB3.out.mono (by omega))) (Nat.le_refl _) _ _ _⟩
theorem Tab.later {w w':World} (h:Ie.Tab w) (hb:Bw w w'):Ie.Tab w':=fun i hi=>(hb.cell (World.block_lt_of_cell? _ _ (h i hi))).trans (h i hi)
theorem sM_lt (a:Nat) (ha:a<18446744073709551616):∃ m:Nat,Ie.sM a=(m:Int)∧m<18446744073709551616:=by
 unfold Ie.sM
 split
 ·exact⟨0,rfl,by omega⟩
 ·split
  ·exact⟨0,rfl,by omega⟩
  ·rename_i h1 h2
   have hm:Ie.mant a<18446744073709551616:=by
    unfold Ie.mant
    split <;> omega
   refine⟨Ie.mant a / 2^Lib.ctz 64 (Ie.mant a),by simp,Nat.lt_of_le_of_lt (Nat.div_le_self ..) hm⟩
end Go.Proofs.YtokklnjoalkjaaaGreatDoor
namespace Go.Proofs.YtokklnjoalkjaaaGreatDoor
open Go.RowKit Go.Fl64
theorem sE_le (a:Nat) : -4000000≤Ie.sE a∧Ie.sE a≤4000000:=by
 unfold Ie.sE
 split
 ·omega
 ·split
  ·omega
  ·rename_i h1 h2
   have hm:=Ie.mant_ne h2
   have hb:=Ie.mant_bound a
   have hl:=Ie.lp_bound a
   obtain⟨_,hk⟩:=Lib.lowest_bit 64 (Ie.mant a) hm (by omega)
   omega
theorem k55_at (a:Nat) (ha:a<18446744073709551616) (w:World) (hI:Ie.Tab w) :
  ∀ W,Bw w W→Calls Tryz.prog 125 #[.float .f64 a] W fun r w'=>r=.returned (.tuple #[.int .u64 (Ie.sM a),.int .i64 (Ie.sE a),.bool (Ie.sN a),.bool (Ie.sO a)])∧∃ n,w'=W.drewN n :=
 fun W hW=>Ie.c22 a ha W (Tab.later hI hW)
theorem of_fin (a m:Nat) (ha:a<18446744073709551616) (w:World) (hT:Tab32 w) (hI:Ie.Tab w) (hf:mag a<9218868437227405312)
  (hm:Ie.sM a=(m:Int)) :
  Calls Tryz.prog 89 #[.float .f64 a] w fun r w'=>∃ A,r=.returned (.tuple #[A,.int .i64 0])∧Nrm w' w.heap.size A (neg a) m (Ie.sE a)∧Bw w w':=by
 have k:=k55_at a ha w hI
 have hnn:(FloatKind.f64.format.order a a != some Ordering.eq)=false:=by rw[self_ne a ha];unfold isNaN;exact decide_eq_false (by omega)
 have hN:Ie.sN a=neg a:=if_neg (by omega)
 have hO:Ie.sO a=true:=if_neg (by omega)
 rw[hm,hN,hO] at k
 obtain⟨m',h1,h2⟩:=sM_lt a ha
 have:m=m':=by omega
 exact c9_1 a m (Ie.sE a) (neg a) w hT (by omega) (sE_le a).1 (sE_le a).2 hnn k
end Go.Proofs.YtokklnjoalkjaaaGreatDoor
namespace Go.Proofs.YtokklnjoalkjaaaGreatDoor
open Go.RowKit
theorem tf0 {x q d:Nat} (h:x % B^(0+1)=q+B^0*d∧q<B^0∧d<B):bits .or .u64 (q:Int) (IntKind.u64.wrap (IntKind.u64.wrap (d:Int)))=(x % B^1:Nat):=by
 obtain⟨h1,h2,h3⟩:=h
 rw[Nat.pow_zero] at h1 h2
 have hq:q=0:=by omega
 subst hq
 rw[wrap_d h3,wrap_d h3,u64_or_nat 0 d (by omega) (by unfold B at h3;omega),Nat.zero_or,show(1:Nat)=0+1 from rfl,h1]
 simp
theorem tf1 {x q d:Nat} (h:x % B^(1+1)=q+B^1*d∧q<B^1∧d<B):bits .or .u64 (q:Int) (IntKind.u64.wrap (IntKind.u64.wrap (d:Int)*4294967296))=(x % B^2:Nat):=by
 obtain⟨h1,h2,h3⟩:=h
 rw[Nat.pow_one] at h1 h2
 have:=two_digits h2 h3
 rw[wrap_d h2] at this
 rw[this,show(2:Nat)=1+1 from rfl,h1,Nat.mul_comm]
theorem cword (v:Value) (x n:Nat) (w:World) (h:Is w v x) (hn:Hid (dlen x=n)) (hn2:n≤2) :
  Calls Tryz.prog 140 #[v] w fun r w'=>r=.returned (.int .u64 x)∧w'=w:=by
 obtain⟨ao,cap,rfl,-,-,b,o,h3,h4⟩:=h
 rw[hn.out] at h3 h4 ⊢
 go_enter Tryz.func140,Tryz.ntmps140
 go_wp2
 go_loop [3,8] (fun c s=>∃ i:Nat,i≤n∧c=.int .u64 (x % B^i:Nat)∧s=.int .i64 i) (fun _ s=>n - (intOf s).toNat)
 case atStart=>exact⟨0,Nat.zero_le _,by simp[Nat.mod_one],rfl⟩
 case round =>
  obtain⟨i,hi,rfl,rfl⟩:=hrel
  by_cases hin:i<n
  ·obtain rfl:=h3 (by omega)
   have g:=h4 i hin
   have hii:(i:Int)<(n:Int):=by omega
   have HS:Hid (x % B^(i+1)=x % B^i+B^i*dg x i∧x % B^i<B^i∧dg x i<B):=⟨mod_succ x i,Nat.mod_lt _ (Bpow_pos i),dg_lt _ _⟩
   generalize hq:x % B^i=q at *
   generalize hd:dg x i=d at *
   clear h4 hq hd
   rcases(show i=0∨i=1 by omega)with rfl|rfl
   ·rw[Nat.add_zero] at g
    have hl0:(0:Int)<(n:Int):=by omega
    go_wp2
    exact⟨⟨1,by omega,by rw[tf0 HS.out],rfl⟩,by simp[intOf];omega⟩
   ·have hl1:(1:Int)<(n:Int):=by omega
    go_wp2
    exact⟨⟨2,by omega,by rw[tf1 HS.out],rfl⟩,by simp[intOf];omega⟩
  ·obtain rfl:i=n:=by omega
   have hfull:x % B^i=x:=Nat.mod_eq_of_lt ((dlen_le i x).1 (by rw[hn.out];omega))
   rw[hfull]
   clear h3 h4 hfull
   go_wp2
   go_ret
   exact⟨rfl,rfl⟩
end Go.Proofs.YtokklnjoalkjaaaGreatDoor
namespace Go.Proofs.YtokklnjoalkjaaaGreatDoor
open Go.RowKit Go.Fl64
theorem c110_A (neg exact:Bool) (v:Value) (x bx n tzx:Nat) (e mode:Int) (w:World) (h:Is w v x) (hx:dlen x≤2) (hbx:Hid (bl x=bx)) (hb:(bx:Int)≤64) (hn:Hid (dlen x=n)) (hn2:n≤2) (he1 : -4000000≤e) (he2:e≤4000000) :
  Calls Tryz.prog 100 #[.bool neg,v,.int .i64 e,.bool exact,.int .i64 mode] w fun r w'=>r=.returned (.float .f64 (Ie.mk neg (if exact then x else x ||| 1) e mode 9221120237041090561))∧Bw w w':=by
 have k74:=c74 h (by omega)
 rw[hbx.out] at k74
 have k120:=c120 h 0 (by omega) (by omega)
 rw[Nat.pow_zero,Nat.div_one] at k120
 have HX:Hid (dlen x≤2):=hx
 clear h hx
 go_enter Tryz.func100,Tryz.ntmps100
 go_wp2_with fail
 refine k74.mono ?_
 rintro r w1 ⟨rfl,rfl⟩
 clear k74
 go_wp2_with fail
 refine k120.mono ?_
 rintro r w2 ⟨v2,rfl,hO,hB⟩
 clear k120
 have kW:=cword v2 x n w2 hO.is hn hn2
 have HB:Hid (Bw w1 w2):=hB
 clear hO hB
 go_wp2_with fail
 refine kW.mono ?_
 rintro r w3 ⟨rfl,rfl⟩
 clear kW
 have hxl:x<18446744073709551616:=by
  have:=(dlen_le 2 x).1 HX.out
  unfold B at this
  omega
 have k154:=fun w=>Ie.c24 neg x e mode hxl w
 have k154b:=fun w=>Ie.c24 neg (x ||| 1) e mode (by have:=Nat.or_lt_two_pow (n:=64) hxl (show 1<2^64 by omega);exact this) w
 have hor:bits .or .u64 (x:Int) 1=((x ||| 1:Nat):Int):=u64_or_nat x 1 hxl (by omega)
 have HOR:Hid (bits .or .u64 (x:Int) 1=((x ||| 1:Nat):Int)):=hor
 clear hxl hor
 cases exact
 ·go_wp2_with fail
  rw[HOR.out]
  refine(k154b _).mono ?_
  rintro r w5 ⟨rfl,rfl⟩
  go_wp2
  go_ret
  exact⟨by simp,HB.out⟩
 ·go_wp2_with fail
  refine(k154 _).mono ?_
  rintro r w5 ⟨rfl,rfl⟩
  go_wp2
  go_ret
  exact⟨by simp,HB.out⟩
theorem c110_B (neg exact:Bool) (v:Value) (x z drop t n:Nat) (e mode:Int) (w:World) (hT:Tab32 w) (h:Is w v x) (hx:dlen x≤1000000) (hx0:x≠0) (hbx:Hid (bl x=drop+64)) (hd0:0<drop) (hd1:drop≤32000000) (hz:Hid (x / 2^drop=z)) (hn:Hid (dlen z=n)) (hn2:n≤2) (ht:Hid (tz x=t)) (wd:Nat) (hwd:Hid ((if exact && !(decide (t<drop))then z else z ||| 1)=wd)) (he1 : -4000000≤e) (he2:e≤4000000) :
  Calls Tryz.prog 100 #[.bool neg,v,.int .i64 e,.bool exact,.int .i64 mode] w fun r w'=>r=.returned (.float .f64 (Ie.mk neg wd (e+drop) mode 9221120237041090561))∧Bw w w':=by
 have k74:=c74 h (by omega)
 rw[hbx.out] at k74
 have k120:=c120 h drop (by omega) (by omega)
 rw[hz.out] at k120
 have HI:Hid (Is w v x∧Tab32 w∧x≠0∧dlen x≤1000000):=⟨h,hT,hx0,hx⟩
 have hmx:(0:Int)<(drop:Int):=by omega
 rw[show((drop+64:Nat):Int)=(drop:Int)+64 by omega] at k74
 clear h hx hT hx0
 go_enter Tryz.func100,Tryz.ntmps100
 go_wp2_with fail
 refine k74.mono ?_
 rintro r w1 ⟨rfl,rfl⟩
 clear k74
 go_wp2_with fail
 refine k120.mono ?_
 rintro r w2 ⟨v2,rfl,hO,hB⟩
 clear k120
 have kW:=cword v2 z n w2 hO.is hn hn2
 have k119:=c119 (HI.out.1.later hB) (by have:=HI.out.2.2.2;omega) HI.out.2.2.1 (HI.out.2.1.later hB)
 rw[ht.out] at k119
 have HB:Hid (Bw w1 w2):=hB
 clear hO hB
 go_wp2_with fail
 refine kW.mono ?_
 rintro r w3 ⟨rfl,rfl⟩
 clear kW
 have hzl:z<18446744073709551616:=by
  have:=(dlen_le 2 z).1 (by rw[hn.out];exact hn2)
  unfold B at this
  omega
 have k154:=fun w=>Ie.c24 neg z (e+drop) mode hzl w
 have k154b:=fun w=>Ie.c24 neg (z ||| 1) (e+drop) mode (by have:=Nat.or_lt_two_pow (n:=64) hzl (show 1<2^64 by omega);exact this) w
 have HOR:Hid (bits .or .u64 (z:Int) 1=((z ||| 1:Nat):Int)):=u64_or_nat z 1 hzl (by omega)
 clear hzl
 cases exact
 ·clear k119
  go_wp2_with fail
  rw[HOR.out]
  refine(k154b _).mono ?_
  rintro r w5 ⟨rfl,rfl⟩
  go_wp2
  go_ret
  have hw:wd=z ||| 1:=by rw[←hwd.out];simp
  rw[hw]
  exact⟨rfl,HB.out⟩
 ·go_wp2_with fail
  refine k119.mono ?_
  rintro r w4 ⟨rfl,rfl⟩
  clear k119
  by_cases htd:t<drop
  ·have htd':(t:Int)<(drop:Int):=by omega
   go_wp2_with fail
   rw[HOR.out]
   refine(k154b _).mono ?_
   rintro r w5 ⟨rfl,rfl⟩
   go_wp2
   go_ret
   have hw:wd=z ||| 1:=by rw[←hwd.out];simp[htd]
   rw[hw]
   exact⟨rfl,HB.out⟩
  ·have htd':¬ (t:Int)<(drop:Int):=by omega
   go_wp2_with fail
   refine(k154 _).mono ?_
   rintro r w5 ⟨rfl,rfl⟩
   go_wp2
   go_ret
   have hw:wd=z:=by rw[←hwd.out];simp[htd]
   rw[hw]
   exact⟨rfl,HB.out⟩
def sgI (neg:Bool) (n:Nat):Int:=if n=0 then 0 else if neg then -1 else 1
theorem c72 (neg:Bool) (ao:Option Addr) (n cap:Nat) (e:Int) (w:World) (hn:n≤35184372088832) :
  Calls Tryz.prog 91 #[.agg #[.bool neg,.slice ao n cap,.int .i64 e]] w fun r w'=>r=.returned (.int .i64 (sgI neg n))∧w'=w.alloc (.cells #[.bool neg,.slice ao n cap,.int .i64 e] 45):=by
 unfold sgI
 by_cases h0:n=0
 ·subst h0
  go_enter Tryz.func91,Tryz.ntmps91
  go_wp2
  go_ret
  exact⟨rfl,rfl⟩
 ·have hn0:((n:Int)==0)=false:=by simp;omega
  rw[if_neg h0]
  cases neg
  ·go_enter Tryz.func91,Tryz.ntmps91
   go_wp2
   go_ret
   exact⟨rfl,rfl⟩
  ·go_enter Tryz.func91,Tryz.ntmps91
   go_wp2
   go_ret
   exact⟨rfl,rfl⟩
theorem c75_1 (neg:Bool) (ao:Option Addr) (n cap b:Nat) (e:Int) (w:World) (hb:b≤64000000) (he1 : -4000000≤e) (he2:e≤4000000)
  (k74:∀ W,Bw w W→Calls Tryz.prog 97 #[.slice ao n cap] W fun r w'=>r=.returned (.int .i64 b)∧w'=W) :
  Calls Tryz.prog 175 #[.agg #[.bool neg,.slice ao n cap,.int .i64 e]] w fun r w'=>r=.returned (.int .i64 (b+e))∧Bw w w':=by
 obtain⟨W,hW⟩:∃ W,W=w.alloc (.cells #[.bool neg,.slice ao n cap,.int .i64 e] 45):=⟨_,rfl⟩
 have hBW:Bw w W:=by rw[hW];exact(Below.refl _ _).alloc (Nat.le_refl _) _
 have hbA:W.heap[w.heap.size]?=some (.cells #[.bool neg,.slice ao n cap,.int .i64 e] 45 (0,0)):=by rw[hW];exact heap_alloc_new _ _
 obtain⟨⟨a0,a1,a2⟩,-⟩:=box_cells hbA
 have k:=fun d=>k74 (W.drewN d) (hBW.trans ⟨rfl,rfl,rfl,Nat.le_refl _,fun _ _=>rfl⟩)
 have HB:Hid (Bw w W):=hBW
 clear k74 hBW hbA
 go_enter Tryz.func175,Tryz.ntmps175
 go_wp2
 rw[←hW]
 clear hW
 go_quiet ((go_at_call 97;exact Calls.quiet_of_same (k _)))
 go_wp2
 go_ret
 refine⟨congrArg Ending.returned (congrArg (Value.int IntKind.i64) ?_),HB.out.trans ⟨rfl,rfl,rfl,Nat.le_refl _,fun _ _=>rfl⟩⟩
 first|rfl|omega|(rw[IntKind.wrap_i64];omega)|(unfold wrap64;omega)
theorem c106_1 (neg:Bool) (ao:Option Addr) (n cap F:Nat) (e mode:Int) (w:World)
  (k110:∀ W,Bw w W→Calls Tryz.prog 100 #[.bool neg,.slice ao n cap,.int .i64 e,.bool true,.int .i64 mode] W fun r w'=>r=.returned (.float .f64 F)∧Bw W w') :
  Calls Tryz.prog 130 #[.agg #[.bool neg,.slice ao n cap,.int .i64 e],.int .i64 mode] w fun r w'=>r=.returned (.float .f64 F)∧Bw w w':=by
 obtain⟨W,hW⟩:∃ W,W=w.alloc (.cells #[.bool neg,.slice ao n cap,.int .i64 e] 45):=⟨_,rfl⟩
 have hBW:Bw w W:=by rw[hW];exact(Below.refl _ _).alloc (Nat.le_refl _) _
 have k:=k110 W hBW
 have HB:Hid (Bw w W):=hBW
 clear k110 hBW
 go_enter Tryz.func130,Tryz.ntmps130
 go_wp2_with fail
 rw[←hW]
 clear hW
 refine k.mono ?_
 rintro r w1 ⟨rfl,hB1⟩
 have HF:Hid (Bw w w1):=HB.out.trans (hB1.mono HB.out.size)
 clear k hB1
 go_wp2
 go_ret
 exact⟨rfl,HF.out⟩
theorem c61 (w:World):Calls Tryz.prog 63 #[.int .i64 1] w fun r w'=>r=.returned (.float .f64 9218868437227405312)∧w'=w:=by
 have hb:=Ie.run_frombits
 go_enter Tryz.func63,Tryz.ntmps63
 go_wp2
 go_ret
 exact⟨rfl,rfl⟩
theorem c77_1 (na nb:Bool) (ua va:Option Addr) (un uc vn vc:Nat) (ea eb s t:Int) (w:World) (hs:Hid (sgI na un=s)) (ht:Hid (sgI nb vn=t)) (hst:(s != t)=true) (hun:un≤35184372088832) (hvn:vn≤35184372088832) :
  Calls Tryz.prog 156 #[.agg #[.bool na,.slice ua un uc,.int .i64 ea],.agg #[.bool nb,.slice va vn vc,.int .i64 eb]] w fun r w'=>r=.returned (.int .i64 (cmpI s t))∧Bw w w':=by
 obtain⟨W,hW⟩:∃ W,W=(w.alloc (.cells #[.bool na,.slice ua un uc,.int .i64 ea] 45)).alloc (.cells #[.bool nb,.slice va vn vc,.int .i64 eb] 45):=⟨_,rfl⟩
 have hBW:Bw w W:=by rw[hW];exact((Below.refl _ _).alloc (Nat.le_refl _) _).alloc (by simp) _
 have hbA:W.heap[w.heap.size]?=some (.cells #[.bool na,.slice ua un uc,.int .i64 ea] 45 (0,0)):=by
  rw[hW,Below.heap_alloc _ _ _ (by simp)];exact heap_alloc_new _ _
 have hbB:W.heap[w.heap.size+1]?=some (.cells #[.bool nb,.slice va vn vc,.int .i64 eb] 45 (0,0)):=by
  have:=heap_alloc_new (w.alloc (.cells #[.bool na,.slice ua un uc,.int .i64 ea] 45)) (.cells #[.bool nb,.slice va vn vc,.int .i64 eb] 45)
  rw[hW];simpa using this
 have hsz:W.heap.size=w.heap.size+1+1:=by rw[hW];simp
 have HC:Hid (∀ w',Bw W w'→(w'.cell? ⟨w.heap.size+1,0,none⟩=some (.bool nb)∧w'.cell? ⟨w.heap.size+1,1,none⟩=some (.slice va vn vc)∧w'.cell? ⟨w.heap.size+1,2,none⟩=some (.int .i64 eb))):=fun w' hb=>(box_cells (box_later hbB hb (by omega))).1
 have ka:∀ W',Calls Tryz.prog 91 #[.agg #[.bool na,.slice ua un uc,.int .i64 ea]] W' fun r w'=>r=.returned (.int .i64 s)∧Bw W' w':=fun W' =>
  (c72 na ua un uc ea W' hun).mono fun r w' ⟨e1,e2⟩=>⟨by rw[e1,hs.out],by rw[e2];exact(Below.refl _ _).alloc (Nat.le_refl _) _⟩
 have kb:∀ W',Calls Tryz.prog 91 #[.agg #[.bool nb,.slice va vn vc,.int .i64 eb]] W' fun r w'=>r=.returned (.int .i64 t)∧Bw W' w':=fun W' =>
  (c72 nb va vn vc eb W' hvn).mono fun r w' ⟨e1,e2⟩=>⟨by rw[e1,ht.out],by rw[e2];exact(Below.refl _ _).alloc (Nat.le_refl _) _⟩
 have k128:=c128 s t
 have HB:Hid (Bw w W):=hBW
 generalize cmpI s t=cv at *
 clear hBW hbA hbB hsz hs ht
 go_enter Tryz.func156,Tryz.ntmps156
 go_wp2_with fail
 rw[←hW]
 clear hW
 refine(ka W).mono ?_
 rintro r w1 ⟨rfl,hB1⟩
 obtain⟨x1,x2,x3⟩:=HC.out w1 hB1
 go_wp2_with fail
 refine(kb _).mono ?_
 rintro r w2 ⟨rfl,hB2⟩
 have hB12:=below_step hB1 hB2
 obtain⟨y1,y2,y3⟩:=HC.out w2 hB12
 clear x1 x2 x3 hB1 hB2
 go_wp2_with fail
 refine(kb _).mono ?_
 rintro r w3 ⟨rfl,hB3⟩
 have HF:Hid (Bw w w3):=HB.out.trans ((below_step hB12 hB3).mono HB.out.size)
 clear y1 y2 y3 hB12 hB3 ka kb
 go_wp2_with fail
 refine(k128 _).mono ?_
 rintro r w4 ⟨rfl,rfl⟩
 go_wp2
 go_ret
 exact⟨rfl,HF.out⟩
theorem c30_1 (na nb:Bool) (ua va:Option Addr) (un uc vn vc:Nat) (ea eb c:Int) (w:World)
  (k67:∀ W g,Bw w W→W.heap[g]?=some (.cells #[.bool na,.slice ua un uc,.int .i64 ea,.bool nb,.slice va vn vc,.int .i64 eb] 45 (0,0))→Calls Tryz.prog 90 #[.slice (some ⟨g,0,none⟩) 2 2] W fun r w'=>r=.returned (.bool true)∧Bw W w')
  (k77:∀ W,Bw w W→Calls Tryz.prog 156 #[.agg #[.bool na,.slice ua un uc,.int .i64 ea],.agg #[.bool nb,.slice va vn vc,.int .i64 eb]] W fun r w'=>r=.returned (.int .i64 c)∧Bw W w') :
  Calls Tryz.prog 117 #[.agg #[.bool na,.slice ua un uc,.int .i64 ea],.agg #[.bool nb,.slice va vn vc,.int .i64 eb]] w fun r w'=>r=.returned (.int .i64 c)∧Bw w w':=by
 obtain⟨W,hW⟩:∃ W,W=((w.alloc (.cells #[.bool na,.slice ua un uc,.int .i64 ea] 45)).alloc (.cells #[.bool nb,.slice va vn vc,.int .i64 eb] 45)).alloc (.cells #[.bool na,.slice ua un uc,.int .i64 ea,.bool nb,.slice va vn vc,.int .i64 eb] 45):=⟨_,rfl⟩
 obtain⟨hA,hBb,hC,hsz,hBW⟩:=boxes3 _ _ _ hW
 have k1:=k67 W (w.heap.size+1+1) hBW hC
 have HH:Hid ((W.heap[w.heap.size]?=some (.cells #[.bool na,.slice ua un uc,.int .i64 ea] 45 (0,0))∧W.heap[w.heap.size+1]?=some (.cells #[.bool nb,.slice va vn vc,.int .i64 eb] 45 (0,0)))∧W.heap.size=w.heap.size+1+1+1∧Bw w W):=⟨⟨hA,hBb⟩,hsz,hBW⟩
 have HK:Hid _:=k77
 clear hA hBb hC hsz hBW k67 k77
 go_enter Tryz.func117,Tryz.ntmps117
 go_wp2_with fail
 rw[←hW]
 clear hW
 refine k1.mono ?_
 rintro r w1 ⟨rfl,hB1⟩
 clear k1
 have HB1:Hid (Bw w w1):=HH.out.2.2.trans (hB1.mono HH.out.2.2.size)
 obtain⟨⟨a0,a1,a2⟩,-⟩:=box_cells (box_later HH.out.1.1 hB1 (by have:=HH.out.2.1;omega))
 obtain⟨⟨b0,b1,b2⟩,-⟩:=box_cells (box_later HH.out.1.2 hB1 (by have:=HH.out.2.1;omega))
 clear hB1
 go_wp2_with fail
 refine(HK.out w1 HB1.out).mono ?_
 rintro r w2 ⟨rfl,hB2⟩
 have HF:Hid (Bw w w2):=HB1.out.trans (hB2.mono HB1.out.size)
 clear hB2
 go_wp2
 go_ret
 exact⟨rfl,HF.out⟩
end Go.Proofs.YtokklnjoalkjaaaGreatDoor
namespace Go.Proofs.YtokklnjoalkjaaaGreatDoor
open Go.RowKit Go.Fl64
def tfD (x:Nat):Nat:=bl x - 64
def tfM (exact:Bool) (x:Nat):Nat:=if exact && !(decide (tz x<tfD x))then x / 2^tfD x else x / 2^tfD x ||| 1
def tfF (neg exact:Bool) (x:Nat) (e mode:Int):Nat:=Ie.mk neg (tfM exact x) (e+(tfD x:Int)) mode 9221120237041090561
theorem bl_le_dlen (x:Nat):bl x≤32*dlen x:=by
 have h:=(dlen_le (dlen x) x).1 (Nat.le_refl _)
 refine(bl_le x _).2 ?_
 rw[Nat.pow_mul]
 exact h
theorem dlen_div_tfD (x:Nat):dlen (x / 2^tfD x)≤2:=by
 refine(dlen_le 2 _).2 ?_
 have h1:x<2^(tfD x+64):=Nat.lt_of_lt_of_le (lt_bl x) (Nat.pow_le_pow_right (by decide) (by unfold tfD;omega))
 have h2:B^2=2^64:=by unfold B;decide
 rw[h2]
 rw[Nat.pow_add] at h1
 exact Nat.div_lt_of_lt_mul h1
theorem c110 {neg exact:Bool} {v:Value} {x:Nat} {e mode:Int} {w:World} (hT:Tab32 w) (h:Is w v x) (hx:dlen x≤1000000) (he1 : -4000000≤e) (he2:e≤4000000) :
  Calls Tryz.prog 100 #[.bool neg,v,.int .i64 e,.bool exact,.int .i64 mode] w fun r w'=>r=.returned (.float .f64 (tfF neg exact x e mode))∧Bw w w':=by
 have hz:=dlen_div_tfD x
 have hbd:=bl_le_dlen x
 by_cases hb:bl x≤64
 ·have hd:tfD x=0:=by unfold tfD;omega
  have e1:tfF neg exact x e mode=Ie.mk neg (if exact then x else x ||| 1) e mode 9221120237041090561:=by
   unfold tfF tfM
   rw[hd,Nat.pow_zero,Nat.div_one,decide_eq_false (Nat.not_lt_zero _),Bool.not_false,Bool.and_true]
   simp
  rw[hd,Nat.pow_zero,Nat.div_one] at hz
  rw[e1]
  exact c110_A neg exact v x (bl x) (dlen x) 0 e mode w h hz rfl (by omega) rfl hz he1 he2
 ·have hx0:x≠0:=by
   intro h0
   apply hb
   rw[h0]
   decide
  exact c110_B neg exact v x (x / 2^tfD x) (tfD x) (tz x) (dlen (x / 2^tfD x)) e mode w hT h hx hx0 (show bl x=tfD x+64 by unfold tfD;omega) (by unfold tfD;omega) (by unfold tfD;omega) rfl rfl hz rfl (tfM exact x) rfl he1 he2
theorem c106 {neg:Bool} {v:Value} {x:Nat} {e mode:Int} {w:World} (hT:Tab32 w) (h:Is w v x) (hx:dlen x≤1000000) (he1 : -4000000≤e) (he2:e≤4000000) :
  Calls Tryz.prog 130 #[NumV neg v e,.int .i64 mode] w fun r w'=>r=.returned (.float .f64 (tfF neg true x e mode))∧Bw w w':=by
 have h':=h
 obtain⟨ua,uc,rfl,-,-,-⟩:=h'
 exact c106_1 neg ua _ uc _ e mode w fun W hW=>c110 (hT.later hW) (h.later hW) hx he1 he2
end Go.Proofs.YtokklnjoalkjaaaGreatDoor
namespace Go.Proofs.YtokklnjoalkjaaaGreatDoor
open Go.RowKit
theorem maybe1 {na : Bool} {ua : Option Addr} {uc x g : Nat} {ea : Int} {W : World} (hg : W.heap[g]? = some (.cells #[.bool na, .slice ua (dlen x) uc, .int .i64 ea] 45 (0, 0)))
    (h1 : Is W (.slice ua (dlen x) uc) x) (hx : dlen x ≤ 35184372088832) :
    Calls Tryz.prog 90 #[.slice (some ⟨g, 0, none⟩) 1 1] W fun r w' => r = .returned (.bool (okN na (dlen x) x ea)) ∧ Bw W w' := by
  obtain ⟨ao1, c1, e1, -, -, a1⟩ := h1
  simp only [Value.slice.injEq] at e1
  obtain ⟨rfl, -, rfl⟩ := e1
  have k := c67 g 1 (fun _ => na) (fun _ => ua) (fun _ => dlen x) (fun _ => uc) (fun _ => x) (fun _ => ea) W (by omega)
    (fun i hi => by obtain rfl : i = 0 := by omega
                    simp [World.cell?, hg])
    (fun i hi => by obtain rfl : i = 0 := by omega
                    simp [World.cell?, hg])
    (fun i hi => by obtain rfl : i = 0 := by omega
                    simp [World.cell?, hg])
    (fun i hi => a1) (fun i hi => hx)
  refine k.mono ?_
  rintro r w' ⟨rfl, hb⟩
  refine ⟨congrArg Ending.returned (congrArg Value.bool ?_), hb⟩
  rw [Bool.eq_iff_iff]
  simp only [decide_eq_true_eq]
  exact ⟨fun h => h 0 (by omega), fun h i hi => h⟩
theorem c45_1 (na nb sg:Bool) (ua va:Option Addr) (un uc vn vc x y:Nat) (ea eb:Int) (w:World) (hT:Tab32 w) (h1:Is w (.slice ua un uc) x) (h2:Is w (.slice va vn vc) y) (hx:dlen x≤400000) (hy:dlen y≤400000) (he1 : -4000000≤ea) (he2:ea≤4000000) (he3 : -4000000≤eb) (he4:eb≤4000000) (hsg:(!(na==nb))=sg) :
  Calls Tryz.prog 134 #[.agg #[.bool na,.slice ua un uc,.int .i64 ea],.agg #[.bool nb,.slice va vn vc,.int .i64 eb]] w fun r w'=>∃ a,r=.returned a∧Nrm w' w.heap.size a sg (x*y) (ea+eb)∧Bw w w':=by
 obtain⟨W,hW⟩:∃ W,W=((w.alloc (.cells #[.bool na,.slice ua un uc,.int .i64 ea] 45)).alloc (.cells #[.bool nb,.slice va vn vc,.int .i64 eb] 45)).alloc (.cells #[.bool false,.slice none 0 0,.int .i64 0] 45):=⟨_,rfl⟩
 obtain⟨hA,hBb,hC,hsz,hBW⟩:=boxes3 _ _ _ hW
 have hxy:dlen (x*y)≤1000000:=by
  have l1:=(dlen_le (dlen x) x).1 (Nat.le_refl _)
  have l2:=(dlen_le (dlen y) y).1 (Nat.le_refl _)
  have:dlen (x*y)≤dlen x+dlen y:=(dlen_le _ _).2 (by
   rw[Nat.pow_add]
   rcases Nat.eq_zero_or_pos x with h|h
   ·rw[h,Nat.zero_mul];exact Nat.mul_pos (Bpow_pos _) (Bpow_pos _)
   ·exact Nat.mul_lt_mul_of_lt_of_le l1 (Nat.le_of_lt l2) (Bpow_pos _))
  omega
 have HH:Hid (W.heap[w.heap.size+1+1]?=some (.cells #[.bool false,.slice none 0 0,.int .i64 0] 45 (0,0))∧W.heap.size=w.heap.size+1+1+1∧Bw w W):=⟨hC,hsz,hBW⟩
 have k78:∀ w4,Bw W w4→Calls Tryz.prog 147 #[.slice ua un uc,.slice va vn vc] w4 fun r w'=>∃ v,r=.returned v∧Own w' W.heap.size v (x*y)∧Bw W w':=fun w4 hb =>
  (c143 ((h1.later hBW).later hb) ((h2.later hBW).later hb) (by omega) (by omega)).mono fun r w' ⟨v,e1,o1,o2⟩=>⟨v,e1,o1.mono hb.size,hb.trans (o2.mono hb.size)⟩
 have hTW:=hT.later hBW
 have k31:∀ v5 w5,Own w5 W.heap.size v5 (x*y)→Bw W w5→Calls Tryz.prog 126 #[.bool sg,v5,.int .i64 (ea+eb)] w5 fun r w'=>∃ s ao n cap ex,r=.returned (.agg #[.bool s,.slice ao n cap,.int .i64 ex]) ∧
   Hid (Nrm w' w5.heap.size (.agg #[.bool s,.slice ao n cap,.int .i64 ex]) sg (x*y) (ea+eb)∧W.heap.size≤w5.heap.size)∧Bw W w'∧Hid (w'.heap[w.heap.size+1+1]?=some (.cells #[.bool false,.slice none 0 0,.int .i64 0] 45 (0,0))) ∧
   (w'.cell? ⟨w.heap.size+1+1,0,none⟩=some (.bool false)∧w'.cell? ⟨w.heap.size+1+1,1,none⟩=some (.slice none 0 0)∧w'.cell? ⟨w.heap.size+1+1,2,none⟩=some (.int .i64 0))∧(w'.frozen? ⟨w.heap.size+1+1,0,none⟩=false∧w'.frozen? ⟨w.heap.size+1+1,1,none⟩=false∧w'.frozen? ⟨w.heap.size+1+1,2,none⟩=false):=by
  intro v5 w5 ho hb
  refine(c56 ho.is (by omega) (hTW.later hb) (by omega)).mono ?_
  rintro r w6 ⟨a,rfl,hN,hb6⟩
  obtain⟨s,ao,n,cap,ex,rfl⟩:=hN.shape
  have hb46:Bw W w6:=hb.trans (hb6.mono hb.size)
  have hblk:=box_later HH.out.1 hb46 (by have:=HH.out.2.1;omega)
  obtain⟨f1,f2⟩:=box_cells hblk
  exact⟨s,ao,n,cap,ex,rfl,⟨hN,hb.size⟩,hb46,hblk,f1,f2⟩
 obtain⟨⟨a0,a1,a2⟩,-⟩:=box_cells hA
 obtain⟨⟨b0,b1,b2⟩,-⟩:=box_cells hBb
 have HK:Hid (∀ w',Bw W w'→((w'.cell? ⟨w.heap.size,0,none⟩=some (.bool na)∧w'.cell? ⟨w.heap.size,1,none⟩=some (.slice ua un uc)∧w'.cell? ⟨w.heap.size,2,none⟩=some (.int .i64 ea))∧(w'.cell? ⟨w.heap.size+1,0,none⟩=some (.bool nb)∧w'.cell? ⟨w.heap.size+1,1,none⟩=some (.slice va vn vc)∧w'.cell? ⟨w.heap.size+1,2,none⟩=some (.int .i64 eb)))):=fun w' hb=>⟨(box_cells (box_later hA hb (by omega))).1,(box_cells (box_later hBb hb (by omega))).1⟩
 have HK2:Hid (∀ w',Below (w.heap.size+1+1) W w'→((w'.cell? ⟨w.heap.size,0,none⟩=some (.bool na)∧w'.cell? ⟨w.heap.size,1,none⟩=some (.slice ua un uc)∧w'.cell? ⟨w.heap.size,2,none⟩=some (.int .i64 ea))∧(w'.cell? ⟨w.heap.size+1,0,none⟩=some (.bool nb)∧w'.cell? ⟨w.heap.size+1,1,none⟩=some (.slice va vn vc)∧w'.cell? ⟨w.heap.size+1,2,none⟩=some (.int .i64 eb)))):=fun w' hb=>⟨(box_cells (box_later hA hb (by omega))).1,(box_cells (box_later hBb hb (by omega))).1⟩
 have HS2:Hid (w.heap.size+1+1≤W.heap.size):=(by omega:w.heap.size+1+1≤W.heap.size)
 have hBR:Bw W W.drew:=(Below.refl _ _).drew
 have wz:IntKind.i64.wrap (ea+eb)=ea+eb:=by rw[IntKind.wrap_i64];omega
 clear hA hBb hC hsz hBW h1 h2 hx hy hT hTW hxy
 go_enter Tryz.func134,Tryz.ntmps134
 go_upto_region 1 with fail
 rw[←hW]
 clear hW
 go_region_held3 (fun w'=>((w'.cell? ⟨w.heap.size,0,none⟩=some (.bool na)∧w'.cell? ⟨w.heap.size,1,none⟩=some (.slice ua un uc)∧w'.cell? ⟨w.heap.size,2,none⟩=some (.int .i64 ea))∧(w'.cell? ⟨w.heap.size+1,0,none⟩=some (.bool nb)∧w'.cell? ⟨w.heap.size+1,1,none⟩=some (.slice va vn vc)∧w'.cell? ⟨w.heap.size+1,2,none⟩=some (.int .i64 eb)))) (first|(with_reducible assumption)|exact⟨⟨a0,a1,a2⟩,b0,b1,b2⟩|(refine HK.out _ ?_;with_reducible assumption)|(refine HK2.out _ (below_store3 (Below.mono hb6 HS2.out) (Nat.le_refl _) _ _ _))|go_keep)
  (first|(go_at_call 147;refine(k78 _ (by first|(with_reducible assumption)|exact hBR)).mono ?_;rintro r w5 ⟨v5,rfl,ho5,hb5⟩)|(go_at_call 126;(try simp only[hsg,wz]);refine(k31 _ _ ho5 hb5).mono ?_;rintro r w6 ⟨s6,ao6,n6,cap6,ex6,rfl,hN6,hb6,hblk6,⟨x1,x2,x3⟩,x4,x5,x6⟩))
 have HF:Hid (Bw W w6):=hb6
 clear ho5 hb5 hb6 k31 k78 x1 x2 x3 x4 x5 x6 a0 a1 a2 b0 b1 b2 HK HK2
 go_wp2
 refine bodyPost_ret (results_cell_row rfl _ _ (w.heap.size+1+1) 45 #[.bool s6,.slice ao6 n6 cap6,.int .i64 ex6] (0,0) _ rfl (store3 _ _ _ hblk6.out) Tryz.underlying45 rfl Tryz.info45) rfl ?_
 obtain⟨-,hs,hBW⟩:=HH.out
 have hs5:=hN6.out.2
 exact⟨_,rfl,(hN6.out.1.store (by omega) _ _ _).mono (by omega),below_store3 (hBW.trans (HF.out.mono hBW.size)) (by omega) _ _ _⟩
theorem c20_1 (na nb:Bool) (ua va:Option Addr) (un uc vn vc x y z:Nat) (ea eb e:Int) (s:Bool) (w:World) (hz:dlen z≤35184372088832)
  (k67:∀ W g,Bw w W→W.heap[g]?=some (.cells #[.bool na,.slice ua un uc,.int .i64 ea,.bool nb,.slice va vn vc,.int .i64 eb] 45 (0,0))→Calls Tryz.prog 90 #[.slice (some ⟨g,0,none⟩) 2 2] W fun r w'=>r=.returned (.bool true)∧Bw W w')
  (k87:∀ W,Bw w W→Calls Tryz.prog 134 #[.agg #[.bool na,.slice ua un uc,.int .i64 ea],.agg #[.bool nb,.slice va vn vc,.int .i64 eb]] W fun r w'=>∃ a,r=.returned a∧Nrm w' W.heap.size a s z e∧Bw W w') :
  Calls Tryz.prog 95 #[NumV na (.slice ua un uc) ea,NumV nb (.slice va vn vc) eb] w fun r w'=>Held w s z e r w':=by
 obtain⟨W,hW⟩:∃ W,W=((w.alloc (.cells #[.bool na,.slice ua un uc,.int .i64 ea] 45)).alloc (.cells #[.bool nb,.slice va vn vc,.int .i64 eb] 45)).alloc (.cells #[.bool false,.slice none 0 0,.int .i64 0] 45):=⟨_,rfl⟩
 obtain⟨hA,hBb,hC,hsz,hBW⟩:=boxes3 _ _ _ hW
 have hB4:Below w.heap.size w (W.alloc (.cells #[.bool na,.slice ua un uc,.int .i64 ea,.bool nb,.slice va vn vc,.int .i64 eb] 45)):=hBW.alloc hBW.size _
 have k1:=k67 (W.alloc (.cells #[.bool na,.slice ua un uc,.int .i64 ea,.bool nb,.slice va vn vc,.int .i64 eb] 45)) (w.heap.size+1+1+1) hB4 (by rw[←hsz];exact heap_alloc_new _ _)
 have HH:Hid ((W.heap[w.heap.size]?=some (.cells #[.bool na,.slice ua un uc,.int .i64 ea] 45 (0,0))∧W.heap[w.heap.size+1]?=some (.cells #[.bool nb,.slice va vn vc,.int .i64 eb] 45 (0,0))∧W.heap[w.heap.size+1+1]?=some (.cells #[.bool false,.slice none 0 0,.int .i64 0] 45 (0,0)))∧W.heap.size=w.heap.size+1+1+1∧Bw w W∧Below W.heap.size W (W.alloc (.cells #[.bool na,.slice ua un uc,.int .i64 ea,.bool nb,.slice va vn vc,.int .i64 eb] 45))):=⟨⟨hA,hBb,hC⟩,hsz,hBW,(Below.refl _ _).alloc (Nat.le_refl _) _⟩
 have HZ:Hid (dlen z≤35184372088832):=hz
 have HK87:Hid _:=k87
 unfold NumV
 clear hA hBb hC hsz hBW hB4 k67 k87 hz
 go_enter Tryz.func95,Tryz.ntmps95
 go_wp2_with fail
 rw[←hW]
 clear hW
 refine k1.mono ?_
 rintro r w1 ⟨rfl,hB1⟩
 clear k1
 have hBW1:Bw W w1:=HH.out.2.2.2.trans (hB1.mono HH.out.2.2.2.size)
 obtain⟨⟨a0,a1,a2⟩,-⟩:=box_cells (box_later HH.out.1.1 hBW1 (by have:=HH.out.2.1;omega))
 obtain⟨⟨b0,b1,b2⟩,-⟩:=box_cells (box_later HH.out.1.2.1 hBW1 (by have:=HH.out.2.1;omega))
 have HB1:Hid (Bw W w1):=hBW1
 clear hB1 hBW1
 go_wp2_with fail
 refine(HK87.out w1 (HH.out.2.2.1.trans (HB1.out.mono HH.out.2.2.1.size))).mono ?_
 rintro r w2 ⟨A,rfl,hN,hB2⟩
 have HB2:Hid (Bw W w2):=HB1.out.trans (hB2.mono HB1.out.size)
 have HN:Hid (Nrm w2 W.heap.size A s z e):=hN.mono HB1.out.size
 clear hN hB2 a0 a1 a2 b0 b1 b2
 go_wp2_with fail
 refine(c63n HN.out HZ.out).mono ?_
 rintro r w3 ⟨rfl,hB3⟩
 have HB3:Hid (Bw W w3):=HB2.out.trans (hB3.mono HB2.out.size)
 have HN3:Hid (Nrm w3 W.heap.size A s z e):=by
  rcases HN.out with h|⟨h0,v,h1,ho⟩
  ·exact .inl h
  ·exact .inr ⟨h0,v,h1,ho.later hB3⟩
 have HC3:Hid (w3.heap[w.heap.size+1+1]?=some (.cells #[.bool false,.slice none 0 0,.int .i64 0] 45 (0,0))):=box_later HH.out.1.2.2 HB3.out (by have:=HH.out.2.1;omega)
 obtain⟨⟨x1,x2,x3⟩,x4,x5,x6⟩:=box_cells HC3.out
 obtain⟨s',ao,n,cap,ex,hsh⟩:=HN3.out.shape
 have HSH:Hid (A=.agg #[.bool s',.slice ao n cap,.int .i64 ex]):=hsh
 clear hB3
 cases hok:okR s z e
 ·clear hsh
  have hNil:Nil=.agg #[.bool false,.slice none 0 0,.int .i64 0]:=rfl
  go_wp2
  refine bodyPost_ret (results_cell_tmp_row rfl _ _ (w.heap.size+1+1) 45 #[.bool false,.slice none 0 0,.int .i64 0] (0,0) _ rfl (store3 _ _ _ HC3.out) Tryz.underlying45 rfl Tryz.info45) rfl ?_
  obtain⟨-,hs,hBW,-⟩:=HH.out
  exact⟨A,by rw[hok];rfl,(HN3.out.store (by omega) _ _ _).mono (by omega),below_store3 (hBW.trans (HB3.out.mono hBW.size)) (by omega) _ _ _⟩
 ·subst hsh
  go_wp2
  refine bodyPost_ret (results_cell_tmp_row rfl _ _ (w.heap.size+1+1) 45 #[.bool s',.slice ao n cap,.int .i64 ex] (0,0) _ rfl (store3 _ _ _ HC3.out) Tryz.underlying45 rfl Tryz.info45) rfl ?_
  obtain⟨-,hs,hBW,-⟩:=HH.out
  exact⟨_,by rw[hok];rfl,(HN3.out.store (by omega) _ _ _).mono (by omega),below_store3 (hBW.trans (HB3.out.mono hBW.size)) (by omega) _ _ _⟩
theorem mul_ok {na nb:Bool} {ua va:Option Addr} {uc vc x y:Nat} {ea eb:Int} {w:World} (h1:Is w (.slice ua (dlen x) uc) x) (h2:Is w (.slice va (dlen y) vc) y) (hx:dlen x≤400000) (hy:dlen y≤400000) (ha : -4000000≤ea∧ea≤4000000) (hb : -4000000≤eb∧eb≤4000000)
  (hoka:okN na (dlen x) x ea=true) (hokb:okN nb (dlen y) y eb=true) (hT:Tab32 w) :
  Calls Tryz.prog 95 #[.agg #[.bool na,.slice ua (dlen x) uc,.int .i64 ea],.agg #[.bool nb,.slice va (dlen y) vc,.int .i64 eb]] w fun r w'=>Held w (!(na==nb)) (x*y) (ea+eb) r w':=by
 have hxy:dlen (x*y)≤1000000:=by
  have l1:=(dlen_le (dlen x) x).1 (Nat.le_refl _)
  have l2:=(dlen_le (dlen y) y).1 (Nat.le_refl _)
  have:dlen (x*y)≤dlen x+dlen y:=(dlen_le _ _).2 (by
   rw[Nat.pow_add]
   rcases Nat.eq_zero_or_pos x with h|h
   ·rw[h,Nat.zero_mul];exact Nat.mul_pos (Bpow_pos _) (Bpow_pos _)
   ·exact Nat.mul_lt_mul_of_lt_of_le l1 (Nat.le_of_lt l2) (Bpow_pos _))
  omega
 exact c20_1 na nb ua va _ uc _ vc x y (x*y) ea eb (ea+eb) (!(na==nb)) w (by omega) (fun W g hW hg=>by
  have:=maybe2 hg (h1.later hW) (h2.later hW) (by omega) (by omega)
  rw[hoka,hokb] at this
  exact this) (fun W hW=>c45_1 na nb _ ua va _ uc _ vc x y ea eb W (hT.later hW) (h1.later hW) (h2.later hW) hx hy ha.1 ha.2 hb.1 hb.2 rfl)
theorem c22_s (na:Bool) (ua:Option Addr) (un uc:Nat) (ea sv:Int) (w:World)
  (k43:∀ W g,Bw w W→W.heap[g]?=some (.cells #[.bool na,.slice ua un uc,.int .i64 ea] 45 (0,0))→Calls Tryz.prog 90 #[.slice (some ⟨g,0,none⟩) 1 1] W fun r w'=>r=.returned (.bool true)∧Bw W w')
  (k47:∀ W,Calls Tryz.prog 91 #[.agg #[.bool na,.slice ua un uc,.int .i64 ea]] W fun r w'=>r=.returned (.int .i64 sv)∧Bw W w') :
  Calls Tryz.prog 42 #[.agg #[.bool na,.slice ua un uc,.int .i64 ea]] w fun r w'=>r=.returned (.int .i64 sv)∧Bw w w':=by
 obtain⟨W,hW⟩:∃ W,W=w.alloc (.cells #[.bool na,.slice ua un uc,.int .i64 ea] 45):=⟨_,rfl⟩
 have hBW:Bw w W:=by rw[hW];exact(Below.refl _ _).alloc (Nat.le_refl _) _
 have hsz:W.heap.size=w.heap.size+1:=by rw[hW];simp
 have hbx:W.heap[w.heap.size]?=some (.cells #[.bool na,.slice ua un uc,.int .i64 ea] 45 (0,0)):=by rw[hW];exact heap_alloc_new _ _
 have k1:=k43 (W.alloc (.cells #[.bool na,.slice ua un uc,.int .i64 ea] 45)) (w.heap.size+1) (hBW.alloc hBW.size _) (by rw[←hsz];exact heap_alloc_new _ _)
 have HX:Hid (Bw w W∧W.heap.size=w.heap.size+1∧W.heap[w.heap.size]?=some (.cells #[.bool na,.slice ua un uc,.int .i64 ea] 45 (0,0))):=⟨hBW,hsz,hbx⟩
 clear hBW hsz hbx k43
 go_enter Tryz.func42,Tryz.ntmps42
 go_wp2_with fail
 rw[←hW]
 clear hW
 refine k1.mono ?_
 rintro r w1 ⟨rfl,hb1⟩
 have HB1:Hid (Bw W w1):=((Below.refl W.heap.size W).alloc (Nat.le_refl _) _).trans (hb1.mono (by simp))
 clear k1 hb1
 obtain⟨⟨x0,x1,x2⟩,-⟩:=box_cells (box_later HX.out.2.2 HB1.out (by have:=HX.out.2.1;omega))
 have HB2:Hid (Bw w w1):=HX.out.1.trans (HB1.out.mono HX.out.1.size)
 have k3:=k47 w1
 clear k47
 go_wp2_with fail
 refine k3.mono ?_
 rintro r w3 ⟨rfl,hb3⟩
 have HB3:Hid (Bw w w3):=HB2.out.trans (hb3.mono HB2.out.size)
 clear k3 hb3 x0 x1 x2
 go_wp2_with fail
 go_ret
 exact⟨rfl,HB3.out⟩
theorem sign_ok {na:Bool} {ua:Option Addr} {uc x:Nat} {ea:Int} {w:World} (h1:Is w (.slice ua (dlen x) uc) x) (hx:dlen x≤35184372088832) (hoka:okN na (dlen x) x ea=true) :
  Calls Tryz.prog 42 #[.agg #[.bool na,.slice ua (dlen x) uc,.int .i64 ea]] w fun r w'=>r=.returned (.int .i64 (sgI na (dlen x)))∧Bw w w' :=
 c22_s na ua _ uc ea _ w (fun W g hW hg=>by
  have:=maybe1 hg (h1.later hW) hx
  rw[hoka] at this
  exact this) (fun W=>(c72 na ua _ uc ea W hx).mono fun r w' ⟨e1,e2⟩=>⟨e1,by rw[e2];exact(Below.refl _ _).alloc (Nat.le_refl _) _⟩)
theorem eval_get {a:Act} {s:Tmp} {v:Value} (h:a.tmps[s]?=some v):a.eval (.tmp s)=v:=by
 simp[Act.eval,Array.getD_eq_getD_getElem?,h]
theorem step_wanted {P:Program} {ops:Array Oper} {Q:Exit→Act→World→Prop} {i:Nat} {o:Oper} {K:Act→World→Prop} {a:Act} {w:World}
  (hi:ops[i]?=some o) (hg:o.guard=none) (h:o.wp P a w K Q):wpOp P ops Q i K a w:=by
 unfold wpOp
 simp only[hi]
 rw[if_pos (by simp[Region.wanted,hg])]
 exact .inl h
theorem step_call {P:Program} {ops:Array Oper} {Q:Exit→Act→World→Prop} {i:Nat} {o:Oper} {K:Act→World→Prop} {a:Act} {w:World}
  (hi:ops[i]?=some o) (hg:o.guard=none) {f:FuncId} {args:Array Operand} {ts:Array TypeId} (hop:o.op=.call { callee:=.value (.func f),args:=args,argTypes:=ts }) {vs:Array Value}
  (hc:∀ vs w,(callFunc f vs).run P w=.ok (.enter f vs) w) (hv:args.map a.eval=vs) (h:Calls P f vs w fun r w'=>∃ v,r=.returned v∧K (a.put o.dst v) w'):wpOp P ops Q i K a w:=by
 refine step_wanted hi hg ?_
 unfold Oper.wp
 have e:(execOp a.eval o).run P w=.ok (.enter f vs) w:=by
  simp[execOp,hop,resolve,Deferred.ofValue,Act.eval,invoke,hv,hc]
 rw[e,Oper.upon_enter]
 refine h.mono ?_
 rintro r w' ⟨v,rfl,hk⟩
 exact hk
theorem enters {P : Program} {f : FuncId} {fn : Func} (hf : P.funcs[f]? = some fn) (hname : (fn.name == "runtime.NumGoroutine") = false) (hb : fn.body.isNone = false) (vs : Array Value) (w : World) :
  (callFunc f vs).run P w=.ok (.enter f vs) w:=by
 have h1 : ¬ fn.name = "runtime.NumGoroutine" := by simpa using hname
 have h2:¬ fn.body=none:=by intro e;rw[e] at hb;simp at hb
 simp[callFunc,hf,h1,h2]
theorem step_store {P:Program} {ops:Array Oper} {Q:Exit→Act→World→Prop} {i:Nat} {o:Oper} {K:Act→World→Prop} {a:Act} {w:World}
  (hi:ops[i]?=some o) (hg:o.guard=none) {ty:TypeId} {s v:Tmp} (hop:o.op=.store ty (.tmp s) (.tmp v)) {g:Nat} {old cs:Array Value}
  (hs:a.tmps[s]?=some (.pointer (some ⟨g,0,none⟩))) (hv:a.tmps[v]?=some (.agg cs)) (hb:w.heap[g]?=some (.cells old ty (0,0))) (hn:(P.info? ty).map (·.size)=some cs.size) (ho:old.size=cs.size) (h1:cs.all (·.oneCell')=true)
  (h:K (a.put o.dst undef) (w.setRow g cs)):wpOp P ops Q i K a w:=by
 refine step_wanted hi hg ?_
 unfold Oper.wp
 simp[execOp,hop,eval_get hs,eval_get hv,Instr.storeAt,Instr.sureAddr,run_storeVar_row w g ty ty old cs hb hn ho h1,Result.andThen,Oper.upon,h]
theorem one3 {a b:Value} {ao:Option Addr} {n cap:Nat} (ha:a.oneCell'=true) (hb:b.oneCell'=true):(#[a,.slice ao n cap,b]:Array Value).all (·.oneCell')=true:=by
 have hc:(Value.slice ao n cap).oneCell'=true:=rfl
 simp only[List.all_toArray,List.all_cons,List.all_nil,ha,hb,hc,Bool.and_self]
theorem below_row {B:Nat} {w w':World} (h:Below B w w') {g:Nat} (hg:B≤g) (cs:Array Value):Below B w (w'.setRow g cs) :=
 ⟨h.os,h.tape,h.output,by simpa using h.size,fun j hj=>(setRow_other w' g j cs (by omega)).trans (h.block j hj)⟩
theorem r40 (ao:Option Addr) (n cap x:Nat) (w:World) (hx:dlen x≤n) (hn:n≤cap) (hc:n≤70368744177664) (h:At w ao n x) :
  Calls Tryz.prog 121 #[.slice ao n cap] w fun e w'=>e=.returned (.slice ao (dlen x) cap)∧w'=w:=by
 obtain⟨b,o,hb,hcell⟩:=h
 go_enter Tryz.func121,Tryz.ntmps121
 go_wp2
 go_loop [3] (fun v=>∃ k:Nat,k≤n∧v=.int .i64 (k:Int)∧dlen x≤k) (fun v=>(intOf v).toNat)
 case atStart=>exact⟨n,Nat.le_refl _,rfl,hx⟩
 case round =>
  obtain⟨k,hk,rfl,hd⟩:=hrel
  by_cases h0:k=0
  ·subst h0
   have e:dlen x=0:=by omega
   clear hd hx
   go_wp2
   go_ret
   exact⟨rfl,rfl⟩
  ·obtain⟨j,rfl⟩:∃ j,k=j+1:=⟨k - 1,by omega⟩
   have hj:j<n:=by omega
   obtain rfl:=hb (by omega)
   have g:=hcell j hj
   have HD:Hid (dlen x≤j+1):=hd
   clear hd hcell hx
   generalize hq:dg x j=q at g
   have HQ:Hid (dg x j=q):=hq
   clear hq
   by_cases hq0:q=0
   ·subst hq0
    go_wp2
    exact⟨⟨j,by omega,by simp,dlen_down HD.out (by omega) HQ.out⟩,by simp[intOf]⟩
   ·have hq1:((q:Int)==0)=false:=by simp;exact hq0
    go_wp2
    go_ret
    rw[dlen_here HD.out (.inr (by rw[Nat.add_sub_cancel,HQ.out];exact hq0))]
    exact⟨rfl,rfl⟩
theorem cells_succ (x n:Nat):cells x (n+1)=cells x n ++ [.int .u32 (dg x n:Nat)]:=by
 simp[cells,List.range_succ]
theorem at_of_row {w:World} {base:Nat} {v:Value} {y n:Nat} (h:w.ownsRow base 68 1 v n (cells y n)) :
  ∃ ao cap,v=.slice ao n cap∧n≤cap∧At w ao n y:=by
 rcases h.2 with ⟨hv,h0⟩|⟨g,cap,c,hv,hb,hc,h1,h2,h3,h4⟩
 ·exact⟨none,0,by rw[hv,h0],by omega,0,0,fun h=>by omega,fun i hi=>by omega⟩
 ·refine⟨_,cap,hv,h1,g,0,fun _=>rfl,fun i hi=>?_⟩
  have h5:(cells y n)[i]?=c[i]?:=by
   rw[←h4,Nat.mul_one,List.getElem?_take,if_pos hi,Array.getElem?_toList]
  rw[cells_get hi] at h5
  rw[Nat.zero_add]
  simp[World.cell?,hc,←h5]
theorem at_short {w:World} {ao:Option Addr} {n m y:Nat} (h:At w ao n y) (hm:m≤n):At w ao m y:=by
 obtain⟨b,o,h1,h2⟩:=h
 exact⟨b,o,fun h=>h1 (by omega),fun i hi=>h2 i (by omega)⟩
theorem r64_round {x k whole j m:Nat} {w wr w':World} {q:Int} {v v':Value} (hq:q=(dg (x / 2^k) j:Nat)) (hj:j<m) (hB:Bw w wr) (ho:wr.ownsRow w.heap.size 68 1 v j (cells (x / 2^k) j))
  (ho':w'.ownsRow w.heap.size 68 1 v' (j+1) (cells (x / 2^k) j ++ [.int .u32 q])) (hg:(wr.alloc (.cells #[.int .u32 q] 68)).grownBy w' v.ownBlock) :
  (∃ j_1:Nat,j_1≤m∧Value.int .i64 ((whole:Int)+j+1)=Value.int .i64 ((whole:Int)+j_1)∧w'.ownsRow w.heap.size 68 1 v' j_1 (cells (x / 2^k) j_1)∧Bw w w') ∧
  m - (intOf (Value.int .i64 ((whole:Int)+j+1)) - whole).toNat<m - (intOf (Value.int .i64 ((whole:Int)+j)) - whole).toNat:=by
 refine⟨⟨j+1,by omega,by simp[Int.add_assoc],by rw[cells_succ,←hq];exact ho',?_⟩,by simp[intOf];omega⟩
 exact(hB.alloc hB.size _).grown hg (by simp;have:=hB.size;omega) (fun k hk=>(ho.lt k hk).1)
theorem r64_1 (b o cap m whole part x k:Nat) (w:World) (hm0:0<m) (hm:m≤17592186044416) (hk:k≤1099511627776) (hcap:whole+m≤cap) (hwh:k / 32=whole) (hpa:k % 32=part)
  (hn:dlen x=whole+m) (hcell:∀ i,i<whole+m→w.cell? ⟨b,o+i,none⟩=some (.int .u32 (dg x i:Nat))) :
  Calls Tryz.prog 112 #[.slice (some ⟨b,o,none⟩) (whole+m:Nat) cap,.int .i64 k] w fun e w'=>∃ ao cap' bb,e=.returned (.tuple #[.slice ao (dlen (x / 2^k)) cap',.bool bb])∧At w' ao (dlen (x / 2^k)) (x / 2^k)∧dlen (x / 2^k)≤cap'∧Bw w w':=by
 have hq:(k:Int).tdiv 32=((k / 32:Nat):Int):=by rw[Int.tdiv_eq_ediv_of_nonneg (by omega)];rfl
 have hr:(k:Int).tmod 32=((k % 32:Nat):Int):=by rw[Int.tmod_eq_emod_of_nonneg (by omega)];rfl
 have hwb:whole≤1099511627776:=by omega
 have hpb:part<32:=by omega
 rw[hwh] at hq
 rw[hpa] at hr
 have HN:Hid (dlen x=whole+m):=hn
 have HW:Hid (k / 32=whole):=hwh
 have HP:Hid (k % 32=part):=hpa
 clear hn hwh hpa
 have hmi:(whole:Int)<((whole+m:Nat):Int):=by omega
 go_enter Tryz.func112,Tryz.ntmps112
 go_wp2
 go_loop [6,7] (fun a v=>∃ (bb:Bool) (i:Nat),a=.bool bb∧v=.int .i64 (i:Int)∧i≤whole) (fun _ v=>whole - (intOf v).toNat)
 case atStart=>exact⟨true,0,rfl,rfl,Nat.zero_le _⟩
 case round =>
  obtain⟨bb,i,rfl,rfl,hi⟩:=hrel
  by_cases hiw:i<whole
  ·have g1:=hcell i (by omega)
   generalize dg x i=d at *
   have hii:(i:Int)<(whole:Int):=by omega
   clear hcell
   cases bb
   ·go_wp2
    exact⟨⟨_,i+1,rfl,by simp,by omega⟩,by simp[intOf];omega⟩
   ·go_wp2
    exact⟨⟨_,i+1,rfl,by simp,by omega⟩,by simp[intOf];omega⟩
  ·obtain rfl:i=whole:=by omega
   clear hiw hi
   have HC:Hid (∀ i_1:Nat,i_1<i+m→w.cell? { block:=b,off:=o+i_1 }=some (Value.int IntKind.u32 ↑(dg x i_1))):=hcell
   go_wp2_with fail
   all_goals
    clear hq hmi hr hcell
    go_loopw [9,10] (fun v c wr=>∃ j:Nat,j≤m∧c=.int .i64 ((i:Int)+j)∧wr.ownsRow w.heap.size 68 1 v j (cells (x / 2^k) j)∧Bw w wr) (fun _ c _=>m - (intOf c - i).toNat)
    case atStart=>exact⟨0,Nat.zero_le _,by simp,World.ownsRow_nil ..,Below.refl _ _⟩
    case round =>
     obtain⟨j,hj,rfl,ho,hB⟩:=hrel
     have HO:Hid (wr.ownsRow w.heap.size 68 1 u9 j (cells (x / 2^k) j)):=ho
     have HB:Hid (Bw w wr):=hB
     have hbs:w.heap.size≤wr.heap.size:=hB.size
     by_cases hjn:j+1<m
     ·have g1:=(hB.cell (World.block_lt_of_cell? _ _ (HC.out (i+j) (by omega)))).trans (HC.out (i+j) (by omega))
      have g4:=(hB.cell (World.block_lt_of_cell? _ _ (HC.out (i+j+1) (by omega)))).trans (HC.out (i+j+1) (by omega))
      have hji:(j:Int)+1<(m:Int):=by omega
      generalize hd:dg x (i+j)=d at *
      generalize hd1:dg x (i+j+1)=d1 at *
      have HD:Hid (dg x (i+j)=d):=hd
      have HD1:Hid (dg x (i+(j+1))=d1):=hd1
      have HL:Hid (d<B∧d1<B):=⟨hd ▸ dg_lt _ _,hd1 ▸ dg_lt _ _⟩
      clear hd hd1 hB
      obtain⟨i0,hi0,hz0,hz1,hz2⟩:=info_parts Tryz.info68
      go_wp2_with (at_builtin;refine wpList_append_own _ rfl _ _ 37 rfl w.heap.size 68 i0 (.int .u32 0) 1 4 Tryz.underlying37 hi0 hz0 hz1 hz2 rfl (by decide) _ _ _ rfl (ho.alloc _) ⟨wr.heap.size,0,none⟩ 1 1 [.int .u32 (bits BinOp.or IntKind.u64 (IntKind.u64.wrap (d:Int)) (IntKind.u64.wrap (IntKind.u64.wrap (d1:Int)*4294967296)) / 2^part % 4294967296)] rfl rfl (cell_one_new _ _ _) (by intro u hu;simp at hu;subst hu;rfl) (by unfold maxLen;omega) (by omega) (by simp;omega) ?_)
      intro v' w4 hown4 hgrow _
      go_wp2
      exact r64_round (by rw[shr_word2 HL.out.1 HL.out.2,shr_digit HW.out HP.out,HD.out,HD1.out]) (by omega) HB.out HO.out hown4 hgrow
     ·by_cases hjm:j<m
      ·have g1:=(hB.cell (World.block_lt_of_cell? _ _ (HC.out (i+j) (by omega)))).trans (HC.out (i+j) (by omega))
       have hji:¬ (j:Int)+1<(m:Int):=by omega
       have hji2:(j:Int)<(m:Int):=by omega
       generalize hd:dg x (i+j)=d at *
       have HD:Hid (dg x (i+j)=d):=hd
       have HL:Hid (d<B):=hd ▸ dg_lt _ _
       have HZ:Hid (dg x (i+(j+1))=0):=dg_past (by rw[HN.out];omega)
       clear hd hB
       obtain⟨i0,hi0,hz0,hz1,hz2⟩:=info_parts Tryz.info68
       go_wp2_with (at_builtin;refine wpList_append_own _ rfl _ _ 37 rfl w.heap.size 68 i0 (.int .u32 0) 1 4 Tryz.underlying37 hi0 hz0 hz1 hz2 rfl (by decide) _ _ _ rfl (ho.alloc _) ⟨wr.heap.size,0,none⟩ 1 1 [.int .u32 (IntKind.u64.wrap (d:Int) / 2^part % 4294967296)] rfl rfl (cell_one_new _ _ _) (by intro u hu;simp at hu;subst hu;rfl) (by unfold maxLen;omega) (by omega) (by simp;omega) ?_)
       intro v' w4 hown4 hgrow _
       go_wp2
       exact r64_round (by rw[shr_word1 HL.out,shr_digit HW.out HP.out,HD.out,HZ.out,Nat.zero_mul,Nat.add_zero]) (by omega) HB.out HO.out hown4 hgrow
      ·obtain rfl:j=m:=by omega
       have hL:=shr_len (k:=k) (m:=j) (by rw[HW.out];exact HN.out)
       obtain⟨ao',cap',rfl,hc',hA⟩:=at_of_row ho
       have HA:Hid (At wr ao' (dlen (x / 2^k)) (x / 2^k)∧dlen (x / 2^k)≤cap'):=⟨at_short hA hL,by omega⟩
       have k40:=r40 ao' j cap' (x / 2^k) wr hL hc' (by omega) hA
       clear hB ho hA
       go_wp2_with (first|(go_at_call 121;refine k40.mono ?_;rintro e w' ⟨rfl,rfl⟩))
       refine bodyPost_ret (results_tmp2 rfl _ _ _) rfl ?_
       exact⟨_,_,_,rfl,HA.out.1,HA.out.2,HB.out⟩
theorem Tryz.info39:(Tryz.prog.info? 39).map (·.size)=some 3:=by kernel_rfl
theorem r64 {ao:Option Addr} {n cap x:Nat} {w:World} (hn:dlen x=n) (hc:n≤cap) (h:At w ao n x) (k:Nat) (hx:dlen x≤17592186044416) (hk:k / 32<dlen x) (hk2:k≤1099511627776) :
  Calls Tryz.prog 112 #[.slice ao n cap,.int .i64 k] w fun e w'=>∃ ao cap' bb,e=.returned (.tuple #[.slice ao (dlen (x / 2^k)) cap',.bool bb])∧At w' ao (dlen (x / 2^k)) (x / 2^k)∧dlen (x / 2^k)≤cap'∧Bw w w':=by
 obtain⟨b,o,hb,hcell⟩:=h
 subst hn
 obtain rfl:=hb (by omega)
 obtain⟨m,hm⟩:∃ m,dlen x=k / 32+m:=⟨dlen x - k / 32,by omega⟩
 rw[hm] at hcell hc ⊢
 exact r64_1 b o cap m _ _ x k w (by omega) (by omega) hk2 hc rfl rfl hm hcell
theorem store3_29 {w:World} {g:Nat} {a b c:Value} (a' b' c':Value) (h:w.heap[g]?=some (.cells #[a,b,c] 39 (0,0))) :
  (((w.setCell ⟨g,0,none⟩ a').setCell ⟨g,1,none⟩ b').setCell ⟨g,2,none⟩ c').heap[g]?=some (.cells #[a',b',c'] 39 (0,0)):=by
 simp[World.setCell,Array.getElem?_modify,h]
theorem box_cells29 {w:World} {g:Nat} {a b c:Value} (h:w.heap[g]?=some (.cells #[a,b,c] 39 (0,0))) :
  (w.cell? ⟨g,0,none⟩=some a∧w.cell? ⟨g,1,none⟩=some b∧w.cell? ⟨g,2,none⟩=some c)∧(w.frozen? ⟨g,0,none⟩=false∧w.frozen? ⟨g,1,none⟩=false∧w.frozen? ⟨g,2,none⟩=false):=by
 simp[World.cell?,World.frozen?,h]
theorem r34_0 (neg:Bool) (ao:Option Addr) (n cap:Nat) (e:Int) (w:World) (h:At w ao n 0) (hn:n≤cap) (hc:n≤70368744177664) :
  Calls Tryz.prog 76 #[.bool neg,.slice ao n cap,.int .i64 e] w fun e w'=>e=.returned (.agg #[.bool false,.slice none 0 0,.int .i64 0])∧Bw w w':=by
 have HB:Hid (Below w.heap.size w (w.alloc (.cells #[.bool false,.slice none 0 0,.int .i64 0] 39))):=(Below.refl _ _).alloc (Nat.le_refl _) _
 have k:=r40 ao n cap 0 (w.alloc (.cells #[.bool false,.slice none 0 0,.int .i64 0] 39)) (by rw[dlen_zero];omega) hn hc (h.later HB.out)
 rw[dlen_zero] at k
 clear h
 go_enter Tryz.func76,Tryz.ntmps76
 go_wp2_with fail
 refine k.mono ?_
 rintro e w1 ⟨rfl,rfl⟩
 go_wp2
 refine bodyPost_ret (results_cell_row rfl _ _ w.heap.size 39 #[.bool false,.slice none 0 0,.int .i64 0] (0,0) _ rfl (heap_alloc_new _ _) Tryz.underlying39 rfl Tryz.info39) rfl ?_
 exact⟨rfl,HB.out⟩
theorem and_one32 (a:Nat) (h:a<4294967296):bits .and .u32 (a:Int) 1=((a % 2:Nat):Int):=by
 have e:=u32_and_nat a 1 h (by decide)
 rw[show((1:Nat):Int)=1 from rfl] at e
 rw[e,Nat.and_one_is_mod]
theorem bit_tz {x t i p d T : Nat} (hT : tz x = T) (hx : x ≠ 0) (ht : t ≤ T) (h : t / 32 = i ∧ t % 32 = p ∧ dg x i = d) : (bits BinOp.and IntKind.u32 ((d : Int) / 2 ^ p) 1 == 0) = decide (t < T) := by
  obtain ⟨rfl, rfl, rfl⟩ := h
  subst hT
  have hl := dg_lt x (t / 32)
  have e1 : ((dg x (t / 32) : Nat) : Int) / 2 ^ (t % 32) = ((dg x (t / 32) / 2 ^ (t % 32) : Nat) : Int) := by simp
  have hl2 : dg x (t / 32) / 2 ^ (t % 32) < 4294967296 := Nat.lt_of_le_of_lt (Nat.div_le_self ..) hl
  rw [e1, and_one32 _ hl2]
  have e2 : dg x (t / 32) / 2 ^ (t % 32) % 2 = x / 2 ^ t % 2 := by
    unfold dg
    rw [two_split (k := t), ← Nat.div_div_eq_div_mul]
    generalize x / B ^ (t / 32) = y
    have hp : t % 32 < 32 := Nat.mod_lt _ (by omega)
    generalize t % 32 = p at *
    have e3 : B = 2 ^ p * 2 ^ (32 - p) := by rw [← Nat.pow_add]; unfold B; have : p + (32 - p) = 32 := by omega
                                             rw [this]
    have e4 : 2 ^ (32 - p) = 2 * 2 ^ (31 - p) := by have : 32 - p = (31 - p) + 1 := by omega
                                                    rw [this, Nat.pow_succ, Nat.mul_comm]
    rw [e3, Nat.mod_mul_right_div_self, e4, Nat.mod_mul_right_mod]
  rw [e2]
  obtain ⟨h1, h2⟩ := tz_spec _ x (Nat.le_refl _) hx
  by_cases ht2 : t < tz x
  · have e5 : x / 2 ^ t % 2 = 0 := by
      obtain ⟨k, hk⟩ : ∃ k, tz x = t + (k + 1) := ⟨tz x - t - 1, by omega⟩
      rw [← h1]
      generalize x / 2 ^ tz x = y
      rw [hk, Nat.pow_add, Nat.mul_assoc, Nat.mul_div_cancel_left _ (Nat.two_pow_pos t), Nat.pow_succ, Nat.mul_comm (2 ^ k) 2, Nat.mul_assoc, Nat.mul_mod_right]
    rw [e5]; simp [ht2]
  · have : t = tz x := by omega
    subst this
    rw [h2]; simp
end Go.Proofs.YtokklnjoalkjaaaGreatDoor
