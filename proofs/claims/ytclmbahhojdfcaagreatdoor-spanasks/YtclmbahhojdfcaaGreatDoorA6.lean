/- Own work: contracts of the program's functions, part 6: Tab3 F2 FL1 FL2 SA2 SA1 SA4 SA5 RB1 RB2 RB3 R7 RB4 RB5 RB6 R8 RB7 RB8 RB9 W33 RC1 RW1 SA3 RC2 RC3 V1 V2 E2 V3 E3 V4 RC4 W42 W44 RC5 RD1 SA6 L5 G3 W43 L7 L9 RT2 DV1 RV1 DV2 DV3 RV2 DV4 RV3 RV4 RW2 RW3 RW4 RW5 RW6 RW7 RW8 RW9 RX1 W49 RX2 RX3 W50 L16 L10 L17 L14 W51 W52 FM. -/
import Derived.Test.YtclmbahhojdfcaaGreatDoorA5
import Derived.Test.YtclmbahhojdfcaaGreatDoorA3
import Derived.Laws.FloatArith
import Derived.Laws.NewFold
import Derived.Test.YtclmbahhojdfcaaGreatDoorA4
import Derived.Test.YtclmbahhojdfcaaGreatDoorA1
import Derived.Laws.AppendOwnNone
import Derived.Deep.CutRange
import Derived.Test.YtclmbahhojdfcaaGreatDoorA2
import Derived.Deep.CutBlock

set_option maxHeartbeats 16000000
set_option maxRecDepth 200000
set_option linter.unusedVariables false
set_option linter.unusedSimpArgs false
namespace Go.Proofs.YtclmbahhojdfcaaGreatDoor
open Go.RowKit Go.Fl64
theorem tabs2_of {W : World} (h : laidMet Tryz.prog [("math/bits.deBruijn32tab", Lib.tabData .u8 zs32), ("math/bits.deBruijn64tab", Lib.tabData .u8 zs64)] W) : Tab32 W ∧ Ie.Tab W :=
  ⟨tab32_of (Lib.tabIs_of_head g32 g32t Tryz.underlying141 Tryz.underlying5 cells5 cells130 h),
   tab64_of (Lib.tabIs_of_head g64 g64t Tryz.underlying134 Tryz.underlying5 cells5 cells114 (laid_tail h))⟩
def laidOn2 (w:World):World :=
 { w with heap:=(w.heap.modify 1 fun
   | .cells _ t frozen=>.cells #[.int .u8 0,.int .u8 1,.int .u8 56,.int .u8 2,.int .u8 57,.int .u8 49,.int .u8 28,.int .u8 3,.int .u8 61,.int .u8 58,.int .u8 42,.int .u8 50,.int .u8 38,.int .u8 29,.int .u8 17,.int .u8 4,.int .u8 62,.int .u8 47,.int .u8 59,.int .u8 36,.int .u8 45,.int .u8 43,.int .u8 51,.int .u8 22,.int .u8 53,.int .u8 39,.int .u8 33,.int .u8 30,.int .u8 24,.int .u8 18,.int .u8 12,.int .u8 5,.int .u8 63,.int .u8 55,.int .u8 48,.int .u8 27,.int .u8 60,.int .u8 41,.int .u8 37,.int .u8 16,.int .u8 46,.int .u8 35,.int .u8 44,.int .u8 21,.int .u8 52,.int .u8 32,.int .u8 23,.int .u8 11,.int .u8 54,.int .u8 26,.int .u8 40,.int .u8 15,.int .u8 34,.int .u8 20,.int .u8 31,.int .u8 10,.int .u8 25,.int .u8 14,.int .u8 19,.int .u8 9,.int .u8 13,.int .u8 8,.int .u8 7,.int .u8 6] t frozen
   | o=>o).modify 2 fun
   | .cells _ t frozen=>.cells #[.int .u8 0,.int .u8 1,.int .u8 28,.int .u8 2,.int .u8 29,.int .u8 14,.int .u8 24,.int .u8 3,.int .u8 30,.int .u8 22,.int .u8 20,.int .u8 15,.int .u8 25,.int .u8 17,.int .u8 4,.int .u8 8,.int .u8 31,.int .u8 27,.int .u8 13,.int .u8 23,.int .u8 21,.int .u8 19,.int .u8 16,.int .u8 7,.int .u8 26,.int .u8 12,.int .u8 18,.int .u8 6,.int .u8 11,.int .u8 5,.int .u8 10,.int .u8 9] t frozen
   | o=>o }
end Go.Proofs.YtclmbahhojdfcaaGreatDoor
/- A finite float and nought, added: the float; of noughts +0. -/
namespace Go.Fl64
theorem word_self (a:Nat) (h:a<18446744073709551616):Ieee.double.word (neg a) (mag a)=a:=by
 have hs:Ieee.double.signWeight=9223372036854775808:=by decide
 unfold Ieee.Format.word neg mag
 rw[hs]
 by_cases hn:9223372036854775808≤a
 ·rw[decide_eq_true hn,if_pos rfl];omega
 ·rw[decide_eq_false hn,if_neg (by decide)];omega
end Go.Fl64
/- Floats that are not finite, and what sums of them are; a float and itself, taken away. -/
namespace Go.Fl64
def fin (a:Nat):Bool:=decide (mag a<9218868437227405312)
def lk (F X:Nat):Prop:=F<18446744073709551616∧same F X=true
theorem lk.refl {F:Nat} (h:F<18446744073709551616):lk F F:=⟨h,same_self F⟩
theorem lk.nan {F X:Nat} (h:F<18446744073709551616) (h1:isNaN F=true) (h2:isNaN X=true):lk F X:=⟨h,by simp[same,h1,h2]⟩
theorem lk.eq {F X:Nat} (h:lk F X) (h2:isNaN X=false):F=X:=by
 have:=h.2
 simp only[same,h2,Bool.and_false,Bool.or_false,beq_iff_eq] at this
 omega
def ngt (a:Nat):Nat:=if neg a then a - 9223372036854775808 else a+9223372036854775808
theorem ngt_lt {a:Nat} (h:a<18446744073709551616):ngt a<18446744073709551616:=by
 unfold ngt neg
 by_cases hn:9223372036854775808≤a
 ·rw[decide_eq_true hn,if_pos rfl];omega
 ·rw[decide_eq_false hn,if_neg (by decide)];omega
theorem ngt_mag {a:Nat} (h:a<18446744073709551616):mag (ngt a)=mag a:=by
 unfold ngt neg mag
 by_cases hn:9223372036854775808≤a
 ·rw[decide_eq_true hn,if_pos rfl];omega
 ·rw[decide_eq_false hn,if_neg (by decide)];omega
theorem ngt_neg {a:Nat} (h:a<18446744073709551616):neg (ngt a) = !neg a:=by
 unfold ngt neg
 by_cases hn:9223372036854775808≤a
 ·rw[decide_eq_true hn,if_pos rfl];simp;omega
 ·rw[decide_eq_false hn,if_neg (by decide)];simp
theorem xor_sign (a:Nat) (h:a<18446744073709551616):a ^^^ 9223372036854775808=ngt a:=by
 unfold ngt neg
 by_cases hn:9223372036854775808≤a
 ·rw[decide_eq_true hn,if_pos rfl]
  have e1:=Nat.two_pow_add_eq_or_of_lt (i:=63) (show a - 9223372036854775808<2^63 by omega) 1
  apply Nat.eq_of_testBit_eq
  intro i
  have e2:a=2^63*1+(a - 9223372036854775808):=by omega
  rw[Nat.testBit_xor,show(9223372036854775808:Nat)=2^63 from rfl,Nat.testBit_two_pow]
  rw[show(9223372036854775808:Nat)=2^63 from rfl] at e1 e2
  have e3:a.testBit i=(2^63 ||| (a - 2^63)).testBit i:=by
   rw[Nat.mul_one] at e1
   rw[←e1]
   congr 1
  rw[e3,Nat.testBit_or,Nat.testBit_two_pow]
  by_cases hi:63=i
  ·subst hi
   have:(a - 2^63).testBit 63=false:=Nat.testBit_lt_two_pow (by omega)
   rw[this]
   simp
  ·simp[hi]
 ·rw[decide_eq_false hn,if_neg (by decide)]
  have e1:=Nat.two_pow_add_eq_or_of_lt (i:=63) (show a<2^63 by omega) 1
  rw[Nat.mul_one] at e1
  rw[show(9223372036854775808:Nat)=2^63 from rfl,Nat.add_comm a,e1]
  apply Nat.eq_of_testBit_eq
  intro i
  rw[Nat.testBit_xor,Nat.testBit_or,Nat.testBit_two_pow]
  by_cases hi:63=i
  ·subst hi
   have:a.testBit 63=false:=Nat.testBit_lt_two_pow (by omega)
   rw[this]
   simp
  ·simp[hi]
theorem negF (a:Nat) (h:a<18446744073709551616):Op.negFloat .f64 a=ngt a:=by
 rw[←xor_sign a h]
 rfl
theorem sum_nan_left (d:Ieee.Datum) (s:Bool) (f:Nat):Ieee.Datum.sum (.nan s f) d=none:=by cases d <;> rfl
theorem sum_nan_right (d:Ieee.Datum) (s:Bool) (f:Nat):Ieee.Datum.sum d (.nan s f)=none:=by cases d <;> rfl
theorem cases3 (a:Nat):mag a<9218868437227405312∨mag a=9218868437227405312∨9218868437227405312<mag a:=by omega
theorem sub_fin {a:Nat} (h:a<18446744073709551616) (hf:mag a<9218868437227405312):FloatKind.f64.format.sub a a=some 0:=by
 rw[f64]
 obtain⟨m,k,e1,e2⟩:=read_number a h hf
 unfold Ieee.Format.sub
 rw[e1]
 simp only[Ieee.Datum.opposite,Ieee.Datum.sum,Option.map_some]
 congr 1
 have:Ieee.signed (neg a) m (-1074+(k:Int) - min (-1074+(k:Int)) (-1074+(k:Int))).toNat+Ieee.signed (!neg a) m (-1074+(k:Int) - min (-1074+(k:Int)) (-1074+(k:Int))).toNat=0:=by
  unfold Ieee.signed
  cases neg a <;> simp <;> omega
 rw[this]
 cases neg a <;> rfl
theorem sub_non {a:Nat} (h:a<18446744073709551616) (hf:9218868437227405312≤mag a):FloatKind.f64.format.sub a a=none:=by
 rw[f64]
 unfold Ieee.Format.sub
 rcases cases3 a with h1|h1|h1
 ·omega
 ·rw[read_infinity a h h1]
  simp only[Ieee.Datum.opposite,Ieee.Datum.sum]
  cases neg a <;> rfl
 ·obtain⟨s,f,e⟩:=read_nan a h1
  rw[e,sum_nan_left];rfl
def addX (a b:Nat):Nat :=
 if isNaN a||isNaN b then 9221120237041090560
 else if mag a=9218868437227405312 then(if mag b=9218868437227405312 then(if neg a=neg b then a else 9221120237041090560)else a)
 else b
theorem word_inf (a:Nat) (h:a<18446744073709551616) (hf:mag a=9218868437227405312):Ieee.double.write (.infinity (neg a))=a:=by
 have:=word_self a h
 rw[hf] at this
 exact this
theorem nan_x:isNaN 9221120237041090560=true:=by decide
theorem add_non {a b:Nat} (ha:a<18446744073709551616) (hb:b<18446744073709551616) (h:fin a=false∨fin b=false) :
  (FloatKind.f64.format.add a b=none∧isNaN (addX a b)=true)∨FloatKind.f64.format.add a b=some (addX a b):=by
 rw[f64]
 unfold Ieee.Format.add addX
 rcases cases3 a with h1|h1|h1
 ·rcases cases3 b with g1|g1|g1
  ·unfold fin at h;simp at h;omega
  ·obtain⟨m,k,e1,-⟩:=read_number a ha h1
   have n1:isNaN a=false:=by unfold isNaN;simp;omega
   have n2:isNaN b=false:=by unfold isNaN;simp;omega
   rw[e1,read_infinity b hb g1,n1,n2]
   refine .inr ?_
   rw[if_neg (by decide),if_neg (by omega)]
   simp only[Ieee.Datum.sum,Option.map_some,word_inf b hb g1]
  ·obtain⟨s,f,e⟩:=read_nan b g1
   have n2:isNaN b=true:=by unfold isNaN;simp;omega
   rw[e,n2,sum_nan_right]
   exact .inl ⟨rfl,by rw[Bool.or_true,if_pos rfl];exact nan_x⟩
 ·have n1:isNaN a=false:=by unfold isNaN;simp;omega
  rw[read_infinity a ha h1,n1,if_pos h1]
  rcases cases3 b with g1|g1|g1
  ·obtain⟨m,k,e1,-⟩:=read_number b hb g1
   have n2:isNaN b=false:=by unfold isNaN;simp;omega
   rw[e1,n2]
   refine .inr ?_
   rw[if_neg (by decide),if_neg (by omega)]
   simp only[Ieee.Datum.sum,Option.map_some,word_inf a ha h1]
  ·have n2:isNaN b=false:=by unfold isNaN;simp;omega
   rw[read_infinity b hb g1,n2,if_neg (by decide),if_pos g1]
   simp only[Ieee.Datum.sum]
   by_cases hs:neg a=neg b
   ·rw[if_pos hs,if_pos hs]
    refine .inr ?_
    simp only[Option.map_some,word_inf a ha h1]
   ·rw[if_neg hs,if_neg hs]
    exact .inl ⟨rfl,nan_x⟩
  ·obtain⟨s,f,e⟩:=read_nan b g1
   have n2:isNaN b=true:=by unfold isNaN;simp;omega
   rw[e,n2,sum_nan_right]
   exact .inl ⟨rfl,by rw[Bool.or_true,if_pos rfl];exact nan_x⟩
 ·obtain⟨s,f,e⟩:=read_nan a h1
  have n1:isNaN a=true:=by unfold isNaN;simp;omega
  rw[e,n1,sum_nan_left]
  exact .inl ⟨rfl,by rw[Bool.true_or,if_pos rfl];exact nan_x⟩
theorem run_nan {P:Program} (w:World) (op:BinOp) (t:TypeId) (x y:Nat) (hop:op=.add∨op=.sub∨op=.mul∨op=.quo) (h:floatBits op .f64 x y=none) :
  ∃ n,n<18446744073709551616∧isNaN n=true∧(binOp op t (.float .f64 x) (.float .f64 y)).run P w=.ok (.float .f64 n) w.drew:=by
 refine⟨(Question.nanBits .f64 x y).cut (w.tape w.drawn (.nanBits .f64 x y)),?_,?_,?_⟩
 ·simp only[Question.cut];omega
 ·unfold isNaN mag;apply decide_eq_true;simp only[Question.cut];generalize w.tape w.drawn _=u;have h2:=Nat.mod_lt (u / 2) (show 0<2^52 - 1 by decide);generalize u / 2 % (2^52 - 1)=v at *; rcases(show u % 2=0∨u % 2=1 by omega)with h3|h3 <;> rw[h3] <;> omega
 ·rcases hop with rfl|rfl|rfl|rfl
  all_goals simp only[floatBits] at h
  all_goals simp[binOp,Op.floatArith,h,Question.forced]
end Go.Fl64
/- Products and quotients of floats of which one is nought or not finite. -/
namespace Go.Fl64
def pln (a:Nat):Bool:=decide (mag a<9218868437227405312)&&decide (mag a≠0)
theorem pln_false {a:Nat}:pln a=false↔(¬ mag a<9218868437227405312∨mag a=0):=by
 unfold pln
 by_cases h1:mag a<9218868437227405312 <;> by_cases h2:mag a=0 <;> simp[h1,h2]
theorem pln_true {a:Nat}:pln a=true↔(mag a<9218868437227405312∧mag a≠0):=by
 unfold pln
 by_cases h1:mag a<9218868437227405312 <;> by_cases h2:mag a=0 <;> simp[h1,h2]
theorem write_inf (s:Bool):Ieee.double.write (.infinity s)=sig s 9218868437227405312:=by cases s <;> decide +kernel
theorem write_nought (s:Bool) (e:Int):Ieee.double.write (.number s 0 e)=sig s 0:=by
 have:Ieee.double.write (.number s 0 e)=Ieee.double.word s 0:=by
  show Ieee.double.nearest s 0 e=_
  unfold Ieee.Format.nearest
  rw[if_pos rfl]
 rw[this]
 cases s <;> decide +kernel
theorem prod_nan_left (d:Ieee.Datum) (s:Bool) (f:Nat):Ieee.Datum.product (.nan s f) d=none:=by cases d <;> rfl
theorem prod_nan_right (d:Ieee.Datum) (s:Bool) (f:Nat):Ieee.Datum.product d (.nan s f)=none:=by cases d <;> rfl
theorem quot_nan_left (n:Nat) (d:Ieee.Datum) (s:Bool) (f:Nat):Ieee.Datum.quotient n (.nan s f) d=none:=by cases d <;> rfl
theorem quot_nan_right (n:Nat) (d:Ieee.Datum) (s:Bool) (f:Nat):Ieee.Datum.quotient n d (.nan s f)=none:=by cases d <;> rfl
def mulX (a b:Nat):Nat :=
 if isNaN a||isNaN b then 9221120237041090560
 else if mag a=9218868437227405312∨mag b=9218868437227405312 then(if mag a=0∨mag b=0 then 9221120237041090560 else sig (neg a != neg b) 9218868437227405312)
 else sig (neg a != neg b) 0
def divX (a b:Nat):Nat :=
 if isNaN a||isNaN b||(decide (mag a=9218868437227405312)&&decide (mag b=9218868437227405312))||(decide (mag a=0)&&decide (mag b=0))then 9221120237041090560
 else if mag a=9218868437227405312∨mag b=0 then sig (neg a != neg b) 9218868437227405312
 else sig (neg a != neg b) 0
theorem xor_bne (s t:Bool):(s ^^ t)=(s != t):=by cases s <;> cases t <;> rfl
theorem nan_of {a:Nat} (h:9218868437227405312<mag a):isNaN a=true:=by unfold isNaN;simp;omega
theorem nan_no {a:Nat} (h:mag a≤9218868437227405312):isNaN a=false:=by unfold isNaN;simp;omega
theorem num_nought {a m k:Nat} (e:m*2^k=val (mag a)):m=0↔mag a=0:=by
 have hp:=Nat.two_pow_pos k
 constructor
 ·intro h
  rw[h,Nat.zero_mul] at e
  exact(val_eq_zero _).1 e.symm
 ·intro h
  rw[h,val_zero] at e
  rcases Nat.mul_eq_zero.1 e with h|h
  ·exact h
  ·omega
theorem mul_non {a b:Nat} (ha:a<18446744073709551616) (hb:b<18446744073709551616) (h:pln a=false∨pln b=false) :
  (FloatKind.f64.format.mul a b=none∧isNaN (mulX a b)=true)∨FloatKind.f64.format.mul a b=some (mulX a b):=by
 rw[f64]
 unfold Ieee.Format.mul mulX
 rcases cases3 a with h1|h1|h1
 ·obtain⟨m,k,e1,e2⟩:=read_number a ha h1
  have n1:=nan_no (a:=a) (by omega)
  rw[e1,n1]
  rcases cases3 b with g1|g1|g1
  ·obtain⟨n,j,e3,e4⟩:=read_number b hb g1
   have n2:=nan_no (a:=b) (by omega)
   rw[e3,n2,if_neg (by decide),if_neg (by omega)]
   refine .inr ?_
   simp only[Ieee.Datum.product,Option.map_some]
   have hz:m*n=0:=by
    rcases h with h|h
    ·rcases pln_false.1 h with h|h
     ·omega
     ·rw[(num_nought e2).2 h,Nat.zero_mul]
    ·rcases pln_false.1 h with h|h
     ·omega
     ·rw[(num_nought e4).2 h,Nat.mul_zero]
   rw[hz,write_nought,xor_bne]
  ·have n2:=nan_no (a:=b) (by omega)
   rw[read_infinity b hb g1,n2,if_neg (by decide),if_pos (.inr g1)]
   simp only[Ieee.Datum.product]
   by_cases hz:mag a=0
   ·rw[if_pos ((num_nought e2).2 hz),if_pos (.inl hz)]
    exact .inl ⟨rfl,nan_x⟩
   ·rw[if_neg (fun h=>hz ((num_nought e2).1 h)),if_neg (by omega)]
    refine .inr ?_
    simp only[Option.map_some,write_inf,xor_bne]
    cases neg a <;> cases neg b <;> rfl
  ·obtain⟨s,f,e⟩:=read_nan b g1
   rw[e,nan_of g1,prod_nan_right]
   exact .inl ⟨rfl,by rw[Bool.or_true,if_pos rfl];exact nan_x⟩
 ·have n1:=nan_no (a:=a) (by omega)
  rw[read_infinity a ha h1,n1]
  rcases cases3 b with g1|g1|g1
  ·obtain⟨n,j,e3,e4⟩:=read_number b hb g1
   have n2:=nan_no (a:=b) (by omega)
   rw[e3,n2,if_neg (by decide),if_pos (.inl h1)]
   simp only[Ieee.Datum.product]
   by_cases hz:mag b=0
   ·rw[if_pos ((num_nought e4).2 hz),if_pos (.inr hz)]
    exact .inl ⟨rfl,nan_x⟩
   ·rw[if_neg (fun h=>hz ((num_nought e4).1 h)),if_neg (by omega)]
    refine .inr ?_
    simp only[Option.map_some,write_inf,xor_bne]
  ·have n2:=nan_no (a:=b) (by omega)
   rw[read_infinity b hb g1,n2,if_neg (by decide),if_pos (.inl h1),if_neg (by omega)]
   refine .inr ?_
   simp only[Ieee.Datum.product,Option.map_some,write_inf,xor_bne]
  ·obtain⟨s,f,e⟩:=read_nan b g1
   rw[e,nan_of g1,prod_nan_right]
   exact .inl ⟨rfl,by rw[Bool.or_true,if_pos rfl];exact nan_x⟩
 ·obtain⟨s,f,e⟩:=read_nan a h1
  rw[e,nan_of h1,prod_nan_left]
  exact .inl ⟨rfl,by rw[Bool.true_or,if_pos rfl];exact nan_x⟩
theorem div_non {a b:Nat} (ha:a<18446744073709551616) (hb:b<18446744073709551616) (h:pln a=false∨pln b=false) :
  (FloatKind.f64.format.div a b=none∧isNaN (divX a b)=true)∨FloatKind.f64.format.div a b=some (divX a b):=by
 rw[f64]
 unfold Ieee.Format.div divX
 rcases cases3 a with h1|h1|h1
 ·obtain⟨m,k,e1,e2⟩:=read_number a ha h1
  have n1:=nan_no (a:=a) (by omega)
  rw[e1,n1,decide_eq_false (show ¬ mag a=9218868437227405312 by omega)]
  rcases cases3 b with g1|g1|g1
  ·obtain⟨n,j,e3,e4⟩:=read_number b hb g1
   have n2:=nan_no (a:=b) (by omega)
   rw[e3,n2]
   simp only[Ieee.Datum.quotient]
   by_cases hb0:mag b=0
   ·rw[if_pos ((num_nought e4).2 hb0)]
    by_cases ha0:mag a=0
    ·rw[if_pos ((num_nought e2).2 ha0),decide_eq_true ha0,decide_eq_true hb0]
     exact .inl ⟨rfl,nan_x⟩
    ·rw[if_neg (fun h=>ha0 ((num_nought e2).1 h)),decide_eq_false ha0]
     refine .inr ?_
     simp only[Option.map_some,write_inf,xor_bne]
     rw[if_neg (by simp),if_pos (.inr hb0)]
   ·rw[if_neg (fun h=>hb0 ((num_nought e4).1 h)),decide_eq_false hb0]
    have ha0:mag a=0:=by
     rcases h with h|h
     ·rcases pln_false.1 h with h|h
      ·omega
      ·exact h
     ·rcases pln_false.1 h with h|h
      ·omega
      ·exact absurd h hb0
    have hm0:=(num_nought e2).2 ha0
    refine .inr ?_
    rw[hm0]
    simp only[Nat.zero_shiftLeft,Nat.zero_div,Nat.zero_mod,Option.map_some]
    rw[if_neg (by simp),if_neg (by omega)]
    simp only[bne_self_eq_false,Bool.toNat_false,Nat.mul_zero,Nat.add_zero,write_nought,xor_bne]
  ·have n2:=nan_no (a:=b) (by omega)
   rw[read_infinity b hb g1,n2,if_neg (by simp;omega),if_neg (by omega)]
   refine .inr ?_
   simp only[Ieee.Datum.quotient,Option.map_some,write_nought,xor_bne]
  ·obtain⟨s,f,e⟩:=read_nan b g1
   rw[e,nan_of g1,quot_nan_right]
   exact .inl ⟨rfl,by rw[if_pos (by simp)];exact nan_x⟩
 ·have n1:=nan_no (a:=a) (by omega)
  rw[read_infinity a ha h1,n1,decide_eq_true h1,decide_eq_false (show ¬ mag a=0 by omega)]
  rcases cases3 b with g1|g1|g1
  ·obtain⟨n,j,e3,e4⟩:=read_number b hb g1
   have n2:=nan_no (a:=b) (by omega)
   rw[e3,n2,if_neg (by simp;omega),if_pos (.inl h1)]
   refine .inr ?_
   simp only[Ieee.Datum.quotient,Option.map_some,write_inf,xor_bne]
  ·have n2:=nan_no (a:=b) (by omega)
   rw[read_infinity b hb g1,n2,if_pos (by simp[g1])]
   exact .inl ⟨rfl,nan_x⟩
  ·obtain⟨s,f,e⟩:=read_nan b g1
   rw[e,nan_of g1,quot_nan_right]
   exact .inl ⟨rfl,by rw[if_pos (by simp)];exact nan_x⟩
 ·obtain⟨s,f,e⟩:=read_nan a h1
  rw[e,nan_of h1,quot_nan_left]
  exact .inl ⟨rfl,by rw[if_pos (by simp)];exact nan_x⟩
end Go.Fl64
namespace Go.Proofs.YtclmbahhojdfcaaGreatDoor
open Go.RowKit Go.Fl64
def OutA (W:World) (t:Bool×Nat×Int) (r:Ending) (w':World):Prop:=∃ s ao n cap e,r=.returned (.agg #[.bool s,.slice ao n cap,.int .i64 e])∧PN w' (.agg #[.bool s,.slice ao n cap,.int .i64 e]) t∧Bw W w'
theorem at_boxP {w:World} {ao:Option Addr} {n z g:Nat} {p q r:Value} (h:At w ao n z) (hg:w.heap[g]?=some (.cells #[p,q,r] 85 (0,0))) (hp:∀ k,p ≠ .int .u32 k) (hq:∀ k,q ≠ .int .u32 k) (hr:∀ k,r ≠ .int .u32 k) (a b c:Value):At (((w.setCell ⟨g,0,none⟩ a).setCell ⟨g,1,none⟩ b).setCell ⟨g,2,none⟩ c) ao n z:=by
 obtain⟨bb,o,h1,h2⟩:=h
 refine⟨bb,o,h1,fun i hi=>?_⟩
 by_cases hb:bb=g
 ·subst hb
  have:=h2 i hi
  simp only[World.cell?,hg] at this
  exfalso
  have hlt:o+i<3:=by
   rcases Nat.lt_or_ge (o+i) 3 with h|h
   ·exact h
   ·rw[Array.getElem?_eq_none (by simpa using h)] at this;simp at this
  rcases(show o+i=0∨o+i=1∨o+i=2 by omega)with h|h|h
  ·rw[h] at this;simp at this;exact hp _ this
  ·rw[h] at this;simp at this;exact hq _ this
  ·rw[h] at this;simp at this;exact hr _ this
 ·rw[World.cell?_setCell_other _ _ _ _ (by intro e;simp at e <;> omega),World.cell?_setCell_other _ _ _ _ (by intro e;simp at e <;> omega),World.cell?_setCell_other _ _ _ _ (by intro e;simp at e <;> omega)]
  exact h2 i hi
theorem pn_store {w:World} {A:Value} {t:Bool×Nat×Int} {g:Nat} (h:PN w A t) (hg:w.heap[g]?=some (.cells #[.bool false,.slice none 0 0,.int .i64 0] 85 (0,0))) (a b c:Value):PN (((w.setCell ⟨g,0,none⟩ a).setCell ⟨g,1,none⟩ b).setCell ⟨g,2,none⟩ c) A t:=by
 obtain⟨ao,cap,h1,ao',cap',e',h2,h3,h4⟩:=h
 exact⟨ao,cap,h1,ao',cap',e',h2,h3,at_boxP h4 hg (by simp) (by simp) (by simp) a b c⟩
theorem exact_1 (a:Nat) (t:Bool×Nat×Int) (w:World)
  (k:∀ W,Bw w W→Calls Tryz.prog 82 #[.float .f64 a] W fun r w'=>∃ s ao n cap e,r=.returned (.tuple #[.agg #[.bool s,.slice ao n cap,.int .i64 e],.int .i64 0])∧PN w' (.agg #[.bool s,.slice ao n cap,.int .i64 e]) t∧Bw W w') :
  Calls Tryz.prog 105 #[.float .f64 a] w fun r w'=>OutA w t r w':=by
 obtain⟨W,hW⟩:∃ W,W=w.alloc (.cells #[.bool false,.slice none 0 0,.int .i64 0] 85):=⟨_,rfl⟩
 have HX:Hid (Bw w W∧W.heap[w.heap.size]?=some (.cells #[.bool false,.slice none 0 0,.int .i64 0] 85 (0,0))):=⟨by rw[hW];exact(Below.refl _ _).alloc (Nat.le_refl _) _,by rw[hW];exact heap_alloc_new _ _⟩
 have k1:=k W HX.out.1
 clear k
 go_enter Tryz.func105,Tryz.ntmps105
 go_wp2_with fail
 rw[←hW]
 clear hW
 refine k1.mono ?_
 rintro r w1 ⟨s1,ao1,n1,cap1,ex1,rfl,hA,hb1⟩
 obtain⟨W1,hW1⟩:∃ W1,W1=w1.alloc (.cells #[.bool s1,.slice ao1 n1 cap1,.int .i64 ex1] 85):=⟨_,rfl⟩
 have hb2:Bw W W1:=by rw[hW1];exact hb1.alloc hb1.size _
 have HY:Hid (PN W1 (.agg #[.bool s1,.slice ao1 n1 cap1,.int .i64 ex1]) t∧Bw w W1∧W1.heap[w1.heap.size]?=some (.cells #[.bool s1,.slice ao1 n1 cap1,.int .i64 ex1] 85 (0,0))∧W1.heap[w.heap.size]?=some (.cells #[.bool false,.slice none 0 0,.int .i64 0] 85 (0,0))) :=
  ⟨by rw[hW1];exact hA.later ((Below.refl _ _).alloc (Nat.le_refl _) _),HX.out.1.trans (hb2.mono HX.out.1.size),by rw[hW1];exact heap_alloc_new _ _,box_later HX.out.2 hb2 (lt_of_box HX.out.2)⟩
 clear k1 hA hb1 hb2
 go_upto_region 2 with fail
 rw[←hW1]
 clear hW1
 generalize w1.heap.size=g1 at *
 obtain⟨⟨a0,a1,a2⟩,-⟩:=box_cells HY.out.2.2.1
 obtain⟨⟨x1,x2,x3⟩,x4,x5,x6⟩:=box_cells HY.out.2.2.2
 go_wp2
 refine bodyPost_ret (results_cell_row rfl _ _ w.heap.size 85 #[.bool s1,.slice ao1 n1 cap1,.int .i64 ex1] (0,0) _ rfl (store3 _ _ _ HY.out.2.2.2) Tryz.underlying85 rfl Tryz.info85) rfl ?_
 exact⟨_,_,_,_,_,rfl,pn_store HY.out.1 HY.out.2.2.2 _ _ _,below_store3 HY.out.2.1 (Nat.le_refl _) _ _ _⟩
-- GEN: one call of two numbers each, the error let go
theorem added_1 (na nb:Bool) (ua va:Option Addr) (un uc vn vc:Nat) (ea eb:Int) (t:Bool×Nat×Int) (w:World)
  (k:∀ W,Bw w W→Calls Tryz.prog 83 #[.agg #[.bool na,.slice ua un uc,.int .i64 ea],.agg #[.bool nb,.slice va vn vc,.int .i64 eb]] W fun r w'=>∃ s ao n cap e,r=.returned (.tuple #[.agg #[.bool s,.slice ao n cap,.int .i64 e],.int .i64 0])∧PN w' (.agg #[.bool s,.slice ao n cap,.int .i64 e]) t∧Bw W w') :
  Calls Tryz.prog 110 #[.agg #[.bool na,.slice ua un uc,.int .i64 ea],.agg #[.bool nb,.slice va vn vc,.int .i64 eb]] w fun r w'=>OutA w t r w':=by
 obtain⟨W,hW⟩:∃ W,W=((w.alloc (.cells #[.bool na,.slice ua un uc,.int .i64 ea] 85)).alloc (.cells #[.bool nb,.slice va vn vc,.int .i64 eb] 85)).alloc (.cells #[.bool false,.slice none 0 0,.int .i64 0] 85):=⟨_,rfl⟩
 obtain⟨hA,hB,hC,hsz,hBW⟩:=boxes3 _ _ _ hW
 obtain⟨⟨a0,a1,a2⟩,-⟩:=box_cells hA
 obtain⟨⟨b0,b1,b2⟩,-⟩:=box_cells hB
 have HX:Hid (Bw w W∧W.heap[w.heap.size+1+1]?=some (.cells #[.bool false,.slice none 0 0,.int .i64 0] 85 (0,0))):=⟨hBW,hC⟩
 have k1:=k W HX.out.1
 clear k hA hB hC hBW hsz
 rw[hW] at a0 a1 a2 b0 b1 b2
 go_enter Tryz.func110,Tryz.ntmps110
 go_wp2_with fail
 rw[←hW]
 clear hW a0 a1 a2 b0 b1 b2
 refine k1.mono ?_
 rintro r w1 ⟨s1,ao1,n1,cap1,ex1,rfl,hA,hb1⟩
 obtain⟨W1,hW1⟩:∃ W1,W1=w1.alloc (.cells #[.bool s1,.slice ao1 n1 cap1,.int .i64 ex1] 85):=⟨_,rfl⟩
 have hb2:Bw W W1:=by rw[hW1];exact hb1.alloc hb1.size _
 have HY:Hid (PN W1 (.agg #[.bool s1,.slice ao1 n1 cap1,.int .i64 ex1]) t∧Bw w W1∧W1.heap[w1.heap.size]?=some (.cells #[.bool s1,.slice ao1 n1 cap1,.int .i64 ex1] 85 (0,0))∧W1.heap[w.heap.size+1+1]?=some (.cells #[.bool false,.slice none 0 0,.int .i64 0] 85 (0,0))) :=
  ⟨by rw[hW1];exact hA.later ((Below.refl _ _).alloc (Nat.le_refl _) _),HX.out.1.trans (hb2.mono HX.out.1.size),by rw[hW1];exact heap_alloc_new _ _,box_later HX.out.2 hb2 (lt_of_box HX.out.2)⟩
 clear k1 hA hb1 hb2
 go_upto_region 2 with fail
 rw[←hW1]
 clear hW1
 generalize w1.heap.size=g1 at *
 obtain⟨⟨c0,c1,c2⟩,-⟩:=box_cells HY.out.2.2.1
 obtain⟨⟨x1,x2,x3⟩,x4,x5,x6⟩:=box_cells HY.out.2.2.2
 go_wp2
 refine bodyPost_ret (results_cell_row rfl _ _ (w.heap.size+1+1) 85 #[.bool s1,.slice ao1 n1 cap1,.int .i64 ex1] (0,0) _ rfl (store3 _ _ _ HY.out.2.2.2) Tryz.underlying85 rfl Tryz.info85) rfl ?_
 exact⟨_,_,_,_,_,rfl,pn_store HY.out.1 HY.out.2.2.2 _ _ _,below_store3 HY.out.2.1 (by omega) _ _ _⟩
theorem multiplied_1 (na nb:Bool) (ua va:Option Addr) (un uc vn vc:Nat) (ea eb:Int) (t:Bool×Nat×Int) (w:World)
  (k:∀ W,Bw w W→Calls Tryz.prog 124 #[.agg #[.bool na,.slice ua un uc,.int .i64 ea],.agg #[.bool nb,.slice va vn vc,.int .i64 eb]] W fun r w'=>∃ s ao n cap e,r=.returned (.tuple #[.agg #[.bool s,.slice ao n cap,.int .i64 e],.int .i64 0])∧PN w' (.agg #[.bool s,.slice ao n cap,.int .i64 e]) t∧Bw W w') :
  Calls Tryz.prog 104 #[.agg #[.bool na,.slice ua un uc,.int .i64 ea],.agg #[.bool nb,.slice va vn vc,.int .i64 eb]] w fun r w'=>OutA w t r w':=by
 obtain⟨W,hW⟩:∃ W,W=((w.alloc (.cells #[.bool na,.slice ua un uc,.int .i64 ea] 85)).alloc (.cells #[.bool nb,.slice va vn vc,.int .i64 eb] 85)).alloc (.cells #[.bool false,.slice none 0 0,.int .i64 0] 85):=⟨_,rfl⟩
 obtain⟨hA,hB,hC,hsz,hBW⟩:=boxes3 _ _ _ hW
 obtain⟨⟨a0,a1,a2⟩,-⟩:=box_cells hA
 obtain⟨⟨b0,b1,b2⟩,-⟩:=box_cells hB
 have HX:Hid (Bw w W∧W.heap[w.heap.size+1+1]?=some (.cells #[.bool false,.slice none 0 0,.int .i64 0] 85 (0,0))):=⟨hBW,hC⟩
 have k1:=k W HX.out.1
 clear k hA hB hC hBW hsz
 rw[hW] at a0 a1 a2 b0 b1 b2
 go_enter Tryz.func104,Tryz.ntmps104
 go_wp2_with fail
 rw[←hW]
 clear hW a0 a1 a2 b0 b1 b2
 refine k1.mono ?_
 rintro r w1 ⟨s1,ao1,n1,cap1,ex1,rfl,hA,hb1⟩
 obtain⟨W1,hW1⟩:∃ W1,W1=w1.alloc (.cells #[.bool s1,.slice ao1 n1 cap1,.int .i64 ex1] 85):=⟨_,rfl⟩
 have hb2:Bw W W1:=by rw[hW1];exact hb1.alloc hb1.size _
 have HY:Hid (PN W1 (.agg #[.bool s1,.slice ao1 n1 cap1,.int .i64 ex1]) t∧Bw w W1∧W1.heap[w1.heap.size]?=some (.cells #[.bool s1,.slice ao1 n1 cap1,.int .i64 ex1] 85 (0,0))∧W1.heap[w.heap.size+1+1]?=some (.cells #[.bool false,.slice none 0 0,.int .i64 0] 85 (0,0))) :=
  ⟨by rw[hW1];exact hA.later ((Below.refl _ _).alloc (Nat.le_refl _) _),HX.out.1.trans (hb2.mono HX.out.1.size),by rw[hW1];exact heap_alloc_new _ _,box_later HX.out.2 hb2 (lt_of_box HX.out.2)⟩
 clear k1 hA hb1 hb2
 go_upto_region 2 with fail
 rw[←hW1]
 clear hW1
 generalize w1.heap.size=g1 at *
 obtain⟨⟨c0,c1,c2⟩,-⟩:=box_cells HY.out.2.2.1
 obtain⟨⟨x1,x2,x3⟩,x4,x5,x6⟩:=box_cells HY.out.2.2.2
 go_wp2
 refine bodyPost_ret (results_cell_row rfl _ _ (w.heap.size+1+1) 85 #[.bool s1,.slice ao1 n1 cap1,.int .i64 ex1] (0,0) _ rfl (store3 _ _ _ HY.out.2.2.2) Tryz.underlying85 rfl Tryz.info85) rfl ?_
 exact⟨_,_,_,_,_,rfl,pn_store HY.out.1 HY.out.2.2.2 _ _ _,below_store3 HY.out.2.1 (by omega) _ _ _⟩
theorem prounded_1 (na:Bool) (ua:Option Addr) (un uc F:Nat) (ea m:Int) (w:World)
  (k:∀ W,Bw w W→Calls Tryz.prog 85 #[.agg #[.bool na,.slice ua un uc,.int .i64 ea],.int .i64 m] W fun r w'=>r=.returned (.tuple #[.float .f64 F,.int .i64 0])∧Bw W w') :
  Calls Tryz.prog 103 #[.agg #[.bool na,.slice ua un uc,.int .i64 ea],.int .i64 m] w fun r w'=>r=.returned (.float .f64 F)∧Bw w w':=by
 obtain⟨W,hW⟩:∃ W,W=w.alloc (.cells #[.bool na,.slice ua un uc,.int .i64 ea] 85):=⟨_,rfl⟩
 have HX:Hid (Bw w W):=(by rw[hW];exact(Below.refl _ _).alloc (Nat.le_refl _) _:Bw w W)
 have hA:W.heap[w.heap.size]?=some (.cells #[.bool na,.slice ua un uc,.int .i64 ea] 85 (0,0)):=by rw[hW];exact heap_alloc_new _ _
 obtain⟨⟨a0,a1,a2⟩,-⟩:=box_cells hA
 have k1:=k W HX.out
 clear k hA
 rw[hW] at a0 a1 a2
 go_enter Tryz.func103,Tryz.ntmps103
 go_wp2_with fail
 rw[←hW]
 clear hW a0 a1 a2
 refine k1.mono ?_
 rintro r w1 ⟨rfl,hb1⟩
 have HY:Hid (Bw w w1):=HX.out.trans (hb1.mono HX.out.size)
 clear k1 hb1
 go_wp2
 go_ret
 exact⟨rfl,HY.out⟩
theorem pround {t:Bool×Nat×Int} {A:Value} {m:Int} {w:World} (hT:Tab32 w) (ok:Ok t) (h:PN w A t) (hm:1≤m∧m≤3) :
  Calls Tryz.prog 85 #[A,.int .i64 m] w fun r w'=>r=.returned (.tuple #[.float .f64 (tfF t.1 true t.2.1 t.2.2 m),.int .i64 0])∧Bw w w':=by
 obtain⟨pa,pc,rfl,i1⟩:=h
 obtain⟨f1,f2,f3,-,-⟩:=ok.facts
 refine c24_1 t.1 pa _ pc _ t.2.2 m w (fun W' g hW' hg=>?_) (fun W'=>c48 m (by omega) W') (fun W' hW'=>?_)
 ·have:=maybe1 hg (i1.later hW') (by omega)
  rw[show okN t.1 (dlen t.2.1) t.2.1 t.2.2=true from ok] at this
  exact this
 ·exact c106 (neg:=t.1) (e:=t.2.2) (mode:=m) (hT.later hW') (i1.later hW') (by omega) (by omega) (by omega)
theorem prounded {t:Bool×Nat×Int} {A:Value} {m:Int} {w:World} (hT:Tab32 w) (ok:Ok t) (h:PN w A t) (hm:1≤m∧m≤3) :
  Calls Tryz.prog 103 #[A,.int .i64 m] w fun r w'=>r=.returned (.float .f64 (tfF t.1 true t.2.1 t.2.2 m))∧Bw w w':=by
 obtain⟨s,ao,n,cap,e,rfl⟩:=h.shape
 exact prounded_1 s ao n cap _ e m w fun W hW=>pround (hT.later hW) ok (h.later hW) hm
theorem added_op {t1 t2 t3:Bool×Nat×Int} (h:Op2 83 t1 t2 t3) {X Y:Value} {w:World} (hT:Tab32 w) (h1:PN w X t1) (h2:PN w Y t2):Calls Tryz.prog 110 #[X,Y] w fun r w'=>OutA w t3 r w':=by
 obtain⟨s,ao,n,cap,e,rfl⟩:=h1.shape
 obtain⟨s',ao',n',cap',e',rfl⟩:=h2.shape
 exact added_1 s s' ao ao' n cap n' cap' e e' t3 w fun W hW=>h W _ _ (hT.later hW) (h1.later hW) (h2.later hW)
theorem multiplied_op {t1 t2 t3:Bool×Nat×Int} (h:Op2 124 t1 t2 t3) {X Y:Value} {w:World} (hT:Tab32 w) (h1:PN w X t1) (h2:PN w Y t2):Calls Tryz.prog 104 #[X,Y] w fun r w'=>OutA w t3 r w':=by
 obtain⟨s,ao,n,cap,e,rfl⟩:=h1.shape
 obtain⟨s',ao',n',cap',e',rfl⟩:=h2.shape
 exact multiplied_1 s s' ao ao' n cap n' cap' e e' t3 w fun W hW=>h W _ _ (hT.later hW) (h1.later hW) (h2.later hW)
end Go.Proofs.YtclmbahhojdfcaaGreatDoor
/- The document's small functions on floats, call by call. -/
namespace Go.Proofs.YtclmbahhojdfcaaGreatDoor.Ie
open Go.RowKit Go.Fl64
end Go.Proofs.YtclmbahhojdfcaaGreatDoor.Ie
namespace Go.Proofs.YtclmbahhojdfcaaGreatDoor
open Go.RowKit Go.Fl64
def isM (m:Int):Bool:=(m==1)||(m==2)||(m==3)
theorem isM_iff {m:Int}:isM m=true↔(1≤m∧m≤3):=by
 unfold isM;simp only[Bool.or_eq_true,beq_iff_eq];omega
theorem pvalid (m:Int) (w:World):Calls Tryz.prog 100 #[.int .i64 m] w fun r w'=>r=.returned (.int .i64 (if isM m then 0 else 1))∧w'=w:=by
 unfold isM
 by_cases h1:m=1
 ·subst h1
  go_enter Tryz.func100,Tryz.ntmps100
  go_wp2
  go_ret
  exact⟨rfl,rfl⟩
 ·have e1:(m==1)=false:=by simpa using h1
  by_cases h2:m=2
  ·subst h2
   go_enter Tryz.func100,Tryz.ntmps100
   go_wp2
   go_ret
   exact⟨rfl,rfl⟩
  ·have e2:(m==2)=false:=by simpa using h2
   by_cases h3:m=3
   ·subst h3
    go_enter Tryz.func100,Tryz.ntmps100
    go_wp2
    go_ret
    exact⟨rfl,rfl⟩
   ·have e3:(m==3)=false:=by simpa using h3
    rw[show((m==1)||(m==2)||(m==3))=false by rw[e1,e2,e3];rfl]
    go_enter Tryz.func100,Tryz.ntmps100
    go_wp2
    go_ret
    exact⟨rfl,rfl⟩
theorem eq_nought0:(FloatKind.f64.format.order 0 0==some Ordering.eq)=true:=by decide +kernel
theorem pfin_y (a:Nat) (ha:a<18446744073709551616) (hf:mag a<9218868437227405312) (w:World):Calls Tryz.prog 109 #[.float .f64 a] w fun r w'=>r=.returned (.bool true)∧w'=w:=by
 have hs:∀ w,(binOp .sub 22 (.float .f64 a) (.float .f64 a)).run Tryz.prog w=.ok (.float .f64 0) w:=fun w=>run_float_arith w .sub 22 .f64 a a _ (sub_fin ha hf)
 have he:=eq_nought0
 go_enter Tryz.func109,Tryz.ntmps109
 go_wp2
 go_ret
 exact⟨rfl,rfl⟩
theorem pfin_n (a:Nat) (ha:a<18446744073709551616) (hf:¬ mag a<9218868437227405312) (w:World):Calls Tryz.prog 109 #[.float .f64 a] w fun r w'=>r=.returned (.bool false)∧w'=w.drew:=by
 obtain⟨n,n1,n2,hs⟩:=run_nan (P:=Tryz.prog) w .sub 22 a a (by simp) (sub_non ha (by omega))
 have he:=ord_eq n 0 n1 (by decide)
 have hq:eq n 0=false:=by unfold Fl64.eq;rw[n2];rfl
 rw[hq] at he
 go_enter Tryz.func109,Tryz.ntmps109
 go_wp2
 go_ret
 exact⟨rfl,rfl⟩
def z0 (na nb:Bool) (m:Int):Bool:=if na=nb then na else(m==1)
theorem mk_nought {s:Bool} {m:Int} (hm:1≤m∧m≤3):Ie.mk s 0 0 m 9221120237041090561=sig s 0:=by
 unfold Ie.mk
 rw[if_pos (by omega),if_pos rfl]
theorem pnought (na nb:Bool) (m:Int) (hm:1≤m∧m≤3) (w:World):Calls Tryz.prog 112 #[.bool na,.bool nb,.int .i64 m] w fun r w'=>r=.returned (.float .f64 (sig (z0 na nb m) 0))∧w'=w:=by
 have k:∀ s W,Calls Tryz.prog 130 #[.bool s,.int .u64 0,.int .i64 0,.int .i64 m] W fun r w'=>r=.returned (.float .f64 (sig s 0))∧w'=W:=fun s W=>by
  have:=Ie.c24 s 0 0 m (by omega) W
  rw[mk_nought hm] at this
  exact this
 cases na <;> cases nb
 all_goals
  go_enter Tryz.func112,Tryz.ntmps112
  go_wp2_with (go_at_call 130;refine(k _ _).mono ?_;rintro e w' ⟨rfl,rfl⟩)
  go_ret
  exact⟨rfl,rfl⟩
theorem padd_a (a b F:Nat) (m:Int) (w:World) (hm:isM m=true) (hfa:∀ W,Calls Tryz.prog 109 #[.float .f64 a] W fun r w'=>r=.returned (.bool false)∧w'=W.drew)
  (h:(∀ W,(binOp .add 22 (.float .f64 a) (.float .f64 b)).run Tryz.prog W=.ok (.float .f64 F) W)∨∀ W,∃ n,lk n F∧(binOp .add 22 (.float .f64 a) (.float .f64 b)).run Tryz.prog W=.ok (.float .f64 n) W.drew) (hF:F<18446744073709551616) :
  Calls Tryz.prog 81 #[.float .f64 a,.float .f64 b,.int .i64 m] w fun r w'=>∃ n,r=.returned (.float .f64 n)∧lk n F∧Bw w w':=by
 have kV:=pvalid m w
 rw[hm] at kV
 have HB:Hid (Bw w w.drew):=(Below.refl _ _).drew
 have HB2:Hid (Bw w w.drew.drew):=(Below.refl _ _).drew.drew
 have HF:Hid (F<18446744073709551616):=hF
 clear hF
 rcases h with h|h
 ·go_enter Tryz.func81,Tryz.ntmps81
  go_wp2_with fail
  refine kV.mono ?_
  rintro r w' ⟨rfl,hw⟩
  rw[hw]
  clear hw kV
  have kN:=hfa w
  go_wp2_with fail
  refine kN.mono ?_
  rintro r w' ⟨rfl,hw⟩
  rw[hw]
  clear hw kN hfa
  go_wp2_with fail
  go_ret
  exact⟨_,rfl,lk.refl HF.out,HB.out⟩
 ·obtain⟨n,hn,hr⟩:=h w.drew
  have HN:Hid (lk n F):=hn
  clear hn h
  go_enter Tryz.func81,Tryz.ntmps81
  go_wp2_with fail
  refine kV.mono ?_
  rintro r w' ⟨rfl,hw⟩
  rw[hw]
  clear hw kV
  have kN:=hfa w
  go_wp2_with fail
  refine kN.mono ?_
  rintro r w' ⟨rfl,hw⟩
  rw[hw]
  clear hw kN hfa
  go_wp2_with fail
  go_ret
  exact⟨_,rfl,HN.out,HB2.out⟩
theorem padd_b (a b F:Nat) (m:Int) (w:World) (hm:isM m=true) (hfa:∀ W,Calls Tryz.prog 109 #[.float .f64 a] W fun r w'=>r=.returned (.bool true)∧w'=W) (hfb:∀ W,Calls Tryz.prog 109 #[.float .f64 b] W fun r w'=>r=.returned (.bool false)∧w'=W.drew)
  (h:(∀ W,(binOp .add 22 (.float .f64 a) (.float .f64 b)).run Tryz.prog W=.ok (.float .f64 F) W)∨∀ W,∃ n,lk n F∧(binOp .add 22 (.float .f64 a) (.float .f64 b)).run Tryz.prog W=.ok (.float .f64 n) W.drew) (hF:F<18446744073709551616) :
  Calls Tryz.prog 81 #[.float .f64 a,.float .f64 b,.int .i64 m] w fun r w'=>∃ n,r=.returned (.float .f64 n)∧lk n F∧Bw w w':=by
 have kV:=pvalid m w
 rw[hm] at kV
 have HB:Hid (Bw w w.drew):=(Below.refl _ _).drew
 have HB2:Hid (Bw w w.drew.drew):=(Below.refl _ _).drew.drew
 have HF:Hid (F<18446744073709551616):=hF
 clear hF
 rcases h with h|h
 ·go_enter Tryz.func81,Tryz.ntmps81
  go_wp2_with fail
  refine kV.mono ?_
  rintro r w' ⟨rfl,hw⟩
  rw[hw]
  clear hw kV
  have kN:=hfa w
  go_wp2_with fail
  refine kN.mono ?_
  rintro r w' ⟨rfl,hw⟩
  rw[hw]
  clear hw kN hfa
  have kN:=hfb w
  go_wp2_with fail
  refine kN.mono ?_
  rintro r w' ⟨rfl,hw⟩
  rw[hw]
  clear hw kN hfb
  go_wp2_with fail
  go_ret
  exact⟨_,rfl,lk.refl HF.out,HB.out⟩
 ·obtain⟨n,hn,hr⟩:=h w.drew
  have HN:Hid (lk n F):=hn
  clear hn h
  go_enter Tryz.func81,Tryz.ntmps81
  go_wp2_with fail
  refine kV.mono ?_
  rintro r w' ⟨rfl,hw⟩
  rw[hw]
  clear hw kV
  have kN:=hfa w
  go_wp2_with fail
  refine kN.mono ?_
  rintro r w' ⟨rfl,hw⟩
  rw[hw]
  clear hw kN hfa
  have kN:=hfb w
  go_wp2_with fail
  refine kN.mono ?_
  rintro r w' ⟨rfl,hw⟩
  rw[hw]
  clear hw kN hfb
  go_wp2_with fail
  go_ret
  exact⟨_,rfl,HN.out,HB2.out⟩
theorem padd_z (a b F:Nat) (m sg:Int) (ta tb t3:Bool×Nat×Int) (w:World) (hm:isM m=true) (ha:a<18446744073709551616) (hb:b<18446744073709551616)
  (hfa:∀ W,Calls Tryz.prog 109 #[.float .f64 a] W fun r w'=>r=.returned (.bool true)∧w'=W)
  (hfb:∀ W,Calls Tryz.prog 109 #[.float .f64 b] W fun r w'=>r=.returned (.bool true)∧w'=W)
  (kA:Calls Tryz.prog 105 #[.float .f64 a] w fun r w'=>OutA w ta r w')
  (kB:∀ W,Bw w W→Calls Tryz.prog 105 #[.float .f64 b] W fun r w'=>OutA W tb r w')
  (kC:∀ W X Y,Bw w W→PN W X ta→PN W Y tb→Calls Tryz.prog 110 #[X,Y] W fun r w'=>OutA W t3 r w')
  (kS:∀ W X,PN W X t3→Calls Tryz.prog 111 #[X] W fun r w'=>r=.returned (.int .i64 sg)∧Bw W w')
  (hs:(sg==0)=true) (kZ:∀ W,Calls Tryz.prog 112 #[.bool (neg a),.bool (neg b),.int .i64 m] W fun r w'=>r=.returned (.float .f64 F)∧w'=W) :
  Calls Tryz.prog 81 #[.float .f64 a,.float .f64 b,.int .i64 m] w fun r w'=>r=.returned (.float .f64 F)∧Bw w w':=by
 have kV:=pvalid m w
 rw[hm] at kV
 have HAB:Hid (a<18446744073709551616∧b<18446744073709551616):=⟨ha,hb⟩
 have HKB:Hid _:=kB
 have HKC:Hid _:=kC
 have HKS:Hid _:=kS
 clear ha hb kB kC kS
 go_enter Tryz.func81,Tryz.ntmps81
 go_wp2_with fail
 refine kV.mono ?_
 rintro r w' ⟨rfl,hw⟩
 rw[hw]
 clear hw kV
 have kN:=hfa w
 go_wp2_with fail
 refine kN.mono ?_
 rintro r w' ⟨rfl,hw⟩
 rw[hw]
 clear hw kN hfa
 have kN:=hfb w
 go_wp2_with fail
 refine kN.mono ?_
 rintro r w' ⟨rfl,hw⟩
 rw[hw]
 clear hw kN hfb
 go_wp2_with fail
 refine kA.mono ?_
 rintro r w1 ⟨s1,ao1,n1,cap1,ex1,rfl,hP1,hb1⟩
 have k2:=HKB.out w1 hb1
 clear kA
 go_wp2_with fail
 refine k2.mono ?_
 rintro r w2 ⟨s2,ao2,n2,cap2,ex2,rfl,hP2,hb2⟩
 have HB2:Hid (Bw w w2):=hb1.trans (hb2.mono hb1.size)
 have k3:=HKC.out w2 _ _ HB2.out (hP1.later hb2) hP2
 clear k2 hP1 hP2 hb1 hb2
 go_wp2_with fail
 refine k3.mono ?_
 rintro r w3 ⟨s3,ao3,n3,cap3,ex3,rfl,hP3,hb3⟩
 clear k3
 obtain⟨W3,hW3⟩:∃ W3,W3=w3.alloc (.cells #[.bool s3,.slice ao3 n3 cap3,.int .i64 ex3] 85):=⟨_,rfl⟩
 have HX:Hid (PN W3 (.agg #[.bool s3,.slice ao3 n3 cap3,.int .i64 ex3]) t3∧Bw w W3∧W3.heap[w3.heap.size]?=some (.cells #[.bool s3,.slice ao3 n3 cap3,.int .i64 ex3] 85 (0,0))) :=
  ⟨by rw[hW3];exact hP3.later ((Below.refl _ _).alloc (Nat.le_refl _) _),by rw[hW3];exact HB2.out.trans ((hb3.alloc hb3.size _).mono HB2.out.size),by rw[hW3];exact heap_alloc_new _ _⟩
 clear hP3 hb3
 go_upto_region 6 with fail
 rw[←hW3]
 clear hW3
 generalize w3.heap.size=g3 at *
 obtain⟨⟨a0,a1,a2⟩,-⟩:=box_cells HX.out.2.2
 have k4:=HKS.out W3 _ HX.out.1
 go_wp2_with fail
 refine k4.mono ?_
 rintro r w5 ⟨rfl,hb5⟩
 have HB5:Hid (Bw w w5):=HX.out.2.1.trans (hb5.mono HX.out.2.1.size)
 have HP5:Hid (PN w5 (.agg #[.bool s3,.slice ao3 n3 cap3,.int .i64 ex3]) t3):=HX.out.1.later hb5
 obtain⟨⟨a0,a1,a2⟩,-⟩:=box_cells (box_later HX.out.2.2 hb5 (lt_of_box HX.out.2.2))
 clear k4 hb5
 have kz:=kZ w5
 have sa:=Ie.c33 a HAB.out.1 w5
 have sb:=Ie.c33 b HAB.out.2 w5
 clear kZ a0 a1 a2
 go_wp2_with fail
 refine sa.mono ?_
 rintro r w6 ⟨rfl,hw⟩
 rw[hw]
 clear hw sa
 go_wp2_with fail
 refine sb.mono ?_
 rintro r w6 ⟨rfl,hw⟩
 rw[hw]
 clear hw sb
 go_wp2_with fail
 refine kz.mono ?_
 rintro r w6 ⟨rfl,hw⟩
 rw[hw]
 clear hw kz
 go_wp2_with fail
 go_ret
 exact⟨rfl,HB5.out⟩
theorem padd_r (a b F:Nat) (m sg:Int) (ta tb t3:Bool×Nat×Int) (w:World) (hm:isM m=true) (ha:a<18446744073709551616) (hb:b<18446744073709551616)
  (hfa:∀ W,Calls Tryz.prog 109 #[.float .f64 a] W fun r w'=>r=.returned (.bool true)∧w'=W)
  (hfb:∀ W,Calls Tryz.prog 109 #[.float .f64 b] W fun r w'=>r=.returned (.bool true)∧w'=W)
  (kA:Calls Tryz.prog 105 #[.float .f64 a] w fun r w'=>OutA w ta r w')
  (kB:∀ W,Bw w W→Calls Tryz.prog 105 #[.float .f64 b] W fun r w'=>OutA W tb r w')
  (kC:∀ W X Y,Bw w W→PN W X ta→PN W Y tb→Calls Tryz.prog 110 #[X,Y] W fun r w'=>OutA W t3 r w')
  (kS:∀ W X,PN W X t3→Calls Tryz.prog 111 #[X] W fun r w'=>r=.returned (.int .i64 sg)∧Bw W w')
  (hs:(sg==0)=false) (kR:∀ W X,Bw w W→PN W X t3→Calls Tryz.prog 103 #[X,.int .i64 m] W fun r w'=>r=.returned (.float .f64 F)∧Bw W w') :
  Calls Tryz.prog 81 #[.float .f64 a,.float .f64 b,.int .i64 m] w fun r w'=>r=.returned (.float .f64 F)∧Bw w w':=by
 have kV:=pvalid m w
 rw[hm] at kV
 have HAB:Hid (a<18446744073709551616∧b<18446744073709551616):=⟨ha,hb⟩
 have HKB:Hid _:=kB
 have HKC:Hid _:=kC
 have HKS:Hid _:=kS
 clear ha hb kB kC kS
 have HR:Hid _:=kR
 clear kR
 go_enter Tryz.func81,Tryz.ntmps81
 go_wp2_with fail
 refine kV.mono ?_
 rintro r w' ⟨rfl,hw⟩
 rw[hw]
 clear hw kV
 have kN:=hfa w
 go_wp2_with fail
 refine kN.mono ?_
 rintro r w' ⟨rfl,hw⟩
 rw[hw]
 clear hw kN hfa
 have kN:=hfb w
 go_wp2_with fail
 refine kN.mono ?_
 rintro r w' ⟨rfl,hw⟩
 rw[hw]
 clear hw kN hfb
 go_wp2_with fail
 refine kA.mono ?_
 rintro r w1 ⟨s1,ao1,n1,cap1,ex1,rfl,hP1,hb1⟩
 have k2:=HKB.out w1 hb1
 clear kA
 go_wp2_with fail
 refine k2.mono ?_
 rintro r w2 ⟨s2,ao2,n2,cap2,ex2,rfl,hP2,hb2⟩
 have HB2:Hid (Bw w w2):=hb1.trans (hb2.mono hb1.size)
 have k3:=HKC.out w2 _ _ HB2.out (hP1.later hb2) hP2
 clear k2 hP1 hP2 hb1 hb2
 go_wp2_with fail
 refine k3.mono ?_
 rintro r w3 ⟨s3,ao3,n3,cap3,ex3,rfl,hP3,hb3⟩
 clear k3
 obtain⟨W3,hW3⟩:∃ W3,W3=w3.alloc (.cells #[.bool s3,.slice ao3 n3 cap3,.int .i64 ex3] 85):=⟨_,rfl⟩
 have HX:Hid (PN W3 (.agg #[.bool s3,.slice ao3 n3 cap3,.int .i64 ex3]) t3∧Bw w W3∧W3.heap[w3.heap.size]?=some (.cells #[.bool s3,.slice ao3 n3 cap3,.int .i64 ex3] 85 (0,0))) :=
  ⟨by rw[hW3];exact hP3.later ((Below.refl _ _).alloc (Nat.le_refl _) _),by rw[hW3];exact HB2.out.trans ((hb3.alloc hb3.size _).mono HB2.out.size),by rw[hW3];exact heap_alloc_new _ _⟩
 clear hP3 hb3
 go_upto_region 6 with fail
 rw[←hW3]
 clear hW3
 generalize w3.heap.size=g3 at *
 obtain⟨⟨a0,a1,a2⟩,-⟩:=box_cells HX.out.2.2
 have k4:=HKS.out W3 _ HX.out.1
 go_wp2_with fail
 refine k4.mono ?_
 rintro r w5 ⟨rfl,hb5⟩
 have HB5:Hid (Bw w w5):=HX.out.2.1.trans (hb5.mono HX.out.2.1.size)
 have HP5:Hid (PN w5 (.agg #[.bool s3,.slice ao3 n3 cap3,.int .i64 ex3]) t3):=HX.out.1.later hb5
 obtain⟨⟨a0,a1,a2⟩,-⟩:=box_cells (box_later HX.out.2.2 hb5 (lt_of_box HX.out.2.2))
 clear k4 hb5
 have kr:=HR.out w5 _ HB5.out HP5.out
 go_wp2_with fail
 refine kr.mono ?_
 rintro r w6 ⟨rfl,hb6⟩
 have HB6:Hid (Bw w w6):=HB5.out.trans (hb6.mono HB5.out.size)
 clear kr hb6 a0 a1 a2
 go_wp2_with fail
 go_ret
 exact⟨rfl,HB6.out⟩
end Go.Proofs.YtclmbahhojdfcaaGreatDoor
namespace Go.Proofs.YtclmbahhojdfcaaGreatDoor
open Go.RowKit
end Go.Proofs.YtclmbahhojdfcaaGreatDoor
namespace Go.Proofs.YtclmbahhojdfcaaGreatDoor
open Go.RowKit Go.Fl64
end Go.Proofs.YtclmbahhojdfcaaGreatDoor
namespace Go.Proofs.YtclmbahhojdfcaaGreatDoor
open Go.RowKit
end Go.Proofs.YtclmbahhojdfcaaGreatDoor
namespace Go.Proofs.YtclmbahhojdfcaaGreatDoor
open Go.RowKit Go.Fl64
def tF (a:Nat):Bool×Nat×Int:=cn (neg a) (Ie.mant a) (Ie.lp a)
end Go.Proofs.YtclmbahhojdfcaaGreatDoor
namespace Go.Proofs.YtclmbahhojdfcaaGreatDoor
open Go.RowKit
end Go.Proofs.YtclmbahhojdfcaaGreatDoor
namespace Go.Proofs.YtclmbahhojdfcaaGreatDoor
open Go.RowKit Go.Fl64
theorem of_parts (a m:Nat) (ha:a<18446744073709551616) (hf:mag a<9218868437227405312) (hm:Ie.sM a=(m:Int)) :
  (m=0∧Ie.mant a=0)∨(m≠0∧Ie.mant a≠0∧neg a=neg a∧m / 2^tz m=Ie.mant a / 2^tz (Ie.mant a)∧Ie.sE a+(tz m:Int)=Ie.lp a+(tz (Ie.mant a):Int)):=by
 unfold Ie.sM at hm
 unfold Ie.sE
 rw[if_neg (by omega)] at hm ⊢
 by_cases h0:mag a=0
 ·rw[if_pos h0] at hm
  exact .inl ⟨by omega,by unfold Ie.mant;rw[if_pos (by omega)];exact h0⟩
 ·rw[if_neg h0] at hm ⊢
  have hb:=Ie.mant_bound a
  have hne:=Ie.mant_ne h0
  have hct:Lib.ctz 64 (Ie.mant a)=tz (Ie.mant a):=tz_ctz hne (by omega)
  rw[hct] at hm ⊢
  have e1:m=Ie.mant a / 2^tz (Ie.mant a):=by
   have:((Ie.mant a / 2^tz (Ie.mant a):Nat):Int)=(m:Int):=by rw[←hm];simp
   omega
  obtain⟨h1,h2⟩:=tz_spec _ (Ie.mant a) (Nat.le_refl _) hne
  rw[←e1] at h2
  have e2:tz m=0:=tz_odd h2
  refine .inr ⟨by intro e;rw[e] at h2;simp at h2,hne,rfl,?_,?_⟩
  ·rw[e2,←e1];simp
  ·rw[e2];simp
end Go.Proofs.YtclmbahhojdfcaaGreatDoor
namespace Go.Proofs.YtclmbahhojdfcaaGreatDoor
open Go.RowKit
theorem mul_no (na nb:Bool) (ua va:Option Addr) (un uc vn vc:Nat) (ea eb:Int) (w:World)
  (k67:∀ W g,Bw w W→W.heap[g]?=some (.cells #[.bool na,.slice ua un uc,.int .i64 ea,.bool nb,.slice va vn vc,.int .i64 eb] 85 (0,0))→Calls Tryz.prog 116 #[.slice (some ⟨g,0,none⟩) 2 2] W fun r w'=>r=.returned (.bool false)∧Bw W w') :
  Calls Tryz.prog 124 #[NumV na (.slice ua un uc) ea,NumV nb (.slice va vn vc) eb] w fun r w'=>r=.returned (.tuple #[Nil,.int .i64 1])∧Bw w w':=by
 obtain⟨W,hW⟩:∃ W,W=((w.alloc (.cells #[.bool na,.slice ua un uc,.int .i64 ea] 85)).alloc (.cells #[.bool nb,.slice va vn vc,.int .i64 eb] 85)).alloc (.cells #[.bool false,.slice none 0 0,.int .i64 0] 85):=⟨_,rfl⟩
 obtain⟨hA,hBb,hC,hsz,hBW⟩:=boxes3 _ _ _ hW
 have hB4:Below w.heap.size w (W.alloc (.cells #[.bool na,.slice ua un uc,.int .i64 ea,.bool nb,.slice va vn vc,.int .i64 eb] 85)):=hBW.alloc hBW.size _
 have k1:=k67 (W.alloc (.cells #[.bool na,.slice ua un uc,.int .i64 ea,.bool nb,.slice va vn vc,.int .i64 eb] 85)) (w.heap.size+1+1+1) hB4 (by rw[←hsz];exact heap_alloc_new _ _)
 have HH:Hid (W.heap[w.heap.size+1+1]?=some (.cells #[.bool false,.slice none 0 0,.int .i64 0] 85 (0,0))∧W.heap.size=w.heap.size+1+1+1∧Bw w W∧Below W.heap.size W (W.alloc (.cells #[.bool na,.slice ua un uc,.int .i64 ea,.bool nb,.slice va vn vc,.int .i64 eb] 85))):=⟨hC,hsz,hBW,(Below.refl _ _).alloc (Nat.le_refl _) _⟩
 unfold NumV
 clear hA hBb hC hsz hBW hB4 k67
 go_enter Tryz.func124,Tryz.ntmps124
 go_wp2_with fail
 rw[←hW]
 clear hW
 refine k1.mono ?_
 rintro r w1 ⟨rfl,hB1⟩
 clear k1
 have hBW1:Bw W w1:=HH.out.2.2.2.trans (hB1.mono HH.out.2.2.2.size)
 have HC3:Hid (w1.heap[w.heap.size+1+1]?=some (.cells #[.bool false,.slice none 0 0,.int .i64 0] 85 (0,0))):=box_later HH.out.1 hBW1 (by have:=HH.out.2.1;omega)
 have HB1:Hid (Bw W w1):=hBW1
 obtain⟨⟨x1,x2,x3⟩,x4,x5,x6⟩:=box_cells HC3.out
 clear hB1 hBW1
 go_wp2
 refine bodyPost_ret (results_cell_tmp_row rfl _ _ (w.heap.size+1+1) 85 #[.bool false,.slice none 0 0,.int .i64 0] (0,0) _ rfl (store3 _ _ _ HC3.out) Tryz.underlying85 rfl Tryz.info85) rfl ?_
 obtain⟨b1,b2,b3,b4⟩:=HH.out
 exact⟨rfl,below_store3 (b3.trans (HB1.out.mono b3.size)) (by omega) _ _ _⟩
theorem shift_0 (na:Bool) (ua:Option Addr) (un uc:Nat) (ea k0:Int) (w:World) (k43:∀ W g,Bw w W→W.heap[g]?=some (.cells #[.bool na,.slice ua un uc,.int .i64 ea] 85 (0,0))→Calls Tryz.prog 116 #[.slice (some ⟨g,0,none⟩) 1 1] W fun r w'=>r=.returned (.bool false)∧Bw W w') :
  Calls Tryz.prog 84 #[.agg #[.bool na,.slice ua un uc,.int .i64 ea],.int .i64 k0] w fun r w'=>r=.returned (.tuple #[.agg #[.bool false,.slice none 0 0,.int .i64 0],.int .i64 1])∧Bw w w':=by
 obtain⟨W,hW⟩:∃ W,W=(w.alloc (.cells #[.bool na,.slice ua un uc,.int .i64 ea] 85)).alloc (.cells #[.bool false,.slice none 0 0,.int .i64 0] 85):=⟨_,rfl⟩
 have hBW:Bw w W:=by rw[hW];exact((Below.refl _ _).alloc (Nat.le_refl _) _).alloc (by simp) _
 have hbA:W.heap[w.heap.size]?=some (.cells #[.bool na,.slice ua un uc,.int .i64 ea] 85 (0,0)):=by
  rw[hW,Below.heap_alloc _ _ _ (by simp)];exact heap_alloc_new _ _
 have hbB:W.heap[w.heap.size+1]?=some (.cells #[.bool false,.slice none 0 0,.int .i64 0] 85 (0,0)):=by
  have:=heap_alloc_new (w.alloc (.cells #[.bool na,.slice ua un uc,.int .i64 ea] 85)) (.cells #[.bool false,.slice none 0 0,.int .i64 0] 85)
  rw[hW];simpa using this
 have hsz:W.heap.size=w.heap.size+1+1:=by rw[hW];simp
 have k1:=k43 (W.alloc (.cells #[.bool na,.slice ua un uc,.int .i64 ea] 85)) (w.heap.size+1+1) (hBW.alloc hBW.size _) (by rw[←hsz];exact heap_alloc_new _ _)
 have HX:Hid (Bw w W∧W.heap.size=w.heap.size+1+1∧W.heap[w.heap.size]?=some (.cells #[.bool na,.slice ua un uc,.int .i64 ea] 85 (0,0))∧W.heap[w.heap.size+1]?=some (.cells #[.bool false,.slice none 0 0,.int .i64 0] 85 (0,0))):=⟨hBW,hsz,hbA,hbB⟩
 clear hBW hsz hbA hbB k43
 go_enter Tryz.func84,Tryz.ntmps84
 go_wp2_with fail
 rw[←hW]
 clear hW
 refine k1.mono ?_
 rintro r w1 ⟨rfl,hb1⟩
 have HB1:Hid (Bw W w1):=((Below.refl W.heap.size W).alloc (Nat.le_refl _) _).trans (hb1.mono (by simp))
 have H3:Hid (w1.heap[w.heap.size]?=some (.cells #[.bool na,.slice ua un uc,.int .i64 ea] 85 (0,0))∧w1.heap[w.heap.size+1]?=some (.cells #[.bool false,.slice none 0 0,.int .i64 0] 85 (0,0))∧w.heap.size+1+1≤w1.heap.size∧Bw w w1):=⟨box_later HX.out.2.2.1 HB1.out (by have:=HX.out.2.1;omega),box_later HX.out.2.2.2 HB1.out (by have:=HX.out.2.1;omega),by have:=HB1.out.size;have:=HX.out.2.1;omega,HX.out.1.trans (HB1.out.mono HX.out.1.size)⟩
 clear k1 hb1
 obtain⟨⟨a0,a1,a2⟩,-⟩:=box_cells H3.out.1
 obtain⟨⟨x1,x2,x3⟩,x4,x5,x6⟩:=box_cells H3.out.2.1
 go_wp2
 refine bodyPost_ret (results_cell_tmp_row rfl _ _ (w.heap.size+1) 85 #[.bool false,.slice none 0 0,.int .i64 0] (0,0) _ rfl (store3 _ _ _ H3.out.2.1) Tryz.underlying85 rfl Tryz.info85) rfl ?_
 exact⟨rfl,below_store3 H3.out.2.2.2 (by omega) _ _ _⟩
theorem shift_1 (na:Bool) (ua:Option Addr) (uc:Nat) (ea k0:Int) (w:World) (k43:∀ W g,Bw w W→W.heap[g]?=some (.cells #[.bool na,.slice ua 0 uc,.int .i64 ea] 85 (0,0))→Calls Tryz.prog 116 #[.slice (some ⟨g,0,none⟩) 1 1] W fun r w'=>r=.returned (.bool true)∧Bw W w') :
  Calls Tryz.prog 84 #[.agg #[.bool na,.slice ua 0 uc,.int .i64 ea],.int .i64 k0] w fun r w'=>r=.returned (.tuple #[.agg #[.bool false,.slice none 0 0,.int .i64 0],.int .i64 0])∧Bw w w':=by
 obtain⟨W,hW⟩:∃ W,W=(w.alloc (.cells #[.bool na,.slice ua 0 uc,.int .i64 ea] 85)).alloc (.cells #[.bool false,.slice none 0 0,.int .i64 0] 85):=⟨_,rfl⟩
 have hBW:Bw w W:=by rw[hW];exact((Below.refl _ _).alloc (Nat.le_refl _) _).alloc (by simp) _
 have hbA:W.heap[w.heap.size]?=some (.cells #[.bool na,.slice ua 0 uc,.int .i64 ea] 85 (0,0)):=by
  rw[hW,Below.heap_alloc _ _ _ (by simp)];exact heap_alloc_new _ _
 have hbB:W.heap[w.heap.size+1]?=some (.cells #[.bool false,.slice none 0 0,.int .i64 0] 85 (0,0)):=by
  have:=heap_alloc_new (w.alloc (.cells #[.bool na,.slice ua 0 uc,.int .i64 ea] 85)) (.cells #[.bool false,.slice none 0 0,.int .i64 0] 85)
  rw[hW];simpa using this
 have hsz:W.heap.size=w.heap.size+1+1:=by rw[hW];simp
 have k1:=k43 (W.alloc (.cells #[.bool na,.slice ua 0 uc,.int .i64 ea] 85)) (w.heap.size+1+1) (hBW.alloc hBW.size _) (by rw[←hsz];exact heap_alloc_new _ _)
 have HX:Hid (Bw w W∧W.heap.size=w.heap.size+1+1∧W.heap[w.heap.size]?=some (.cells #[.bool na,.slice ua 0 uc,.int .i64 ea] 85 (0,0))∧W.heap[w.heap.size+1]?=some (.cells #[.bool false,.slice none 0 0,.int .i64 0] 85 (0,0))):=⟨hBW,hsz,hbA,hbB⟩
 clear hBW hsz hbA hbB k43
 go_enter Tryz.func84,Tryz.ntmps84
 go_wp2_with fail
 rw[←hW]
 clear hW
 refine k1.mono ?_
 rintro r w1 ⟨rfl,hb1⟩
 have HB1:Hid (Bw W w1):=((Below.refl W.heap.size W).alloc (Nat.le_refl _) _).trans (hb1.mono (by simp))
 have H3:Hid (w1.heap[w.heap.size]?=some (.cells #[.bool na,.slice ua 0 uc,.int .i64 ea] 85 (0,0))∧w1.heap[w.heap.size+1]?=some (.cells #[.bool false,.slice none 0 0,.int .i64 0] 85 (0,0))∧w.heap.size+1+1≤w1.heap.size∧Bw w w1):=⟨box_later HX.out.2.2.1 HB1.out (by have:=HX.out.2.1;omega),box_later HX.out.2.2.2 HB1.out (by have:=HX.out.2.1;omega),by have:=HB1.out.size;have:=HX.out.2.1;omega,HX.out.1.trans (HB1.out.mono HX.out.1.size)⟩
 clear k1 hb1
 obtain⟨⟨a0,a1,a2⟩,-⟩:=box_cells H3.out.1
 obtain⟨⟨x1,x2,x3⟩,x4,x5,x6⟩:=box_cells H3.out.2.1
 go_wp2
 refine bodyPost_ret (results_cell_tmp_row rfl _ _ (w.heap.size+1) 85 #[.bool false,.slice none 0 0,.int .i64 0] (0,0) _ rfl (store3 _ _ _ H3.out.2.1) Tryz.underlying85 rfl Tryz.info85) rfl ?_
 exact⟨rfl,below_store3 H3.out.2.2.2 (by omega) _ _ _⟩
theorem shift_2 (na:Bool) (ua:Option Addr) (un uc:Nat) (ea k0:Int) (w:World) (hn:un≤35184372088832) (hn0:((un:Int)==0)=false) (he1 : -65536≤ea) (he2:ea≤65536) (hk:k0 < -65536 - ea∨65536 - ea<k0) (k43:∀ W g,Bw w W→W.heap[g]?=some (.cells #[.bool na,.slice ua un uc,.int .i64 ea] 85 (0,0))→Calls Tryz.prog 116 #[.slice (some ⟨g,0,none⟩) 1 1] W fun r w'=>r=.returned (.bool true)∧Bw W w') :
  Calls Tryz.prog 84 #[.agg #[.bool na,.slice ua un uc,.int .i64 ea],.int .i64 k0] w fun r w'=>r=.returned (.tuple #[.agg #[.bool false,.slice none 0 0,.int .i64 0],.int .i64 2])∧Bw w w':=by
 obtain⟨W,hW⟩:∃ W,W=(w.alloc (.cells #[.bool na,.slice ua un uc,.int .i64 ea] 85)).alloc (.cells #[.bool false,.slice none 0 0,.int .i64 0] 85):=⟨_,rfl⟩
 have hBW:Bw w W:=by rw[hW];exact((Below.refl _ _).alloc (Nat.le_refl _) _).alloc (by simp) _
 have hbA:W.heap[w.heap.size]?=some (.cells #[.bool na,.slice ua un uc,.int .i64 ea] 85 (0,0)):=by
  rw[hW,Below.heap_alloc _ _ _ (by simp)];exact heap_alloc_new _ _
 have hbB:W.heap[w.heap.size+1]?=some (.cells #[.bool false,.slice none 0 0,.int .i64 0] 85 (0,0)):=by
  have:=heap_alloc_new (w.alloc (.cells #[.bool na,.slice ua un uc,.int .i64 ea] 85)) (.cells #[.bool false,.slice none 0 0,.int .i64 0] 85)
  rw[hW];simpa using this
 have hsz:W.heap.size=w.heap.size+1+1:=by rw[hW];simp
 have k1:=k43 (W.alloc (.cells #[.bool na,.slice ua un uc,.int .i64 ea] 85)) (w.heap.size+1+1) (hBW.alloc hBW.size _) (by rw[←hsz];exact heap_alloc_new _ _)
 have HX:Hid (Bw w W∧W.heap.size=w.heap.size+1+1∧W.heap[w.heap.size]?=some (.cells #[.bool na,.slice ua un uc,.int .i64 ea] 85 (0,0))∧W.heap[w.heap.size+1]?=some (.cells #[.bool false,.slice none 0 0,.int .i64 0] 85 (0,0))):=⟨hBW,hsz,hbA,hbB⟩
 clear hBW hsz hbA hbB k43
 go_enter Tryz.func84,Tryz.ntmps84
 go_wp2_with fail
 rw[←hW]
 clear hW
 refine k1.mono ?_
 rintro r w1 ⟨rfl,hb1⟩
 have HB1:Hid (Bw W w1):=((Below.refl W.heap.size W).alloc (Nat.le_refl _) _).trans (hb1.mono (by simp))
 have H3:Hid (w1.heap[w.heap.size]?=some (.cells #[.bool na,.slice ua un uc,.int .i64 ea] 85 (0,0))∧w1.heap[w.heap.size+1]?=some (.cells #[.bool false,.slice none 0 0,.int .i64 0] 85 (0,0))∧w.heap.size+1+1≤w1.heap.size∧Bw w w1):=⟨box_later HX.out.2.2.1 HB1.out (by have:=HX.out.2.1;omega),box_later HX.out.2.2.2 HB1.out (by have:=HX.out.2.1;omega),by have:=HB1.out.size;have:=HX.out.2.1;omega,HX.out.1.trans (HB1.out.mono HX.out.1.size)⟩
 clear k1 hb1
 obtain⟨⟨a0,a1,a2⟩,-⟩:=box_cells H3.out.1
 obtain⟨⟨x1,x2,x3⟩,x4,x5,x6⟩:=box_cells H3.out.2.1
 by_cases hk1:k0 < -65536 - ea
 ·clear hk
  go_wp2
  refine bodyPost_ret (results_cell_tmp_row rfl _ _ (w.heap.size+1) 85 #[.bool false,.slice none 0 0,.int .i64 0] (0,0) _ rfl (store3 _ _ _ H3.out.2.1) Tryz.underlying85 rfl Tryz.info85) rfl ?_
  exact⟨rfl,below_store3 H3.out.2.2.2 (by omega) _ _ _⟩
 ·have hk2:65536 - ea<k0:=by omega
  clear hk
  go_wp2
  refine bodyPost_ret (results_cell_tmp_row rfl _ _ (w.heap.size+1) 85 #[.bool false,.slice none 0 0,.int .i64 0] (0,0) _ rfl (store3 _ _ _ H3.out.2.1) Tryz.underlying85 rfl Tryz.info85) rfl ?_
  exact⟨rfl,below_store3 H3.out.2.2.2 (by omega) _ _ _⟩
theorem shift_3 (na:Bool) (ua:Option Addr) (un uc:Nat) (ea k0:Int) (w:World) (x:Nat) (h1:Is w (.slice ua un uc) x) (hx:dlen x≤1000000) (hn:un≤35184372088832) (hn0:((un:Int)==0)=false) (he1 : -65536≤ea) (he2:ea≤65536) (hk1:¬ k0 < -65536 - ea) (hk2:¬ 65536 - ea<k0) (k43:∀ W g,Bw w W→W.heap[g]?=some (.cells #[.bool na,.slice ua un uc,.int .i64 ea] 85 (0,0))→Calls Tryz.prog 116 #[.slice (some ⟨g,0,none⟩) 1 1] W fun r w'=>r=.returned (.bool true)∧Bw W w') :
  Calls Tryz.prog 84 #[.agg #[.bool na,.slice ua un uc,.int .i64 ea],.int .i64 k0] w fun r w'=>∃ v,r=.returned (.tuple #[.agg #[.bool na,v,.int .i64 (ea+k0)],.int .i64 0])∧Own w' w.heap.size v x∧Bw w w':=by
 obtain⟨W,hW⟩:∃ W,W=(w.alloc (.cells #[.bool na,.slice ua un uc,.int .i64 ea] 85)).alloc (.cells #[.bool false,.slice none 0 0,.int .i64 0] 85):=⟨_,rfl⟩
 have hBW:Bw w W:=by rw[hW];exact((Below.refl _ _).alloc (Nat.le_refl _) _).alloc (by simp) _
 have hbA:W.heap[w.heap.size]?=some (.cells #[.bool na,.slice ua un uc,.int .i64 ea] 85 (0,0)):=by
  rw[hW,Below.heap_alloc _ _ _ (by simp)];exact heap_alloc_new _ _
 have hbB:W.heap[w.heap.size+1]?=some (.cells #[.bool false,.slice none 0 0,.int .i64 0] 85 (0,0)):=by
  have:=heap_alloc_new (w.alloc (.cells #[.bool na,.slice ua un uc,.int .i64 ea] 85)) (.cells #[.bool false,.slice none 0 0,.int .i64 0] 85)
  rw[hW];simpa using this
 have hsz:W.heap.size=w.heap.size+1+1:=by rw[hW];simp
 have k1:=k43 (W.alloc (.cells #[.bool na,.slice ua un uc,.int .i64 ea] 85)) (w.heap.size+1+1) (hBW.alloc hBW.size _) (by rw[←hsz];exact heap_alloc_new _ _)
 have HX:Hid (Bw w W∧W.heap.size=w.heap.size+1+1∧W.heap[w.heap.size]?=some (.cells #[.bool na,.slice ua un uc,.int .i64 ea] 85 (0,0))∧W.heap[w.heap.size+1]?=some (.cells #[.bool false,.slice none 0 0,.int .i64 0] 85 (0,0))):=⟨hBW,hsz,hbA,hbB⟩
 have HI:Hid (Is w (.slice ua un uc) x∧dlen x≤1000000):=⟨h1,hx⟩
 clear h1 hx
 clear hBW hsz hbA hbB k43
 go_enter Tryz.func84,Tryz.ntmps84
 go_wp2_with fail
 rw[←hW]
 clear hW
 refine k1.mono ?_
 rintro r w1 ⟨rfl,hb1⟩
 have HB1:Hid (Bw W w1):=((Below.refl W.heap.size W).alloc (Nat.le_refl _) _).trans (hb1.mono (by simp))
 have H3:Hid (w1.heap[w.heap.size]?=some (.cells #[.bool na,.slice ua un uc,.int .i64 ea] 85 (0,0))∧w1.heap[w.heap.size+1]?=some (.cells #[.bool false,.slice none 0 0,.int .i64 0] 85 (0,0))∧w.heap.size+1+1≤w1.heap.size∧Bw w w1):=⟨box_later HX.out.2.2.1 HB1.out (by have:=HX.out.2.1;omega),box_later HX.out.2.2.2 HB1.out (by have:=HX.out.2.1;omega),by have:=HB1.out.size;have:=HX.out.2.1;omega,HX.out.1.trans (HB1.out.mono HX.out.1.size)⟩
 clear k1 hb1
 obtain⟨⟨a0,a1,a2⟩,-⟩:=box_cells H3.out.1
 obtain⟨⟨x1,x2,x3⟩,x4,x5,x6⟩:=box_cells H3.out.2.1
 have HK:Hid (∀ w',Below (w.heap.size+1) w1 w'→(w'.cell? ⟨w.heap.size,0,none⟩=some (.bool na)∧w'.cell? ⟨w.heap.size,1,none⟩=some (.slice ua un uc)∧w'.cell? ⟨w.heap.size,2,none⟩=some (.int .i64 ea))):=fun w' hb=>(box_cells (box_later H3.out.1 hb (by omega))).1
 have kC:∀ w4,Bw w1 w4→Calls Tryz.prog 119 #[.slice ua un uc] w4 fun r w'=>∃ ao n cap,r=.returned (.slice ao n cap)∧Own w' w1.heap.size (.slice ao n cap) x∧Bw w1 w':=fun w4 hb =>
  (clone_ok ((HI.out.1.later H3.out.2.2.2).later hb) (by have:=HI.out.2;omega)).mono fun r w' ⟨v,e1,o1,o2⟩=>by
   obtain⟨ao,cap,rfl,-,-,-⟩:=o1.is
   exact⟨_,_,_,e1,o1.mono hb.size,hb.trans (o2.mono hb.size)⟩
 have hBR:Bw w1 w1.drew:=(Below.refl _ _).drew
 have hBR1:Below (w.heap.size+1) w1 w1.drew:=(Below.refl _ _).drew
 have H1:Hid (w.heap.size+1≤w1.heap.size):=(by have:=H3.out.2.2.1;omega:w.heap.size+1≤w1.heap.size)
 have HZ:Hid (IntKind.i64.wrap (ea+k0)=ea+k0):=(by rw[IntKind.wrap_i64];omega:IntKind.i64.wrap (ea+k0)=ea+k0)
 go_upto_region 8 with fail
 clear x1 x2 x3 x4 x5 x6
 go_region_held3 (fun w'=>w'.cell? ⟨w.heap.size,0,none⟩=some (.bool na)∧w'.cell? ⟨w.heap.size,1,none⟩=some (.slice ua un uc)∧w'.cell? ⟨w.heap.size,2,none⟩=some (.int .i64 ea)) (first|(with_reducible assumption)|exact HK.out _ hBR1|(refine HK.out _ (Below.mono ?_ H1.out);with_reducible assumption)|(refine HK.out _ (below_store3 (Below.mono hb5 H1.out) (Nat.le_refl _) _ _ _))|go_keep)
  (first|(go_at_call 119;refine(kC _ (by first|(with_reducible assumption)|exact hBR)).mono ?_;rintro r w5 ⟨ao5,n5,cap5,rfl,ho5,hb5⟩;have hblk5:=box_later H3.out.2.1 hb5 (by have:=H3.out.2.2.1;omega);obtain⟨⟨x1,x2,x3⟩,x4,x5,x6⟩:=box_cells hblk5))
 all_goals (have HF:Hid (Bw w1 w5∧Own w5 w1.heap.size (.slice ao5 n5 cap5) x∧w5.heap[w.heap.size+1]?=some (.cells #[.bool false,.slice none 0 0,.int .i64 0] 85 (0,0))):=⟨hb5,ho5,hblk5⟩;clear ho5 hb5 hblk5 x1 x2 x3 x4 x5 x6 kC HK hBR hBR1 a0 a1 a2;(try rw[HZ.out]);go_wp2;refine bodyPost_ret (results_cell_tmp_row rfl _ _ (w.heap.size+1) 85 #[.bool na,.slice ao5 n5 cap5,.int .i64 (ea+k0)] (0,0) _ rfl (store3 _ _ _ HF.out.2.2) Tryz.underlying85 rfl Tryz.info85) rfl ?_;exact⟨_,rfl,(own_store3 HF.out.2.1 (by have:=H3.out.2.2.1;omega) _ _ _).mono (by have:=H3.out.2.2.1;omega),below_store3 (H3.out.2.2.2.trans (HF.out.1.mono H3.out.2.2.2.size)) (by omega) _ _ _⟩)
end Go.Proofs.YtclmbahhojdfcaaGreatDoor
namespace Go.Proofs.YtclmbahhojdfcaaGreatDoor
open Go.RowKit Go.Fl64
end Go.Proofs.YtclmbahhojdfcaaGreatDoor
namespace Go.Proofs.YtclmbahhojdfcaaGreatDoor
open Go.RowKit
end Go.Proofs.YtclmbahhojdfcaaGreatDoor
namespace Go.Proofs.YtclmbahhojdfcaaGreatDoor
open Go.RowKit Go.Fl64
end Go.Proofs.YtclmbahhojdfcaaGreatDoor
namespace Go.Proofs.YtclmbahhojdfcaaGreatDoor
open Go.RowKit
end Go.Proofs.YtclmbahhojdfcaaGreatDoor
namespace Go.Proofs.YtclmbahhojdfcaaGreatDoor
end Go.Proofs.YtclmbahhojdfcaaGreatDoor
namespace Go.Proofs.YtclmbahhojdfcaaGreatDoor
open Go.RowKit
end Go.Proofs.YtclmbahhojdfcaaGreatDoor
namespace Go.Proofs.YtclmbahhojdfcaaGreatDoor
end Go.Proofs.YtclmbahhojdfcaaGreatDoor
namespace Go.Proofs.YtclmbahhojdfcaaGreatDoor
open Go.RowKit
theorem cmp_eq {x y:Nat}:(cmpI (x:Int) (y:Int)==0)=decide (x=y):=by
 unfold cmpI
 by_cases h:x=y
 ·subst h;simp
 ·rw[decide_eq_false h]
  by_cases h2:(x:Int)<(y:Int)
  ·rw[if_pos h2];rfl
  ·rw[if_neg h2,if_pos (by omega)];rfl
theorem pratio_1 (na nb:Bool) (ua va:Option Addr) (un uc vn vc x y k bx by':Nat) (ea eb mode:Int) (sg:Bool) (w:World) (hsg:Hid ((!(na==nb))=sg)) (hT:Tab32 w) (h1:Is w (.slice ua un uc) x) (h2:Is w (.slice va vn vc) y) (hx:dlen x≤3000) (hy:dlen y≤3000) (hy0:y≠0) (he1 : -65536≤ea) (he2:ea≤65536) (he3 : -65536≤eb) (he4:eb≤65536) (hm:mode=1∨mode=2∨mode=3)
  (hbx:bl x=bx) (hby:bl y=by') (hbx2:bx≤96000) (hby2:by'≤96000) (hk:max 0 (64+(by':Int) - (bx:Int))=(k:Int)) (hk2:k≤100000) (hn0:((un:Int)==0)=false) (hn1:((vn:Int)==0)=false)
  (k67:∀ W g,Bw w W→W.heap[g]?=some (.cells #[.bool na,.slice ua un uc,.int .i64 ea,.bool nb,.slice va vn vc,.int .i64 eb] 85 (0,0))→Calls Tryz.prog 116 #[.slice (some ⟨g,0,none⟩) 2 2] W fun r w'=>r=.returned (.bool true)∧Bw W w') :
  Calls Tryz.prog 106 #[.agg #[.bool na,.slice ua un uc,.int .i64 ea],.agg #[.bool nb,.slice va vn vc,.int .i64 eb],.int .i64 mode] w fun r w'=>r=.returned (.tuple #[.float .f64 (tfF sg (decide (x*2^k % y=0)) (x*2^k / y) (ea - eb - k) mode),.int .i64 0])∧Bw w w':=by
 obtain⟨W,hW⟩:∃ W,W=(w.alloc (.cells #[.bool na,.slice ua un uc,.int .i64 ea] 85)).alloc (.cells #[.bool nb,.slice va vn vc,.int .i64 eb] 85):=⟨_,rfl⟩
 have hBW:Bw w W:=by rw[hW];exact((Below.refl _ _).alloc (Nat.le_refl _) _).alloc (by simp) _
 have hbA:W.heap[w.heap.size]?=some (.cells #[.bool na,.slice ua un uc,.int .i64 ea] 85 (0,0)):=by
  rw[hW,Below.heap_alloc _ _ _ (by simp)];exact heap_alloc_new _ _
 have hbB:W.heap[w.heap.size+1]?=some (.cells #[.bool nb,.slice va vn vc,.int .i64 eb] 85 (0,0)):=by
  have:=heap_alloc_new (w.alloc (.cells #[.bool na,.slice ua un uc,.int .i64 ea] 85)) (.cells #[.bool nb,.slice va vn vc,.int .i64 eb] 85)
  rw[hW];simpa using this
 have hsz:W.heap.size=w.heap.size+1+1:=by rw[hW];simp
 have k1:=k67 (W.alloc (.cells #[.bool na,.slice ua un uc,.int .i64 ea,.bool nb,.slice va vn vc,.int .i64 eb] 85)) (w.heap.size+1+1) (hBW.alloc hBW.size _) (by rw[←hsz];exact heap_alloc_new _ _)
 have HX:Hid (Bw w W∧W.heap.size=w.heap.size+1+1∧W.heap[w.heap.size]?=some (.cells #[.bool na,.slice ua un uc,.int .i64 ea] 85 (0,0))∧W.heap[w.heap.size+1]?=some (.cells #[.bool nb,.slice va vn vc,.int .i64 eb] 85 (0,0))):=⟨hBW,hsz,hbA,hbB⟩
 have HT:Hid (Tab32 w∧Is w (.slice ua un uc) x∧dlen x≤3000∧Is w (.slice va vn vc) y∧dlen y≤3000∧y≠0):=⟨hT,h1,hx,h2,hy,hy0⟩
 have k48:=fun W=>c48 mode hm W
 clear hBW hsz hbA hbB k67 hT h1 hx h2 hy hy0
 go_enter Tryz.func106,Tryz.ntmps106
 go_wp2_with fail
 rw[←hW]
 clear hW
 refine k1.mono ?_
 rintro r w1 ⟨rfl,hb1⟩
 have HB1:Hid (Bw W w1):=((Below.refl W.heap.size W).alloc (Nat.le_refl _) _).trans (hb1.mono (by simp))
 have HW1:Hid (Bw w w1):=HX.out.1.trans (HB1.out.mono HX.out.1.size)
 obtain⟨⟨a0,a1,a2⟩,-⟩:=box_cells (box_later HX.out.2.2.1 HB1.out (by have:=HX.out.2.1;omega))
 obtain⟨⟨b0,b1,b2⟩,-⟩:=box_cells (box_later HX.out.2.2.2 HB1.out (by have:=HX.out.2.1;omega))
 clear k1 hb1
 go_wp2_with fail
 refine(k48 w1).mono ?_
 rintro r w1' ⟨rfl,hw⟩
 replace hw:=hw.symm
 subst hw
 clear k48
 have kla:∀ d,Calls Tryz.prog 125 #[.slice ua un uc] (w1.drewN d) fun e w'=>e=.returned (.int .i64 (bx:Nat))∧w'=w1.drewN d:=fun d=>by
  have:=c74 (w:=w1.drewN d) (HT.out.2.1.later (HW1.out.trans ⟨rfl,rfl,rfl,Nat.le_refl _,fun _ _=>rfl⟩)) (by have:=HT.out.2.2;omega)
  rw[hbx] at this;exact this
 have klb:∀ d,Calls Tryz.prog 125 #[.slice va vn vc] (w1.drewN d) fun e w'=>e=.returned (.int .i64 (by':Nat))∧w'=w1.drewN d:=fun d=>by
  have:=c74 (w:=w1.drewN d) (HT.out.2.2.2.1.later (HW1.out.trans ⟨rfl,rfl,rfl,Nat.le_refl _,fun _ _=>rfl⟩)) (by have:=HT.out.2.2;omega)
  rw[hby] at this;exact this
 go_wp2
 go_quiet (first|(go_at_call 125;first|(with_reducible refine Calls.quiet_of_same (klb _))|(with_reducible refine Calls.quiet_of_same (kla _))))
 have HB2:Hid (Below W.heap.size W (w1.drewN nq)):=HB1.out.trans ⟨rfl,rfl,rfl,Nat.le_refl _,fun _ _=>rfl⟩
 obtain⟨w2,hw2⟩:∃ w2,w2=w1.drewN nq:=⟨_,rfl⟩
 rw[←hw2] at HB2 ⊢
 clear hw2 kla klb a0 a1 a2 b0 b1 b2
 have HK:Hid (∀ w',Bw w2 w'→((w'.cell? ⟨w.heap.size,0,none⟩=some (.bool na)∧w'.cell? ⟨w.heap.size,1,none⟩=some (.slice ua un uc)∧w'.cell? ⟨w.heap.size,2,none⟩=some (.int .i64 ea))∧(w'.cell? ⟨w.heap.size+1,0,none⟩=some (.bool nb)∧w'.cell? ⟨w.heap.size+1,1,none⟩=some (.slice va vn vc)∧w'.cell? ⟨w.heap.size+1,2,none⟩=some (.int .i64 eb)))):=fun w' hb=>⟨(box_cells (box_later HX.out.2.2.1 (HB2.out.trans (hb.mono HB2.out.size)) (by have:=HX.out.2.1;omega))).1,(box_cells (box_later HX.out.2.2.2 (HB2.out.trans (hb.mono HB2.out.size)) (by have:=HX.out.2.1;omega))).1⟩
 obtain⟨⟨a0,a1,a2⟩,b0,b1,b2⟩:=HK.out w2 (Below.refl _ _)
 have hBR:Bw w2 w2.drew:=(Below.refl _ _).drew
 have hl:dlen (x*2^k)≤7000:=by have:=shl_len (x:=x) (k:=k) rfl;have:=HT.out.2.2;omega
 have HL:Hid (dlen (x*2^k)≤7000):=hl
 have kS:∀ w',Bw w2 w'→Calls Tryz.prog 127 #[.slice ua un uc,.int .i64 (k:Int)] w' fun e w''=>∃ v,e=.returned v∧Hid (Is w'' v (x*2^k))∧Bw w2 w'':=fun w' hb=>(c109 (HT.out.2.1.later (HX.out.1.trans ((HB2.out.trans (hb.mono HB2.out.size)).mono HX.out.1.size))) k (by have:=HT.out.2.2;omega) (by omega)).mono fun r w'' ⟨v,e1,e2,e3⟩=>⟨v,e1,e2.is,hb.trans (e3.mono hb.size)⟩
 have kD:∀ v w',Hid (Is w' v (x*2^k))→Bw w2 w'→Calls Tryz.prog 126 #[v,.slice va vn vc] w' fun e w''=>∃ q,e=.returned (.tuple #[q,.bool (decide (x*2^k % y=0))])∧Hid (Is w'' q (x*2^k / y))∧Bw w2 w'':=fun v w' hI hb=>(c100 hI.out (HT.out.2.2.2.1.later (HX.out.1.trans ((HB2.out.trans (hb.mono HB2.out.size)).mono HX.out.1.size))) (by have:=HL.out;omega) (by have:=HT.out.2.2.2.2;omega) HT.out.2.2.2.2.2).mono fun r w'' ⟨q,e1,e2,e3⟩=>⟨q,e1,e2.is,hb.trans (e3.mono hb.size)⟩
 obtain⟨xb,hxb⟩:∃ xb:Bool,xb=decide (x*2^k % y=0):=⟨_,rfl⟩
 rw[←hxb] at kD
 have HXB:Hid (xb=decide (x*2^k % y=0)):=hxb
 clear hxb hl
 go_upto_region 8 with fail
 go_cut [9,10] from 42 to 50 (fun q b wx=>b=.bool xb∧Hid (Is wx q (x*2^k / y))∧Hid (Bw w2 wx))
 case first =>
  go_region_held3 (fun w'=>((w'.cell? ⟨w.heap.size,0,none⟩=some (.bool na)∧w'.cell? ⟨w.heap.size,1,none⟩=some (.slice ua un uc)∧w'.cell? ⟨w.heap.size,2,none⟩=some (.int .i64 ea))∧(w'.cell? ⟨w.heap.size+1,0,none⟩=some (.bool nb)∧w'.cell? ⟨w.heap.size+1,1,none⟩=some (.slice va vn vc)∧w'.cell? ⟨w.heap.size+1,2,none⟩=some (.int .i64 eb)))) (first|(with_reducible assumption)|exact⟨⟨a0,a1,a2⟩,b0,b1,b2⟩|(refine HK.out _ ?_;with_reducible assumption)|go_keep)
   (first|(go_at_call 127;refine(kS _ (by first|(with_reducible assumption)|exact hBR)).mono ?_;rintro r w5 ⟨v5,rfl,hI5,hb5⟩)|(go_at_call 126;refine(kD _ _ hI5 (by with_reducible assumption)).mono ?_;rintro r w6 ⟨v6,rfl,hI6,hb6⟩))
  all_goals go_wp2_with fail
  all_goals go_meet
  all_goals exact⟨rfl,hI6,hb6⟩
 case rest =>
  obtain⟨rfl,hI,hB⟩:=hcut
  obtain⟨w3,rfl⟩:∃ w3:World,w3=wc:=⟨_,rfl⟩
  have HB3:Hid (Bw W w3):=HB2.out.trans (hB.out.mono HB2.out.size)
  clear a0 a1 a2 b0 b1 b2 kS kD hBR
  obtain⟨⟨a0,a1,a2⟩,b0,b1,b2⟩:=HK.out w3 hB.out
  have kt:=c110 (neg:=sg) (exact:=xb) (e:=ea - eb - k) (mode:=mode) (HT.out.1.later (HX.out.1.trans (HB3.out.mono HX.out.1.size))) hI.out (Nat.le_trans (dlen_mono (Nat.div_le_self _ _)) (by have:=HL.out;omega)) (by omega) (by omega)
  go_wp2_with fail
  rw[hsg.out]
  refine kt.mono ?_
  rintro r w4 ⟨rfl,hb4⟩
  have HB4:Hid (Bw W w4):=HB3.out.trans (hb4.mono HB3.out.size)
  clear kt hb4
  go_wp2
  refine bodyPost_ret (results_tmp2 rfl _ _ _) rfl ?_
  exact⟨congrArg (fun b=>Ending.returned (Value.tuple #[.float .f64 (tfF sg b (x*2^k / y) (ea - eb - k) mode),.int .i64 0])) HXB.out,HX.out.1.trans (HB4.out.mono HX.out.1.size)⟩
end Go.Proofs.YtclmbahhojdfcaaGreatDoor
namespace Go.Proofs.YtclmbahhojdfcaaGreatDoor
structure IsR (x:Nat) (e:Int) (j X k:Nat):Prop where
 eq:∀ K:Nat,0≤e+K→0≤(j:Int) - 1074 - k+K→X*2^((j:Int) - 1074 - k+K).toNat=x*2^(e+K).toNat
 lt:X / 2^k<9007199254740992
 ge:j=0∨4503599627370496≤X / 2^k
end Go.Proofs.YtclmbahhojdfcaaGreatDoor
