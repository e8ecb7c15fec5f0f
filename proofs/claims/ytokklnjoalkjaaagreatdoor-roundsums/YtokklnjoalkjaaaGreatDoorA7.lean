/- Own work: contracts of the program's functions, part 7: Tab3 F2 FL1 SA2 SA1 SA4 SA5 RB1 RB2 RB3 R7 RB4 RB5 RB6 R8 RB7. -/
import Derived.Test.YtokklnjoalkjaaaGreatDoorA6
import Derived.Test.YtokklnjoalkjaaaGreatDoorA3
import Derived.Laws.FloatArith
import Derived.Laws.NewFold
import Derived.Test.YtokklnjoalkjaaaGreatDoorA4
import Derived.Test.YtokklnjoalkjaaaGreatDoorA1
import Derived.Laws.AppendOwnNone

set_option maxHeartbeats 16000000
set_option maxRecDepth 200000
set_option linter.unusedVariables false
set_option linter.unusedSimpArgs false
namespace Go.Proofs.YtokklnjoalkjaaaGreatDoor
open Go.RowKit Go.Fl64
theorem tabs2_of {W : World} (h : laidMet Tryz.prog [("math/bits.deBruijn32tab", Lib.tabData .u8 zs32), ("math/bits.deBruijn64tab", Lib.tabData .u8 zs64)] W) : Tab32 W ∧ Ie.Tab W :=
  ⟨tab32_of (Lib.tabIs_of_head g32 g32t Tryz.underlying130 Tryz.underlying5 cells5 cells130 h),
   tab64_of (Lib.tabIs_of_head g64 g64t Tryz.underlying128 Tryz.underlying5 cells5 cells114 (laid_tail h))⟩
def laidOn2 (w:World):World :=
 { w with heap:=(w.heap.modify 1 fun
   | .cells _ t frozen=>.cells #[.int .u8 0,.int .u8 1,.int .u8 56,.int .u8 2,.int .u8 57,.int .u8 49,.int .u8 28,.int .u8 3,.int .u8 61,.int .u8 58,.int .u8 42,.int .u8 50,.int .u8 38,.int .u8 29,.int .u8 17,.int .u8 4,.int .u8 62,.int .u8 47,.int .u8 59,.int .u8 36,.int .u8 45,.int .u8 43,.int .u8 51,.int .u8 22,.int .u8 53,.int .u8 39,.int .u8 33,.int .u8 30,.int .u8 24,.int .u8 18,.int .u8 12,.int .u8 5,.int .u8 63,.int .u8 55,.int .u8 48,.int .u8 27,.int .u8 60,.int .u8 41,.int .u8 37,.int .u8 16,.int .u8 46,.int .u8 35,.int .u8 44,.int .u8 21,.int .u8 52,.int .u8 32,.int .u8 23,.int .u8 11,.int .u8 54,.int .u8 26,.int .u8 40,.int .u8 15,.int .u8 34,.int .u8 20,.int .u8 31,.int .u8 10,.int .u8 25,.int .u8 14,.int .u8 19,.int .u8 9,.int .u8 13,.int .u8 8,.int .u8 7,.int .u8 6] t frozen
   | o=>o).modify 2 fun
   | .cells _ t frozen=>.cells #[.int .u8 0,.int .u8 1,.int .u8 28,.int .u8 2,.int .u8 29,.int .u8 14,.int .u8 24,.int .u8 3,.int .u8 30,.int .u8 22,.int .u8 20,.int .u8 15,.int .u8 25,.int .u8 17,.int .u8 4,.int .u8 8,.int .u8 31,.int .u8 27,.int .u8 13,.int .u8 23,.int .u8 21,.int .u8 19,.int .u8 16,.int .u8 7,.int .u8 26,.int .u8 12,.int .u8 18,.int .u8 6,.int .u8 11,.int .u8 5,.int .u8 10,.int .u8 9] t frozen
   | o=>o }
end Go.Proofs.YtokklnjoalkjaaaGreatDoor
/- A finite float and nought, added: the float; of noughts +0. -/
namespace Go.Fl64
theorem word_self (a:Nat) (h:a<18446744073709551616):Ieee.double.word (neg a) (mag a)=a:=by
 have hs:Ieee.double.signWeight=9223372036854775808:=by decide
 unfold Ieee.Format.word neg mag
 rw[hs]
 by_cases hn:9223372036854775808≤a
 ·rw[decide_eq_true hn,if_pos rfl];omega
 ·rw[decide_eq_false hn,if_neg (by decide)];omega
end Go.Fl64
/- Floats that are not finite, and what sums of them are; a float and itself, taken away. -/
namespace Go.Fl64
def fin (a:Nat):Bool:=decide (mag a<9218868437227405312)
def lk (F X:Nat):Prop:=F<18446744073709551616∧same F X=true
theorem lk.refl {F:Nat} (h:F<18446744073709551616):lk F F:=⟨h,same_self F⟩
theorem lk.nan {F X:Nat} (h:F<18446744073709551616) (h1:isNaN F=true) (h2:isNaN X=true):lk F X:=⟨h,by simp[same,h1,h2]⟩
def ngt (a:Nat):Nat:=if neg a then a - 9223372036854775808 else a+9223372036854775808
theorem ngt_lt {a:Nat} (h:a<18446744073709551616):ngt a<18446744073709551616:=by
 unfold ngt neg
 by_cases hn:9223372036854775808≤a
 ·rw[decide_eq_true hn,if_pos rfl];omega
 ·rw[decide_eq_false hn,if_neg (by decide)];omega
theorem ngt_mag {a:Nat} (h:a<18446744073709551616):mag (ngt a)=mag a:=by
 unfold ngt neg mag
 by_cases hn:9223372036854775808≤a
 ·rw[decide_eq_true hn,if_pos rfl];omega
 ·rw[decide_eq_false hn,if_neg (by decide)];omega
theorem xor_sign (a:Nat) (h:a<18446744073709551616):a ^^^ 9223372036854775808=ngt a:=by
 unfold ngt neg
 by_cases hn:9223372036854775808≤a
 ·rw[decide_eq_true hn,if_pos rfl]
  have e1:=Nat.two_pow_add_eq_or_of_lt (i:=63) (show a - 9223372036854775808<2^63 by omega) 1
  apply Nat.eq_of_testBit_eq
  intro i
  have e2:a=2^63*1+(a - 9223372036854775808):=by omega
  rw[Nat.testBit_xor,show(9223372036854775808:Nat)=2^63 from rfl,Nat.testBit_two_pow]
  rw[show(9223372036854775808:Nat)=2^63 from rfl] at e1 e2
  have e3:a.testBit i=(2^63 ||| (a - 2^63)).testBit i:=by
   rw[Nat.mul_one] at e1
   rw[←e1]
   congr 1
  rw[e3,Nat.testBit_or,Nat.testBit_two_pow]
  by_cases hi:63=i
  ·subst hi
   have:(a - 2^63).testBit 63=false:=Nat.testBit_lt_two_pow (by omega)
   rw[this]
   simp
  ·simp[hi]
 ·rw[decide_eq_false hn,if_neg (by decide)]
  have e1:=Nat.two_pow_add_eq_or_of_lt (i:=63) (show a<2^63 by omega) 1
  rw[Nat.mul_one] at e1
  rw[show(9223372036854775808:Nat)=2^63 from rfl,Nat.add_comm a,e1]
  apply Nat.eq_of_testBit_eq
  intro i
  rw[Nat.testBit_xor,Nat.testBit_or,Nat.testBit_two_pow]
  by_cases hi:63=i
  ·subst hi
   have:a.testBit 63=false:=Nat.testBit_lt_two_pow (by omega)
   rw[this]
   simp
  ·simp[hi]
theorem negF (a:Nat) (h:a<18446744073709551616):Op.negFloat .f64 a=ngt a:=by
 rw[←xor_sign a h]
 rfl
theorem sum_nan_left (d:Ieee.Datum) (s:Bool) (f:Nat):Ieee.Datum.sum (.nan s f) d=none:=by cases d <;> rfl
theorem sum_nan_right (d:Ieee.Datum) (s:Bool) (f:Nat):Ieee.Datum.sum d (.nan s f)=none:=by cases d <;> rfl
theorem cases3 (a:Nat):mag a<9218868437227405312∨mag a=9218868437227405312∨9218868437227405312<mag a:=by omega
theorem sub_fin {a:Nat} (h:a<18446744073709551616) (hf:mag a<9218868437227405312):FloatKind.f64.format.sub a a=some 0:=by
 rw[f64]
 obtain⟨m,k,e1,e2⟩:=read_number a h hf
 unfold Ieee.Format.sub
 rw[e1]
 simp only[Ieee.Datum.opposite,Ieee.Datum.sum,Option.map_some]
 congr 1
 have:Ieee.signed (neg a) m (-1074+(k:Int) - min (-1074+(k:Int)) (-1074+(k:Int))).toNat+Ieee.signed (!neg a) m (-1074+(k:Int) - min (-1074+(k:Int)) (-1074+(k:Int))).toNat=0:=by
  unfold Ieee.signed
  cases neg a <;> simp <;> omega
 rw[this]
 cases neg a <;> rfl
theorem sub_non {a:Nat} (h:a<18446744073709551616) (hf:9218868437227405312≤mag a):FloatKind.f64.format.sub a a=none:=by
 rw[f64]
 unfold Ieee.Format.sub
 rcases cases3 a with h1|h1|h1
 ·omega
 ·rw[read_infinity a h h1]
  simp only[Ieee.Datum.opposite,Ieee.Datum.sum]
  cases neg a <;> rfl
 ·obtain⟨s,f,e⟩:=read_nan a h1
  rw[e,sum_nan_left];rfl
def addX (a b:Nat):Nat :=
 if isNaN a||isNaN b then 9221120237041090560
 else if mag a=9218868437227405312 then(if mag b=9218868437227405312 then(if neg a=neg b then a else 9221120237041090560)else a)
 else b
theorem word_inf (a:Nat) (h:a<18446744073709551616) (hf:mag a=9218868437227405312):Ieee.double.write (.infinity (neg a))=a:=by
 have:=word_self a h
 rw[hf] at this
 exact this
theorem nan_x:isNaN 9221120237041090560=true:=by decide
theorem add_non {a b:Nat} (ha:a<18446744073709551616) (hb:b<18446744073709551616) (h:fin a=false∨fin b=false) :
  (FloatKind.f64.format.add a b=none∧isNaN (addX a b)=true)∨FloatKind.f64.format.add a b=some (addX a b):=by
 rw[f64]
 unfold Ieee.Format.add addX
 rcases cases3 a with h1|h1|h1
 ·rcases cases3 b with g1|g1|g1
  ·unfold fin at h;simp at h;omega
  ·obtain⟨m,k,e1,-⟩:=read_number a ha h1
   have n1:isNaN a=false:=by unfold isNaN;simp;omega
   have n2:isNaN b=false:=by unfold isNaN;simp;omega
   rw[e1,read_infinity b hb g1,n1,n2]
   refine .inr ?_
   rw[if_neg (by decide),if_neg (by omega)]
   simp only[Ieee.Datum.sum,Option.map_some,word_inf b hb g1]
  ·obtain⟨s,f,e⟩:=read_nan b g1
   have n2:isNaN b=true:=by unfold isNaN;simp;omega
   rw[e,n2,sum_nan_right]
   exact .inl ⟨rfl,by rw[Bool.or_true,if_pos rfl];exact nan_x⟩
 ·have n1:isNaN a=false:=by unfold isNaN;simp;omega
  rw[read_infinity a ha h1,n1,if_pos h1]
  rcases cases3 b with g1|g1|g1
  ·obtain⟨m,k,e1,-⟩:=read_number b hb g1
   have n2:isNaN b=false:=by unfold isNaN;simp;omega
   rw[e1,n2]
   refine .inr ?_
   rw[if_neg (by decide),if_neg (by omega)]
   simp only[Ieee.Datum.sum,Option.map_some,word_inf a ha h1]
  ·have n2:isNaN b=false:=by unfold isNaN;simp;omega
   rw[read_infinity b hb g1,n2,if_neg (by decide),if_pos g1]
   simp only[Ieee.Datum.sum]
   by_cases hs:neg a=neg b
   ·rw[if_pos hs,if_pos hs]
    refine .inr ?_
    simp only[Option.map_some,word_inf a ha h1]
   ·rw[if_neg hs,if_neg hs]
    exact .inl ⟨rfl,nan_x⟩
  ·obtain⟨s,f,e⟩:=read_nan b g1
   have n2:isNaN b=true:=by unfold isNaN;simp;omega
   rw[e,n2,sum_nan_right]
   exact .inl ⟨rfl,by rw[Bool.or_true,if_pos rfl];exact nan_x⟩
 ·obtain⟨s,f,e⟩:=read_nan a h1
  have n1:isNaN a=true:=by unfold isNaN;simp;omega
  rw[e,n1,sum_nan_left]
  exact .inl ⟨rfl,by rw[Bool.true_or,if_pos rfl];exact nan_x⟩
theorem run_nan {P:Program} (w:World) (op:BinOp) (t:TypeId) (x y:Nat) (hop:op=.add∨op=.sub∨op=.mul∨op=.quo) (h:floatBits op .f64 x y=none) :
  ∃ n,n<18446744073709551616∧isNaN n=true∧(binOp op t (.float .f64 x) (.float .f64 y)).run P w=.ok (.float .f64 n) w.drew:=by
 refine⟨(Question.nanBits .f64 x y).cut (w.tape w.drawn (.nanBits .f64 x y)),?_,?_,?_⟩
 ·simp only[Question.cut];omega
 ·unfold isNaN mag;apply decide_eq_true;simp only[Question.cut];generalize w.tape w.drawn _=u;have h2:=Nat.mod_lt (u / 2) (show 0<2^52 - 1 by decide);generalize u / 2 % (2^52 - 1)=v at *; rcases(show u % 2=0∨u % 2=1 by omega)with h3|h3 <;> rw[h3] <;> omega
 ·rcases hop with rfl|rfl|rfl|rfl
  all_goals simp only[floatBits] at h
  all_goals simp[binOp,Op.floatArith,h,Question.forced]
end Go.Fl64
namespace Go.Proofs.YtokklnjoalkjaaaGreatDoor
open Go.RowKit Go.Fl64
def OutA (W:World) (t:Bool×Nat×Int) (r:Ending) (w':World):Prop:=∃ s ao n cap e,r=.returned (.agg #[.bool s,.slice ao n cap,.int .i64 e])∧PN w' (.agg #[.bool s,.slice ao n cap,.int .i64 e]) t∧Bw W w'
theorem at_boxP {w:World} {ao:Option Addr} {n z g:Nat} {p q r:Value} (h:At w ao n z) (hg:w.heap[g]?=some (.cells #[p,q,r] 45 (0,0))) (hp:∀ k,p ≠ .int .u32 k) (hq:∀ k,q ≠ .int .u32 k) (hr:∀ k,r ≠ .int .u32 k) (a b c:Value):At (((w.setCell ⟨g,0,none⟩ a).setCell ⟨g,1,none⟩ b).setCell ⟨g,2,none⟩ c) ao n z:=by
 obtain⟨bb,o,h1,h2⟩:=h
 refine⟨bb,o,h1,fun i hi=>?_⟩
 by_cases hb:bb=g
 ·subst hb
  have:=h2 i hi
  simp only[World.cell?,hg] at this
  exfalso
  have hlt:o+i<3:=by
   rcases Nat.lt_or_ge (o+i) 3 with h|h
   ·exact h
   ·rw[Array.getElem?_eq_none (by simpa using h)] at this;simp at this
  rcases(show o+i=0∨o+i=1∨o+i=2 by omega)with h|h|h
  ·rw[h] at this;simp at this;exact hp _ this
  ·rw[h] at this;simp at this;exact hq _ this
  ·rw[h] at this;simp at this;exact hr _ this
 ·rw[World.cell?_setCell_other _ _ _ _ (by intro e;simp at e <;> omega),World.cell?_setCell_other _ _ _ _ (by intro e;simp at e <;> omega),World.cell?_setCell_other _ _ _ _ (by intro e;simp at e <;> omega)]
  exact h2 i hi
theorem pn_store {w:World} {A:Value} {t:Bool×Nat×Int} {g:Nat} (h:PN w A t) (hg:w.heap[g]?=some (.cells #[.bool false,.slice none 0 0,.int .i64 0] 45 (0,0))) (a b c:Value):PN (((w.setCell ⟨g,0,none⟩ a).setCell ⟨g,1,none⟩ b).setCell ⟨g,2,none⟩ c) A t:=by
 obtain⟨ao,cap,h1,ao',cap',e',h2,h3,h4⟩:=h
 exact⟨ao,cap,h1,ao',cap',e',h2,h3,at_boxP h4 hg (by simp) (by simp) (by simp) a b c⟩
theorem exact_1 (a:Nat) (t:Bool×Nat×Int) (w:World)
  (k:∀ W,Bw w W→Calls Tryz.prog 89 #[.float .f64 a] W fun r w'=>∃ s ao n cap e,r=.returned (.tuple #[.agg #[.bool s,.slice ao n cap,.int .i64 e],.int .i64 0])∧PN w' (.agg #[.bool s,.slice ao n cap,.int .i64 e]) t∧Bw W w') :
  Calls Tryz.prog 41 #[.float .f64 a] w fun r w'=>OutA w t r w':=by
 obtain⟨W,hW⟩:∃ W,W=w.alloc (.cells #[.bool false,.slice none 0 0,.int .i64 0] 45):=⟨_,rfl⟩
 have HX:Hid (Bw w W∧W.heap[w.heap.size]?=some (.cells #[.bool false,.slice none 0 0,.int .i64 0] 45 (0,0))):=⟨by rw[hW];exact(Below.refl _ _).alloc (Nat.le_refl _) _,by rw[hW];exact heap_alloc_new _ _⟩
 have k1:=k W HX.out.1
 clear k
 go_enter Tryz.func41,Tryz.ntmps41
 go_wp2_with fail
 rw[←hW]
 clear hW
 refine k1.mono ?_
 rintro r w1 ⟨s1,ao1,n1,cap1,ex1,rfl,hA,hb1⟩
 obtain⟨W1,hW1⟩:∃ W1,W1=w1.alloc (.cells #[.bool s1,.slice ao1 n1 cap1,.int .i64 ex1] 45):=⟨_,rfl⟩
 have hb2:Bw W W1:=by rw[hW1];exact hb1.alloc hb1.size _
 have HY:Hid (PN W1 (.agg #[.bool s1,.slice ao1 n1 cap1,.int .i64 ex1]) t∧Bw w W1∧W1.heap[w1.heap.size]?=some (.cells #[.bool s1,.slice ao1 n1 cap1,.int .i64 ex1] 45 (0,0))∧W1.heap[w.heap.size]?=some (.cells #[.bool false,.slice none 0 0,.int .i64 0] 45 (0,0))) :=
  ⟨by rw[hW1];exact hA.later ((Below.refl _ _).alloc (Nat.le_refl _) _),HX.out.1.trans (hb2.mono HX.out.1.size),by rw[hW1];exact heap_alloc_new _ _,box_later HX.out.2 hb2 (lt_of_box HX.out.2)⟩
 clear k1 hA hb1 hb2
 go_upto_region 2 with fail
 rw[←hW1]
 clear hW1
 generalize w1.heap.size=g1 at *
 obtain⟨⟨a0,a1,a2⟩,-⟩:=box_cells HY.out.2.2.1
 obtain⟨⟨x1,x2,x3⟩,x4,x5,x6⟩:=box_cells HY.out.2.2.2
 go_wp2
 refine bodyPost_ret (results_cell_row rfl _ _ w.heap.size 45 #[.bool s1,.slice ao1 n1 cap1,.int .i64 ex1] (0,0) _ rfl (store3 _ _ _ HY.out.2.2.2) Tryz.underlying45 rfl Tryz.info45) rfl ?_
 exact⟨_,_,_,_,_,rfl,pn_store HY.out.1 HY.out.2.2.2 _ _ _,below_store3 HY.out.2.1 (Nat.le_refl _) _ _ _⟩
-- GEN: one call of two numbers each, the error let go
theorem added_1 (na nb:Bool) (ua va:Option Addr) (un uc vn vc:Nat) (ea eb:Int) (t:Bool×Nat×Int) (w:World)
  (k:∀ W,Bw w W→Calls Tryz.prog 88 #[.agg #[.bool na,.slice ua un uc,.int .i64 ea],.agg #[.bool nb,.slice va vn vc,.int .i64 eb]] W fun r w'=>∃ s ao n cap e,r=.returned (.tuple #[.agg #[.bool s,.slice ao n cap,.int .i64 e],.int .i64 0])∧PN w' (.agg #[.bool s,.slice ao n cap,.int .i64 e]) t∧Bw W w') :
  Calls Tryz.prog 40 #[.agg #[.bool na,.slice ua un uc,.int .i64 ea],.agg #[.bool nb,.slice va vn vc,.int .i64 eb]] w fun r w'=>OutA w t r w':=by
 obtain⟨W,hW⟩:∃ W,W=((w.alloc (.cells #[.bool na,.slice ua un uc,.int .i64 ea] 45)).alloc (.cells #[.bool nb,.slice va vn vc,.int .i64 eb] 45)).alloc (.cells #[.bool false,.slice none 0 0,.int .i64 0] 45):=⟨_,rfl⟩
 obtain⟨hA,hB,hC,hsz,hBW⟩:=boxes3 _ _ _ hW
 obtain⟨⟨a0,a1,a2⟩,-⟩:=box_cells hA
 obtain⟨⟨b0,b1,b2⟩,-⟩:=box_cells hB
 have HX:Hid (Bw w W∧W.heap[w.heap.size+1+1]?=some (.cells #[.bool false,.slice none 0 0,.int .i64 0] 45 (0,0))):=⟨hBW,hC⟩
 have k1:=k W HX.out.1
 clear k hA hB hC hBW hsz
 rw[hW] at a0 a1 a2 b0 b1 b2
 go_enter Tryz.func40,Tryz.ntmps40
 go_wp2_with fail
 rw[←hW]
 clear hW a0 a1 a2 b0 b1 b2
 refine k1.mono ?_
 rintro r w1 ⟨s1,ao1,n1,cap1,ex1,rfl,hA,hb1⟩
 obtain⟨W1,hW1⟩:∃ W1,W1=w1.alloc (.cells #[.bool s1,.slice ao1 n1 cap1,.int .i64 ex1] 45):=⟨_,rfl⟩
 have hb2:Bw W W1:=by rw[hW1];exact hb1.alloc hb1.size _
 have HY:Hid (PN W1 (.agg #[.bool s1,.slice ao1 n1 cap1,.int .i64 ex1]) t∧Bw w W1∧W1.heap[w1.heap.size]?=some (.cells #[.bool s1,.slice ao1 n1 cap1,.int .i64 ex1] 45 (0,0))∧W1.heap[w.heap.size+1+1]?=some (.cells #[.bool false,.slice none 0 0,.int .i64 0] 45 (0,0))) :=
  ⟨by rw[hW1];exact hA.later ((Below.refl _ _).alloc (Nat.le_refl _) _),HX.out.1.trans (hb2.mono HX.out.1.size),by rw[hW1];exact heap_alloc_new _ _,box_later HX.out.2 hb2 (lt_of_box HX.out.2)⟩
 clear k1 hA hb1 hb2
 go_upto_region 2 with fail
 rw[←hW1]
 clear hW1
 generalize w1.heap.size=g1 at *
 obtain⟨⟨c0,c1,c2⟩,-⟩:=box_cells HY.out.2.2.1
 obtain⟨⟨x1,x2,x3⟩,x4,x5,x6⟩:=box_cells HY.out.2.2.2
 go_wp2
 refine bodyPost_ret (results_cell_row rfl _ _ (w.heap.size+1+1) 45 #[.bool s1,.slice ao1 n1 cap1,.int .i64 ex1] (0,0) _ rfl (store3 _ _ _ HY.out.2.2.2) Tryz.underlying45 rfl Tryz.info45) rfl ?_
 exact⟨_,_,_,_,_,rfl,pn_store HY.out.1 HY.out.2.2.2 _ _ _,below_store3 HY.out.2.1 (by omega) _ _ _⟩
theorem taken_1 (na nb:Bool) (ua va:Option Addr) (un uc vn vc:Nat) (ea eb:Int) (t:Bool×Nat×Int) (w:World)
  (k:∀ W,Bw w W→Calls Tryz.prog 155 #[.agg #[.bool na,.slice ua un uc,.int .i64 ea],.agg #[.bool nb,.slice va vn vc,.int .i64 eb]] W fun r w'=>∃ s ao n cap e,r=.returned (.tuple #[.agg #[.bool s,.slice ao n cap,.int .i64 e],.int .i64 0])∧PN w' (.agg #[.bool s,.slice ao n cap,.int .i64 e]) t∧Bw W w') :
  Calls Tryz.prog 116 #[.agg #[.bool na,.slice ua un uc,.int .i64 ea],.agg #[.bool nb,.slice va vn vc,.int .i64 eb]] w fun r w'=>OutA w t r w':=by
 obtain⟨W,hW⟩:∃ W,W=((w.alloc (.cells #[.bool na,.slice ua un uc,.int .i64 ea] 45)).alloc (.cells #[.bool nb,.slice va vn vc,.int .i64 eb] 45)).alloc (.cells #[.bool false,.slice none 0 0,.int .i64 0] 45):=⟨_,rfl⟩
 obtain⟨hA,hB,hC,hsz,hBW⟩:=boxes3 _ _ _ hW
 obtain⟨⟨a0,a1,a2⟩,-⟩:=box_cells hA
 obtain⟨⟨b0,b1,b2⟩,-⟩:=box_cells hB
 have HX:Hid (Bw w W∧W.heap[w.heap.size+1+1]?=some (.cells #[.bool false,.slice none 0 0,.int .i64 0] 45 (0,0))):=⟨hBW,hC⟩
 have k1:=k W HX.out.1
 clear k hA hB hC hBW hsz
 rw[hW] at a0 a1 a2 b0 b1 b2
 go_enter Tryz.func116,Tryz.ntmps116
 go_wp2_with fail
 rw[←hW]
 clear hW a0 a1 a2 b0 b1 b2
 refine k1.mono ?_
 rintro r w1 ⟨s1,ao1,n1,cap1,ex1,rfl,hA,hb1⟩
 obtain⟨W1,hW1⟩:∃ W1,W1=w1.alloc (.cells #[.bool s1,.slice ao1 n1 cap1,.int .i64 ex1] 45):=⟨_,rfl⟩
 have hb2:Bw W W1:=by rw[hW1];exact hb1.alloc hb1.size _
 have HY:Hid (PN W1 (.agg #[.bool s1,.slice ao1 n1 cap1,.int .i64 ex1]) t∧Bw w W1∧W1.heap[w1.heap.size]?=some (.cells #[.bool s1,.slice ao1 n1 cap1,.int .i64 ex1] 45 (0,0))∧W1.heap[w.heap.size+1+1]?=some (.cells #[.bool false,.slice none 0 0,.int .i64 0] 45 (0,0))) :=
  ⟨by rw[hW1];exact hA.later ((Below.refl _ _).alloc (Nat.le_refl _) _),HX.out.1.trans (hb2.mono HX.out.1.size),by rw[hW1];exact heap_alloc_new _ _,box_later HX.out.2 hb2 (lt_of_box HX.out.2)⟩
 clear k1 hA hb1 hb2
 go_upto_region 2 with fail
 rw[←hW1]
 clear hW1
 generalize w1.heap.size=g1 at *
 obtain⟨⟨c0,c1,c2⟩,-⟩:=box_cells HY.out.2.2.1
 obtain⟨⟨x1,x2,x3⟩,x4,x5,x6⟩:=box_cells HY.out.2.2.2
 go_wp2
 refine bodyPost_ret (results_cell_row rfl _ _ (w.heap.size+1+1) 45 #[.bool s1,.slice ao1 n1 cap1,.int .i64 ex1] (0,0) _ rfl (store3 _ _ _ HY.out.2.2.2) Tryz.underlying45 rfl Tryz.info45) rfl ?_
 exact⟨_,_,_,_,_,rfl,pn_store HY.out.1 HY.out.2.2.2 _ _ _,below_store3 HY.out.2.1 (by omega) _ _ _⟩
theorem multiplied_1 (na nb:Bool) (ua va:Option Addr) (un uc vn vc:Nat) (ea eb:Int) (t:Bool×Nat×Int) (w:World)
  (k:∀ W,Bw w W→Calls Tryz.prog 95 #[.agg #[.bool na,.slice ua un uc,.int .i64 ea],.agg #[.bool nb,.slice va vn vc,.int .i64 eb]] W fun r w'=>∃ s ao n cap e,r=.returned (.tuple #[.agg #[.bool s,.slice ao n cap,.int .i64 e],.int .i64 0])∧PN w' (.agg #[.bool s,.slice ao n cap,.int .i64 e]) t∧Bw W w') :
  Calls Tryz.prog 54 #[.agg #[.bool na,.slice ua un uc,.int .i64 ea],.agg #[.bool nb,.slice va vn vc,.int .i64 eb]] w fun r w'=>OutA w t r w':=by
 obtain⟨W,hW⟩:∃ W,W=((w.alloc (.cells #[.bool na,.slice ua un uc,.int .i64 ea] 45)).alloc (.cells #[.bool nb,.slice va vn vc,.int .i64 eb] 45)).alloc (.cells #[.bool false,.slice none 0 0,.int .i64 0] 45):=⟨_,rfl⟩
 obtain⟨hA,hB,hC,hsz,hBW⟩:=boxes3 _ _ _ hW
 obtain⟨⟨a0,a1,a2⟩,-⟩:=box_cells hA
 obtain⟨⟨b0,b1,b2⟩,-⟩:=box_cells hB
 have HX:Hid (Bw w W∧W.heap[w.heap.size+1+1]?=some (.cells #[.bool false,.slice none 0 0,.int .i64 0] 45 (0,0))):=⟨hBW,hC⟩
 have k1:=k W HX.out.1
 clear k hA hB hC hBW hsz
 rw[hW] at a0 a1 a2 b0 b1 b2
 go_enter Tryz.func54,Tryz.ntmps54
 go_wp2_with fail
 rw[←hW]
 clear hW a0 a1 a2 b0 b1 b2
 refine k1.mono ?_
 rintro r w1 ⟨s1,ao1,n1,cap1,ex1,rfl,hA,hb1⟩
 obtain⟨W1,hW1⟩:∃ W1,W1=w1.alloc (.cells #[.bool s1,.slice ao1 n1 cap1,.int .i64 ex1] 45):=⟨_,rfl⟩
 have hb2:Bw W W1:=by rw[hW1];exact hb1.alloc hb1.size _
 have HY:Hid (PN W1 (.agg #[.bool s1,.slice ao1 n1 cap1,.int .i64 ex1]) t∧Bw w W1∧W1.heap[w1.heap.size]?=some (.cells #[.bool s1,.slice ao1 n1 cap1,.int .i64 ex1] 45 (0,0))∧W1.heap[w.heap.size+1+1]?=some (.cells #[.bool false,.slice none 0 0,.int .i64 0] 45 (0,0))) :=
  ⟨by rw[hW1];exact hA.later ((Below.refl _ _).alloc (Nat.le_refl _) _),HX.out.1.trans (hb2.mono HX.out.1.size),by rw[hW1];exact heap_alloc_new _ _,box_later HX.out.2 hb2 (lt_of_box HX.out.2)⟩
 clear k1 hA hb1 hb2
 go_upto_region 2 with fail
 rw[←hW1]
 clear hW1
 generalize w1.heap.size=g1 at *
 obtain⟨⟨c0,c1,c2⟩,-⟩:=box_cells HY.out.2.2.1
 obtain⟨⟨x1,x2,x3⟩,x4,x5,x6⟩:=box_cells HY.out.2.2.2
 go_wp2
 refine bodyPost_ret (results_cell_row rfl _ _ (w.heap.size+1+1) 45 #[.bool s1,.slice ao1 n1 cap1,.int .i64 ex1] (0,0) _ rfl (store3 _ _ _ HY.out.2.2.2) Tryz.underlying45 rfl Tryz.info45) rfl ?_
 exact⟨_,_,_,_,_,rfl,pn_store HY.out.1 HY.out.2.2.2 _ _ _,below_store3 HY.out.2.1 (by omega) _ _ _⟩
theorem prounded_1 (na:Bool) (ua:Option Addr) (un uc F:Nat) (ea m:Int) (w:World)
  (k:∀ W,Bw w W→Calls Tryz.prog 93 #[.agg #[.bool na,.slice ua un uc,.int .i64 ea],.int .i64 m] W fun r w'=>r=.returned (.tuple #[.float .f64 F,.int .i64 0])∧Bw W w') :
  Calls Tryz.prog 45 #[.agg #[.bool na,.slice ua un uc,.int .i64 ea],.int .i64 m] w fun r w'=>r=.returned (.float .f64 F)∧Bw w w':=by
 obtain⟨W,hW⟩:∃ W,W=w.alloc (.cells #[.bool na,.slice ua un uc,.int .i64 ea] 45):=⟨_,rfl⟩
 have HX:Hid (Bw w W):=(by rw[hW];exact(Below.refl _ _).alloc (Nat.le_refl _) _:Bw w W)
 have hA:W.heap[w.heap.size]?=some (.cells #[.bool na,.slice ua un uc,.int .i64 ea] 45 (0,0)):=by rw[hW];exact heap_alloc_new _ _
 obtain⟨⟨a0,a1,a2⟩,-⟩:=box_cells hA
 have k1:=k W HX.out
 clear k hA
 rw[hW] at a0 a1 a2
 go_enter Tryz.func45,Tryz.ntmps45
 go_wp2_with fail
 rw[←hW]
 clear hW a0 a1 a2
 refine k1.mono ?_
 rintro r w1 ⟨rfl,hb1⟩
 have HY:Hid (Bw w w1):=HX.out.trans (hb1.mono HX.out.size)
 clear k1 hb1
 go_wp2
 go_ret
 exact⟨rfl,HY.out⟩
theorem pround {t:Bool×Nat×Int} {A:Value} {m:Int} {w:World} (hT:Tab32 w) (ok:Ok t) (h:PN w A t) (hm:1≤m∧m≤3) :
  Calls Tryz.prog 93 #[A,.int .i64 m] w fun r w'=>r=.returned (.tuple #[.float .f64 (tfF t.1 true t.2.1 t.2.2 m),.int .i64 0])∧Bw w w':=by
 obtain⟨pa,pc,rfl,i1⟩:=h
 obtain⟨f1,f2,f3,-,-⟩:=ok.facts
 refine c24_1 t.1 pa _ pc _ t.2.2 m w (fun W' g hW' hg=>?_) (fun W'=>c48 m (by omega) W') (fun W' hW'=>?_)
 ·have:=maybe1 hg (i1.later hW') (by omega)
  rw[show okN t.1 (dlen t.2.1) t.2.1 t.2.2=true from ok] at this
  exact this
 ·exact c106 (neg:=t.1) (e:=t.2.2) (mode:=m) (hT.later hW') (i1.later hW') (by omega) (by omega) (by omega)
theorem prounded {t:Bool×Nat×Int} {A:Value} {m:Int} {w:World} (hT:Tab32 w) (ok:Ok t) (h:PN w A t) (hm:1≤m∧m≤3) :
  Calls Tryz.prog 45 #[A,.int .i64 m] w fun r w'=>r=.returned (.float .f64 (tfF t.1 true t.2.1 t.2.2 m))∧Bw w w':=by
 obtain⟨s,ao,n,cap,e,rfl⟩:=h.shape
 exact prounded_1 s ao n cap _ e m w fun W hW=>pround (hT.later hW) ok (h.later hW) hm
theorem added_op {t1 t2 t3:Bool×Nat×Int} (h:Op2 88 t1 t2 t3) {X Y:Value} {w:World} (hT:Tab32 w) (h1:PN w X t1) (h2:PN w Y t2):Calls Tryz.prog 40 #[X,Y] w fun r w'=>OutA w t3 r w':=by
 obtain⟨s,ao,n,cap,e,rfl⟩:=h1.shape
 obtain⟨s',ao',n',cap',e',rfl⟩:=h2.shape
 exact added_1 s s' ao ao' n cap n' cap' e e' t3 w fun W hW=>h W _ _ (hT.later hW) (h1.later hW) (h2.later hW)
theorem taken_op {t1 t2 t3:Bool×Nat×Int} (h:Op2 155 t1 t2 t3) {X Y:Value} {w:World} (hT:Tab32 w) (h1:PN w X t1) (h2:PN w Y t2):Calls Tryz.prog 116 #[X,Y] w fun r w'=>OutA w t3 r w':=by
 obtain⟨s,ao,n,cap,e,rfl⟩:=h1.shape
 obtain⟨s',ao',n',cap',e',rfl⟩:=h2.shape
 exact taken_1 s s' ao ao' n cap n' cap' e e' t3 w fun W hW=>h W _ _ (hT.later hW) (h1.later hW) (h2.later hW)
theorem multiplied_op {t1 t2 t3:Bool×Nat×Int} (h:Op2 95 t1 t2 t3) {X Y:Value} {w:World} (hT:Tab32 w) (h1:PN w X t1) (h2:PN w Y t2):Calls Tryz.prog 54 #[X,Y] w fun r w'=>OutA w t3 r w':=by
 obtain⟨s,ao,n,cap,e,rfl⟩:=h1.shape
 obtain⟨s',ao',n',cap',e',rfl⟩:=h2.shape
 exact multiplied_1 s s' ao ao' n cap n' cap' e e' t3 w fun W hW=>h W _ _ (hT.later hW) (h1.later hW) (h2.later hW)
end Go.Proofs.YtokklnjoalkjaaaGreatDoor
/- The document's small functions on floats, call by call. -/
namespace Go.Proofs.YtokklnjoalkjaaaGreatDoor.Ie
open Go.RowKit Go.Fl64
theorem dbits (a:Nat) (w:World):Calls Tryz.prog 86 #[.float .f64 a] w fun e w'=>e=.returned (.int .u64 a)∧w'=w:=by
 have hb:=run_bits
 go_enter Tryz.func86,Tryz.ntmps86
 go_wp2
 go_ret
 exact⟨rfl,rfl⟩
theorem dof (a:Int) (w:World):Calls Tryz.prog 85 #[.int .u64 a] w fun e w'=>e=.returned (.float .f64 a.toNat)∧w'=w:=by
 have hb:=run_frombits
 go_enter Tryz.func85,Tryz.ntmps85
 go_wp2
 go_ret
 exact⟨rfl,rfl⟩
theorem dmag (a:Nat) (ha:a<18446744073709551616) (w:World) :
  Calls Tryz.prog 74 #[.float .f64 a] w fun e w'=>e=.returned (.int .u64 (mag a))∧w'=w:=by
 go_enter Tryz.func74,Tryz.ntmps74
 go_wp2_with (go_at_call 86;refine(dbits a _).mono ?_;rintro e w' ⟨rfl,rfl⟩)
 go_ret
 refine⟨?_,rfl⟩
 show Ending.returned (.int .u64 (bits .andNot .u64 a 9223372036854775808))=_
 rw[andNot_sign a ha]
def isInf (a:Nat):Bool:=((mag a:Int)==9218868437227405312)
theorem isInf_iff {a:Nat}:isInf a=true↔mag a=9218868437227405312:=by
 unfold isInf;simp;omega
theorem isInf_not {a:Nat}:isInf a=false↔mag a≠9218868437227405312:=by
 unfold isInf;simp;omega
theorem dnan (a:Nat) (ha:a<18446744073709551616) (w:World) :
  Calls Tryz.prog 46 #[.float .f64 a] w fun e w'=>e=.returned (.bool (isNaN a))∧w'=w:=by
 go_enter Tryz.func46,Tryz.ntmps46
 go_wp2_with (go_at_call 74;refine(dmag a ha _).mono ?_;rintro e w' ⟨rfl,rfl⟩)
 go_ret
 refine⟨?_,rfl⟩
 rw[←nan_int]
 rfl
theorem dinf (a:Nat) (ha:a<18446744073709551616) (w:World) :
  Calls Tryz.prog 48 #[.float .f64 a] w fun e w'=>e=.returned (.bool (isInf a))∧w'=w:=by
 go_enter Tryz.func48,Tryz.ntmps48
 go_wp2_with (go_at_call 74;refine(dmag a ha _).mono ?_;rintro e w' ⟨rfl,rfl⟩)
 go_ret
 exact⟨rfl,rfl⟩
theorem dneg (a:Nat) (ha:a<18446744073709551616) (w:World) :
  Calls Tryz.prog 49 #[.float .f64 a] w fun e w'=>e=.returned (.bool (neg a))∧w'=w:=by
 have hn:=neg_div a ha
 go_enter Tryz.func49,Tryz.ntmps49
 go_wp2_with (go_at_call 86;refine(dbits a _).mono ?_;rintro e w' ⟨rfl,rfl⟩)
 go_ret
 refine⟨?_,rfl⟩
 rw[←hn]
 rfl
theorem dnot (w:World):Calls Tryz.prog 47 #[] w fun e w'=>e=.returned (.float .f64 9221120237041090560)∧w'=w:=by
 go_enter Tryz.func47,Tryz.ntmps47
 go_wp2_with (go_at_call 85;refine(dof _ _).mono ?_;rintro e w' ⟨rfl,rfl⟩)
 go_ret
 exact⟨rfl,rfl⟩
theorem dnought (s:Bool) (w:World):Calls Tryz.prog 57 #[.bool s] w fun e w'=>e=.returned (.float .f64 (sig s 0))∧w'=w:=by
 cases s
 all_goals
  go_enter Tryz.func57,Tryz.ntmps57
  go_wp2_with (go_at_call 85;refine(dof _ _).mono ?_;rintro e w' ⟨rfl,rfl⟩)
  go_ret
  exact⟨rfl,rfl⟩
theorem xor_ngt (a:Nat) (h:a<18446744073709551616):bits .xor .u64 (a:Int) 9223372036854775808=(ngt a:Int):=by
 have e:=bits_xor_u64_nat a 9223372036854775808 h (by decide)
 rw[show((9223372036854775808:Nat):Int)=9223372036854775808 from rfl] at e
 rw[e,xor_sign a h]
theorem dturned (a:Nat) (ha:a<18446744073709551616) (w:World) :
  Calls Tryz.prog 36 #[.float .f64 a] w fun e w'=>e=.returned (.float .f64 (ngt a))∧w'=w:=by
 have hx:=xor_ngt a ha
 go_enter Tryz.func36,Tryz.ntmps36
 go_wp2_with (first|(go_at_call 86;refine(dbits a _).mono ?_;rintro e w' ⟨rfl,rfl⟩)|(go_at_call 85;refine(dof _ _).mono ?_;rintro e w' ⟨rfl,rfl⟩))
 go_ret
 exact⟨rfl,rfl⟩
theorem dsame (a b:Nat) (ha:a<18446744073709551616) (hb:b<18446744073709551616) (w:World) :
  Calls Tryz.prog 37 #[.float .f64 a,.float .f64 b] w fun e w'=>e=.returned (.bool (same a b))∧w'=w:=by
 have na:=dnan a ha
 have nb:=dnan b hb
 unfold same
 clear ha hb
 generalize isNaN a=x at na ⊢
 generalize isNaN b=y at nb ⊢
 have ba:=dbits a
 have bb:=dbits b
 generalize (a:Int)=ai at ba ⊢
 generalize (b:Int)=bi at bb ⊢
 cases h1:(ai==bi) <;> cases x
 all_goals
  go_enter Tryz.func37,Tryz.ntmps37
  go_wp2_with (first|(go_at_call 86;first|(refine(ba _).mono ?_;rintro e w' ⟨rfl,rfl⟩)|(refine(bb _).mono ?_;rintro e w' ⟨rfl,rfl⟩))|(go_at_call 46;first|(refine(na _).mono ?_;rintro e w' ⟨rfl,rfl⟩)|(refine(nb _).mono ?_;rintro e w' ⟨rfl,rfl⟩)))
  go_ret
  exact⟨rfl,rfl⟩
theorem lsame (a b:Nat) (ha:a<18446744073709551616) (hb:b<18446744073709551616) (w:World) :
  Calls Tryz.prog 9 #[.float .f64 a,.float .f64 b] w fun e w'=>e=.returned (.bool (same a b))∧w'=w:=by
 go_enter Tryz.func9,Tryz.ntmps9
 go_wp2_with (go_at_call 37;refine(dsame a b ha hb _).mono ?_;rintro e w' ⟨rfl,rfl⟩)
 go_ret
 exact⟨rfl,rfl⟩
end Go.Proofs.YtokklnjoalkjaaaGreatDoor.Ie
namespace Go.Proofs.YtokklnjoalkjaaaGreatDoor
open Go.RowKit Go.Fl64
def isM (m:Int):Bool:=(m==1)||(m==2)||(m==3)
theorem isM_iff {m:Int}:isM m=true↔(1≤m∧m≤3):=by
 unfold isM;simp only[Bool.or_eq_true,beq_iff_eq];omega
theorem pvalid (m:Int) (w:World):Calls Tryz.prog 14 #[.int .i64 m] w fun r w'=>r=.returned (.int .i64 (if isM m then 0 else 1))∧w'=w:=by
 unfold isM
 by_cases h1:m=1
 ·subst h1
  go_enter Tryz.func14,Tryz.ntmps14
  go_wp2
  go_ret
  exact⟨rfl,rfl⟩
 ·have e1:(m==1)=false:=by simpa using h1
  by_cases h2:m=2
  ·subst h2
   go_enter Tryz.func14,Tryz.ntmps14
   go_wp2
   go_ret
   exact⟨rfl,rfl⟩
  ·have e2:(m==2)=false:=by simpa using h2
   by_cases h3:m=3
   ·subst h3
    go_enter Tryz.func14,Tryz.ntmps14
    go_wp2
    go_ret
    exact⟨rfl,rfl⟩
   ·have e3:(m==3)=false:=by simpa using h3
    rw[show((m==1)||(m==2)||(m==3))=false by rw[e1,e2,e3];rfl]
    go_enter Tryz.func14,Tryz.ntmps14
    go_wp2
    go_ret
    exact⟨rfl,rfl⟩
theorem dvalid (m:Int) (w:World):Calls Tryz.prog 15 #[.int .i64 m] w fun r w'=>r=.returned (.int .i64 (if isM m then 0 else 1))∧w'=w:=by
 by_cases h1:m<1
 ·have e:isM m=false:=by cases h:isM m;rfl;have:=isM_iff.1 h;omega
  rw[e]
  go_enter Tryz.func15,Tryz.ntmps15
  go_wp2
  go_ret
  exact⟨rfl,rfl⟩
 ·by_cases h2:3<m
  ·have e:isM m=false:=by cases h:isM m;rfl;have:=isM_iff.1 h;omega
   rw[e]
   go_enter Tryz.func15,Tryz.ntmps15
   go_wp2
   go_ret
   exact⟨rfl,rfl⟩
  ·rw[isM_iff.2 (by omega)]
   go_enter Tryz.func15,Tryz.ntmps15
   go_wp2
   go_ret
   exact⟨rfl,rfl⟩
theorem eq_nought0:(FloatKind.f64.format.order 0 0==some Ordering.eq)=true:=by decide +kernel
theorem pfin_y (a:Nat) (ha:a<18446744073709551616) (hf:mag a<9218868437227405312) (w:World):Calls Tryz.prog 39 #[.float .f64 a] w fun r w'=>r=.returned (.bool true)∧w'=w:=by
 have hs:∀ w,(binOp .sub 22 (.float .f64 a) (.float .f64 a)).run Tryz.prog w=.ok (.float .f64 0) w:=fun w=>run_float_arith w .sub 22 .f64 a a _ (sub_fin ha hf)
 have he:=eq_nought0
 go_enter Tryz.func39,Tryz.ntmps39
 go_wp2
 go_ret
 exact⟨rfl,rfl⟩
theorem pfin_n (a:Nat) (ha:a<18446744073709551616) (hf:¬ mag a<9218868437227405312) (w:World):Calls Tryz.prog 39 #[.float .f64 a] w fun r w'=>r=.returned (.bool false)∧w'=w.drew:=by
 obtain⟨n,n1,n2,hs⟩:=run_nan (P:=Tryz.prog) w .sub 22 a a (by simp) (sub_non ha (by omega))
 have he:=ord_eq n 0 n1 (by decide)
 have hq:eq n 0=false:=by unfold Fl64.eq;rw[n2];rfl
 rw[hq] at he
 go_enter Tryz.func39,Tryz.ntmps39
 go_wp2
 go_ret
 exact⟨rfl,rfl⟩
def z0 (na nb:Bool) (m:Int):Bool:=if na=nb then na else(m==1)
theorem mk_nought {s:Bool} {m:Int} (hm:1≤m∧m≤3):Ie.mk s 0 0 m 9221120237041090561=sig s 0:=by
 unfold Ie.mk
 rw[if_pos (by omega),if_pos rfl]
theorem pnought (na nb:Bool) (m:Int) (hm:1≤m∧m≤3) (w:World):Calls Tryz.prog 43 #[.bool na,.bool nb,.int .i64 m] w fun r w'=>r=.returned (.float .f64 (sig (z0 na nb m) 0))∧w'=w:=by
 have k:∀ s W,Calls Tryz.prog 92 #[.bool s,.int .u64 0,.int .i64 0,.int .i64 m] W fun r w'=>r=.returned (.float .f64 (sig s 0))∧w'=W:=fun s W=>by
  have:=Ie.c24 s 0 0 m (by omega) W
  rw[mk_nought hm] at this
  exact this
 cases na <;> cases nb
 all_goals
  go_enter Tryz.func43,Tryz.ntmps43
  go_wp2_with (go_at_call 92;refine(k _ _).mono ?_;rintro e w' ⟨rfl,rfl⟩)
  go_ret
  exact⟨rfl,rfl⟩
theorem padd_no (a b:Nat) (m:Int) (w:World) (hm:isM m=false):Calls Tryz.prog 10 #[.float .f64 a,.float .f64 b,.int .i64 m] w fun r w'=>r=.returned (.float .f64 9221120237041090561)∧Bw w w':=by
 have kV:=pvalid m w
 rw[hm] at kV
 go_enter Tryz.func10,Tryz.ntmps10
 go_wp2_with fail
 refine kV.mono ?_
 rintro r w' ⟨rfl,hw⟩
 rw[hw]
 clear hw kV
 have kN:=Ie.c52 w
 go_wp2_with fail
 refine kN.mono ?_
 rintro r w' ⟨rfl,hw⟩
 rw[hw]
 clear hw kN
 go_wp2_with fail
 go_ret
 exact⟨rfl,Below.refl _ _⟩
theorem padd_a (a b F:Nat) (m:Int) (w:World) (hm:isM m=true) (hfa:∀ W,Calls Tryz.prog 39 #[.float .f64 a] W fun r w'=>r=.returned (.bool false)∧w'=W.drew)
  (h:(∀ W,(binOp .add 22 (.float .f64 a) (.float .f64 b)).run Tryz.prog W=.ok (.float .f64 F) W)∨∀ W,∃ n,lk n F∧(binOp .add 22 (.float .f64 a) (.float .f64 b)).run Tryz.prog W=.ok (.float .f64 n) W.drew) (hF:F<18446744073709551616) :
  Calls Tryz.prog 10 #[.float .f64 a,.float .f64 b,.int .i64 m] w fun r w'=>∃ n,r=.returned (.float .f64 n)∧lk n F∧Bw w w':=by
 have kV:=pvalid m w
 rw[hm] at kV
 have HB:Hid (Bw w w.drew):=(Below.refl _ _).drew
 have HB2:Hid (Bw w w.drew.drew):=(Below.refl _ _).drew.drew
 have HF:Hid (F<18446744073709551616):=hF
 clear hF
 rcases h with h|h
 ·go_enter Tryz.func10,Tryz.ntmps10
  go_wp2_with fail
  refine kV.mono ?_
  rintro r w' ⟨rfl,hw⟩
  rw[hw]
  clear hw kV
  have kN:=hfa w
  go_wp2_with fail
  refine kN.mono ?_
  rintro r w' ⟨rfl,hw⟩
  rw[hw]
  clear hw kN hfa
  go_wp2_with fail
  go_ret
  exact⟨_,rfl,lk.refl HF.out,HB.out⟩
 ·obtain⟨n,hn,hr⟩:=h w.drew
  have HN:Hid (lk n F):=hn
  clear hn h
  go_enter Tryz.func10,Tryz.ntmps10
  go_wp2_with fail
  refine kV.mono ?_
  rintro r w' ⟨rfl,hw⟩
  rw[hw]
  clear hw kV
  have kN:=hfa w
  go_wp2_with fail
  refine kN.mono ?_
  rintro r w' ⟨rfl,hw⟩
  rw[hw]
  clear hw kN hfa
  go_wp2_with fail
  go_ret
  exact⟨_,rfl,HN.out,HB2.out⟩
theorem padd_b (a b F:Nat) (m:Int) (w:World) (hm:isM m=true) (hfa:∀ W,Calls Tryz.prog 39 #[.float .f64 a] W fun r w'=>r=.returned (.bool true)∧w'=W) (hfb:∀ W,Calls Tryz.prog 39 #[.float .f64 b] W fun r w'=>r=.returned (.bool false)∧w'=W.drew)
  (h:(∀ W,(binOp .add 22 (.float .f64 a) (.float .f64 b)).run Tryz.prog W=.ok (.float .f64 F) W)∨∀ W,∃ n,lk n F∧(binOp .add 22 (.float .f64 a) (.float .f64 b)).run Tryz.prog W=.ok (.float .f64 n) W.drew) (hF:F<18446744073709551616) :
  Calls Tryz.prog 10 #[.float .f64 a,.float .f64 b,.int .i64 m] w fun r w'=>∃ n,r=.returned (.float .f64 n)∧lk n F∧Bw w w':=by
 have kV:=pvalid m w
 rw[hm] at kV
 have HB:Hid (Bw w w.drew):=(Below.refl _ _).drew
 have HB2:Hid (Bw w w.drew.drew):=(Below.refl _ _).drew.drew
 have HF:Hid (F<18446744073709551616):=hF
 clear hF
 rcases h with h|h
 ·go_enter Tryz.func10,Tryz.ntmps10
  go_wp2_with fail
  refine kV.mono ?_
  rintro r w' ⟨rfl,hw⟩
  rw[hw]
  clear hw kV
  have kN:=hfa w
  go_wp2_with fail
  refine kN.mono ?_
  rintro r w' ⟨rfl,hw⟩
  rw[hw]
  clear hw kN hfa
  have kN:=hfb w
  go_wp2_with fail
  refine kN.mono ?_
  rintro r w' ⟨rfl,hw⟩
  rw[hw]
  clear hw kN hfb
  go_wp2_with fail
  go_ret
  exact⟨_,rfl,lk.refl HF.out,HB.out⟩
 ·obtain⟨n,hn,hr⟩:=h w.drew
  have HN:Hid (lk n F):=hn
  clear hn h
  go_enter Tryz.func10,Tryz.ntmps10
  go_wp2_with fail
  refine kV.mono ?_
  rintro r w' ⟨rfl,hw⟩
  rw[hw]
  clear hw kV
  have kN:=hfa w
  go_wp2_with fail
  refine kN.mono ?_
  rintro r w' ⟨rfl,hw⟩
  rw[hw]
  clear hw kN hfa
  have kN:=hfb w
  go_wp2_with fail
  refine kN.mono ?_
  rintro r w' ⟨rfl,hw⟩
  rw[hw]
  clear hw kN hfb
  go_wp2_with fail
  go_ret
  exact⟨_,rfl,HN.out,HB2.out⟩
theorem padd_z (a b F:Nat) (m sg:Int) (ta tb t3:Bool×Nat×Int) (w:World) (hm:isM m=true) (ha:a<18446744073709551616) (hb:b<18446744073709551616)
  (hfa:∀ W,Calls Tryz.prog 39 #[.float .f64 a] W fun r w'=>r=.returned (.bool true)∧w'=W)
  (hfb:∀ W,Calls Tryz.prog 39 #[.float .f64 b] W fun r w'=>r=.returned (.bool true)∧w'=W)
  (kA:Calls Tryz.prog 41 #[.float .f64 a] w fun r w'=>OutA w ta r w')
  (kB:∀ W,Bw w W→Calls Tryz.prog 41 #[.float .f64 b] W fun r w'=>OutA W tb r w')
  (kC:∀ W X Y,Bw w W→PN W X ta→PN W Y tb→Calls Tryz.prog 40 #[X,Y] W fun r w'=>OutA W t3 r w')
  (kS:∀ W X,PN W X t3→Calls Tryz.prog 42 #[X] W fun r w'=>r=.returned (.int .i64 sg)∧Bw W w')
  (hs:(sg==0)=true) (kZ:∀ W,Calls Tryz.prog 43 #[.bool (neg a),.bool (neg b),.int .i64 m] W fun r w'=>r=.returned (.float .f64 F)∧w'=W) :
  Calls Tryz.prog 10 #[.float .f64 a,.float .f64 b,.int .i64 m] w fun r w'=>r=.returned (.float .f64 F)∧Bw w w':=by
 have kV:=pvalid m w
 rw[hm] at kV
 have HAB:Hid (a<18446744073709551616∧b<18446744073709551616):=⟨ha,hb⟩
 have HKB:Hid _:=kB
 have HKC:Hid _:=kC
 have HKS:Hid _:=kS
 clear ha hb kB kC kS
 go_enter Tryz.func10,Tryz.ntmps10
 go_wp2_with fail
 refine kV.mono ?_
 rintro r w' ⟨rfl,hw⟩
 rw[hw]
 clear hw kV
 have kN:=hfa w
 go_wp2_with fail
 refine kN.mono ?_
 rintro r w' ⟨rfl,hw⟩
 rw[hw]
 clear hw kN hfa
 have kN:=hfb w
 go_wp2_with fail
 refine kN.mono ?_
 rintro r w' ⟨rfl,hw⟩
 rw[hw]
 clear hw kN hfb
 go_wp2_with fail
 refine kA.mono ?_
 rintro r w1 ⟨s1,ao1,n1,cap1,ex1,rfl,hP1,hb1⟩
 have k2:=HKB.out w1 hb1
 clear kA
 go_wp2_with fail
 refine k2.mono ?_
 rintro r w2 ⟨s2,ao2,n2,cap2,ex2,rfl,hP2,hb2⟩
 have HB2:Hid (Bw w w2):=hb1.trans (hb2.mono hb1.size)
 have k3:=HKC.out w2 _ _ HB2.out (hP1.later hb2) hP2
 clear k2 hP1 hP2 hb1 hb2
 go_wp2_with fail
 refine k3.mono ?_
 rintro r w3 ⟨s3,ao3,n3,cap3,ex3,rfl,hP3,hb3⟩
 clear k3
 obtain⟨W3,hW3⟩:∃ W3,W3=w3.alloc (.cells #[.bool s3,.slice ao3 n3 cap3,.int .i64 ex3] 45):=⟨_,rfl⟩
 have HX:Hid (PN W3 (.agg #[.bool s3,.slice ao3 n3 cap3,.int .i64 ex3]) t3∧Bw w W3∧W3.heap[w3.heap.size]?=some (.cells #[.bool s3,.slice ao3 n3 cap3,.int .i64 ex3] 45 (0,0))) :=
  ⟨by rw[hW3];exact hP3.later ((Below.refl _ _).alloc (Nat.le_refl _) _),by rw[hW3];exact HB2.out.trans ((hb3.alloc hb3.size _).mono HB2.out.size),by rw[hW3];exact heap_alloc_new _ _⟩
 clear hP3 hb3
 go_upto_region 6 with fail
 rw[←hW3]
 clear hW3
 generalize w3.heap.size=g3 at *
 obtain⟨⟨a0,a1,a2⟩,-⟩:=box_cells HX.out.2.2
 have k4:=HKS.out W3 _ HX.out.1
 go_wp2_with fail
 refine k4.mono ?_
 rintro r w5 ⟨rfl,hb5⟩
 have HB5:Hid (Bw w w5):=HX.out.2.1.trans (hb5.mono HX.out.2.1.size)
 have HP5:Hid (PN w5 (.agg #[.bool s3,.slice ao3 n3 cap3,.int .i64 ex3]) t3):=HX.out.1.later hb5
 obtain⟨⟨a0,a1,a2⟩,-⟩:=box_cells (box_later HX.out.2.2 hb5 (lt_of_box HX.out.2.2))
 clear k4 hb5
 have kz:=kZ w5
 have sa:=Ie.c33 a HAB.out.1 w5
 have sb:=Ie.c33 b HAB.out.2 w5
 clear kZ a0 a1 a2
 go_wp2_with fail
 refine sa.mono ?_
 rintro r w6 ⟨rfl,hw⟩
 rw[hw]
 clear hw sa
 go_wp2_with fail
 refine sb.mono ?_
 rintro r w6 ⟨rfl,hw⟩
 rw[hw]
 clear hw sb
 go_wp2_with fail
 refine kz.mono ?_
 rintro r w6 ⟨rfl,hw⟩
 rw[hw]
 clear hw kz
 go_wp2_with fail
 go_ret
 exact⟨rfl,HB5.out⟩
theorem padd_r (a b F:Nat) (m sg:Int) (ta tb t3:Bool×Nat×Int) (w:World) (hm:isM m=true) (ha:a<18446744073709551616) (hb:b<18446744073709551616)
  (hfa:∀ W,Calls Tryz.prog 39 #[.float .f64 a] W fun r w'=>r=.returned (.bool true)∧w'=W)
  (hfb:∀ W,Calls Tryz.prog 39 #[.float .f64 b] W fun r w'=>r=.returned (.bool true)∧w'=W)
  (kA:Calls Tryz.prog 41 #[.float .f64 a] w fun r w'=>OutA w ta r w')
  (kB:∀ W,Bw w W→Calls Tryz.prog 41 #[.float .f64 b] W fun r w'=>OutA W tb r w')
  (kC:∀ W X Y,Bw w W→PN W X ta→PN W Y tb→Calls Tryz.prog 40 #[X,Y] W fun r w'=>OutA W t3 r w')
  (kS:∀ W X,PN W X t3→Calls Tryz.prog 42 #[X] W fun r w'=>r=.returned (.int .i64 sg)∧Bw W w')
  (hs:(sg==0)=false) (kR:∀ W X,Bw w W→PN W X t3→Calls Tryz.prog 45 #[X,.int .i64 m] W fun r w'=>r=.returned (.float .f64 F)∧Bw W w') :
  Calls Tryz.prog 10 #[.float .f64 a,.float .f64 b,.int .i64 m] w fun r w'=>r=.returned (.float .f64 F)∧Bw w w':=by
 have kV:=pvalid m w
 rw[hm] at kV
 have HAB:Hid (a<18446744073709551616∧b<18446744073709551616):=⟨ha,hb⟩
 have HKB:Hid _:=kB
 have HKC:Hid _:=kC
 have HKS:Hid _:=kS
 clear ha hb kB kC kS
 have HR:Hid _:=kR
 clear kR
 go_enter Tryz.func10,Tryz.ntmps10
 go_wp2_with fail
 refine kV.mono ?_
 rintro r w' ⟨rfl,hw⟩
 rw[hw]
 clear hw kV
 have kN:=hfa w
 go_wp2_with fail
 refine kN.mono ?_
 rintro r w' ⟨rfl,hw⟩
 rw[hw]
 clear hw kN hfa
 have kN:=hfb w
 go_wp2_with fail
 refine kN.mono ?_
 rintro r w' ⟨rfl,hw⟩
 rw[hw]
 clear hw kN hfb
 go_wp2_with fail
 refine kA.mono ?_
 rintro r w1 ⟨s1,ao1,n1,cap1,ex1,rfl,hP1,hb1⟩
 have k2:=HKB.out w1 hb1
 clear kA
 go_wp2_with fail
 refine k2.mono ?_
 rintro r w2 ⟨s2,ao2,n2,cap2,ex2,rfl,hP2,hb2⟩
 have HB2:Hid (Bw w w2):=hb1.trans (hb2.mono hb1.size)
 have k3:=HKC.out w2 _ _ HB2.out (hP1.later hb2) hP2
 clear k2 hP1 hP2 hb1 hb2
 go_wp2_with fail
 refine k3.mono ?_
 rintro r w3 ⟨s3,ao3,n3,cap3,ex3,rfl,hP3,hb3⟩
 clear k3
 obtain⟨W3,hW3⟩:∃ W3,W3=w3.alloc (.cells #[.bool s3,.slice ao3 n3 cap3,.int .i64 ex3] 45):=⟨_,rfl⟩
 have HX:Hid (PN W3 (.agg #[.bool s3,.slice ao3 n3 cap3,.int .i64 ex3]) t3∧Bw w W3∧W3.heap[w3.heap.size]?=some (.cells #[.bool s3,.slice ao3 n3 cap3,.int .i64 ex3] 45 (0,0))) :=
  ⟨by rw[hW3];exact hP3.later ((Below.refl _ _).alloc (Nat.le_refl _) _),by rw[hW3];exact HB2.out.trans ((hb3.alloc hb3.size _).mono HB2.out.size),by rw[hW3];exact heap_alloc_new _ _⟩
 clear hP3 hb3
 go_upto_region 6 with fail
 rw[←hW3]
 clear hW3
 generalize w3.heap.size=g3 at *
 obtain⟨⟨a0,a1,a2⟩,-⟩:=box_cells HX.out.2.2
 have k4:=HKS.out W3 _ HX.out.1
 go_wp2_with fail
 refine k4.mono ?_
 rintro r w5 ⟨rfl,hb5⟩
 have HB5:Hid (Bw w w5):=HX.out.2.1.trans (hb5.mono HX.out.2.1.size)
 have HP5:Hid (PN w5 (.agg #[.bool s3,.slice ao3 n3 cap3,.int .i64 ex3]) t3):=HX.out.1.later hb5
 obtain⟨⟨a0,a1,a2⟩,-⟩:=box_cells (box_later HX.out.2.2 hb5 (lt_of_box HX.out.2.2))
 clear k4 hb5
 have kr:=HR.out w5 _ HB5.out HP5.out
 go_wp2_with fail
 refine kr.mono ?_
 rintro r w6 ⟨rfl,hb6⟩
 have HB6:Hid (Bw w w6):=HB5.out.trans (hb6.mono HB5.out.size)
 clear kr hb6 a0 a1 a2
 go_wp2_with fail
 go_ret
 exact⟨rfl,HB6.out⟩
end Go.Proofs.YtokklnjoalkjaaaGreatDoor
namespace Go.Proofs.YtokklnjoalkjaaaGreatDoor
open Go.RowKit
def Ir (w:World) (v:Value) (x:Nat):Prop:=∃ ao cap,v=.slice ao (dlen x) cap∧dlen x≤cap∧At w ao (dlen x) x
theorem Ir.later {w w':World} {v:Value} {x:Nat} (h:Ir w v x) (hb:Bw w w'):Ir w' v x:=by
 obtain⟨ao,cap,h1,h2,h3⟩:=h
 exact⟨ao,cap,h1,h2,h3.later hb⟩
theorem Ir.nil (w:World) (ao:Option Addr) (cap:Nat):Ir w (.slice ao 0 cap) 0:=⟨ao,cap,by rw[dlen_zero],by rw[dlen_zero];omega,0,0,fun h=>by rw[dlen_zero] at h;omega,fun i hi=>by rw[dlen_zero] at hi;omega⟩
theorem rord_1 (ao bo:Option Addr) (na nb ca cb:Nat) (w:World) (h:na≠nb) (hna:na≤1000000000) (hnb:nb≤1000000000) :
  Calls Tryz.prog 82 #[.slice ao na ca,.slice bo nb cb] w fun e w'=>e=.returned (.int .i64 (cmpI na nb))∧w'=w:=by
 have h'':((na:Int) != (nb:Int))=true:=by simp;omega
 unfold cmpI
 by_cases hlt:(na:Int)<(nb:Int)
 ·rw[if_pos hlt]
  go_enter Tryz.func82,Tryz.ntmps82
  go_wp2
  go_ret
  exact⟨rfl,rfl⟩
 ·rw[if_neg hlt,if_pos (by omega)]
  go_enter Tryz.func82,Tryz.ntmps82
  go_wp2
  go_ret
  exact⟨rfl,rfl⟩
theorem rord_2 (ao bo:Option Addr) (ba oa bb ob n ca cb x y:Nat) (w:World) (ha:0<n→ao=some ⟨ba,oa,none⟩) (hb:0<n→bo=some ⟨bb,ob,none⟩) (hn:n≤1000000000) (hx:dlen x=n) (hy:dlen y=n)
  (hca:∀ i,i<n→w.cell? ⟨ba,oa+i,none⟩=some (.int .u32 (dg x i:Nat))) (hcb:∀ i,i<n→w.cell? ⟨bb,ob+i,none⟩=some (.int .u32 (dg y i:Nat))) :
  Calls Tryz.prog 82 #[.slice ao n ca,.slice bo n cb] w fun e w'=>e=.returned (.int .i64 (cmpI x y))∧∃ d,w'=w.drewN d:=by
 have h'':((n:Int) != (n:Int))=false:=by simp
 have HXY:Hid (dlen x=n∧dlen y=n):=⟨hx,hy⟩
 clear hx hy
 go_enter Tryz.func82,Tryz.ntmps82
 go_wp2
 go_loopw [5] (fun i wr=>∃ (j d:Nat),j≤n∧i=.int .i64 ((j:Int) - 1)∧wr=w.drewN d∧Hid (x / B^j=y / B^j)) (fun i _=>(intOf i+1).toNat)
 case atStart=>exact⟨n,0,Nat.le_refl _,rfl,rfl,(by rw[Nat.div_eq_of_lt ((dlen_le n x).1 (by rw[HXY.out.1];omega)),Nat.div_eq_of_lt ((dlen_le n y).1 (by rw[HXY.out.2];omega))]:x / B^n=y / B^n)⟩
 case round =>
  obtain⟨j,d,hj,rfl,rfl,hh⟩:=hrel
  by_cases hj0:j=0
  ·subst hj0
   have e:x=y:=by have:=hh.out;simpa using this
   have HE:Hid (cmpI x y=0):=(by subst e;unfold cmpI;simp:cmpI x y=0)
   clear hh e hca hcb
   go_wp2
   go_ret
   rw[HE.out]
   exact⟨rfl,d,rfl⟩
  ·obtain⟨i,rfl⟩:∃ i,j=i+1:=⟨j - 1,by omega⟩
   have hi:i<n:=by omega
   obtain rfl:=ha (by omega)
   obtain rfl:=hb (by omega)
   have g1:(w.drewN d).cell? ⟨ba,oa+i,none⟩=some (.int .u32 (dg x i:Nat)):=hca i hi
   have g2:(w.drewN d).cell? ⟨bb,ob+i,none⟩=some (.int .u32 (dg y i:Nat)):=hcb i hi
   have hii:(i:Int)<(n:Int):=by omega
   have ei:((i+1:Nat):Int) - 1=(i:Int):=by omega
   rw[ei]
   generalize hdx:dg x i=dx at *
   generalize hdy:dg y i=dy at *
   have HD:Hid (dg x i=dx∧dg y i=dy):=⟨hdx,hdy⟩
   clear hca hcb hdx hdy ei
   have HW:Hid (∃ d',w.drewN d=w.drewN d'):=⟨d,rfl⟩
   generalize w.drewN d=wd at *
   by_cases hne:dx=dy
   ·subst hne
    have t1:((dx:Int) != (dx:Int))=false:=by simp
    go_wp2
    go_quiet (fail)
    go_wp2
    obtain⟨d',rfl⟩:=HW.out
    exact⟨⟨i,_,by omega,rfl,World.drewN_drewN ..,(top_step hh.out (HD.out.1.trans HD.out.2.symm):x / B^i=y / B^i)⟩,by simp[intOf]⟩
   ·have t1:((dx:Int) != (dy:Int))=true:=by simp;omega
    by_cases hlt:dx<dy
    ·have t2:(dx:Int)<(dy:Int):=by omega
     have HC:Hid (cmpI x y = -1):=by
      have h1:=HD.out
      have:=lt_of_top (i:=i) hh.out (by omega)
      show cmpI x y = -1
      unfold cmpI
      rw[if_pos (by omega)]
     go_wp2
     go_quiet (fail)
     go_wp2
     have HV:Hid (∃ d',wd.drewN nq=w.drewN d'):=by
      obtain⟨d',e⟩:=HW.out
      exact⟨_,by rw[e];exact World.drewN_drewN ..⟩
     have g1':(wd.drewN nq).cell? ⟨ba,oa+i,none⟩=some (.int .u32 (dx:Nat)):=g1
     have g2':(wd.drewN nq).cell? ⟨bb,ob+i,none⟩=some (.int .u32 (dy:Nat)):=g2
     generalize wd.drewN nq=wq at *
     go_quiet (fail)
     go_wp2
     go_ret
     obtain⟨d',e⟩:=HV.out
     rw[HC.out,e]
     exact⟨rfl,_,World.drewN_drewN ..⟩
    ·have t2:¬ (dx:Int)<(dy:Int):=by omega
     have HC:Hid (cmpI x y=1):=by
      have h1:=HD.out
      have:=lt_of_top (i:=i) hh.out.symm (by omega)
      show cmpI x y=1
      unfold cmpI
      rw[if_neg (by omega),if_pos (by omega)]
     go_wp2
     go_quiet (fail)
     go_wp2
     have HV:Hid (∃ d',wd.drewN nq=w.drewN d'):=by
      obtain⟨d',e⟩:=HW.out
      exact⟨_,by rw[e];exact World.drewN_drewN ..⟩
     have g1':(wd.drewN nq).cell? ⟨ba,oa+i,none⟩=some (.int .u32 (dx:Nat)):=g1
     have g2':(wd.drewN nq).cell? ⟨bb,ob+i,none⟩=some (.int .u32 (dy:Nat)):=g2
     generalize wd.drewN nq=wq at *
     go_quiet (fail)
     go_wp2
     go_ret
     obtain⟨d',e⟩:=HV.out
     rw[HC.out,e]
     exact⟨rfl,_,World.drewN_drewN ..⟩
theorem rord {u v:Value} {x y:Nat} {w:World} (h1:Ir w u x) (h2:Ir w v y) (hx:dlen x≤1000000000) (hy:dlen y≤1000000000) :
  Calls Tryz.prog 82 #[u,v] w fun e w'=>e=.returned (.int .i64 (cmpI x y))∧∃ d,w'=w.drewN d:=by
 obtain⟨ao,ca,rfl,a1,ba,oa,a3,a4⟩:=h1
 obtain⟨bo,cb,rfl,b1,bb,ob,b3,b4⟩:=h2
 by_cases h:dlen x=dlen y
 ·rw[←h] at b3 b4 ⊢
  exact rord_2 ao bo ba oa bb ob _ ca cb x y w a3 b3 hx rfl h.symm a4 b4
 ·refine(rord_1 ao bo _ _ ca cb w h hx hy).mono ?_
  rintro e w' ⟨rfl,rfl⟩
  refine⟨congrArg Ending.returned (congrArg (Value.int IntKind.i64) ?_),0,rfl⟩
  unfold cmpI
  rcases Nat.lt_or_gt_of_ne h with h2|h2
  ·have:=lt_of_dlen h2
   rw[if_pos (by omega),if_pos (by omega)]
  ·have:=lt_of_dlen h2
   rw[if_neg (by omega),if_pos (by omega),if_neg (by omega),if_pos (by omega)]
theorem row_step {w wr w':World} {j z:Nat} {q:Int} {v v':Value} (hq:q=(dg z j:Nat)) (hB:Bw w wr) (ho:wr.ownsRow w.heap.size 68 1 v j (cells z j))
  (ho':w'.ownsRow w.heap.size 68 1 v' (j+1) (cells z j ++ [.int .u32 q])) (hg:(wr.alloc (.cells #[.int .u32 q] 68)).grownBy w' v.ownBlock) :
  w'.ownsRow w.heap.size 68 1 v' (j+1) (cells z (j+1))∧Bw w w' :=
 ⟨by rw[cells_succ,←hq];exact ho',(hB.alloc hB.size _).grown hg (by simp;have:=hB.size;omega) (fun k hk=>(ho.lt k hk).1)⟩
theorem addc_top {x y n:Nat} (hx:x<B^n) (hy:y<B^n):addc x y n=(x+y) / B^n:=by
 unfold addc
 rw[Nat.mod_eq_of_lt hx,Nat.mod_eq_of_lt hy]
theorem rsum_1 (ao bo:Option Addr) (ba oa bb ob na nb ca cb x y N:Nat) (w:World) (ha:0<na→ao=some ⟨ba,oa,none⟩) (hb:0<nb→bo=some ⟨bb,ob,none⟩) (hN:N=max na nb) (hNb:N≤1000000000) (hx:dlen x=na) (hy:dlen y=nb)
  (hca:∀ i,i<na→w.cell? ⟨ba,oa+i,none⟩=some (.int .u32 (dg x i:Nat))) (hcb:∀ i,i<nb→w.cell? ⟨bb,ob+i,none⟩=some (.int .u32 (dg y i:Nat))) :
  Calls Tryz.prog 81 #[.slice ao na ca,.slice bo nb cb] w fun e w'=>∃ v,e=.returned v∧Ir w' v (x+y)∧Bw w w':=by
 have HXY:Hid (dlen x=na∧dlen y=nb∧N=max na nb):=⟨hx,hy,hN⟩
 have HCA:Hid (∀ i,i<na→w.cell? ⟨ba,oa+i,none⟩=some (.int .u32 (dg x i:Nat))):=hca
 have HCB:Hid (∀ i,i<nb→w.cell? ⟨bb,ob+i,none⟩=some (.int .u32 (dg y i:Nat))):=hcb
 have hNa:na≤N:=by omega
 have hNb2:nb≤N:=by omega
 clear hx hy hca hcb hN
 go_enter Tryz.func81,Tryz.ntmps81
 go_wp2
 go_loopw [5,6,7] (fun v c i wr=>∃ j:Nat,j≤N∧c=.int .u64 (addc x y j:Nat)∧i=.int .i64 j∧wr.ownsRow w.heap.size 68 1 v j (cells (x+y) j)∧Bw w wr) (fun _ _ i _=>N - (intOf i).toNat)
 case atStart=>exact⟨0,Nat.zero_le _,by rw[addc_zero];rfl,rfl,World.ownsRow_nil ..,Below.refl _ _⟩
 case round =>
  obtain⟨j,hj,rfl,rfl,ho,hB⟩:=hrel
  have HO:Hid (wr.ownsRow w.heap.size 68 1 u5 j (cells (x+y) j)):=ho
  have HB:Hid (Bw w wr):=hB
  have hbs:w.heap.size≤wr.heap.size:=hB.size
  have HL:Hid (dg x j<B∧dg y j<B∧addc x y j≤1):=⟨dg_lt _ _,dg_lt _ _,addc_le _ _ _⟩
  by_cases hjN:j<N
  ·-- what comes to the carry, from both
   have hkey:∀ (dx dy c Q:Nat),dg x j=dx→dg y j=dy→addc x y j=c→Q=c+dx+dy→((Q:Int) % 4294967296=(dg (x+y) j:Nat))∧((Q:Int) / 4294967296=(addc x y (j+1):Nat)):=by
    rintro dx dy c Q rfl rfl rfl rfl
    rw[dg_add,addc_succ]
    unfold B
    omega
   have HKY:Hid (∀ (dx dy c Q:Nat),dg x j=dx→dg y j=dy→addc x y j=c→Q=c+dx+dy→((Q:Int) % 4294967296=(dg (x+y) j:Nat))∧((Q:Int) / 4294967296=(addc x y (j+1):Nat))):=hkey
   obtain⟨i0,hi0,hz0,hz1,hz2⟩:=info_parts Tryz.info68
   have e64:∀ q:Int,0≤q→q<18446744073709551616→IntKind.u64.wrap q=q:=fun q h1 h2=>by rw[IntKind.wrap_u64];omega
   by_cases hja:j<na
   ·obtain rfl:=ha (by omega)
    have g1:=(hB.cell (World.block_lt_of_cell? _ _ (HCA.out j hja))).trans (HCA.out j hja)
    have hji:(j:Int)<(na:Int):=by omega
    by_cases hjb:j<nb
    ·obtain rfl:=hb (by omega)
     have g4:=(hB.cell (World.block_lt_of_cell? _ _ (HCB.out j hjb))).trans (HCB.out j hjb)
     have hji2:(j:Int)<(nb:Int):=by omega
     generalize hd:dg x j=d at *
     generalize hd1:dg y j=d1 at *
     generalize hc:addc x y j=c at *
     obtain⟨K,hK⟩:∃ K:Nat,K=c+d:=⟨_,rfl⟩
     obtain⟨Q,hQ⟩:∃ Q:Nat,Q=c+d+d1:=⟨_,rfl⟩
     have w1:IntKind.u64.wrap (d:Int)=(d:Int):=wrap_d HL.out.1
     have w2:IntKind.u64.wrap (d1:Int)=(d1:Int):=wrap_d HL.out.2.1
     have hl:=HL.out
     unfold B at hl
     have w3:IntKind.u64.wrap ((c:Int)+(d:Int))=(K:Int):=by rw[e64 _ (by omega) (by omega)];omega
     have w4:IntKind.u64.wrap ((K:Int)+(d1:Int))=(Q:Int):=by rw[e64 _ (by omega) (by omega)];omega
     have HD:Hid ((Q:Int) % 4294967296=(dg (x+y) j:Nat)∧(Q:Int) / 4294967296=(addc x y (j+1):Nat)):=HKY.out d d1 c Q rfl rfl rfl hQ
     clear hd hd1 hc hB hl hkey e64 hK hQ
     go_wp2_with (at_builtin;refine wpList_append_own _ rfl _ _ 37 rfl w.heap.size 68 i0 (.int .u32 0) 1 4 Tryz.underlying37 hi0 hz0 hz1 hz2 rfl (by decide) _ _ _ rfl (ho.alloc _) ⟨wr.heap.size,0,none⟩ 1 1 [.int .u32 ((Q:Int) % 4294967296)] rfl rfl (cell_one_new _ _ _) (by intro u hu;simp at hu;subst hu;rfl) (by unfold maxLen;omega) (by omega) (by simp;omega) ?_)
     intro v' w5 hown5 hgrow _
     obtain⟨r1,r2⟩:=row_step HD.out.1 HB.out HO.out hown5 hgrow
     have HR:Hid (w5.ownsRow w.heap.size 68 1 v' (j+1) (cells (x+y) (j+1))∧Bw w w5):=⟨r1,r2⟩
     clear hown5 hgrow r1 r2 ho
     go_wp2
     exact⟨⟨j+1,by omega,by rw[HD.out.2],by simp,HR.out⟩,by simp[intOf];omega⟩
    ·have hji2:¬ (j:Int)<(nb:Int):=by omega
     have hd1:dg y j=0:=dg_past (by rw[HXY.out.2.1];omega)
     generalize hd:dg x j=d at *
     generalize hc:addc x y j=c at *
     obtain⟨Q,hQ⟩:∃ Q:Nat,Q=c+d+0:=⟨_,rfl⟩
     have w1:IntKind.u64.wrap (d:Int)=(d:Int):=wrap_d HL.out.1
     have hl:=HL.out
     unfold B at hl
     have w3:IntKind.u64.wrap ((c:Int)+(d:Int))=(Q:Int):=by rw[e64 _ (by omega) (by omega)];omega
     have HD:Hid ((Q:Int) % 4294967296=(dg (x+y) j:Nat)∧(Q:Int) / 4294967296=(addc x y (j+1):Nat)):=HKY.out d 0 c Q rfl hd1 rfl hQ
     clear hd hd1 hc hB hl hkey e64 hQ
     go_wp2_with (at_builtin;refine wpList_append_own _ rfl _ _ 37 rfl w.heap.size 68 i0 (.int .u32 0) 1 4 Tryz.underlying37 hi0 hz0 hz1 hz2 rfl (by decide) _ _ _ rfl (ho.alloc _) ⟨wr.heap.size,0,none⟩ 1 1 [.int .u32 ((Q:Int) % 4294967296)] rfl rfl (cell_one_new _ _ _) (by intro u hu;simp at hu;subst hu;rfl) (by unfold maxLen;omega) (by omega) (by simp;omega) ?_)
     intro v' w5 hown5 hgrow _
     obtain⟨r1,r2⟩:=row_step HD.out.1 HB.out HO.out hown5 hgrow
     have HR:Hid (w5.ownsRow w.heap.size 68 1 v' (j+1) (cells (x+y) (j+1))∧Bw w w5):=⟨r1,r2⟩
     clear hown5 hgrow r1 r2 ho
     go_wp2
     exact⟨⟨j+1,by omega,by rw[HD.out.2],by simp,HR.out⟩,by simp[intOf];omega⟩
   ·have hji:¬ (j:Int)<(na:Int):=by omega
    have hjb:j<nb:=by have:=HXY.out.2.2;omega
    obtain rfl:=hb (by omega)
    have g4:=(hB.cell (World.block_lt_of_cell? _ _ (HCB.out j hjb))).trans (HCB.out j hjb)
    have hji2:(j:Int)<(nb:Int):=by omega
    have hd:dg x j=0:=dg_past (by rw[HXY.out.1];omega)
    generalize hd1:dg y j=d1 at *
    generalize hc:addc x y j=c at *
    obtain⟨Q,hQ⟩:∃ Q:Nat,Q=c+0+d1:=⟨_,rfl⟩
    have w2:IntKind.u64.wrap (d1:Int)=(d1:Int):=wrap_d HL.out.2.1
    have hl:=HL.out
    unfold B at hl
    have w4:IntKind.u64.wrap ((c:Int)+(d1:Int))=(Q:Int):=by rw[e64 _ (by omega) (by omega)];omega
    have HD:Hid ((Q:Int) % 4294967296=(dg (x+y) j:Nat)∧(Q:Int) / 4294967296=(addc x y (j+1):Nat)):=HKY.out 0 d1 c Q hd rfl rfl hQ
    clear hd hd1 hc hB hl hkey e64 hQ
    go_wp2_with (at_builtin;refine wpList_append_own _ rfl _ _ 37 rfl w.heap.size 68 i0 (.int .u32 0) 1 4 Tryz.underlying37 hi0 hz0 hz1 hz2 rfl (by decide) _ _ _ rfl (ho.alloc _) ⟨wr.heap.size,0,none⟩ 1 1 [.int .u32 ((Q:Int) % 4294967296)] rfl rfl (cell_one_new _ _ _) (by intro u hu;simp at hu;subst hu;rfl) (by unfold maxLen;omega) (by omega) (by simp;omega) ?_)
    intro v' w5 hown5 hgrow _
    obtain⟨r1,r2⟩:=row_step HD.out.1 HB.out HO.out hown5 hgrow
    have HR:Hid (w5.ownsRow w.heap.size 68 1 v' (j+1) (cells (x+y) (j+1))∧Bw w w5):=⟨r1,r2⟩
    clear hown5 hgrow r1 r2 ho
    go_wp2
    exact⟨⟨j+1,by omega,by rw[HD.out.2],by simp,HR.out⟩,by simp[intOf];omega⟩
  ·obtain rfl:j=N:=by omega
   have hjna:¬ (j:Int)<(na:Int):=by omega
   have hjnb:¬ (j:Int)<(nb:Int):=by omega
   obtain⟨l1,l2,l3⟩:=HXY.out
   have hxl:x<B^j:=(dlen_le j x).1 (by omega)
   have hyl:y<B^j:=(dlen_le j y).1 (by omega)
   have htop:=addc_top hxl hyl
   have hc1:=HL.out.2.2
   by_cases hc0:addc x y j=0
   ·have hlen:dlen (x+y)=j:=by
     have h1:x+y<B^j:=by
      rw[hc0] at htop
      exact(Nat.div_eq_zero_iff.1 htop.symm).resolve_left (by have:=Bpow_pos j;omega)
     have h2:dlen (x+y)≤j:=(dlen_le _ _).2 h1
     have h3:dlen x≤dlen (x+y):=dlen_mono (by omega)
     have h4:dlen y≤dlen (x+y):=dlen_mono (by omega)
     omega
    rw[hc0]
    obtain⟨ao',cap',rfl,hcp,hA⟩:=at_of_row ho
    have HR:Hid (Ir wr (.slice ao' j cap') (x+y)):=⟨ao',cap',by rw[hlen],by omega,by rw[hlen];exact hA⟩
    clear ho hB hlen htop hxl hyl l1 l2 l3 hA hc0 hc1
    go_wp2
    go_ret
    exact⟨_,rfl,HR.out,HB.out⟩
   ·have hc:addc x y j=1:=by omega
    have hlen:dlen (x+y)=j+1:=by
     have h1:B^j≤x+y:=by
      rw[hc] at htop
      refine Nat.le_of_not_lt fun h=>?_
      rw[Nat.div_eq_of_lt h] at htop;omega
     have h2:¬ dlen (x+y)≤j:=fun h=>by have:=(dlen_le _ _).1 h;omega
     have h3:=dlen_add_le x y
     omega
    have hdg:dg (x+y) j=1:=by
     rw[dg_add,dg_past (x:=x) (by omega),dg_past (x:=y) (by omega),hc]
     decide
    have HD:Hid ((1:Int)=(dg (x+y) j:Nat)):=(by rw[hdg];rfl:(1:Int)=(dg (x+y) j:Nat))
    have HLN:Hid (dlen (x+y)=j+1):=hlen
    rw[hc]
    obtain⟨i0,hi0,hz0,hz1,hz2⟩:=info_parts Tryz.info68
    clear hB hlen htop hxl hyl l1 l2 l3 hc0 hc1 hc hdg
    go_wp2_with (at_builtin;refine wpList_append_own _ rfl _ _ 37 rfl w.heap.size 68 i0 (.int .u32 0) 1 4 Tryz.underlying37 hi0 hz0 hz1 hz2 rfl (by decide) _ _ _ rfl (ho.alloc _) ⟨wr.heap.size,0,none⟩ 1 1 [.int .u32 1] rfl rfl (cell_one_new _ _ _) (by intro u hu;simp at hu;subst hu;rfl) (by unfold maxLen;omega) (by omega) (by simp;omega) ?_)
    intro v' w5 hown5 hgrow _
    obtain⟨r1,r2⟩:=row_step HD.out HB.out HO.out hown5 hgrow
    obtain⟨ao',cap',rfl,hcp,hA⟩:=at_of_row r1
    have HR:Hid (Ir w5 (.slice ao' (j+1) cap') (x+y)∧Bw w w5):=⟨⟨ao',cap',by rw[HLN.out],by rw[HLN.out];omega,by rw[HLN.out];exact hA⟩,r2⟩
    clear hown5 hgrow r1 r2 ho hA hcp
    go_wp2
    go_ret
    exact⟨_,rfl,HR.out⟩
theorem rsum {u v:Value} {x y:Nat} {w:World} (h1:Ir w u x) (h2:Ir w v y) (hx:dlen x≤1000000000) (hy:dlen y≤1000000000) :
  Calls Tryz.prog 81 #[u,v] w fun e w'=>∃ v,e=.returned v∧Ir w' v (x+y)∧Bw w w':=by
 obtain⟨ao,ca,rfl,a1,ba,oa,a3,a4⟩:=h1
 obtain⟨bo,cb,rfl,b1,bb,ob,b3,b4⟩:=h2
 exact rsum_1 ao bo ba oa bb ob _ _ ca cb x y _ w a3 b3 rfl (by omega) rfl rfl a4 b4
theorem rless_1 (ao bo:Option Addr) (ba oa bb ob na nb ca cb x y:Nat) (w:World) (ha:0<na→ao=some ⟨ba,oa,none⟩) (hb:0<nb→bo=some ⟨bb,ob,none⟩) (hna:na≤1000000000) (hx:dlen x=na) (hy:dlen y=nb) (hle:y≤x)
  (hca:∀ i,i<na→w.cell? ⟨ba,oa+i,none⟩=some (.int .u32 (dg x i:Nat))) (hcb:∀ i,i<nb→w.cell? ⟨bb,ob+i,none⟩=some (.int .u32 (dg y i:Nat))) :
  Calls Tryz.prog 83 #[.slice ao na ca,.slice bo nb cb] w fun e w'=>∃ v,e=.returned v∧Ir w' v (x - y)∧Bw w w':=by
 have hnb:nb≤na:=by have:=dlen_mono hle;omega
 have HXY:Hid (dlen x=na∧dlen y=nb):=⟨hx,hy⟩
 have HWS:Hid (wsub x y na=x - y):=wsub_of_le (by rw[←hx];exact lt_dlen x) hle
 have HCA:Hid (∀ i,i<na→w.cell? ⟨ba,oa+i,none⟩=some (.int .u32 (dg x i:Nat))):=hca
 have HCB:Hid (∀ i,i<nb→w.cell? ⟨bb,ob+i,none⟩=some (.int .u32 (dg y i:Nat))):=hcb
 clear hx hy hca hcb hle
 go_enter Tryz.func83,Tryz.ntmps83
 go_wp2
 go_loopw [5,6,7] (fun v c i wr=>∃ j:Nat,j≤na∧c=.int .u64 (subb x y j:Nat)∧i=.int .i64 j∧wr.ownsRow w.heap.size 68 1 v j (cells (x - y) j)∧Bw w wr) (fun _ _ i _=>na - (intOf i).toNat)
 case atStart=>exact⟨0,Nat.zero_le _,by rw[subb_zero];rfl,rfl,World.ownsRow_nil ..,Below.refl _ _⟩
 case round =>
  obtain⟨j,hj,rfl,rfl,ho,hB⟩:=hrel
  have HO:Hid (wr.ownsRow w.heap.size 68 1 u5 j (cells (x - y) j)):=ho
  have HB:Hid (Bw w wr):=hB
  have hbs:w.heap.size≤wr.heap.size:=hB.size
  by_cases hja:j<na
  ·have HL:Hid (dg x j<B∧dg y j<B∧subb x y j≤1):=⟨dg_lt _ _,dg_lt _ _,subb_le _ _ _⟩
   have HKY:Hid (∀ (dx dy c:Nat) (Q:Int),dg x j=dx→dg y j=dy→subb x y j=c→Q=((dx:Int) - c - dy) % 18446744073709551616→(Q % 4294967296=(dg (x - y) j:Nat))∧(Q / 9223372036854775808=(subb x y (j+1):Nat))):=by
    intro dx dy c Q e1 e2 e3 e4
    have h1:dg (x - y) j=(dg x j+B+B - dg y j - subb x y j) % B:=by rw[←HWS.out,dg_wsub hja]
    have h2:=subb_succ x y j
    obtain⟨l1,l2,l3⟩:=HL.out
    rw[e1,e2,e3] at h1 h2
    rw[e1] at l1
    rw[e2] at l2
    rw[e3] at l3
    unfold B at *
    rw[h1,h2]
    by_cases hlt:dx<dy+c
    ·rw[if_pos hlt];omega
    ·rw[if_neg hlt];omega
   obtain rfl:=ha (by omega)
   have g1:=(hB.cell (World.block_lt_of_cell? _ _ (HCA.out j hja))).trans (HCA.out j hja)
   have hji:(j:Int)<(na:Int):=by omega
   obtain⟨i0,hi0,hz0,hz1,hz2⟩:=info_parts Tryz.info68
   by_cases hjb:j<nb
   ·obtain rfl:=hb (by omega)
    have g4:=(hB.cell (World.block_lt_of_cell? _ _ (HCB.out j hjb))).trans (HCB.out j hjb)
    have hji2:(j:Int)<(nb:Int):=by omega
    generalize hd:dg x j=d at *
    generalize hd1:dg y j=d1 at *
    generalize hc:subb x y j=c at *
    obtain⟨K,hK⟩:∃ K:Int,K=((d:Int) - c) % 18446744073709551616:=⟨_,rfl⟩
    obtain⟨Q,hQ⟩:∃ Q:Int,Q=((d:Int) - c - d1) % 18446744073709551616:=⟨_,rfl⟩
    have w1:IntKind.u64.wrap (d:Int)=(d:Int):=wrap_d HL.out.1
    have w2:IntKind.u64.wrap (d1:Int)=(d1:Int):=wrap_d HL.out.2.1
    have w3:IntKind.u64.wrap ((d:Int) - (c:Int))=K:=by rw[IntKind.wrap_u64];omega
    have w4:IntKind.u64.wrap (K - (d1:Int))=Q:=by rw[IntKind.wrap_u64];omega
    have HD:Hid (Q % 4294967296=(dg (x - y) j:Nat)∧Q / 9223372036854775808=(subb x y (j+1):Nat)):=HKY.out d d1 c Q rfl rfl rfl hQ
    clear hd hd1 hc hB hK hQ
    go_wp2_with (at_builtin;refine wpList_append_own _ rfl _ _ 37 rfl w.heap.size 68 i0 (.int .u32 0) 1 4 Tryz.underlying37 hi0 hz0 hz1 hz2 rfl (by decide) _ _ _ rfl (ho.alloc _) ⟨wr.heap.size,0,none⟩ 1 1 [.int .u32 (Q % 4294967296)] rfl rfl (cell_one_new _ _ _) (by intro u hu;simp at hu;subst hu;rfl) (by unfold maxLen;omega) (by omega) (by simp;omega) ?_)
    intro v' w5 hown5 hgrow _
    obtain⟨r1,r2⟩:=row_step HD.out.1 HB.out HO.out hown5 hgrow
    have HR:Hid (w5.ownsRow w.heap.size 68 1 v' (j+1) (cells (x - y) (j+1))∧Bw w w5):=⟨r1,r2⟩
    clear hown5 hgrow r1 r2 ho
    go_wp2
    exact⟨⟨j+1,by omega,by rw[HD.out.2],by simp,HR.out⟩,by simp[intOf];omega⟩
   ·have hji2:¬ (j:Int)<(nb:Int):=by omega
    have hd1:dg y j=0:=dg_past (by rw[HXY.out.2];omega)
    generalize hd:dg x j=d at *
    generalize hc:subb x y j=c at *
    obtain⟨Q,hQ⟩:∃ Q:Int,Q=((d:Int) - c - ((0:Nat):Int)) % 18446744073709551616:=⟨_,rfl⟩
    have w1:IntKind.u64.wrap (d:Int)=(d:Int):=wrap_d HL.out.1
    have w3:IntKind.u64.wrap ((d:Int) - (c:Int))=Q:=by rw[IntKind.wrap_u64];omega
    have HD:Hid (Q % 4294967296=(dg (x - y) j:Nat)∧Q / 9223372036854775808=(subb x y (j+1):Nat)):=HKY.out d 0 c Q rfl hd1 rfl hQ
    clear hd hd1 hc hB hQ
    go_wp2_with (at_builtin;refine wpList_append_own _ rfl _ _ 37 rfl w.heap.size 68 i0 (.int .u32 0) 1 4 Tryz.underlying37 hi0 hz0 hz1 hz2 rfl (by decide) _ _ _ rfl (ho.alloc _) ⟨wr.heap.size,0,none⟩ 1 1 [.int .u32 (Q % 4294967296)] rfl rfl (cell_one_new _ _ _) (by intro u hu;simp at hu;subst hu;rfl) (by unfold maxLen;omega) (by omega) (by simp;omega) ?_)
    intro v' w5 hown5 hgrow _
    obtain⟨r1,r2⟩:=row_step HD.out.1 HB.out HO.out hown5 hgrow
    have HR:Hid (w5.ownsRow w.heap.size 68 1 v' (j+1) (cells (x - y) (j+1))∧Bw w w5):=⟨r1,r2⟩
    clear hown5 hgrow r1 r2 ho
    go_wp2
    exact⟨⟨j+1,by omega,by rw[HD.out.2],by simp,HR.out⟩,by simp[intOf];omega⟩
  ·obtain rfl:j=na:=by omega
   obtain⟨ao',cap',rfl,hcp,hA⟩:=at_of_row ho
   have hL:dlen (x - y)≤j:=by have:=HXY.out.1;rw[←this];exact dlen_mono (Nat.sub_le ..)
   have HR:Hid (Ir wr (.slice ao' (dlen (x - y)) cap') (x - y)):=⟨ao',cap',rfl,by omega,at_short hA hL⟩
   have k40:=r40 ao' j cap' (x - y) wr hL hcp (by omega) hA
   generalize subb x y j=c at *
   clear ho hB hA
   go_wp2_with (first|(go_at_call 121;refine k40.mono ?_;rintro e w' ⟨rfl,rfl⟩))
   go_ret
   exact⟨_,rfl,HR.out,HB.out⟩
theorem rless {u v:Value} {x y:Nat} {w:World} (h1:Ir w u x) (h2:Ir w v y) (hx:dlen x≤1000000000) (hle:y≤x) :
  Calls Tryz.prog 83 #[u,v] w fun e w'=>∃ v,e=.returned v∧Ir w' v (x - y)∧Bw w w':=by
 obtain⟨ao,ca,rfl,a1,ba,oa,a3,a4⟩:=h1
 obtain⟨bo,cb,rfl,b1,bb,ob,b3,b4⟩:=h2
 exact rless_1 ao bo ba oa bb ob _ _ ca cb x y w a3 b3 hx rfl rfl hle a4 b4
theorem made_row {w:World} {z n:Nat} (hn:n≤maxLen) (h:∀ i,i<n→dg z i=0):(w.alloc (.cells (madeCells #[.int .u32 0] n) 68)).ownsRow w.heap.size 68 1 (.slice (some ⟨w.heap.size,0,none⟩) n n) n (cells z n):=by
 obtain⟨c,hc,hs,hf⟩:=World.rowIs_made w (.int .u32 0) n 68
 refine⟨by rw[cells_length,Nat.mul_one],.inr ⟨w.heap.size,n,c,rfl,Nat.le_refl _,hc,Nat.le_refl _,hn,by omega,?_⟩⟩
 apply List.ext_getElem?
 intro i
 rw[Nat.mul_one,List.getElem?_take]
 by_cases hi:i<n
 ·rw[if_pos hi,Array.getElem?_toList,hf i hi,cells_get hi,h i hi];rfl
 ·rw[if_neg hi,List.getElem?_eq_none (by rw[cells_length];omega)]
theorem up_word {d c p:Nat} (hd:d<B) (hp:p<32) (hc:c<2^p):bits .or .u64 (IntKind.u64.wrap (IntKind.u64.wrap (d:Int)*2^p)) (IntKind.u64.wrap (c:Int))=((c+d*2^p:Nat):Int):=by
 have h1:=shl_word hd hp
 have h2:=two_small hp
 have h3:=mul_small hd h2
 have hcB:c<B:=by unfold B;omega
 rw[h1,wrap_d hcB,u64_or_nat _ _ (by omega) (by unfold B at hcB;omega),or_add (p:=p) (Nat.mul_mod_left ..) hc,Nat.add_comm]
theorem rup_1 (b o cap n x k whole part:Nat) (w:World) (hn0:0<n) (hn:n≤1000000000) (hk:k≤1000000000) (hwh:k / 32=whole) (hpa:k % 32=part) (hx:dlen x=n) (hcell:∀ i,i<n→w.cell? ⟨b,o+i,none⟩=some (.int .u32 (dg x i:Nat))) :
  Calls Tryz.prog 80 #[.slice (some ⟨b,o,none⟩) n cap,.int .i64 k] w fun e w'=>∃ v,e=.returned v∧Ir w' v (x*2^k)∧Bw w w':=by
 have hq:(k:Int).tdiv 32=((k / 32:Nat):Int):=by rw[Int.tdiv_eq_ediv_of_nonneg (by omega)];rfl
 have hr:(k:Int).tmod 32=((k % 32:Nat):Int):=by rw[Int.tmod_eq_emod_of_nonneg (by omega)];rfl
 rw[hwh] at hq
 rw[hpa] at hr
 have hwb:whole≤1000000000:=by omega
 have hpb:part<32:=by omega
 have hmk:=run_make_row' (P:=Tryz.prog) 37 68 (.int .u32 0) 4 Tryz.underlying37 Tryz.info68 rfl .i64 .i64 whole (by omega) (by omega)
 have hn0':((n:Int)==0)=false:=by simp;omega
 have HN:Hid (dlen x=n∧k / 32=whole∧k % 32=part):=⟨hx,hwh,hpa⟩
 have HZ:Hid (∀ i,i<whole→dg (x*2^k) i=0):=fun i hi=>by rw[shl_split,hwh,dg_shl_low hi]
 have HCA:Hid (∀ i,i<n→w.cell? ⟨b,o+i,none⟩=some (.int .u32 (dg x i:Nat))):=hcell
 have HST:Hid (∀ j,dg (x*2^k) (whole+j)=(mulc x (2^part) j+dg x j*2^part) % B):=fun j=>by rw[shl_split,hwh,hpa,dg_shl,dg_mul]
 clear hx hwh hpa hcell
 go_enter Tryz.func80,Tryz.ntmps80
 go_wp2
 clear hmk
 go_loopw [5,7,8] (fun v c i wr=>∃ j:Nat,j≤n∧c=.int .u32 (mulc x (2^part) j:Nat)∧i=.int .i64 j∧wr.ownsRow w.heap.size 68 1 v (whole+j) (cells (x*2^k) (whole+j))∧Bw w wr) (fun _ _ i _=>n - (intOf i).toNat)
 case atStart=>exact⟨0,Nat.zero_le _,by rw[mulc_zero];rfl,rfl,made_row (by unfold maxLen;omega) HZ.out,(Below.refl _ _).alloc (Nat.le_refl _) _⟩
 case round =>
  obtain⟨j,hj,rfl,rfl,ho,hB⟩:=hrel
  have HO:Hid (wr.ownsRow w.heap.size 68 1 u5 (whole+j) (cells (x*2^k) (whole+j))):=ho
  have HB:Hid (Bw w wr):=hB
  have hbs:w.heap.size≤wr.heap.size:=hB.size
  obtain⟨i0,hi0,hz0,hz1,hz2⟩:=info_parts Tryz.info68
  by_cases hja:j<n
  ·have g1:=(hB.cell (World.block_lt_of_cell? _ _ (HCA.out j hja))).trans (HCA.out j hja)
   have hji:(j:Int)<(n:Int):=by omega
   have hcl:=mulc_lt (x:=x) (i:=j) (Nat.two_pow_pos part)
   have hdl:=dg_lt x j
   have hst:=HST.out j
   have hsc:=mulc_succ x (2^part) j
   have h2:=two_small hpb
   generalize hd:dg x j=d at *
   generalize hc:mulc x (2^part) j=c at *
   have h3:=mul_small hdl h2
   obtain⟨T,hT⟩:∃ T:Nat,T=c+d*2^part:=⟨_,rfl⟩
   have w1:bits .or .u64 (IntKind.u64.wrap (IntKind.u64.wrap (d:Int)*2^part)) (IntKind.u64.wrap (c:Int))=(T:Int):=by rw[hT];exact up_word hdl hpb hcl
   have HD:Hid ((T:Int) % 4294967296=(dg (x*2^k) (whole+j):Nat)∧(T:Int) / 4294967296 % 4294967296=(mulc x (2^part) (j+1):Nat)):=by
    refine⟨?_,?_⟩
    ·rw[hst,←hT];unfold B;omega
    ·rw[hsc,←hT];unfold B;omega
   clear hd hc hB hcl hdl hst hsc h2 h3 hT
   go_wp2_with (at_builtin;refine wpList_append_own _ rfl _ _ 37 rfl w.heap.size 68 i0 (.int .u32 0) 1 4 Tryz.underlying37 hi0 hz0 hz1 hz2 rfl (by decide) _ _ _ rfl (ho.alloc _) ⟨wr.heap.size,0,none⟩ 1 1 [.int .u32 ((T:Int) % 4294967296)] rfl rfl (cell_one_new _ _ _) (by intro u hu;simp at hu;subst hu;rfl) (by unfold maxLen;omega) (by omega) (by simp;omega) ?_)
   intro v' w5 hown5 hgrow _
   obtain⟨r1,r2⟩:=row_step HD.out.1 HB.out HO.out hown5 hgrow
   have HR:Hid (w5.ownsRow w.heap.size 68 1 v' (whole+(j+1)) (cells (x*2^k) (whole+(j+1)))∧Bw w w5):=⟨r1,r2⟩
   clear hown5 hgrow r1 r2 ho
   go_wp2
   exact⟨⟨j+1,by omega,by rw[HD.out.2],by simp,HR.out⟩,by simp[intOf];omega⟩
  ·obtain rfl:j=n:=by omega
   have hcl:=mulc_lt (x:=x) (i:=j) (Nat.two_pow_pos part)
   have hst:=HST.out j
   rw[dg_past (x:=x) (i:=j) (by rw[HN.out.1];omega),Nat.zero_mul,Nat.add_zero] at hst
   have h2:=two_small hpb
   have hL:dlen (x*2^k)≤whole+j+1:=by have:=shl_len (k:=k) HN.out.1;rw[HN.out.2.1] at this;exact this
   generalize hc:mulc x (2^part) j=c at *
   have HD:Hid ((c:Int)=(dg (x*2^k) (whole+j):Nat)):=(by rw[hst];unfold B;omega:(c:Int)=(dg (x*2^k) (whole+j):Nat))
   have HL:Hid (dlen (x*2^k)≤whole+j+1):=hL
   clear hc hB hcl hst h2 hL
   go_wp2_with (at_builtin;refine wpList_append_own _ rfl _ _ 37 rfl w.heap.size 68 i0 (.int .u32 0) 1 4 Tryz.underlying37 hi0 hz0 hz1 hz2 rfl (by decide) _ _ _ rfl (ho.alloc _) ⟨wr.heap.size,0,none⟩ 1 1 [.int .u32 (c:Int)] rfl rfl (cell_one_new _ _ _) (by intro u hu;simp at hu;subst hu;rfl) (by unfold maxLen;omega) (by omega) (by simp;omega) ?_)
   intro v' w5 hown5 hgrow _
   obtain⟨r1,r2⟩:=row_step HD.out HB.out HO.out hown5 hgrow
   obtain⟨ao',cap',rfl,hcp,hA⟩:=at_of_row r1
   have HR:Hid (Ir w5 (.slice ao' (dlen (x*2^k)) cap') (x*2^k)∧Bw w w5):=⟨⟨ao',cap',rfl,by have:=HL.out;omega,at_short hA HL.out⟩,r2⟩
   have k40:=r40 ao' (whole+j+1) cap' (x*2^k) w5 HL.out hcp (by omega) hA
   clear hown5 hgrow r1 r2 ho hA hcp
   go_wp2_with (first|(go_at_call 121;refine k40.mono ?_;rintro e w' ⟨rfl,rfl⟩))
   go_ret
   exact⟨_,rfl,HR.out⟩
theorem rup_0 (ao:Option Addr) (cap:Nat) (k:Int) (w:World) :
  Calls Tryz.prog 80 #[.slice ao 0 cap,.int .i64 k] w fun e w'=>e=.returned (.slice none 0 0)∧w'=w:=by
 go_enter Tryz.func80,Tryz.ntmps80
 go_wp2
 go_ret
 exact⟨rfl,rfl⟩
theorem rup {v:Value} {x:Nat} {w:World} (h:Ir w v x) (k:Nat) (hx:dlen x≤1000000000) (hk:k≤1000000000) :
  Calls Tryz.prog 80 #[v,.int .i64 k] w fun e w'=>∃ v,e=.returned v∧Ir w' v (x*2^k)∧Bw w w':=by
 obtain⟨ao,cap,rfl,h1,b,o,h3,h4⟩:=h
 by_cases h0:x=0
 ·subst h0
  rw[dlen_zero]
  refine(rup_0 ao cap k w).mono ?_
  rintro e w' ⟨rfl,rfl⟩
  exact⟨_,rfl,by rw[Nat.zero_mul];exact Ir.nil _ _ _,Below.refl _ _⟩
 ·have hl:0<dlen x:=Nat.pos_of_ne_zero fun e=>h0 (dlen_eq_zero.1 e)
  obtain rfl:=h3 hl
  exact rup_1 b o cap _ x k _ _ w hl hx hk rfl rfl rfl h4
end Go.Proofs.YtokklnjoalkjaaaGreatDoor
namespace Go.Proofs.YtokklnjoalkjaaaGreatDoor
open Go.RowKit Go.Fl64
theorem two29 {w W:World} (a b:Obj) (hW:W=(w.alloc a).alloc b):W.heap[w.heap.size]?=some a∧W.heap[w.heap.size+1]?=some b∧W.heap.size=w.heap.size+1+1∧Bw w W:=by
 subst hW
 refine⟨?_,?_,by simp,((Below.refl _ _).alloc (Nat.le_refl _) _).alloc (by simp) _⟩
 ·rw[Below.heap_alloc _ _ _ (by simp)];exact heap_alloc_new _ _
 ·have:=heap_alloc_new (w.alloc a) b
  simpa using this
end Go.Proofs.YtokklnjoalkjaaaGreatDoor
namespace Go.Proofs.YtokklnjoalkjaaaGreatDoor
open Go.RowKit
theorem dn_of_row {w:World} {base n z:Nat} {v:Value} (h:w.ownsRow base 68 1 v n (cells z n)) (hn0:0<n):Dn w base v n z:=by
 obtain⟨g2,cap2,cur2,rfl,hg2,hc2,hc3,hc4,hc5,hc6⟩:=(h.2.resolve_left fun h=>by omega)
 refine .inr ⟨g2,cap2,cur2,rfl,hg2,⟨hc3,by unfold maxLen at hc4;omega⟩,hc2,by omega,fun i hi=>?_⟩
 have h7:(cells z n)[i]?=cur2[i]?:=by
  rw[←hc6,Nat.mul_one,List.getElem?_take,if_pos hi,Array.getElem?_toList]
 rw[←h7,cells_get hi]
theorem wpList_append_copy {w:World} {ops:Array Oper} {rest:List Oper} {o:Oper} {a:Act} {Q:Exit→Act→World→Prop} (hgd:o.guard=none) (s x:Operand)
  (ho:o.op=.call { callee:=.builtin .append,args:=#[s,x],argTypes:=#[37,37] }) (hs:a.eval s=.slice none 0 0) {ao:Option Addr} {n cap z:Nat} (hx:a.eval x=.slice ao n cap) (hA:Arg w ao n cap z)
  (h:∀ ao' cap' w',Dn w' w.heap.size (.slice ao' n cap') n z→Bw w w'→wpList Tryz.prog ops Q rest (a.put o.dst (.slice ao' n cap')) w'):wpList Tryz.prog ops Q (o :: rest) a w:=by
 obtain⟨i0,hi0,hz0,hz1,hz2⟩:=info_parts Tryz.info68
 by_cases h0:n=0
 ·subst h0
  rcases hA.nil rfl with ⟨ad,rfl⟩|⟨rfl,rfl⟩
  ·refine wpList_append_own _ hgd s x 37 ho w.heap.size 68 i0 (.int .u32 0) 1 4 Tryz.underlying37 hi0 hz0 hz1 hz2 rfl (by decide) (.slice none 0 0) 0 [] hs (World.ownsRow_nil w _ _ _) ad 0 cap [] hx (by simp) (by intro j u hj;simp at hj) (by intro u hu;simp at hu) (by unfold maxLen;omega) (by omega) (Nat.le_refl _) ?_
   intro v' w' _ r2 r3
   obtain rfl:v'=.slice none 0 0:=r3.2 ⟨rfl,rfl⟩
   exact h none 0 w' (.inl ⟨rfl,rfl⟩) (Below.grown (Below.refl _ _) r2 (Nat.le_refl _) (fun k hk=>by simp[Value.ownBlock] at hk))
  ·exact wpList_append_own_none hgd s x 37 ho w.heap.size 68 i0 1 Tryz.underlying37 hi0 (.slice none 0 0) 0 [] hs (World.ownsRow_nil w _ _ _) hx (h none 0 w (.inl ⟨rfl,rfl⟩) (Below.refl _ _))
 ·obtain⟨b,o',h1,h2⟩:=hA.at_
  obtain rfl:=h1 (by omega)
  have hsm:=hA.small
  refine wpList_append_own _ hgd s x 37 ho w.heap.size 68 i0 (.int .u32 0) 1 4 Tryz.underlying37 hi0 hz0 hz1 hz2 rfl (by decide) (.slice none 0 0) 0 [] hs (World.ownsRow_nil w _ _ _) ⟨b,o',none⟩ n cap (cells z n) hx (by rw[cells_length,Nat.mul_one]) (fun j u hj=>by
   have hjl:j<n:=by
    have:=(List.getElem?_eq_some_iff.1 hj).1
    rwa [cells_length] at this
   rw[cells_get hjl] at hj
   rw[show(⟨b,o',none⟩:Addr).add j=⟨b,o'+j,none⟩ by simp[Addr.add],←hj]
   exact h2 j hjl) (by intro u hu;simp[cells] at hu;obtain⟨j,-,rfl⟩:=hu;rfl) (by unfold maxLen;omega) (by omega) (Nat.le_refl _) ?_
  intro v' w' r1 r2 _
  rw[Nat.zero_add,List.nil_append] at r1
  have hd:=dn_of_row r1 (by omega)
  have hb:Bw w w':=Below.grown (Below.refl _ _) r2 (Nat.le_refl _) (fun k hk=>by simp[Value.ownBlock] at hk)
  rcases hd with ⟨-,h⟩|⟨g,cap',c,rfl,h3⟩
  ·omega
  ·exact h _ _ w' (.inr ⟨g,cap',c,rfl,h3⟩) hb
theorem Dn.store {w:World} {base n z:Nat} {v:Value} (h:Dn w base v n z) {g:Nat} (hg:g<base) (i:Nat) (u:Value):Dn (w.setCell ⟨g,i,none⟩ u) base v n z:=by
 rcases h with h|⟨g2,cap2,c,rfl,h1,h2,h3,h4⟩
 ·exact .inl h
 ·exact .inr ⟨g2,cap2,c,rfl,h1,h2,by rw[setCell_block _ _ (by omega)];exact h3,h4⟩
theorem rtwin {ng:Bool} {ao:Option Addr} {n cap z:Nat} {e:Int} {w:World} (h:Arg w ao n cap z) :
  Calls Tryz.prog 79 #[.agg #[.bool ng,.slice ao n cap,.int .i64 e]] w fun r w'=>∃ ao' cap',r=.returned (.agg #[.bool ng,.slice ao' n cap',.int .i64 e])∧Dn w' w.heap.size (.slice ao' n cap') n z∧Bw w w':=by
 obtain⟨W,hW⟩:∃ W,W=(w.alloc (.cells #[.bool ng,.slice ao n cap,.int .i64 e] 39)).alloc (.cells #[.bool false,.slice none 0 0,.int .i64 0] 39):=⟨_,rfl⟩
 obtain⟨hA,hB,hsz,hBW⟩:=two29 _ _ hW
 obtain⟨⟨a0,a1,a2⟩,-⟩:=box_cells29 hA
 have HX:Hid (Bw w W∧W.heap.size=w.heap.size+1+1∧W.heap[w.heap.size]?=some (.cells #[.bool ng,.slice ao n cap,.int .i64 e] 39 (0,0))∧W.heap[w.heap.size+1]?=some (.cells #[.bool false,.slice none 0 0,.int .i64 0] 39 (0,0))):=⟨hBW,hsz,hA,hB⟩
 have hAr:=h.later hBW
 rw[hW] at a0 a1 a2
 have HW:Hid (W=(w.alloc (.cells #[.bool ng,.slice ao n cap,.int .i64 e] 39)).alloc (.cells #[.bool false,.slice none 0 0,.int .i64 0] 39)):=hW
 clear hA hB hsz hBW h hW
 go_enter Tryz.func79,Tryz.ntmps79
 go_wp2_with (at_builtin;rw[←HW.out];refine wpList_append_copy rfl _ _ rfl rfl rfl hAr ?_)
 intro ao2 cap2 w2 hd hb
 have hb1:=box_later HX.out.2.2.1 hb (by have:=HX.out.2.1;omega)
 have hb2:=box_later HX.out.2.2.2 hb (by have:=HX.out.2.1;omega)
 obtain⟨⟨x1,x2,x3⟩,x4,x5,x6⟩:=box_cells29 hb1
 obtain⟨⟨y1,y2,y3⟩,y4,y5,y6⟩:=box_cells29 hb2
 have HR:Hid (Dn w2 W.heap.size (.slice ao2 n cap2) n z∧Bw W w2∧w2.heap[w.heap.size+1]?=some (.cells #[.bool false,.slice none 0 0,.int .i64 0] 39 (0,0))):=⟨hd,hb,hb2⟩
 clear hd hb hb1 hb2 a0 a1 a2 hAr
 go_wp2
 have HQ:(w2.setCell ⟨w.heap.size,1,none⟩ (.slice ao2 n cap2)).heap[w.heap.size+1]?=some (.cells #[.bool false,.slice none 0 0,.int .i64 0] 39 (0,0)):=by
  rw[setCell_block _ _ (by omega)];exact HR.out.2.2
 refine bodyPost_ret (results_cell_row rfl _ _ (w.heap.size+1) 39 #[.bool ng,.slice ao2 n cap2,.int .i64 e] (0,0) _ rfl (store3_29 _ _ _ HQ) Tryz.underlying39 rfl Tryz.info39) rfl ?_
 obtain⟨q1,q2,-,-⟩:=HX.out
 obtain⟨r1,r2,-⟩:=HR.out
 exact⟨_,_,rfl,((((r1.store (by omega) _ _).store (by omega) _ _).store (by omega) _ _).store (by omega) _ _).mono (by omega),below_store3 ((q1.trans (r2.mono q1.size)).setCell (Nat.le_refl _) _) (by omega) _ _ _⟩
theorem r34c_1 (neg:Bool) (ao:Option Addr) (n cap x:Nat) (e:Int) (w:World) (h:At w ao n x) (hxn:dlen x≤n) (hn:n≤cap) (hc:n≤1000000000) (hx0:x≠0) (he : -4611686018427387904≤e∧e≤4611686018427387904) :
  Calls Tryz.prog 76 #[.bool neg,.slice ao n cap,.int .i64 e] w fun r w'=>∃ g cap',r=.returned (.agg #[.bool neg,.slice (some ⟨g,0,none⟩) (dlen (x / 2^tz x)) cap',.int .i64 (e+tz x)])∧w.heap.size≤g∧dlen (x / 2^tz x)≤cap'∧At w' (some ⟨g,0,none⟩) (dlen (x / 2^tz x)) (x / 2^tz x)∧Bw w w':=by
 obtain⟨w0,hw0⟩:∃ w0,w0=w.alloc (.cells #[.bool false,.slice none 0 0,.int .i64 0] 39):=⟨_,rfl⟩
 have hB0:Bw w w0:=by rw[hw0];exact(Below.refl _ _).alloc (Nat.le_refl _) _
 have h0:=h.later hB0
 have k40:=r40 ao n cap x w0 hxn hn (by omega) h0
 have htz:tz x / 32<dlen x:=by
  have h1:=(tz_spec _ x (Nat.le_refl _) hx0)
  have h2:2^tz x≤x:=by
   have h3:1≤x / 2^tz x:=Nat.pos_of_ne_zero fun e0=>by have:=h1.2;rw[e0] at this;simp at this
   have:=Nat.mul_le_mul_left (2^tz x) h3
   omega
  have h4:=lt_bl x
  have h5:tz x<bl x:=Nat.lt_of_not_le fun h6=>by
   have:=Nat.pow_le_pow_right (n:=2) (by omega) h6
   omega
  have hd0:dlen x≠0:=fun e=>hx0 (dlen_eq_zero.1 e)
  have:=bl_top hx0
  have:=bl_le32 (dg_lt x (dlen x - 1))
  omega
 have hs:=at_short h0 hxn
 have k64:=r64 rfl (by omega:dlen x≤cap) hs (tz x) (by omega) htz (by omega)
 have hl0:0<dlen x:=by omega
 have hn0:((dlen x:Int)==0)=false:=by simp;omega
 have HS:Hid (At w0 ao (dlen x) x):=hs
 have HH:Hid (w0.heap[w.heap.size]?=some (.cells #[.bool false,.slice none 0 0,.int .i64 0] 39 (0,0))):=(by rw[hw0];exact heap_alloc_new _ _:w0.heap[w.heap.size]?=some (.cells #[.bool false,.slice none 0 0,.int .i64 0] 39 (0,0)))
 have HB0:Hid (Bw w w0):=hB0
 have HX:Hid (w0.heap.size=w.heap.size+1):=(by rw[hw0];simp:w0.heap.size=w.heap.size+1)
 have HT:Hid (tz x / 32<dlen x∧x≠0):=⟨htz,hx0⟩
 obtain⟨he1,he2⟩:=he
 have hlb:dlen x≤1000000000:=by omega
 clear h h0 hB0 hs hxn hn hx0
 generalize hL:dlen x=L at *
 generalize htzx:tz x=T at *
 have HTZ:Hid (tz x=T∧dlen x=L):=⟨htzx,hL⟩
 clear htzx hL
 have hTb:T≤40000000000:=by omega
 go_enter Tryz.func76,Tryz.ntmps76
 go_wp2_with fail
 rw[←hw0]
 clear hw0
 refine k40.mono ?_
 rintro r w1 ⟨rfl,rfl⟩
 clear k40
 go_wp2_with fail
 go_loop [7] (fun v=>∃ t:Nat,t≤T∧v=.int .i64 (t:Int)) (fun v=>T - (intOf v).toNat)
 case atStart=>exact⟨0,Nat.zero_le _,rfl⟩
 case round =>
  obtain⟨t,ht,rfl⟩:=hrel
  obtain⟨b,o,hb,hcell⟩:=HS.out
  obtain rfl:=hb (by omega)
  have hq:(t:Int).tdiv 32=((t / 32:Nat):Int):=by rw[Int.tdiv_eq_ediv_of_nonneg (by omega)];rfl
  have hr:(t:Int).tmod 32=((t % 32:Nat):Int):=by rw[Int.tmod_eq_emod_of_nonneg (by omega)];rfl
  have htl:t / 32<L:=by omega
  have g1:=hcell (t / 32) htl
  have hpb:t % 32<32:=by omega
  generalize hi:t / 32=i at *
  generalize hp:t % 32=p at *
  generalize hd:dg x i=d at *
  have HI:Hid (t / 32=i∧t % 32=p∧dg x i=d):=⟨hi,hp,hd⟩
  have hbit:=bit_tz HTZ.out.1 HT.out.2 ht HI.out
  clear hi hp hd hcell hb
  by_cases htt:t<T
  ·rw[decide_eq_true htt] at hbit
   go_wp2_with fail
   exact⟨⟨t+1,by omega,by simp⟩,by simp[intOf];omega⟩
  ·rw[decide_eq_false htt] at hbit
   obtain rfl:t=T:=by omega
   clear htt ht
   go_wp2_with fail
   refine k64.mono ?_
   rintro r w3 ⟨ao3,cap3,bb,rfl,hA3,hc3,hB3⟩
   clear k64 hq hr hbit g1
   have HH3:Hid (w3.heap[w.heap.size]?=some (.cells #[.bool false,.slice none 0 0,.int .i64 0] 39 (0,0))):=box_later HH.out hB3 (by have:=HX.out;omega)
   obtain⟨⟨a1,a2,a3⟩,a4,a5,a6⟩:=box_cells29 HH3.out
   have HA3:Hid (At w3 ao3 (dlen (x / 2^t)) (x / 2^t)∧Bw w1 w3):=⟨hA3,hB3⟩
   clear hA3 hB3
   have hyo:x / 2^t % 2=1:=by rw[←HTZ.out.1];exact(tz_spec _ x (Nat.le_refl _) HT.out.2).2
   have hy0:0<dlen (x / 2^t):=Nat.pos_of_ne_zero fun e=>by rw[dlen_eq_zero.1 e] at hyo;simp at hyo
   have hyl:dlen (x / 2^t)≤1000000000:=by
    have h1:dlen (x / 2^t)≤dlen x:=dlen_mono (Nat.div_le_self ..)
    rw[HTZ.out.2] at h1;omega
   obtain⟨b3,o3,hb3,hc3'⟩:=HA3.out.1
   obtain rfl:=hb3 hy0
   have HN:Hid (∀ j u,(cells (x / 2^t) (dlen (x / 2^t)))[j]?=some u→(w3.alloc (Obj.cells (madeCells #[Value.int IntKind.u32 0] 0) 68)).cell? ((⟨b3,o3,none⟩:Addr).add j)=some u):=fun j u hj=>by
    have hjl:j<dlen (x / 2^t):=by
     have:=(List.getElem?_eq_some_iff.1 hj).1
     rwa [cells_length] at this
    rw[cells_get hjl] at hj
    have hcl:=hc3' j hjl
    rw[show(⟨b3,o3,none⟩:Addr).add j=⟨b3,o3+j,none⟩ by simp[Addr.add]]
    rw[World.cell?_alloc_old _ _ _ (by have:=World.block_lt_of_cell? _ _ hcl;show b3≠w3.heap.size;simp at this;omega)]
    rw[←hj];exact hcl
   have hOM:(w3.alloc (Obj.cells (madeCells #[Value.int IntKind.u32 0] 0) 68)).ownsRow w3.heap.size 68 1 (.slice (some ⟨w3.heap.size,0,none⟩) 0 0) 0 []:=World.ownsRow_made w3 _ 0 (Nat.le_refl _) (by unfold maxLen;omega) (by simp[madeCells])
   have hmk:=run_make_row' (P:=Tryz.prog) 37 68 (.int .u32 0) 4 Tryz.underlying37 Tryz.info68 rfl .i64 .i64 0 (by omega) (by omega) w3
   rw[show((0:Nat):Int)=0 from rfl] at hmk
   clear hc3' hb3 hyo
   generalize hy:x / 2^t=y at *
   have HY:Hid (x / 2^t=y):=hy
   clear hy
   generalize hM:dlen y=M at *
   have HM:Hid (dlen y=M):=hM
   clear hM
   have hM0:M≠0:=by omega
   obtain⟨i0,hi0,hz0,hz1,hz2⟩:=info_parts Tryz.info68
   go_wp2_with (at_builtin;refine wpList_append_own _ rfl _ _ 37 rfl w3.heap.size 68 i0 (.int .u32 0) 1 4 Tryz.underlying37 hi0 hz0 hz1 hz2 rfl (by decide) _ 0 [] rfl hOM ⟨b3,o3,none⟩ M cap3 (cells y M) rfl (by rw[cells_length,Nat.mul_one]) HN.out (by intro u hu;simp[cells] at hu;obtain⟨j,-,rfl⟩:=hu;rfl) (by unfold maxLen;omega) (by omega) (by simp) ?_)
   intro v' w4 hown4 hgrow _
   have hsz:=HX.out
   have hs3:=HA3.out.2.size
   have hh4:w4.heap[w.heap.size]?=some (.cells #[.bool false,.slice none 0 0,.int .i64 0] 39 (0,0)):=by
    rw[hgrow.block _ (by simp;omega) (fun e=>by simp[Value.ownBlock] at e;omega),Lib.alloc_old w3 _ _ (by omega)]
    exact HH3.out
   obtain⟨⟨a1,a2,a3⟩,a4,a5,a6⟩:=box_cells29 hh4
   have HR:Hid (w4.ownsRow w3.heap.size 68 1 v' M (cells y M)∧w4.heap[w.heap.size]?=some (.cells #[.bool false,.slice none 0 0,.int .i64 0] 39 (0,0))):=⟨hown4,hh4⟩
   have HG:Hid (Bw w3 w4):=Below.grown ((Below.refl w3.heap.size w3).alloc (Nat.le_refl _) _) hgrow (by simp) (fun k hk=>by simp[Value.ownBlock] at hk;omega)
   obtain⟨g4,cap4,cur4,rfl,hg4,-⟩:=(hown4.2.resolve_left fun h=>hM0 h.2)
   clear hown4 hh4 hgrow HN hOM
   go_wp2
   refine bodyPost_ret (results_cell_row rfl _ _ w.heap.size 39 #[.bool neg,.slice (some ⟨g4,0,none⟩) M cap4,.int .i64 (e+t)] (0,0) _ rfl (store3_29 _ _ _ HR.out.2) Tryz.underlying39 rfl Tryz.info39) rfl ?_
   obtain⟨ao5,cap5,hv5,hcc5,hA5⟩:=at_of_row HR.out.1
   simp only[Value.slice.injEq] at hv5
   obtain⟨rfl,-,rfl⟩:=hv5
   obtain⟨b5,o5,hb5,hc5⟩:=hA5
   have hb5':=hb5 (by omega)
   simp only[Option.some.injEq,Addr.mk.injEq] at hb5'
   obtain⟨rfl,rfl,-⟩:=hb5'
   rw[HY.out,HM.out]
   refine⟨_,_,rfl,by omega,hcc5,⟨g4,0,fun _=>rfl,fun j hj=>?_⟩,below_store3 (HB0.out.trans ((HA3.out.2.trans (HG.out.mono hs3)).mono (by omega))) (Nat.le_refl _) _ _ _⟩
   rw[World.cell?_setCell_other _ _ _ _ (by intro e;simp at e),World.cell?_setCell_other _ _ _ _ (by intro e;simp at e),World.cell?_setCell_other _ _ _ _ (by intro e;simp at e)]
   exact hc5 j hj
def NC (w':World) (base:Nat) (a:Value) (neg:Bool) (x:Nat) (e:Int):Prop:=∃ ao cap,a=.agg #[.bool (cn neg x e).1,.slice ao (dlen (cn neg x e).2.1) cap,.int .i64 (cn neg x e).2.2]∧Arg w' ao (dlen (cn neg x e).2.1) cap (cn neg x e).2.1∧(∀ ad:Addr,ao=some ad→0<dlen (cn neg x e).2.1→base≤ad.block)
theorem NC.mono {w:World} {base base':Nat} {a:Value} {neg:Bool} {x:Nat} {e:Int} (h:NC w base a neg x e) (hb:base'≤base):NC w base' a neg x e:=by
 obtain⟨ao,cap,h1,h2,h3⟩:=h
 exact⟨ao,cap,h1,h2,fun ad e hl=>Nat.le_trans hb (h3 ad e hl)⟩
theorem rnorm {neg:Bool} {v:Value} {x:Nat} {e:Int} {w:World} (h:Ir w v x) (hc:dlen x≤1000000000) (he : -4611686018427387904≤e∧e≤4611686018427387904) :
  Calls Tryz.prog 76 #[.bool neg,v,.int .i64 e] w fun r w'=>∃ a,r=.returned a∧NC w' w.heap.size a neg x e∧Bw w w':=by
 obtain⟨ao,cap,rfl,h1,h2⟩:=h
 by_cases h0:x=0
 ·subst h0
  refine(r34_0 neg ao _ cap e w h2 h1 (by omega)).mono ?_
  rintro r w' ⟨rfl,hb⟩
  refine⟨_,rfl,⟨none,0,?_,?_,fun ad e=>by cases e⟩,hb⟩
  ·unfold cn;rw[if_pos rfl,dlen_zero]
  ·unfold cn;rw[if_pos rfl]
   exact⟨fun _=>.inr ⟨rfl,rfl⟩,⟨0,0,fun h=>by rw[dlen_zero] at h;omega,fun i hi=>by rw[dlen_zero] at hi;omega⟩,by rw[dlen_zero];exact Nat.le_refl _,by rw[dlen_zero];omega⟩
 ·refine(r34c_1 neg ao _ cap x e w h2 (Nat.le_refl _) h1 hc h0 he).mono ?_
  rintro r w' ⟨g,cap',rfl,hg,hcc,ho,hb⟩
  have hle:dlen (x / 2^tz x)≤dlen x:=dlen_mono (Nat.div_le_self _ _)
  refine⟨_,rfl,⟨some ⟨g,0,none⟩,cap',?_,?_,fun ad e _=>?_⟩,hb⟩
  ·unfold cn;rw[if_neg h0]
  ·unfold cn;rw[if_neg h0]
   exact⟨fun _=>.inl ⟨_,rfl⟩,ho,hcc,(by omega:dlen (x / 2^tz x)≤35184372088832)⟩
  ·injection e with e;rw[←e];exact hg
end Go.Proofs.YtokklnjoalkjaaaGreatDoor
