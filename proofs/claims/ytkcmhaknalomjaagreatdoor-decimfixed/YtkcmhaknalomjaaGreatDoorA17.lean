/- Own work: contracts of the program's functions, part 17: DCU DD1 DD2 DD4 DD5 DD6 DSA DD7. -/
import Derived.Test.YtkcmhaknalomjaaGreatDoorA16
import Derived.Test.YtkcmhaknalomjaaGreatDoorA15
import Derived.Test.YtkcmhaknalomjaaGreatDoorA12
import Derived.Test.YtkcmhaknalomjaaGreatDoorA7
import Derived.Test.YtkcmhaknalomjaaGreatDoorA14
import Derived.Test.YtkcmhaknalomjaaGreatDoorA13
import Derived.Lib.ItoaLen

set_option maxHeartbeats 16000000
set_option maxRecDepth 200000
set_option linter.unusedVariables false
set_option linter.unusedSimpArgs false
namespace Go.Proofs.YtkcmhaknalomjaaGreatDoor
open Go.RowKit Go.Fl64
theorem zB8 (s:List UInt8) (m:Int) (w:World) (k0:∀ W,Calls Tryz.prog 23 #[.int .i64 m] W fun r w'=>r=.returned (.bool false)∧w'=W) :
  Calls Tryz.prog 8 #[.string ⟨s.toArray⟩,.int .i64 m] w fun r w'=>r=.returned (.tuple #[.float .f64 0,.int .i64 1])∧Bw w w':=by
 go_enter Tryz.func8,Tryz.ntmps8
 go_wp2_with (first|(go_at_call 23;refine(k0 _).mono ?_;rintro r w' ⟨rfl,rfl⟩))
 refine xG6 (xF rfl _ _ _) rfl ?_;exact⟨rfl,xV9 _ _⟩
theorem zB9 (s:List UInt8) (m:Int) (w:World) (hL:1048576<s.length) (k0:∀ W,Calls Tryz.prog 23 #[.int .i64 m] W fun r w'=>r=.returned (.bool true)∧w'=W) :
  Calls Tryz.prog 8 #[.string ⟨s.toArray⟩,.int .i64 m] w fun r w'=>r=.returned (.tuple #[.float .f64 0,.int .i64 2])∧Bw w w':=by
 have hsz:(⟨s.toArray⟩:ByteArray).size=s.length:=rfl;have hlen:(1048576:Int)<(s.length:Int):=by omega
 go_enter Tryz.func8,Tryz.ntmps8
 go_wp2_with (first|(go_at_call 23;refine(k0 _).mono ?_;rintro r w' ⟨rfl,rfl⟩))
 refine xG6 (xF rfl _ _ _) rfl ?_;exact⟨rfl,xV9 _ _⟩
theorem zA1 (s D:List UInt8) (m sg:Int) (f:Nat) (w:World) (hL:s.length≤1048576) (k0:∀ W,Calls Tryz.prog 23 #[.int .i64 m] W fun r w'=>r=.returned (.bool true)∧w'=W) (kC:∀ W,Calls Tryz.prog 24 #[.string ⟨s.toArray⟩] W fun r w'=>r=.returned (.tuple #[.int .i64 sg,.string ⟨D.toArray⟩])∧Bw W w') (hD:D = [105,110,102])
  (kI:∀ W,Calls Tryz.prog 25 #[.int .i64 sg] W fun r w'=>r=.returned (.float .f64 f)∧w'=W) :
  Calls Tryz.prog 8 #[.string ⟨s.toArray⟩,.int .i64 m] w fun r w'=>r=.returned (.tuple #[.float .f64 f,.int .i64 0])∧Bw w w':=by
 subst hD;have hsz:(⟨s.toArray⟩:ByteArray).size=s.length:=rfl;have hlen:¬ (1048576:Int)<(s.length:Int):=by omega
 go_enter Tryz.func8,Tryz.ntmps8
 go_wp2_with (first|(go_at_call 23;refine(k0 _).mono ?_;rintro r w' ⟨rfl,rfl⟩)|(go_at_call 24;refine(kC _).mono ?_;rintro r w1 ⟨rfl,hb1⟩)|(go_at_call 25;refine(kI _).mono ?_;rintro r w' ⟨rfl,rfl⟩))
 refine xG6 (xF rfl _ _ _) rfl ?_;exact⟨rfl,hb1⟩
theorem zA0 (s D:List UInt8) (m sg:Int) (f:Nat) (w:World) (hL:s.length≤1048576) (k0:∀ W,Calls Tryz.prog 23 #[.int .i64 m] W fun r w'=>r=.returned (.bool true)∧w'=W) (kC:∀ W,Calls Tryz.prog 24 #[.string ⟨s.toArray⟩] W fun r w'=>r=.returned (.tuple #[.int .i64 sg,.string ⟨D.toArray⟩])∧Bw W w') (hD:D = [110,97,110])
  (kI:∀ W,Calls Tryz.prog 26 #[] W fun r w'=>r=.returned (.float .f64 f)∧w'=W) :
  Calls Tryz.prog 8 #[.string ⟨s.toArray⟩,.int .i64 m] w fun r w'=>r=.returned (.tuple #[.float .f64 f,.int .i64 0])∧Bw w w':=by
 subst hD;have hsz:(⟨s.toArray⟩:ByteArray).size=s.length:=rfl;have hlen:¬ (1048576:Int)<(s.length:Int):=by omega
 go_enter Tryz.func8,Tryz.ntmps8
 go_wp2_with (first|(go_at_call 23;refine(k0 _).mono ?_;rintro r w' ⟨rfl,rfl⟩)|(go_at_call 24;refine(kC _).mono ?_;rintro r w1 ⟨rfl,hb1⟩)|(go_at_call 26;refine(kI _).mono ?_;rintro r w' ⟨rfl,rfl⟩))
 refine xG6 (xF rfl _ _ _) rfl ?_;exact⟨rfl,hb1⟩
theorem zN (s D:List UInt8) (m sg:Int) (w:World) (hL:s.length≤1048576) (k0:∀ W,Calls Tryz.prog 23 #[.int .i64 m] W fun r w'=>r=.returned (.bool true)∧w'=W) (kC:∀ W,Calls Tryz.prog 24 #[.string ⟨s.toArray⟩] W fun r w'=>r=.returned (.tuple #[.int .i64 sg,.string ⟨D.toArray⟩])∧Bw W w') (hD1:(D == [105,110,102])=false) (hD2:(D == [110,97,110])=false)
  (kS:Hid (∀ W,Bw w W→Calls Tryz.prog 27 #[.string ⟨D.toArray⟩] W fun r w'=>∃ (b:Int) (d:List UInt8) (h e:Int),r=.returned (.tuple #[.agg #[.int .i64 b,.string ⟨d.toArray⟩,.int .i64 h,.int .i64 e],.bool false])∧Bw W w'))  :
  Calls Tryz.prog 8 #[.string ⟨s.toArray⟩,.int .i64 m] w fun r w'=>r=.returned (.tuple #[.float .f64 0,.int .i64 3])∧Bw w w':=by
 have hsz:(⟨s.toArray⟩:ByteArray).size=s.length:=rfl;have hlen:¬ (1048576:Int)<(s.length:Int):=by omega
 go_enter Tryz.func8,Tryz.ntmps8
 go_wp2_with (first|(go_at_call 23;refine(k0 _).mono ?_;rintro r w' ⟨rfl,rfl⟩)|(go_at_call 24;refine(kC _).mono ?_;rintro r w1 ⟨rfl,hb1⟩))
 have HB:Hid (Below _ _ w1):=hb1;have kk:=kS.out w1 hb1;clear kS hb1 kC;refine kk.mono ?_;rintro r w2 ⟨b,d,h,e,rfl,hb2⟩;clear kk;obtain⟨W2,hW2⟩:∃ W2,W2=w2.alloc (.cells #[.int .i64 b,.string ⟨d.toArray⟩,.int .i64 h,.int .i64 e] 45):=⟨_,rfl⟩;have hbV:Bw w2 W2:=by rw[hW2];exact(xV9 _ _).alloc (xV8 _) _
 have n6:W2.heap[w2.heap.size]?=some (.cells #[.int .i64 b,.string ⟨d.toArray⟩,.int .i64 h,.int .i64 e] 45 (0,0)):=by rw[hW2];exact xG5 _ _
 go_upto_region 12 with fail;rw[←hW2];clear hW2;have hb2':=HB.out.trans (hb2.mono HB.out.size);have HB2:Hid (Below _ _ W2):=hb2'.trans (hbV.mono hb2'.size);clear hbV hb2 hb2' HB;generalize w2.heap.size=gqN at *;obtain⟨c0,c1,c2,c3⟩:=qU4 n6;clear n6
 go_wp2;refine xG6 (xF rfl _ _ _) rfl ?_;exact⟨rfl,HB2.out⟩
theorem zQ7 (s D d:List UInt8) (m sg b h e:Int) (w:World) (hL:s.length≤1048576) (k0:∀ W,Calls Tryz.prog 23 #[.int .i64 m] W fun r w'=>r=.returned (.bool true)∧w'=W) (kC:∀ W,Calls Tryz.prog 24 #[.string ⟨s.toArray⟩] W fun r w'=>r=.returned (.tuple #[.int .i64 sg,.string ⟨D.toArray⟩])∧Bw W w') (hD1:(D == [105,110,102])=false) (hD2:(D == [110,97,110])=false)
  (kS:Hid (∀ W,Bw w W→Calls Tryz.prog 27 #[.string ⟨D.toArray⟩] W fun r w'=>r=.returned (.tuple #[.agg #[.int .i64 b,.string ⟨d.toArray⟩,.int .i64 h,.int .i64 e],.bool true])∧Bw W w')) (hd:1100<d.length) :
  Calls Tryz.prog 8 #[.string ⟨s.toArray⟩,.int .i64 m] w fun r w'=>r=.returned (.tuple #[.float .f64 0,.int .i64 2])∧Bw w w':=by
 have hsz:(⟨s.toArray⟩:ByteArray).size=s.length:=rfl;have hlen:¬ (1048576:Int)<(s.length:Int):=by omega
 have hsd:(⟨d.toArray⟩:ByteArray).size=d.length:=rfl;have hdl:(1100:Int)<(d.length:Int):=by omega
 go_enter Tryz.func8,Tryz.ntmps8
 go_wp2_with (first|(go_at_call 23;refine(k0 _).mono ?_;rintro r w' ⟨rfl,rfl⟩)|(go_at_call 24;refine(kC _).mono ?_;rintro r w1 ⟨rfl,hb1⟩))
 have HB:Hid (Below _ _ w1):=hb1;have kk:=kS.out w1 hb1;clear kS hb1 kC;refine kk.mono ?_;rintro r w2 ⟨rfl,hb2⟩;clear kk;obtain⟨W2,hW2⟩:∃ W2,W2=w2.alloc (.cells #[.int .i64 b,.string ⟨d.toArray⟩,.int .i64 h,.int .i64 e] 45):=⟨_,rfl⟩;have hbV:Bw w2 W2:=by rw[hW2];exact(xV9 _ _).alloc (xV8 _) _
 have n6:W2.heap[w2.heap.size]?=some (.cells #[.int .i64 b,.string ⟨d.toArray⟩,.int .i64 h,.int .i64 e] 45 (0,0)):=by rw[hW2];exact xG5 _ _
 go_upto_region 12 with fail;rw[←hW2];clear hW2;have hb2':=HB.out.trans (hb2.mono HB.out.size);have HB2:Hid (Below _ _ W2):=hb2'.trans (hbV.mono hb2'.size);clear hbV hb2 hb2' HB;generalize w2.heap.size=gqN at *;obtain⟨c0,c1,c2,c3⟩:=qU4 n6;clear n6
 go_wp2;refine xG6 (xF rfl _ _ _) rfl ?_;exact⟨rfl,HB2.out⟩
theorem yJ0 (s D d:List UInt8) (m sg b h e:Int) (w:World) (hL:s.length≤1048576) (k0:∀ W,Calls Tryz.prog 23 #[.int .i64 m] W fun r w'=>r=.returned (.bool true)∧w'=W) (kC:∀ W,Calls Tryz.prog 24 #[.string ⟨s.toArray⟩] W fun r w'=>r=.returned (.tuple #[.int .i64 sg,.string ⟨D.toArray⟩])∧Bw W w') (hD1:(D == [105,110,102])=false) (hD2:(D == [110,97,110])=false)
  (kS:Hid (∀ W,Bw w W→Calls Tryz.prog 27 #[.string ⟨D.toArray⟩] W fun r w'=>r=.returned (.tuple #[.agg #[.int .i64 b,.string ⟨d.toArray⟩,.int .i64 h,.int .i64 e],.bool true])∧Bw W w')) (f:Nat) (hd:d.length≤1100) (kR:Hid (∀ W,Bw w W→Calls Tryz.prog 28 #[.agg #[.int .i64 b,.string ⟨d.toArray⟩,.int .i64 h,.int .i64 e],.bool (decide (sg<0)),.int .i64 m] W fun r w'=>r=.returned (.float .f64 f)∧Bw W w')) :
  Calls Tryz.prog 8 #[.string ⟨s.toArray⟩,.int .i64 m] w fun r w'=>r=.returned (.tuple #[.float .f64 f,.int .i64 0])∧Bw w w':=by
 have hsz:(⟨s.toArray⟩:ByteArray).size=s.length:=rfl;have hlen:¬ (1048576:Int)<(s.length:Int):=by omega
 have hsd:(⟨d.toArray⟩:ByteArray).size=d.length:=rfl;have hdl:¬ (1100:Int)<(d.length:Int):=by omega
 go_enter Tryz.func8,Tryz.ntmps8
 go_wp2_with (first|(go_at_call 23;refine(k0 _).mono ?_;rintro r w' ⟨rfl,rfl⟩)|(go_at_call 24;refine(kC _).mono ?_;rintro r w1 ⟨rfl,hb1⟩))
 have HB:Hid (Below _ _ w1):=hb1;have kk:=kS.out w1 hb1;clear kS hb1 kC;refine kk.mono ?_;rintro r w2 ⟨rfl,hb2⟩;clear kk;obtain⟨W2,hW2⟩:∃ W2,W2=w2.alloc (.cells #[.int .i64 b,.string ⟨d.toArray⟩,.int .i64 h,.int .i64 e] 45):=⟨_,rfl⟩;have hbV:Bw w2 W2:=by rw[hW2];exact(xV9 _ _).alloc (xV8 _) _
 have n6:W2.heap[w2.heap.size]?=some (.cells #[.int .i64 b,.string ⟨d.toArray⟩,.int .i64 h,.int .i64 e] 45 (0,0)):=by rw[hW2];exact xG5 _ _
 go_upto_region 12 with fail;rw[←hW2];clear hW2;have hb2':=HB.out.trans (hb2.mono HB.out.size);have HB2:Hid (Below _ _ W2):=hb2'.trans (hbV.mono hb2'.size);clear hbV hb2 hb2' HB;generalize w2.heap.size=gqN at *;obtain⟨c0,c1,c2,c3⟩:=qU4 n6;clear n6;have kk:=kR.out W2 HB2.out;clear kR
 go_wp2_with fail;refine kk.mono ?_;rintro r w3 ⟨rfl,hb3⟩;have HB3:Hid (Below _ _ w3):=HB2.out.trans (hb3.mono HB2.out.size);clear kk hb3 HB2
 go_wp2;refine xG6 (xF rfl _ _ _) rfl ?_;exact⟨rfl,HB3.out⟩
end Go.Proofs.YtkcmhaknalomjaaGreatDoor
namespace Go.Proofs.YtkcmhaknalomjaaGreatDoor
open Go Go.RowKit Go.Fl64
theorem zU0 (s:List UInt8) (c:UInt8):Lib.hasPrefix s [c]=(s.head?==some c):=by
 cases s with
 | nil=>rfl
 | cons a t =>
  show([c].isPrefixOf (a :: t))=_
  by_cases h:c=a
  ·subst h;simp[List.isPrefixOf]
  ·have h1:(c==a)=false:=by rw[xH];exact h
   have h2:(some a==some c)=false:=by rw[xH];exact fun e=>h (xU e).symm
   simp[List.isPrefixOf,h1,h2]
theorem zG4 (s:List UInt8) (w:World) (hL:s.length≤2000000):Calls Tryz.prog 24 #[.string ⟨s.toArray⟩] w fun r w'=>r=.returned (.tuple #[.int .i64 (csS s),.string ⟨(csD s).toArray⟩])∧Bw w w':=by
 refine zB7 s w hL (fun W=>?_) (fun W=>?_)
 ·have h:=Tryz.strings_HasPrefix ⟨s.toArray⟩ ⟨#[45]⟩ W;rw[←zU0];exact h
 ·have h:=Tryz.strings_HasPrefix ⟨s.toArray⟩ ⟨#[43]⟩ W;rw[←zU0];exact h
theorem zW3 (s:List UInt8):(csD s).length≤s.length:=by
 unfold csD;split
 ·rw[List.length_tail];omega
 ·exact xV8 _
def dgO (b:Int) (D:List UInt8):Bool:=qN6 D b&&decide (D ≠ [])
def exO (E:List UInt8):Bool:=dgO 10 (csD E)
def exX (E:List UInt8):Int:=if exO E then csS E*rdE (csD E) (csD E).length else 0
theorem yK1 (E:List UInt8) (w:World) (hL:E.length≤1048576):Calls Tryz.prog 72 #[.string ⟨E.toArray⟩] w fun r w'=>r=.returned (.tuple #[.int .i64 (exX E),.bool (exO E)])∧Bw w w':=by
 have hl:=zW3 E;have k1:=fun W=>zG4 E W (by omega)
 have k2:=fun W=>qW7 (csD E) 10 W (by omega)
 have hsg:csS E=1∨csS E = -1:=by unfold csS;split <;> simp
 by_cases h:exO E=true
 ·have h':(qN6 (csD E) 10&&decide (csD E ≠ []))=true:=h;rw[h'] at k2;unfold exX;rw[if_pos h,h];exact zB3 E (csD E) (csS E) w (by omega) hsg k1 k2 ((qT9 _ _).1 (by rw[xG7] at h';exact h'.1))
 ·have h0:exO E=false:=by simpa using h
  have h':(qN6 (csD E) 10&&decide (csD E ≠ []))=false:=h0;rw[h'] at k2;unfold exX;rw[if_neg h,h0];exact zK7 E (csD E) (csS E) w k1 k2
def hexP (L:List UInt8):Bool:=Lib.hasPrefix L [48,120]||Lib.hasPrefix L [48,88]
def psS (L:List UInt8):List UInt8:=if hexP L then L.drop 2 else L
def psb (L:List UInt8):Int:=if hexP L then 16 else 10
def psM (L:List UInt8):List UInt8:=if hexP L then [112,80] else [101,69]
def psV (L:List UInt8):Int:=Lib.indexAny (psS L) (psM L)
def psD0 (L:List UInt8):List UInt8:=if 0≤psV L then(psS L).take (psV L).toNat else psS L
def psE (L:List UInt8):List UInt8:=(psS L).drop ((psV L).toNat+1)
def psD (L:List UInt8):List UInt8:=cuA (psD0 L)++cuB (psD0 L)
def psH (L:List UInt8):Nat:=(cuB (psD0 L)).length
def psX (L:List UInt8):Int:=if 0≤psV L then exX (psE L)else 0
def psOk (L:List UInt8):Bool:=(if 0≤psV L then exO (psE L)else !hexP L)&&dgO (psb L) (psD L)
theorem yQ5 {c:Nat} {b:Int} (h:isDg c b=true):c<128:=by
 unfold isDg at h;simp only[Bool.or_eq_true,xG7,decide_eq_true_eq] at h;omega
theorem zK3 (A B:List UInt8):asc (A++B)=(asc A&&asc B):=by unfold asc;rw[List.all_append]
theorem yG9 {b:Int} {D:List UInt8} (h:dgO b D=true):asc D=true:=by
 unfold dgO at h;rw[xG7] at h;unfold qN6 at h;unfold asc;rw[List.all_eq_true] at h ⊢;intro x hx;exact xU1 (yQ5 (h.1 x hx))
theorem yO7 {L:List UInt8} {c:UInt8} {i:Nat} (h:Lib.indexByte L c=(i:Int)):∃ t,L=L.take i++c :: t∧t=L.drop (i+1):=by
 induction L generalizing i with
 | nil=>exact absurd h (by show ¬ (-1:Int)=i;omega)
 | cons b l ih =>
  unfold Lib.indexByte at h;by_cases h1:(b==c)=true
  ·rw[if_pos h1] at h;obtain rfl:i=0:=by omega
   obtain rfl:b=c:=eq_of_beq h1;exact⟨l,rfl,rfl⟩
  ·rw[if_neg h1] at h;rcases ixbD l c with h2|⟨k,h2,h3⟩
   ·rw[h2] at h;exact absurd h (by show ¬ (-1:Int)=i;omega)
   ·rw[h2,if_neg (by rw[beq_iff_eq];omega)] at h
    obtain rfl:i=k+1:=by omega
    obtain⟨t,e1,e2⟩:=ih h2;refine⟨t,?_,e2⟩
    rw[List.take_succ_cons,List.cons_append,←e1]
theorem yR6 (T:List UInt8):(Lib.indexByte T 46 = -1∧cuA T=T∧cuB T = [])∨(T=cuA T++46 :: cuB T):=by
 rcases ixbD T 46 with h|⟨i,h,h2⟩
 ·refine .inl ⟨h,?_,?_⟩
  ·unfold cuA;rw[h,if_pos (by decide)]
  ·unfold cuB;rw[h,if_pos (by decide)]
 ·obtain⟨t,e1,e2⟩:=yO7 h;refine .inr ?_;have a:cuA T=T.take i:=by unfold cuA;rw[h,if_neg (by omega),xH6]
  have b:cuB T=T.drop (i+1):=by unfold cuB;rw[h,if_neg (by omega),xH6]
  rw[a,b,←e2];exact e1
theorem zC8 {b:Int} {T:List UInt8} (h:dgO b (cuA T++cuB T)=true):asc T=true:=by
 have h2:=yG9 h;rw[zK3,xG7] at h2;rcases yR6 T with ⟨_,e1,e2⟩|e
 ·rw[e1] at h2;exact h2.1
 ·rw[e,zK3,h2.1,Bool.true_and];show(decide ((46:UInt8).toNat<128)&&asc (cuB T))=true
  rw[h2.2];rfl
theorem xJ5 {E:List UInt8} (h:exO E=true):asc E=true:=by
 have h2:=yG9 h;unfold csD at h2;by_cases hc:E.head?=some 45∨E.head?=some 43
 ·rw[if_pos hc] at h2;cases E with
  | nil=>rfl
  | cons a t =>
   have ha:a=45∨a=43:=by simpa using hc
   show(decide (a.toNat<128)&&asc t)=true
   have h3:asc t=true:=h2;rw[h3];rcases ha with rfl|rfl <;> rfl
 ·rw[if_neg hc] at h2;exact h2
theorem xJ4 {b:Int} {S:List UInt8} {i:Nat} {c:UInt8} (hi:S[i]?=some c) (hc:c.toNat<128) (h1:exO (S.drop (i+1))=true) (h2:dgO b (cuA (S.take i)++cuB (S.take i))=true):asc S=true:=by
 have hl:i<S.length:=(List.getElem?_eq_some_iff.1 hi).1;have e:S=S.take i++c :: S.drop (i+1):=by
  rw[←(List.getElem?_eq_some_iff.1 hi).2,List.getElem_cons_drop,List.take_append_drop]
 rw[e,zK3,zC8 h2,Bool.true_and];show(decide (c.toNat<128)&&asc (S.drop (i+1)))=true
 rw[xJ5 h1,xU1 hc];rfl
theorem zZ9 {L:List UInt8} {c:UInt8} (h:(psM L).contains c=true):c.toNat<128:=by
 unfold psM at h;split at h
 ·have:c=112∨c=80:=by simpa using h
  rcases this with rfl|rfl <;> decide
 ·have:c=101∨c=69:=by simpa using h
  rcases this with rfl|rfl <;> decide
def spP (hex:Bool) (S:List UInt8) (b:Int) (v b':Int) (D:List UInt8) (h x:Int) (ok:Bool):Prop :=
 (∃ i,i<S.length∧v=(i:Int)∧b'=b∧D=cuA (S.take i)++cuB (S.take i)∧h=(cuB (S.take i)).length∧x=exX (S.drop (i+1))∧ok=(exO (S.drop (i+1))&&dgO b D))∨(v = -1∧hex=true∧ok=false)∨(v = -1∧hex=false∧b'=b∧D=cuA S++cuB S∧h=(cuB S).length∧x=0∧ok=dgO b D)
theorem yW6 {L D:List UInt8} {b' h x:Int} {ok:Bool} (hv:spP (hexP L) (psS L) (psb L) (psV L) b' D h x ok):ok=psOk L∧(psOk L=true→b'=psb L∧D=psD L∧h=psH L∧x=psX L):=by
 unfold psOk psD psH psX psD0 psE;rcases hv with ⟨i,hi,e1,e2,e3,e4,e5,e6⟩|⟨e1,e2,e3⟩|⟨e1,e2,e3,e4,e5,e6,e7⟩
 ·rw[e1,if_pos (by omega),if_pos (by omega),if_pos (by omega),xH6]
  exact⟨by rw[e6,e3],fun _=>⟨e2,e3,e4,e5⟩⟩
 ·rw[e1,if_neg (by decide),e2,e3]
  exact⟨rfl,fun h=>by cases h⟩
 ·rw[e1,if_neg (by decide),if_neg (by decide),if_neg (by decide),e2]
  exact⟨by rw[e7,e4];rfl,fun _=>⟨e3,e4,e5,e6⟩⟩
theorem zP3 {L D:List UInt8} {v b' h x:Int} (hix:v = -1∨∃ i,i<(psS L).length∧v=(i:Int)∧∃ c,(psS L)[i]?=some c∧(psM L).contains c=true) (hv:spP (hexP L) (psS L) (psb L) v b' D h x true):asc (psS L)=true:=by
 rcases hv with ⟨i,hi,e1,e2,e3,e4,e5,e6⟩|⟨e1,e2,e3⟩|⟨e1,e2,e3,e4,e5,e6,e7⟩
 ·rcases hix with h1|⟨j,hj,ej,c,h3,h4⟩
  ·omega
  ·obtain rfl:j=i:=by omega
   have e6':=e6.symm;rw[xG7,e3] at e6';exact xJ4 h3 (zZ9 h4) e6'.1 e6'.2
 ·cases e3
 ·rw[e4] at e7;exact zC8 e7.symm
theorem yH2 (L:List UInt8) (w:World) (hL:L.length≤1048576):Calls Tryz.prog 27 #[.string ⟨L.toArray⟩] w fun r w'=>∃ (b':Int) (D:List UInt8) (h x:Int),r=.returned (.tuple #[.agg #[.int .i64 b',.string ⟨D.toArray⟩,.int .i64 h,.int .i64 x],.bool (psOk L)])∧(psOk L=true→b'=psb L∧D=psD L∧h=psH L∧x=psX L)∧Bw w w':=by
 have hSL:(psS L).length≤L.length:=by unfold psS;split <;> (try rw[List.length_drop]) <;> omega
 obtain⟨c0,c1,hc,hc0,hc1⟩:∃ c0 c1:UInt8,psM L = [c0,c1]∧c0=(if hexP L then 112 else 101)∧c1=(if hexP L then 80 else 69):=by
  unfold psM;split
  ·exact⟨_,_,rfl,rfl,rfl⟩
  ·exact⟨_,_,rfl,rfl,rfl⟩
 have h0:c0.toNat<128:=zZ9 (L:=L) (by rw[hc];simp)
 have h1:c1.toNat<128:=zZ9 (L:=L) (by rw[hc];simp)
 have hp:hexP L=true→2≤L.length:=by
  intro h;unfold hexP Lib.hasPrefix at h;rw[Bool.or_eq_true] at h;rcases h with h|h
  ·have:=(List.isPrefixOf_iff_prefix.1 h).length_le;simpa using this
  ·have:=(List.isPrefixOf_iff_prefix.1 h).length_le;simpa using this
 refine(yY9 L (psS L) (Lib.hasPrefix L [48,120]) (Lib.hasPrefix L [48,88]) (hexP L) (psb L) c0 c1 (spP (hexP L) (psS L) (psb L)) exX exO cuA cuB (dgO (psb L)) w hL rfl rfl rfl hc0 hc1 hp (fun W=>Tryz.strings_HasPrefix ⟨L.toArray⟩ ⟨#[48,120]⟩ W) (fun W=>Tryz.strings_HasPrefix ⟨L.toArray⟩ ⟨#[48,88]⟩ W) (fun W=>Dany _ c0 c1 h0 h1 W (by omega)) (fun W i hi=>yK1 _ W (by rw[List.length_drop];omega)) (fun W D hD=>Dcut D W (by omega)) xX1 (fun W D hD=>qW7 D _ W (by omega)) (fun i hi=>.inl ⟨i,hi,rfl,rfl,rfl,rfl,rfl,rfl⟩) (fun h=>.inr (.inl ⟨rfl,h,rfl⟩)) (fun h=>.inr (.inr ⟨rfl,h,rfl,rfl,rfl,rfl,rfl⟩))).mono ?_
 rintro r w' ⟨v,b',D,h,x,ok,rfl,hix,hv,hb⟩;rw[←hc] at hix;by_cases ha:asc (psS L)=true∨8<(psS L).length
 ·have e:v=psV L:=hix.1 ha;subst e;obtain⟨e1,e2⟩:=yW6 hv;exact⟨b',D,h,x,by rw[e1],e2,hb⟩
 ·have hn:asc (psS L)≠true:=fun h=>ha (.inl h);have hok:ok=false:=by
   cases ok
   ·rfl
   ·exact absurd (zP3 hix.2 hv) hn
  have hps:psOk L=false:=by
   cases h9:psOk L
   ·rfl
   ·exfalso;have hV:spP (hexP L) (psS L) (psb L) (psV L) (psb L) (psD L) (psH L) (psX L) (psOk L):=by
     unfold psOk psD psH psX psD0 psE;rcases qH (psS L) (psM L)with h1|⟨i,h1,h2,h3⟩
     ·have h1':psV L = -1:=h1;rw[h1',if_neg (by decide),if_neg (by decide),if_neg (by decide)]
      cases hx:hexP L
      ·exact .inr (.inr ⟨rfl,rfl,rfl,rfl,rfl,rfl,rfl⟩)
      ·exact .inr (.inl ⟨rfl,rfl,rfl⟩)
     ·have h2':psV L=(i:Int):=h2;rw[h2',if_pos (by omega),if_pos (by omega),if_pos (by omega),xH6]
      exact .inl ⟨i,h1,rfl,rfl,rfl,rfl,rfl,rfl⟩
    rw[h9] at hV;exact hn (zP3 (qH _ _) hV)
  exact⟨b',D,h,x,by rw[hok,hps],fun h=>absurd h (by rw[hps];decide),hb⟩
theorem qH5 (a:Int) (p d:Nat):un a p=un (a*((2^d:Nat):Int)) (p+d):=by
 refine zZ0 (K:=p+d) (by omega) ?_ ?_
 ·omega
 ·rw[Nat.sub_self,xH4];have e1:vz (p+d) (decide (a<0)) a.natAbs (-(p:Int))=a*((2^d:Nat):Int):=by
   unfold vz;rw[zP1,show(-(p:Int)+((p+d:Nat):Int)).toNat=d by omega]
  rw[e1];simp
theorem qS3 (m:Int) (w:World):Calls Tryz.prog 23 #[.int .i64 m] w fun r w'=>r=.returned (.bool (decide (1≤m∧m≤3)))∧w'=w:=by
 by_cases h:1≤m∧m≤3
 ·rw[xU1 h];rcases(by omega:m=1∨m=2∨m=3)with rfl|rfl|rfl
  all_goals
   go_enter Tryz.func23,Tryz.ntmps23
   go_wp2
   go_ret;exact⟨rfl,rfl⟩
 ·rw[xU0 h];have h1:(m==1)=false:=by rw[xH];omega
  have h2:(m==2)=false:=by rw[xH];omega
  have h3:(m==3)=false:=by rw[xH];omega
  clear h
  go_enter Tryz.func23,Tryz.ntmps23
  go_wp2
  go_ret;exact⟨rfl,rfl⟩
theorem klen {n:Nat} (h:n≤7500):KLen n:=fun W=>c156 n (by omega) W
theorem qR9 {Z:Int} {p b:Nat} (h:Z.natAbs<2^b) (hb:b≤60000) (hp:p≤60000) {W:World} {X:Value} (hX:PN W X (un Z p)) :
  Calls Tryz.prog 76 #[X] W fun r w'=>r=.returned (.int .i64 (if Z=0 then 0 else if Z<0 then -1 else 1))∧Bw W w':=by
 have k:=psign (qV6 h hb hp) hX;have e:sgI (un Z p).1 (dlen (un Z p).2.1)=(if Z=0 then 0 else if Z<0 then -1 else 1):=by
  unfold sgI;have h1:=(qJ8 (Z:=Z) (p:=p)).2;by_cases hz:Z=0
  ·rw[if_pos hz,if_pos (qQ7.2 (h1.2 hz))]
  ·rw[if_neg hz,if_neg (fun h=>hz (h1.1 (qQ7.1 h)))];have e1:(un Z p).1=decide (Z<0):=by unfold un cn;rw[if_neg (show ¬ Z.natAbs=0 by omega)]
   rw[e1];by_cases hn:Z<0
   ·rw[if_pos hn,if_pos (xU1 hn)]
   ·rw[if_neg hn,if_neg (by simpa using hn)]
 rw[e] at k;exact k
theorem yQ4 {c:Nat} {b:Nat} (hb:b=10∨b=16) (hc:c<256) (h:isDg c (b:Int)=true):dgB c<b:=by
 have key:∀ c:Fin 256,(isDg c.val 10=true→dgB c.val<10)∧(isDg c.val 16=true→dgB c.val<16):=by decide +kernel
 have:=key ⟨c,hc⟩
 rcases hb with rfl|rfl
 ·exact this.1 h
 ·exact this.2 h
theorem yG1 {b:Nat} {D:List UInt8} (hb:b=10∨b=16) (h:qN6 D (b:Int)=true):∀ j,j<D.length→dgB (bL D j)<b:=fun j hj=>yQ4 hb (yX6 D j) ((qT9 _ _).1 h j hj)
theorem yI4 (n:Nat):16^n=2^(4*n):=by rw[Nat.pow_mul]
theorem yS1 {b:Nat} {D:List UInt8} (hb:b=10∨b=16) (h:qN6 D (b:Int)=true) (k:Nat) (hk:k≤D.length):dvP b D k<2^(4*k):=by
 have h1:dvP b D k<b^k:=qI8 fun j hj=>yG1 hb h j (by omega)
 have h2:b^k≤16^k:=Nat.pow_le_pow_left (by rcases hb with rfl|rfl <;> omega) k
 rw[←yI4];omega
theorem zK1 {b n:Nat} (hb:b=10∨b=16):b^n<2^(4*n+1):=by
 have h2:b^n≤16^n:=Nat.pow_le_pow_left (by rcases hb with rfl|rfl <;> omega) n
 rw[yI4] at h2;rw[xH2];have:0<2^(4*n):=Nat.pow_pos (by decide)
 omega
theorem yH1 {b:Nat} {D:List UInt8} {h e:Int} {w:World} (hT:Tab32 w) (hb:b=10∨b=16) (hd:qN6 D (b:Int)=true) (hl:D.length≤1100) :
  Calls Tryz.prog 75 #[.agg #[.int .i64 (b:Int),.string ⟨D.toArray⟩,.int .i64 h,.int .i64 e]] w fun r w'=>OutA w (un ((dvP b D D.length:Nat):Int) 0) r w':=by
 have hpart:∀ (P:List UInt8) (k:Nat),P=(D.drop k).take (min 15 (D.length - k))→k<D.length→P.length≤15∧0<P.length∧(∀ j,j<P.length→dgB (bL P j)<b):=by
  intro P k hP hk;have hlen:P.length=min 15 (D.length - k):=by rw[hP,List.length_take,List.length_drop];omega
  refine⟨by omega,by omega,fun j hj=>?_⟩
  have e:bL P j=bL D (k+j):=by
   unfold bL;rw[hP,List.getElem?_take_of_lt (by omega),List.getElem?_drop]
  rw[e];exact yG1 hb hd _ (by omega)
 have hval:∀ (P:List UInt8) (k:Nat),P=(D.drop k).take (min 15 (D.length - k))→k<D.length→dvP b P P.length<18446744073709551616:=by
  intro P k hP hk;obtain⟨a1,a2,a3⟩:=hpart P k hP hk;have h1:dvP b P P.length<b^P.length:=qI8 a3;have h2:b^P.length≤16^P.length:=Nat.pow_le_pow_left (by rcases hb with rfl|rfl <;> omega) _
  have h3:16^P.length≤16^15:=xU3 (by decide) a1
  have h4:(16:Nat)^15<18446744073709551616:=by decide
  omega
 refine yY3 b D h e (fun k=>un ((dvP b D k:Nat):Int) 0) (fun n=>un ((b^n:Nat):Int) 0) (fun k=>un ((dvP b ((D.drop k).take (min 15 (D.length - k))) (min 15 (D.length - k)):Nat):Int) 0) (fun k n=>un ((dvP b D k*b^n:Nat):Int) 0) w (un_0 0) (by omega) ?_ ?_ ?_ ?_ ?_
 ·intro W P k hP hk;obtain⟨a1,a2,a3⟩:=hpart P k hP hk;rcases hb with rfl|rfl
  ·exact yT5 P W a1 a2 a3
  ·exact yT4 P W a1 a2 a3
 ·intro W n hW hn;exact zG2 (hT.later hW) (by rcases hb with rfl|rfl <;> omega) (by rcases hb with rfl|rfl <;> omega) (by omega) (zK1 hb) (by omega) (fun V=>c156 n (by omega) V)
 ·intro W X Y k n hW hX hY hkn hn;have:=qJ1 (k:=4*k) (l:=4*n+1) (nabs (yS1 hb hd k (by omega))) (nabs (zK1 (n:=n) hb)) (by omega) (by omega) (hT.later hW) hX hY
  rw[←xH5] at this;exact this
 ·intro W P k hP hk hW;have hlen:P.length=min 15 (D.length - k):=by rw[hP,List.length_take,List.length_drop];omega
  have h1:=zE8 (hT.later hW) (hval P k hP hk);show Calls _ _ _ _ fun r w'=>OutA W (un ((dvP b ((D.drop k).take (min 15 (D.length - k))) (min 15 (D.length - k)):Nat):Int) 0) r w'
  rw[←hP,←hlen];exact h1
 ·intro W X Y k n hW hX hY hn hk;have e:dvP b D (k+n)=dvP b D k*b^n+dvP b ((D.drop k).take (min 15 (D.length - k))) (min 15 (D.length - k)):=by
   rw[zT9,←hn,zU5 _ _ _ _ (xV8 _)]
  obtain⟨q,hq⟩:∃ q:Nat,q=4500:=⟨_,rfl⟩;have b1:dvP b D k*b^n<2^q:=xU5 (yP2 (yS1 hb hd k (by omega)) (zK1 (n:=n) hb)) (xU3 (by decide) (by omega))
  have b2:dvP b ((D.drop k).take (min 15 (D.length - k))) (min 15 (D.length - k))<2^q:=by
   have h1:=hval _ k rfl hk;rw[show((D.drop k).take (min 15 (D.length - k))).length=min 15 (D.length - k) by rw[List.length_take,List.length_drop];omega] at h1
   exact xU5 h1 (xU7 (by decide:18446744073709551616≤2^64) (xU3 (by decide) (by omega)))
  have:=qF6 (paddN (p:=0) b1 b2 (by omega) (by omega)) (hT.later hW) hX hY
  rw[←e] at this;exact this
def rK (b:Int) (h:Nat) (x:Int):Int:=if b=16 then x - 4*h else x - h
def rO (b:Int) (h:Nat) (x:Int):Nat:=if b=16 then 2^(rK b h x).toNat else tnO (rK b h x)
def rP (b:Int) (h:Nat) (x:Int):Nat:=if b=16 then(-(rK b h x)).toNat else 0
def rU (b:Int) (h:Nat) (x:Int):Nat:=if b=16 then 1 else tnU (rK b h x)
def rdFl (neg:Bool) (b:Int) (D:List UInt8) (h:Nat) (x m:Int):Nat :=
 if dvP b.toNat D D.length=0 then sig neg 0 else rtF (un ((if neg then -((dvP b.toNat D D.length:Nat):Int) else(dvP b.toNat D D.length:Nat))*(rO b h x:Nat)) (rP b h x)) (un ((rU b h x:Nat):Int) 0) m
theorem xV {k:Int} {w:World} (hT:Tab32 w) (h1 : -20000≤k) (h2:k≤20000) :
  Calls Tryz.prog 139 #[.int .i64 k] w fun r w'=>qP7 w (un ((2^k.toNat:Nat):Int) (-k).toNat) (un ((1:Nat):Int) 0) r w':=by
 refine yY5 k _ _ w (fun W hW=>qF9 (n:=1) (hT.later hW) (by omega)) ?_
 intro W X hW hX;have e:un ((1:Nat):Int) 0=un ((2^k.toNat:Nat):Int) k.toNat:=by
  have:=qH5 1 0 k.toNat
  rw[Int.one_mul,Nat.zero_add] at this;exact this
 rw[e] at hX;exact qB8 (b:=k.toNat+1) (nabs (Nat.pow_lt_pow_right (by decide) (by omega))) (by omega) (by omega) (by omega) (by omega) hX
theorem xV0 {b:Int} {h:Nat} {x:Int} {d:ByteArray} {w:World} (hT:Tab32 w) (hb:b=10∨b=16) (hh:h≤1100) (hx : -6000≤x∧x≤6000) :
  Calls Tryz.prog 79 #[.agg #[.int .i64 b,.string d,.int .i64 (h:Int),.int .i64 x]] w fun r w'=>qP7 w (un ((rO b h x:Nat):Int) (rP b h x)) (un ((rU b h x:Nat):Int) 0) r w':=by
 unfold rO rP rU;rcases hb with rfl|rfl
 ·rw[if_neg (by decide),if_neg (by decide),if_neg (by decide)]
  refine yK0 10 h x d _ _ w (by decide) (by omega) (by omega) ?_
  intro W hW;have e:rK 10 h x=x - h:=by unfold rK;rw[if_neg (by decide)]
  rw[e];exact zG0 (hT.later hW) (by omega) (by omega) (fun n hn=>klen hn)
 ·rw[if_pos rfl,if_pos rfl,if_pos rfl];refine yK 16 h x d _ _ w rfl (by omega) (by omega) ?_
  intro W hW;have e:rK 16 h x=x - 4*h:=by unfold rK;rw[if_pos rfl]
  rw[e];exact xV (hT.later hW) (by omega) (by omega)
def dQ:Nat:=25000
theorem zH9:dQ=25000:=rfl
theorem rO_lt {b:Int} {h:Nat} {x:Int} (hb:b=10∨b=16) (hh:h≤1100) (hx : -6000≤x∧x≤6000):rO b h x<2^dQ∧rU b h x<2^dQ∧rP b h x≤20000∧0<rU b h x∧0<rO b h x:=by
 unfold rO rU rP;rcases hb with rfl|rfl
 ·rw[if_neg (by decide),if_neg (by decide),if_neg (by decide)]
  have e:rK 10 h x=x - h:=by unfold rK;rw[if_neg (by decide)]
  rw[e];have hd:(2:Nat)^dB≤2^dQ:=xU3 (by decide) (by rw[zH9];exact qT7)
  refine⟨xU5 (qA4 (by omega)) hd,xU5 (qA4 (by omega)) hd,by omega,Nat.pow_pos (by decide),Nat.pow_pos (by decide)⟩
 ·rw[if_pos rfl,if_pos rfl,if_pos rfl];have e:rK 16 h x=x - 4*h:=by unfold rK;rw[if_pos rfl]
  rw[e];exact⟨Nat.pow_lt_pow_right (by decide) (by rw[zH9];omega),Nat.one_lt_two_pow (by rw[zH9];omega),by omega,by omega,Nat.pow_pos (by decide)⟩
theorem zG1 {b:Nat} {D:List UInt8} {h:Nat} {x m:Int} {neg:Bool} {w:World} (hT:Tab32 w) (hb:b=10∨b=16) (hd:qN6 D (b:Int)=true) (hl:D.length≤1100) (hh:h≤1100) (hx : -6000≤x∧x≤6000) (hm:1≤m∧m≤3) :
  Calls Tryz.prog 28 #[.agg #[.int .i64 (b:Int),.string ⟨D.toArray⟩,.int .i64 (h:Int),.int .i64 x],.bool neg,.int .i64 m] w fun r w'=>r=.returned (.float .f64 (rdFl neg b D h x m))∧Bw w w':=by
 obtain⟨q,hq⟩:∃ q:Nat,q=4400:=⟨_,rfl⟩;have hN:dvP b D D.length<2^q:=xU5 (yS1 hb hd D.length (xV8 _)) (xU3 (by decide) (by omega))
 have hb':(b:Int)=10∨(b:Int)=16:=by omega
 obtain⟨o1,o2,o3,o4,o5⟩:=rO_lt hb' hh hx;unfold rdFl;rw[xH6];generalize hNN:dvP b D D.length=N at *;by_cases h0:N=0
 ·rw[if_pos h0];refine zB2 _ _ _ _ _ _ (un ((N:Nat):Int) 0) _ w ?_ ?_ ?_
  ·intro W hW;have:=yH1 (h:=(h:Int)) (e:=x) (hT.later hW) hb hd hl
   rw[hNN] at this;exact this
  ·intro W X hW hX;have:=qR9 (b:=q) (nabs hN) (by omega) (by omega) hX
   rw[if_pos (by omega)] at this
   exact this
  ·intro W hW;have:=Ie.c24 neg 0 0 m (by omega) W
   rw[zS9 hm] at this;refine this.mono ?_;rintro r w' ⟨rfl,rfl⟩;exact⟨rfl,xV9 _ _⟩
 ·rw[if_neg h0];generalize hO:rO (b:Int) h x=O at *;generalize hU:rU (b:Int) h x=U at *;generalize hP:rP (b:Int) h x=P at *;have hz:(if neg=true then -(N:Int) else(N:Int)).natAbs<2^q:=by split <;> omega
  have hz0:(if neg=true then -(N:Int) else(N:Int))≠0:=by split <;> omega
  refine zB1 _ _ _ _ 1 0 _ _ (un ((N:Nat):Int) 0) (un (if neg=true then -(N:Int) else(N:Int)) 0) (un ((O:Nat):Int) P) (un ((U:Nat):Int) 0) (un ((if neg=true then -(N:Int) else(N:Int))*((O:Nat):Int)) P) _ w (by decide:¬ (1:Int)=0) ?_ ?_ ?_ ?_ ?_ ?_ ?_
  ·intro W hW;have:=yH1 (h:=(h:Int)) (e:=x) (hT.later hW) hb hd hl
   rw[hNN] at this;exact this
  ·intro W X hW hX;have:=qR9 (b:=q) (nabs hN) (by omega) (by omega) hX
   rw[if_neg (by omega),if_neg (by omega)] at this
   exact this
  ·intro hn W X hW hX;have:=yN8 (b:=q) (nabs hN) (by omega) hX
   rw[if_pos hn];exact this
  ·intro hn;show un (if neg=true then -(N:Int) else(N:Int)) 0=un ((N:Nat):Int) 0
   rw[hn];rfl
  ·intro W hW;have:=xV0 (d:=⟨D.toArray⟩) (hT.later hW) hb' hh hx
   rw[hO,hP,hU] at this;exact this
  ·intro W X Y hW hX hY;have:=qJ1 (k:=q) (l:=dQ) (p:=0) (q:=P) hz (nabs o1) (by rw[zH9];omega) (by omega) (hT.later hW) hX hY
   rw[Nat.zero_add] at this;exact this
  ·intro W X Y hW hX hY;have hprod:((if neg=true then -(N:Int) else(N:Int))*((O:Nat):Int)).natAbs<2^(q+dQ):=qF5 hz (nabs o1);refine yI2 (hT.later hW) (qV6 hprod (by rw[zH9];omega) (by omega)) (qV6 (nabs o2) (by rw[zH9];omega) (by omega)) hX hY ?_ ?_ hm
   ·rw[Ne,(qJ8 (p:=P)).2];exact Int.mul_ne_zero hz0 (by omega)
   ·rw[Ne,(qJ8 (p:=0)).2];omega
theorem yN7 {A B p k:Nat} (hA0:0<A) (h1:A<2^k) (h2:B<2^k) (h0:0<B) (hk:k≤60000) (hp:p≤60000) {W:World} {X Y:Value} (hT:Tab32 W) (hX:PN W X (un (-(A:Int)) p)) (hY:PN W Y (un (B:Int) p)) :
  Calls Tryz.prog 100 #[X,Y,.int .i64 0] W fun r w'=>∃ s ao n cap e,r=.returned (.tuple #[.agg #[.bool s,.slice ao n cap,.int .i64 e],.bool (decide (A % B=0)),.int .i64 0])∧PN w' (.agg #[.bool s,.slice ao n cap,.int .i64 e]) (un (-((if A % B=0 then A / B else A / B+1:Nat):Int)) 0)∧Bw W w':=by
 have a1:(-((A:Nat):Int)).natAbs<2^k:=by rw[Int.natAbs_neg,xG9];exact h1
 have b1:((B:Nat):Int).natAbs<2^k:=by rw[xG9];exact h2
 have o1:=qV6 (p:=p) a1 hk hp;have o2:=qV6 (p:=p) b1 hk hp;have f1:=o1.facts;have f2:=o2.facts;have v1:=qD (K:=p) (p:=p) (-(A:Int)) (xV8 _);have v2:=qD (K:=p) (p:=p) (B:Int) (xV8 _);have g1:=(un_e (p:=p) a1).2.2;have g2:=(un_e (p:=p) b1).2.2;have n1:(un (-(A:Int)) p).1=true:=by unfold un cn;rw[if_neg (show ¬ (-(A:Int)).natAbs=0 by omega)];exact xU1 (by omega)
 have n2:=zM2 (A:=B) (p:=p);have z2:(un (B:Int) p).2.1≠0:=fun h=>by have:=qJ8.2.1 h;omega
 obtain⟨ua,uc,rfl,i1⟩:=hX;obtain⟨va,vc,rfl,i2⟩:=hY;obtain⟨t1,ht1⟩:∃ t,t=un (-(A:Int)) p:=⟨_,rfl⟩;obtain⟨t2,ht2⟩:∃ t,t=un (B:Int) p:=⟨_,rfl⟩;rw[←ht1] at o1 f1 v1 g1 n1 i1 ⊢;rw[←ht2] at o2 f2 v2 g2 n2 z2 i2 ⊢;obtain⟨s1,x,ea⟩:=t1;obtain⟨s2,y,eb⟩:=t2;simp only at o1 f1 v1 g1 n1 i1 o2 f2 v2 g2 n2 z2 i2 ⊢
 subst n1;subst n2;have eA:x*2^(ea+(p:Int)).toNat=A:=by
  unfold vz sv at v1;rw[Nat.sub_self,xH4] at v1;simp only[if_true,Int.mul_one] at v1;have:((x*2^(ea+(p:Int)).toNat:Nat):Int)=(A:Int):=by
   have v1' : -((x:Int))*((2^(ea+(p:Int)).toNat:Nat):Int) = -(A:Int):=by simpa using v1
   rw[Int.neg_mul] at v1';rw[xH5];omega
  exact Int.ofNat.inj this
 have eB:y*2^(eb+(p:Int)).toNat=B:=by
  unfold vz sv at v2;rw[Nat.sub_self,xH4] at v2;simp only[Bool.false_eq_true,if_false,Int.mul_one] at v2;have:((y*2^(eb+(p:Int)).toNat:Nat):Int)=(B:Int):=by
   rw[xH5];simpa using v2
  exact Int.ofNat.inj this
 obtain⟨P,hP⟩:∃ P,x*2^(ea+0 - min (ea+0) eb).toNat=P:=⟨_,rfl⟩;obtain⟨Q,hQ⟩:∃ Q,y*2^(eb - min (ea+0) eb).toNat=Q:=⟨_,rfl⟩;have hQ0:0<Q:=by rw[←hQ];exact Nat.mul_pos (xU9 z2) (xU2 _)
 have hcr:P*B=A*Q:=by
  rw[←hP,←hQ,←eA,←eB];have e1:(ea+0 - min (ea+0) eb).toNat+(eb+(p:Int)).toNat=(ea+(p:Int)).toNat+(eb - min (ea+0) eb).toNat:=by omega
  generalize (ea+0 - min (ea+0) eb).toNat=j1 at *;generalize (eb+(p:Int)).toNat=j2 at *;generalize (ea+(p:Int)).toNat=j3 at *;generalize (eb - min (ea+0) eb).toNat=j4 at *;have e2:(2:Nat)^j1*2^j2=2^j3*2^j4:=by rw[←xH0,←xH0,e1]
  calc x*2^j1*(y*2^j2)=x*y*(2^j1*2^j2):=by ac_rfl
   _=x*y*(2^j3*2^j4):=by rw[e2]
   _=x*2^j3*(y*2^j4):=by ac_rfl
 obtain⟨d1,d2⟩:=qO2 hQ0 h0 hcr;refine(c44 (na:=true) (nb:=false) (place:=0) i1 i2 hT z2 (by omega) (by omega) o1 o2 ⟨f1.2.1,f1.2.2.1⟩ ⟨f2.2.1,f2.2.2.1⟩ (by omega) P Q hP hQ).mono ?_
 rintro r w' ⟨N,rfl,hN,hb⟩;have hz:(if((true:Bool) != false) && !(decide (P % Q=0))then P / Q+1 else P / Q)=(if A % B=0 then A / B else A / B+1):=by
  rw[←d1];by_cases h:A % B=0
  ·rw[if_pos h,xU1 (d2.2 h)];rfl
  ·rw[if_neg h,xU0 (fun g=>h (d2.1 g))];rfl
 have hdec:decide (P % Q=0)=decide (A % B=0):=by
  by_cases h:A % B=0
  ·rw[xU1 h,xU1 (d2.2 h)]
  ·rw[xU0 h,xU0 (fun g=>h (d2.1 g))]
 obtain⟨R,hR⟩:∃ R,R=(if A % B=0 then A / B else A / B+1):=⟨_,rfl⟩;have hR0:0<R:=by
  rw[hR];by_cases h:A % B=0
  ·rw[if_pos h];have:=Nat.div_add_mod A B
   rw[h] at this;apply xU9
   intro h9;rw[h9,Nat.mul_zero] at this;omega
  ·rw[if_neg h];exact Nat.succ_pos _
 have hR2:R≤A:=by
  have hle:=xU8 A B;rw[hR];by_cases h:A % B=0
  ·rw[if_pos h];exact hle
  ·rw[if_neg h];have h9:=Nat.div_add_mod A B;have h8:A / B≤B*(A / B):=Nat.le_mul_of_pos_left _ h0;omega
 rw[hz,←hR] at hN;rw[←hR];have hq1:(-((R:Nat):Int)).natAbs<2^k:=by rw[Int.natAbs_neg,xG9];omega
 have hokq:okR ((true:Bool) != false) R (-(0:Int))=true:=by
  have:=zV9 (p:=0) hq1 hk (by omega)
  rw[xU1 (by omega),Int.natAbs_neg,xG9] at this
  exact this
 rw[hz,←hR,hokq,hdec];have hpn:=hN.pn;have he:cn ((true:Bool) != false) R (-(0:Int))=un (-((R:Nat):Int)) 0:=by
  unfold un;rw[xU1 (by omega),Int.natAbs_neg,xG9]
  rfl
 rw[he] at hpn;obtain⟨s',ao,n,cap,e',rfl⟩:=hpn.shape;exact⟨s',ao,n,cap,e',by rw[Bool.and_true];rfl,hpn,hb⟩
theorem yI3 {Z:Int} {B p k:Nat} (h1:Z.natAbs<2^k) (h2:B<2^k) (h0:0<B) (hk:k≤60000) (hp:p≤60000) {W:World} {X Y:Value} (hT:Tab32 W) (hX:PN W X (un Z p)) (hY:PN W Y (un (B:Int) p)) :
  Calls Tryz.prog 100 #[X,Y,.int .i64 0] W fun r w'=>∃ A,r=.returned (.tuple #[A,.bool (decide (Z % (B:Int)=0)),.int .i64 0])∧PN w' A (un (Z / (B:Int)) 0)∧Bw W w':=by
 have hB:(0:Int)<(B:Int):=by omega
 by_cases hz:Z<0
 ·obtain⟨A,hA⟩:∃ A:Nat,Z = -(A:Int):=⟨Z.natAbs,by omega⟩
  subst hA;rw[Int.natAbs_neg,xG9] at h1;refine(yN7 (by omega) h1 h2 h0 hk hp hT hX hY).mono ?_
  rintro r w' ⟨s,ao,n,cap,e,rfl,hp',hb⟩;have d1:=Nat.div_add_mod A B;have d2:=xG1 A h0;have d3:((B*(A / B):Nat):Int)+((A % B:Nat):Int)=(A:Int):=by rw[←Int.natCast_add,d1]
  rw[xH5] at d3;obtain⟨q,hq⟩:∃ q:Nat,q=A / B:=⟨_,rfl⟩;obtain⟨c,hc⟩:∃ c:Nat,c=A % B:=⟨_,rfl⟩;rw[←hq,←hc] at d3;rw[←hc] at d2;have key:(-(A:Int)) / (B:Int) = -((if A % B=0 then A / B else A / B+1:Nat):Int)∧((-(A:Int)) % (B:Int)=0↔A % B=0):=by
   rw[←hq,←hc];by_cases h:c=0
   ·rw[if_pos h];have:=(Int.ediv_emod_unique (a := -(A:Int)) (b:=(B:Int)) (r:=0) (q := -(q:Int)) hB).2 ⟨by rw[h] at d3;rw[Int.mul_neg];omega,by omega,hB⟩
    exact⟨this.1,by rw[this.2];simp[h]⟩
   ·rw[if_neg h];have:=(Int.ediv_emod_unique (a := -(A:Int)) (b:=(B:Int)) (r:=(B:Int) - (c:Int)) (q := -((q:Int)+1)) hB).2 ⟨by rw[Int.mul_neg,Int.mul_add,Int.mul_one];omega,by omega,by omega⟩
    refine⟨by rw[this.1];push_cast;rfl,?_⟩
    rw[this.2];constructor
    ·intro h9;omega
    ·intro h9;exact absurd h9 h
  refine⟨_,?_,by rw[key.1];exact hp',hb⟩
  have:decide (A % B=0)=decide ((-(A:Int)) % (B:Int)=0):=by
   by_cases h:A % B=0
   ·rw[xU1 h,xU1 (key.2.2 h)]
   ·rw[xU0 h,xU0 (fun g=>h (key.2.1 g))]
  rw[this]
 ·obtain⟨A,hA⟩:∃ A:Nat,Z=(A:Int):=⟨Z.natAbs,by omega⟩
  subst hA;rw[xG9] at h1;refine(zS2 h1 h2 h0 hk hp hT hX hY).mono ?_
  rintro r w' ⟨s,ao,n,cap,e,rfl,hp',hb⟩;refine⟨_,?_,by rw[←Int.natCast_ediv];exact hp',hb⟩
  have:decide (A % B=0)=decide ((A:Int) % (B:Int)=0):=by
   by_cases h:A % B=0
   ·rw[xU1 h,xU1 (by omega)]
   ·rw[xU0 h,xU0 (by omega)]
  rw[this]
def kP:Nat:=1074
theorem qD9:kP=1074:=rfl
theorem zG3 {Z:Int} {O U p k l:Nat} {W:World} {S X:Value} (hT:Tab32 W) (hS:Fv W S (un ((O:Nat):Int) 0) (un ((U:Nat):Int) 0)) (hX:PN W X (un Z p)) (h1:Z.natAbs<2^k) (h2:O<2^l) (h3:U<2^l) (h0:0<U) (hk:k+l+p≤60000) :
  Calls Tryz.prog 105 #[S,X] W fun r w'=>zQ1 W (un (Z*(O:Int) / ((U*2^p:Nat):Int)) 0) (decide (Z*(O:Int) % ((U*2^p:Nat):Int)=0)) r w':=by
 obtain⟨s1,ao1,n1,cp1,e1,s2,ao2,n2,cp2,e2,rfl,p1,p2⟩:=hS;obtain⟨s3,ao3,n3,cp3,e3,rfl⟩:=hX.shape;refine yK7 s1 ao1 n1 cp1 e1 s2 ao2 n2 cp2 e2 s3 ao3 n3 cp3 e3 _ _ _ (un (Z*(O:Int)) p) _ _ W p1 p2 hX ?_ ?_
 ·intro V X Y hV hX hY;have:=qJ1 (p:=p) (q:=0) h1 (nabs h2) (by omega) (by omega) (hT.later hV) hX hY
  exact this
 ·intro V X Y hV hX hY;have e:un ((U:Nat):Int) 0=un ((U*2^p:Nat):Int) p:=by
   rw[qH5 _ 0 p,←xH5,Nat.zero_add]
  rw[e] at hY;have hm:(Z*(O:Int)).natAbs<2^(k+l+p):=qB1 p (qF5 h1 (nabs h2));have hu:U*2^p<2^(k+l+p):=by
   have h9:U*2^p<2^l*2^p:=xF0 h3 (xU2 _);rw[←xH0] at h9;exact xU5 h9 (xU3 (by decide) (by omega))
  exact yI3 hm hu (Nat.mul_pos h0 (xU2 _)) hk (by omega) (hT.later hV) hX hY
def sZ (a:Nat):Int:=if neg a then -((fU a:Nat):Int) else((fU a:Nat):Int)
theorem tF_sZ {a:Nat} (hl : -1074≤Ie.lp a):tF a=un (sZ a) kP:=by
 unfold tF kP;refine zZ0 (K:=1074) (xV8 _) (by omega) ?_
 unfold sZ vz sv fU;rw[Nat.sub_self,xH4,xH5];cases neg a
 ·simp
 ·simp[Int.neg_mul]
theorem yV6 (a:Nat):(sZ a).natAbs=fU a:=by unfold sZ;split <;> omega
theorem qH9 (a:Nat):(sZ a).natAbs<2^bU:=by rw[yV6];exact qT4 a
theorem qL {a:Nat} {w:World} (hT:Tab32 w) (hI:Ie.Tab w) (ha:a<18446744073709551616) (hf:mag a<9218868437227405312):Calls Tryz.prog 43 #[.float .f64 a] w fun r w'=>OutA w (un (sZ a) kP) r w':=by
 refine yK8 a _ w fun W hW=>?_;have:=ofN a ha hf W (hT.later hW) (fun i hi=>(hW.cell (World.block_lt_of_cell? _ _ (hI i hi))).trans (hI i hi))
 rw[tF_sZ (zJ1 a hf).2.1] at this;exact this
theorem yJ7 (Z:Int) (p:Nat):un ((Z.natAbs:Nat):Int) p=(false,(un Z p).2.1,(un Z p).2.2):=by
 unfold un cn;rw[xG9,xU0 (by omega)]
 by_cases h:Z.natAbs=0
 ·rw[if_pos h,if_pos h]
 ·rw[if_neg h,if_neg h]
theorem yM1 {Z:Int} {b:Nat} (h:Z.natAbs<2^b) (hb:b≤60000) {W:World} {X:Value} (hX:PN W X (un Z 0)):Calls Tryz.prog 67 #[X] W fun r w'=>OutA W (un ((Z.natAbs:Nat):Int) 0) r w':=by
 obtain⟨ao,cap,rfl,hI⟩:=hX;have ok:=qV6 (p:=0) h hb (by omega)
 have f:=ok.facts;refine(yH hI (by omega) ok).mono ?_
 rintro r w' ⟨v,rfl,hO,hB⟩;obtain⟨ao',cap',rfl,o1,o2,o3⟩:=hO.is;rw[yJ7];exact⟨_,_,_,_,_,rfl,⟨ao',cap',rfl,⟨ao',cap',rfl,o1,o2,o3⟩⟩,hB⟩
def kP1:Nat:=1073
theorem yU7:(kP:Int) - 1=kP1:=rfl
def unF (Z:Int) (O U:Nat):Int:=Z*(O:Int) / ((U*2^kP:Nat):Int)
def unX (Z:Int) (O U:Nat):Bool:=decide (Z*(O:Int) % ((U*2^kP:Nat):Int)=0)
def unA (Z:Int) (O U:Nat):Bool:=decide ((unF Z O U*2+1)*(U:Int)*((2^kP1:Nat):Int)<Z*(O:Int))||(decide ((unF Z O U*2+1)*(U:Int)*((2^kP1:Nat):Int)=Z*(O:Int))&&decide (unF Z O U % 2=1))
def unP (Z:Int) (O U:Nat) (m:Int):Bool := !unX Z O U&&(decide (m=3)||decide (m=2)&&unA Z O U)
def unR (Z:Int) (O U:Nat) (m:Int):Int:=if unP Z O U m then unF Z O U+1 else unF Z O U
theorem yL5 {L:Int} (e4:Int) (he:e4=(un L 0).2.2):(decide (e4=0)&&decide ((if L=0 then(0:Int)else if L<0 then -1 else 1)≠0))=decide (L % 2=1):=by
 subst he;by_cases h0:L=0
 ·subst h0;rfl
 ·have h1:(if L=0 then(0:Int)else if L<0 then -1 else 1)≠0:=by rw[if_neg h0];split <;> decide
  rw[xU1 h1,Bool.and_true];have e2:(un L 0).2.2=(tz L.natAbs:Int):=by
   unfold un cn;rw[if_neg (by omega)]
   simp
  rw[e2];by_cases ho:L.natAbs % 2=1
  ·rw[qL1 ho,xU1 (by rfl),xU1 (by omega)]
  ·rw[qW9 (by omega) (by omega),xU0 (by omega),xU0 (by omega)]
theorem zJ4 {Z:Int} {O U k l:Nat} (h1:Z.natAbs<2^k) (h2:O<2^l) (h0:0<U):(unF Z O U).natAbs<2^(k+l+1):=by
 have hm:(Z*(O:Int)).natAbs<2^(k+l):=qF5 h1 (nabs h2);have hB:(0:Int)<((U*2^kP:Nat):Int):=by
  have:=Nat.mul_pos h0 (xU2 kP)
  omega
 unfold unF;generalize Z*(O:Int)=a at *;generalize ((U*2^kP:Nat):Int)=b at *;rw[xH2];have h3:a / b≤a.natAbs:=by
  rcases Int.lt_or_le a 0 with h|h
  ·have:=Int.ediv_neg_of_neg_of_pos h hB;omega
  ·have:=Int.ediv_le_self b h;omega
 have h4 : -(a.natAbs:Int)≤a / b:=by
  rcases Int.lt_or_le a 0 with h|h
  ·rw[Int.le_ediv_iff_mul_le hB];have : -(a.natAbs:Int)=a:=by omega
   rw[this];have h5:a*b≤a*1:=Int.mul_le_mul_of_nonpos_left (by omega) (by omega)
   omega
  ·have:=Int.ediv_nonneg h (Int.le_of_lt hB);omega
 omega
theorem xV5 {Z:Int} {O U k l:Nat} {W:World} {S X L:Value} (hT:Tab32 W) (hS:Fv W S (un ((O:Nat):Int) 0) (un ((U:Nat):Int) 0)) (hX:PN W X (un Z kP)) (hL:PN W L (un (unF Z O U) 0)) (h1:Z.natAbs<2^k) (h2:O<2^l) (h3:U<2^l) (h0:0<U) (hk:k+l+l+2000≤60000) :
  Calls Tryz.prog 106 #[S,X,L] W fun r w'=>r=.returned (.bool (unA Z O U))∧Bw W w':=by
 have hF:=zJ4 (k:=k) (l:=l) (Z:=Z) h1 h2 h0;unfold unA;generalize hFe:unF Z O U=F at *;obtain⟨s1,ao1,n1,cp1,e1,s2,ao2,n2,cp2,e2,rfl,p1,p2⟩:=hS;obtain⟨s3,ao3,n3,cp3,e3,rfl⟩:=hX.shape;obtain⟨s4,ao4,n4,cp4,e4,rfl⟩:=hL.shape;have he4:e4=(un F 0).2.2:=by
  obtain⟨ao,cap,h,-⟩:=hL;injection h with h;simp at h
  exact h.2.2
 have hF2:(F*2).natAbs<2^(k+l+2):=by rw[show k+l+2=(k+l+1)+1 by omega,xH2];omega
 have hF3:(F*2+1).natAbs<2^(k+l+3):=by rw[show k+l+3=(k+l+2)+1 by omega,xH2];omega
 refine yJ s1 ao1 n1 cp1 e1 s2 ao2 n2 cp2 e2 s3 ao3 n3 cp3 e3 s4 ao4 n4 cp4 e4 _ _ _ (un Z kP1) _ (un (F*2) 0) (un 1 0) (un (F*2+1) 0) (un (Z*(O:Int)) kP1) (un ((F*2+1)*(U:Int)) 0) (cmpI (Z*(O:Int)) ((F*2+1)*(U:Int)*((2^kP1:Nat):Int))) (if F=0 then 0 else if F<0 then -1 else 1) _ W p1 p2 hX hL ?_ ?_ ?_ ?_ ?_ ?_ ?_ ?_ ?_
 ·intro V X hV hX;have e:un F 0=un (F*2) 1:=qH5 F 0 1;rw[e] at hX;exact qB8 (b:=k+l+2) hF2 (by omega) (by omega) (q:=0) (by omega) (by omega) hX
 ·intro V X hV hX;exact qB8 (b:=k) h1 (by omega) (by rw[qD9];omega) (q:=kP1) (by unfold kP1;omega) yU7 hX
 ·intro V hV;exact qF9 (n:=1) (hT.later hV) (by omega)
 ·intro V X Y hV hX hY;exact qF6 (qT0 (p:=0) (k:=k+l+2) hF2 (by have:1<2^(k+l+2):=Nat.one_lt_two_pow (by omega);omega) (by omega) (by omega)) (hT.later hV) hX hY
 ·intro V X Y hV hX hY;exact qJ1 (p:=kP1) (q:=0) h1 (nabs h2) (by omega) (by unfold kP1;omega) (hT.later hV) hX hY
 ·intro V X Y hV hX hY;exact qJ1 (p:=0) (q:=0) hF3 (nabs h3) (by omega) (by omega) (hT.later hV) hX hY
 ·intro V X Y hV hX hY;have e:un ((F*2+1)*(U:Int)) 0=un ((F*2+1)*(U:Int)*((2^kP1:Nat):Int)) kP1:=by
   rw[qH5 _ 0 kP1,Nat.zero_add]
  rw[e] at hY;have g1:(Z*(O:Int)).natAbs<2^(k+l+l+1500):=xU5 (qF5 h1 (nabs h2)) (xU3 (by decide) (by omega))
  have g2:((F*2+1)*(U:Int)*((2^kP1:Nat):Int)).natAbs<2^(k+l+l+1500):=by
   have:=qF5 (qF5 hF3 (nabs h3)) (nabs (Nat.pow_lt_pow_right (a:=2) (by decide) (Nat.lt_succ_self kP1)))
   exact xU5 this (xU3 (by decide) (by unfold kP1;omega))
  exact yM0 g1 g2 (by omega) (by unfold kP1;omega) hX hY
 ·intro V hV hX;exact qR9 (b:=k+l+1) hF (by omega) (by omega) hX
 ·show(_∧_)∨(_∧_)∨(_∧_)
  rw[yL5 e4 he4];generalize (F*2+1)*(U:Int)*((2^kP1:Nat):Int)=b;generalize Z*(O:Int)=a;unfold cmpI;by_cases c1:a<b
  ·rw[if_pos c1,xU0 (by omega),xU0 (by omega)]
   exact .inr (.inr ⟨rfl,rfl⟩)
  ·rw[if_neg c1];by_cases c2:b<a
   ·rw[if_pos c2,xU1 c2];exact .inl ⟨rfl,rfl⟩
   ·rw[if_neg c2,xU0 c2,xU1 (by omega)]
    exact .inr (.inl ⟨rfl,by simp⟩)
def uN (a:Nat) (pl m:Int):Nat:=(unR (sZ a) (tnO pl) (tnU pl) m).natAbs
theorem qG5:bU=2200:=rfl
theorem dk1:bU+dB+kP≤60000:=by have h1:=qD9;have h2:=qG5;have h3:=qT7;generalize kP=x at *; generalize bU=y at *; generalize dB=z at *; omega
theorem dk2:bU+dB+dB+2000≤60000:=by have h1:=qD9;have h2:=qG5;have h3:=qT7;generalize kP=x at *; generalize bU=y at *; generalize dB=z at *; omega
theorem dk3:bU+dB+1<60000:=by have h1:=qD9;have h2:=qG5;have h3:=qT7;generalize kP=x at *; generalize bU=y at *; generalize dB=z at *; omega
theorem dk4:bU+dB+2≤60000:=by have h1:=qD9;have h2:=qG5;have h3:=qT7;generalize kP=x at *; generalize bU=y at *; generalize dB=z at *; omega
theorem zP0 {pl:Int} (h1 : -7500≤pl) (h2:pl≤7500):tnO pl<2^dB∧tnU pl<2^dB∧0<tnU pl∧0<tnO pl:=by
 unfold tnO tnU;exact⟨qA4 (by omega),qA4 (by omega),Nat.pow_pos (by decide),Nat.pow_pos (by decide)⟩
theorem yJ8 {a:Nat} {pl m:Int} (h1 : -7500≤pl) (h2:pl≤7500):(unR (sZ a) (tnO pl) (tnU pl) m).natAbs<2^(bU+dB+2)∧(unF (sZ a) (tnO pl) (tnU pl)+1).natAbs<2^(bU+dB+2):=by
 obtain⟨t1,t2,t3,t4⟩:=zP0 h1 h2;have hF:=zJ4 (Z:=sZ a) (qH9 a) t1 t3;have hp:1<2^(bU+dB+1):=Nat.one_lt_two_pow (by omega)
 rw[xH2];unfold unR;constructor
 ·split <;> omega
 ·omega
theorem zE3 {a:Nat} {pl m:Int} {w:World} (hT:Tab32 w) (hI:Ie.Tab w) (ha:a<18446744073709551616) (hf:mag a<9218868437227405312) (h1 : -7500≤pl) (h2:pl≤7500) (hm:1≤m∧m≤3) :
  Calls Tryz.prog 45 #[.float .f64 a,.int .i64 pl,.int .i64 m] w fun r w'=>OutA w (un ((uN a pl m:Nat):Int) 0) r w':=by
 obtain⟨t1,t2,t3,t4⟩:=zP0 h1 h2;have hd:=qT7;have hF:=zJ4 (Z:=sZ a) (qH9 a) t1 t3;obtain⟨hR,hR2⟩:=yJ8 (a:=a) (m:=m) h1 h2;refine yY4 a pl m (un ((tnO pl:Nat):Int) 0) (un ((tnU pl:Nat):Int) 0) (un (sZ a) kP) (un (unF (sZ a) (tnO pl) (tnU pl)) 0) (un 1 0) (un (unF (sZ a) (tnO pl) (tnU pl)+1) 0) _ (unX (sZ a) (tnO pl) (tnU pl)) (unA (sZ a) (tnO pl) (tnU pl)) (unP (sZ a) (tnO pl) (tnU pl) m) w ?_ ?_ ?_ ?_ ?_ ?_ ?_ (by show m=1∨m=2∨m=3;omega) rfl
 ·intro W hW;exact qL (hT.later hW) (Tab.later hI hW) ha hf
 ·intro W hW;exact zG0 (hT.later hW) h1 h2 (fun n hn=>klen hn)
 ·intro s1 ao1 n1 cp1 e1 s2 ao2 n2 cp2 e2 s3 ao3 n3 cp3 e3 W hW q1 q2 q3;exact zG3 (Z:=sZ a) (O:=tnO pl) (U:=tnU pl) (p:=kP) (k:=bU) (l:=dB) (hT.later hW) ⟨_,_,_,_,_,_,_,_,_,_,rfl,q1,q2⟩ q3 (qH9 a) t1 t2 t3 dk1
 ·intro s1 ao1 n1 cp1 e1 s2 ao2 n2 cp2 e2 s3 ao3 n3 cp3 e3 s4 ao4 n4 cp4 e4 W hW q1 q2 q3 q4;exact xV5 (Z:=sZ a) (O:=tnO pl) (U:=tnU pl) (k:=bU) (l:=dB) (hT.later hW) ⟨_,_,_,_,_,_,_,_,_,_,rfl,q1,q2⟩ q3 q4 (qH9 a) t1 t2 t3 dk2
 ·intro W hW;exact qF9 (n:=1) (hT.later hW) (by omega)
 ·intro W X Y hW hX hY;exact qF6 (qT0 (p:=0) (k:=bU+dB+1) hF (by have:1<2^(bU+dB+1):=Nat.one_lt_two_pow (by omega);omega) dk3 (by omega)) (hT.later hW) hX hY
 ·intro W X hW hX;have e:(if unP (sZ a) (tnO pl) (tnU pl) m=true then un (unF (sZ a) (tnO pl) (tnU pl)+1) 0 else un (unF (sZ a) (tnO pl) (tnU pl)) 0)=un (unR (sZ a) (tnO pl) (tnU pl) m) 0:=by unfold unR;split <;> rfl
  rw[e] at hX;exact yM1 hR dk4 hX
def eiF:Nat→Nat→Nat
 | 0,_=>0
 | f+1,N=>if N=0 then 0 else eiF f (N / 10^18)+1
def eiN (N:Nat):Nat:=eiF N N
theorem qE:∀ (f N:Nat),N≤f→N<10^(18*eiF f N)∧(∀ k,k<eiF f N→N / 10^(18*k)≠0)∧eiF f N≤N:=by
 intro f;induction f with
 | zero =>
  intro N h;obtain rfl:N=0:=by omega
  exact⟨by decide,fun k hk=>absurd hk (Nat.not_lt_zero _),xV8 _⟩
 | succ f ih =>
  intro N h;unfold eiF;by_cases h0:N=0
  ·rw[if_pos h0,h0];exact⟨by decide,fun k hk=>absurd hk (Nat.not_lt_zero _),xV8 _⟩
  ·rw[if_neg h0];have hlt:N / 10^18<N:=Nat.div_lt_self (by omega) (by decide)
   obtain⟨a,b,c⟩:=ih (N / 10^18) (by omega)
   refine⟨?_,?_,by omega⟩
   ·rw[Nat.mul_succ,xH0];exact(xF2 (by decide)).1 a
   ·intro k hk;cases k with
    | zero=>simpa using h0
    | succ k =>
     rw[Nat.mul_succ,xH0,xH1,←xG8];exact b k (by omega)
def dcT (N:Nat):List UInt8:=Lib.trimLeftB (wtL N (eiN N)) 48
theorem yG0 {N b:Nat} (h:N<2^b):eiN N≤b / 59+1:=by
 obtain⟨-,h2,-⟩:=qE N N (xV8 _);rcases Nat.lt_or_ge (b / 59+1) (eiN N)with h9|h9
 ·exfalso;refine h2 (b / 59+1) h9 (Nat.div_eq_of_lt (xU5 h ?_));have e1:(2:Nat)^b≤2^(59*(b / 59+1)):=xU3 (by decide) (by omega)
  have e2:(2:Nat)^(59*(b / 59+1))≤10^(18*(b / 59+1)):=by
   rw[Nat.pow_mul,Nat.pow_mul];exact Nat.pow_le_pow_left (by decide) _
  exact xU7 e1 e2
 ·exact h9
theorem qB7 {N b:Nat} {X:Value} {w:World} (hT:Tab32 w) (hN:N<2^b) (hb:b≤59000) (hX:PN w X (un ((N:Nat):Int) 0)) :
  Calls Tryz.prog 44 #[X] w fun r w'=>r=.returned (.string ⟨(dcT N).toArray⟩)∧Bw w w':=by
 obtain⟨s1,ao1,n1,cp1,e1,rfl⟩:=hX.shape;obtain⟨q1,q2,q3⟩:=qE N N (xV8 _);have hle:=yG0 hN;have e18:(10:Nat)^18<2^60:=by decide
 refine zQ2 s1 ao1 n1 cp1 e1 N (eiN N) (un ((10^18:Nat):Int) 0) ⟨(dcT N).toArray⟩ w hX q1 (by show eiN N≤100000;omega) q2 ?_ ?_ ?_ ?_ ?_ ?_
 ·intro W hW;exact zG2 (bs:=10) (n:=18) (b:=60) (hT.later hW) (by omega) (by omega) (by omega) e18 (by omega) (fun V=>c156 18 (by omega) V)
 ·intro W X Y hW hX hY;have:=qR9 (b:=b) (nabs (xU6 hY hN)) (by omega) (by omega) hX
  refine this.mono ?_;rintro r w' ⟨rfl,hb'⟩;refine⟨?_,hb'⟩
  by_cases h:Y=0
  ·rw[if_pos h,if_pos (by omega)]
  ·rw[if_neg h,if_neg (by omega),if_neg (by omega)]
 ·intro W X S Y hW hX hS hY;have hY':Y<2^(b+60):=qB1 60 (xU6 hY hN);have h18:(10:Nat)^18<2^(b+60):=by rw[Nat.add_comm];exact qB1 b e18
  refine(zS2 (p:=0) hY' h18 (by decide) (by omega) (by omega) (hT.later hW) hX hS).mono ?_
  rintro r w' ⟨s,ao,n,cap,e,rfl,hp,hb'⟩;exact⟨s,ao,n,cap,e,_,rfl,hp,hb'⟩
 ·intro W X S Y hW hX hS hY;have:=qJ1 (p:=0) (q:=0) (k:=b) (l:=60) (nabs (xU6 hY hN)) (nabs e18) (by omega) (by omega) (hT.later hW) hX hS
  rw[←xH5] at this;exact this
 ·intro W X Z' Y hW hX hZ hY;have:=zE4 (psubN (p:=0) (k:=b) (b:=Y / 10^18*10^18) (xU6 hY hN) (Nat.div_mul_le_self _ _) (by omega) (by omega)) (hT.later hW) hX hZ
  rw[show Y - Y / 10^18*10^18=Y % 10^18 by have:=Nat.div_add_mod Y (10^18);omega] at this
  exact this
 ·intro W;have:=Tryz.strings_TrimLeft_one ⟨(wtL N (eiN N)).toArray⟩ 48 (by decide) W
  refine this.mono ?_;rintro r w' ⟨rfl,rfl⟩;exact⟨rfl,xV9 _ _⟩
theorem zH3 (n:Nat) (c:UInt8):Lib.repeatL [c] n=List.replicate n c:=by
 induction n with
 | zero=>rfl
 | succ n ih=>rw[Lib.repeatL,ih,List.replicate_succ];rfl
theorem knz (w:World):KNz w:=by
 intro n W hn hW;refine yK3 n W hn (fun V=>?_);have h:=Tryz.strings_Repeat ⟨#[48]⟩ n.toNat V (by omega) (by show 1*n.toNat≤_;omega)
 have e1:max 0 n=(n.toNat:Int):=by omega
 rw[e1];have e2:Lib.repeatL (⟨#[48]⟩:ByteArray).data.toList n.toNat=nzL n:=zH3 n.toNat 48;rw[e2] at h;exact h
def dcF:Nat→Nat→List UInt8
 | 0,_ => []
 | f+1,N=>if N=0 then [] else dcF f (N / 10) ++ [UInt8.ofNat (48+N % 10)]
def dcR (N:Nat):List UInt8:=dcF (N+1) N
theorem yG2:∀ (f g N:Nat),N<10^f→N<10^g→dcF f N=dcF g N
 | 0,g,N,h1,h2=>by
  have:N=0:=by rw[xH4] at h1;omega
  subst this;cases g <;> simp[dcF]
 | f+1,0,N,h1,h2=>by
  have:N=0:=by rw[xH4] at h2;omega
  subst this;simp[dcF]
 | f+1,g+1,N,h1,h2=>by
  unfold dcF;rw[xH2] at h1 h2;rw[yG2 f g (N / 10) (by omega) (by omega)]
theorem zR2 (N:Nat):N<10^N:=Nat.lt_pow_self (by decide)
theorem yS8 {f N:Nat} (h:N<10^f):dcF f N=dcR N:=yG2 f (N+1) N h (xU5 (zR2 N) (xU3 (by decide) (by omega)))
theorem yS9:dcR 0 = []:=rfl
theorem qR2 {N:Nat} (h:N≠0):dcR N=dcR (N / 10) ++ [UInt8.ofNat (48+N % 10)]:=by
 have h1:N<10^(N+1):=xU5 (zR2 N) (xU3 (by decide) (by omega))
 rw[←yS8 h1];unfold dcF;rw[if_neg h];congr 1
 exact yS8 (xU6 (xU8 _ _) (zR2 N))
theorem qC7 (N c:Nat):ldL N (c+1)=ldL (N / 10) c ++ [UInt8.ofNat (48+N % 10)]:=by
 unfold ldL;rw[List.range_succ,List.map_append];congr 1
 ·apply List.map_congr_left
  intro j hj;have hj':=List.mem_range.1 hj;unfold ldB;rw[show c+1 - 1 - j=(c - 1 - j)+1 by omega,Nat.pow_succ',←xG8]
 ·simp[ldB]
theorem zM5 (A:List UInt8) (x:UInt8):Lib.trimLeftB (A ++ [x]) 48=if Lib.trimLeftB A 48 = [] then(if x=48 then [] else [x])else Lib.trimLeftB A 48 ++ [x]:=by
 induction A with
 | nil =>
  unfold Lib.trimLeftB;by_cases h:x=48
  ·simp[h]
  ·simp[h]
 | cons a A ih =>
  by_cases h:a=48
  ·have e1:Lib.trimLeftB (a :: A ++ [x]) 48=Lib.trimLeftB (A ++ [x]) 48:=by unfold Lib.trimLeftB;simp[h]
   have e2:Lib.trimLeftB (a :: A) 48=Lib.trimLeftB A 48:=by unfold Lib.trimLeftB;simp[h]
   rw[e1,e2,ih]
  ·have e1:Lib.trimLeftB (a :: A ++ [x]) 48=a :: A ++ [x]:=by unfold Lib.trimLeftB;simp[h]
   have e2:Lib.trimLeftB (a :: A) 48=a :: A:=by unfold Lib.trimLeftB;simp[h]
   rw[e1,e2,if_neg (by simp)]
theorem qE2 {N:Nat}:dcR N = []↔N=0:=by
 constructor
 ·intro h;apply Classical.byContradiction
  intro h0;rw[qR2 h0] at h;simp at h
 ·intro h;rw[h];rfl
theorem zJ6:∀ (c N:Nat),N<10^c→Lib.trimLeftB (ldL N c) 48=dcR N
 | 0,N,h=>by
  have:N=0:=by rw[xH4] at h;omega
  subst this;rfl
 | c+1,N,h=>by
  rw[xH2] at h;rw[qC7,zM5,zJ6 c (N / 10) (by omega)]
  by_cases h0:N=0
  ·subst h0;rw[if_pos (qE2.2 (by omega))]
   rfl
  ·rw[qR2 h0];by_cases h1:N / 10=0
   ·rw[if_pos (qE2.2 h1),h1,yS9,List.nil_append,if_neg];intro h9;have h8:=congrArg UInt8.toNat h9;rw[UInt8.toNat_ofNat_of_lt' (show 48+N % 10<256 by omega)] at h8
    have:N % 10=0:=by simpa using h8
    omega
   ·rw[if_neg (fun h9=>h1 (qE2.1 h9))]
theorem yP9 (N a b:Nat):ldL (N / 10^b) a++ldL N b=ldL N (a+b):=by
 induction b generalizing N with
 | zero =>
  have:ldL N 0 = []:=rfl
  rw[this,List.append_nil,xH4,Nat.div_one,Nat.add_zero]
 | succ b ih =>
  rw[qC7,←List.append_assoc,show a+(b+1)=(a+b)+1 by omega,qC7,←ih (N / 10)]
  congr 3
  rw[xG8,Nat.pow_succ']
theorem yP8 {N c d:Nat} (h:c≤d):ldL (N % 10^d) c=ldL N c:=by
 unfold ldL;apply List.map_congr_left
 intro j hj;have hj':=List.mem_range.1 hj;unfold ldB;congr 2
 have h2:10^(c - 1 - j)*10 ∣ 10^d:=by
  rw[←xH2];exact Nat.pow_dvd_pow 10 (by omega)
 rw[←Nat.mod_mul_right_div_self,←Nat.mod_mul_right_div_self,Nat.mod_mod_of_dvd _ h2]
theorem zN5 (N:Nat):∀ k,wtL N k=ldL N (18*k)
 | 0=>rfl
 | k+1=>by
  unfold wtL;rw[zN5 N k,yP8 (xV8 18),show 18*(k+1)=18+18*k by omega]
  exact yP9 N 18 (18*k)
theorem zL9 (N:Nat):dcT N=dcR N:=by
 unfold dcT;rw[zN5];exact zJ6 _ N (qE N N (xV8 _)).1
theorem yK4 {n:Int} {w:World} (hn : -100000≤n∧n≤100000) (h10:Tab10 w):Calls Tryz.prog 92 #[.int .i64 n] w fun r w'=>r=.returned (.string ⟨(Lib.itoa n).toArray⟩)∧Bw w w':=by
 refine(Tryz.strconv_Itoa n (by omega) (by omega) w h10).mono ?_
 rintro r w' ⟨rfl,k,os,rfl⟩;exact⟨rfl,zB w k os⟩
theorem qS {a:Nat} (hf:mag a<9218868437227405312):¬ cls a=1∧¬ cls a=2∧cneg a=neg a:=by
 have h1:¬ (9218868437227405312:Int)<(mag a:Int):=by omega
 have h2:((mag a:Int)==9218868437227405312)=false:=by rw[xH];omega
 unfold cls cneg;rw[if_neg h1,if_neg h1,h2];refine⟨?_,?_,rfl⟩
 ·repeat' split
  all_goals first|omega|contradiction
 ·repeat' split
  all_goals first|omega|contradiction
theorem zM7 (L:List UInt8) (c:UInt8):(Lib.trimLeftB L c).length≤L.length:=by
 unfold Lib.trimLeftB;exact(List.dropWhile_sublist _).length_le
theorem zY0 {N b:Nat} (h:N<2^b):(dcT N).length≤18*(b / 59+1):=by
 have h1:=zM7 (wtL N (eiN N)) 48;rw[zQ8] at h1;have:=yG0 h
 unfold dcT;omega
theorem qS6 (n:Int):(nzL n).length=n.toNat:=by unfold nzL;simp
theorem zV6 {d:List UInt8} {p:Int}:(ptL d p).length≤d.length+p.natAbs+2:=by
 unfold ptL;split
 ·rw[xH7,xH7,qS6,qS6];omega
 ·simp only[];rw[xH7,List.length_cons,List.length_take,List.length_drop,xH7,qS6];omega
theorem zG5 {a:Nat} {pl m:Int} (h1 : -7500≤pl) (h2:pl≤7500):uN a pl m<2^(bU+dB+2):=(yJ8 h1 h2).1
theorem dk5:18*((bU+dB+2) / 59+1)≤9000:=by have h2:=qG5;have h3:=qT7;generalize bU=y at *; generalize dB=z at *; omega
theorem dk6:bU+dB+2≤59000:=by have h2:=qG5;have h3:=qT7;generalize bU=y at *; generalize dB=z at *; omega
theorem zL {a:Nat} {pl m:Int} (h1 : -7500≤pl) (h2:pl≤7500):(dcT (uN a pl m)).length≤9000:=xU7 (zY0 (zG5 h1 h2)) dk5
theorem yH3 {a:Nat} {pl m:Int} {w:World} (hT:Tab32 w) (hI:Ie.Tab w) (ha:a<18446744073709551616) (hf:mag a<9218868437227405312) (h1:0≤pl) (h2:pl≤1100) (hm:1≤m∧m≤3) :
  Calls Tryz.prog 18 #[.float .f64 a,.int .i64 pl,.int .i64 m] w fun r w'=>r=.returned (.tuple #[.string ⟨(sgL (neg a) (ptL (dcT (uN a pl m)) pl)).toArray⟩,.int .i64 0])∧Bw w w':=by
 have k0:=qS3 m;rw[xU1 hm] at k0;obtain⟨c1,c2,c3⟩:=qS hf;have hl:=zL (a:=a) (m:=m) (pl:=pl) (by omega) (by omega)
 have hp:=zV6 (d:=dcT (uN a pl m)) (p:=pl);refine qA1 a pl m _ w (by omega) (by omega) k0 ?_
 intro W g1 g2 g3 hW b1 b2 b3;have kC:=fun V=>Ie.c9 a ha V;rw[c3] at kC;refine qG6 a _ _ (neg a) _ _ W c1 c2 (by omega) kC (qZ4 Tryz.func61 (by kernel_rfl) (by kernel_rfl)) ?_
 refine zA3 a pl m (un ((uN a pl m:Nat):Int) 0) (dcT (uN a pl m)) _ g1 g2 g3 W b1 b2 b3 ?_ ?_ ?_
 ·intro V hV;exact zE3 ((hT.later hW).later hV) (Tab.later (Tab.later hI hW) hV) ha hf (by omega) (by omega) hm
 ·intro V X hV hX;exact qB7 ((hT.later hW).later hV) (zG5 (by omega) (by omega)) dk6 hX
 ·intro V hV;exact qE9 (by omega) (by omega) (knz V)
def exP (a:Nat):Int:=max 0 (-(un (sZ a) kP).2.2)
theorem exP_b (a:Nat) : -1100≤(un (sZ a) kP).2.2∧(un (sZ a) kP).2.2≤2200:=by
 have h:=un_e (Z:=sZ a) (p:=kP) (qH9 a);have h1:=qD9;have h2:=qG5;generalize (un (sZ a) kP).2.2=e at *;generalize kP=x at *;have h3:e≤(bU:Int):=h.2.1;generalize bU=y at *;omega
theorem xV7 {a:Nat} {w:World} (hT:Tab32 w) (hI:Ie.Tab w) (ha:a<18446744073709551616) (hf:mag a<9218868437227405312) :
  Calls Tryz.prog 14 #[.float .f64 a] w fun r w'=>r=.returned (.string ⟨(sgL (neg a) (ptL (dcT (uN a (exP a) 2)) (exP a))).toArray⟩)∧Bw w w':=by
 obtain⟨c1,c2,c3⟩:=qS hf;have hb:=exP_b a;have he:0≤exP a∧exP a≤1100:=by unfold exP;omega
 have hl:=zL (a:=a) (m:=2) (pl:=exP a) (by omega) (by omega)
 have hp:=zV6 (d:=dcT (uN a (exP a) 2)) (p:=exP a);refine yJ1 a _ w ?_;intro W g1 hW b1;have kC:=fun V=>Ie.c9 a ha V;rw[c3] at kC;refine qG6 a _ _ (neg a) _ _ W c1 c2 (by omega) kC (qZ4 Tryz.func42 (by kernel_rfl) (by kernel_rfl)) ?_
 refine zA4 a (un (sZ a) kP) (un ((uN a (exP a) 2:Nat):Int) 0) (exP a) (dcT (uN a (exP a) 2)) _ g1 W b1 rfl (by show -100000≤_∧_≤100000;omega) ?_ ?_ ?_ ?_
 ·intro V hV;exact qL ((hT.later hW).later hV) (Tab.later (Tab.later hI hW) hV) ha hf
 ·intro V hV;exact zE3 ((hT.later hW).later hV) (Tab.later (Tab.later hI hW) hV) ha hf (by omega) (by omega) (by omega)
 ·intro V X hV hX;exact qB7 ((hT.later hW).later hV) (zG5 (by omega) (by omega)) dk6 hX
 ·intro V hV;exact qE9 (by omega) (by omega) (knz V)
theorem xV3 {x:Nat} (hx:x<18446744073709551616) (w:World):Calls Tryz.prog 117 #[.int .u64 x] w fun e w'=>e=.returned (.int .i64 (bl x:Nat))∧w'=w:=c181 x hx w
def hxB (m:Nat):Nat:=m*2^(65 - bl m) % 18446744073709551616
def hxJ:Nat→Nat→Nat
 | 0,_=>0
 | f+1,u=>if u<16 then 0 else hxJ f (u / 16)+1
theorem qC8:∀ f u,u<16^(f+1)→u / 16^hxJ f u<16∧(hxJ f u=0∨16≤u / 16^(hxJ f u - 1))∧hxJ f u≤f:=by
 intro f;induction f with
 | zero=>intro u h;exact⟨by show u / 16^0<16;simpa using h,.inl rfl,xV8 _⟩
 | succ f ih =>
  intro u h;unfold hxJ;by_cases h0:u<16
  ·rw[if_pos h0];exact⟨by simpa using h0,.inl rfl,by omega⟩
  ·rw[if_neg h0];have hlt:u / 16<16^(f+1):=by rw[xF2 (by decide)];rw[xH2] at h;exact h
   obtain⟨a,b,c⟩:=ih (u / 16) hlt;refine⟨?_,.inr ?_,by omega⟩
   ·rw[xH2,xH1,←xG8];exact a
   ·rw[xF1];rcases b with b|b
    ·rw[b,xH4,Nat.div_one];omega
    ·by_cases hz:hxJ f (u / 16)=0
     ·rw[hz,xH4,Nat.div_one];omega
     ·obtain⟨k,hk⟩:∃ k,hxJ f (u / 16)=k+1:=⟨hxJ f (u / 16) - 1,by omega⟩
      rw[hk] at b ⊢;rw[xF1] at b;rw[xH2,xH1,←xG8];exact b
theorem yD3 {u i j:Nat} (h1:u / 16^i<16) (h2:i=0∨16≤u / 16^(i - 1)) (g1:u / 16^j<16) (g2:j=0∨16≤u / 16^(j - 1)):i=j:=by
 have key:∀ {a b:Nat},u / 16^a<16→(b=0∨16≤u / 16^(b - 1))→b≤a:=by
  intro a b ha hb;rcases hb with rfl|hb
  ·omega
  ·refine Nat.le_of_not_lt fun hlt=>?_;have h3:16^a≤16^(b - 1):=xU3 (by decide) (by omega)
   have h4:u / 16^(b - 1)≤u / 16^a:=Nat.div_le_div_left h3 (Nat.pow_pos (by decide))
   omega
 have:=key h1 g2
 have:=key g1 h2
 omega
def hxD (u:Nat):List UInt8:=hexL u (hxJ 15 u)
def hxC (m:Nat):List UInt8:=Lib.trimRightB (nzL (16 - (hxD (hxB m)).length)++hxD (hxB m)) 48
theorem zK9 {u:Nat} {w:World} (hI:Ie.Tab w) (hu:u<18446744073709551616):Calls Tryz.prog 118 #[.int .u64 u,.int .i64 16] w fun r w'=>r=.returned (.string ⟨(hxD u).toArray⟩)∧Bw w w':=by
 refine(c81q u w hI hu).mono ?_
 rintro r w' ⟨j,h1,h2,rfl,hb⟩;obtain⟨a,b,c⟩:=qC8 15 u (by rw[show(16:Nat)^(15+1)=18446744073709551616 from by decide];exact hu)
 rw[yD3 h1 h2 a b];exact⟨rfl,hb⟩
theorem yK6 {m:Nat} {e:Int} {w:World} (hI:Ie.Tab w) (h10:Tab10 w) (hm:m<18446744073709551616) (hm0:m≠0) (he : -2000≤e∧e≤2000) :
  Calls Tryz.prog 54 #[.int .u64 m,.int .i64 e] w fun r w'=>r=.returned (.string ⟨(hxL (bl m) (hxC m) (Lib.itoa (e+bl m - 1))).toArray⟩)∧Bw w w':=by
 have hbl:bl m≤64:=(qN4 m 64).2 (by rw[show(2:Nat)^64=18446744073709551616 from by decide];exact hm)
 have hlenB:(hxD (hxB m)).length≤16:=by
  unfold hxD;rw[qH0];have:=(qC8 15 (hxB m) (by rw[show(16:Nat)^(15+1)=18446744073709551616 from by decide];exact xG1 _ (by decide))).2.2
  omega
 have hlenC:(hxC m).length≤16:=by
  unfold hxC Lib.trimRightB;rw[List.length_reverse];refine xU7 (List.dropWhile_sublist _).length_le ?_;rw[List.length_reverse,xH7,qS6];omega
 refine zB6 m (bl m) e (hxD (hxB m)) (hxC m) (Lib.itoa (e+bl m - 1)) w hbl (by omega) hlenB hlenC ?_ (fun W=>xV3 hm W) ?_ (knz w) ?_ ?_
 ·have:=Lib.itoa_length_le (e+bl m - 1) (by omega) (by omega)
  show(Lib.itoa (e+bl m - 1)).length≤100
  omega
 ·intro h1;have e1:IntKind.u64.wrap ((m:Int)*2^(65 - bl m))=((hxB m:Nat):Int):=by
   have e2:(m:Int)*2^(65 - bl m)=((m*2^(65 - bl m):Nat):Int):=by simp
   rw[e2,xG4];unfold hxB;omega
  rw[e1];exact zK9 hI (xG1 _ (by decide))
 ·intro W;have:=Tryz.strings_TrimRight_one ⟨(nzL (16 - (hxD (hxB m)).length)++hxD (hxB m)).toArray⟩ 48 (by decide) W (by show(nzL (16 - (hxD (hxB m)).length)++hxD (hxB m)).length≤_;rw[xH7,qS6];omega)
  refine this.mono ?_;rintro r w' ⟨rfl,rfl⟩;exact⟨rfl,xV9 _ _⟩
 ·intro W hW;exact yK4 (by omega) (h10.later hW)
def hxT (a:Nat):List UInt8:=if(Ie.sM a).toNat=0 then [48,120,48,112,48] else hxL (bl (Ie.sM a).toNat) (hxC (Ie.sM a).toNat) (Lib.itoa (Ie.sE a+bl (Ie.sM a).toNat - 1))
theorem sE_b {a:Nat} (ha:a<18446744073709551616) (hf:mag a<9218868437227405312) : -1100≤Ie.sE a∧Ie.sE a≤1100:=by
 have hv:=zJ1 a hf;unfold Ie.sE;split
 ·omega
 ·split
  ·omega
  ·rename_i h1 h2
   have hm:=Ie.mant_ne h2;have hb:=Ie.mant_bound a;obtain⟨_,hk⟩:=Lib.lowest_bit 64 (Ie.mant a) hm (by omega)
   omega
theorem DHex {a:Nat} {w:World} (hI:Ie.Tab w) (h10:Tab10 w) (ha:a<18446744073709551616) (hf:mag a<9218868437227405312) :
  Calls Tryz.prog 16 #[.float .f64 a] w fun r w'=>r=.returned (.string ⟨(sgL (neg a) (hxT a)).toArray⟩)∧Bw w w':=by
 obtain⟨c1,c2,c3⟩:=qS hf;obtain⟨m,hm1,hm2⟩:=yB0 a ha;have hE:=sE_b ha hf;have hbl:bl m≤64:=(qN4 m 64).2 (by rw[show(2:Nat)^64=18446744073709551616 from by decide];exact hm2)
 have hlenC:(hxC m).length≤16:=by
  unfold hxC Lib.trimRightB;rw[List.length_reverse];refine xU7 (List.dropWhile_sublist _).length_le ?_;rw[List.length_reverse,xH7,qS6];have:(hxD (hxB m)).length≤16:=by
   unfold hxD;rw[qH0];have:=(qC8 15 (hxB m) (by rw[show(16:Nat)^(15+1)=18446744073709551616 from by decide];exact xG1 _ (by decide))).2.2
   omega
  omega
 unfold hxT;rw[hm1,xH6];refine xV6 a _ w ?_;intro W g1 hW b1;have kC:=fun V=>Ie.c9 a ha V;rw[c3] at kC;refine qG6 a _ _ (neg a) _ _ W c1 c2 ?_ kC (qZ4 Tryz.func52 (by kernel_rfl) (by kernel_rfl)) ?_
 ·split
  ·decide
  ·have:=Lib.itoa_length_le (Ie.sE a+bl m - 1) (by omega) (by omega)
   unfold hxL;rw[xH7,xH7,List.length_cons];split
   ·rw[List.length_cons];simp;omega
   ·simp;omega
 ·refine yL a m (Ie.sE a) (.bool (Ie.sN a)) (.bool (Ie.sO a)) _ g1 W b1 ?_ ?_ ?_
  ·have h:=Ie.c22 a ha W (Tab.later hI hW);rw[hm1] at h;refine h.mono ?_;rintro r w' ⟨rfl,n,rfl⟩;exact⟨rfl,qU5 (xV9 _ _) n⟩
  ·intro h0 V hV;rw[if_neg h0];exact yK6 (Tab.later (Tab.later hI hW) hV) ((h10.later hW).later hV) hm2 h0 (by omega)
  ·intro h0;rw[if_pos h0]
end Go.Proofs.YtkcmhaknalomjaaGreatDoor
