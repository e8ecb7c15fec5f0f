/- Own work: contracts of the program's functions, part 11: RT1 RT3 RT7 RY1 RY2 RY3 RY4 FM6 FM7 FM8 RY5 SA7 SA8 SA9 UA1 UA2 UA3 UA4 UA5 UA6 UA7 ShelfD RE1 RE3 RE4. -/
import Derived.Test.YtkcmhaknalomjaaGreatDoorA10
import Derived.Test.YtkcmhaknalomjaaGreatDoorA7
import Derived.Test.YtkcmhaknalomjaaGreatDoorA9
import Derived.Deep.CutBlock
import Derived.Test.YtkcmhaknalomjaaGreatDoorA8
import Derived.RangeFuncNested
import Derived.RangeFuncBound
import Derived.RangeFuncCalls
import Derived.RangeFuncLeaves
import Derived.Test.YtkcmhaknalomjaaGreatDoorA2
import Derived.Shelf.Abstract
import Derived.Shelf.RegionOpen
import Derived.WalkKit
import Derived.OwnWalkIn
import Derived.TacticsInMore
import Derived.LoopNIn
import Derived.LoopIn
import Derived.Shelf.Strings.Builder1
import Derived.Shelf.Strings.Builder2
import Derived.Shelf.Strings.Trim
import Derived.Shelf.Small.Utf8
import Derived.Shelf.Small.Strs
import Derived.Shelf.Strings.Search1
import Derived.Shelf.Strings.Search2
import Derived.Shelf.Strings.Prefix
import Derived.Shelf.Strings.Runes
import Derived.Shelf.Strings.IndexAny
import Derived.Shelf.Strings.AsciiSet
import Derived.Shelf.Strings.IndexAnyAll
import Derived.Shelf.Strings.Repeat
import Derived.Test.YtkcmhaknalomjaaGreatDoorProg

set_option maxHeartbeats 16000000
set_option maxRecDepth 200000
set_option linter.unusedVariables false
set_option linter.unusedSimpArgs false
namespace Go.Proofs.YtkcmhaknalomjaaGreatDoor
open Go.RowKit Go.Fl64
open Ie
theorem yF7 (s:Bool) (w:World):Calls Tryz.prog 203 #[.bool s] w fun r w'=>r=.returned (.int .i64 (if s then 1 else 0))∧w'=w:=by
 cases s
 ·go_enter Tryz.func203,Tryz.ntmps203
  go_wp2
  go_ret;exact⟨rfl,rfl⟩
 ·go_enter Tryz.func203,Tryz.ntmps203
  go_wp2
  go_ret;exact⟨rfl,rfl⟩
theorem zA3 (w:World):Calls Tryz.prog 25 #[.int .i64 (-1)] w fun r w'=>r=.returned (.float .f64 18442240474082181120)∧w'=w:=by
 have hb:=Ie.run_frombits
 go_enter Tryz.func25,Tryz.ntmps25
 go_wp2
 go_ret;exact⟨rfl,rfl⟩
theorem bd_or {E M:Nat} (hE:E≤2046) (h1:4503599627370496≤M) (h2:M<9007199254740992):bits BinOp.or IntKind.u64 ((E:Int)*4503599627370496) (bits BinOp.and IntKind.u64 (M:Int) 4503599627370495)=((E*4503599627370496+(M - 4503599627370496):Nat):Int):=by
 have e:=Nat.two_pow_add_eq_or_of_lt (i:=52) (b:=M - 4503599627370496) (by rw[show(2^52:Nat)=4503599627370496 from rfl];omega) E
 rw[show(2^52:Nat)=4503599627370496 from rfl] at e;rw[qA6 M (by omega),show M % 4503599627370496=M - 4503599627370496 by omega,show(E:Int)*4503599627370496=((4503599627370496*E:Nat):Int) by omega,u64_or_nat _ _ (by omega) (by omega),←e,xP]
theorem yO3 {b:Nat} (h:b<9223372036854775808):bits BinOp.or IntKind.u64 (b:Int) 9223372036854775808=((b+9223372036854775808:Nat):Int):=by
 have e:=u64_or_nat b 9223372036854775808 (by omega) (by decide)
 rw[show((9223372036854775808:Nat):Int)=9223372036854775808 from rfl] at e;rw[e,Nat.or_comm,Nat.add_comm];congr 1
 have:=Nat.two_pow_add_eq_or_of_lt (i:=63) (b:=b) (by rw[show(2^63:Nat)=9223372036854775808 from rfl];exact h) 1
 rw[←(show 2^63*1=9223372036854775808 from rfl),←this]
theorem yX2 (s:Bool) (M E:Nat) (w:World) (hm:4503599627370496≤M) (hm2:M<9007199254740992) (hE:1≤E) (hE2:E≤2046):Calls Tryz.prog 204 #[.bool s,.int .u64 (M:Nat),.int .i64 ((E:Int) - 1075)] w fun r w'=>r=.returned (.float .f64 (sig s ((E - 1)*4503599627370496+M)))∧w'=w:=by
 have hb:=Ie.run_frombits;have hm':(4503599627370496:Int)≤(M:Int):=by omega
 have e1:=bd_or hE2 hm hm2;have hlt:E*4503599627370496+(M - 4503599627370496)<9223372036854775808:=by omega
 have e2:=yO3 hlt;obtain⟨bd,hbd⟩:∃ bd:Nat,bd=E*4503599627370496+(M - 4503599627370496):=⟨_,rfl⟩;rw[←hbd] at e1 e2;obtain⟨b2,hb2⟩:∃ b2:Nat,b2=(E - 1)*4503599627370496+M:=⟨_,rfl⟩;have hR:bd=b2:=by omega
 have HR:Hid (bd=b2):=hR;rw[←hb2];clear hR hb2 hlt;clear hbd;have hE3:(E:Int) - 1075+1075=E:=by omega
 cases s
 ·go_enter Tryz.func204,Tryz.ntmps204
  go_wp2
  go_ret;refine⟨congrArg Ending.returned (congrArg (Value.float .f64) ?_),rfl⟩
  try simp only[hE3,e1]
  try rw[xP4]
  rw[HR.out];rfl
 ·go_enter Tryz.func204,Tryz.ntmps204
  go_wp2
  go_ret;refine⟨congrArg Ending.returned (congrArg (Value.float .f64) ?_),rfl⟩
  try simp only[hE3,e1,e2]
  try rw[xP4]
  try rw[HR.out]
  try rfl
theorem qE5 (s:Bool) (M:Nat) (e:Int) (w:World) (hm2:M<4503599627370496):Calls Tryz.prog 204 #[.bool s,.int .u64 (M:Nat),.int .i64 e] w fun r w'=>r=.returned (.float .f64 (sig s M))∧w'=w:=by
 have hb:=Ie.run_frombits;have hm3:¬ (4503599627370496:Int)≤(M:Int):=by omega
 have e2:=yO3 (b:=M) (by omega)
 cases s
 ·go_enter Tryz.func204,Tryz.ntmps204
  go_wp2
  go_ret;exact⟨rfl,rfl⟩
 ·go_enter Tryz.func204,Tryz.ntmps204
  go_wp2
  go_ret;refine⟨congrArg Ending.returned (congrArg (Value.float .f64) ?_),rfl⟩
  try simp only[e2]
  try rfl
theorem qI8 {s:Bool} {M:Nat} {e:Int} {w:World} (hM:M<9007199254740992) (he : -1074≤e) (he2:e≤971) (hge:e = -1074∨4503599627370496≤M):Calls Tryz.prog 204 #[.bool s,.int .u64 (M:Nat),.int .i64 e] w fun r w'=>r=.returned (.float .f64 (sig s ((e+1074).toNat*4503599627370496+M)))∧w'=w:=by
 by_cases h:4503599627370496≤M
 ·obtain⟨E,hE⟩:∃ E:Nat,e=(E:Int) - 1075:=⟨(e+1075).toNat,by omega⟩
  subst hE;rw[show((E:Int) - 1075+1074).toNat=E - 1 by omega]
  exact yX2 s M E w h hM (by omega) (by omega)
 ·obtain rfl:e = -1074:=by omega
  rw[show((-1074:Int)+1074).toNat*4503599627370496+M=M by omega]
  exact qE5 s M _ w (by omega)
theorem yI6 {d d1:Nat} (h0:d<B) (h1:d1<B):bits BinOp.or IntKind.u64 (IntKind.u64.wrap (IntKind.u64.wrap (d1:Int)*4294967296)) (IntKind.u64.wrap (d:Int))=((d+d1*B:Nat):Int):=by
 have e:IntKind.u64.wrap (IntKind.u64.wrap (d1:Int)*4294967296)=((d1*B:Nat):Int):=by
  rw[qZ7 h1,xM2];unfold B at *; omega
 rw[qZ7 h0,e,u64_or_nat _ _ (by unfold B at *; omega) (by unfold B at *; omega),qW9 (p:=32) (by rw[←yQ7];exact Nat.mul_mod_left ..) h0,Nat.add_comm]
theorem yF6 {v:Value} {X:Nat} {w:World} (h:Ir w v X) (hX:X<9007199254740992):Calls Tryz.prog 205 #[v] w fun r w'=>r=.returned (.int .u64 (X:Nat))∧w'=w:=by
 obtain⟨ao,cap,rfl,hc,b,o,hb,hcell⟩:=h;have hl:dlen X≤2:=(qZ0 2 X).2 (by unfold B;omega)
 have hX2:X=dg X 0+dg X 1*B:=by
  unfold dg B;omega
 have h0:=qZ3 X 0;have h1:=qZ3 X 1;by_cases e0:dlen X=0
 ·obtain rfl:=qQ7.1 e0;rw[qQ5] at *;clear hcell hb h0 h1 hX2 hl e0
  go_enter Tryz.func205,Tryz.ntmps205
  go_wp2
  go_ret;exact⟨rfl,rfl⟩
 ·obtain rfl:=hb (by omega)
  have g0:=hcell 0 (by omega)
  rw[Nat.add_zero] at g0;by_cases e1:dlen X=1
  ·have hz:dg X 1=0:=qY5 (by omega)
   have HE:Hid (dg X 0=X):=(by rw[hz] at hX2;omega:dg X 0=X)
   rw[e1] at *;generalize dg X 0=d at *;have HD:Hid (d<B):=h0;clear hcell hb h0 h1 hX2 hl e0 e1 hz
   go_enter Tryz.func205,Tryz.ntmps205
   go_wp2
   go_ret;refine⟨congrArg Ending.returned (congrArg (Value.int .u64) ?_),rfl⟩
   have hd:=HD.out;have e:=u64_or_nat 0 d (by decide) (by unfold B at hd;omega)
   show bits BinOp.or IntKind.u64 0 (IntKind.u64.wrap (d:Int))=_
   rw[qZ7 hd];refine e.trans ?_;rw[Nat.zero_or,HE.out]
  ·have e2:dlen X=2:=by omega
   have g1:=hcell 1 (by omega)
   have HE:Hid (X=dg X 0+dg X 1*B):=hX2;rw[e2] at *;generalize dg X 0=d at *;generalize dg X 1=d1 at *;have HD:Hid (d<B∧d1<B):=⟨h0,h1⟩;clear hcell hb h0 h1 hX2 hl e0 e1 e2
   go_enter Tryz.func205,Tryz.ntmps205
   go_wp2
   go_ret;refine⟨congrArg Ending.returned (congrArg (Value.int .u64) ?_),rfl⟩
   rw[HE.out];exact yI6 HD.out.1 HD.out.2
theorem zJ6 {g:Nat} {a b:World} (h:Below g a b) (n:Nat):Below g a (b.drewN n):=h.trans ⟨rfl,rfl,rfl,xB6 _,fun _ _=>rfl⟩
theorem yE {d X:Nat} (h:d=X % B):(bits BinOp.and IntKind.u32 (d:Int) 1==1)=(X % 2==1):=by
 have hB:B=4294967296:=rfl;have h2:=u32_and_nat d 1 (by rw[h,hB];omega) (by decide)
 rw[show((1:Nat):Int)=1 from rfl] at h2;rw[h2,Nat.and_one_is_mod,h,show X % B % 2=X % 2 by rw[hB];omega]
 rcases Nat.mod_two_eq_zero_or_one X with h|h <;> rw[h] <;> rfl
theorem yC9 {X:Nat} (h:X<9007199254740992):(bits BinOp.and IntKind.u64 (X:Int) 1==1)=(X % 2==1):=by
 have h2:=u64_and_nat X 1 (by omega) (by decide)
 rw[show((1:Nat):Int)=1 from rfl] at h2;rw[h2,Nat.and_one_is_mod];rcases Nat.mod_two_eq_zero_or_one X with h|h <;> rw[h] <;> rfl
theorem q53 {e:Int} (h : -1074≤e):Hid ((e+1+1074).toNat*4503599627370496+4503599627370496=(e+1074).toNat*4503599627370496+(9007199254740991+1)):=by
 have h1:(e+1+1074).toNat=(e+1074).toNat+1:=by omega
 show _=_
 rw[h1];omega
theorem xY {n:Nat} (h:n≠9007199254740992):((n:Int)==9007199254740992)=false:=by
 have:((n:Nat):Int)≠9007199254740992:=by omega
 simpa using this
theorem yI1 (x:Nat) (E:Int):max ((bl x:Int)+E - 53) (-1074)=tE x E:=by unfold tE;split <;> omega
theorem kdn {w:World} {ua:Option Addr} {uc x:Nat} (h:At w ua (dlen x) x) (hc:dlen x≤uc) (hl:dlen x≤100000) {i:Int} {k:Nat} (hi:i=(k:Int)) (hk:k≤10000000) :
  ∀ W,Bw w W→Calls Tryz.prog 121 #[.slice ua (dlen x) uc,.int .i64 i] W fun r w'=>∃ ao n cap,r=.returned (.tuple #[.slice ao n cap,.bool (decide (x % 2^k=0))])∧Ir w' (.slice ao n cap) (x / 2^k)∧Bw W w':=by
 intro W hW;subst hi;refine(xQ7 (v:=.slice ua (dlen x) uc) (⟨ua,uc,rfl,hc,h.later hW⟩:Ir W _ x) k (by omega) (by omega)).mono ?_
 rintro r w' ⟨ao,cap',rfl,hA,hc',hB⟩;exact⟨_,_,_,rfl,⟨ao,cap',rfl,hc',hA⟩,hB⟩
theorem rto {neg:Bool} {ua:Option Addr} {uc x:Nat} {ea m:Int} {w:World} (h:At w ua (dlen x) x) (hc:dlen x≤uc) (hodd:x % 2=1) (hl:dlen x≤100000) (he1 : -4000000≤ea) (he2:ea≤4000000) (hm:1≤m∧m≤3) :
  Calls Tryz.prog 148 #[.agg #[.bool neg,.slice ua (dlen x) uc,.int .i64 ea],.int .i64 m] w fun r w'=>r=.returned (.float .f64 (sig neg (bdy x ea (wyN neg m))))∧Bw w w':=by
 have h0:x≠0:=by omega
 have hn0:((dlen x:Int)==0)=false:=qK (n:=0) h0;have hbl:bl x≤32*dlen x:=qY0 x;have hb1:=qW0 h0;obtain⟨ow,how⟩:∃ ow:Bool,(m==3 && !neg||m==1&&neg)=ow:=⟨_,rfl⟩;obtain⟨nr,hnr⟩:∃ nr:Bool,(m==2)=nr:=⟨_,rfl⟩;obtain⟨wy,hwy⟩:∃ y,wyN neg m=y:=⟨_,rfl⟩;have hm3:m=1∨m=2∨m=3:=by omega
 have hY:wy=0∧nr=false∧ow=false∨wy=1∧nr=true∧ow=false∨wy=2∧nr=false∧ow=true:=by
  rcases hm3 with rfl|rfl|rfl <;> cases neg <;> subst how hnr hwy <;> simp[wyN]
 rw[hwy];have hw:wy=0∨wy=1∨wy=2:=by omega
 obtain⟨F,hF⟩:∃ F,F=sig neg (bdy x ea wy):=⟨_,rfl⟩;rw[←hF];obtain⟨t,ht⟩:∃ t:Int,t=(bl x:Int)+ea:=⟨_,rfl⟩;have ht3 : -4000000≤t:=by omega
 have ht4:t≤7200000:=by omega
 have kH:∀ W,Bw w W→Calls Tryz.prog 55 #[.agg #[.bool neg,.slice ua (dlen x) uc,.int .i64 ea]] W fun r w'=>r=.returned (.int .i64 t)∧Bw W w':=fun W hW=>by rw[ht];exact yS5 (h.later hW) h0 (by omega) ⟨he1,he2⟩
 have HN:Hid (At w ua (dlen x) x∧dlen x≤uc∧dlen x≤100000):=⟨h,hc,hl⟩;have HT:Hid (t=(bl x:Int)+ea∧x % 2=1∧F=sig neg (bdy x ea wy)∧(wy=0∨wy=1∨wy=2)):=⟨ht,hodd,hF,hw⟩;have HY:Hid (wy=0∧nr=false∧ow=false∨wy=1∧nr=true∧ow=false∨wy=2∧nr=false∧ow=true):=hY;have HO:Hid ((m==3 && !neg||m==1&&neg)=ow):=how;have HM:Hid (m=1∨m=2∨m=3):=hm3;clear h hc hodd hl hwy hm hm3 hbl hb1 hF ht hw hY how h0;obtain⟨un,hun⟩:∃ n,n=dlen x:=⟨_,rfl⟩;rw[←hun] at hn0 kH HN ⊢;have HU:Hid (un=dlen x):=hun;clear hun;obtain⟨W,hW⟩:∃ W,W=w.alloc (.cells #[.bool neg,.slice ua un uc,.int .i64 ea] 69):=⟨_,rfl⟩;have hBW:Bw w W:=by rw[hW];exact(xB7 _ _).alloc (xB6 _) _
 have hA:W.heap[w.heap.size]?=some (.cells #[.bool neg,.slice ua un uc,.int .i64 ea] 69 (0,0)):=by rw[hW];exact xM3 _ _
 have hsz:W.heap.size=w.heap.size+1:=by rw[hW];simp
 have HX:Hid (Bw w W):=hBW;have HK:Hid (∀ w',Bw W w'→w'.cell? ⟨w.heap.size,0,none⟩=some (.bool neg)∧w'.cell? ⟨w.heap.size,1,none⟩=some (.slice ua un uc)∧w'.cell? ⟨w.heap.size,2,none⟩=some (.int .i64 ea)):=fun w' hb=>(qQ2 (qQ hA hb (by omega))).1
 have k:=kH W hBW;obtain⟨a0,a1,a2⟩:=HK.out W (xB7 _ _);clear kH hA hsz hBW
 go_enter Tryz.func148,Tryz.ntmps148
 go_upto_region 4 with fail;rw[←hW];clear hW
 go_cut [6] from 22 to 36 (fun v wx=>v=.bool ow∧wx=W)
 case first =>
  have hO:=HO.out;rcases HM.out with rfl|rfl|rfl <;> cases neg <;> go_wp2 <;> go_meet <;> exact⟨by rw[←hO];rfl,rfl⟩
 case rest =>
  obtain⟨rfl,rfl⟩:=hcut;clear HO HM
  go_wp2_with fail;refine k.mono ?_;rintro r w1 ⟨rfl,hb1⟩;have HB1:Hid (Bw wc w1):=hb1;clear k a0 a1 a2;obtain⟨a0,a1,a2⟩:=HK.out w1 hb1;clear hb1;have kS0:∀ W,Calls Tryz.prog 203 #[.bool false] W fun r w'=>r=.returned (.int .i64 0)∧w'=W:=fun W=>yF7 false W;have kS1:∀ W,Calls Tryz.prog 203 #[.bool true] W fun r w'=>r=.returned (.int .i64 1)∧w'=W:=fun W=>yF7 true W;have kI0:=c61;have kI1:=zA3;by_cases hbig:1024<t
  ·obtain⟨e1,e2,e3,e4⟩:=HT.out;rw[zI7 (by omega) (by omega) e4] at e3
   have HF:Hid (F=sig neg (if wy=0 then 9218868437227405311 else 9218868437227405312)):=e3;have kB:∀ W,Calls Tryz.prog 204 #[.bool neg,.int .u64 9007199254740991,.int .i64 971] W fun r w'=>r=.returned (.float .f64 (sig neg 9218868437227405311))∧w'=W:=fun W=>qI8 (M:=9007199254740991) (e:=971) (by omega) (by omega) (by omega) (.inr (by omega))
   clear e1 e2 e3 e4 HT;cases neg <;> rcases HY.out with ⟨rfl,rfl,rfl⟩|⟨rfl,rfl,rfl⟩|⟨rfl,rfl,rfl⟩
   all_goals go_wp2_with (first|(go_at_call 203;(first|(with_reducible refine(kS0 _).mono ?_)|(with_reducible refine(kS1 _).mono ?_));rintro r w2 ⟨rfl,rfl⟩)|(go_at_call 25;(first|(with_reducible refine(kI0 _).mono ?_)|(with_reducible refine(kI1 _).mono ?_));rintro r w2 ⟨rfl,rfl⟩)|(go_at_call 204;refine(kB _).mono ?_;rintro r w2 ⟨rfl,rfl⟩))
   all_goals go_ret
   all_goals exact⟨by rw[HF.out];rfl,HX.out.trans (HB1.out.mono HX.out.size)⟩
  ·obtain⟨e2,he⟩:∃ e2,e2=tE x ea:=⟨_,rfl⟩;have hmx:max (t - 53) (-1074)=e2:=by rw[HT.out.1,he];exact yI1 x ea
   have htb:(bl x:Int)+ea≤1024:=by have:=HT.out.1;omega
   obtain⟨h21,h22⟩:=qT0 htb;rw[←he] at h21 h22;have HE:Hid (e2=tE x ea∧(bl x:Int)+ea≤1024):=⟨he,htb⟩;clear he htb;by_cases hge:e2≤ea
   ·obtain⟨k,hk⟩:∃ k:Nat,k=(ea - e2).toNat:=⟨_,rfl⟩;obtain⟨hb,hlt,hg⟩:=xH5 (by have:=HT.out.2.1;omega) HE.out.2 (by rw[←HE.out.1];exact hge) HT.out.2.2.2
    rw[←HE.out.1,←hk] at hb hlt hg;obtain⟨X,hX⟩:∃ X,X=x*2^k:=⟨_,rfl⟩;rw[←hX] at hb hlt hg;have HF:Hid (F=sig neg ((e2+1074).toNat*4503599627370496+X)):=by have:=HT.out.2.2.1;rw[hb] at this;exact this
    have kU:Calls Tryz.prog 110 #[.slice ua un uc,.int .i64 (ea - e2)] w1 fun r w'=>∃ v,r=.returned v∧Ir w' v X∧Bw w1 w':=by
     rw[show ea - e2=(k:Int) by omega,hX]
     have hu:=HU.out;obtain⟨q1,q2,q3⟩:=HN.out;subst hu;exact rup ⟨ua,uc,rfl,q2,q1.later (HX.out.trans (HB1.out.mono HX.out.size))⟩ k (by omega) (by omega)
    have kB:∀ W,Calls Tryz.prog 204 #[.bool neg,.int .u64 (X:Nat),.int .i64 e2] W fun r w'=>r=.returned (.float .f64 (sig neg ((e2+1074).toNat*4503599627370496+X)))∧w'=W:=fun W=>qI8 hlt h21 h22 hg;have HL:Hid (X<9007199254740992):=hlt;clear hb hlt hg hX hk HT
    go_wp2_with (first|(go_at_call 110;refine kU.mono ?_;rintro r w2 ⟨v,rfl,hv,hb2⟩))
    have HB2:Hid (Bw wc w2):=HB1.out.trans (hb2.mono HB1.out.size);obtain⟨a0,a1,a2⟩:=HK.out w2 HB2.out;have kS:∀ d,Calls Tryz.prog 205 #[v] (w2.drewN d) fun r w'=>r=.returned (.int .u64 X)∧w'=w2.drewN d:=fun d=>yF6 (hv.later ⟨rfl,rfl,rfl,xB6 _,fun _ _=>rfl⟩) HL.out;clear kU hb2 hv
    go_quiet (first|(go_at_call 205;refine Calls.quiet_of_same (kS _))|(go_at_call 204;refine Calls.quiet_of_same (kB _)))
    go_wp2
    go_ret;exact⟨by rw[HF.out];rfl,HX.out.trans ((zJ6 HB2.out _).mono HX.out.size)⟩
   ·by_cases ht2:t < -1075
    ·obtain⟨e1,e2',e3,e4⟩:=HT.out;rw[zF3 (by omega) (by omega) e4] at e3
     have HF:Hid (F=sig neg (if wy=2 then 1 else 0)):=e3;have kB0:∀ W,Calls Tryz.prog 204 #[.bool neg,.int .u64 0,.int .i64 (-1074)] W fun r w'=>r=.returned (.float .f64 (sig neg 0))∧w'=W:=fun W=>qE5 neg 0 (-1074) W (by omega)
     have kB1:∀ W,Calls Tryz.prog 204 #[.bool neg,.int .u64 1,.int .i64 (-1074)] W fun r w'=>r=.returned (.float .f64 (sig neg 1))∧w'=W:=fun W=>qE5 neg 1 (-1074) W (by omega)
     clear e1 e2' e3 e4 HT;rcases HY.out with ⟨rfl,rfl,rfl⟩|⟨rfl,rfl,rfl⟩|⟨rfl,rfl,rfl⟩
     all_goals go_wp2_with (first|(go_at_call 204;(first|(with_reducible refine(kB0 _).mono ?_)|(with_reducible refine(kB1 _).mono ?_));rintro r w2 ⟨rfl,rfl⟩))
     all_goals go_ret
     all_goals exact⟨by rw[HF.out];rfl,HX.out.trans (HB1.out.mono HX.out.size)⟩
    ·obtain⟨k,hk⟩:∃ k:Nat,k=(e2 - ea).toNat:=⟨_,rfl⟩;have hi:e2 - ea=(k:Int):=by omega
     have hi2:e2 - ea - 1=((k - 1:Nat):Int):=by omega
     have hkb:k≤10000000:=by omega
     obtain⟨N,hN⟩:∃ n,n=if dnU x (tE x ea - ea).toNat wy then x / 2^(tE x ea - ea).toNat+1 else x / 2^(tE x ea - ea).toNat:=⟨_,rfl⟩;obtain⟨hn1,hn2,hb,hX⟩:=xH6 HT.out.2.1 HE.out.2 (by rw[←HE.out.1];omega) HT.out.2.2.2 hN
     rw[←HE.out.1,←hk] at hN hX;rw[←HE.out.1] at hb hn2;have HF:Hid (F=sig neg ((e2+1074).toNat*4503599627370496+N)):=by have:=HT.out.2.2.1;rw[hb] at this;exact this
     have hu:=HU.out;obtain⟨q1,q2,q3⟩:=HN.out;subst hu;have q3':=q3;have HD1:Hid (∀ V,Bw w V→Calls Tryz.prog 121 #[.slice ua (dlen x) uc,.int .i64 (e2 - ea)] V fun r w'=>∃ ao n cap,r=.returned (.tuple #[.slice ao n cap,.bool (decide (x % 2^k=0))])∧Ir w' (.slice ao n cap) (x / 2^k)∧Bw V w'):=kdn q1 q2 q3 hi hkb;have HD2:Hid (∀ V,Bw w V→Calls Tryz.prog 121 #[.slice ua (dlen x) uc,.int .i64 (e2 - ea - 1)] V fun r w'=>∃ ao n cap,r=.returned (.tuple #[.slice ao n cap,.bool (decide (x % 2^(k - 1)=0))])∧Ir w' (.slice ao n cap) (x / 2^(k - 1))∧Bw V w'):=kdn q1 q2 q3 hi2 (by omega)
     have hod:=yC9 hX;have HG:Hid (N≤9007199254740992∧(e2 = -1074∨4503599627370496≤N)∧N=if dnU x k wy then x / 2^k+1 else x / 2^k):=⟨hn1,hn2,hN⟩;clear HT HN HU q1 q2 q3 hi hi2 hn1 hn2 hb hN hk hkb;unfold dnU at HG;obtain⟨X,hXe⟩:∃ X,X=x / 2^k:=⟨_,rfl⟩;obtain⟨Y,hYe⟩:∃ X,X=x / 2^(k - 1):=⟨_,rfl⟩;obtain⟨hf,hfe⟩:∃ b:Bool,b=(Y % 2==1):=⟨_,rfl⟩;obtain⟨od,hode⟩:∃ b:Bool,b=(X % 2==1):=⟨_,rfl⟩;obtain⟨ex,hex⟩:∃ b:Bool,b=decide (x % 2^(k - 1)=0):=⟨_,rfl⟩;rw[show(x % 2^(k - 1)==0)=decide (x % 2^(k - 1)=0)from rfl,←hex,←hXe,←hYe,←hfe,←hode] at HG;rw[←hXe] at hX hod HD1;rw[←hode] at hod;rw[←hex,←hYe] at HD2;have HFE:Hid (hf=(Y % 2==1)∧dlen Y≤100000):=⟨hfe,by rw[hYe];exact xN5 (qZ2 (xN6 _ _)) q3'⟩
     clear q3';generalize dlen x=un at *;generalize decide (x % 2^k=0)=ex0 at HD1;clear hXe hYe hfe hode hex;have kD1:=HD1.out w1 (HX.out.trans (HB1.out.mono HX.out.size))
     go_wp2_with fail;refine kD1.mono ?_;rintro r w2 ⟨ao1,n1,c1,rfl,hv,hb2⟩;have HB2:Hid (Bw wc w2):=HB1.out.trans (hb2.mono HB1.out.size);clear a0 a1 a2 kD1;obtain⟨a0,a1,a2⟩:=HK.out w2 HB2.out;have kS:=yF6 hv hX;have kD2:=HD2.out w2 (HX.out.trans (HB2.out.mono HX.out.size));clear hv hb2 HD1 HD2 HB1
     go_wp2_with fail;refine kS.mono ?_;rintro r w3 ⟨rfl,rfl⟩;clear kS
     go_wp2_with fail;refine kD2.mono ?_;rintro r w4 ⟨ao2,n2,c2,rfl,hv,hb4⟩;have HB4:Hid (Bw wc w4):=HB2.out.trans (hb4.mono HB2.out.size);clear a0 a1 a2 kD2 hb4 HB2;obtain⟨a0,a1,a2⟩:=HK.out w4 HB4.out;have HV:Hid (Ir w4 (.slice ao2 n2 c2) Y):=hv;clear hv
     go_upto_region 21 with fail
     go_cut [15] from 106 to 115 (fun v wx=>v=.bool hf∧wx=w4)
     case first =>
      obtain⟨ao,cap,hve,hcap,b,o,hb,hcell⟩:=HV.out;injection hve with e1 e2 e3;subst e1 e3;obtain⟨hf',hly⟩:=HFE.out;by_cases hz:0<dlen Y
      ·obtain rfl:=hb hz;have c0:=hcell 0 hz;rw[Nat.add_zero] at c0;have hdd:=yE (d:=dg Y 0) (X:=Y) (qS _);have hpos:(0:Int)<(n2:Int):=by omega
       have hcp:n2≤1000000000:=by omega
       generalize dg Y 0=dd at *;clear hcell HV HFE hb hz e2 hcap
       go_wp2
       go_meet
       exact⟨by rw[hf'],rfl⟩
      ·have hy:Y=0:=qQ7.1 (by omega)
       have hneg:¬ (0:Int)<(n2:Int):=by omega
       have hf0:hf=false:=by rw[hf',hy];rfl
       subst hf0;clear hcell HV HFE hb hz e2 hcap
       go_wp2
       go_meet
       exact⟨rfl,rfl⟩
     case rest =>
      obtain⟨rfl,rfl⟩:=hcut;clear HV HFE;obtain⟨up,hup⟩:∃ b:Bool,b=(wy==2||wy==1&&(hf&&(!ex||od))):=⟨_,rfl⟩;rw[←hup] at HG;have HU:Hid (up=(wy==2||wy==1&&(hf&&(!ex||od)))):=hup;clear hup
      go_upto_region 22 with fail
      go_cut [131] from 116 to 131 (fun v wx=>v=.bool up∧wx=wc)
      case first =>
       have g3:=HU.out;clear HG;rcases HY.out with ⟨rfl,rfl,rfl⟩|⟨rfl,rfl,rfl⟩|⟨rfl,rfl,rfl⟩
       ·go_wp2
        go_meet
        exact⟨by rw[g3];rfl,rfl⟩
       ·cases hf <;> cases ex <;> cases od <;> go_wp2 <;> go_meet <;> exact⟨by rw[g3];rfl,rfl⟩
       ·go_wp2
        go_meet
        exact⟨by rw[g3];rfl,rfl⟩
      case rest =>
       obtain⟨rfl,rfl⟩:=hcut;clear HU HY hod;obtain⟨g1,g2,g3⟩:=HG.out;clear HG;cases up
       ·have hN:N=X:=g3;rw[hN] at g2 HF;have kB:∀ W,Calls Tryz.prog 204 #[.bool neg,.int .u64 (X:Nat),.int .i64 e2] W fun r w'=>r=.returned (.float .f64 (sig neg ((e2+1074).toNat*4503599627370496+X)))∧w'=W:=fun W=>qI8 hX h21 h22 g2;have hne:=xY (n:=X) (by omega)
        clear g1 g2 g3 hN
        go_wp2_with (first|(go_at_call 204;refine(kB _).mono ?_;rintro r w5 ⟨rfl,rfl⟩))
        go_ret;exact⟨by rw[HF.out];rfl,HX.out.trans (HB4.out.mono HX.out.size)⟩
       ·have hN:N=X+1:=g3;rw[hN] at g1 g2 HF;clear g3;by_cases h53:X+1=9007199254740992
        ·obtain rfl:X=9007199254740991:=by omega
         by_cases h971:e2=971
         ·subst h971;clear g1 g2 hN;cases neg
          all_goals go_wp2_with (first|(go_at_call 203;(first|(with_reducible refine(kS0 _).mono ?_)|(with_reducible refine(kS1 _).mono ?_));rintro r w5 ⟨rfl,rfl⟩)|(go_at_call 25;(first|(with_reducible refine(kI0 _).mono ?_)|(with_reducible refine(kI1 _).mono ?_));rintro r w5 ⟨rfl,rfl⟩))
          all_goals go_ret
          all_goals exact⟨by rw[HF.out];rfl,HX.out.trans (HB4.out.mono HX.out.size)⟩
         ·have h970:e2+1≤971:=by omega
          have kB:∀ W,Calls Tryz.prog 204 #[.bool neg,.int .u64 4503599627370496,.int .i64 (e2+1)] W fun r w'=>r=.returned (.float .f64 (sig neg ((e2+1+1074).toNat*4503599627370496+4503599627370496)))∧w'=W:=fun W=>qI8 (M:=4503599627370496) (by omega) (by omega) h970 (.inr (xB6 _))
          have HQ:=q53 h21;clear g1 g2 hN h971
          go_wp2_with (first|(go_at_call 204;refine(kB _).mono ?_;rintro r w5 ⟨rfl,rfl⟩))
          go_ret;exact⟨by rw[HF.out,←HQ.out];rfl,HX.out.trans (HB4.out.mono HX.out.size)⟩
        ·have kB:∀ W,Calls Tryz.prog 204 #[.bool neg,.int .u64 ((X:Int)+1),.int .i64 e2] W fun r w'=>r=.returned (.float .f64 (sig neg ((e2+1074).toNat*4503599627370496+(X+1))))∧w'=W:=fun W=>qI8 (M:=X+1) (by omega) h21 h22 g2
         have hne:((X:Int)+1==9007199254740992)=false:=xY (n:=X+1) h53;clear g1 g2 hN h53
         go_wp2_with (first|(go_at_call 204;refine(kB _).mono ?_;rintro r w5 ⟨rfl,rfl⟩))
         go_ret;exact⟨by rw[HF.out];rfl,HX.out.trans (HB4.out.mono HX.out.size)⟩
end Go.Proofs.YtkcmhaknalomjaaGreatDoor
namespace Go.Proofs.YtkcmhaknalomjaaGreatDoor
end Go.Proofs.YtkcmhaknalomjaaGreatDoor
namespace Go.Proofs.YtkcmhaknalomjaaGreatDoor
open Go.RowKit Go.Fl64
open Ie
theorem rto_0 (na:Bool) (ua:Option Addr) (uc:Nat) (ea m:Int) (w:World):Calls Tryz.prog 148 #[.agg #[.bool na,.slice ua 0 uc,.int .i64 ea],.int .i64 m] w fun r w'=>r=.returned (.float .f64 0)∧Bw w w':=by
 obtain⟨W,hW⟩:∃ W,W=w.alloc (.cells #[.bool na,.slice ua 0 uc,.int .i64 ea] 69):=⟨_,rfl⟩;have HB:Hid (Bw w W):=(by rw[hW];exact(xB7 _ _).alloc (xB6 _) _:Bw w W)
 go_enter Tryz.func148,Tryz.ntmps148
 go_wp2
 go_ret;exact⟨rfl,hW ▸ HB.out⟩
end Go.Proofs.YtkcmhaknalomjaaGreatDoor
namespace Go.Proofs.YtkcmhaknalomjaaGreatDoor
open Go.RowKit
theorem xZ3 (s:Bool) (ao:Option Addr) (n cap F:Nat) (e place m:Int) (w:World) (kT:∀ W,Bw w W→Calls Tryz.prog 148 #[.agg #[.bool s,.slice ao n cap,.int .i64 e],.int .i64 m] W fun r w'=>r=.returned (.float .f64 F)∧Bw W w') :
  Calls Tryz.prog 206 #[.agg #[.bool s,.slice ao n cap,.int .i64 e],.bool true,.int .i64 place,.int .i64 m] w fun r w'=>r=.returned (.float .f64 F)∧Bw w w':=by
 obtain⟨W,hW⟩:∃ W,W=w.alloc (.cells #[.bool s,.slice ao n cap,.int .i64 e] 69):=⟨_,rfl⟩;have hBW:Bw w W:=by rw[hW];exact(xB7 _ _).alloc (xB6 _) _
 have HX:Hid (Bw w W):=hBW;have k:=kT W hBW;clear kT hBW
 go_enter Tryz.func206,Tryz.ntmps206
 go_wp2_with fail;rw[←hW];clear hW;refine k.mono ?_;rintro r w1 ⟨rfl,hb1⟩;have HB1:Hid (Bw W w1):=hb1;clear k hb1
 go_wp2
 go_ret;exact⟨rfl,HX.out.trans (HB1.out.mono HX.out.size)⟩
theorem xZ2 (s:Bool) (ao:Option Addr) (n cap F:Nat) (e place m:Int) (s':Bool) (z':Nat) (e':Int) (w:World) (hp1 : -1000000≤place) (hp2:place≤1000000)
  (kP:∀ g W,Bw w W→At W (some ⟨g,0,none⟩) 1 1→Calls Tryz.prog 94 #[.agg #[.bool s,.slice ao n cap,.int .i64 e],.agg #[.bool false,.slice (some ⟨g,0,none⟩) 1 1,.int .i64 (-(place+1))]] W fun r w'=>∃ a,r=.returned a∧NC w' W.heap.size a s' z' e'∧Bw W w')
  (kT:∀ W A,Bw w W→NC W w.heap.size A s' z' e'→Calls Tryz.prog 148 #[A,.int .i64 m] W fun r w'=>r=.returned (.float .f64 F)∧Bw W w') :
  Calls Tryz.prog 206 #[.agg #[.bool s,.slice ao n cap,.int .i64 e],.bool false,.int .i64 place,.int .i64 m] w fun r w'=>r=.returned (.float .f64 F)∧Bw w w':=by
 obtain⟨W,hW⟩:∃ W,W=w.alloc (.cells #[.bool s,.slice ao n cap,.int .i64 e] 69):=⟨_,rfl⟩;have hBW:Bw w W:=by rw[hW];exact(xB7 _ _).alloc (xB6 _) _
 have hA:W.heap[w.heap.size]?=some (.cells #[.bool s,.slice ao n cap,.int .i64 e] 69 (0,0)):=by rw[hW];exact xM3 _ _
 have hsz:W.heap.size=w.heap.size+1:=by rw[hW];simp
 have HX:Hid (Bw w W∧W.heap.size=w.heap.size+1∧W.heap[w.heap.size]?=some (.cells #[.bool s,.slice ao n cap,.int .i64 e] 69 (0,0))):=⟨hBW,hsz,hA⟩;have HKT:Hid _:=kT;have HK:Hid (∀ w',Bw W w'→(w'.cell? ⟨w.heap.size,0,none⟩=some (.bool s)∧w'.cell? ⟨w.heap.size,1,none⟩=some (.slice ao n cap)∧w'.cell? ⟨w.heap.size,2,none⟩=some (.int .i64 e))):=fun w' hb=>(qQ2 (qQ HX.out.2.2 hb (by have:=HX.out.2.1;omega))).1
 have kO:∀ w8,Bw W w8→Calls Tryz.prog 122 #[.int .i64 (place+1)] w8 fun r w'=>∃ g,r=.returned (.agg #[.bool false,.slice (some ⟨g,0,none⟩) 1 1,.int .i64 (-(place+1))])∧Hid (At w' (some ⟨g,0,none⟩) 1 1)∧Bw W w'∧(w'.cell? ⟨w.heap.size,0,none⟩=some (.bool s)∧w'.cell? ⟨w.heap.size,1,none⟩=some (.slice ao n cap)∧w'.cell? ⟨w.heap.size,2,none⟩=some (.int .i64 e)):=fun w8 hb=>(rone (place+1) w8 (by omega) (by omega)).mono fun r w' ⟨g,e1,e2,e3,e4⟩=>⟨g,e1,e3,hb.trans (e4.mono hb.size),HK.out w' (hb.trans (e4.mono hb.size))⟩
 have kL:∀ g w9,Hid (At w9 (some ⟨g,0,none⟩) 1 1)→Bw W w9→Calls Tryz.prog 94 #[.agg #[.bool s,.slice ao n cap,.int .i64 e],.agg #[.bool false,.slice (some ⟨g,0,none⟩) 1 1,.int .i64 (-(place+1))]] w9 fun r w'=>∃ s9 ao9 n9 cap9 ex9,r=.returned (.agg #[.bool s9,.slice ao9 n9 cap9,.int .i64 ex9])∧Hid (NC w' W.heap.size (.agg #[.bool s9,.slice ao9 n9 cap9,.int .i64 ex9]) s' z' e')∧Bw W w'∧Hid (w'.heap[w.heap.size]?=some (.cells #[.bool s,.slice ao n cap,.int .i64 e] 69 (0,0)))∧(w'.cell? ⟨w.heap.size,0,none⟩=some (.bool s)∧w'.cell? ⟨w.heap.size,1,none⟩=some (.slice ao n cap)∧w'.cell? ⟨w.heap.size,2,none⟩=some (.int .i64 e))∧(w'.frozen? ⟨w.heap.size,0,none⟩=false∧w'.frozen? ⟨w.heap.size,1,none⟩=false∧w'.frozen? ⟨w.heap.size,2,none⟩=false):=by
  intro g w9 hA hb;refine(kP g w9 (HX.out.1.trans (hb.mono HX.out.1.size)) hA.out).mono ?_
  rintro r w10 ⟨A,rfl,hN,hb10⟩;obtain⟨s9,ao9,n9,cap9,ex9,rfl⟩:=hN.shape;have hbb:=hb.trans (hb10.mono hb.size);have hblk:=qQ HX.out.2.2 hbb (by have:=HX.out.2.1;omega)
  obtain⟨f1,f2⟩:=qQ2 hblk;exact⟨s9,ao9,n9,cap9,ex9,rfl,hN.mono hb.size,hbb,hblk,f1,f2⟩
 obtain⟨d0,d1,d2⟩:=HK.out W (xB7 _ _);have hBR:Bw W W.drew:=(xB7 _ _).drew;have hpw:IntKind.i64.wrap (place+1)=place+1:=by rw[xM1];omega
 clear kT hA hsz hBW
 go_enter Tryz.func206,Tryz.ntmps206
 go_upto_region 2 with fail;rw[←hW];clear hW
 go_cut [15] from 11 to 15 (fun v wx=>∃ s9 ao9 n9 cap9 ex9,v=.agg #[.bool s9,.slice ao9 n9 cap9,.int .i64 ex9]∧Hid (NC wx W.heap.size (.agg #[.bool s9,.slice ao9 n9 cap9,.int .i64 ex9]) s' z' e')∧Hid (wx.heap[w.heap.size]?=some (.cells #[.bool s9,.slice ao9 n9 cap9,.int .i64 ex9] 69 (0,0)))∧Hid (Below w.heap.size W wx))
 case first =>
  go_region_with (first|(go_at_call 122;refine(kO _ (by first|(with_reducible assumption)|exact hBR|exact xB7 _ _)).mono ?_;rintro r w8 ⟨g8,rfl,hA8,hb8,⟨y1,y2,y3⟩⟩)|(go_at_call 94;refine(kL _ _ hA8 (by with_reducible assumption)).mono ?_;rintro r w9 ⟨s9,ao9,n9,cap9,ex9,rfl,hN9,hb9,hblk9,⟨x1,x2,x3⟩,x4,x5,x6⟩))
  all_goals go_wp2_with fail
  all_goals go_meet
  all_goals exact⟨s9,ao9,n9,cap9,ex9,rfl,hN9.out.store (by have:=HX.out.2.1;omega) _ _ _,qX2 _ _ _ hblk9.out,qQ3 (hb9.mono HX.out.1.size) (xB6 _) _ _ _⟩
 case rest =>
  obtain⟨s9,ao9,n9,cap9,ex9,rfl,hN9,hB9,hL9⟩:=hcut;obtain⟨wx,rfl⟩:∃ wx:World,wx=wc:=⟨_,rfl⟩;have HBx:Hid (Bw w wx):=HX.out.1.trans hL9.out;clear d0 d1 d2;obtain⟨⟨d0,d1,d2⟩,-⟩:=qQ2 hB9.out;have kt:=HKT.out wx _ HBx.out (hN9.out.mono HX.out.1.size);clear kO kL hBR
  go_wp2_with fail;refine kt.mono ?_;rintro r w11 ⟨rfl,hb11⟩;have HB11:Hid (Bw w w11):=HBx.out.trans (hb11.mono HBx.out.size);clear kt hb11
  go_wp2
  go_ret;exact⟨rfl,HB11.out⟩
theorem qW7 (na nb:Bool) (ua va:Option Addr) (un uc vn vc F:Nat) (ea eb m ta tb pl:Int) (sg:Bool) (w:World) (hsg:(!(na==nb))=sg) (hn0:((un:Int)==0)=false) (hta1 : -200000≤ta) (hta2:ta≤200000) (htb1 : -200000≤tb) (htb2:tb≤200000) (hpl:min (max (60 - ta+tb) (-1100)) 1100=pl) (hpl1 : -1100≤pl) (hpl2:pl≤1100) (EX:Int) (hEX:(1100<ta - tb∧EX=1100)∨(ta - tb < -1200∧EX = -1200)) (kHa:∀ W,Bw w W→Calls Tryz.prog 55 #[.agg #[.bool na,.slice ua un uc,.int .i64 ea]] W fun r w'=>r=.returned (.int .i64 ta)∧Bw W w') (kHb:∀ W,Bw w W→Calls Tryz.prog 55 #[.agg #[.bool nb,.slice va vn vc,.int .i64 eb]] W fun r w'=>r=.returned (.int .i64 tb)∧Bw W w')
  (kT:∀ g W,Bw w W→At W (some ⟨g,0,none⟩) 1 1→Calls Tryz.prog 148 #[.agg #[.bool sg,.slice (some ⟨g,0,none⟩) 1 1,.int .i64 EX],.int .i64 m] W fun r w'=>r=.returned (.float .f64 F)∧Bw W w') :
  Calls Tryz.prog 150 #[.agg #[.bool na,.slice ua un uc,.int .i64 ea],.agg #[.bool nb,.slice va vn vc,.int .i64 eb],.int .i64 m] w fun r w'=>r=.returned (.float .f64 F)∧Bw w w':=by
 rcases hEX with ⟨ht,rfl⟩|⟨ht,rfl⟩
 all_goals (
  try have htn:¬ 1100<ta - tb:=by omega
  obtain⟨W,hW⟩:∃ W,W=(w.alloc (.cells #[.bool na,.slice ua un uc,.int .i64 ea] 69)).alloc (.cells #[.bool nb,.slice va vn vc,.int .i64 eb] 69):=⟨_,rfl⟩;obtain⟨hA,hBb,hsz,hBW⟩:=qB8 _ _ hW;have HX:Hid (Bw w W∧W.heap.size=w.heap.size+1+1∧W.heap[w.heap.size]?=some (.cells #[.bool na,.slice ua un uc,.int .i64 ea] 69 (0,0))∧W.heap[w.heap.size+1]?=some (.cells #[.bool nb,.slice va vn vc,.int .i64 eb] 69 (0,0))):=⟨hBW,hsz,hA,hBb⟩;have HKW:Hid (∀ w',Bw W w'→((w'.cell? ⟨w.heap.size,0,none⟩=some (.bool na)∧w'.cell? ⟨w.heap.size,1,none⟩=some (.slice ua un uc)∧w'.cell? ⟨w.heap.size,2,none⟩=some (.int .i64 ea))∧(w'.cell? ⟨w.heap.size+1,0,none⟩=some (.bool nb)∧w'.cell? ⟨w.heap.size+1,1,none⟩=some (.slice va vn vc)∧w'.cell? ⟨w.heap.size+1,2,none⟩=some (.int .i64 eb)))):=fun w' hb=>⟨(qQ2 (qQ HX.out.2.2.1 hb (by have:=HX.out.2.1;omega))).1,(qQ2 (qQ HX.out.2.2.2 hb (by have:=HX.out.2.1;omega))).1⟩
  have HKA:Hid _:=kHa;have HKB:Hid _:=kHb;have HBW0:Hid (Bw W W):=xB7 _ _;have hw1:IntKind.i64.wrap (60 - ta)=60 - ta:=by rw[xM1];omega
  have hw2:IntKind.i64.wrap (60 - ta+tb)=60 - ta+tb:=by rw[xM1];omega
  have hw3:IntKind.i64.wrap (ta - tb)=ta - tb:=by rw[xM1];omega
  have HKT:Hid _:=kT;clear kT;clear hA hBb hsz hBW kHa kHb
  go_enter Tryz.func150,Tryz.ntmps150;have HK0:Hid (∀ w',Bw W w'→((w'.cell? ⟨w.heap.size,0,none⟩=some (.bool na)∧w'.cell? ⟨w.heap.size,1,none⟩=some (.slice ua un uc)∧w'.cell? ⟨w.heap.size,2,none⟩=some (.int .i64 ea))∧(w'.cell? ⟨w.heap.size+1,0,none⟩=some (.bool nb)∧w'.cell? ⟨w.heap.size+1,1,none⟩=some (.slice va vn vc)∧w'.cell? ⟨w.heap.size+1,2,none⟩=some (.int .i64 eb)))):=fun w' hb=>HKW.out w' (HBW0.out.trans (hb.mono HBW0.out.size));obtain⟨⟨a0,a1,a2⟩,b0,b1,b2⟩:=HK0.out W (xB7 _ _);have hBR:Bw W W.drew:=(xB7 _ _).drew;have kA':∀ w4,Bw W w4→Calls Tryz.prog 55 #[.agg #[.bool na,.slice ua un uc,.int .i64 ea]] w4 fun r w'=>r=.returned (.int .i64 ta)∧Bw W w':=fun w4 hb=>(HKA.out w4 (HX.out.1.trans ((HBW0.out.trans (hb.mono HBW0.out.size)).mono HX.out.1.size))).mono fun r w' ⟨e1,o2⟩=>⟨e1,hb.trans (o2.mono hb.size)⟩;have kB':∀ w4,Bw W w4→Calls Tryz.prog 55 #[.agg #[.bool nb,.slice va vn vc,.int .i64 eb]] w4 fun r w'=>r=.returned (.int .i64 tb)∧Bw W w':=fun w4 hb=>(HKB.out w4 (HX.out.1.trans ((HBW0.out.trans (hb.mono HBW0.out.size)).mono HX.out.1.size))).mono fun r w' ⟨e1,o2⟩=>⟨e1,hb.trans (o2.mono hb.size)⟩
  go_upto_region 3 with fail;rw[←hW];clear hW
  go_cut [7] from 15 to 22 (fun v wx=>v=.int .i64 pl∧Hid (Bw W wx))
  case first =>
   go_region_held3 (fun w'=>((w'.cell? ⟨w.heap.size,0,none⟩=some (.bool na)∧w'.cell? ⟨w.heap.size,1,none⟩=some (.slice ua un uc)∧w'.cell? ⟨w.heap.size,2,none⟩=some (.int .i64 ea))∧(w'.cell? ⟨w.heap.size+1,0,none⟩=some (.bool nb)∧w'.cell? ⟨w.heap.size+1,1,none⟩=some (.slice va vn vc)∧w'.cell? ⟨w.heap.size+1,2,none⟩=some (.int .i64 eb)))) (first|(with_reducible assumption)|exact⟨⟨a0,a1,a2⟩,b0,b1,b2⟩|(refine HK0.out _ ?_;with_reducible assumption)|go_keep)
    (first|(go_at_call 55;first|(with_reducible refine(kA' _ (by first|(with_reducible assumption)|exact hBR)).mono ?_;rintro r w5 ⟨rfl,hb5⟩)|(with_reducible refine(kB' _ (by first|(with_reducible assumption)|exact hBR)).mono ?_;rintro r w6 ⟨rfl,hb6⟩)))
   all_goals go_wp2_with fail
   all_goals go_meet
   all_goals first|exact⟨rfl,hb6⟩|exact⟨rfl,hb5⟩
  case rest =>
  obtain⟨rfl,hcx⟩:=hcut;obtain⟨w2,rfl⟩:∃ w2:World,w2=wc:=⟨_,rfl⟩;have HBW1:Hid (Bw W w2):=HBW0.out.trans (hcx.out.mono HBW0.out.size);clear hcx a0 a1 a2 b0 b1 b2 kA' kB' hBR HK0;have HK1:Hid (∀ w',Bw w2 w'→((w'.cell? ⟨w.heap.size,0,none⟩=some (.bool na)∧w'.cell? ⟨w.heap.size,1,none⟩=some (.slice ua un uc)∧w'.cell? ⟨w.heap.size,2,none⟩=some (.int .i64 ea))∧(w'.cell? ⟨w.heap.size+1,0,none⟩=some (.bool nb)∧w'.cell? ⟨w.heap.size+1,1,none⟩=some (.slice va vn vc)∧w'.cell? ⟨w.heap.size+1,2,none⟩=some (.int .i64 eb)))):=fun w' hb=>HKW.out w' (HBW1.out.trans (hb.mono HBW1.out.size));obtain⟨⟨a0,a1,a2⟩,b0,b1,b2⟩:=HK1.out w2 (xB7 _ _);have hBR:Bw w2 w2.drew:=(xB7 _ _).drew;have kA':∀ w4,Bw w2 w4→Calls Tryz.prog 55 #[.agg #[.bool na,.slice ua un uc,.int .i64 ea]] w4 fun r w'=>r=.returned (.int .i64 ta)∧Bw w2 w':=fun w4 hb=>(HKA.out w4 (HX.out.1.trans ((HBW1.out.trans (hb.mono HBW1.out.size)).mono HX.out.1.size))).mono fun r w' ⟨e1,o2⟩=>⟨e1,hb.trans (o2.mono hb.size)⟩;have kB':∀ w4,Bw w2 w4→Calls Tryz.prog 55 #[.agg #[.bool nb,.slice va vn vc,.int .i64 eb]] w4 fun r w'=>r=.returned (.int .i64 tb)∧Bw w2 w':=fun w4 hb=>(HKB.out w4 (HX.out.1.trans ((HBW1.out.trans (hb.mono HBW1.out.size)).mono HX.out.1.size))).mono fun r w' ⟨e1,o2⟩=>⟨e1,hb.trans (o2.mono hb.size)⟩
  go_upto_region 4 with fail
  go_cut [8] from 23 to 27 (fun v wx=>v=.int .i64 (ta - tb)∧Hid (Bw w2 wx))
  case first =>
   go_region_held3 (fun w'=>((w'.cell? ⟨w.heap.size,0,none⟩=some (.bool na)∧w'.cell? ⟨w.heap.size,1,none⟩=some (.slice ua un uc)∧w'.cell? ⟨w.heap.size,2,none⟩=some (.int .i64 ea))∧(w'.cell? ⟨w.heap.size+1,0,none⟩=some (.bool nb)∧w'.cell? ⟨w.heap.size+1,1,none⟩=some (.slice va vn vc)∧w'.cell? ⟨w.heap.size+1,2,none⟩=some (.int .i64 eb)))) (first|(with_reducible assumption)|exact⟨⟨a0,a1,a2⟩,b0,b1,b2⟩|(refine HK1.out _ ?_;with_reducible assumption)|go_keep)
    (first|(go_at_call 55;first|(with_reducible refine(kA' _ (by first|(with_reducible assumption)|exact hBR)).mono ?_;rintro r w5 ⟨rfl,hb5⟩)|(with_reducible refine(kB' _ (by first|(with_reducible assumption)|exact hBR)).mono ?_;rintro r w6 ⟨rfl,hb6⟩)))
   all_goals go_wp2_with fail
   all_goals go_meet
   all_goals first|exact⟨rfl,hb6⟩|exact⟨rfl,hb5⟩
  case rest =>
  obtain⟨rfl,hcx⟩:=hcut;obtain⟨w3,rfl⟩:∃ w3:World,w3=wc:=⟨_,rfl⟩;have HBW2:Hid (Bw W w3):=HBW1.out.trans (hcx.out.mono HBW1.out.size);clear hcx a0 a1 a2 b0 b1 b2 kA' kB' hBR HK1;obtain⟨⟨a0,a1,a2⟩,b0,b1,b2⟩:=HKW.out w3 HBW2.out;obtain⟨w4,hw4⟩:∃ w4,w4=w3.alloc (.cells #[.int .u32 1] 125):=⟨_,rfl⟩;have hB34:Bw w3 w4:=by rw[hw4];exact(xB7 _ _).alloc (xB6 _) _
  have HW3:Hid (Bw w w3):=HX.out.1.trans (HBW2.out.mono HX.out.1.size);have HB4:Hid (Bw w w4):=HW3.out.trans (hB34.mono HW3.out.size);have hA1:At w4 (some ⟨w3.heap.size,0,none⟩) 1 1:=⟨w3.heap.size,0,fun _=>rfl,fun i hi=>by
   obtain rfl:i=0:=by omega
   rw[hw4,qS,show 1 % B=1 by rfl]
   exact qL6 w3 _⟩
  have kt:=HKT.out w3.heap.size w4 HB4.out hA1;clear hB34 hA1
  go_wp2_with fail;rw[←hw4];clear hw4;refine kt.mono ?_;rintro r w5 ⟨rfl,hb5⟩;have HB5:Hid (Bw w w5):=HB4.out.trans (hb5.mono HB4.out.size);clear kt hb5
  go_wp2
  go_ret;exact⟨rfl,HB5.out⟩)
theorem zB8 (na nb:Bool) (ua va:Option Addr) (un uc vn vc F:Nat) (ea eb m ta tb pl:Int) (s:Bool) (z:Nat) (bx:Bool) (w:World) (hn0:((un:Int)==0)=false) (hta1 : -200000≤ta) (hta2:ta≤200000) (htb1 : -200000≤tb) (htb2:tb≤200000) (hpl:min (max (60 - ta+tb) (-1100)) 1100=pl) (hpl1 : -1100≤pl) (hpl2:pl≤1100) (ht1:ta - tb≤1100) (ht2 : -1200≤ta - tb) (kHa:∀ W,Bw w W→Calls Tryz.prog 55 #[.agg #[.bool na,.slice ua un uc,.int .i64 ea]] W fun r w'=>r=.returned (.int .i64 ta)∧Bw W w') (kHb:∀ W,Bw w W→Calls Tryz.prog 55 #[.agg #[.bool nb,.slice va vn vc,.int .i64 eb]] W fun r w'=>r=.returned (.int .i64 tb)∧Bw W w')
  (kO:∀ W,Bw w W→Calls Tryz.prog 158 #[.agg #[.bool na,.slice ua un uc,.int .i64 ea],.agg #[.bool nb,.slice va vn vc,.int .i64 eb],.int .i64 (pl+60)] W fun r w'=>∃ A,r=.returned (.tuple #[A,.bool bx])∧NC w' W.heap.size A s z (-(pl+60))∧Bw W w')
  (kB:∀ W A,Bw w W→NC W w.heap.size A s z (-(pl+60))→Calls Tryz.prog 206 #[A,.bool bx,.int .i64 (pl+60),.int .i64 m] W fun r w'=>r=.returned (.float .f64 F)∧Bw W w') :
  Calls Tryz.prog 150 #[.agg #[.bool na,.slice ua un uc,.int .i64 ea],.agg #[.bool nb,.slice va vn vc,.int .i64 eb],.int .i64 m] w fun r w'=>r=.returned (.float .f64 F)∧Bw w w':=by
 have htn:¬ 1100<ta - tb:=by omega
 have htm:¬ ta - tb < -1200:=by omega
 obtain⟨W,hW⟩:∃ W,W=(w.alloc (.cells #[.bool na,.slice ua un uc,.int .i64 ea] 69)).alloc (.cells #[.bool nb,.slice va vn vc,.int .i64 eb] 69):=⟨_,rfl⟩;obtain⟨hA,hBb,hsz,hBW⟩:=qB8 _ _ hW;have HX:Hid (Bw w W∧W.heap.size=w.heap.size+1+1∧W.heap[w.heap.size]?=some (.cells #[.bool na,.slice ua un uc,.int .i64 ea] 69 (0,0))∧W.heap[w.heap.size+1]?=some (.cells #[.bool nb,.slice va vn vc,.int .i64 eb] 69 (0,0))):=⟨hBW,hsz,hA,hBb⟩;have HKW:Hid (∀ w',Bw W w'→((w'.cell? ⟨w.heap.size,0,none⟩=some (.bool na)∧w'.cell? ⟨w.heap.size,1,none⟩=some (.slice ua un uc)∧w'.cell? ⟨w.heap.size,2,none⟩=some (.int .i64 ea))∧(w'.cell? ⟨w.heap.size+1,0,none⟩=some (.bool nb)∧w'.cell? ⟨w.heap.size+1,1,none⟩=some (.slice va vn vc)∧w'.cell? ⟨w.heap.size+1,2,none⟩=some (.int .i64 eb)))):=fun w' hb=>⟨(qQ2 (qQ HX.out.2.2.1 hb (by have:=HX.out.2.1;omega))).1,(qQ2 (qQ HX.out.2.2.2 hb (by have:=HX.out.2.1;omega))).1⟩
 have HKA:Hid _:=kHa;have HKB:Hid _:=kHb;have HBW0:Hid (Bw W W):=xB7 _ _;have hw1:IntKind.i64.wrap (60 - ta)=60 - ta:=by rw[xM1];omega
 have hw2:IntKind.i64.wrap (60 - ta+tb)=60 - ta+tb:=by rw[xM1];omega
 have hw3:IntKind.i64.wrap (ta - tb)=ta - tb:=by rw[xM1];omega
 have HKO:Hid _:=kO;have HKBt:Hid _:=kB;clear kO kB;clear hA hBb hsz hBW kHa kHb
 go_enter Tryz.func150,Tryz.ntmps150;have HK0:Hid (∀ w',Bw W w'→((w'.cell? ⟨w.heap.size,0,none⟩=some (.bool na)∧w'.cell? ⟨w.heap.size,1,none⟩=some (.slice ua un uc)∧w'.cell? ⟨w.heap.size,2,none⟩=some (.int .i64 ea))∧(w'.cell? ⟨w.heap.size+1,0,none⟩=some (.bool nb)∧w'.cell? ⟨w.heap.size+1,1,none⟩=some (.slice va vn vc)∧w'.cell? ⟨w.heap.size+1,2,none⟩=some (.int .i64 eb)))):=fun w' hb=>HKW.out w' (HBW0.out.trans (hb.mono HBW0.out.size));obtain⟨⟨a0,a1,a2⟩,b0,b1,b2⟩:=HK0.out W (xB7 _ _);have hBR:Bw W W.drew:=(xB7 _ _).drew;have kA':∀ w4,Bw W w4→Calls Tryz.prog 55 #[.agg #[.bool na,.slice ua un uc,.int .i64 ea]] w4 fun r w'=>r=.returned (.int .i64 ta)∧Bw W w':=fun w4 hb=>(HKA.out w4 (HX.out.1.trans ((HBW0.out.trans (hb.mono HBW0.out.size)).mono HX.out.1.size))).mono fun r w' ⟨e1,o2⟩=>⟨e1,hb.trans (o2.mono hb.size)⟩;have kB':∀ w4,Bw W w4→Calls Tryz.prog 55 #[.agg #[.bool nb,.slice va vn vc,.int .i64 eb]] w4 fun r w'=>r=.returned (.int .i64 tb)∧Bw W w':=fun w4 hb=>(HKB.out w4 (HX.out.1.trans ((HBW0.out.trans (hb.mono HBW0.out.size)).mono HX.out.1.size))).mono fun r w' ⟨e1,o2⟩=>⟨e1,hb.trans (o2.mono hb.size)⟩
 go_upto_region 3 with fail;rw[←hW];clear hW
 go_cut [7] from 15 to 22 (fun v wx=>v=.int .i64 pl∧Hid (Bw W wx))
 case first =>
  go_region_held3 (fun w'=>((w'.cell? ⟨w.heap.size,0,none⟩=some (.bool na)∧w'.cell? ⟨w.heap.size,1,none⟩=some (.slice ua un uc)∧w'.cell? ⟨w.heap.size,2,none⟩=some (.int .i64 ea))∧(w'.cell? ⟨w.heap.size+1,0,none⟩=some (.bool nb)∧w'.cell? ⟨w.heap.size+1,1,none⟩=some (.slice va vn vc)∧w'.cell? ⟨w.heap.size+1,2,none⟩=some (.int .i64 eb)))) (first|(with_reducible assumption)|exact⟨⟨a0,a1,a2⟩,b0,b1,b2⟩|(refine HK0.out _ ?_;with_reducible assumption)|go_keep)
   (first|(go_at_call 55;first|(with_reducible refine(kA' _ (by first|(with_reducible assumption)|exact hBR)).mono ?_;rintro r w5 ⟨rfl,hb5⟩)|(with_reducible refine(kB' _ (by first|(with_reducible assumption)|exact hBR)).mono ?_;rintro r w6 ⟨rfl,hb6⟩)))
  all_goals go_wp2_with fail
  all_goals go_meet
  all_goals first|exact⟨rfl,hb6⟩|exact⟨rfl,hb5⟩
 case rest =>
 obtain⟨rfl,hcx⟩:=hcut;obtain⟨w2,rfl⟩:∃ w2:World,w2=wc:=⟨_,rfl⟩;have HBW1:Hid (Bw W w2):=HBW0.out.trans (hcx.out.mono HBW0.out.size);clear hcx a0 a1 a2 b0 b1 b2 kA' kB' hBR HK0;have HK1:Hid (∀ w',Bw w2 w'→((w'.cell? ⟨w.heap.size,0,none⟩=some (.bool na)∧w'.cell? ⟨w.heap.size,1,none⟩=some (.slice ua un uc)∧w'.cell? ⟨w.heap.size,2,none⟩=some (.int .i64 ea))∧(w'.cell? ⟨w.heap.size+1,0,none⟩=some (.bool nb)∧w'.cell? ⟨w.heap.size+1,1,none⟩=some (.slice va vn vc)∧w'.cell? ⟨w.heap.size+1,2,none⟩=some (.int .i64 eb)))):=fun w' hb=>HKW.out w' (HBW1.out.trans (hb.mono HBW1.out.size));obtain⟨⟨a0,a1,a2⟩,b0,b1,b2⟩:=HK1.out w2 (xB7 _ _);have hBR:Bw w2 w2.drew:=(xB7 _ _).drew;have kA':∀ w4,Bw w2 w4→Calls Tryz.prog 55 #[.agg #[.bool na,.slice ua un uc,.int .i64 ea]] w4 fun r w'=>r=.returned (.int .i64 ta)∧Bw w2 w':=fun w4 hb=>(HKA.out w4 (HX.out.1.trans ((HBW1.out.trans (hb.mono HBW1.out.size)).mono HX.out.1.size))).mono fun r w' ⟨e1,o2⟩=>⟨e1,hb.trans (o2.mono hb.size)⟩;have kB':∀ w4,Bw w2 w4→Calls Tryz.prog 55 #[.agg #[.bool nb,.slice va vn vc,.int .i64 eb]] w4 fun r w'=>r=.returned (.int .i64 tb)∧Bw w2 w':=fun w4 hb=>(HKB.out w4 (HX.out.1.trans ((HBW1.out.trans (hb.mono HBW1.out.size)).mono HX.out.1.size))).mono fun r w' ⟨e1,o2⟩=>⟨e1,hb.trans (o2.mono hb.size)⟩
 go_upto_region 4 with fail
 go_cut [8] from 23 to 27 (fun v wx=>v=.int .i64 (ta - tb)∧Hid (Bw w2 wx))
 case first =>
  go_region_held3 (fun w'=>((w'.cell? ⟨w.heap.size,0,none⟩=some (.bool na)∧w'.cell? ⟨w.heap.size,1,none⟩=some (.slice ua un uc)∧w'.cell? ⟨w.heap.size,2,none⟩=some (.int .i64 ea))∧(w'.cell? ⟨w.heap.size+1,0,none⟩=some (.bool nb)∧w'.cell? ⟨w.heap.size+1,1,none⟩=some (.slice va vn vc)∧w'.cell? ⟨w.heap.size+1,2,none⟩=some (.int .i64 eb)))) (first|(with_reducible assumption)|exact⟨⟨a0,a1,a2⟩,b0,b1,b2⟩|(refine HK1.out _ ?_;with_reducible assumption)|go_keep)
   (first|(go_at_call 55;first|(with_reducible refine(kA' _ (by first|(with_reducible assumption)|exact hBR)).mono ?_;rintro r w5 ⟨rfl,hb5⟩)|(with_reducible refine(kB' _ (by first|(with_reducible assumption)|exact hBR)).mono ?_;rintro r w6 ⟨rfl,hb6⟩)))
  all_goals go_wp2_with fail
  all_goals go_meet
  all_goals first|exact⟨rfl,hb6⟩|exact⟨rfl,hb5⟩
 case rest =>
 obtain⟨rfl,hcx⟩:=hcut;obtain⟨w3,rfl⟩:∃ w3:World,w3=wc:=⟨_,rfl⟩;have HBW2:Hid (Bw W w3):=HBW1.out.trans (hcx.out.mono HBW1.out.size);clear hcx a0 a1 a2 b0 b1 b2 kA' kB' hBR HK1;obtain⟨⟨a0,a1,a2⟩,b0,b1,b2⟩:=HKW.out w3 HBW2.out;have HW3:Hid (Bw w w3):=HX.out.1.trans (HBW2.out.mono HX.out.1.size);have ko:=HKO.out w3 HW3.out
 go_wp2_with fail;refine ko.mono ?_;rintro r w4 ⟨A,rfl,hN,hb4⟩;have HB4:Hid (Bw w w4):=HW3.out.trans (hb4.mono HW3.out.size);obtain⟨s3,ao3,n3,cap3,e3,rfl⟩:=hN.shape;obtain⟨w5,hw5⟩:∃ w5,w5=w4.alloc (.cells #[.bool s3,.slice ao3 n3 cap3,.int .i64 e3] 69):=⟨_,rfl⟩;have hB45:Bw w4 w5:=by rw[hw5];exact(xB7 _ _).alloc (xB6 _) _
 have HB5:Hid (Bw w w5):=HB4.out.trans (hB45.mono HB4.out.size);have kb:=HKBt.out w5 _ HB5.out ((hN.later hB45).mono HW3.out.size);clear ko hN hb4 hB45 a0 a1 a2 b0 b1 b2
 go_wp2_with fail;rw[←hw5];clear hw5;refine kb.mono ?_;rintro r w6 ⟨rfl,hb6⟩;have HB6:Hid (Bw w w6):=HB5.out.trans (hb6.mono HB5.out.size);clear kb hb6
 go_wp2
 go_ret;exact⟨rfl,HB6.out⟩
end Go.Proofs.YtkcmhaknalomjaaGreatDoor
namespace Go.Proofs.YtkcmhaknalomjaaGreatDoor
open Go.RowKit Go.Fl64
open Ie
theorem yC3 {x n:Nat}:n+1≤bl x↔2^n≤x:=by
 have:=qJ2 x n
 omega
theorem xH2 {x n:Nat} (h:n<bl x):bl (x / 2^n)=bl x - n:=by
 have hx0:x≠0:=fun e=>by rw[e] at h;simp[bl] at h
 have h1:=qJ9 x;have h2:=qN0 hx0;have a:bl (x / 2^n)≤bl x - n:=(qJ2 _ _).2 ((xD0 (xN0 n)).2 (by rw[←xM9,show bl x - n+n=bl x by omega];exact h1))
 have b:bl x - n - 1+1≤bl (x / 2^n):=yC3.2 ((Nat.le_div_iff_mul_le (xN0 n)).2 (by rw[←xM9,show bl x - n - 1+n=bl x - 1 by omega];exact h2))
 omega
theorem zF1 {x:Nat} (h:x≠0):bl (2*x+1)=bl x+1:=by
 have h1:=qJ9 x;have h2:=qN0 h;have hb:=qW0 h;have a:bl (2*x+1)≤bl x+1:=(qJ2 _ _).2 (by rw[xP0];omega)
 have b:bl x+1≤bl (2*x+1):=yC3.2 (by
  have:2^bl x=2*2^(bl x - 1):=by rw[←Nat.pow_succ'];congr 1;omega
  omega)
 omega
theorem zD4 {x t:Nat} (h:1≤t):(2*x+1) / 2^t=x / 2^(t - 1):=by
 obtain⟨n,rfl⟩:∃ n,t=n+1:=⟨t - 1,by omega⟩
 rw[xD,Nat.pow_succ',←xM6,show(2*x+1) / 2=x by omega]
theorem qH6 {s:Bool} {x:Nat} {e m:Int} (h:64≤bl x):tfF s false x e m=tfF s true (2*x+1) (e - 1) m:=by
 have hx0:x≠0:=fun e=>by rw[e] at h;simp[bl] at h
 have hb:=zF1 hx0;have hd:tfD (2*x+1)=tfD x+1:=by unfold tfD;omega
 unfold tfF;have hM:tfM true (2*x+1)=tfM false x:=by
  unfold tfM;rw[hd,zD4 (by omega),xD,qW3 (show(2*x+1) % 2=1 by omega),xN (show 0<tfD x+1 by omega)]
  simp
 rw[hM,hd,show e - 1+((tfD x+1:Nat):Int)=e+(tfD x:Int) by omega]
theorem yH8 {s:Bool} {Z n:Nat} {E m:Int} (h:64≤bl (Z / 2^n)) (hr:Z % 2^n≠0):tfF s true Z E m=tfF s false (Z / 2^n) (E+n) m:=by
 have hn:0<n:=by
  rcases Nat.eq_zero_or_pos n with h0|h0
  ·rw[h0,xP2,Nat.mod_one] at hr;omega
  ·exact h0
 have hlt:n<bl Z:=Nat.lt_of_not_le fun hle=>by
  have:Z / 2^n=0:=Nat.div_eq_of_lt ((qJ2 _ _).1 hle)
  rw[this] at h;simp[bl] at h
 have hb:=xH2 hlt;have hZ0:Z≠0:=fun e=>by rw[e] at hlt;simp[bl] at hlt
 have hd:tfD Z=tfD (Z / 2^n)+n:=by unfold tfD;omega
 have hst:tz Z<tfD Z:=by
  refine(zD1 hZ0).2 fun e=>hr ?_
  have h1:2^n ∣ 2^tfD Z:=Nat.pow_dvd_pow 2 (by omega)
  exact Nat.mod_eq_zero_of_dvd (Nat.dvd_trans h1 (Nat.dvd_of_mod_eq_zero e))
 unfold tfF;have hM:tfM true Z=tfM false (Z / 2^n):=by
  unfold tfM;rw[xN hst,hd,xM6,←xM9,Nat.add_comm n];simp
 rw[hM,hd,show E+((tfD (Z / 2^n)+n:Nat):Int)=E+(n:Int)+(tfD (Z / 2^n):Int) by omega]
theorem yC5 {x n:Nat} {e:Int} {way:Nat} (hw:way=0∨way=1∨way=2):bdy (x*2^n) e way=bdy x (e+n) way:=by
 by_cases h0:x=0
 ·subst h0;rw[Nat.zero_mul];unfold bdy;rw[if_pos rfl,if_pos rfl]
 have h1:x*2^n≠0:=Nat.mul_ne_zero h0 (by have:=xN0 n;omega)
 obtain⟨K,hK⟩:∃ K:Nat,K=1200+(64 - e).toNat+n:=⟨_,rfl⟩;have a:=qF5 (e:=e) h1 (K:=K) (by omega) (by omega) (way:=way)
 have b:=qF5 (e:=e+n) h0 (K:=K) (by omega) (by omega) (way:=way)
 have hv:x*2^n*2^(e+(K:Int)).toNat=x*2^(e+(n:Int)+(K:Int)).toNat:=by
  rw[xP1,←xM9,show n+(e+(K:Int)).toNat=(e+(n:Int)+(K:Int)).toNat by omega]
 have h2:=Rounds.mono hw a b (Nat.le_of_eq hv);have h3:=Rounds.mono hw b a (Nat.le_of_eq hv.symm);have h4:rwb (x*2^n) e way=rwb x (e+n) way:=Nat.le_antisymm h2 h3;unfold bdy;rw[if_neg h0,if_neg h1,h4]
theorem qI3 {s:Bool} {x n:Nat} {e m:Int} (hm:1≤m∧m≤3):tfF s true (x*2^n) e m=tfF s true x (e+n) m:=by
 rw[qM2 hm,qM2 hm,yC5 (qE s m)]
theorem qT {s xf xc:Bool} {Qf Qc D:Nat} {E m:Int} (hm:1≤m∧m≤3) (hq:Qc=Qf / 2^D) (hx:xc=(xf&&decide (Qf % 2^D=0))) (h:64≤bl Qc):tfF s xf Qf E m=tfF s xc Qc (E+D) m:=by
 subst hq;cases xf
 ·rw[Bool.false_and] at hx;subst hx;have hle:bl (Qf / 2^D)≤bl Qf:=by
   have:=(qJ2 (Qf / 2^D) (bl Qf)).2 (xN4 (xN6 _ _) (qJ9 Qf))
   exact this
  rw[qH6 (by omega)]
  have e1:(2*Qf+1) / 2^(D+1)=Qf / 2^D:=by rw[zD4 (by omega),xD]
  have:=yH8 (s:=s) (Z:=2*Qf+1) (n:=D+1) (E:=E - 1) (m:=m) (by rw[e1];exact h) (fun h0=>by
   have h1:2 ∣ 2^(D+1):=⟨2^D,by rw[xP0,xP]⟩
   have:=Nat.dvd_trans h1 (Nat.dvd_of_mod_eq_zero h0)
   omega)
  rw[this,e1,show E - 1+((D+1:Nat):Int)=E+D by omega]
 ·rw[Bool.true_and] at hx;subst hx;by_cases h0:Qf % 2^D=0
  ·rw[xN h0];have e1:Qf=Qf / 2^D*2^D:=by
    have:=Nat.div_add_mod Qf (2^D)
    rw[h0,Nat.add_zero,xP] at this;exact this.symm
   conv=>lhs;rw[e1]
   exact qI3 hm
  ·rw[xB9 h0];exact yH8 h h0
theorem qL0 {N y D:Nat} (hy:y≠0):N / y=N*2^D / y / 2^D∧decide (N % y=0)=(decide (N*2^D % y=0)&&decide (N*2^D / y % 2^D=0)):=by
 have hp:0<2^D:=xN0 D;refine⟨by rw[xM6,Nat.mul_div_mul_right _ _ hp],?_⟩
 by_cases h:N % y=0
 ·obtain⟨c,hc⟩:=Nat.dvd_of_mod_eq_zero h;have e1:N*2^D=y*(c*2^D):=by rw[hc,xP1]
  rw[xN h,e1,Nat.mul_mod_right,Nat.mul_div_cancel_left _ (xN7 hy),Nat.mul_mod_left];rfl
 ·rw[xB9 h];by_cases h1:N*2^D % y=0
  ·by_cases h2:N*2^D / y % 2^D=0
   ·exfalso;obtain⟨c,hc⟩:=Nat.dvd_of_mod_eq_zero h1;rw[hc,Nat.mul_div_cancel_left _ (xN7 hy)] at h2;obtain⟨d,hd⟩:=Nat.dvd_of_mod_eq_zero h2;have e1:N*2^D=y*d*2^D:=by rw[hc,hd,xP1,xP d]
    have e2:N=y*d:=Nat.eq_of_mul_eq_mul_right hp e1;exact h (by rw[e2,Nat.mul_mod_right])
   ·rw[xB9 h2,Bool.and_false]
  ·rw[xB9 h1,Bool.false_and]
theorem yJ2 {x y k j:Nat} (hy:y≠0):x*2^(k+j) / (y*2^j)=x*2^k / y∧decide (x*2^(k+j) % (y*2^j)=0)=decide (x*2^k % y=0):=by
 have hp:0<2^j:=xN0 j;rw[xM9,←xP1];refine⟨Nat.mul_div_mul_right _ _ hp,?_⟩
 rw[Nat.mul_mod_mul_right];refine decide_eq_decide.2 ?_;constructor
 ·intro h;rcases Nat.mul_eq_zero.1 h with h|h
  ·exact h
  ·omega
 ·intro h;rw[h,Nat.zero_mul]
theorem zG0 {s:Bool} {x y k:Nat} {ea eb P m:Int} (hm:1≤m∧m≤3) (hy:y≠0) (h1:64≤bl (x*2^k / y)) (h2:64≤bl (ovX x ea eb P / ovY y ea eb P)) :
  tfF s (decide (x*2^k % y=0)) (x*2^k / y) (ea - eb - k) m=tfF s (decide (ovX x ea eb P % ovY y ea eb P=0)) (ovX x ea eb P / ovY y ea eb P) (-P) m:=by
 by_cases hc:(k:Int)≤ea - eb+P
 ·obtain⟨D,hD⟩:∃ D:Nat,ea - eb+P=(k:Int)+D:=⟨(ea - eb+P - k).toNat,by omega⟩
  have hX:ovX x ea eb P=x*2^k*2^D:=by unfold ovX;rw[xP1,←xM9,show(ea+P - min (ea+P) eb).toNat=k+D by omega]
  have hY:ovY y ea eb P=y:=by unfold ovY;rw[show(eb - min (ea+P) eb).toNat=0 by omega,xP2,xP6]
  rw[hX,hY];have hf:=qL0 (N:=x*2^k) (y:=y) (D:=D) hy;have:=qT (s:=s) (E := -P) hm hf.1 hf.2 h1
  rw[this,show -P+(D:Int)=ea - eb - k by omega]
 ·by_cases hn:0≤ea - eb+P
  ·obtain⟨n0,hn0⟩:∃ n0:Nat,ea - eb+P=(n0:Int):=⟨(ea - eb+P).toNat,by omega⟩
   obtain⟨D,hD⟩:∃ D:Nat,k=n0+D:=⟨k - n0,by omega⟩
   have hX:ovX x ea eb P=x*2^n0:=by unfold ovX;rw[show(ea+P - min (ea+P) eb).toNat=n0 by omega]
   have hY:ovY y ea eb P=y:=by unfold ovY;rw[show(eb - min (ea+P) eb).toNat=0 by omega,xP2,xP6]
   rw[hX,hY] at h2 ⊢;have hN:x*2^k=x*2^n0*2^D:=by rw[hD,xM9,xP1]
   rw[hN] at h1 ⊢;have hf:=qL0 (N:=x*2^n0) (y:=y) (D:=D) hy;have:=qT (s:=s) (E:=ea - eb - k) hm hf.1 hf.2 h2
   rw[this,show ea - eb - (k:Int)+(D:Int) = -P by omega]
  ·obtain⟨j,hj⟩:∃ j:Nat,ea - eb+P = -(j:Int):=⟨(-(ea - eb+P)).toNat,by omega⟩
   have hX:ovX x ea eb P=x:=by unfold ovX;rw[show(ea+P - min (ea+P) eb).toNat=0 by omega,xP2,xP6]
   have hY:ovY y ea eb P=y*2^j:=by unfold ovY;rw[show(eb - min (ea+P) eb).toNat=j by omega]
   rw[hX,hY] at h2 ⊢;have hyj:y*2^j≠0:=Nat.mul_ne_zero hy (by have:=xN0 j;omega)
   have hf:=qL0 (N:=x) (y:=y*2^j) (D:=k+j) hyj;have hg:=yJ2 (x:=x) (y:=y) (k:=k) (j:=j) hy;rw[hg.1,hg.2] at hf;have:=qT (s:=s) (E:=ea - eb - k) hm hf.1 hf.2 h2
   rw[this,show ea - eb - (k:Int)+((k+j:Nat):Int) = -P by omega]
theorem zS0 {s xe:Bool} {x y:Nat} {e f m:Int} (hm:1≤m∧m≤3) (hx:64≤bl x∨(xe=true∧x≠0)) (hy:y≠0) (h1:1024<(bl x:Int)+e) (h2:1024<(bl y:Int)+f):tfF s xe x e m=tfF s true y f m:=by
 have key:∀ z (g:Int),z≠0→1024<(bl z:Int)+g→tfF s true z g m=sig s (if wyN s m=0 then 9218868437227405311 else 9218868437227405312):=fun z g hz hg=>by rw[qM2 hm,zI7 hz hg (qE s m)]
 rw[key y f hy h2];cases xe
 ·have hb:64≤bl x:=hx.resolve_right (fun h=>by cases h.1)
  have hx0:x≠0:=fun e=>by rw[e] at hb;simp[bl] at hb
  rw[qH6 hb];exact key _ _ (by omega) (by rw[zF1 hx0];omega)
 ·rcases hx with hb|⟨-,hx0⟩
  ·exact key x e (fun e=>by rw[e] at hb;simp[bl] at hb) h1
  ·exact key x e hx0 h1
theorem qR9 {s xe:Bool} {x y:Nat} {e f m:Int} (hm:1≤m∧m≤3) (hx:64≤bl x∨(xe=true∧x≠0)) (hy:y≠0) (h1:(bl x:Int)+e < -1075) (h2:(bl y:Int)+f < -1075):tfF s xe x e m=tfF s true y f m:=by
 have key:∀ z (g:Int),z≠0→(bl z:Int)+g < -1075→tfF s true z g m=sig s (if wyN s m=2 then 1 else 0):=fun z g hz hg=>by rw[qM2 hm,zF3 hz hg (qE s m)]
 rw[key y f hy h2];cases xe
 ·have hb:64≤bl x:=hx.resolve_right (fun h=>by cases h.1)
  have hx0:x≠0:=fun e=>by rw[e] at hb;simp[bl] at hb
  rw[qH6 hb];exact key _ _ (by omega) (by rw[zF1 hx0];omega)
 ·rcases hx with hb|⟨-,hx0⟩
  ·exact key x e (fun e=>by rw[e] at hb;simp[bl] at hb) h1
  ·exact key x e hx0 h1
theorem yF4 {W:World} {base:Nat} {A:Value} {s:Bool} {z:Nat} {e m:Int} (h:NC W base A s z e) (hz:z≠0) (hl:dlen z≤30000) (he1 : -2000000≤e) (he2:e≤2000000) (hm:1≤m∧m≤3) :
  Calls Tryz.prog 148 #[A,.int .i64 m] W fun r w'=>r=.returned (.float .f64 (tfF s true z e m))∧Bw W w':=by
 obtain⟨ao,cap,rfl,hA,-⟩:=h;have hc:cn s z e=(s,z / 2^tz z,e+tz z):=by unfold cn;rw[if_neg hz]
 rw[hc] at hA ⊢;simp only at hA ⊢
 have hs:=qX1 z z (xB6 _) hz;have htz:tz z<bl z:=by
  have h3:2^tz z≤z:=by
   have h4:0<z / 2^tz z:=xN7 fun e=>by have:=hs.2;rw[e] at this;omega
   exact xN5 (Nat.le_mul_of_pos_right _ h4) (Nat.le_of_eq hs.1)
  exact(Nat.pow_lt_pow_iff_right (by omega)).1 (xN4 h3 (qJ9 z))
 have hbl:=qY0 z;have hdl:dlen (z / 2^tz z)≤dlen z:=qZ2 (xN6 _ _);have:=rto (neg:=s) (ea:=e+tz z) (m:=m) hA.at_ hA.le hs.2 (by omega) (by omega) (by omega) hm
 rw[←qM2 hm] at this;have e1:tfF s true (z / 2^tz z) (e+tz z) m=tfF s true z e m:=by
  rw[←qI3 (x:=z / 2^tz z) (n:=tz z) (e:=e) hm,xP,hs.1]
 rw[e1] at this;exact this
theorem yK1 {s:Bool} {z:Nat} {P:Int} (hz:s=true→z≠0):sumN (cn s z (-P)).1 (cn s z (-P)).2.1 (cn s z (-P)).2.2 false 1 (-(P+1))=(if z=0 then false else s,if s then 2*z - 1 else 2*z+1,-(P+1)):=by
 by_cases h0:z=0
 ·have hs:s=false:=by cases s with
   | false=>rfl
   | true=>exact absurd h0 (hz rfl)
  subst hs;subst h0;unfold cn;rw[if_pos rfl];unfold sumN;rw[if_pos rfl];simp
 ·have h2:=qX1 z z (xB6 _) h0;have e1:cn s z (-P)=(s,z / 2^tz z,-P+tz z):=by unfold cn;rw[if_neg h0]
  have h3:z / 2^tz z≠0:=fun e=>by have:=h2.2;rw[e] at this;omega
  have hz2:z / 2^tz z*2^(tz z+1)=2*z:=by rw[xP0,←xP1,xP (z / 2^tz z),h2.1,xP]
  rw[e1];unfold sumN;simp only
  rw[if_neg h3,if_neg (by omega),show min (-P+(tz z:Int)) (-(P+1)) = -(P+1) by omega,show(-P+(tz z:Int) - -(P+1)).toNat=tz z+1 by omega,show(-(P+1) - -(P+1)).toNat=0 by omega,xP2,xP6,hz2,if_neg h0]
  cases s
  ·rw[if_pos rfl,if_neg (by decide)]
  ·rw[if_neg (by decide),if_neg (by omega),if_pos rfl]
theorem yX3 {W:World} {base:Nat} {A:Value} {s:Bool} {q:Nat} {P m:Int} {bx:Bool} (h:NC W base A s (if s && !bx then q+1 else q) (-P)) (hq:bx=true→q≠0) (hl:dlen q≤20000) (hP1 : -100000≤P) (hP2:P≤100000) (hm:1≤m∧m≤3) :
  Calls Tryz.prog 206 #[A,.bool bx,.int .i64 P,.int .i64 m] W fun r w'=>r=.returned (.float .f64 (if bx then tfF s true q (-P) m else tfF s true (2*q+1) (-(P+1)) m))∧Bw W w':=by
 obtain⟨s0,ao0,n0,cap0,e0,rfl⟩:=h.shape;cases bx
 ·rw[Bool.not_false,Bool.and_true] at h;rw[if_neg (by decide)]
  have hzl:dlen (if s then q+1 else q)≤20001:=by
   split
   ·exact xN5 (qS6 _) (by omega)
   ·omega
  refine xZ2 s0 ao0 n0 cap0 _ e0 P m s (2*q+1) (-(P+1)) W (by omega) (by omega) (fun g W' hW' hA1=>?_) (fun W' A' hW' hN=>?_)
  ·obtain⟨ao,cap,e1,hA,-⟩:=h.later hW';rw[e1];obtain⟨z,hz⟩:∃ z,z=if s then q+1 else q:=⟨_,rfl⟩;rw[←hz] at hA hzl ⊢;have hcn:cn (cn s z (-P)).1 (cn s z (-P)).2.1 (cn s z (-P)).2.2=(cn s z (-P)):=by
    by_cases h0:z=0
    ·unfold cn;rw[if_pos h0,if_pos rfl]
    ·have h2:=(qX1 z z (xB6 _) h0).2;have:cn s z (-P)=(s,z / 2^tz z,-P+tz z):=by unfold cn;rw[if_neg h0]
     rw[this];exact zQ7 h2
   have hbnd : -2000000≤(cn s z (-P)).2.2∧(cn s z (-P)).2.2≤2000000:=by
    by_cases h0:z=0
    ·unfold cn;rw[if_pos h0];exact⟨by decide,by decide⟩
    ·have hs:=qX1 z z (xB6 _) h0;have htz:tz z<bl z:=by
      have h3:2^tz z≤z:=xN5 (Nat.le_mul_of_pos_right _ (xN7 fun e=>by have:=hs.2;rw[e] at this;omega)) (Nat.le_of_eq hs.1)
      exact(Nat.pow_lt_pow_iff_right (by omega)).1 (xN4 h3 (qJ9 z))
     have hbl:=qY0 z;unfold cn;rw[if_neg h0];exact⟨by simp only;omega,by simp only;omega⟩
   have hone:Arg W' (some ⟨g,0,none⟩) (dlen 1) 1 1:=⟨fun h=>by rw[qK4] at h;omega,by rw[qK4];exact hA1,by rw[qK4];exact xB6 _,by rw[qK4];omega⟩
   have:=yF9 (na:=(cn s z (-P)).1) (nb:=false) (ea:=(cn s z (-P)).2.2) (eb := -(P+1)) hA hone hcn (zQ7 rfl) hbnd.1 hbnd.2 (by omega) (by omega) (xN5 yW8 (by omega)) (by rw[qK4];omega)
   have hzs:s=true→z≠0:=fun e=>by rw[hz,e,if_pos rfl];omega
   rw[yK1 hzs,qK4] at this;refine this.mono ?_;rintro r w' ⟨a,rfl,hN,hb⟩;refine⟨a,rfl,?_,hb⟩
   have e2:(if s then 2*z - 1 else 2*z+1)=2*q+1:=by
    rw[hz];cases s
    ·rw[if_neg (by decide),if_neg (by decide)]
    ·rw[if_pos rfl,if_pos rfl];omega
   rw[e2] at hN;by_cases h0:z=0
   ·rw[if_pos h0] at hN;have hs:s=false:=by cases s with
     | false=>rfl
     | true=>exact absurd h0 (hzs rfl)
    rw[hs];exact hN
   ·rw[if_neg h0] at hN;exact hN
  ·refine yF4 hN (by omega) ?_ (by omega) (by omega) hm
   have h1:=qK1 q q;have h2:=qS6 (q+q);rw[show 2*q+1=q+q+1 by omega]
   omega
 ·rw[Bool.not_true,Bool.and_false,if_neg (by decide)] at h
  rw[if_pos rfl];exact xZ3 s0 ao0 n0 cap0 _ e0 P m W (fun W' hW'=>yF4 (h.later hW') (hq rfl) (by omega) (by omega) (by omega) hm)
end Go.Proofs.YtkcmhaknalomjaaGreatDoor
namespace Go.Proofs.YtkcmhaknalomjaaGreatDoor
open Go.RowKit Go.Fl64
theorem yV (a m:Nat) (ha:a<18446744073709551616) (hf:mag a<9218868437227405312) (hm:Ie.sM a=(m:Int)):cn (neg a) m (Ie.sE a)=tF a:=by
 unfold tF cn;rcases yX9 a m ha hf hm with ⟨h1,h2⟩|⟨h1,h2,-,h3,h4⟩
 ·rw[if_pos h1,if_pos h2]
 ·rw[if_neg h1,if_neg h2,h3,h4]
theorem psign {t:Bool×Nat×Int} {A:Value} {w:World} (ok:Ok t) (h:PN w A t):Calls Tryz.prog 76 #[A] w fun r w'=>r=.returned (.int .i64 (sgI t.1 (dlen t.2.1)))∧Bw w w':=by
 obtain⟨ao,cap,rfl,h1⟩:=h;obtain⟨f1,-,-,-,-⟩:=ok.facts;exact yP4 h1 (by omega) ok
end Go.Proofs.YtkcmhaknalomjaaGreatDoor
namespace Go.Proofs.YtkcmhaknalomjaaGreatDoor
open Go Go.RowKit
end Go.Proofs.YtkcmhaknalomjaaGreatDoor
namespace Go.Proofs.YtkcmhaknalomjaaGreatDoor
open Go.RowKit Go.Fl64
end Go.Proofs.YtkcmhaknalomjaaGreatDoor
namespace Go.Proofs.YtkcmhaknalomjaaGreatDoor
open Go Go.RowKit Go.Fl64 Go.Shelf
attribute [local go_sem] Oper.semAt_some
attribute [local go_sem] Oper.semAt_some
end Go.Proofs.YtkcmhaknalomjaaGreatDoor
namespace Go.Proofs.YtkcmhaknalomjaaGreatDoor
open Go.RowKit Go.Fl64
end Go.Proofs.YtkcmhaknalomjaaGreatDoor
/- The library's contracts at this program that decim uses. -/
namespace Go.Proofs
open Go.Shelf
def Tryz.lays161_ren:Go.Shelf.Ren:=⟨fun|161=>104|231=>170|227=>131|233=>171|235=>172|228=>132|197=>217|151=>212|260=>246|152=>129|137=>184|119=>185|224=>186|225=>187|217=>227|266=>253|n=>n,fun|9=>9|4=>4|3=>3|5=>5|117=>142|116=>141|0=>0|124=>164|105=>198|21=>21|119=>236|46=>134|139=>239|138=>238|n=>n,fun|3=>7|4=>8|n=>n⟩
theorem Tryz.lays161:Go.Proofs.Lays.n161 Tryz.prog Tryz.lays161_ren:={
 mixed:=by kernel_rfl
 f119:=Tryz.func185.trans (congrArg some (by kernel_rfl))
 f137:=Tryz.func184.trans (congrArg some (by kernel_rfl))
 f151:=Tryz.func212.trans (congrArg some (by kernel_rfl))
 f152:=Tryz.func129.trans (congrArg some (by kernel_rfl))
 f161:=Tryz.func104.trans (congrArg some (by kernel_rfl))
 f197:=Tryz.func217.trans (congrArg some (by kernel_rfl))
 f217:=Tryz.func227.trans (congrArg some (by kernel_rfl))
 f224:=Tryz.func186.trans (congrArg some (by kernel_rfl))
 f225:=Tryz.func187.trans (congrArg some (by kernel_rfl))
 f227:=Tryz.func131.trans (congrArg some (by kernel_rfl))
 f228:=Tryz.func132.trans (congrArg some (by kernel_rfl))
 f231:=Tryz.func170.trans (congrArg some (by kernel_rfl))
 f233:=Tryz.func171.trans (congrArg some (by kernel_rfl))
 f235:=Tryz.func172.trans (congrArg some (by kernel_rfl))
 f260:=Tryz.func246.trans (congrArg some (by kernel_rfl))
 f266:=Tryz.func253.trans (congrArg some (by kernel_rfl))
 t0:=Tryz.underlying0
 a0:=Tryz.isAgg0
 z0:=Tryz.sizeOf0
 v0:=Tryz.zeroValue0
 t3:=Tryz.underlying3
 a3:=Tryz.isAgg3
 z3:=Tryz.sizeOf3
 v3:=Tryz.zeroValue3
 t4:=Tryz.underlying4
 a4:=Tryz.isAgg4
 z4:=Tryz.sizeOf4
 v4:=Tryz.zeroValue4
 t5:=Tryz.underlying5
 a5:=Tryz.isAgg5
 z5:=Tryz.sizeOf5
 v5:=Tryz.zeroValue5
 t9:=Tryz.underlying9
 a9:=Tryz.isAgg9
 z9:=Tryz.sizeOf9
 v9:=Tryz.zeroValue9
 t21:=Tryz.underlying21
 a21:=Tryz.isAgg21
 z21:=Tryz.sizeOf21
 v21:=Tryz.zeroValue21
 t46:=Tryz.underlying134
 a46:=Tryz.isAgg134
 z46:=Tryz.sizeOf134
 v46:=Tryz.zeroValue134
 t105:=Tryz.underlying198
 a105:=Tryz.isAgg198
 z105:=Tryz.sizeOf198
 v105:=Tryz.zeroValue198
 t116:=Tryz.underlying141
 a116:=Tryz.isAgg141
 z116:=Tryz.sizeOf141
 t117:=Tryz.underlying142
 a117:=Tryz.isAgg142
 z117:=Tryz.sizeOf142
 v117:=Tryz.zeroValue142
 t119:=Tryz.underlying236
 a119:=Tryz.isAgg236
 z119:=Tryz.sizeOf236
 t124:=Tryz.underlying164
 a124:=Tryz.isAgg164
 z124:=Tryz.sizeOf164
 v124:=Tryz.zeroValue164
 t138:=Tryz.underlying238
 a138:=Tryz.isAgg238
 z138:=Tryz.sizeOf238
 v138:=Tryz.zeroValue238
 t139:=Tryz.underlying239
 a139:=Tryz.isAgg239
 z139:=Tryz.sizeOf239
 v139:=Tryz.zeroValue239
 g3:=by kernel_rfl
 g4:=by kernel_rfl }
open Go.RowKit in
theorem Tryz.strings_TrimLeft_one (s:ByteArray) (c:UInt8) (hc:c.toNat<128) (w:World) :
  Calls Tryz.prog 104 #[.string s,.string ⟨#[c]⟩] w fun e w'=>e=.returned (.string ⟨(Lib.trimLeftB s.data.toList c).toArray⟩)∧w'=w:=Any.strings_TrimLeft_one Tryz.lays161 s c hc w
def Tryz.lays162_ren:Go.Shelf.Ren:=⟨fun|162=>91|232=>154|227=>131|234=>155|236=>156|228=>132|271=>211|151=>212|120=>244|197=>217|152=>129|260=>246|137=>184|119=>185|224=>186|225=>187|217=>227|266=>253|n=>n,fun|9=>9|4=>4|3=>3|5=>5|117=>142|116=>141|0=>0|124=>164|21=>21|105=>198|46=>134|119=>236|139=>239|138=>238|n=>n,fun|3=>7|4=>8|n=>n⟩
theorem Tryz.lays162:Go.Proofs.Lays.n162 Tryz.prog Tryz.lays162_ren:={
 mixed:=by kernel_rfl
 f119:=Tryz.func185.trans (congrArg some (by kernel_rfl))
 f120:=Tryz.func244.trans (congrArg some (by kernel_rfl))
 f137:=Tryz.func184.trans (congrArg some (by kernel_rfl))
 f151:=Tryz.func212.trans (congrArg some (by kernel_rfl))
 f152:=Tryz.func129.trans (congrArg some (by kernel_rfl))
 f162:=Tryz.func91.trans (congrArg some (by kernel_rfl))
 f197:=Tryz.func217.trans (congrArg some (by kernel_rfl))
 f217:=Tryz.func227.trans (congrArg some (by kernel_rfl))
 f224:=Tryz.func186.trans (congrArg some (by kernel_rfl))
 f225:=Tryz.func187.trans (congrArg some (by kernel_rfl))
 f227:=Tryz.func131.trans (congrArg some (by kernel_rfl))
 f228:=Tryz.func132.trans (congrArg some (by kernel_rfl))
 f232:=Tryz.func154.trans (congrArg some (by kernel_rfl))
 f234:=Tryz.func155.trans (congrArg some (by kernel_rfl))
 f236:=Tryz.func156.trans (congrArg some (by kernel_rfl))
 f260:=Tryz.func246.trans (congrArg some (by kernel_rfl))
 f266:=Tryz.func253.trans (congrArg some (by kernel_rfl))
 f271:=Tryz.func211.trans (congrArg some (by kernel_rfl))
 t0:=Tryz.underlying0
 a0:=Tryz.isAgg0
 z0:=Tryz.sizeOf0
 v0:=Tryz.zeroValue0
 t3:=Tryz.underlying3
 a3:=Tryz.isAgg3
 z3:=Tryz.sizeOf3
 v3:=Tryz.zeroValue3
 t4:=Tryz.underlying4
 a4:=Tryz.isAgg4
 z4:=Tryz.sizeOf4
 v4:=Tryz.zeroValue4
 t5:=Tryz.underlying5
 a5:=Tryz.isAgg5
 z5:=Tryz.sizeOf5
 v5:=Tryz.zeroValue5
 t9:=Tryz.underlying9
 a9:=Tryz.isAgg9
 z9:=Tryz.sizeOf9
 v9:=Tryz.zeroValue9
 t21:=Tryz.underlying21
 a21:=Tryz.isAgg21
 z21:=Tryz.sizeOf21
 v21:=Tryz.zeroValue21
 t46:=Tryz.underlying134
 a46:=Tryz.isAgg134
 z46:=Tryz.sizeOf134
 v46:=Tryz.zeroValue134
 t105:=Tryz.underlying198
 a105:=Tryz.isAgg198
 z105:=Tryz.sizeOf198
 v105:=Tryz.zeroValue198
 t116:=Tryz.underlying141
 a116:=Tryz.isAgg141
 z116:=Tryz.sizeOf141
 t117:=Tryz.underlying142
 a117:=Tryz.isAgg142
 z117:=Tryz.sizeOf142
 v117:=Tryz.zeroValue142
 t119:=Tryz.underlying236
 a119:=Tryz.isAgg236
 z119:=Tryz.sizeOf236
 t124:=Tryz.underlying164
 a124:=Tryz.isAgg164
 z124:=Tryz.sizeOf164
 v124:=Tryz.zeroValue164
 t138:=Tryz.underlying238
 a138:=Tryz.isAgg238
 z138:=Tryz.sizeOf238
 v138:=Tryz.zeroValue238
 t139:=Tryz.underlying239
 a139:=Tryz.isAgg239
 z139:=Tryz.sizeOf239
 v139:=Tryz.zeroValue239
 g3:=by kernel_rfl
 g4:=by kernel_rfl }
open Go.RowKit in
theorem Tryz.strings_TrimRight_one (s:ByteArray) (c:UInt8) (hc:c.toNat<128) (w:World) (hs:s.size≤9223372036854775807) :
  Calls Tryz.prog 91 #[.string s,.string ⟨#[c]⟩] w fun e w'=>e=.returned (.string ⟨(Lib.trimRightB s.data.toList c).toArray⟩)∧w'=w:=Any.strings_TrimRight_one Tryz.lays162 s c hc w hs
def Tryz.lays119_ren:Go.Shelf.Ren:=⟨fun|119=>185|n=>n,fun|21=>21|4=>4|n=>n,fun|n=>n⟩
theorem Tryz.lays119:Go.Proofs.Lays.n119 Tryz.prog Tryz.lays119_ren:={
 mixed:=by kernel_rfl
 f119:=Tryz.func185.trans (congrArg some (by kernel_rfl))
 t4:=Tryz.underlying4
 a4:=Tryz.isAgg4
 z4:=Tryz.sizeOf4
 v4:=Tryz.zeroValue4
 t21:=Tryz.underlying21
 a21:=Tryz.isAgg21
 z21:=Tryz.sizeOf21
 v21:=Tryz.zeroValue21 }
theorem Tryz.utf8_ValidRune (r:Int) (w:World) :
  Calls Tryz.prog 185 #[.int .i32 r] w fun e w'=>e=.returned (.bool (Lib.validRune r))∧w'=w:=Any.utf8_ValidRune Tryz.lays119 r w
def Tryz.lays137_ren:Go.Shelf.Ren:=⟨fun|137=>184|217=>227|266=>253|n=>n,fun|9=>9|5=>5|3=>3|n=>n,fun|n=>n⟩
theorem Tryz.lays137:Go.Proofs.Lays.n137 Tryz.prog Tryz.lays137_ren:={
 mixed:=by kernel_rfl
 f137:=Tryz.func184.trans (congrArg some (by kernel_rfl))
 f217:=Tryz.func227.trans (congrArg some (by kernel_rfl))
 f266:=Tryz.func253.trans (congrArg some (by kernel_rfl))
 t3:=Tryz.underlying3
 a3:=Tryz.isAgg3
 z3:=Tryz.sizeOf3
 v3:=Tryz.zeroValue3
 t5:=Tryz.underlying5
 a5:=Tryz.isAgg5
 z5:=Tryz.sizeOf5
 v5:=Tryz.zeroValue5
 t9:=Tryz.underlying9
 a9:=Tryz.isAgg9
 z9:=Tryz.sizeOf9
 v9:=Tryz.zeroValue9 }
open Go.RowKit in
theorem Tryz.strings_IndexByte (s:ByteArray) (c:Int) (w:World) :
  Calls Tryz.prog 184 #[.string s,.int .u8 c] w fun e w'=>e=.returned (.int .i64 (Lib.indexByte s.data.toList c.toNat.toUInt8))∧w'=w:=Any.strings_IndexByte Tryz.lays137 s c w
def Tryz.lays219_ren:Go.Shelf.Ren:=⟨fun|219=>188|217=>227|225=>187|224=>186|267=>228|266=>253|314=>254|n=>n,fun|9=>9|3=>3|4=>4|5=>5|46=>134|146=>208|51=>125|n=>n,fun|1=>2|n=>n⟩
theorem Tryz.lays219:Go.Proofs.Lays.n219 Tryz.prog Tryz.lays219_ren:={
 mixed:=by kernel_rfl
 f217:=Tryz.func227.trans (congrArg some (by kernel_rfl))
 f219:=Tryz.func188.trans (congrArg some (by kernel_rfl))
 f224:=Tryz.func186.trans (congrArg some (by kernel_rfl))
 f225:=Tryz.func187.trans (congrArg some (by kernel_rfl))
 f266:=Tryz.func253.trans (congrArg some (by kernel_rfl))
 f267:=Tryz.func228.trans (congrArg some (by kernel_rfl))
 f314:=Tryz.func254.trans (congrArg some (by kernel_rfl))
 t3:=Tryz.underlying3
 a3:=Tryz.isAgg3
 z3:=Tryz.sizeOf3
 v3:=Tryz.zeroValue3
 t4:=Tryz.underlying4
 a4:=Tryz.isAgg4
 z4:=Tryz.sizeOf4
 v4:=Tryz.zeroValue4
 t5:=Tryz.underlying5
 a5:=Tryz.isAgg5
 z5:=Tryz.sizeOf5
 v5:=Tryz.zeroValue5
 t9:=Tryz.underlying9
 a9:=Tryz.isAgg9
 z9:=Tryz.sizeOf9
 v9:=Tryz.zeroValue9
 t46:=Tryz.underlying134
 a46:=Tryz.isAgg134
 z46:=Tryz.sizeOf134
 v46:=Tryz.zeroValue134
 t51:=Tryz.underlying125
 a51:=Tryz.isAgg125
 z51:=Tryz.sizeOf125
 v51:=Tryz.zeroValue125
 t146:=Tryz.underlying208
 a146:=Tryz.isAgg208
 z146:=Tryz.sizeOf208
 v146:=Tryz.zeroValue208
 g1:=by kernel_rfl }
open Go.RowKit Go.Lib in
theorem Tryz.stringslite_Index_one (s:ByteArray) (c:UInt8) (w:World) :
  Calls Tryz.prog 188 #[.string s,.string ⟨#[c]⟩] w fun e w'=>e=.returned (.int .i64 (Lib.indexByte s.data.toList c))∧w'=w:=Any.stringslite_Index_one Tryz.lays219 s c w
def Tryz.lays99_ren:Go.Shelf.Ren:=⟨fun|99=>70|206=>128|n=>n,fun|9=>9|4=>4|3=>3|n=>n,fun|n=>n⟩
theorem Tryz.lays99:Go.Proofs.Lays.n99 Tryz.prog Tryz.lays99_ren:={
 mixed:=by kernel_rfl
 f99:=Tryz.func70.trans (congrArg some (by kernel_rfl))
 f206:=Tryz.func128.trans (congrArg some (by kernel_rfl))
 t3:=Tryz.underlying3
 a3:=Tryz.isAgg3
 z3:=Tryz.sizeOf3
 v3:=Tryz.zeroValue3
 t4:=Tryz.underlying4
 a4:=Tryz.isAgg4
 z4:=Tryz.sizeOf4
 v4:=Tryz.zeroValue4
 t9:=Tryz.underlying9
 a9:=Tryz.isAgg9
 z9:=Tryz.sizeOf9
 v9:=Tryz.zeroValue9 }
open Go.RowKit Go.Lib in
theorem Tryz.strings_HasPrefix (s p:ByteArray) (w:World) :
  Calls Tryz.prog 70 #[.string s,.string p] w fun e w'=>e=.returned (.bool (Lib.hasPrefix s.data.toList p.data.toList))∧w'=w:=Any.strings_HasPrefix Tryz.lays99 s p w
def Tryz.lays152_ren:Go.Shelf.Ren:=⟨fun|152=>129|137=>184|119=>185|224=>186|225=>187|217=>227|266=>253|n=>n,fun|9=>9|21=>21|3=>3|4=>4|5=>5|0=>0|46=>134|n=>n,fun|n=>n⟩
theorem Tryz.lays152:Go.Proofs.Lays.n152 Tryz.prog Tryz.lays152_ren:={
 mixed:=by kernel_rfl
 f119:=Tryz.func185.trans (congrArg some (by kernel_rfl))
 f137:=Tryz.func184.trans (congrArg some (by kernel_rfl))
 f152:=Tryz.func129.trans (congrArg some (by kernel_rfl))
 f217:=Tryz.func227.trans (congrArg some (by kernel_rfl))
 f224:=Tryz.func186.trans (congrArg some (by kernel_rfl))
 f225:=Tryz.func187.trans (congrArg some (by kernel_rfl))
 f266:=Tryz.func253.trans (congrArg some (by kernel_rfl))
 t0:=Tryz.underlying0
 a0:=Tryz.isAgg0
 z0:=Tryz.sizeOf0
 v0:=Tryz.zeroValue0
 t3:=Tryz.underlying3
 a3:=Tryz.isAgg3
 z3:=Tryz.sizeOf3
 v3:=Tryz.zeroValue3
 t4:=Tryz.underlying4
 a4:=Tryz.isAgg4
 z4:=Tryz.sizeOf4
 v4:=Tryz.zeroValue4
 t5:=Tryz.underlying5
 a5:=Tryz.isAgg5
 z5:=Tryz.sizeOf5
 v5:=Tryz.zeroValue5
 t9:=Tryz.underlying9
 a9:=Tryz.isAgg9
 z9:=Tryz.sizeOf9
 v9:=Tryz.zeroValue9
 t21:=Tryz.underlying21
 a21:=Tryz.isAgg21
 z21:=Tryz.sizeOf21
 v21:=Tryz.zeroValue21
 t46:=Tryz.underlying134
 a46:=Tryz.isAgg134
 z46:=Tryz.sizeOf134
 v46:=Tryz.zeroValue134 }
open Go.RowKit Go.Lib in
theorem Tryz.strings_IndexRune_ascii (s:ByteArray) (r:Int) (w:World) (h0:0≤r) (h1:r<128) :
  Calls Tryz.prog 129 #[.string s,.int .i32 r] w fun e w'=>e=.returned (.int .i64 (Lib.indexByte s.data.toList r.toNat.toUInt8))∧w'=w:=Any.strings_IndexRune_ascii Tryz.lays152 s r w h0 h1
def Tryz.lays226_ren:Go.Shelf.Ren:=⟨fun|226=>130|n=>n,fun|3=>3|4=>4|n=>n,fun|n=>n⟩
theorem Tryz.lays226:Go.Proofs.Lays.n226 Tryz.prog Tryz.lays226_ren:={
 mixed:=by kernel_rfl
 f226:=Tryz.func130.trans (congrArg some (by kernel_rfl))
 t3:=Tryz.underlying3
 a3:=Tryz.isAgg3
 z3:=Tryz.sizeOf3
 v3:=Tryz.zeroValue3
 t4:=Tryz.underlying4
 a4:=Tryz.isAgg4
 z4:=Tryz.sizeOf4
 v4:=Tryz.zeroValue4 }
open Go.RowKit Go.Lib in
theorem Tryz.strings_shouldUseASCIISet (n:Int) (w:World) :
  Calls Tryz.prog 130 #[.int .i64 n] w fun e w'=>e=.returned (.bool (decide (8<n)))∧w'=w:=Any.strings_shouldUseASCIISet Tryz.lays226 n w
def Tryz.lays153_ren:Go.Shelf.Ren:=⟨fun|153=>71|152=>129|226=>130|227=>131|228=>132|137=>184|119=>185|224=>186|225=>187|217=>227|266=>253|n=>n,fun|9=>9|3=>3|4=>4|5=>5|21=>21|117=>142|116=>141|0=>0|46=>134|124=>164|n=>n,fun|n=>n⟩
theorem Tryz.lays153:Go.Proofs.Lays.n153 Tryz.prog Tryz.lays153_ren:={
 mixed:=by kernel_rfl
 f119:=Tryz.func185.trans (congrArg some (by kernel_rfl))
 f137:=Tryz.func184.trans (congrArg some (by kernel_rfl))
 f152:=Tryz.func129.trans (congrArg some (by kernel_rfl))
 f153:=Tryz.func71.trans (congrArg some (by kernel_rfl))
 f217:=Tryz.func227.trans (congrArg some (by kernel_rfl))
 f224:=Tryz.func186.trans (congrArg some (by kernel_rfl))
 f225:=Tryz.func187.trans (congrArg some (by kernel_rfl))
 f226:=Tryz.func130.trans (congrArg some (by kernel_rfl))
 f227:=Tryz.func131.trans (congrArg some (by kernel_rfl))
 f228:=Tryz.func132.trans (congrArg some (by kernel_rfl))
 f266:=Tryz.func253.trans (congrArg some (by kernel_rfl))
 t0:=Tryz.underlying0
 a0:=Tryz.isAgg0
 z0:=Tryz.sizeOf0
 v0:=Tryz.zeroValue0
 t3:=Tryz.underlying3
 a3:=Tryz.isAgg3
 z3:=Tryz.sizeOf3
 v3:=Tryz.zeroValue3
 t4:=Tryz.underlying4
 a4:=Tryz.isAgg4
 z4:=Tryz.sizeOf4
 v4:=Tryz.zeroValue4
 t5:=Tryz.underlying5
 a5:=Tryz.isAgg5
 z5:=Tryz.sizeOf5
 v5:=Tryz.zeroValue5
 t9:=Tryz.underlying9
 a9:=Tryz.isAgg9
 z9:=Tryz.sizeOf9
 v9:=Tryz.zeroValue9
 t21:=Tryz.underlying21
 a21:=Tryz.isAgg21
 z21:=Tryz.sizeOf21
 v21:=Tryz.zeroValue21
 t46:=Tryz.underlying134
 a46:=Tryz.isAgg134
 z46:=Tryz.sizeOf134
 v46:=Tryz.zeroValue134
 t116:=Tryz.underlying141
 a116:=Tryz.isAgg141
 z116:=Tryz.sizeOf141
 t117:=Tryz.underlying142
 a117:=Tryz.isAgg142
 z117:=Tryz.sizeOf142
 v117:=Tryz.zeroValue142
 t124:=Tryz.underlying164
 a124:=Tryz.isAgg164
 z124:=Tryz.sizeOf164
 v124:=Tryz.zeroValue164 }
open Go.RowKit Go.Lib in
theorem Tryz.strings_IndexAny_short (s chars:ByteArray) (w:World) (h2:2≤chars.size) (h8:s.size≤8) (hascii:∀ (j:Nat) b,s.data.toList[j]?=some b→b.toNat<128) :
  Calls Tryz.prog 71 #[.string s,.string chars] w fun e w'=>e=.returned (.int .i64 (Lib.indexAny s.data.toList chars.data.toList))∧∃ pos,w'=w.iter s pos:=Any.strings_IndexAny_short Tryz.lays153 s chars w h2 h8 hascii
open Go.RowKit Go.Lib in
theorem Tryz.strings_IndexAny_long (hv116:∀ w,(zeroValue 141).run Tryz.prog w=.ok (.agg (Array.replicate 256 (.bool false))) w) (s chars:ByteArray) (w:World) (h2:2≤chars.size) (h8:8<s.size) (hs:s.size<4294967281) (hcs:chars.size<4294967281) (hascii:∀ (j:Nat) b,chars.data.toList[j]?=some b→b.toNat<128) :
  Calls Tryz.prog 71 #[.string s,.string chars] w fun e w'=>e=.returned (.int .i64 (Lib.indexAny s.data.toList chars.data.toList))∧w'=((w.alloc (.cells (Lib.setCells chars.data.toList) 141)).alloc (.cells (Lib.setCells chars.data.toList) 141)):=Any.strings_IndexAny_long Tryz.lays153 hv116 (by kernel_rfl) s chars w h2 h8 hs hcs hascii
def Tryz.lays105_ren:Go.Shelf.Ren:=⟨fun|105=>124|212=>177|99=>70|165=>178|166=>179|170=>180|169=>181|263=>223|264=>224|206=>128|240=>225|241=>226|276=>251|277=>252|n=>n,fun|9=>9|3=>3|4=>4|20=>20|0=>0|46=>134|109=>175|5=>5|72=>179|76=>181|51=>125|146=>208|53=>54|148=>159|70=>177|37=>79|75=>147|127=>211|164=>224|80=>59|n=>n,fun|n=>n⟩
theorem Tryz.lays105:Go.Proofs.Lays.n105 Tryz.prog Tryz.lays105_ren:={
 mixed:=by kernel_rfl
 f99:=Tryz.func70.trans (congrArg some (by kernel_rfl))
 f105:=Tryz.func124.trans (congrArg some (by kernel_rfl))
 f165:=Tryz.func178.trans (congrArg some (by kernel_rfl))
 f166:=Tryz.func179.trans (congrArg some (by kernel_rfl))
 f169:=Tryz.func181.trans (congrArg some (by kernel_rfl))
 f170:=Tryz.func180.trans (congrArg some (by kernel_rfl))
 f206:=Tryz.func128.trans (congrArg some (by kernel_rfl))
 f212:=Tryz.func177.trans (congrArg some (by kernel_rfl))
 f240:=Tryz.func225.trans (congrArg some (by kernel_rfl))
 f241:=Tryz.func226.trans (congrArg some (by kernel_rfl))
 f263:=Tryz.func223.trans (congrArg some (by kernel_rfl))
 f264:=Tryz.func224.trans (congrArg some (by kernel_rfl))
 f276:=Tryz.func251.trans (congrArg some (by kernel_rfl))
 f277:=Tryz.func252.trans (congrArg some (by kernel_rfl))
 t0:=Tryz.underlying0
 a0:=Tryz.isAgg0
 z0:=Tryz.sizeOf0
 v0:=Tryz.zeroValue0
 t3:=Tryz.underlying3
 a3:=Tryz.isAgg3
 z3:=Tryz.sizeOf3
 v3:=Tryz.zeroValue3
 t4:=Tryz.underlying4
 a4:=Tryz.isAgg4
 z4:=Tryz.sizeOf4
 v4:=Tryz.zeroValue4
 t5:=Tryz.underlying5
 a5:=Tryz.isAgg5
 z5:=Tryz.sizeOf5
 v5:=Tryz.zeroValue5
 t9:=Tryz.underlying9
 a9:=Tryz.isAgg9
 z9:=Tryz.sizeOf9
 v9:=Tryz.zeroValue9
 t20:=Tryz.underlying20
 a20:=Tryz.isAgg20
 z20:=Tryz.sizeOf20
 v20:=Tryz.zeroValue20
 t37:=Tryz.underlying79
 a37:=Tryz.isAgg79
 z37:=Tryz.sizeOf79
 v37:=Tryz.zeroValue79
 t46:=Tryz.underlying134
 a46:=Tryz.isAgg134
 z46:=Tryz.sizeOf134
 v46:=Tryz.zeroValue134
 t51:=Tryz.underlying125
 a51:=Tryz.isAgg125
 z51:=Tryz.sizeOf125
 v51:=Tryz.zeroValue125
 t53:=Tryz.underlying54
 a53:=Tryz.isAgg54
 z53:=Tryz.sizeOf54
 v53:=Tryz.zeroValue54
 t70:=Tryz.underlying177
 a70:=Tryz.isAgg177
 z70:=Tryz.sizeOf177
 v70:=Tryz.zeroValue177
 t72:=Tryz.underlying179
 a72:=Tryz.isAgg179
 z72:=Tryz.sizeOf179
 v72:=Tryz.zeroValue179
 t75:=Tryz.underlying147
 a75:=Tryz.isAgg147
 z75:=Tryz.sizeOf147
 v75:=Tryz.zeroValue147
 t76:=Tryz.underlying181
 a76:=Tryz.isAgg181
 z76:=Tryz.sizeOf181
 v76:=Tryz.zeroValue181
 t109:=Tryz.underlying175
 a109:=Tryz.isAgg175
 z109:=Tryz.sizeOf175
 v109:=Tryz.zeroValue175
 t127:=Tryz.underlying211
 a127:=Tryz.isAgg211
 z127:=Tryz.sizeOf211
 v127:=Tryz.zeroValue211
 t146:=Tryz.underlying208
 a146:=Tryz.isAgg208
 z146:=Tryz.sizeOf208
 v146:=Tryz.zeroValue208
 t148:=Tryz.underlying159
 a148:=Tryz.isAgg159
 z148:=Tryz.sizeOf159
 v148:=Tryz.zeroValue159
 t164:=Tryz.underlying224
 a164:=Tryz.isAgg224
 z164:=Tryz.sizeOf224
 v164:=Tryz.zeroValue224 }
theorem Tryz.Builder_Extra_105:Builder.Extra Tryz.prog Tryz.lays105_ren:={
 sizeBuilder:=by kernel_rfl
 liesBuilder:=by kernel_rfl
 t5:=Tryz.underlying5
 a5:=Tryz.isAgg5
 z5:=Tryz.sizeOf5
 v5:=Tryz.zeroValue5
 infoByte:=by kernel_rfl
 cellsByte:=by kernel_rfl
 sizeByte:=by kernel_rfl
 neB5:=by decide }
open Go.RowKit Go.Lib in
theorem Tryz.strings_Repeat (s:ByteArray) (c:Nat) (w:World) (hc:c≤9223372036854775807) (hlen:s.size*c≤140737488355328) :
  Calls Tryz.prog 124 #[.string s,.int .i64 c] w fun e w'=>e=.returned (.string ⟨(Lib.repeatL s.data.toList c).toArray⟩)∧Go.Proofs.YtkcmhaknalomjaaGreatDoor.Bw w w':=Any.strings_Repeat Tryz.lays105 Tryz.Builder_Extra_105 s c w hc hlen
end Go.Proofs
namespace Go.Proofs.YtkcmhaknalomjaaGreatDoor
open Go.RowKit
end Go.Proofs.YtkcmhaknalomjaaGreatDoor
