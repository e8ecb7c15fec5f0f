/- Own work: contracts of the program's functions, part 11: RT3 RT7 RY1 RY2 RY3 RY4 FM6 FM7 FM8 RY5 SA7 SA8 SA9 UA1 UA2 UA3 UA4 UA5 UA6 UA7 ShelfD RE1 RE3 RE4. -/
import Derived.Test.YtbanebginnakhaaGreatDoorA10
import Derived.Test.YtbanebginnakhaaGreatDoorA8
import Derived.Test.YtbanebginnakhaaGreatDoorA7
import Derived.Deep.CutBlock
import Derived.RangeFuncNested
import Derived.RangeFuncBound
import Derived.RangeFuncCalls
import Derived.RangeFuncLeaves
import Derived.Test.YtbanebginnakhaaGreatDoorA2
import Derived.Shelf.Abstract
import Derived.Shelf.RegionOpen
import Derived.WalkKit
import Derived.OwnWalkIn
import Derived.TacticsInMore
import Derived.LoopNIn
import Derived.LoopIn
import Derived.Shelf.Strings.Builder1
import Derived.Shelf.Strings.Builder2
import Derived.Shelf.Strings.Trim
import Derived.Shelf.Small.Utf8
import Derived.Shelf.Small.Strs
import Derived.Shelf.Strings.Search1
import Derived.Shelf.Strings.Search2
import Derived.Shelf.Strings.Prefix
import Derived.Shelf.Strings.Runes
import Derived.Shelf.Strings.IndexAny
import Derived.Shelf.Strings.AsciiSet
import Derived.Shelf.Strings.IndexAnyAll
import Derived.Shelf.Strings.Repeat
import Derived.Test.YtbanebginnakhaaGreatDoorProg

set_option maxHeartbeats 16000000
set_option maxRecDepth 200000
set_option linter.unusedVariables false
set_option linter.unusedSimpArgs false
namespace Go.Proofs.YtbanebginnakhaaGreatDoor
open Go.RowKit Go.Fl64
open Ie
theorem zU0 {g:Nat} {a b:World} (h:Below g a b) (n:Nat):Below g a (b.drewN n):=h.trans ⟨rfl,rfl,rfl,xL0 _,fun _ _=>rfl⟩
theorem xZ5 {d X:Nat} (h:d=X % B):(bits BinOp.and IntKind.u32 (d:Int) 1==1)=(X % 2==1):=by
 have hB:B=4294967296:=rfl;have h2:=u32_and_nat d 1 (by rw[h,hB];omega) (by decide)
 rw[show((1:Nat):Int)=1 from rfl] at h2;rw[h2,Nat.and_one_is_mod,h,show X % B % 2=X % 2 by rw[hB];omega]
 rcases Nat.mod_two_eq_zero_or_one X with h|h <;> rw[h] <;> rfl
theorem xZ4 {X:Nat} (h:X<9007199254740992):(bits BinOp.and IntKind.u64 (X:Int) 1==1)=(X % 2==1):=by
 have h2:=u64_and_nat X 1 (by omega) (by decide)
 rw[show((1:Nat):Int)=1 from rfl] at h2;rw[h2,Nat.and_one_is_mod];rcases Nat.mod_two_eq_zero_or_one X with h|h <;> rw[h] <;> rfl
theorem q53 {e:Int} (h : -1074≤e):Hid ((e+1+1074).toNat*4503599627370496+4503599627370496=(e+1074).toNat*4503599627370496+(9007199254740991+1)):=by
 have h1:(e+1+1074).toNat=(e+1074).toNat+1:=by omega
 show _=_
 rw[h1];omega
theorem xF0 {n:Nat} (h:n≠9007199254740992):((n:Int)==9007199254740992)=false:=by
 have:((n:Nat):Int)≠9007199254740992:=by omega
 simpa using this
theorem xK8 (x:Nat) (E:Int):max ((bl x:Int)+E - 53) (-1074)=tE x E:=by unfold tE;split <;> omega
theorem kdn {w:World} {ua:Option Addr} {uc x:Nat} (h:At w ua (dlen x) x) (hc:dlen x≤uc) (hl:dlen x≤100000) {i:Int} {k:Nat} (hi:i=(k:Int)) (hk:k≤10000000) :
  ∀ W,Bw w W→Calls Tryz.prog 146 #[.slice ua (dlen x) uc,.int .i64 i] W fun r w'=>∃ ao n cap,r=.returned (.tuple #[.slice ao n cap,.bool (decide (x % 2^k=0))])∧Ir w' (.slice ao n cap) (x / 2^k)∧Bw W w':=by
 intro W hW;subst hi;refine(xU5 (v:=.slice ua (dlen x) uc) (⟨ua,uc,rfl,hc,h.later hW⟩:Ir W _ x) k (by omega) (by omega)).mono ?_
 rintro r w' ⟨ao,cap',rfl,hA,hc',hB⟩;exact⟨_,_,_,rfl,⟨ao,cap',rfl,hc',hA⟩,hB⟩
theorem rto {neg:Bool} {ua:Option Addr} {uc x:Nat} {ea m:Int} {w:World} (h:At w ua (dlen x) x) (hc:dlen x≤uc) (hodd:x % 2=1) (hl:dlen x≤100000) (he1 : -4000000≤ea) (he2:ea≤4000000) (hm:1≤m∧m≤3) :
  Calls Tryz.prog 96 #[.agg #[.bool neg,.slice ua (dlen x) uc,.int .i64 ea],.int .i64 m] w fun r w'=>r=.returned (.float .f64 (sig neg (bdy x ea (wyN neg m))))∧Bw w w':=by
 have h0:x≠0:=by omega
 have hn0:((dlen x:Int)==0)=false:=qY9 (n:=0) h0;have hbl:bl x≤32*dlen x:=qY2 x;have hb1:=qW4 h0;obtain⟨ow,how⟩:∃ ow:Bool,(m==3 && !neg||m==1&&neg)=ow:=⟨_,rfl⟩;obtain⟨nr,hnr⟩:∃ nr:Bool,(m==2)=nr:=⟨_,rfl⟩;obtain⟨wy,hwy⟩:∃ y,wyN neg m=y:=⟨_,rfl⟩;have hm3:m=1∨m=2∨m=3:=by omega
 have hY:wy=0∧nr=false∧ow=false∨wy=1∧nr=true∧ow=false∨wy=2∧nr=false∧ow=true:=by
  rcases hm3 with rfl|rfl|rfl <;> cases neg <;> subst how hnr hwy <;> simp[wyN]
 rw[hwy];have hw:wy=0∨wy=1∨wy=2:=by omega
 obtain⟨F,hF⟩:∃ F,F=sig neg (bdy x ea wy):=⟨_,rfl⟩;rw[←hF];obtain⟨t,ht⟩:∃ t:Int,t=(bl x:Int)+ea:=⟨_,rfl⟩;have ht3 : -4000000≤t:=by omega
 have ht4:t≤7200000:=by omega
 have kH:∀ W,Bw w W→Calls Tryz.prog 142 #[.agg #[.bool neg,.slice ua (dlen x) uc,.int .i64 ea]] W fun r w'=>r=.returned (.int .i64 t)∧Bw W w':=fun W hW=>by rw[ht];exact yC9 (h.later hW) h0 (by omega) ⟨he1,he2⟩
 have HN:Hid (At w ua (dlen x) x∧dlen x≤uc∧dlen x≤100000):=⟨h,hc,hl⟩;have HT:Hid (t=(bl x:Int)+ea∧x % 2=1∧F=sig neg (bdy x ea wy)∧(wy=0∨wy=1∨wy=2)):=⟨ht,hodd,hF,hw⟩;have HY:Hid (wy=0∧nr=false∧ow=false∨wy=1∧nr=true∧ow=false∨wy=2∧nr=false∧ow=true):=hY;have HO:Hid ((m==3 && !neg||m==1&&neg)=ow):=how;have HM:Hid (m=1∨m=2∨m=3):=hm3;clear h hc hodd hl hwy hm hm3 hbl hb1 hF ht hw hY how h0;obtain⟨un,hun⟩:∃ n,n=dlen x:=⟨_,rfl⟩;rw[←hun] at hn0 kH HN ⊢;have HU:Hid (un=dlen x):=hun;clear hun;obtain⟨W,hW⟩:∃ W,W=w.alloc (.cells #[.bool neg,.slice ua un uc,.int .i64 ea] 132):=⟨_,rfl⟩;have hBW:Bw w W:=by rw[hW];exact(xL1 _ _).alloc (xL0 _) _
 have hA:W.heap[w.heap.size]?=some (.cells #[.bool neg,.slice ua un uc,.int .i64 ea] 132 (0,0)):=by rw[hW];exact xW8 _ _
 have hsz:W.heap.size=w.heap.size+1:=by rw[hW];simp
 have HX:Hid (Bw w W):=hBW;have HK:Hid (∀ w',Bw W w'→w'.cell? ⟨w.heap.size,0,none⟩=some (.bool neg)∧w'.cell? ⟨w.heap.size,1,none⟩=some (.slice ua un uc)∧w'.cell? ⟨w.heap.size,2,none⟩=some (.int .i64 ea)):=fun w' hb=>(qQ0 (qQ hA hb (by omega))).1
 have k:=kH W hBW;obtain⟨a0,a1,a2⟩:=HK.out W (xL1 _ _);clear kH hA hsz hBW
 go_enter Tryz.func96,Tryz.ntmps96
 go_upto_region 4 with fail;rw[←hW];clear hW
 go_cut [6] from 22 to 36 (fun v wx=>v=.bool ow∧wx=W)
 case first =>
  have hO:=HO.out;rcases HM.out with rfl|rfl|rfl <;> cases neg <;> go_wp2 <;> go_meet <;> exact⟨by rw[←hO];rfl,rfl⟩
 case rest =>
  obtain⟨rfl,rfl⟩:=hcut;clear HO HM
  go_wp2_with fail;refine k.mono ?_;rintro r w1 ⟨rfl,hb1⟩;have HB1:Hid (Bw wc w1):=hb1;clear k a0 a1 a2;obtain⟨a0,a1,a2⟩:=HK.out w1 hb1;clear hb1;have kS0:∀ W,Calls Tryz.prog 143 #[.bool false] W fun r w'=>r=.returned (.int .i64 0)∧w'=W:=fun W=>yD5 false W;have kS1:∀ W,Calls Tryz.prog 143 #[.bool true] W fun r w'=>r=.returned (.int .i64 1)∧w'=W:=fun W=>yD5 true W;have kI0:=c61;have kI1:=yX;by_cases hbig:1024<t
  ·obtain⟨e1,e2,e3,e4⟩:=HT.out;rw[yY3 (by omega) (by omega) e4] at e3
   have HF:Hid (F=sig neg (if wy=0 then 9218868437227405311 else 9218868437227405312)):=e3;have kB:∀ W,Calls Tryz.prog 144 #[.bool neg,.int .u64 9007199254740991,.int .i64 971] W fun r w'=>r=.returned (.float .f64 (sig neg 9218868437227405311))∧w'=W:=fun W=>qO9 (M:=9007199254740991) (e:=971) (by omega) (by omega) (by omega) (.inr (by omega))
   clear e1 e2 e3 e4 HT;cases neg <;> rcases HY.out with ⟨rfl,rfl,rfl⟩|⟨rfl,rfl,rfl⟩|⟨rfl,rfl,rfl⟩
   all_goals go_wp2_with (first|(go_at_call 143;(first|(with_reducible refine(kS0 _).mono ?_)|(with_reducible refine(kS1 _).mono ?_));rintro r w2 ⟨rfl,rfl⟩)|(go_at_call 19;(first|(with_reducible refine(kI0 _).mono ?_)|(with_reducible refine(kI1 _).mono ?_));rintro r w2 ⟨rfl,rfl⟩)|(go_at_call 144;refine(kB _).mono ?_;rintro r w2 ⟨rfl,rfl⟩))
   all_goals go_ret
   all_goals exact⟨by rw[HF.out];rfl,HX.out.trans (HB1.out.mono HX.out.size)⟩
  ·obtain⟨e2,he⟩:∃ e2,e2=tE x ea:=⟨_,rfl⟩;have hmx:max (t - 53) (-1074)=e2:=by rw[HT.out.1,he];exact xK8 x ea
   have htb:(bl x:Int)+ea≤1024:=by have:=HT.out.1;omega
   obtain⟨h21,h22⟩:=qT7 htb;rw[←he] at h21 h22;have HE:Hid (e2=tE x ea∧(bl x:Int)+ea≤1024):=⟨he,htb⟩;clear he htb;by_cases hge:e2≤ea
   ·obtain⟨k,hk⟩:∃ k:Nat,k=(ea - e2).toNat:=⟨_,rfl⟩;obtain⟨hb,hlt,hg⟩:=xR1 (by have:=HT.out.2.1;omega) HE.out.2 (by rw[←HE.out.1];exact hge) HT.out.2.2.2
    rw[←HE.out.1,←hk] at hb hlt hg;obtain⟨X,hX⟩:∃ X,X=x*2^k:=⟨_,rfl⟩;rw[←hX] at hb hlt hg;have HF:Hid (F=sig neg ((e2+1074).toNat*4503599627370496+X)):=by have:=HT.out.2.2.1;rw[hb] at this;exact this
    have kU:Calls Tryz.prog 137 #[.slice ua un uc,.int .i64 (ea - e2)] w1 fun r w'=>∃ v,r=.returned v∧Ir w' v X∧Bw w1 w':=by
     rw[show ea - e2=(k:Int) by omega,hX]
     have hu:=HU.out;obtain⟨q1,q2,q3⟩:=HN.out;subst hu;exact rup ⟨ua,uc,rfl,q2,q1.later (HX.out.trans (HB1.out.mono HX.out.size))⟩ k (by omega) (by omega)
    have kB:∀ W,Calls Tryz.prog 144 #[.bool neg,.int .u64 (X:Nat),.int .i64 e2] W fun r w'=>r=.returned (.float .f64 (sig neg ((e2+1074).toNat*4503599627370496+X)))∧w'=W:=fun W=>qO9 hlt h21 h22 hg;have HL:Hid (X<9007199254740992):=hlt;clear hb hlt hg hX hk HT
    go_wp2_with (first|(go_at_call 137;refine kU.mono ?_;rintro r w2 ⟨v,rfl,hv,hb2⟩))
    have HB2:Hid (Bw wc w2):=HB1.out.trans (hb2.mono HB1.out.size);obtain⟨a0,a1,a2⟩:=HK.out w2 HB2.out;have kS:∀ d,Calls Tryz.prog 145 #[v] (w2.drewN d) fun r w'=>r=.returned (.int .u64 X)∧w'=w2.drewN d:=fun d=>yD4 (hv.later ⟨rfl,rfl,rfl,xL0 _,fun _ _=>rfl⟩) HL.out;clear kU hb2 hv
    go_quiet (first|(go_at_call 145;refine Calls.quiet_of_same (kS _))|(go_at_call 144;refine Calls.quiet_of_same (kB _)))
    go_wp2
    go_ret;exact⟨by rw[HF.out];rfl,HX.out.trans ((zU0 HB2.out _).mono HX.out.size)⟩
   ·by_cases ht2:t < -1075
    ·obtain⟨e1,e2',e3,e4⟩:=HT.out;rw[zN8 (by omega) (by omega) e4] at e3
     have HF:Hid (F=sig neg (if wy=2 then 1 else 0)):=e3;have kB0:∀ W,Calls Tryz.prog 144 #[.bool neg,.int .u64 0,.int .i64 (-1074)] W fun r w'=>r=.returned (.float .f64 (sig neg 0))∧w'=W:=fun W=>qE8 neg 0 (-1074) W (by omega)
     have kB1:∀ W,Calls Tryz.prog 144 #[.bool neg,.int .u64 1,.int .i64 (-1074)] W fun r w'=>r=.returned (.float .f64 (sig neg 1))∧w'=W:=fun W=>qE8 neg 1 (-1074) W (by omega)
     clear e1 e2' e3 e4 HT;rcases HY.out with ⟨rfl,rfl,rfl⟩|⟨rfl,rfl,rfl⟩|⟨rfl,rfl,rfl⟩
     all_goals go_wp2_with (first|(go_at_call 144;(first|(with_reducible refine(kB0 _).mono ?_)|(with_reducible refine(kB1 _).mono ?_));rintro r w2 ⟨rfl,rfl⟩))
     all_goals go_ret
     all_goals exact⟨by rw[HF.out];rfl,HX.out.trans (HB1.out.mono HX.out.size)⟩
    ·obtain⟨k,hk⟩:∃ k:Nat,k=(e2 - ea).toNat:=⟨_,rfl⟩;have hi:e2 - ea=(k:Int):=by omega
     have hi2:e2 - ea - 1=((k - 1:Nat):Int):=by omega
     have hkb:k≤10000000:=by omega
     obtain⟨N,hN⟩:∃ n,n=if dnU x (tE x ea - ea).toNat wy then x / 2^(tE x ea - ea).toNat+1 else x / 2^(tE x ea - ea).toNat:=⟨_,rfl⟩;obtain⟨hn1,hn2,hb,hX⟩:=xR2 HT.out.2.1 HE.out.2 (by rw[←HE.out.1];omega) HT.out.2.2.2 hN
     rw[←HE.out.1,←hk] at hN hX;rw[←HE.out.1] at hb hn2;have HF:Hid (F=sig neg ((e2+1074).toNat*4503599627370496+N)):=by have:=HT.out.2.2.1;rw[hb] at this;exact this
     have hu:=HU.out;obtain⟨q1,q2,q3⟩:=HN.out;subst hu;have q3':=q3;have HD1:Hid (∀ V,Bw w V→Calls Tryz.prog 146 #[.slice ua (dlen x) uc,.int .i64 (e2 - ea)] V fun r w'=>∃ ao n cap,r=.returned (.tuple #[.slice ao n cap,.bool (decide (x % 2^k=0))])∧Ir w' (.slice ao n cap) (x / 2^k)∧Bw V w'):=kdn q1 q2 q3 hi hkb;have HD2:Hid (∀ V,Bw w V→Calls Tryz.prog 146 #[.slice ua (dlen x) uc,.int .i64 (e2 - ea - 1)] V fun r w'=>∃ ao n cap,r=.returned (.tuple #[.slice ao n cap,.bool (decide (x % 2^(k - 1)=0))])∧Ir w' (.slice ao n cap) (x / 2^(k - 1))∧Bw V w'):=kdn q1 q2 q3 hi2 (by omega)
     have hod:=xZ4 hX;have HG:Hid (N≤9007199254740992∧(e2 = -1074∨4503599627370496≤N)∧N=if dnU x k wy then x / 2^k+1 else x / 2^k):=⟨hn1,hn2,hN⟩;clear HT HN HU q1 q2 q3 hi hi2 hn1 hn2 hb hN hk hkb;unfold dnU at HG;obtain⟨X,hXe⟩:∃ X,X=x / 2^k:=⟨_,rfl⟩;obtain⟨Y,hYe⟩:∃ X,X=x / 2^(k - 1):=⟨_,rfl⟩;obtain⟨hf,hfe⟩:∃ b:Bool,b=(Y % 2==1):=⟨_,rfl⟩;obtain⟨od,hode⟩:∃ b:Bool,b=(X % 2==1):=⟨_,rfl⟩;obtain⟨ex,hex⟩:∃ b:Bool,b=decide (x % 2^(k - 1)=0):=⟨_,rfl⟩;rw[show(x % 2^(k - 1)==0)=decide (x % 2^(k - 1)=0)from rfl,←hex,←hXe,←hYe,←hfe,←hode] at HG;rw[←hXe] at hX hod HD1;rw[←hode] at hod;rw[←hex,←hYe] at HD2;have HFE:Hid (hf=(Y % 2==1)∧dlen Y≤100000):=⟨hfe,by rw[hYe];exact xW (qZ3 (xW0 _ _)) q3'⟩
     clear q3';generalize dlen x=un at *;generalize decide (x % 2^k=0)=ex0 at HD1;clear hXe hYe hfe hode hex;have kD1:=HD1.out w1 (HX.out.trans (HB1.out.mono HX.out.size))
     go_wp2_with fail;refine kD1.mono ?_;rintro r w2 ⟨ao1,n1,c1,rfl,hv,hb2⟩;have HB2:Hid (Bw wc w2):=HB1.out.trans (hb2.mono HB1.out.size);clear a0 a1 a2 kD1;obtain⟨a0,a1,a2⟩:=HK.out w2 HB2.out;have kS:=yD4 hv hX;have kD2:=HD2.out w2 (HX.out.trans (HB2.out.mono HX.out.size));clear hv hb2 HD1 HD2 HB1
     go_wp2_with fail;refine kS.mono ?_;rintro r w3 ⟨rfl,rfl⟩;clear kS
     go_wp2_with fail;refine kD2.mono ?_;rintro r w4 ⟨ao2,n2,c2,rfl,hv,hb4⟩;have HB4:Hid (Bw wc w4):=HB2.out.trans (hb4.mono HB2.out.size);clear a0 a1 a2 kD2 hb4 HB2;obtain⟨a0,a1,a2⟩:=HK.out w4 HB4.out;have HV:Hid (Ir w4 (.slice ao2 n2 c2) Y):=hv;clear hv
     go_upto_region 21 with fail
     go_cut [15] from 106 to 115 (fun v wx=>v=.bool hf∧wx=w4)
     case first =>
      obtain⟨ao,cap,hve,hcap,b,o,hb,hcell⟩:=HV.out;injection hve with e1 e2 e3;subst e1 e3;obtain⟨hf',hly⟩:=HFE.out;by_cases hz:0<dlen Y
      ·obtain rfl:=hb hz;have c0:=hcell 0 hz;rw[Nat.add_zero] at c0;have hdd:=xZ5 (d:=dg Y 0) (X:=Y) (qS3 _);have hpos:(0:Int)<(n2:Int):=by omega
       have hcp:n2≤1000000000:=by omega
       generalize dg Y 0=dd at *;clear hcell HV HFE hb hz e2 hcap
       go_wp2
       go_meet
       exact⟨by rw[hf'],rfl⟩
      ·have hy:Y=0:=qQ7.1 (by omega)
       have hneg:¬ (0:Int)<(n2:Int):=by omega
       have hf0:hf=false:=by rw[hf',hy];rfl
       subst hf0;clear hcell HV HFE hb hz e2 hcap
       go_wp2
       go_meet
       exact⟨rfl,rfl⟩
     case rest =>
      obtain⟨rfl,rfl⟩:=hcut;clear HV HFE;obtain⟨up,hup⟩:∃ b:Bool,b=(wy==2||wy==1&&(hf&&(!ex||od))):=⟨_,rfl⟩;rw[←hup] at HG;have HU:Hid (up=(wy==2||wy==1&&(hf&&(!ex||od)))):=hup;clear hup
      go_upto_region 22 with fail
      go_cut [131] from 116 to 131 (fun v wx=>v=.bool up∧wx=wc)
      case first =>
       have g3:=HU.out;clear HG;rcases HY.out with ⟨rfl,rfl,rfl⟩|⟨rfl,rfl,rfl⟩|⟨rfl,rfl,rfl⟩
       ·go_wp2
        go_meet
        exact⟨by rw[g3];rfl,rfl⟩
       ·cases hf <;> cases ex <;> cases od <;> go_wp2 <;> go_meet <;> exact⟨by rw[g3];rfl,rfl⟩
       ·go_wp2
        go_meet
        exact⟨by rw[g3];rfl,rfl⟩
      case rest =>
       obtain⟨rfl,rfl⟩:=hcut;clear HU HY hod;obtain⟨g1,g2,g3⟩:=HG.out;clear HG;cases up
       ·have hN:N=X:=g3;rw[hN] at g2 HF;have kB:∀ W,Calls Tryz.prog 144 #[.bool neg,.int .u64 (X:Nat),.int .i64 e2] W fun r w'=>r=.returned (.float .f64 (sig neg ((e2+1074).toNat*4503599627370496+X)))∧w'=W:=fun W=>qO9 hX h21 h22 g2;have hne:=xF0 (n:=X) (by omega)
        clear g1 g2 g3 hN
        go_wp2_with (first|(go_at_call 144;refine(kB _).mono ?_;rintro r w5 ⟨rfl,rfl⟩))
        go_ret;exact⟨by rw[HF.out];rfl,HX.out.trans (HB4.out.mono HX.out.size)⟩
       ·have hN:N=X+1:=g3;rw[hN] at g1 g2 HF;clear g3;by_cases h53:X+1=9007199254740992
        ·obtain rfl:X=9007199254740991:=by omega
         by_cases h971:e2=971
         ·subst h971;clear g1 g2 hN;cases neg
          all_goals go_wp2_with (first|(go_at_call 143;(first|(with_reducible refine(kS0 _).mono ?_)|(with_reducible refine(kS1 _).mono ?_));rintro r w5 ⟨rfl,rfl⟩)|(go_at_call 19;(first|(with_reducible refine(kI0 _).mono ?_)|(with_reducible refine(kI1 _).mono ?_));rintro r w5 ⟨rfl,rfl⟩))
          all_goals go_ret
          all_goals exact⟨by rw[HF.out];rfl,HX.out.trans (HB4.out.mono HX.out.size)⟩
         ·have h970:e2+1≤971:=by omega
          have kB:∀ W,Calls Tryz.prog 144 #[.bool neg,.int .u64 4503599627370496,.int .i64 (e2+1)] W fun r w'=>r=.returned (.float .f64 (sig neg ((e2+1+1074).toNat*4503599627370496+4503599627370496)))∧w'=W:=fun W=>qO9 (M:=4503599627370496) (by omega) (by omega) h970 (.inr (xL0 _))
          have HQ:=q53 h21;clear g1 g2 hN h971
          go_wp2_with (first|(go_at_call 144;refine(kB _).mono ?_;rintro r w5 ⟨rfl,rfl⟩))
          go_ret;exact⟨by rw[HF.out,←HQ.out];rfl,HX.out.trans (HB4.out.mono HX.out.size)⟩
        ·have kB:∀ W,Calls Tryz.prog 144 #[.bool neg,.int .u64 ((X:Int)+1),.int .i64 e2] W fun r w'=>r=.returned (.float .f64 (sig neg ((e2+1074).toNat*4503599627370496+(X+1))))∧w'=W:=fun W=>qO9 (M:=X+1) (by omega) h21 h22 g2
         have hne:((X:Int)+1==9007199254740992)=false:=xF0 (n:=X+1) h53;clear g1 g2 hN h53
         go_wp2_with (first|(go_at_call 144;refine(kB _).mono ?_;rintro r w5 ⟨rfl,rfl⟩))
         go_ret;exact⟨by rw[HF.out];rfl,HX.out.trans (HB4.out.mono HX.out.size)⟩
end Go.Proofs.YtbanebginnakhaaGreatDoor
namespace Go.Proofs.YtbanebginnakhaaGreatDoor
end Go.Proofs.YtbanebginnakhaaGreatDoor
namespace Go.Proofs.YtbanebginnakhaaGreatDoor
open Go.RowKit Go.Fl64
open Ie
theorem rto_0 (na:Bool) (ua:Option Addr) (uc:Nat) (ea m:Int) (w:World):Calls Tryz.prog 96 #[.agg #[.bool na,.slice ua 0 uc,.int .i64 ea],.int .i64 m] w fun r w'=>r=.returned (.float .f64 0)∧Bw w w':=by
 obtain⟨W,hW⟩:∃ W,W=w.alloc (.cells #[.bool na,.slice ua 0 uc,.int .i64 ea] 132):=⟨_,rfl⟩;have HB:Hid (Bw w W):=(by rw[hW];exact(xL1 _ _).alloc (xL0 _) _:Bw w W)
 go_enter Tryz.func96,Tryz.ntmps96
 go_wp2
 go_ret;exact⟨rfl,hW ▸ HB.out⟩
end Go.Proofs.YtbanebginnakhaaGreatDoor
namespace Go.Proofs.YtbanebginnakhaaGreatDoor
open Go.RowKit
theorem xG0 (s:Bool) (ao:Option Addr) (n cap F:Nat) (e place m:Int) (w:World) (kT:∀ W,Bw w W→Calls Tryz.prog 96 #[.agg #[.bool s,.slice ao n cap,.int .i64 e],.int .i64 m] W fun r w'=>r=.returned (.float .f64 F)∧Bw W w') :
  Calls Tryz.prog 150 #[.agg #[.bool s,.slice ao n cap,.int .i64 e],.bool true,.int .i64 place,.int .i64 m] w fun r w'=>r=.returned (.float .f64 F)∧Bw w w':=by
 obtain⟨W,hW⟩:∃ W,W=w.alloc (.cells #[.bool s,.slice ao n cap,.int .i64 e] 132):=⟨_,rfl⟩;have hBW:Bw w W:=by rw[hW];exact(xL1 _ _).alloc (xL0 _) _
 have HX:Hid (Bw w W):=hBW;have k:=kT W hBW;clear kT hBW
 go_enter Tryz.func150,Tryz.ntmps150
 go_wp2_with fail;rw[←hW];clear hW;refine k.mono ?_;rintro r w1 ⟨rfl,hb1⟩;have HB1:Hid (Bw W w1):=hb1;clear k hb1
 go_wp2
 go_ret;exact⟨rfl,HX.out.trans (HB1.out.mono HX.out.size)⟩
theorem xG (s:Bool) (ao:Option Addr) (n cap F:Nat) (e place m:Int) (s':Bool) (z':Nat) (e':Int) (w:World) (hp1 : -1000000≤place) (hp2:place≤1000000)
  (kP:∀ g W,Bw w W→At W (some ⟨g,0,none⟩) 1 1→Calls Tryz.prog 92 #[.agg #[.bool s,.slice ao n cap,.int .i64 e],.agg #[.bool false,.slice (some ⟨g,0,none⟩) 1 1,.int .i64 (-(place+1))]] W fun r w'=>∃ a,r=.returned a∧NC w' W.heap.size a s' z' e'∧Bw W w')
  (kT:∀ W A,Bw w W→NC W w.heap.size A s' z' e'→Calls Tryz.prog 96 #[A,.int .i64 m] W fun r w'=>r=.returned (.float .f64 F)∧Bw W w') :
  Calls Tryz.prog 150 #[.agg #[.bool s,.slice ao n cap,.int .i64 e],.bool false,.int .i64 place,.int .i64 m] w fun r w'=>r=.returned (.float .f64 F)∧Bw w w':=by
 obtain⟨W,hW⟩:∃ W,W=w.alloc (.cells #[.bool s,.slice ao n cap,.int .i64 e] 132):=⟨_,rfl⟩;have hBW:Bw w W:=by rw[hW];exact(xL1 _ _).alloc (xL0 _) _
 have hA:W.heap[w.heap.size]?=some (.cells #[.bool s,.slice ao n cap,.int .i64 e] 132 (0,0)):=by rw[hW];exact xW8 _ _
 have hsz:W.heap.size=w.heap.size+1:=by rw[hW];simp
 have HX:Hid (Bw w W∧W.heap.size=w.heap.size+1∧W.heap[w.heap.size]?=some (.cells #[.bool s,.slice ao n cap,.int .i64 e] 132 (0,0))):=⟨hBW,hsz,hA⟩;have HKT:Hid _:=kT;have HK:Hid (∀ w',Bw W w'→(w'.cell? ⟨w.heap.size,0,none⟩=some (.bool s)∧w'.cell? ⟨w.heap.size,1,none⟩=some (.slice ao n cap)∧w'.cell? ⟨w.heap.size,2,none⟩=some (.int .i64 e))):=fun w' hb=>(qQ0 (qQ HX.out.2.2 hb (by have:=HX.out.2.1;omega))).1
 have kO:∀ w8,Bw W w8→Calls Tryz.prog 188 #[.int .i64 (place+1)] w8 fun r w'=>∃ g,r=.returned (.agg #[.bool false,.slice (some ⟨g,0,none⟩) 1 1,.int .i64 (-(place+1))])∧Hid (At w' (some ⟨g,0,none⟩) 1 1)∧Bw W w'∧(w'.cell? ⟨w.heap.size,0,none⟩=some (.bool s)∧w'.cell? ⟨w.heap.size,1,none⟩=some (.slice ao n cap)∧w'.cell? ⟨w.heap.size,2,none⟩=some (.int .i64 e)):=fun w8 hb=>(rone (place+1) w8 (by omega) (by omega)).mono fun r w' ⟨g,e1,e2,e3,e4⟩=>⟨g,e1,e3,hb.trans (e4.mono hb.size),HK.out w' (hb.trans (e4.mono hb.size))⟩
 have kL:∀ g w9,Hid (At w9 (some ⟨g,0,none⟩) 1 1)→Bw W w9→Calls Tryz.prog 92 #[.agg #[.bool s,.slice ao n cap,.int .i64 e],.agg #[.bool false,.slice (some ⟨g,0,none⟩) 1 1,.int .i64 (-(place+1))]] w9 fun r w'=>∃ s9 ao9 n9 cap9 ex9,r=.returned (.agg #[.bool s9,.slice ao9 n9 cap9,.int .i64 ex9])∧Hid (NC w' W.heap.size (.agg #[.bool s9,.slice ao9 n9 cap9,.int .i64 ex9]) s' z' e')∧Bw W w'∧Hid (w'.heap[w.heap.size]?=some (.cells #[.bool s,.slice ao n cap,.int .i64 e] 132 (0,0)))∧(w'.cell? ⟨w.heap.size,0,none⟩=some (.bool s)∧w'.cell? ⟨w.heap.size,1,none⟩=some (.slice ao n cap)∧w'.cell? ⟨w.heap.size,2,none⟩=some (.int .i64 e))∧(w'.frozen? ⟨w.heap.size,0,none⟩=false∧w'.frozen? ⟨w.heap.size,1,none⟩=false∧w'.frozen? ⟨w.heap.size,2,none⟩=false):=by
  intro g w9 hA hb;refine(kP g w9 (HX.out.1.trans (hb.mono HX.out.1.size)) hA.out).mono ?_
  rintro r w10 ⟨A,rfl,hN,hb10⟩;obtain⟨s9,ao9,n9,cap9,ex9,rfl⟩:=hN.shape;have hbb:=hb.trans (hb10.mono hb.size);have hblk:=qQ HX.out.2.2 hbb (by have:=HX.out.2.1;omega)
  obtain⟨f1,f2⟩:=qQ0 hblk;exact⟨s9,ao9,n9,cap9,ex9,rfl,hN.mono hb.size,hbb,hblk,f1,f2⟩
 obtain⟨d0,d1,d2⟩:=HK.out W (xL1 _ _);have hBR:Bw W W.drew:=(xL1 _ _).drew;have hpw:IntKind.i64.wrap (place+1)=place+1:=by rw[xW6];omega
 clear kT hA hsz hBW
 go_enter Tryz.func150,Tryz.ntmps150
 go_upto_region 2 with fail;rw[←hW];clear hW
 go_cut [15] from 11 to 15 (fun v wx=>∃ s9 ao9 n9 cap9 ex9,v=.agg #[.bool s9,.slice ao9 n9 cap9,.int .i64 ex9]∧Hid (NC wx W.heap.size (.agg #[.bool s9,.slice ao9 n9 cap9,.int .i64 ex9]) s' z' e')∧Hid (wx.heap[w.heap.size]?=some (.cells #[.bool s9,.slice ao9 n9 cap9,.int .i64 ex9] 132 (0,0)))∧Hid (Below w.heap.size W wx))
 case first =>
  go_region_with (first|(go_at_call 188;refine(kO _ (by first|(with_reducible assumption)|exact hBR|exact xL1 _ _)).mono ?_;rintro r w8 ⟨g8,rfl,hA8,hb8,⟨y1,y2,y3⟩⟩)|(go_at_call 92;refine(kL _ _ hA8 (by with_reducible assumption)).mono ?_;rintro r w9 ⟨s9,ao9,n9,cap9,ex9,rfl,hN9,hb9,hblk9,⟨x1,x2,x3⟩,x4,x5,x6⟩))
  all_goals go_wp2_with fail
  all_goals go_meet
  all_goals exact⟨s9,ao9,n9,cap9,ex9,rfl,hN9.out.store (by have:=HX.out.2.1;omega) _ _ _,qX1 _ _ _ hblk9.out,qQ3 (hb9.mono HX.out.1.size) (xL0 _) _ _ _⟩
 case rest =>
  obtain⟨s9,ao9,n9,cap9,ex9,rfl,hN9,hB9,hL9⟩:=hcut;obtain⟨wx,rfl⟩:∃ wx:World,wx=wc:=⟨_,rfl⟩;have HBx:Hid (Bw w wx):=HX.out.1.trans hL9.out;clear d0 d1 d2;obtain⟨⟨d0,d1,d2⟩,-⟩:=qQ0 hB9.out;have kt:=HKT.out wx _ HBx.out (hN9.out.mono HX.out.1.size);clear kO kL hBR
  go_wp2_with fail;refine kt.mono ?_;rintro r w11 ⟨rfl,hb11⟩;have HB11:Hid (Bw w w11):=HBx.out.trans (hb11.mono HBx.out.size);clear kt hb11
  go_wp2
  go_ret;exact⟨rfl,HB11.out⟩
theorem qC0 (na nb:Bool) (ua va:Option Addr) (un uc vn vc F:Nat) (ea eb m ta tb pl:Int) (sg:Bool) (w:World) (hsg:(!(na==nb))=sg) (hn0:((un:Int)==0)=false) (hta1 : -200000≤ta) (hta2:ta≤200000) (htb1 : -200000≤tb) (htb2:tb≤200000) (hpl:min (max (60 - ta+tb) (-1100)) 1100=pl) (hpl1 : -1100≤pl) (hpl2:pl≤1100) (EX:Int) (hEX:(1100<ta - tb∧EX=1100)∨(ta - tb < -1200∧EX = -1200)) (kHa:∀ W,Bw w W→Calls Tryz.prog 142 #[.agg #[.bool na,.slice ua un uc,.int .i64 ea]] W fun r w'=>r=.returned (.int .i64 ta)∧Bw W w') (kHb:∀ W,Bw w W→Calls Tryz.prog 142 #[.agg #[.bool nb,.slice va vn vc,.int .i64 eb]] W fun r w'=>r=.returned (.int .i64 tb)∧Bw W w')
  (kT:∀ g W,Bw w W→At W (some ⟨g,0,none⟩) 1 1→Calls Tryz.prog 96 #[.agg #[.bool sg,.slice (some ⟨g,0,none⟩) 1 1,.int .i64 EX],.int .i64 m] W fun r w'=>r=.returned (.float .f64 F)∧Bw W w') :
  Calls Tryz.prog 100 #[.agg #[.bool na,.slice ua un uc,.int .i64 ea],.agg #[.bool nb,.slice va vn vc,.int .i64 eb],.int .i64 m] w fun r w'=>r=.returned (.float .f64 F)∧Bw w w':=by
 rcases hEX with ⟨ht,rfl⟩|⟨ht,rfl⟩
 all_goals (
  try have htn:¬ 1100<ta - tb:=by omega
  obtain⟨W,hW⟩:∃ W,W=(w.alloc (.cells #[.bool na,.slice ua un uc,.int .i64 ea] 132)).alloc (.cells #[.bool nb,.slice va vn vc,.int .i64 eb] 132):=⟨_,rfl⟩;obtain⟨hA,hBb,hsz,hBW⟩:=qN1 _ _ hW;have HX:Hid (Bw w W∧W.heap.size=w.heap.size+1+1∧W.heap[w.heap.size]?=some (.cells #[.bool na,.slice ua un uc,.int .i64 ea] 132 (0,0))∧W.heap[w.heap.size+1]?=some (.cells #[.bool nb,.slice va vn vc,.int .i64 eb] 132 (0,0))):=⟨hBW,hsz,hA,hBb⟩;have HKW:Hid (∀ w',Bw W w'→((w'.cell? ⟨w.heap.size,0,none⟩=some (.bool na)∧w'.cell? ⟨w.heap.size,1,none⟩=some (.slice ua un uc)∧w'.cell? ⟨w.heap.size,2,none⟩=some (.int .i64 ea))∧(w'.cell? ⟨w.heap.size+1,0,none⟩=some (.bool nb)∧w'.cell? ⟨w.heap.size+1,1,none⟩=some (.slice va vn vc)∧w'.cell? ⟨w.heap.size+1,2,none⟩=some (.int .i64 eb)))):=fun w' hb=>⟨(qQ0 (qQ HX.out.2.2.1 hb (by have:=HX.out.2.1;omega))).1,(qQ0 (qQ HX.out.2.2.2 hb (by have:=HX.out.2.1;omega))).1⟩
  have HKA:Hid _:=kHa;have HKB:Hid _:=kHb;have HBW0:Hid (Bw W W):=xL1 _ _;have hw1:IntKind.i64.wrap (60 - ta)=60 - ta:=by rw[xW6];omega
  have hw2:IntKind.i64.wrap (60 - ta+tb)=60 - ta+tb:=by rw[xW6];omega
  have hw3:IntKind.i64.wrap (ta - tb)=ta - tb:=by rw[xW6];omega
  have HKT:Hid _:=kT;clear kT;clear hA hBb hsz hBW kHa kHb
  go_enter Tryz.func100,Tryz.ntmps100;have HK0:Hid (∀ w',Bw W w'→((w'.cell? ⟨w.heap.size,0,none⟩=some (.bool na)∧w'.cell? ⟨w.heap.size,1,none⟩=some (.slice ua un uc)∧w'.cell? ⟨w.heap.size,2,none⟩=some (.int .i64 ea))∧(w'.cell? ⟨w.heap.size+1,0,none⟩=some (.bool nb)∧w'.cell? ⟨w.heap.size+1,1,none⟩=some (.slice va vn vc)∧w'.cell? ⟨w.heap.size+1,2,none⟩=some (.int .i64 eb)))):=fun w' hb=>HKW.out w' (HBW0.out.trans (hb.mono HBW0.out.size));obtain⟨⟨a0,a1,a2⟩,b0,b1,b2⟩:=HK0.out W (xL1 _ _);have hBR:Bw W W.drew:=(xL1 _ _).drew;have kA':∀ w4,Bw W w4→Calls Tryz.prog 142 #[.agg #[.bool na,.slice ua un uc,.int .i64 ea]] w4 fun r w'=>r=.returned (.int .i64 ta)∧Bw W w':=fun w4 hb=>(HKA.out w4 (HX.out.1.trans ((HBW0.out.trans (hb.mono HBW0.out.size)).mono HX.out.1.size))).mono fun r w' ⟨e1,o2⟩=>⟨e1,hb.trans (o2.mono hb.size)⟩;have kB':∀ w4,Bw W w4→Calls Tryz.prog 142 #[.agg #[.bool nb,.slice va vn vc,.int .i64 eb]] w4 fun r w'=>r=.returned (.int .i64 tb)∧Bw W w':=fun w4 hb=>(HKB.out w4 (HX.out.1.trans ((HBW0.out.trans (hb.mono HBW0.out.size)).mono HX.out.1.size))).mono fun r w' ⟨e1,o2⟩=>⟨e1,hb.trans (o2.mono hb.size)⟩
  go_upto_region 3 with fail;rw[←hW];clear hW
  go_cut [7] from 15 to 22 (fun v wx=>v=.int .i64 pl∧Hid (Bw W wx))
  case first =>
   go_region_held3 (fun w'=>((w'.cell? ⟨w.heap.size,0,none⟩=some (.bool na)∧w'.cell? ⟨w.heap.size,1,none⟩=some (.slice ua un uc)∧w'.cell? ⟨w.heap.size,2,none⟩=some (.int .i64 ea))∧(w'.cell? ⟨w.heap.size+1,0,none⟩=some (.bool nb)∧w'.cell? ⟨w.heap.size+1,1,none⟩=some (.slice va vn vc)∧w'.cell? ⟨w.heap.size+1,2,none⟩=some (.int .i64 eb)))) (first|(with_reducible assumption)|exact⟨⟨a0,a1,a2⟩,b0,b1,b2⟩|(refine HK0.out _ ?_;with_reducible assumption)|go_keep)
    (first|(go_at_call 142;first|(with_reducible refine(kA' _ (by first|(with_reducible assumption)|exact hBR)).mono ?_;rintro r w5 ⟨rfl,hb5⟩)|(with_reducible refine(kB' _ (by first|(with_reducible assumption)|exact hBR)).mono ?_;rintro r w6 ⟨rfl,hb6⟩)))
   all_goals go_wp2_with fail
   all_goals go_meet
   all_goals first|exact⟨rfl,hb6⟩|exact⟨rfl,hb5⟩
  case rest =>
  obtain⟨rfl,hcx⟩:=hcut;obtain⟨w2,rfl⟩:∃ w2:World,w2=wc:=⟨_,rfl⟩;have HBW1:Hid (Bw W w2):=HBW0.out.trans (hcx.out.mono HBW0.out.size);clear hcx a0 a1 a2 b0 b1 b2 kA' kB' hBR HK0;have HK1:Hid (∀ w',Bw w2 w'→((w'.cell? ⟨w.heap.size,0,none⟩=some (.bool na)∧w'.cell? ⟨w.heap.size,1,none⟩=some (.slice ua un uc)∧w'.cell? ⟨w.heap.size,2,none⟩=some (.int .i64 ea))∧(w'.cell? ⟨w.heap.size+1,0,none⟩=some (.bool nb)∧w'.cell? ⟨w.heap.size+1,1,none⟩=some (.slice va vn vc)∧w'.cell? ⟨w.heap.size+1,2,none⟩=some (.int .i64 eb)))):=fun w' hb=>HKW.out w' (HBW1.out.trans (hb.mono HBW1.out.size));obtain⟨⟨a0,a1,a2⟩,b0,b1,b2⟩:=HK1.out w2 (xL1 _ _);have hBR:Bw w2 w2.drew:=(xL1 _ _).drew;have kA':∀ w4,Bw w2 w4→Calls Tryz.prog 142 #[.agg #[.bool na,.slice ua un uc,.int .i64 ea]] w4 fun r w'=>r=.returned (.int .i64 ta)∧Bw w2 w':=fun w4 hb=>(HKA.out w4 (HX.out.1.trans ((HBW1.out.trans (hb.mono HBW1.out.size)).mono HX.out.1.size))).mono fun r w' ⟨e1,o2⟩=>⟨e1,hb.trans (o2.mono hb.size)⟩;have kB':∀ w4,Bw w2 w4→Calls Tryz.prog 142 #[.agg #[.bool nb,.slice va vn vc,.int .i64 eb]] w4 fun r w'=>r=.returned (.int .i64 tb)∧Bw w2 w':=fun w4 hb=>(HKB.out w4 (HX.out.1.trans ((HBW1.out.trans (hb.mono HBW1.out.size)).mono HX.out.1.size))).mono fun r w' ⟨e1,o2⟩=>⟨e1,hb.trans (o2.mono hb.size)⟩
  go_upto_region 4 with fail
  go_cut [8] from 23 to 27 (fun v wx=>v=.int .i64 (ta - tb)∧Hid (Bw w2 wx))
  case first =>
   go_region_held3 (fun w'=>((w'.cell? ⟨w.heap.size,0,none⟩=some (.bool na)∧w'.cell? ⟨w.heap.size,1,none⟩=some (.slice ua un uc)∧w'.cell? ⟨w.heap.size,2,none⟩=some (.int .i64 ea))∧(w'.cell? ⟨w.heap.size+1,0,none⟩=some (.bool nb)∧w'.cell? ⟨w.heap.size+1,1,none⟩=some (.slice va vn vc)∧w'.cell? ⟨w.heap.size+1,2,none⟩=some (.int .i64 eb)))) (first|(with_reducible assumption)|exact⟨⟨a0,a1,a2⟩,b0,b1,b2⟩|(refine HK1.out _ ?_;with_reducible assumption)|go_keep)
    (first|(go_at_call 142;first|(with_reducible refine(kA' _ (by first|(with_reducible assumption)|exact hBR)).mono ?_;rintro r w5 ⟨rfl,hb5⟩)|(with_reducible refine(kB' _ (by first|(with_reducible assumption)|exact hBR)).mono ?_;rintro r w6 ⟨rfl,hb6⟩)))
   all_goals go_wp2_with fail
   all_goals go_meet
   all_goals first|exact⟨rfl,hb6⟩|exact⟨rfl,hb5⟩
  case rest =>
  obtain⟨rfl,hcx⟩:=hcut;obtain⟨w3,rfl⟩:∃ w3:World,w3=wc:=⟨_,rfl⟩;have HBW2:Hid (Bw W w3):=HBW1.out.trans (hcx.out.mono HBW1.out.size);clear hcx a0 a1 a2 b0 b1 b2 kA' kB' hBR HK1;obtain⟨⟨a0,a1,a2⟩,b0,b1,b2⟩:=HKW.out w3 HBW2.out;obtain⟨w4,hw4⟩:∃ w4,w4=w3.alloc (.cells #[.int .u32 1] 50):=⟨_,rfl⟩;have hB34:Bw w3 w4:=by rw[hw4];exact(xL1 _ _).alloc (xL0 _) _
  have HW3:Hid (Bw w w3):=HX.out.1.trans (HBW2.out.mono HX.out.1.size);have HB4:Hid (Bw w w4):=HW3.out.trans (hB34.mono HW3.out.size);have hA1:At w4 (some ⟨w3.heap.size,0,none⟩) 1 1:=⟨w3.heap.size,0,fun _=>rfl,fun i hi=>by
   obtain rfl:i=0:=by omega
   rw[hw4,qS3,show 1 % B=1 by rfl]
   exact qL8 w3 _⟩
  have kt:=HKT.out w3.heap.size w4 HB4.out hA1;clear hB34 hA1
  go_wp2_with fail;rw[←hw4];clear hw4;refine kt.mono ?_;rintro r w5 ⟨rfl,hb5⟩;have HB5:Hid (Bw w w5):=HB4.out.trans (hb5.mono HB4.out.size);clear kt hb5
  go_wp2
  go_ret;exact⟨rfl,HB5.out⟩)
theorem zP0 (na nb:Bool) (ua va:Option Addr) (un uc vn vc F:Nat) (ea eb m ta tb pl:Int) (s:Bool) (z:Nat) (bx:Bool) (w:World) (hn0:((un:Int)==0)=false) (hta1 : -200000≤ta) (hta2:ta≤200000) (htb1 : -200000≤tb) (htb2:tb≤200000) (hpl:min (max (60 - ta+tb) (-1100)) 1100=pl) (hpl1 : -1100≤pl) (hpl2:pl≤1100) (ht1:ta - tb≤1100) (ht2 : -1200≤ta - tb) (kHa:∀ W,Bw w W→Calls Tryz.prog 142 #[.agg #[.bool na,.slice ua un uc,.int .i64 ea]] W fun r w'=>r=.returned (.int .i64 ta)∧Bw W w') (kHb:∀ W,Bw w W→Calls Tryz.prog 142 #[.agg #[.bool nb,.slice va vn vc,.int .i64 eb]] W fun r w'=>r=.returned (.int .i64 tb)∧Bw W w')
  (kO:∀ W,Bw w W→Calls Tryz.prog 149 #[.agg #[.bool na,.slice ua un uc,.int .i64 ea],.agg #[.bool nb,.slice va vn vc,.int .i64 eb],.int .i64 (pl+60)] W fun r w'=>∃ A,r=.returned (.tuple #[A,.bool bx])∧NC w' W.heap.size A s z (-(pl+60))∧Bw W w')
  (kB:∀ W A,Bw w W→NC W w.heap.size A s z (-(pl+60))→Calls Tryz.prog 150 #[A,.bool bx,.int .i64 (pl+60),.int .i64 m] W fun r w'=>r=.returned (.float .f64 F)∧Bw W w') :
  Calls Tryz.prog 100 #[.agg #[.bool na,.slice ua un uc,.int .i64 ea],.agg #[.bool nb,.slice va vn vc,.int .i64 eb],.int .i64 m] w fun r w'=>r=.returned (.float .f64 F)∧Bw w w':=by
 have htn:¬ 1100<ta - tb:=by omega
 have htm:¬ ta - tb < -1200:=by omega
 obtain⟨W,hW⟩:∃ W,W=(w.alloc (.cells #[.bool na,.slice ua un uc,.int .i64 ea] 132)).alloc (.cells #[.bool nb,.slice va vn vc,.int .i64 eb] 132):=⟨_,rfl⟩;obtain⟨hA,hBb,hsz,hBW⟩:=qN1 _ _ hW;have HX:Hid (Bw w W∧W.heap.size=w.heap.size+1+1∧W.heap[w.heap.size]?=some (.cells #[.bool na,.slice ua un uc,.int .i64 ea] 132 (0,0))∧W.heap[w.heap.size+1]?=some (.cells #[.bool nb,.slice va vn vc,.int .i64 eb] 132 (0,0))):=⟨hBW,hsz,hA,hBb⟩;have HKW:Hid (∀ w',Bw W w'→((w'.cell? ⟨w.heap.size,0,none⟩=some (.bool na)∧w'.cell? ⟨w.heap.size,1,none⟩=some (.slice ua un uc)∧w'.cell? ⟨w.heap.size,2,none⟩=some (.int .i64 ea))∧(w'.cell? ⟨w.heap.size+1,0,none⟩=some (.bool nb)∧w'.cell? ⟨w.heap.size+1,1,none⟩=some (.slice va vn vc)∧w'.cell? ⟨w.heap.size+1,2,none⟩=some (.int .i64 eb)))):=fun w' hb=>⟨(qQ0 (qQ HX.out.2.2.1 hb (by have:=HX.out.2.1;omega))).1,(qQ0 (qQ HX.out.2.2.2 hb (by have:=HX.out.2.1;omega))).1⟩
 have HKA:Hid _:=kHa;have HKB:Hid _:=kHb;have HBW0:Hid (Bw W W):=xL1 _ _;have hw1:IntKind.i64.wrap (60 - ta)=60 - ta:=by rw[xW6];omega
 have hw2:IntKind.i64.wrap (60 - ta+tb)=60 - ta+tb:=by rw[xW6];omega
 have hw3:IntKind.i64.wrap (ta - tb)=ta - tb:=by rw[xW6];omega
 have HKO:Hid _:=kO;have HKBt:Hid _:=kB;clear kO kB;clear hA hBb hsz hBW kHa kHb
 go_enter Tryz.func100,Tryz.ntmps100;have HK0:Hid (∀ w',Bw W w'→((w'.cell? ⟨w.heap.size,0,none⟩=some (.bool na)∧w'.cell? ⟨w.heap.size,1,none⟩=some (.slice ua un uc)∧w'.cell? ⟨w.heap.size,2,none⟩=some (.int .i64 ea))∧(w'.cell? ⟨w.heap.size+1,0,none⟩=some (.bool nb)∧w'.cell? ⟨w.heap.size+1,1,none⟩=some (.slice va vn vc)∧w'.cell? ⟨w.heap.size+1,2,none⟩=some (.int .i64 eb)))):=fun w' hb=>HKW.out w' (HBW0.out.trans (hb.mono HBW0.out.size));obtain⟨⟨a0,a1,a2⟩,b0,b1,b2⟩:=HK0.out W (xL1 _ _);have hBR:Bw W W.drew:=(xL1 _ _).drew;have kA':∀ w4,Bw W w4→Calls Tryz.prog 142 #[.agg #[.bool na,.slice ua un uc,.int .i64 ea]] w4 fun r w'=>r=.returned (.int .i64 ta)∧Bw W w':=fun w4 hb=>(HKA.out w4 (HX.out.1.trans ((HBW0.out.trans (hb.mono HBW0.out.size)).mono HX.out.1.size))).mono fun r w' ⟨e1,o2⟩=>⟨e1,hb.trans (o2.mono hb.size)⟩;have kB':∀ w4,Bw W w4→Calls Tryz.prog 142 #[.agg #[.bool nb,.slice va vn vc,.int .i64 eb]] w4 fun r w'=>r=.returned (.int .i64 tb)∧Bw W w':=fun w4 hb=>(HKB.out w4 (HX.out.1.trans ((HBW0.out.trans (hb.mono HBW0.out.size)).mono HX.out.1.size))).mono fun r w' ⟨e1,o2⟩=>⟨e1,hb.trans (o2.mono hb.size)⟩
 go_upto_region 3 with fail;rw[←hW];clear hW
 go_cut [7] from 15 to 22 (fun v wx=>v=.int .i64 pl∧Hid (Bw W wx))
 case first =>
  go_region_held3 (fun w'=>((w'.cell? ⟨w.heap.size,0,none⟩=some (.bool na)∧w'.cell? ⟨w.heap.size,1,none⟩=some (.slice ua un uc)∧w'.cell? ⟨w.heap.size,2,none⟩=some (.int .i64 ea))∧(w'.cell? ⟨w.heap.size+1,0,none⟩=some (.bool nb)∧w'.cell? ⟨w.heap.size+1,1,none⟩=some (.slice va vn vc)∧w'.cell? ⟨w.heap.size+1,2,none⟩=some (.int .i64 eb)))) (first|(with_reducible assumption)|exact⟨⟨a0,a1,a2⟩,b0,b1,b2⟩|(refine HK0.out _ ?_;with_reducible assumption)|go_keep)
   (first|(go_at_call 142;first|(with_reducible refine(kA' _ (by first|(with_reducible assumption)|exact hBR)).mono ?_;rintro r w5 ⟨rfl,hb5⟩)|(with_reducible refine(kB' _ (by first|(with_reducible assumption)|exact hBR)).mono ?_;rintro r w6 ⟨rfl,hb6⟩)))
  all_goals go_wp2_with fail
  all_goals go_meet
  all_goals first|exact⟨rfl,hb6⟩|exact⟨rfl,hb5⟩
 case rest =>
 obtain⟨rfl,hcx⟩:=hcut;obtain⟨w2,rfl⟩:∃ w2:World,w2=wc:=⟨_,rfl⟩;have HBW1:Hid (Bw W w2):=HBW0.out.trans (hcx.out.mono HBW0.out.size);clear hcx a0 a1 a2 b0 b1 b2 kA' kB' hBR HK0;have HK1:Hid (∀ w',Bw w2 w'→((w'.cell? ⟨w.heap.size,0,none⟩=some (.bool na)∧w'.cell? ⟨w.heap.size,1,none⟩=some (.slice ua un uc)∧w'.cell? ⟨w.heap.size,2,none⟩=some (.int .i64 ea))∧(w'.cell? ⟨w.heap.size+1,0,none⟩=some (.bool nb)∧w'.cell? ⟨w.heap.size+1,1,none⟩=some (.slice va vn vc)∧w'.cell? ⟨w.heap.size+1,2,none⟩=some (.int .i64 eb)))):=fun w' hb=>HKW.out w' (HBW1.out.trans (hb.mono HBW1.out.size));obtain⟨⟨a0,a1,a2⟩,b0,b1,b2⟩:=HK1.out w2 (xL1 _ _);have hBR:Bw w2 w2.drew:=(xL1 _ _).drew;have kA':∀ w4,Bw w2 w4→Calls Tryz.prog 142 #[.agg #[.bool na,.slice ua un uc,.int .i64 ea]] w4 fun r w'=>r=.returned (.int .i64 ta)∧Bw w2 w':=fun w4 hb=>(HKA.out w4 (HX.out.1.trans ((HBW1.out.trans (hb.mono HBW1.out.size)).mono HX.out.1.size))).mono fun r w' ⟨e1,o2⟩=>⟨e1,hb.trans (o2.mono hb.size)⟩;have kB':∀ w4,Bw w2 w4→Calls Tryz.prog 142 #[.agg #[.bool nb,.slice va vn vc,.int .i64 eb]] w4 fun r w'=>r=.returned (.int .i64 tb)∧Bw w2 w':=fun w4 hb=>(HKB.out w4 (HX.out.1.trans ((HBW1.out.trans (hb.mono HBW1.out.size)).mono HX.out.1.size))).mono fun r w' ⟨e1,o2⟩=>⟨e1,hb.trans (o2.mono hb.size)⟩
 go_upto_region 4 with fail
 go_cut [8] from 23 to 27 (fun v wx=>v=.int .i64 (ta - tb)∧Hid (Bw w2 wx))
 case first =>
  go_region_held3 (fun w'=>((w'.cell? ⟨w.heap.size,0,none⟩=some (.bool na)∧w'.cell? ⟨w.heap.size,1,none⟩=some (.slice ua un uc)∧w'.cell? ⟨w.heap.size,2,none⟩=some (.int .i64 ea))∧(w'.cell? ⟨w.heap.size+1,0,none⟩=some (.bool nb)∧w'.cell? ⟨w.heap.size+1,1,none⟩=some (.slice va vn vc)∧w'.cell? ⟨w.heap.size+1,2,none⟩=some (.int .i64 eb)))) (first|(with_reducible assumption)|exact⟨⟨a0,a1,a2⟩,b0,b1,b2⟩|(refine HK1.out _ ?_;with_reducible assumption)|go_keep)
   (first|(go_at_call 142;first|(with_reducible refine(kA' _ (by first|(with_reducible assumption)|exact hBR)).mono ?_;rintro r w5 ⟨rfl,hb5⟩)|(with_reducible refine(kB' _ (by first|(with_reducible assumption)|exact hBR)).mono ?_;rintro r w6 ⟨rfl,hb6⟩)))
  all_goals go_wp2_with fail
  all_goals go_meet
  all_goals first|exact⟨rfl,hb6⟩|exact⟨rfl,hb5⟩
 case rest =>
 obtain⟨rfl,hcx⟩:=hcut;obtain⟨w3,rfl⟩:∃ w3:World,w3=wc:=⟨_,rfl⟩;have HBW2:Hid (Bw W w3):=HBW1.out.trans (hcx.out.mono HBW1.out.size);clear hcx a0 a1 a2 b0 b1 b2 kA' kB' hBR HK1;obtain⟨⟨a0,a1,a2⟩,b0,b1,b2⟩:=HKW.out w3 HBW2.out;have HW3:Hid (Bw w w3):=HX.out.1.trans (HBW2.out.mono HX.out.1.size);have ko:=HKO.out w3 HW3.out
 go_wp2_with fail;refine ko.mono ?_;rintro r w4 ⟨A,rfl,hN,hb4⟩;have HB4:Hid (Bw w w4):=HW3.out.trans (hb4.mono HW3.out.size);obtain⟨s3,ao3,n3,cap3,e3,rfl⟩:=hN.shape;obtain⟨w5,hw5⟩:∃ w5,w5=w4.alloc (.cells #[.bool s3,.slice ao3 n3 cap3,.int .i64 e3] 132):=⟨_,rfl⟩;have hB45:Bw w4 w5:=by rw[hw5];exact(xL1 _ _).alloc (xL0 _) _
 have HB5:Hid (Bw w w5):=HB4.out.trans (hB45.mono HB4.out.size);have kb:=HKBt.out w5 _ HB5.out ((hN.later hB45).mono HW3.out.size);clear ko hN hb4 hB45 a0 a1 a2 b0 b1 b2
 go_wp2_with fail;rw[←hw5];clear hw5;refine kb.mono ?_;rintro r w6 ⟨rfl,hb6⟩;have HB6:Hid (Bw w w6):=HB5.out.trans (hb6.mono HB5.out.size);clear kb hb6
 go_wp2
 go_ret;exact⟨rfl,HB6.out⟩
end Go.Proofs.YtbanebginnakhaaGreatDoor
namespace Go.Proofs.YtbanebginnakhaaGreatDoor
open Go.RowKit Go.Fl64
open Ie
theorem xZ {x n:Nat}:n+1≤bl x↔2^n≤x:=by
 have:=qJ8 x n
 omega
theorem xS9 {x n:Nat} (h:n<bl x):bl (x / 2^n)=bl x - n:=by
 have hx0:x≠0:=fun e=>by rw[e] at h;simp[bl] at h
 have h1:=qV0 x;have h2:=qP6 hx0;have a:bl (x / 2^n)≤bl x - n:=(qJ8 _ _).2 ((xE6 (xL5 n)).2 (by rw[←xC3,show bl x - n+n=bl x by omega];exact h1))
 have b:bl x - n - 1+1≤bl (x / 2^n):=xZ.2 ((Nat.le_div_iff_mul_le (xL5 n)).2 (by rw[←xC3,show bl x - n - 1+n=bl x - 1 by omega];exact h2))
 omega
theorem zN6 {x:Nat} (h:x≠0):bl (2*x+1)=bl x+1:=by
 have h1:=qV0 x;have h2:=qP6 h;have hb:=qW4 h;have a:bl (2*x+1)≤bl x+1:=(qJ8 _ _).2 (by rw[xC5];omega)
 have b:bl x+1≤bl (2*x+1):=xZ.2 (by
  have:2^bl x=2*2^(bl x - 1):=by rw[←Nat.pow_succ'];congr 1;omega
  omega)
 omega
theorem zT6 {x t:Nat} (h:1≤t):(2*x+1) / 2^t=x / 2^(t - 1):=by
 obtain⟨n,rfl⟩:∃ n,t=n+1:=⟨t - 1,by omega⟩
 rw[xE5,Nat.pow_succ',←xC0,show(2*x+1) / 2=x by omega]
theorem qF0 {s:Bool} {x:Nat} {e m:Int} (h:64≤bl x):tfF s false x e m=tfF s true (2*x+1) (e - 1) m:=by
 have hx0:x≠0:=fun e=>by rw[e] at h;simp[bl] at h
 have hb:=zN6 hx0;have hd:tfD (2*x+1)=tfD x+1:=by unfold tfD;omega
 unfold tfF;have hM:tfM true (2*x+1)=tfM false x:=by
  unfold tfM;rw[hd,zT6 (by omega),xE5,qO0 (show(2*x+1) % 2=1 by omega),xL4 (show 0<tfD x+1 by omega)]
  simp
 rw[hM,hd,show e - 1+((tfD x+1:Nat):Int)=e+(tfD x:Int) by omega]
theorem yP6 {s:Bool} {Z n:Nat} {E m:Int} (h:64≤bl (Z / 2^n)) (hr:Z % 2^n≠0):tfF s true Z E m=tfF s false (Z / 2^n) (E+n) m:=by
 have hn:0<n:=by
  rcases Nat.eq_zero_or_pos n with h0|h0
  ·rw[h0,xC7,Nat.mod_one] at hr;omega
  ·exact h0
 have hlt:n<bl Z:=Nat.lt_of_not_le fun hle=>by
  have:Z / 2^n=0:=Nat.div_eq_of_lt ((qJ8 _ _).1 hle)
  rw[this] at h;simp[bl] at h
 have hb:=xS9 hlt;have hZ0:Z≠0:=fun e=>by rw[e] at hlt;simp[bl] at hlt
 have hd:tfD Z=tfD (Z / 2^n)+n:=by unfold tfD;omega
 have hst:tz Z<tfD Z:=by
  refine(zT2 hZ0).2 fun e=>hr ?_
  have h1:2^n ∣ 2^tfD Z:=Nat.pow_dvd_pow 2 (by omega)
  exact Nat.mod_eq_zero_of_dvd (Nat.dvd_trans h1 (Nat.dvd_of_mod_eq_zero e))
 unfold tfF;have hM:tfM true Z=tfM false (Z / 2^n):=by
  unfold tfM;rw[xL4 hst,hd,xC0,←xC3,Nat.add_comm n];simp
 rw[hM,hd,show E+((tfD (Z / 2^n)+n:Nat):Int)=E+(n:Int)+(tfD (Z / 2^n):Int) by omega]
theorem xZ1 {x n:Nat} {e:Int} {way:Nat} (hw:way=0∨way=1∨way=2):bdy (x*2^n) e way=bdy x (e+n) way:=by
 by_cases h0:x=0
 ·subst h0;rw[Nat.zero_mul];unfold bdy;rw[if_pos rfl,if_pos rfl]
 have h1:x*2^n≠0:=Nat.mul_ne_zero h0 (by have:=xL5 n;omega)
 obtain⟨K,hK⟩:∃ K:Nat,K=1200+(64 - e).toNat+n:=⟨_,rfl⟩;have a:=qF7 (e:=e) h1 (K:=K) (by omega) (by omega) (way:=way)
 have b:=qF7 (e:=e+n) h0 (K:=K) (by omega) (by omega) (way:=way)
 have hv:x*2^n*2^(e+(K:Int)).toNat=x*2^(e+(n:Int)+(K:Int)).toNat:=by
  rw[xC6,←xC3,show n+(e+(K:Int)).toNat=(e+(n:Int)+(K:Int)).toNat by omega]
 have h2:=Rounds.mono hw a b (Nat.le_of_eq hv);have h3:=Rounds.mono hw b a (Nat.le_of_eq hv.symm);have h4:rwb (x*2^n) e way=rwb x (e+n) way:=Nat.le_antisymm h2 h3;unfold bdy;rw[if_neg h0,if_neg h1,h4]
theorem qO2 {s:Bool} {x n:Nat} {e m:Int} (hm:1≤m∧m≤3):tfF s true (x*2^n) e m=tfF s true x (e+n) m:=by
 rw[qM3 hm,qM3 hm,xZ1 (qE1 s m)]
theorem qT6 {s xf xc:Bool} {Qf Qc D:Nat} {E m:Int} (hm:1≤m∧m≤3) (hq:Qc=Qf / 2^D) (hx:xc=(xf&&decide (Qf % 2^D=0))) (h:64≤bl Qc):tfF s xf Qf E m=tfF s xc Qc (E+D) m:=by
 subst hq;cases xf
 ·rw[Bool.false_and] at hx;subst hx;have hle:bl (Qf / 2^D)≤bl Qf:=by
   have:=(qJ8 (Qf / 2^D) (bl Qf)).2 (xL9 (xW0 _ _) (qV0 Qf))
   exact this
  rw[qF0 (by omega)]
  have e1:(2*Qf+1) / 2^(D+1)=Qf / 2^D:=by rw[zT6 (by omega),xE5]
  have:=yP6 (s:=s) (Z:=2*Qf+1) (n:=D+1) (E:=E - 1) (m:=m) (by rw[e1];exact h) (fun h0=>by
   have h1:2 ∣ 2^(D+1):=⟨2^D,by rw[xC5,xC4]⟩
   have:=Nat.dvd_trans h1 (Nat.dvd_of_mod_eq_zero h0)
   omega)
  rw[this,e1,show E - 1+((D+1:Nat):Int)=E+D by omega]
 ·rw[Bool.true_and] at hx;subst hx;by_cases h0:Qf % 2^D=0
  ·rw[xL4 h0];have e1:Qf=Qf / 2^D*2^D:=by
    have:=Nat.div_add_mod Qf (2^D)
    rw[h0,Nat.add_zero,xC4] at this;exact this.symm
   conv=>lhs;rw[e1]
   exact qO2 hm
  ·rw[xL3 h0];exact yP6 h h0
theorem qL5 {N y D:Nat} (hy:y≠0):N / y=N*2^D / y / 2^D∧decide (N % y=0)=(decide (N*2^D % y=0)&&decide (N*2^D / y % 2^D=0)):=by
 have hp:0<2^D:=xL5 D;refine⟨by rw[xC0,Nat.mul_div_mul_right _ _ hp],?_⟩
 by_cases h:N % y=0
 ·obtain⟨c,hc⟩:=Nat.dvd_of_mod_eq_zero h;have e1:N*2^D=y*(c*2^D):=by rw[hc,xC6]
  rw[xL4 h,e1,Nat.mul_mod_right,Nat.mul_div_cancel_left _ (xW1 hy),Nat.mul_mod_left];rfl
 ·rw[xL3 h];by_cases h1:N*2^D % y=0
  ·by_cases h2:N*2^D / y % 2^D=0
   ·exfalso;obtain⟨c,hc⟩:=Nat.dvd_of_mod_eq_zero h1;rw[hc,Nat.mul_div_cancel_left _ (xW1 hy)] at h2;obtain⟨d,hd⟩:=Nat.dvd_of_mod_eq_zero h2;have e1:N*2^D=y*d*2^D:=by rw[hc,hd,xC6,xC4 d]
    have e2:N=y*d:=Nat.eq_of_mul_eq_mul_right hp e1;exact h (by rw[e2,Nat.mul_mod_right])
   ·rw[xL3 h2,Bool.and_false]
  ·rw[xL3 h1,Bool.false_and]
theorem yF5 {x y k j:Nat} (hy:y≠0):x*2^(k+j) / (y*2^j)=x*2^k / y∧decide (x*2^(k+j) % (y*2^j)=0)=decide (x*2^k % y=0):=by
 have hp:0<2^j:=xL5 j;rw[xC3,←xC6];refine⟨Nat.mul_div_mul_right _ _ hp,?_⟩
 rw[Nat.mul_mod_mul_right];refine decide_eq_decide.2 ?_;constructor
 ·intro h;rcases Nat.mul_eq_zero.1 h with h|h
  ·exact h
  ·omega
 ·intro h;rw[h,Nat.zero_mul]
theorem zH7 {s:Bool} {x y k:Nat} {ea eb P m:Int} (hm:1≤m∧m≤3) (hy:y≠0) (h1:64≤bl (x*2^k / y)) (h2:64≤bl (ovX x ea eb P / ovY y ea eb P)) :
  tfF s (decide (x*2^k % y=0)) (x*2^k / y) (ea - eb - k) m=tfF s (decide (ovX x ea eb P % ovY y ea eb P=0)) (ovX x ea eb P / ovY y ea eb P) (-P) m:=by
 by_cases hc:(k:Int)≤ea - eb+P
 ·obtain⟨D,hD⟩:∃ D:Nat,ea - eb+P=(k:Int)+D:=⟨(ea - eb+P - k).toNat,by omega⟩
  have hX:ovX x ea eb P=x*2^k*2^D:=by unfold ovX;rw[xC6,←xC3,show(ea+P - min (ea+P) eb).toNat=k+D by omega]
  have hY:ovY y ea eb P=y:=by unfold ovY;rw[show(eb - min (ea+P) eb).toNat=0 by omega,xC7,xE1]
  rw[hX,hY];have hf:=qL5 (N:=x*2^k) (y:=y) (D:=D) hy;have:=qT6 (s:=s) (E := -P) hm hf.1 hf.2 h1
  rw[this,show -P+(D:Int)=ea - eb - k by omega]
 ·by_cases hn:0≤ea - eb+P
  ·obtain⟨n0,hn0⟩:∃ n0:Nat,ea - eb+P=(n0:Int):=⟨(ea - eb+P).toNat,by omega⟩
   obtain⟨D,hD⟩:∃ D:Nat,k=n0+D:=⟨k - n0,by omega⟩
   have hX:ovX x ea eb P=x*2^n0:=by unfold ovX;rw[show(ea+P - min (ea+P) eb).toNat=n0 by omega]
   have hY:ovY y ea eb P=y:=by unfold ovY;rw[show(eb - min (ea+P) eb).toNat=0 by omega,xC7,xE1]
   rw[hX,hY] at h2 ⊢;have hN:x*2^k=x*2^n0*2^D:=by rw[hD,xC3,xC6]
   rw[hN] at h1 ⊢;have hf:=qL5 (N:=x*2^n0) (y:=y) (D:=D) hy;have:=qT6 (s:=s) (E:=ea - eb - k) hm hf.1 hf.2 h2
   rw[this,show ea - eb - (k:Int)+(D:Int) = -P by omega]
  ·obtain⟨j,hj⟩:∃ j:Nat,ea - eb+P = -(j:Int):=⟨(-(ea - eb+P)).toNat,by omega⟩
   have hX:ovX x ea eb P=x:=by unfold ovX;rw[show(ea+P - min (ea+P) eb).toNat=0 by omega,xC7,xE1]
   have hY:ovY y ea eb P=y*2^j:=by unfold ovY;rw[show(eb - min (ea+P) eb).toNat=j by omega]
   rw[hX,hY] at h2 ⊢;have hyj:y*2^j≠0:=Nat.mul_ne_zero hy (by have:=xL5 j;omega)
   have hf:=qL5 (N:=x) (y:=y*2^j) (D:=k+j) hyj;have hg:=yF5 (x:=x) (y:=y) (k:=k) (j:=j) hy;rw[hg.1,hg.2] at hf;have:=qT6 (s:=s) (E:=ea - eb - k) hm hf.1 hf.2 h2
   rw[this,show ea - eb - (k:Int)+((k+j:Nat):Int) = -P by omega]
theorem zL2 {s xe:Bool} {x y:Nat} {e f m:Int} (hm:1≤m∧m≤3) (hx:64≤bl x∨(xe=true∧x≠0)) (hy:y≠0) (h1:1024<(bl x:Int)+e) (h2:1024<(bl y:Int)+f):tfF s xe x e m=tfF s true y f m:=by
 have key:∀ z (g:Int),z≠0→1024<(bl z:Int)+g→tfF s true z g m=sig s (if wyN s m=0 then 9218868437227405311 else 9218868437227405312):=fun z g hz hg=>by rw[qM3 hm,yY3 hz hg (qE1 s m)]
 rw[key y f hy h2];cases xe
 ·have hb:64≤bl x:=hx.resolve_right (fun h=>by cases h.1)
  have hx0:x≠0:=fun e=>by rw[e] at hb;simp[bl] at hb
  rw[qF0 hb];exact key _ _ (by omega) (by rw[zN6 hx0];omega)
 ·rcases hx with hb|⟨-,hx0⟩
  ·exact key x e (fun e=>by rw[e] at hb;simp[bl] at hb) h1
  ·exact key x e hx0 h1
theorem qT5 {s xe:Bool} {x y:Nat} {e f m:Int} (hm:1≤m∧m≤3) (hx:64≤bl x∨(xe=true∧x≠0)) (hy:y≠0) (h1:(bl x:Int)+e < -1075) (h2:(bl y:Int)+f < -1075):tfF s xe x e m=tfF s true y f m:=by
 have key:∀ z (g:Int),z≠0→(bl z:Int)+g < -1075→tfF s true z g m=sig s (if wyN s m=2 then 1 else 0):=fun z g hz hg=>by rw[qM3 hm,zN8 hz hg (qE1 s m)]
 rw[key y f hy h2];cases xe
 ·have hb:64≤bl x:=hx.resolve_right (fun h=>by cases h.1)
  have hx0:x≠0:=fun e=>by rw[e] at hb;simp[bl] at hb
  rw[qF0 hb];exact key _ _ (by omega) (by rw[zN6 hx0];omega)
 ·rcases hx with hb|⟨-,hx0⟩
  ·exact key x e (fun e=>by rw[e] at hb;simp[bl] at hb) h1
  ·exact key x e hx0 h1
theorem yD2 {W:World} {base:Nat} {A:Value} {s:Bool} {z:Nat} {e m:Int} (h:NC W base A s z e) (hz:z≠0) (hl:dlen z≤30000) (he1 : -2000000≤e) (he2:e≤2000000) (hm:1≤m∧m≤3) :
  Calls Tryz.prog 96 #[A,.int .i64 m] W fun r w'=>r=.returned (.float .f64 (tfF s true z e m))∧Bw W w':=by
 obtain⟨ao,cap,rfl,hA,-⟩:=h;have hc:cn s z e=(s,z / 2^tz z,e+tz z):=by unfold cn;rw[if_neg hz]
 rw[hc] at hA ⊢;simp only at hA ⊢
 have hs:=qX0 z z (xL0 _) hz;have htz:tz z<bl z:=by
  have h3:2^tz z≤z:=by
   have h4:0<z / 2^tz z:=xW1 fun e=>by have:=hs.2;rw[e] at this;omega
   exact xW (Nat.le_mul_of_pos_right _ h4) (Nat.le_of_eq hs.1)
  exact(Nat.pow_lt_pow_iff_right (by omega)).1 (xL9 h3 (qV0 z))
 have hbl:=qY2 z;have hdl:dlen (z / 2^tz z)≤dlen z:=qZ3 (xW0 _ _);have:=rto (neg:=s) (ea:=e+tz z) (m:=m) hA.at_ hA.le hs.2 (by omega) (by omega) (by omega) hm
 rw[←qM3 hm] at this;have e1:tfF s true (z / 2^tz z) (e+tz z) m=tfF s true z e m:=by
  rw[←qO2 (x:=z / 2^tz z) (n:=tz z) (e:=e) hm,xC4,hs.1]
 rw[e1] at this;exact this
theorem yH4 {s:Bool} {z:Nat} {P:Int} (hz:s=true→z≠0):sumN (cn s z (-P)).1 (cn s z (-P)).2.1 (cn s z (-P)).2.2 false 1 (-(P+1))=(if z=0 then false else s,if s then 2*z - 1 else 2*z+1,-(P+1)):=by
 by_cases h0:z=0
 ·have hs:s=false:=by cases s with
   | false=>rfl
   | true=>exact absurd h0 (hz rfl)
  subst hs;subst h0;unfold cn;rw[if_pos rfl];unfold sumN;rw[if_pos rfl];simp
 ·have h2:=qX0 z z (xL0 _) h0;have e1:cn s z (-P)=(s,z / 2^tz z,-P+tz z):=by unfold cn;rw[if_neg h0]
  have h3:z / 2^tz z≠0:=fun e=>by have:=h2.2;rw[e] at this;omega
  have hz2:z / 2^tz z*2^(tz z+1)=2*z:=by rw[xC5,←xC6,xC4 (z / 2^tz z),h2.1,xC4]
  rw[e1];unfold sumN;simp only
  rw[if_neg h3,if_neg (by omega),show min (-P+(tz z:Int)) (-(P+1)) = -(P+1) by omega,show(-P+(tz z:Int) - -(P+1)).toNat=tz z+1 by omega,show(-(P+1) - -(P+1)).toNat=0 by omega,xC7,xE1,hz2,if_neg h0]
  cases s
  ·rw[if_pos rfl,if_neg (by decide)]
  ·rw[if_neg (by decide),if_neg (by omega),if_pos rfl]
theorem yU5 {W:World} {base:Nat} {A:Value} {s:Bool} {q:Nat} {P m:Int} {bx:Bool} (h:NC W base A s (if s && !bx then q+1 else q) (-P)) (hq:bx=true→q≠0) (hl:dlen q≤20000) (hP1 : -100000≤P) (hP2:P≤100000) (hm:1≤m∧m≤3) :
  Calls Tryz.prog 150 #[A,.bool bx,.int .i64 P,.int .i64 m] W fun r w'=>r=.returned (.float .f64 (if bx then tfF s true q (-P) m else tfF s true (2*q+1) (-(P+1)) m))∧Bw W w':=by
 obtain⟨s0,ao0,n0,cap0,e0,rfl⟩:=h.shape;cases bx
 ·rw[Bool.not_false,Bool.and_true] at h;rw[if_neg (by decide)]
  have hzl:dlen (if s then q+1 else q)≤20001:=by
   split
   ·exact xW (qR1 _) (by omega)
   ·omega
  refine xG s0 ao0 n0 cap0 _ e0 P m s (2*q+1) (-(P+1)) W (by omega) (by omega) (fun g W' hW' hA1=>?_) (fun W' A' hW' hN=>?_)
  ·obtain⟨ao,cap,e1,hA,-⟩:=h.later hW';rw[e1];obtain⟨z,hz⟩:∃ z,z=if s then q+1 else q:=⟨_,rfl⟩;rw[←hz] at hA hzl ⊢;have hcn:cn (cn s z (-P)).1 (cn s z (-P)).2.1 (cn s z (-P)).2.2=(cn s z (-P)):=by
    by_cases h0:z=0
    ·unfold cn;rw[if_pos h0,if_pos rfl]
    ·have h2:=(qX0 z z (xL0 _) h0).2;have:cn s z (-P)=(s,z / 2^tz z,-P+tz z):=by unfold cn;rw[if_neg h0]
     rw[this];exact zZ9 h2
   have hbnd : -2000000≤(cn s z (-P)).2.2∧(cn s z (-P)).2.2≤2000000:=by
    by_cases h0:z=0
    ·unfold cn;rw[if_pos h0];exact⟨by decide,by decide⟩
    ·have hs:=qX0 z z (xL0 _) h0;have htz:tz z<bl z:=by
      have h3:2^tz z≤z:=xW (Nat.le_mul_of_pos_right _ (xW1 fun e=>by have:=hs.2;rw[e] at this;omega)) (Nat.le_of_eq hs.1)
      exact(Nat.pow_lt_pow_iff_right (by omega)).1 (xL9 h3 (qV0 z))
     have hbl:=qY2 z;unfold cn;rw[if_neg h0];exact⟨by simp only;omega,by simp only;omega⟩
   have hone:Arg W' (some ⟨g,0,none⟩) (dlen 1) 1 1:=⟨fun h=>by rw[qK7] at h;omega,by rw[qK7];exact hA1,by rw[qK7];exact xL0 _,by rw[qK7];omega⟩
   have:=yD7 (na:=(cn s z (-P)).1) (nb:=false) (ea:=(cn s z (-P)).2.2) (eb := -(P+1)) hA hone hcn (zZ9 rfl) hbnd.1 hbnd.2 (by omega) (by omega) (xW xQ4 (by omega)) (by rw[qK7];omega)
   have hzs:s=true→z≠0:=fun e=>by rw[hz,e,if_pos rfl];omega
   rw[yH4 hzs,qK7] at this;refine this.mono ?_;rintro r w' ⟨a,rfl,hN,hb⟩;refine⟨a,rfl,?_,hb⟩
   have e2:(if s then 2*z - 1 else 2*z+1)=2*q+1:=by
    rw[hz];cases s
    ·rw[if_neg (by decide),if_neg (by decide)]
    ·rw[if_pos rfl,if_pos rfl];omega
   rw[e2] at hN;by_cases h0:z=0
   ·rw[if_pos h0] at hN;have hs:s=false:=by cases s with
     | false=>rfl
     | true=>exact absurd h0 (hzs rfl)
    rw[hs];exact hN
   ·rw[if_neg h0] at hN;exact hN
  ·refine yD2 hN (by omega) ?_ (by omega) (by omega) hm
   have h1:=qK3 q q;have h2:=qR1 (q+q);rw[show 2*q+1=q+q+1 by omega]
   omega
 ·rw[Bool.not_true,Bool.and_false,if_neg (by decide)] at h
  rw[if_pos rfl];exact xG0 s0 ao0 n0 cap0 _ e0 P m W (fun W' hW'=>yD2 (h.later hW') (hq rfl) (by omega) (by omega) (by omega) hm)
end Go.Proofs.YtbanebginnakhaaGreatDoor
namespace Go.Proofs.YtbanebginnakhaaGreatDoor
open Go.RowKit Go.Fl64
theorem yB3 (a m:Nat) (ha:a<18446744073709551616) (hf:mag a<9218868437227405312) (hm:Ie.sM a=(m:Int)):cn (neg a) m (Ie.sE a)=tF a:=by
 unfold tF cn;rcases yG1 a m ha hf hm with ⟨h1,h2⟩|⟨h1,h2,-,h3,h4⟩
 ·rw[if_pos h1,if_pos h2]
 ·rw[if_neg h1,if_neg h2,h3,h4]
theorem psign {t:Bool×Nat×Int} {A:Value} {w:World} (ok:Ok t) (h:PN w A t):Calls Tryz.prog 47 #[A] w fun r w'=>r=.returned (.int .i64 (sgI t.1 (dlen t.2.1)))∧Bw w w':=by
 obtain⟨ao,cap,rfl,h1⟩:=h;obtain⟨f1,-,-,-,-⟩:=ok.facts;exact yL4 h1 (by omega) ok
end Go.Proofs.YtbanebginnakhaaGreatDoor
namespace Go.Proofs.YtbanebginnakhaaGreatDoor
open Go Go.RowKit
end Go.Proofs.YtbanebginnakhaaGreatDoor
namespace Go.Proofs.YtbanebginnakhaaGreatDoor
open Go.RowKit Go.Fl64
end Go.Proofs.YtbanebginnakhaaGreatDoor
namespace Go.Proofs.YtbanebginnakhaaGreatDoor
open Go Go.RowKit Go.Fl64 Go.Shelf
attribute [local go_sem] Oper.semAt_some
attribute [local go_sem] Oper.semAt_some
end Go.Proofs.YtbanebginnakhaaGreatDoor
namespace Go.Proofs.YtbanebginnakhaaGreatDoor
open Go.RowKit Go.Fl64
end Go.Proofs.YtbanebginnakhaaGreatDoor
/- The library's contracts at this program that decim uses. -/
namespace Go.Proofs
open Go.Shelf
def Tryz.lays161_ren:Go.Shelf.Ren:=⟨fun|161=>158|231=>195|227=>70|233=>196|235=>197|228=>71|197=>222|151=>202|260=>234|152=>68|137=>110|119=>111|224=>112|225=>113|217=>165|266=>209|n=>n,fun|9=>9|4=>4|3=>3|5=>5|117=>110|116=>109|0=>0|124=>150|105=>204|21=>21|119=>247|46=>149|139=>250|138=>249|n=>n,fun|3=>7|4=>8|n=>n⟩
theorem Tryz.lays161:Go.Proofs.Lays.n161 Tryz.prog Tryz.lays161_ren:={
 mixed:=by kernel_rfl
 f119:=Tryz.func111.trans (congrArg some (by kernel_rfl))
 f137:=Tryz.func110.trans (congrArg some (by kernel_rfl))
 f151:=Tryz.func202.trans (congrArg some (by kernel_rfl))
 f152:=Tryz.func68.trans (congrArg some (by kernel_rfl))
 f161:=Tryz.func158.trans (congrArg some (by kernel_rfl))
 f197:=Tryz.func222.trans (congrArg some (by kernel_rfl))
 f217:=Tryz.func165.trans (congrArg some (by kernel_rfl))
 f224:=Tryz.func112.trans (congrArg some (by kernel_rfl))
 f225:=Tryz.func113.trans (congrArg some (by kernel_rfl))
 f227:=Tryz.func70.trans (congrArg some (by kernel_rfl))
 f228:=Tryz.func71.trans (congrArg some (by kernel_rfl))
 f231:=Tryz.func195.trans (congrArg some (by kernel_rfl))
 f233:=Tryz.func196.trans (congrArg some (by kernel_rfl))
 f235:=Tryz.func197.trans (congrArg some (by kernel_rfl))
 f260:=Tryz.func234.trans (congrArg some (by kernel_rfl))
 f266:=Tryz.func209.trans (congrArg some (by kernel_rfl))
 t0:=Tryz.underlying0
 a0:=Tryz.isAgg0
 z0:=Tryz.sizeOf0
 v0:=Tryz.zeroValue0
 t3:=Tryz.underlying3
 a3:=Tryz.isAgg3
 z3:=Tryz.sizeOf3
 v3:=Tryz.zeroValue3
 t4:=Tryz.underlying4
 a4:=Tryz.isAgg4
 z4:=Tryz.sizeOf4
 v4:=Tryz.zeroValue4
 t5:=Tryz.underlying5
 a5:=Tryz.isAgg5
 z5:=Tryz.sizeOf5
 v5:=Tryz.zeroValue5
 t9:=Tryz.underlying9
 a9:=Tryz.isAgg9
 z9:=Tryz.sizeOf9
 v9:=Tryz.zeroValue9
 t21:=Tryz.underlying21
 a21:=Tryz.isAgg21
 z21:=Tryz.sizeOf21
 v21:=Tryz.zeroValue21
 t46:=Tryz.underlying149
 a46:=Tryz.isAgg149
 z46:=Tryz.sizeOf149
 v46:=Tryz.zeroValue149
 t105:=Tryz.underlying204
 a105:=Tryz.isAgg204
 z105:=Tryz.sizeOf204
 v105:=Tryz.zeroValue204
 t116:=Tryz.underlying109
 a116:=Tryz.isAgg109
 z116:=Tryz.sizeOf109
 t117:=Tryz.underlying110
 a117:=Tryz.isAgg110
 z117:=Tryz.sizeOf110
 v117:=Tryz.zeroValue110
 t119:=Tryz.underlying247
 a119:=Tryz.isAgg247
 z119:=Tryz.sizeOf247
 t124:=Tryz.underlying150
 a124:=Tryz.isAgg150
 z124:=Tryz.sizeOf150
 v124:=Tryz.zeroValue150
 t138:=Tryz.underlying249
 a138:=Tryz.isAgg249
 z138:=Tryz.sizeOf249
 v138:=Tryz.zeroValue249
 t139:=Tryz.underlying250
 a139:=Tryz.isAgg250
 z139:=Tryz.sizeOf250
 v139:=Tryz.zeroValue250
 g3:=by kernel_rfl
 g4:=by kernel_rfl }
open Go.RowKit in
theorem Tryz.strings_TrimLeft_one (s:ByteArray) (c:UInt8) (hc:c.toNat<128) (w:World) :
  Calls Tryz.prog 158 #[.string s,.string ⟨#[c]⟩] w fun e w'=>e=.returned (.string ⟨(Lib.trimLeftB s.data.toList c).toArray⟩)∧w'=w:=Any.strings_TrimLeft_one Tryz.lays161 s c hc w
def Tryz.lays162_ren:Go.Shelf.Ren:=⟨fun|162=>107|232=>160|227=>70|234=>161|236=>162|228=>71|271=>201|151=>202|120=>225|197=>222|152=>68|260=>234|137=>110|119=>111|224=>112|225=>113|217=>165|266=>209|n=>n,fun|9=>9|4=>4|3=>3|5=>5|117=>110|116=>109|0=>0|124=>150|21=>21|105=>204|46=>149|119=>247|139=>250|138=>249|n=>n,fun|3=>7|4=>8|n=>n⟩
theorem Tryz.lays162:Go.Proofs.Lays.n162 Tryz.prog Tryz.lays162_ren:={
 mixed:=by kernel_rfl
 f119:=Tryz.func111.trans (congrArg some (by kernel_rfl))
 f120:=Tryz.func225.trans (congrArg some (by kernel_rfl))
 f137:=Tryz.func110.trans (congrArg some (by kernel_rfl))
 f151:=Tryz.func202.trans (congrArg some (by kernel_rfl))
 f152:=Tryz.func68.trans (congrArg some (by kernel_rfl))
 f162:=Tryz.func107.trans (congrArg some (by kernel_rfl))
 f197:=Tryz.func222.trans (congrArg some (by kernel_rfl))
 f217:=Tryz.func165.trans (congrArg some (by kernel_rfl))
 f224:=Tryz.func112.trans (congrArg some (by kernel_rfl))
 f225:=Tryz.func113.trans (congrArg some (by kernel_rfl))
 f227:=Tryz.func70.trans (congrArg some (by kernel_rfl))
 f228:=Tryz.func71.trans (congrArg some (by kernel_rfl))
 f232:=Tryz.func160.trans (congrArg some (by kernel_rfl))
 f234:=Tryz.func161.trans (congrArg some (by kernel_rfl))
 f236:=Tryz.func162.trans (congrArg some (by kernel_rfl))
 f260:=Tryz.func234.trans (congrArg some (by kernel_rfl))
 f266:=Tryz.func209.trans (congrArg some (by kernel_rfl))
 f271:=Tryz.func201.trans (congrArg some (by kernel_rfl))
 t0:=Tryz.underlying0
 a0:=Tryz.isAgg0
 z0:=Tryz.sizeOf0
 v0:=Tryz.zeroValue0
 t3:=Tryz.underlying3
 a3:=Tryz.isAgg3
 z3:=Tryz.sizeOf3
 v3:=Tryz.zeroValue3
 t4:=Tryz.underlying4
 a4:=Tryz.isAgg4
 z4:=Tryz.sizeOf4
 v4:=Tryz.zeroValue4
 t5:=Tryz.underlying5
 a5:=Tryz.isAgg5
 z5:=Tryz.sizeOf5
 v5:=Tryz.zeroValue5
 t9:=Tryz.underlying9
 a9:=Tryz.isAgg9
 z9:=Tryz.sizeOf9
 v9:=Tryz.zeroValue9
 t21:=Tryz.underlying21
 a21:=Tryz.isAgg21
 z21:=Tryz.sizeOf21
 v21:=Tryz.zeroValue21
 t46:=Tryz.underlying149
 a46:=Tryz.isAgg149
 z46:=Tryz.sizeOf149
 v46:=Tryz.zeroValue149
 t105:=Tryz.underlying204
 a105:=Tryz.isAgg204
 z105:=Tryz.sizeOf204
 v105:=Tryz.zeroValue204
 t116:=Tryz.underlying109
 a116:=Tryz.isAgg109
 z116:=Tryz.sizeOf109
 t117:=Tryz.underlying110
 a117:=Tryz.isAgg110
 z117:=Tryz.sizeOf110
 v117:=Tryz.zeroValue110
 t119:=Tryz.underlying247
 a119:=Tryz.isAgg247
 z119:=Tryz.sizeOf247
 t124:=Tryz.underlying150
 a124:=Tryz.isAgg150
 z124:=Tryz.sizeOf150
 v124:=Tryz.zeroValue150
 t138:=Tryz.underlying249
 a138:=Tryz.isAgg249
 z138:=Tryz.sizeOf249
 v138:=Tryz.zeroValue249
 t139:=Tryz.underlying250
 a139:=Tryz.isAgg250
 z139:=Tryz.sizeOf250
 v139:=Tryz.zeroValue250
 g3:=by kernel_rfl
 g4:=by kernel_rfl }
open Go.RowKit in
theorem Tryz.strings_TrimRight_one (s:ByteArray) (c:UInt8) (hc:c.toNat<128) (w:World) (hs:s.size≤9223372036854775807) :
  Calls Tryz.prog 107 #[.string s,.string ⟨#[c]⟩] w fun e w'=>e=.returned (.string ⟨(Lib.trimRightB s.data.toList c).toArray⟩)∧w'=w:=Any.strings_TrimRight_one Tryz.lays162 s c hc w hs
def Tryz.lays119_ren:Go.Shelf.Ren:=⟨fun|119=>111|n=>n,fun|21=>21|4=>4|n=>n,fun|n=>n⟩
theorem Tryz.lays119:Go.Proofs.Lays.n119 Tryz.prog Tryz.lays119_ren:={
 mixed:=by kernel_rfl
 f119:=Tryz.func111.trans (congrArg some (by kernel_rfl))
 t4:=Tryz.underlying4
 a4:=Tryz.isAgg4
 z4:=Tryz.sizeOf4
 v4:=Tryz.zeroValue4
 t21:=Tryz.underlying21
 a21:=Tryz.isAgg21
 z21:=Tryz.sizeOf21
 v21:=Tryz.zeroValue21 }
theorem Tryz.utf8_ValidRune (r:Int) (w:World) :
  Calls Tryz.prog 111 #[.int .i32 r] w fun e w'=>e=.returned (.bool (Lib.validRune r))∧w'=w:=Any.utf8_ValidRune Tryz.lays119 r w
def Tryz.lays137_ren:Go.Shelf.Ren:=⟨fun|137=>110|217=>165|266=>209|n=>n,fun|9=>9|5=>5|3=>3|n=>n,fun|n=>n⟩
theorem Tryz.lays137:Go.Proofs.Lays.n137 Tryz.prog Tryz.lays137_ren:={
 mixed:=by kernel_rfl
 f137:=Tryz.func110.trans (congrArg some (by kernel_rfl))
 f217:=Tryz.func165.trans (congrArg some (by kernel_rfl))
 f266:=Tryz.func209.trans (congrArg some (by kernel_rfl))
 t3:=Tryz.underlying3
 a3:=Tryz.isAgg3
 z3:=Tryz.sizeOf3
 v3:=Tryz.zeroValue3
 t5:=Tryz.underlying5
 a5:=Tryz.isAgg5
 z5:=Tryz.sizeOf5
 v5:=Tryz.zeroValue5
 t9:=Tryz.underlying9
 a9:=Tryz.isAgg9
 z9:=Tryz.sizeOf9
 v9:=Tryz.zeroValue9 }
open Go.RowKit in
theorem Tryz.strings_IndexByte (s:ByteArray) (c:Int) (w:World) :
  Calls Tryz.prog 110 #[.string s,.int .u8 c] w fun e w'=>e=.returned (.int .i64 (Lib.indexByte s.data.toList c.toNat.toUInt8))∧w'=w:=Any.strings_IndexByte Tryz.lays137 s c w
def Tryz.lays219_ren:Go.Shelf.Ren:=⟨fun|219=>114|217=>165|225=>113|224=>112|267=>166|266=>209|314=>210|n=>n,fun|9=>9|3=>3|4=>4|5=>5|46=>149|146=>217|51=>50|n=>n,fun|1=>1|n=>n⟩
theorem Tryz.lays219:Go.Proofs.Lays.n219 Tryz.prog Tryz.lays219_ren:={
 mixed:=by kernel_rfl
 f217:=Tryz.func165.trans (congrArg some (by kernel_rfl))
 f219:=Tryz.func114.trans (congrArg some (by kernel_rfl))
 f224:=Tryz.func112.trans (congrArg some (by kernel_rfl))
 f225:=Tryz.func113.trans (congrArg some (by kernel_rfl))
 f266:=Tryz.func209.trans (congrArg some (by kernel_rfl))
 f267:=Tryz.func166.trans (congrArg some (by kernel_rfl))
 f314:=Tryz.func210.trans (congrArg some (by kernel_rfl))
 t3:=Tryz.underlying3
 a3:=Tryz.isAgg3
 z3:=Tryz.sizeOf3
 v3:=Tryz.zeroValue3
 t4:=Tryz.underlying4
 a4:=Tryz.isAgg4
 z4:=Tryz.sizeOf4
 v4:=Tryz.zeroValue4
 t5:=Tryz.underlying5
 a5:=Tryz.isAgg5
 z5:=Tryz.sizeOf5
 v5:=Tryz.zeroValue5
 t9:=Tryz.underlying9
 a9:=Tryz.isAgg9
 z9:=Tryz.sizeOf9
 v9:=Tryz.zeroValue9
 t46:=Tryz.underlying149
 a46:=Tryz.isAgg149
 z46:=Tryz.sizeOf149
 v46:=Tryz.zeroValue149
 t51:=Tryz.underlying50
 a51:=Tryz.isAgg50
 z51:=Tryz.sizeOf50
 v51:=Tryz.zeroValue50
 t146:=Tryz.underlying217
 a146:=Tryz.isAgg217
 z146:=Tryz.sizeOf217
 v146:=Tryz.zeroValue217
 g1:=by kernel_rfl }
open Go.RowKit Go.Lib in
theorem Tryz.stringslite_Index_one (s:ByteArray) (c:UInt8) (w:World) :
  Calls Tryz.prog 114 #[.string s,.string ⟨#[c]⟩] w fun e w'=>e=.returned (.int .i64 (Lib.indexByte s.data.toList c))∧w'=w:=Any.stringslite_Index_one Tryz.lays219 s c w
def Tryz.lays99_ren:Go.Shelf.Ren:=⟨fun|99=>41|206=>67|n=>n,fun|9=>9|4=>4|3=>3|n=>n,fun|n=>n⟩
theorem Tryz.lays99:Go.Proofs.Lays.n99 Tryz.prog Tryz.lays99_ren:={
 mixed:=by kernel_rfl
 f99:=Tryz.func41.trans (congrArg some (by kernel_rfl))
 f206:=Tryz.func67.trans (congrArg some (by kernel_rfl))
 t3:=Tryz.underlying3
 a3:=Tryz.isAgg3
 z3:=Tryz.sizeOf3
 v3:=Tryz.zeroValue3
 t4:=Tryz.underlying4
 a4:=Tryz.isAgg4
 z4:=Tryz.sizeOf4
 v4:=Tryz.zeroValue4
 t9:=Tryz.underlying9
 a9:=Tryz.isAgg9
 z9:=Tryz.sizeOf9
 v9:=Tryz.zeroValue9 }
open Go.RowKit Go.Lib in
theorem Tryz.strings_HasPrefix (s p:ByteArray) (w:World) :
  Calls Tryz.prog 41 #[.string s,.string p] w fun e w'=>e=.returned (.bool (Lib.hasPrefix s.data.toList p.data.toList))∧w'=w:=Any.strings_HasPrefix Tryz.lays99 s p w
def Tryz.lays152_ren:Go.Shelf.Ren:=⟨fun|152=>68|137=>110|119=>111|224=>112|225=>113|217=>165|266=>209|n=>n,fun|9=>9|21=>21|3=>3|4=>4|5=>5|0=>0|46=>149|n=>n,fun|n=>n⟩
theorem Tryz.lays152:Go.Proofs.Lays.n152 Tryz.prog Tryz.lays152_ren:={
 mixed:=by kernel_rfl
 f119:=Tryz.func111.trans (congrArg some (by kernel_rfl))
 f137:=Tryz.func110.trans (congrArg some (by kernel_rfl))
 f152:=Tryz.func68.trans (congrArg some (by kernel_rfl))
 f217:=Tryz.func165.trans (congrArg some (by kernel_rfl))
 f224:=Tryz.func112.trans (congrArg some (by kernel_rfl))
 f225:=Tryz.func113.trans (congrArg some (by kernel_rfl))
 f266:=Tryz.func209.trans (congrArg some (by kernel_rfl))
 t0:=Tryz.underlying0
 a0:=Tryz.isAgg0
 z0:=Tryz.sizeOf0
 v0:=Tryz.zeroValue0
 t3:=Tryz.underlying3
 a3:=Tryz.isAgg3
 z3:=Tryz.sizeOf3
 v3:=Tryz.zeroValue3
 t4:=Tryz.underlying4
 a4:=Tryz.isAgg4
 z4:=Tryz.sizeOf4
 v4:=Tryz.zeroValue4
 t5:=Tryz.underlying5
 a5:=Tryz.isAgg5
 z5:=Tryz.sizeOf5
 v5:=Tryz.zeroValue5
 t9:=Tryz.underlying9
 a9:=Tryz.isAgg9
 z9:=Tryz.sizeOf9
 v9:=Tryz.zeroValue9
 t21:=Tryz.underlying21
 a21:=Tryz.isAgg21
 z21:=Tryz.sizeOf21
 v21:=Tryz.zeroValue21
 t46:=Tryz.underlying149
 a46:=Tryz.isAgg149
 z46:=Tryz.sizeOf149
 v46:=Tryz.zeroValue149 }
open Go.RowKit Go.Lib in
theorem Tryz.strings_IndexRune_ascii (s:ByteArray) (r:Int) (w:World) (h0:0≤r) (h1:r<128) :
  Calls Tryz.prog 68 #[.string s,.int .i32 r] w fun e w'=>e=.returned (.int .i64 (Lib.indexByte s.data.toList r.toNat.toUInt8))∧w'=w:=Any.strings_IndexRune_ascii Tryz.lays152 s r w h0 h1
def Tryz.lays226_ren:Go.Shelf.Ren:=⟨fun|226=>69|n=>n,fun|3=>3|4=>4|n=>n,fun|n=>n⟩
theorem Tryz.lays226:Go.Proofs.Lays.n226 Tryz.prog Tryz.lays226_ren:={
 mixed:=by kernel_rfl
 f226:=Tryz.func69.trans (congrArg some (by kernel_rfl))
 t3:=Tryz.underlying3
 a3:=Tryz.isAgg3
 z3:=Tryz.sizeOf3
 v3:=Tryz.zeroValue3
 t4:=Tryz.underlying4
 a4:=Tryz.isAgg4
 z4:=Tryz.sizeOf4
 v4:=Tryz.zeroValue4 }
open Go.RowKit Go.Lib in
theorem Tryz.strings_shouldUseASCIISet (n:Int) (w:World) :
  Calls Tryz.prog 69 #[.int .i64 n] w fun e w'=>e=.returned (.bool (decide (8<n)))∧w'=w:=Any.strings_shouldUseASCIISet Tryz.lays226 n w
def Tryz.lays153_ren:Go.Shelf.Ren:=⟨fun|153=>42|152=>68|226=>69|227=>70|228=>71|137=>110|119=>111|224=>112|225=>113|217=>165|266=>209|n=>n,fun|9=>9|3=>3|4=>4|5=>5|21=>21|117=>110|116=>109|0=>0|46=>149|124=>150|n=>n,fun|n=>n⟩
theorem Tryz.lays153:Go.Proofs.Lays.n153 Tryz.prog Tryz.lays153_ren:={
 mixed:=by kernel_rfl
 f119:=Tryz.func111.trans (congrArg some (by kernel_rfl))
 f137:=Tryz.func110.trans (congrArg some (by kernel_rfl))
 f152:=Tryz.func68.trans (congrArg some (by kernel_rfl))
 f153:=Tryz.func42.trans (congrArg some (by kernel_rfl))
 f217:=Tryz.func165.trans (congrArg some (by kernel_rfl))
 f224:=Tryz.func112.trans (congrArg some (by kernel_rfl))
 f225:=Tryz.func113.trans (congrArg some (by kernel_rfl))
 f226:=Tryz.func69.trans (congrArg some (by kernel_rfl))
 f227:=Tryz.func70.trans (congrArg some (by kernel_rfl))
 f228:=Tryz.func71.trans (congrArg some (by kernel_rfl))
 f266:=Tryz.func209.trans (congrArg some (by kernel_rfl))
 t0:=Tryz.underlying0
 a0:=Tryz.isAgg0
 z0:=Tryz.sizeOf0
 v0:=Tryz.zeroValue0
 t3:=Tryz.underlying3
 a3:=Tryz.isAgg3
 z3:=Tryz.sizeOf3
 v3:=Tryz.zeroValue3
 t4:=Tryz.underlying4
 a4:=Tryz.isAgg4
 z4:=Tryz.sizeOf4
 v4:=Tryz.zeroValue4
 t5:=Tryz.underlying5
 a5:=Tryz.isAgg5
 z5:=Tryz.sizeOf5
 v5:=Tryz.zeroValue5
 t9:=Tryz.underlying9
 a9:=Tryz.isAgg9
 z9:=Tryz.sizeOf9
 v9:=Tryz.zeroValue9
 t21:=Tryz.underlying21
 a21:=Tryz.isAgg21
 z21:=Tryz.sizeOf21
 v21:=Tryz.zeroValue21
 t46:=Tryz.underlying149
 a46:=Tryz.isAgg149
 z46:=Tryz.sizeOf149
 v46:=Tryz.zeroValue149
 t116:=Tryz.underlying109
 a116:=Tryz.isAgg109
 z116:=Tryz.sizeOf109
 t117:=Tryz.underlying110
 a117:=Tryz.isAgg110
 z117:=Tryz.sizeOf110
 v117:=Tryz.zeroValue110
 t124:=Tryz.underlying150
 a124:=Tryz.isAgg150
 z124:=Tryz.sizeOf150
 v124:=Tryz.zeroValue150 }
open Go.RowKit Go.Lib in
theorem Tryz.strings_IndexAny_short (s chars:ByteArray) (w:World) (h2:2≤chars.size) (h8:s.size≤8) (hascii:∀ (j:Nat) b,s.data.toList[j]?=some b→b.toNat<128) :
  Calls Tryz.prog 42 #[.string s,.string chars] w fun e w'=>e=.returned (.int .i64 (Lib.indexAny s.data.toList chars.data.toList))∧∃ pos,w'=w.iter s pos:=Any.strings_IndexAny_short Tryz.lays153 s chars w h2 h8 hascii
open Go.RowKit Go.Lib in
theorem Tryz.strings_IndexAny_long (hv116:∀ w,(zeroValue 109).run Tryz.prog w=.ok (.agg (Array.replicate 256 (.bool false))) w) (s chars:ByteArray) (w:World) (h2:2≤chars.size) (h8:8<s.size) (hs:s.size<4294967281) (hcs:chars.size<4294967281) (hascii:∀ (j:Nat) b,chars.data.toList[j]?=some b→b.toNat<128) :
  Calls Tryz.prog 42 #[.string s,.string chars] w fun e w'=>e=.returned (.int .i64 (Lib.indexAny s.data.toList chars.data.toList))∧w'=((w.alloc (.cells (Lib.setCells chars.data.toList) 109)).alloc (.cells (Lib.setCells chars.data.toList) 109)):=Any.strings_IndexAny_long Tryz.lays153 hv116 (by kernel_rfl) s chars w h2 h8 hs hcs hascii
def Tryz.lays105_ren:Go.Shelf.Ren:=⟨fun|105=>164|212=>204|99=>41|165=>205|166=>206|170=>207|169=>208|263=>230|264=>231|206=>67|240=>232|241=>233|276=>240|277=>241|n=>n,fun|9=>9|3=>3|4=>4|20=>20|0=>0|46=>149|109=>208|5=>5|72=>212|76=>214|51=>50|146=>217|53=>72|148=>180|70=>210|37=>129|75=>114|127=>236|164=>244|80=>106|n=>n,fun|n=>n⟩
theorem Tryz.lays105:Go.Proofs.Lays.n105 Tryz.prog Tryz.lays105_ren:={
 mixed:=by kernel_rfl
 f99:=Tryz.func41.trans (congrArg some (by kernel_rfl))
 f105:=Tryz.func164.trans (congrArg some (by kernel_rfl))
 f165:=Tryz.func205.trans (congrArg some (by kernel_rfl))
 f166:=Tryz.func206.trans (congrArg some (by kernel_rfl))
 f169:=Tryz.func208.trans (congrArg some (by kernel_rfl))
 f170:=Tryz.func207.trans (congrArg some (by kernel_rfl))
 f206:=Tryz.func67.trans (congrArg some (by kernel_rfl))
 f212:=Tryz.func204.trans (congrArg some (by kernel_rfl))
 f240:=Tryz.func232.trans (congrArg some (by kernel_rfl))
 f241:=Tryz.func233.trans (congrArg some (by kernel_rfl))
 f263:=Tryz.func230.trans (congrArg some (by kernel_rfl))
 f264:=Tryz.func231.trans (congrArg some (by kernel_rfl))
 f276:=Tryz.func240.trans (congrArg some (by kernel_rfl))
 f277:=Tryz.func241.trans (congrArg some (by kernel_rfl))
 t0:=Tryz.underlying0
 a0:=Tryz.isAgg0
 z0:=Tryz.sizeOf0
 v0:=Tryz.zeroValue0
 t3:=Tryz.underlying3
 a3:=Tryz.isAgg3
 z3:=Tryz.sizeOf3
 v3:=Tryz.zeroValue3
 t4:=Tryz.underlying4
 a4:=Tryz.isAgg4
 z4:=Tryz.sizeOf4
 v4:=Tryz.zeroValue4
 t5:=Tryz.underlying5
 a5:=Tryz.isAgg5
 z5:=Tryz.sizeOf5
 v5:=Tryz.zeroValue5
 t9:=Tryz.underlying9
 a9:=Tryz.isAgg9
 z9:=Tryz.sizeOf9
 v9:=Tryz.zeroValue9
 t20:=Tryz.underlying20
 a20:=Tryz.isAgg20
 z20:=Tryz.sizeOf20
 v20:=Tryz.zeroValue20
 t37:=Tryz.underlying129
 a37:=Tryz.isAgg129
 z37:=Tryz.sizeOf129
 v37:=Tryz.zeroValue129
 t46:=Tryz.underlying149
 a46:=Tryz.isAgg149
 z46:=Tryz.sizeOf149
 v46:=Tryz.zeroValue149
 t51:=Tryz.underlying50
 a51:=Tryz.isAgg50
 z51:=Tryz.sizeOf50
 v51:=Tryz.zeroValue50
 t53:=Tryz.underlying72
 a53:=Tryz.isAgg72
 z53:=Tryz.sizeOf72
 v53:=Tryz.zeroValue72
 t70:=Tryz.underlying210
 a70:=Tryz.isAgg210
 z70:=Tryz.sizeOf210
 v70:=Tryz.zeroValue210
 t72:=Tryz.underlying212
 a72:=Tryz.isAgg212
 z72:=Tryz.sizeOf212
 v72:=Tryz.zeroValue212
 t75:=Tryz.underlying114
 a75:=Tryz.isAgg114
 z75:=Tryz.sizeOf114
 v75:=Tryz.zeroValue114
 t76:=Tryz.underlying214
 a76:=Tryz.isAgg214
 z76:=Tryz.sizeOf214
 v76:=Tryz.zeroValue214
 t109:=Tryz.underlying208
 a109:=Tryz.isAgg208
 z109:=Tryz.sizeOf208
 v109:=Tryz.zeroValue208
 t127:=Tryz.underlying236
 a127:=Tryz.isAgg236
 z127:=Tryz.sizeOf236
 v127:=Tryz.zeroValue236
 t146:=Tryz.underlying217
 a146:=Tryz.isAgg217
 z146:=Tryz.sizeOf217
 v146:=Tryz.zeroValue217
 t148:=Tryz.underlying180
 a148:=Tryz.isAgg180
 z148:=Tryz.sizeOf180
 v148:=Tryz.zeroValue180
 t164:=Tryz.underlying244
 a164:=Tryz.isAgg244
 z164:=Tryz.sizeOf244
 v164:=Tryz.zeroValue244 }
theorem Tryz.Builder_Extra_105:Builder.Extra Tryz.prog Tryz.lays105_ren:={
 sizeBuilder:=by kernel_rfl
 liesBuilder:=by kernel_rfl
 t5:=Tryz.underlying5
 a5:=Tryz.isAgg5
 z5:=Tryz.sizeOf5
 v5:=Tryz.zeroValue5
 infoByte:=by kernel_rfl
 cellsByte:=by kernel_rfl
 sizeByte:=by kernel_rfl
 neB5:=by decide }
open Go.RowKit Go.Lib in
theorem Tryz.strings_Repeat (s:ByteArray) (c:Nat) (w:World) (hc:c≤9223372036854775807) (hlen:s.size*c≤140737488355328) :
  Calls Tryz.prog 164 #[.string s,.int .i64 c] w fun e w'=>e=.returned (.string ⟨(Lib.repeatL s.data.toList c).toArray⟩)∧Go.Proofs.YtbanebginnakhaaGreatDoor.Bw w w':=Any.strings_Repeat Tryz.lays105 Tryz.Builder_Extra_105 s c w hc hlen
end Go.Proofs
namespace Go.Proofs.YtbanebginnakhaaGreatDoor
open Go.RowKit
end Go.Proofs.YtbanebginnakhaaGreatDoor
