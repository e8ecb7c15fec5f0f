/- Own work: contracts of the program's functions, part 9: RT3 RT7 RY1 RY2 RY3 RY4 FM6 FM7 FM8 RY5 SA7 SA8 SA9 UA1 UA2 UA3 UA4 UA5 UA6 UA7 SB1 SB2 SB3 SC1 RY6 SC2 RE1 RE3 RE4 RY7 SD1 SD2 UA8 UA9 UB1 UB2 UB3 SB4 SB5 SH5. -/
import Derived.Test.YtjiolfnchiioaaaGreatDoorA8
import Derived.Test.YtjiolfnchiioaaaGreatDoorA7
import Derived.Deep.CutBlock
import Derived.Test.YtjiolfnchiioaaaGreatDoorA6
import Derived.RangeFuncNested
import Derived.RangeFuncBound
import Derived.RangeFuncCalls
import Derived.RangeFuncLeaves
import Derived.Test.YtjiolfnchiioaaaGreatDoorA2
import Derived.Shelf.Abstract
import Derived.Shelf.RegionOpen
import Derived.WalkKit
import Derived.OwnWalkIn
import Derived.TacticsInMore
import Derived.LoopNIn
import Derived.LoopIn
import Derived.Test.YtjiolfnchiioaaaGreatDoorA4
import Derived.Test.YtjiolfnchiioaaaGreatDoorA3

set_option maxHeartbeats 16000000
set_option maxRecDepth 200000
set_option linter.unusedVariables false
set_option linter.unusedSimpArgs false
namespace Go.Proofs.YtjiolfnchiioaaaGreatDoor
open Go.RowKit Go.Fl64
open Ie
theorem below_drewN3 {g:Nat} {a b:World} (h:Below g a b) (n:Nat):Below g a (b.drewN n):=h.trans ⟨rfl,rfl,rfl,Nat.le_refl _,fun _ _=>rfl⟩
theorem and1_32 {d X:Nat} (h:d=X % B):(bits BinOp.and IntKind.u32 (d:Int) 1==1)=(X % 2==1):=by
 have hB:B=4294967296:=rfl
 have h2:=u32_and_nat d 1 (by rw[h,hB];omega) (by decide)
 rw[show((1:Nat):Int)=1 from rfl] at h2
 rw[h2,Nat.and_one_is_mod,h,show X % B % 2=X % 2 by rw[hB];omega]
 rcases Nat.mod_two_eq_zero_or_one X with h|h <;> rw[h] <;> rfl
theorem and1_64 {X:Nat} (h:X<9007199254740992):(bits BinOp.and IntKind.u64 (X:Int) 1==1)=(X % 2==1):=by
 have h2:=u64_and_nat X 1 (by omega) (by decide)
 rw[show((1:Nat):Int)=1 from rfl] at h2
 rw[h2,Nat.and_one_is_mod]
 rcases Nat.mod_two_eq_zero_or_one X with h|h <;> rw[h] <;> rfl
theorem q53 {e:Int} (h : -1074≤e):Hid ((e+1+1074).toNat*4503599627370496+4503599627370496=(e+1074).toNat*4503599627370496+(9007199254740991+1)):=by
 have h1:(e+1+1074).toNat=(e+1074).toNat+1:=by omega
 show _=_
 rw[h1];omega
theorem neq53 {n:Nat} (h:n≠9007199254740992):((n:Int)==9007199254740992)=false:=by
 have:((n:Nat):Int)≠9007199254740992:=by omega
 simpa using this
theorem tE_max (x:Nat) (E:Int):max ((bl x:Int)+E - 53) (-1074)=tE x E:=by unfold tE;split <;> omega
theorem kdn {w:World} {ua:Option Addr} {uc x:Nat} (h:At w ua (dlen x) x) (hc:dlen x≤uc) (hl:dlen x≤100000) {i:Int} {k:Nat} (hi:i=(k:Int)) (hk:k≤10000000) :
  ∀ W,Bw w W→Calls Tryz.prog 70 #[.slice ua (dlen x) uc,.int .i64 i] W fun r w'=>∃ ao n cap,r=.returned (.tuple #[.slice ao n cap,.bool (decide (x % 2^k=0))])∧Ir w' (.slice ao n cap) (x / 2^k)∧Bw W w':=by
 intro W hW
 subst hi
 refine(rdown (v:=.slice ua (dlen x) uc) (⟨ua,uc,rfl,hc,h.later hW⟩:Ir W _ x) k (by omega) (by omega)).mono ?_
 rintro r w' ⟨ao,cap',rfl,hA,hc',hB⟩
 exact⟨_,_,_,rfl,⟨ao,cap',rfl,hc',hA⟩,hB⟩
theorem rto {neg:Bool} {ua:Option Addr} {uc x:Nat} {ea m:Int} {w:World} (h:At w ua (dlen x) x) (hc:dlen x≤uc) (hodd:x % 2=1) (hl:dlen x≤100000) (he1 : -4000000≤ea) (he2:ea≤4000000) (hm:1≤m∧m≤3) :
  Calls Tryz.prog 40 #[.agg #[.bool neg,.slice ua (dlen x) uc,.int .i64 ea],.int .i64 m] w fun r w'=>r=.returned (.float .f64 (sig neg (bdy x ea (wyN neg m))))∧Bw w w':=by
 have h0:x≠0:=by omega
 have hn0:((dlen x:Int)==0)=false:=len_ne (n:=0) h0
 have hbl:bl x≤32*dlen x:=bl_le_dlen x
 have hb1:=bl_ne h0
 obtain⟨ow,how⟩:∃ ow:Bool,(m==3 && !neg||m==1&&neg)=ow:=⟨_,rfl⟩
 obtain⟨nr,hnr⟩:∃ nr:Bool,(m==2)=nr:=⟨_,rfl⟩
 obtain⟨wy,hwy⟩:∃ y,wyN neg m=y:=⟨_,rfl⟩
 have hm3:m=1∨m=2∨m=3:=by omega
 have hY:wy=0∧nr=false∧ow=false∨wy=1∧nr=true∧ow=false∨wy=2∧nr=false∧ow=true:=by
  rcases hm3 with rfl|rfl|rfl <;> cases neg <;> subst how hnr hwy <;> simp[wyN]
 rw[hwy]
 have hw:wy=0∨wy=1∨wy=2:=by omega
 obtain⟨F,hF⟩:∃ F,F=sig neg (bdy x ea wy):=⟨_,rfl⟩
 rw[←hF]
 obtain⟨t,ht⟩:∃ t:Int,t=(bl x:Int)+ea:=⟨_,rfl⟩
 have ht3 : -4000000≤t:=by omega
 have ht4:t≤7200000:=by omega
 have kH:∀ W,Bw w W→Calls Tryz.prog 65 #[.agg #[.bool neg,.slice ua (dlen x) uc,.int .i64 ea]] W fun r w'=>r=.returned (.int .i64 t)∧Bw W w':=fun W hW=>by rw[ht];exact rhigh (h.later hW) h0 (by omega) ⟨he1,he2⟩
 have HN:Hid (At w ua (dlen x) x∧dlen x≤uc∧dlen x≤100000):=⟨h,hc,hl⟩
 have HT:Hid (t=(bl x:Int)+ea∧x % 2=1∧F=sig neg (bdy x ea wy)∧(wy=0∨wy=1∨wy=2)):=⟨ht,hodd,hF,hw⟩
 have HY:Hid (wy=0∧nr=false∧ow=false∨wy=1∧nr=true∧ow=false∨wy=2∧nr=false∧ow=true):=hY
 have HO:Hid ((m==3 && !neg||m==1&&neg)=ow):=how
 have HM:Hid (m=1∨m=2∨m=3):=hm3
 clear h hc hodd hl hwy hm hm3 hbl hb1 hF ht hw hY how h0
 obtain⟨un,hun⟩:∃ n,n=dlen x:=⟨_,rfl⟩
 rw[←hun] at hn0 kH HN ⊢
 have HU:Hid (un=dlen x):=hun
 clear hun
 obtain⟨W,hW⟩:∃ W,W=w.alloc (.cells #[.bool neg,.slice ua un uc,.int .i64 ea] 44):=⟨_,rfl⟩
 have hBW:Bw w W:=by rw[hW];exact(Below.refl _ _).alloc (Nat.le_refl _) _
 have hA:W.heap[w.heap.size]?=some (.cells #[.bool neg,.slice ua un uc,.int .i64 ea] 44 (0,0)):=by rw[hW];exact heap_alloc_new _ _
 have hsz:W.heap.size=w.heap.size+1:=by rw[hW];simp
 have HX:Hid (Bw w W):=hBW
 have HK:Hid (∀ w',Bw W w'→w'.cell? ⟨w.heap.size,0,none⟩=some (.bool neg)∧w'.cell? ⟨w.heap.size,1,none⟩=some (.slice ua un uc)∧w'.cell? ⟨w.heap.size,2,none⟩=some (.int .i64 ea)):=fun w' hb=>(box_cells29 (box_later hA hb (by omega))).1
 have k:=kH W hBW
 obtain⟨a0,a1,a2⟩:=HK.out W (Below.refl _ _)
 clear kH hA hsz hBW
 go_enter Tryz.func40,Tryz.ntmps40
 go_upto_region 4 with fail
 rw[←hW]
 clear hW
 go_cut [6] from 22 to 36 (fun v wx=>v=.bool ow∧wx=W)
 case first =>
  have hO:=HO.out
  rcases HM.out with rfl|rfl|rfl <;> cases neg <;> go_wp2 <;> go_meet <;> exact⟨by rw[←hO];rfl,rfl⟩
 case rest =>
  obtain⟨rfl,rfl⟩:=hcut
  clear HO HM
  go_wp2_with fail
  refine k.mono ?_
  rintro r w1 ⟨rfl,hb1⟩
  have HB1:Hid (Bw wc w1):=hb1
  clear k a0 a1 a2
  obtain⟨a0,a1,a2⟩:=HK.out w1 hb1
  clear hb1
  have kS0:∀ W,Calls Tryz.prog 66 #[.bool false] W fun r w'=>r=.returned (.int .i64 0)∧w'=W:=fun W=>rsignb false W
  have kS1:∀ W,Calls Tryz.prog 66 #[.bool true] W fun r w'=>r=.returned (.int .i64 1)∧w'=W:=fun W=>rsignb true W
  have kI0:=c61
  have kI1:=cinf_m
  by_cases hbig:1024<t
  ·obtain⟨e1,e2,e3,e4⟩:=HT.out
   rw[bdy_big (by omega) (by omega) e4] at e3
   have HF:Hid (F=sig neg (if wy=0 then 9218868437227405311 else 9218868437227405312)):=e3
   have kB:∀ W,Calls Tryz.prog 67 #[.bool neg,.int .u64 9007199254740991,.int .i64 971] W fun r w'=>r=.returned (.float .f64 (sig neg 9218868437227405311))∧w'=W:=fun W=>rbuild (M:=9007199254740991) (e:=971) (by omega) (by omega) (by omega) (.inr (by omega))
   clear e1 e2 e3 e4 HT
   cases neg <;> rcases HY.out with ⟨rfl,rfl,rfl⟩|⟨rfl,rfl,rfl⟩|⟨rfl,rfl,rfl⟩
   all_goals go_wp2_with (first|(go_at_call 66;(first|(with_reducible refine(kS0 _).mono ?_)|(with_reducible refine(kS1 _).mono ?_));rintro r w2 ⟨rfl,rfl⟩)|(go_at_call 34;(first|(with_reducible refine(kI0 _).mono ?_)|(with_reducible refine(kI1 _).mono ?_));rintro r w2 ⟨rfl,rfl⟩)|(go_at_call 67;refine(kB _).mono ?_;rintro r w2 ⟨rfl,rfl⟩))
   all_goals go_ret
   all_goals exact⟨by rw[HF.out];rfl,HX.out.trans (HB1.out.mono HX.out.size)⟩
  ·obtain⟨e2,he⟩:∃ e2,e2=tE x ea:=⟨_,rfl⟩
   have hmx:max (t - 53) (-1074)=e2:=by rw[HT.out.1,he];exact tE_max x ea
   have htb:(bl x:Int)+ea≤1024:=by have:=HT.out.1;omega
   obtain⟨h21,h22⟩:=tE_bounds htb
   rw[←he] at h21 h22
   have HE:Hid (e2=tE x ea∧(bl x:Int)+ea≤1024):=⟨he,htb⟩
   clear he htb
   by_cases hge:e2≤ea
   ·obtain⟨k,hk⟩:∃ k:Nat,k=(ea - e2).toNat:=⟨_,rfl⟩
    obtain⟨hb,hlt,hg⟩:=bdy_up (by have:=HT.out.2.1;omega) HE.out.2 (by rw[←HE.out.1];exact hge) HT.out.2.2.2
    rw[←HE.out.1,←hk] at hb hlt hg
    obtain⟨X,hX⟩:∃ X,X=x*2^k:=⟨_,rfl⟩
    rw[←hX] at hb hlt hg
    have HF:Hid (F=sig neg ((e2+1074).toNat*4503599627370496+X)):=by have:=HT.out.2.2.1;rw[hb] at this;exact this
    have kU:Calls Tryz.prog 68 #[.slice ua un uc,.int .i64 (ea - e2)] w1 fun r w'=>∃ v,r=.returned v∧Ir w' v X∧Bw w1 w':=by
     rw[show ea - e2=(k:Int) by omega,hX]
     have hu:=HU.out
     obtain⟨q1,q2,q3⟩:=HN.out
     subst hu
     exact rup ⟨ua,uc,rfl,q2,q1.later (HX.out.trans (HB1.out.mono HX.out.size))⟩ k (by omega) (by omega)
    have kB:∀ W,Calls Tryz.prog 67 #[.bool neg,.int .u64 (X:Nat),.int .i64 e2] W fun r w'=>r=.returned (.float .f64 (sig neg ((e2+1074).toNat*4503599627370496+X)))∧w'=W:=fun W=>rbuild hlt h21 h22 hg
    have HL:Hid (X<9007199254740992):=hlt
    clear hb hlt hg hX hk HT
    go_wp2_with (first|(go_at_call 68;refine kU.mono ?_;rintro r w2 ⟨v,rfl,hv,hb2⟩))
    have HB2:Hid (Bw wc w2):=HB1.out.trans (hb2.mono HB1.out.size)
    obtain⟨a0,a1,a2⟩:=HK.out w2 HB2.out
    have kS:∀ d,Calls Tryz.prog 69 #[v] (w2.drewN d) fun r w'=>r=.returned (.int .u64 X)∧w'=w2.drewN d:=fun d=>rsmall (hv.later ⟨rfl,rfl,rfl,Nat.le_refl _,fun _ _=>rfl⟩) HL.out
    clear kU hb2 hv
    go_quiet (first|(go_at_call 69;refine Calls.quiet_of_same (kS _))|(go_at_call 67;refine Calls.quiet_of_same (kB _)))
    go_wp2
    go_ret
    exact⟨by rw[HF.out];rfl,HX.out.trans ((below_drewN3 HB2.out _).mono HX.out.size)⟩
   ·by_cases ht2:t < -1075
    ·obtain⟨e1,e2',e3,e4⟩:=HT.out
     rw[bdy_tiny (by omega) (by omega) e4] at e3
     have HF:Hid (F=sig neg (if wy=2 then 1 else 0)):=e3
     have kB0:∀ W,Calls Tryz.prog 67 #[.bool neg,.int .u64 0,.int .i64 (-1074)] W fun r w'=>r=.returned (.float .f64 (sig neg 0))∧w'=W:=fun W=>rbuild_0 neg 0 (-1074) W (by omega)
     have kB1:∀ W,Calls Tryz.prog 67 #[.bool neg,.int .u64 1,.int .i64 (-1074)] W fun r w'=>r=.returned (.float .f64 (sig neg 1))∧w'=W:=fun W=>rbuild_0 neg 1 (-1074) W (by omega)
     clear e1 e2' e3 e4 HT
     rcases HY.out with ⟨rfl,rfl,rfl⟩|⟨rfl,rfl,rfl⟩|⟨rfl,rfl,rfl⟩
     all_goals go_wp2_with (first|(go_at_call 67;(first|(with_reducible refine(kB0 _).mono ?_)|(with_reducible refine(kB1 _).mono ?_));rintro r w2 ⟨rfl,rfl⟩))
     all_goals go_ret
     all_goals exact⟨by rw[HF.out];rfl,HX.out.trans (HB1.out.mono HX.out.size)⟩
    ·obtain⟨k,hk⟩:∃ k:Nat,k=(e2 - ea).toNat:=⟨_,rfl⟩
     have hi:e2 - ea=(k:Int):=by omega
     have hi2:e2 - ea - 1=((k - 1:Nat):Int):=by omega
     have hkb:k≤10000000:=by omega
     obtain⟨N,hN⟩:∃ n,n=if dnU x (tE x ea - ea).toNat wy then x / 2^(tE x ea - ea).toNat+1 else x / 2^(tE x ea - ea).toNat:=⟨_,rfl⟩
     obtain⟨hn1,hn2,hb,hX⟩:=bdy_dn HT.out.2.1 HE.out.2 (by rw[←HE.out.1];omega) HT.out.2.2.2 hN
     rw[←HE.out.1,←hk] at hN hX
     rw[←HE.out.1] at hb hn2
     have HF:Hid (F=sig neg ((e2+1074).toNat*4503599627370496+N)):=by have:=HT.out.2.2.1;rw[hb] at this;exact this
     have hu:=HU.out
     obtain⟨q1,q2,q3⟩:=HN.out
     subst hu
     have q3':=q3
     have HD1:Hid (∀ V,Bw w V→Calls Tryz.prog 70 #[.slice ua (dlen x) uc,.int .i64 (e2 - ea)] V fun r w'=>∃ ao n cap,r=.returned (.tuple #[.slice ao n cap,.bool (decide (x % 2^k=0))])∧Ir w' (.slice ao n cap) (x / 2^k)∧Bw V w'):=kdn q1 q2 q3 hi hkb
     have HD2:Hid (∀ V,Bw w V→Calls Tryz.prog 70 #[.slice ua (dlen x) uc,.int .i64 (e2 - ea - 1)] V fun r w'=>∃ ao n cap,r=.returned (.tuple #[.slice ao n cap,.bool (decide (x % 2^(k - 1)=0))])∧Ir w' (.slice ao n cap) (x / 2^(k - 1))∧Bw V w'):=kdn q1 q2 q3 hi2 (by omega)
     have hod:=and1_64 hX
     have HG:Hid (N≤9007199254740992∧(e2 = -1074∨4503599627370496≤N)∧N=if dnU x k wy then x / 2^k+1 else x / 2^k):=⟨hn1,hn2,hN⟩
     clear HT HN HU q1 q2 q3 hi hi2 hn1 hn2 hb hN hk hkb
     unfold dnU at HG
     obtain⟨X,hXe⟩:∃ X,X=x / 2^k:=⟨_,rfl⟩
     obtain⟨Y,hYe⟩:∃ X,X=x / 2^(k - 1):=⟨_,rfl⟩
     obtain⟨hf,hfe⟩:∃ b:Bool,b=(Y % 2==1):=⟨_,rfl⟩
     obtain⟨od,hode⟩:∃ b:Bool,b=(X % 2==1):=⟨_,rfl⟩
     obtain⟨ex,hex⟩:∃ b:Bool,b=decide (x % 2^(k - 1)=0):=⟨_,rfl⟩
     rw[show(x % 2^(k - 1)==0)=decide (x % 2^(k - 1)=0)from rfl,←hex,←hXe,←hYe,←hfe,←hode] at HG
     rw[←hXe] at hX hod HD1
     rw[←hode] at hod
     rw[←hex,←hYe] at HD2
     have HFE:Hid (hf=(Y % 2==1)∧dlen Y≤100000):=⟨hfe,by rw[hYe];exact Nat.le_trans (dlen_mono (Nat.div_le_self _ _)) q3'⟩
     clear q3'
     generalize dlen x=un at *
     generalize decide (x % 2^k=0)=ex0 at HD1
     clear hXe hYe hfe hode hex
     have kD1:=HD1.out w1 (HX.out.trans (HB1.out.mono HX.out.size))
     go_wp2_with fail
     refine kD1.mono ?_
     rintro r w2 ⟨ao1,n1,c1,rfl,hv,hb2⟩
     have HB2:Hid (Bw wc w2):=HB1.out.trans (hb2.mono HB1.out.size)
     clear a0 a1 a2 kD1
     obtain⟨a0,a1,a2⟩:=HK.out w2 HB2.out
     have kS:=rsmall hv hX
     have kD2:=HD2.out w2 (HX.out.trans (HB2.out.mono HX.out.size))
     clear hv hb2 HD1 HD2 HB1
     go_wp2_with fail
     refine kS.mono ?_
     rintro r w3 ⟨rfl,rfl⟩
     clear kS
     go_wp2_with fail
     refine kD2.mono ?_
     rintro r w4 ⟨ao2,n2,c2,rfl,hv,hb4⟩
     have HB4:Hid (Bw wc w4):=HB2.out.trans (hb4.mono HB2.out.size)
     clear a0 a1 a2 kD2 hb4 HB2
     obtain⟨a0,a1,a2⟩:=HK.out w4 HB4.out
     have HV:Hid (Ir w4 (.slice ao2 n2 c2) Y):=hv
     clear hv
     go_upto_region 21 with fail
     go_cut [15] from 106 to 115 (fun v wx=>v=.bool hf∧wx=w4)
     case first =>
      obtain⟨ao,cap,hve,hcap,b,o,hb,hcell⟩:=HV.out
      injection hve with e1 e2 e3
      subst e1 e3
      obtain⟨hf',hly⟩:=HFE.out
      by_cases hz:0<dlen Y
      ·obtain rfl:=hb hz
       have c0:=hcell 0 hz
       rw[Nat.add_zero] at c0
       have hdd:=and1_32 (d:=dg Y 0) (X:=Y) (dg_zero _)
       have hpos:(0:Int)<(n2:Int):=by omega
       have hcp:n2≤1000000000:=by omega
       generalize dg Y 0=dd at *
       clear hcell HV HFE hb hz e2 hcap
       go_wp2
       go_meet
       exact⟨by rw[hf'],rfl⟩
      ·have hy:Y=0:=dlen_eq_zero.1 (by omega)
       have hneg:¬ (0:Int)<(n2:Int):=by omega
       have hf0:hf=false:=by rw[hf',hy];rfl
       subst hf0
       clear hcell HV HFE hb hz e2 hcap
       go_wp2
       go_meet
       exact⟨rfl,rfl⟩
     case rest =>
      obtain⟨rfl,rfl⟩:=hcut
      clear HV HFE
      obtain⟨up,hup⟩:∃ b:Bool,b=(wy==2||wy==1&&(hf&&(!ex||od))):=⟨_,rfl⟩
      rw[←hup] at HG
      have HU:Hid (up=(wy==2||wy==1&&(hf&&(!ex||od)))):=hup
      clear hup
      go_upto_region 22 with fail
      go_cut [131] from 116 to 131 (fun v wx=>v=.bool up∧wx=wc)
      case first =>
       have g3:=HU.out
       clear HG
       rcases HY.out with ⟨rfl,rfl,rfl⟩|⟨rfl,rfl,rfl⟩|⟨rfl,rfl,rfl⟩
       ·go_wp2
        go_meet
        exact⟨by rw[g3];rfl,rfl⟩
       ·cases hf <;> cases ex <;> cases od <;> go_wp2 <;> go_meet <;> exact⟨by rw[g3];rfl,rfl⟩
       ·go_wp2
        go_meet
        exact⟨by rw[g3];rfl,rfl⟩
      case rest =>
       obtain⟨rfl,rfl⟩:=hcut
       clear HU HY hod
       obtain⟨g1,g2,g3⟩:=HG.out
       clear HG
       cases up
       ·have hN:N=X:=g3
        rw[hN] at g2 HF
        have kB:∀ W,Calls Tryz.prog 67 #[.bool neg,.int .u64 (X:Nat),.int .i64 e2] W fun r w'=>r=.returned (.float .f64 (sig neg ((e2+1074).toNat*4503599627370496+X)))∧w'=W:=fun W=>rbuild hX h21 h22 g2
        have hne:=neq53 (n:=X) (by omega)
        clear g1 g2 g3 hN
        go_wp2_with (first|(go_at_call 67;refine(kB _).mono ?_;rintro r w5 ⟨rfl,rfl⟩))
        go_ret
        exact⟨by rw[HF.out];rfl,HX.out.trans (HB4.out.mono HX.out.size)⟩
       ·have hN:N=X+1:=g3
        rw[hN] at g1 g2 HF
        clear g3
        by_cases h53:X+1=9007199254740992
        ·obtain rfl:X=9007199254740991:=by omega
         by_cases h971:e2=971
         ·subst h971
          clear g1 g2 hN
          cases neg
          all_goals go_wp2_with (first|(go_at_call 66;(first|(with_reducible refine(kS0 _).mono ?_)|(with_reducible refine(kS1 _).mono ?_));rintro r w5 ⟨rfl,rfl⟩)|(go_at_call 34;(first|(with_reducible refine(kI0 _).mono ?_)|(with_reducible refine(kI1 _).mono ?_));rintro r w5 ⟨rfl,rfl⟩))
          all_goals go_ret
          all_goals exact⟨by rw[HF.out];rfl,HX.out.trans (HB4.out.mono HX.out.size)⟩
         ·have h970:e2+1≤971:=by omega
          have kB:∀ W,Calls Tryz.prog 67 #[.bool neg,.int .u64 4503599627370496,.int .i64 (e2+1)] W fun r w'=>r=.returned (.float .f64 (sig neg ((e2+1+1074).toNat*4503599627370496+4503599627370496)))∧w'=W:=fun W=>rbuild (M:=4503599627370496) (by omega) (by omega) h970 (.inr (Nat.le_refl _))
          have HQ:=q53 h21
          clear g1 g2 hN h971
          go_wp2_with (first|(go_at_call 67;refine(kB _).mono ?_;rintro r w5 ⟨rfl,rfl⟩))
          go_ret
          exact⟨by rw[HF.out,←HQ.out];rfl,HX.out.trans (HB4.out.mono HX.out.size)⟩
        ·have kB:∀ W,Calls Tryz.prog 67 #[.bool neg,.int .u64 ((X:Int)+1),.int .i64 e2] W fun r w'=>r=.returned (.float .f64 (sig neg ((e2+1074).toNat*4503599627370496+(X+1))))∧w'=W:=fun W=>rbuild (M:=X+1) (by omega) h21 h22 g2
         have hne:((X:Int)+1==9007199254740992)=false:=neq53 (n:=X+1) h53
         clear g1 g2 hN h53
         go_wp2_with (first|(go_at_call 67;refine(kB _).mono ?_;rintro r w5 ⟨rfl,rfl⟩))
         go_ret
         exact⟨by rw[HF.out];rfl,HX.out.trans (HB4.out.mono HX.out.size)⟩
end Go.Proofs.YtjiolfnchiioaaaGreatDoor
namespace Go.Proofs.YtjiolfnchiioaaaGreatDoor
end Go.Proofs.YtjiolfnchiioaaaGreatDoor
namespace Go.Proofs.YtjiolfnchiioaaaGreatDoor
open Go.RowKit Go.Fl64
open Ie
theorem rto_0 (na:Bool) (ua:Option Addr) (uc:Nat) (ea m:Int) (w:World):Calls Tryz.prog 40 #[.agg #[.bool na,.slice ua 0 uc,.int .i64 ea],.int .i64 m] w fun r w'=>r=.returned (.float .f64 0)∧Bw w w':=by
 obtain⟨W,hW⟩:∃ W,W=w.alloc (.cells #[.bool na,.slice ua 0 uc,.int .i64 ea] 44):=⟨_,rfl⟩
 have HB:Hid (Bw w W):=(by rw[hW];exact(Below.refl _ _).alloc (Nat.le_refl _) _:Bw w W)
 go_enter Tryz.func40,Tryz.ntmps40
 go_wp2
 go_ret
 exact⟨rfl,hW ▸ HB.out⟩
end Go.Proofs.YtjiolfnchiioaaaGreatDoor
namespace Go.Proofs.YtjiolfnchiioaaaGreatDoor
open Go.RowKit
end Go.Proofs.YtjiolfnchiioaaaGreatDoor
namespace Go.Proofs.YtjiolfnchiioaaaGreatDoor
open Go.RowKit Go.Fl64
open Ie
theorem bdy_shl {x n:Nat} {e:Int} {way:Nat} (hw:way=0∨way=1∨way=2):bdy (x*2^n) e way=bdy x (e+n) way:=by
 by_cases h0:x=0
 ·subst h0;rw[Nat.zero_mul];unfold bdy;rw[if_pos rfl,if_pos rfl]
 have h1:x*2^n≠0:=Nat.mul_ne_zero h0 (by have:=Nat.two_pow_pos n;omega)
 obtain⟨K,hK⟩:∃ K:Nat,K=1200+(64 - e).toNat+n:=⟨_,rfl⟩
 have a:=rwb_rounds (e:=e) h1 (K:=K) (by omega) (by omega) (way:=way)
 have b:=rwb_rounds (e:=e+n) h0 (K:=K) (by omega) (by omega) (way:=way)
 have hv:x*2^n*2^(e+(K:Int)).toNat=x*2^(e+(n:Int)+(K:Int)).toNat:=by
  rw[Nat.mul_assoc,←Nat.pow_add,show n+(e+(K:Int)).toNat=(e+(n:Int)+(K:Int)).toNat by omega]
 have h2:=Rounds.mono hw a b (Nat.le_of_eq hv)
 have h3:=Rounds.mono hw b a (Nat.le_of_eq hv.symm)
 have h4:rwb (x*2^n) e way=rwb x (e+n) way:=Nat.le_antisymm h2 h3
 unfold bdy
 rw[if_neg h0,if_neg h1,h4]
theorem tf_shl {s:Bool} {x n:Nat} {e m:Int} (hm:1≤m∧m≤3):tfF s true (x*2^n) e m=tfF s true x (e+n) m:=by
 rw[tf_bdy hm,tf_bdy hm,bdy_shl (wyN_ways s m)]
end Go.Proofs.YtjiolfnchiioaaaGreatDoor
namespace Go.Proofs.YtjiolfnchiioaaaGreatDoor
open Go.RowKit Go.Fl64
theorem tF_fits (a:Nat):Fits (-1074) 1025 (tF a).2.1 (tF a).2.2:=by
 refine Fits.cn (.inr ⟨(Ie.lp_bound a).1,by have:=(Ie.lp_bound a).2;omega,?_⟩)
 have h:=Ie.mant_bound a
 have h2:=(Ie.lp_bound a).2
 have:2^53≤2^(1025 - Ie.lp a).toNat:=Nat.pow_le_pow_right (by decide) (by omega)
 omega
theorem tF_ok (a:Nat):Ok (tF a):=by
 refine ok_cn (Fits.ok (lo := -1074) (hi:=1025) (.inr ⟨(Ie.lp_bound a).1,by have:=(Ie.lp_bound a).2;omega,?_⟩) (by omega) (by omega) (by omega))
 have h:=Ie.mant_bound a
 have h2:=(Ie.lp_bound a).2
 have:2^53≤2^(1025 - Ie.lp a).toNat:=Nat.pow_le_pow_right (by decide) (by omega)
 omega
theorem cn_parts (a m:Nat) (ha:a<18446744073709551616) (hf:mag a<9218868437227405312) (hm:Ie.sM a=(m:Int)):cn (neg a) m (Ie.sE a)=tF a:=by
 unfold tF cn
 rcases of_parts a m ha hf hm with ⟨h1,h2⟩|⟨h1,h2,-,h3,h4⟩
 ·rw[if_pos h1,if_pos h2]
 ·rw[if_neg h1,if_neg h2,h3,h4]
theorem exact_ok (a:Nat) (ha:a<18446744073709551616) (hf:mag a<9218868437227405312) (w:World) (hT:Tab32 w) (hI:Ie.Tab w):Calls Tryz.prog 86 #[.float .f64 a] w fun r w'=>OutA w (tF a) r w':=by
 obtain⟨m,hm,hml⟩:=sM_lt a ha
 refine exact_1 a (tF a) w fun W hW=>(of_fin a m ha W (hT.later hW) (Tab.later hI hW) hf hm).mono ?_
 rintro r w' ⟨A,rfl,hN,hb⟩
 have hp:=hN.pn
 rw[cn_parts a m ha hf hm] at hp
 obtain⟨s,ao,n,cap,e,rfl⟩:=hp.shape
 exact⟨s,ao,n,cap,e,rfl,hp,hb⟩
def tS (t1 t2:Bool×Nat×Int):Bool×Nat×Int:=cn (sumN t1.1 t1.2.1 t1.2.2 t2.1 t2.2.1 t2.2.2).1 (sumN t1.1 t1.2.1 t1.2.2 t2.1 t2.2.1 t2.2.2).2.1 (sumN t1.1 t1.2.1 t1.2.2 t2.1 t2.2.1 t2.2.2).2.2
theorem tS_fits {lo hi:Int} {t1 t2:Bool×Nat×Int} (h1:Fits lo hi t1.2.1 t1.2.2) (h2:Fits lo hi t2.2.1 t2.2.2):Fits lo (hi+1) (tS t1 t2).2.1 (tS t1 t2).2.2:=Fits.cn (Fits.sum h1 h2)
theorem tS_okR {lo hi:Int} {t1 t2:Bool×Nat×Int} (h1:Fits lo hi t1.2.1 t1.2.2) (h2:Fits lo hi t2.2.1 t2.2.2) (hb:hi+1 - lo≤65536) (hlo : -65536≤lo) (hhi:hi+1≤65536):okR (sumN t1.1 t1.2.1 t1.2.2 t2.1 t2.2.1 t2.2.2).1 (sumN t1.1 t1.2.1 t1.2.2 t2.1 t2.2.1 t2.2.2).2.1 (sumN t1.1 t1.2.1 t1.2.2 t2.1 t2.2.1 t2.2.2).2.2=true:=(Fits.sum h1 h2).ok hb hlo hhi
theorem plus_dn {t1 t2:Bool×Nat×Int} {X Y:Value} {w:World} (o1:Ok t1) (o2:Ok t2) (h1:DN w X t1) (h2:DN w Y t2):Calls Tryz.prog 42 #[X,Y] w fun r w'=>∃ A,r=.returned A∧DN w' A (tS t1 t2)∧Bw w w':=by
 obtain⟨ao,cap,rfl,a1⟩:=h1
 obtain⟨ao',cap',rfl,a2⟩:=h2
 obtain⟨f1,f2,f3,-,-⟩:=o1.facts
 obtain⟨g1,g2,g3,-,-⟩:=o2.facts
 exact(rplusG a1 a2 (cn_ok o1) (cn_ok o2) (by omega) (by omega) (by omega) (by omega) (by omega) (by omega)).mono fun r w' ⟨A,e,h,hb⟩=>⟨A,e,h.dn,hb⟩
theorem psign {t:Bool×Nat×Int} {A:Value} {w:World} (ok:Ok t) (h:PN w A t):Calls Tryz.prog 87 #[A] w fun r w'=>r=.returned (.int .i64 (sgI t.1 (dlen t.2.1)))∧Bw w w':=by
 obtain⟨ao,cap,rfl,h1⟩:=h
 obtain⟨f1,-,-,-,-⟩:=ok.facts
 exact sign_ok h1 (by omega) ok
theorem sgI_nought {s:Bool} {x:Nat}:(sgI s (dlen x)==0)=decide (x=0):=by
 unfold sgI
 by_cases h:x=0
 ·rw[if_pos (dlen_eq_zero.2 h),decide_eq_true h];rfl
 ·rw[if_neg (fun e=>h (dlen_eq_zero.1 e)),decide_eq_false h];cases s <;> rfl
theorem sig_lt {s:Bool} {n:Nat} (h:n≤9218868437227405312):sig s n<18446744073709551616:=by
 unfold sig;cases s <;> simp <;> omega
theorem tfF_lt {s:Bool} {x:Nat} {e m:Int} (hm:1≤m∧m≤3):tfF s true x e m<18446744073709551616:=by
 rw[tf_bdy hm];exact sig_lt (bdy_le _ _ _)
theorem fin_false {a:Nat}:fin a=false↔¬ mag a<9218868437227405312:=by unfold fin;simp
theorem addX_lt {a b:Nat} (ha:a<18446744073709551616) (hb:b<18446744073709551616):addX a b<18446744073709551616:=by
 unfold addX
 repeat' split
 all_goals first|exact ha|exact hb|decide
def OutF2 (W:World) (X:Nat) (r:Ending) (w':World):Prop:=∃ n,r=.returned (.float .f64 n)∧lk n X∧Bw W w'
theorem psub_1 (a b X:Nat) (m:Int) (w:World) (hb:b<18446744073709551616) (k:Calls Tryz.prog 54 #[.float .f64 a,.float .f64 (ngt b),.int .i64 m] w fun r w'=>OutF2 w X r w') :
  Calls Tryz.prog 43 #[.float .f64 a,.float .f64 b,.int .i64 m] w fun r w'=>OutF2 w X r w':=by
 have hn:∀ w,(Op.unary UnOp.neg (.float .f64 b)).run Tryz.prog w=.ok (.float .f64 (ngt b)) w:=fun w=>by rw[←negF b hb];rfl
 go_enter Tryz.func43,Tryz.ntmps43
 go_wp2_with fail
 refine k.mono ?_
 rintro r w1 ⟨n,rfl,h1,h2⟩
 have HB:Hid (lk n X∧Bw w w1):=⟨h1,h2⟩
 clear k h1 h2
 go_wp2_with fail
 go_ret
 exact⟨_,rfl,HB.out.1,HB.out.2⟩
end Go.Proofs.YtjiolfnchiioaaaGreatDoor
namespace Go.Proofs.YtjiolfnchiioaaaGreatDoor
open Go Go.RowKit
end Go.Proofs.YtjiolfnchiioaaaGreatDoor
namespace Go.Proofs.YtjiolfnchiioaaaGreatDoor
open Go.RowKit Go.Fl64
end Go.Proofs.YtjiolfnchiioaaaGreatDoor
namespace Go.Proofs.YtjiolfnchiioaaaGreatDoor
open Go Go.RowKit Go.Fl64 Go.Shelf
attribute [local go_sem] Oper.semAt_some
attribute [local go_sem] Oper.semAt_some
end Go.Proofs.YtjiolfnchiioaaaGreatDoor
namespace Go.Proofs.YtjiolfnchiioaaaGreatDoor
open Go.RowKit Go.Fl64
theorem lk_or {n X:Nat} (h:lk n X):n=X∨(isNaN n=true∧isNaN X=true):=by
 cases hn:isNaN X
 ·exact .inl (h.eq hn)
 ·cases h2:isNaN n
  ·have:=h.2
   unfold same at this
   rw[hn,h2] at this
   have e:n=X:=by simp at this;omega
   rw[e,hn] at h2
   cases h2
  ·exact .inr ⟨rfl,rfl⟩
def rtK (t1 t2:Bool×Nat×Int):Nat:=(max 0 (64+(bl t2.2.1:Int) - (bl t1.2.1:Int))).toNat
def rtF (t1 t2:Bool×Nat×Int) (m:Int):Nat:=tfF (t1.1 != t2.1) (decide (t1.2.1*2^rtK t1 t2 % t2.2.1=0)) (t1.2.1*2^rtK t1 t2 / t2.2.1) (t1.2.2 - t2.2.2 - rtK t1 t2) m
theorem pratio {t1 t2:Bool×Nat×Int} {X Y:Value} {m:Int} {w:World} (hT:Tab32 w) (o1:Ok t1) (o2:Ok t2) (h1:PN w X t1) (h2:PN w Y t2) (x0:t1.2.1≠0) (y0:t2.2.1≠0) (hm:1≤m∧m≤3) :
  Calls Tryz.prog 93 #[X,Y,.int .i64 m] w fun r w'=>r=.returned (.tuple #[.float .f64 (rtF t1 t2 m),.int .i64 0])∧Bw w w':=by
 obtain⟨pa,pc,rfl,i1⟩:=h1
 obtain⟨qa,qc,rfl,i2⟩:=h2
 have f1:=o1.facts
 have f2:=o2.facts
 have bx:=bl_le_dlen t1.2.1
 have by':=bl_le_dlen t2.2.1
 have hn0:((dlen t1.2.1:Int)==0)=false:=by
  have:dlen t1.2.1≠0:=fun e=>x0 (dlen_eq_zero.1 e)
  simp;omega
 have hn1:((dlen t2.2.1:Int)==0)=false:=by
  have:dlen t2.2.1≠0:=fun e=>y0 (dlen_eq_zero.1 e)
  simp;omega
 have hk:max 0 (64+(bl t2.2.1:Int) - (bl t1.2.1:Int))=(rtK t1 t2:Int):=by unfold rtK;omega
 refine pratio_1 t1.1 t2.1 pa qa _ pc _ qc _ _ (rtK t1 t2) (bl t1.2.1) (bl t2.2.1) t1.2.2 t2.2.2 m (t1.1 != t2.1) w (rfl:(!(t1.1==t2.1))=(t1.1 != t2.1)) hT i1 i2 (by omega) (by omega) y0 (by omega) (by omega) (by omega) (by omega) (by omega) rfl rfl (by omega) (by omega) hk (by omega) hn0 hn1 (fun W' g hW' hg=>?_)
 have:=maybe2 hg (i1.later hW') (i2.later hW') (by omega) (by omega)
 rw[show okN t1.1 (dlen t1.2.1) t1.2.1 t1.2.2=true from o1,show okN t2.1 (dlen t2.2.1) t2.2.1 t2.2.2=true from o2] at this
 exact this
theorem ne_nought {a:Nat} (ha:a<18446744073709551616) (hf:mag a<9218868437227405312):(FloatKind.f64.format.order a 0 != some Ordering.eq)=decide (mag a≠0):=by
 rw[bne,ord_eq a 0 ha (by decide)]
 have na:isNaN a=false:=by unfold isNaN;simp;omega
 have nb:isNaN 0=false:=by decide
 unfold Fl64.eq
 rw[na,nb]
 have e0:stp 0=0:=by decide
 rw[e0]
 by_cases h:mag a=0
 ·have:stp a=0:=by unfold stp sgn;rw[h];simp
  simp[this,h]
 ·have:stp a≠0:=by unfold stp sgn;split <;> omega
  simp[this,h]
theorem pplain_y (a:Nat) (ha:a<18446744073709551616) (hf:mag a<9218868437227405312) (h0:mag a≠0) (w:World):Calls Tryz.prog 91 #[.float .f64 a] w fun r w'=>r=.returned (.bool true)∧w'=w:=by
 have k:=pfin_y a ha hf
 have he:=ne_nought ha hf
 rw[decide_eq_true h0] at he
 clear ha hf h0
 go_enter Tryz.func91,Tryz.ntmps91
 go_wp2_with (go_at_call 84;refine(k _).mono ?_;rintro e w' ⟨rfl,rfl⟩)
 go_ret
 exact⟨rfl,rfl⟩
theorem pplain_z (a:Nat) (ha:a<18446744073709551616) (h0:mag a=0) (w:World):Calls Tryz.prog 91 #[.float .f64 a] w fun r w'=>r=.returned (.bool false)∧w'=w:=by
 have k:=pfin_y a ha (by omega)
 have he:=ne_nought ha (by omega)
 rw[decide_eq_false (by omega)] at he
 clear ha h0
 go_enter Tryz.func91,Tryz.ntmps91
 go_wp2_with (go_at_call 84;refine(k _).mono ?_;rintro e w' ⟨rfl,rfl⟩)
 go_ret
 exact⟨rfl,rfl⟩
theorem pplain_n (a:Nat) (ha:a<18446744073709551616) (hf:¬ mag a<9218868437227405312) (w:World):Calls Tryz.prog 91 #[.float .f64 a] w fun r w'=>r=.returned (.bool false)∧w'=w.drew:=by
 have k:=pfin_n a ha hf w
 clear ha hf
 go_enter Tryz.func91,Tryz.ntmps91
 go_wp2_with fail
 refine k.mono ?_
 rintro e w' ⟨rfl,hw⟩
 rw[hw]
 clear hw k w'
 go_wp2
 go_ret
 exact⟨rfl,rfl⟩
theorem pdiv_r (a b F:Nat) (m:Int) (ta tb:Bool×Nat×Int) (w:World) (hm:isM m=true)
  (hfa:∀ W,Calls Tryz.prog 91 #[.float .f64 a] W fun r w'=>r=.returned (.bool true)∧w'=W)
  (hfb:∀ W,Calls Tryz.prog 91 #[.float .f64 b] W fun r w'=>r=.returned (.bool true)∧w'=W)
  (kA:Calls Tryz.prog 86 #[.float .f64 a] w fun r w'=>OutA w ta r w')
  (kB:∀ W,Bw w W→Calls Tryz.prog 86 #[.float .f64 b] W fun r w'=>OutA W tb r w')
  (kC:∀ W X Y,Bw w W→PN W X ta→PN W Y tb→Calls Tryz.prog 93 #[X,Y,.int .i64 m] W fun r w'=>r=.returned (.tuple #[.float .f64 F,.int .i64 0])∧Bw W w') :
  Calls Tryz.prog 59 #[.float .f64 a,.float .f64 b,.int .i64 m] w fun r w'=>r=.returned (.float .f64 F)∧Bw w w':=by
 have kV:=pvalid m w
 rw[hm] at kV
 have HKB:Hid _:=kB
 have HKC:Hid _:=kC
 clear kB kC
 go_enter Tryz.func59,Tryz.ntmps59
 go_wp2_with fail
 refine kV.mono ?_
 rintro r w' ⟨rfl,hw⟩
 rw[hw]
 clear hw kV
 have kN:=hfa w
 go_wp2_with fail
 refine kN.mono ?_
 rintro r w' ⟨rfl,hw⟩
 rw[hw]
 clear hw kN hfa
 have kN:=hfb w
 go_wp2_with fail
 refine kN.mono ?_
 rintro r w' ⟨rfl,hw⟩
 rw[hw]
 clear hw kN hfb
 go_wp2_with fail
 refine kA.mono ?_
 rintro r w1 ⟨s1,ao1,n1,cap1,ex1,rfl,hP1,hb1⟩
 have k2:=HKB.out w1 hb1
 clear kA
 go_wp2_with fail
 refine k2.mono ?_
 rintro r w2 ⟨s2,ao2,n2,cap2,ex2,rfl,hP2,hb2⟩
 have HB2:Hid (Bw w w2):=hb1.trans (hb2.mono hb1.size)
 have k3:=HKC.out w2 _ _ HB2.out (hP1.later hb2) hP2
 clear k2 hP1 hP2 hb1 hb2
 go_wp2_with fail
 refine k3.mono ?_
 rintro r w3 ⟨rfl,hb3⟩
 have HB3:Hid (Bw w w3):=HB2.out.trans (hb3.mono HB2.out.size)
 clear k3 hb3
 go_wp2_with fail
 go_ret
 exact⟨rfl,HB3.out⟩
theorem pdiv_ok (a b:Nat) (m:Int) (w:World) (hm:isM m=true) (hT:Tab32 w) (hI:Ie.Tab w) (ha:a<18446744073709551616) (hb:b<18446744073709551616) (hfa:mag a<9218868437227405312) (hfb:mag b<9218868437227405312) (ha0:mag a≠0) (hb0:mag b≠0) (xa:(tF a).2.1≠0) (xb:(tF b).2.1≠0) :
  Calls Tryz.prog 59 #[.float .f64 a,.float .f64 b,.int .i64 m] w fun r w'=>r=.returned (.float .f64 (rtF (tF a) (tF b) m))∧Bw w w' :=
 pdiv_r a b _ m (tF a) (tF b) w hm (pplain_y a ha hfa ha0) (pplain_y b hb hfb hb0) (exact_ok a ha hfa w hT hI) (fun W h=>exact_ok b hb hfb W (hT.later h) (Tab.later hI h)) (fun W X Y h h1 h2=>pratio (hT.later h) (tF_ok a) (tF_ok b) h1 h2 xa xb (isM_iff.1 hm))
theorem tF_ne {a:Nat} (h:mag a≠0):(tF a).2.1≠0:=by
 have h1:=Ie.mant_ne h
 unfold tF cn
 rw[if_neg h1]
 intro e
 have:=(tz_spec _ _ (Nat.le_refl _) h1).2
 simp only at e
 rw[e] at this
 simp at this
def tM (t1 t2:Bool×Nat×Int):Bool×Nat×Int:=cn (!(t1.1==t2.1)) (t1.2.1*t2.2.1) (t1.2.2+t2.2.2)
theorem tM_ok {t1 t2:Bool×Nat×Int} (h:okR (!(t1.1==t2.1)) (t1.2.1*t2.2.1) (t1.2.2+t2.2.2)=true):Ok (tM t1 t2):=ok_cn h
def Rn (op:BinOp) (a b F:Nat):Prop:=(∀ W,(binOp op 22 (.float .f64 a) (.float .f64 b)).run Tryz.prog W=.ok (.float .f64 F) W)∨∀ W,∃ n,lk n F∧(binOp op 22 (.float .f64 a) (.float .f64 b)).run Tryz.prog W=.ok (.float .f64 n) W.drew
theorem rn_of {op:BinOp} {a b F:Nat} (hop:op=.add∨op=.sub∨op=.mul∨op=.quo) (h:(floatBits op .f64 a b=none∧isNaN F=true)∨floatBits op .f64 a b=some F):Rn op a b F:=by
 rcases h with ⟨h1,h2⟩|h1
 ·refine .inr fun W=>?_
  obtain⟨n,n1,n2,hs⟩:=run_nan (P:=Tryz.prog) W op 22 a b hop h1
  exact⟨n,lk.nan n1 n2 h2,hs⟩
 ·exact .inl fun W=>run_float_arith W op 22 .f64 a b _ h1
theorem pplain_f (a:Nat) (ha:a<18446744073709551616) (h:pln a=false) (w:World):Calls Tryz.prog 91 #[.float .f64 a] w fun r w'=>r=.returned (.bool false)∧Bw w w':=by
 rcases pln_false.1 h with h|h
 ·exact(pplain_n a ha h w).mono fun r w' ⟨e,hw⟩=>⟨e,hw ▸ (Below.refl _ _).drew⟩
 ·exact(pplain_z a ha h w).mono fun r w' ⟨e,hw⟩=>⟨e,hw ▸ Below.refl _ _⟩
theorem pplain_t (a:Nat) (ha:a<18446744073709551616) (h:pln a=true) (w:World):Calls Tryz.prog 91 #[.float .f64 a] w fun r w'=>r=.returned (.bool true)∧w'=w:=pplain_y a ha (pln_true.1 h).1 (pln_true.1 h).2 w
theorem pmul_no (a b:Nat) (m:Int) (w:World) (hm:isM m=false):Calls Tryz.prog 57 #[.float .f64 a,.float .f64 b,.int .i64 m] w fun r w'=>r=.returned (.float .f64 9221120237041090561)∧Bw w w':=by
 have kV:=pvalid m w
 rw[hm] at kV
 go_enter Tryz.func57,Tryz.ntmps57
 go_wp2_with fail
 refine kV.mono ?_
 rintro r w' ⟨rfl,hw⟩
 rw[hw]
 clear hw kV w'
 have kN:=Ie.c52 w
 go_wp2_with fail
 refine kN.mono ?_
 rintro r w' ⟨rfl,hw⟩
 rw[hw]
 clear hw kN w'
 go_wp2_with fail
 go_ret
 exact⟨rfl,Below.refl _ _⟩
theorem pmul_na (a b F:Nat) (m:Int) (w:World) (hm:isM m=true) (hfa:∀ W,Calls Tryz.prog 91 #[.float .f64 a] W fun r w'=>r=.returned (.bool false)∧Bw W w') (h:Rn .mul a b F) (hF:F<18446744073709551616) :
  Calls Tryz.prog 57 #[.float .f64 a,.float .f64 b,.int .i64 m] w fun r w'=>OutF2 w F r w':=by
 have kV:=pvalid m w
 rw[hm] at kV
 have HF:Hid (F<18446744073709551616∧Rn .mul a b F):=⟨hF,h⟩
 clear hF h
 go_enter Tryz.func57,Tryz.ntmps57
 go_wp2_with fail
 refine kV.mono ?_
 rintro r w' ⟨rfl,hw⟩
 rw[hw]
 clear hw kV w'
 have kN:=hfa w
 go_wp2_with fail
 refine kN.mono ?_
 rintro r w1 ⟨rfl,hb1⟩
 have HB:Hid (Bw w w1∧Bw w w1.drew):=⟨hb1,hb1.drew⟩
 clear hb1 kN hfa
 rcases HF.out.2 with h|h
 ·have hr:=h w1
  clear h
  go_wp2_with fail
  go_ret
  exact⟨_,rfl,lk.refl HF.out.1,HB.out.1⟩
 ·obtain⟨n,hn,hr⟩:=h w1
  have HN:Hid (lk n F):=hn
  clear hn h
  go_wp2_with fail
  go_ret
  exact⟨_,rfl,HN.out,HB.out.2⟩
theorem pmul_nb (a b F:Nat) (m:Int) (w:World) (hm:isM m=true) (hfa:∀ W,Calls Tryz.prog 91 #[.float .f64 a] W fun r w'=>r=.returned (.bool true)∧w'=W) (hfb:∀ W,Calls Tryz.prog 91 #[.float .f64 b] W fun r w'=>r=.returned (.bool false)∧Bw W w') (h:Rn .mul a b F) (hF:F<18446744073709551616) :
  Calls Tryz.prog 57 #[.float .f64 a,.float .f64 b,.int .i64 m] w fun r w'=>OutF2 w F r w':=by
 have kV:=pvalid m w
 rw[hm] at kV
 have HF:Hid (F<18446744073709551616∧Rn .mul a b F):=⟨hF,h⟩
 clear hF h
 go_enter Tryz.func57,Tryz.ntmps57
 go_wp2_with fail
 refine kV.mono ?_
 rintro r w' ⟨rfl,hw⟩
 rw[hw]
 clear hw kV w'
 have kN:=hfa w
 go_wp2_with fail
 refine kN.mono ?_
 rintro r w' ⟨rfl,hw⟩
 rw[hw]
 clear hw kN hfa w'
 have kN:=hfb w
 go_wp2_with fail
 refine kN.mono ?_
 rintro r w1 ⟨rfl,hb1⟩
 have HB:Hid (Bw w w1∧Bw w w1.drew):=⟨hb1,hb1.drew⟩
 clear hb1 kN hfb
 rcases HF.out.2 with h|h
 ·have hr:=h w1
  clear h
  go_wp2_with fail
  go_ret
  exact⟨_,rfl,lk.refl HF.out.1,HB.out.1⟩
 ·obtain⟨n,hn,hr⟩:=h w1
  have HN:Hid (lk n F):=hn
  clear hn h
  go_wp2_with fail
  go_ret
  exact⟨_,rfl,HN.out,HB.out.2⟩
theorem pdiv_no (a b:Nat) (m:Int) (w:World) (hm:isM m=false):Calls Tryz.prog 59 #[.float .f64 a,.float .f64 b,.int .i64 m] w fun r w'=>r=.returned (.float .f64 9221120237041090561)∧Bw w w':=by
 have kV:=pvalid m w
 rw[hm] at kV
 go_enter Tryz.func59,Tryz.ntmps59
 go_wp2_with fail
 refine kV.mono ?_
 rintro r w' ⟨rfl,hw⟩
 rw[hw]
 clear hw kV w'
 have kN:=Ie.c52 w
 go_wp2_with fail
 refine kN.mono ?_
 rintro r w' ⟨rfl,hw⟩
 rw[hw]
 clear hw kN w'
 go_wp2_with fail
 go_ret
 exact⟨rfl,Below.refl _ _⟩
theorem pdiv_na (a b F:Nat) (m:Int) (w:World) (hm:isM m=true) (hfa:∀ W,Calls Tryz.prog 91 #[.float .f64 a] W fun r w'=>r=.returned (.bool false)∧Bw W w') (h:Rn .quo a b F) (hF:F<18446744073709551616) :
  Calls Tryz.prog 59 #[.float .f64 a,.float .f64 b,.int .i64 m] w fun r w'=>OutF2 w F r w':=by
 have kV:=pvalid m w
 rw[hm] at kV
 have HF:Hid (F<18446744073709551616∧Rn .quo a b F):=⟨hF,h⟩
 clear hF h
 go_enter Tryz.func59,Tryz.ntmps59
 go_wp2_with fail
 refine kV.mono ?_
 rintro r w' ⟨rfl,hw⟩
 rw[hw]
 clear hw kV w'
 have kN:=hfa w
 go_wp2_with fail
 refine kN.mono ?_
 rintro r w1 ⟨rfl,hb1⟩
 have HB:Hid (Bw w w1∧Bw w w1.drew):=⟨hb1,hb1.drew⟩
 clear hb1 kN hfa
 rcases HF.out.2 with h|h
 ·have hr:=h w1
  clear h
  go_wp2_with fail
  go_ret
  exact⟨_,rfl,lk.refl HF.out.1,HB.out.1⟩
 ·obtain⟨n,hn,hr⟩:=h w1
  have HN:Hid (lk n F):=hn
  clear hn h
  go_wp2_with fail
  go_ret
  exact⟨_,rfl,HN.out,HB.out.2⟩
theorem pdiv_nb (a b F:Nat) (m:Int) (w:World) (hm:isM m=true) (hfa:∀ W,Calls Tryz.prog 91 #[.float .f64 a] W fun r w'=>r=.returned (.bool true)∧w'=W) (hfb:∀ W,Calls Tryz.prog 91 #[.float .f64 b] W fun r w'=>r=.returned (.bool false)∧Bw W w') (h:Rn .quo a b F) (hF:F<18446744073709551616) :
  Calls Tryz.prog 59 #[.float .f64 a,.float .f64 b,.int .i64 m] w fun r w'=>OutF2 w F r w':=by
 have kV:=pvalid m w
 rw[hm] at kV
 have HF:Hid (F<18446744073709551616∧Rn .quo a b F):=⟨hF,h⟩
 clear hF h
 go_enter Tryz.func59,Tryz.ntmps59
 go_wp2_with fail
 refine kV.mono ?_
 rintro r w' ⟨rfl,hw⟩
 rw[hw]
 clear hw kV w'
 have kN:=hfa w
 go_wp2_with fail
 refine kN.mono ?_
 rintro r w' ⟨rfl,hw⟩
 rw[hw]
 clear hw kN hfa w'
 have kN:=hfb w
 go_wp2_with fail
 refine kN.mono ?_
 rintro r w1 ⟨rfl,hb1⟩
 have HB:Hid (Bw w w1∧Bw w w1.drew):=⟨hb1,hb1.drew⟩
 clear hb1 kN hfb
 rcases HF.out.2 with h|h
 ·have hr:=h w1
  clear h
  go_wp2_with fail
  go_ret
  exact⟨_,rfl,lk.refl HF.out.1,HB.out.1⟩
 ·obtain⟨n,hn,hr⟩:=h w1
  have HN:Hid (lk n F):=hn
  clear hn h
  go_wp2_with fail
  go_ret
  exact⟨_,rfl,HN.out,HB.out.2⟩
theorem pmul_r (a b F:Nat) (m:Int) (ta tb t3:Bool×Nat×Int) (w:World) (hm:isM m=true)
  (hfa:∀ W,Calls Tryz.prog 91 #[.float .f64 a] W fun r w'=>r=.returned (.bool true)∧w'=W)
  (hfb:∀ W,Calls Tryz.prog 91 #[.float .f64 b] W fun r w'=>r=.returned (.bool true)∧w'=W)
  (kA:Calls Tryz.prog 86 #[.float .f64 a] w fun r w'=>OutA w ta r w')
  (kB:∀ W,Bw w W→Calls Tryz.prog 86 #[.float .f64 b] W fun r w'=>OutA W tb r w')
  (kC:∀ W X Y,Bw w W→PN W X ta→PN W Y tb→Calls Tryz.prog 92 #[X,Y] W fun r w'=>OutA W t3 r w')
  (kR:∀ W X,Bw w W→PN W X t3→Calls Tryz.prog 89 #[X,.int .i64 m] W fun r w'=>r=.returned (.float .f64 F)∧Bw W w') :
  Calls Tryz.prog 57 #[.float .f64 a,.float .f64 b,.int .i64 m] w fun r w'=>r=.returned (.float .f64 F)∧Bw w w':=by
 have kV:=pvalid m w
 rw[hm] at kV
 have HKB:Hid _:=kB
 have HKC:Hid _:=kC
 have HKR:Hid _:=kR
 clear kB kC kR
 go_enter Tryz.func57,Tryz.ntmps57
 go_wp2_with fail
 refine kV.mono ?_
 rintro r w' ⟨rfl,hw⟩
 rw[hw]
 clear hw kV
 have kN:=hfa w
 go_wp2_with fail
 refine kN.mono ?_
 rintro r w' ⟨rfl,hw⟩
 rw[hw]
 clear hw kN hfa
 have kN:=hfb w
 go_wp2_with fail
 refine kN.mono ?_
 rintro r w' ⟨rfl,hw⟩
 rw[hw]
 clear hw kN hfb
 go_wp2_with fail
 refine kA.mono ?_
 rintro r w1 ⟨s1,ao1,n1,cap1,ex1,rfl,hP1,hb1⟩
 have k2:=HKB.out w1 hb1
 clear kA
 go_wp2_with fail
 refine k2.mono ?_
 rintro r w2 ⟨s2,ao2,n2,cap2,ex2,rfl,hP2,hb2⟩
 have HB2:Hid (Bw w w2):=hb1.trans (hb2.mono hb1.size)
 have k3:=HKC.out w2 _ _ HB2.out (hP1.later hb2) hP2
 clear k2 hP1 hP2 hb1 hb2
 go_wp2_with fail
 refine k3.mono ?_
 rintro r w3 ⟨s3,ao3,n3,cap3,ex3,rfl,hP3,hb3⟩
 have HB3:Hid (Bw w w3):=HB2.out.trans (hb3.mono HB2.out.size)
 have k4:=HKR.out w3 _ HB3.out hP3
 clear k3 hb3 hP3
 go_wp2_with fail
 refine k4.mono ?_
 rintro r w4 ⟨rfl,hb4⟩
 have HB4:Hid (Bw w w4):=HB3.out.trans (hb4.mono HB3.out.size)
 clear k4 hb4
 go_wp2_with fail
 go_ret
 exact⟨rfl,HB4.out⟩
theorem tM_okR (a b:Nat):okR (!((tF a).1==(tF b).1)) ((tF a).2.1*(tF b).2.1) ((tF a).2.2+(tF b).2.2)=true:=(Fits.mul (tF_fits a) (tF_fits b)).ok (by omega) (by omega) (by omega)
theorem mulX_lt {a b:Nat}:mulX a b<18446744073709551616:=by
 unfold mulX
 repeat' split
 all_goals first|decide|exact(by unfold sig;split <;> decide)
theorem divX_lt {a b:Nat}:divX a b<18446744073709551616:=by
 unfold divX
 repeat' split
 all_goals first|decide|exact(by unfold sig;split <;> decide)
def fMul (a b:Nat) (m:Int):Nat:=if isM m=false then 9221120237041090560 else if pln a=false∨pln b=false then mulX a b else tfF (tM (tF a) (tF b)).1 true (tM (tF a) (tF b)).2.1 (tM (tF a) (tF b)).2.2 m
def fDiv (a b:Nat) (m:Int):Nat:=if isM m=false then 9221120237041090560 else if pln a=false∨pln b=false then divX a b else rtF (tF a) (tF b) m
theorem tfM_lt (ex:Bool) (x:Nat):tfM ex x<18446744073709551616:=by
 have h1:x<2^(tfD x+64):=Nat.lt_of_lt_of_le (lt_bl x) (Nat.pow_le_pow_right (by decide) (by unfold tfD;omega))
 rw[Nat.pow_add] at h1
 have h2:x / 2^tfD x<2^64:=Nat.div_lt_of_lt_mul h1
 have h3:x / 2^tfD x ||| 1<2^64:=Nat.or_lt_two_pow h2 (by decide)
 unfold tfM
 split
 ·exact h2
 ·exact h3
theorem tfF_lt' {s ex:Bool} {x:Nat} {e m:Int} (hm:1≤m∧m≤3):tfF s ex x e m<18446744073709551616:=by
 unfold tfF Ie.mk
 rw[if_pos (by omega)]
 refine sig_lt ?_
 split
 ·omega
 ·rename_i h0
  have:=Ie.bod_bounds (tfM ex x) (e+(tfD x:Int)) (Ie.wy s m) (tfM_lt ex x) h0
  omega
theorem rtF_lt {t1 t2:Bool×Nat×Int} {m:Int} (hm:1≤m∧m≤3):rtF t1 t2 m<18446744073709551616:=tfF_lt' hm
theorem fMul_lt {a b:Nat} {m:Int}:fMul a b m<18446744073709551616:=by
 unfold fMul
 split
 ·decide
 ·rename_i h
  split
  ·exact mulX_lt
  ·exact tfF_lt (isM_iff.1 (by simpa using h))
theorem fDiv_lt {a b:Nat} {m:Int}:fDiv a b m<18446744073709551616:=by
 unfold fDiv
 split
 ·decide
 ·rename_i h
  split
  ·exact divX_lt
  ·exact rtF_lt (isM_iff.1 (by simpa using h))
theorem pmul_all (a b:Nat) (m:Int) (ha:a<18446744073709551616) (hb:b<18446744073709551616) (w:World) (hT:Tab32 w) (hI:Ie.Tab w) :
  Calls Tryz.prog 57 #[.float .f64 a,.float .f64 b,.int .i64 m] w fun r w'=>OutF2 w (fMul a b m) r w':=by
 unfold fMul
 cases hm:isM m
 ·rw[if_pos rfl]
  refine(pmul_no a b m w hm).mono ?_
  rintro r w' ⟨rfl,hb⟩
  exact⟨_,rfl,lk.nan (by decide) (by decide) (by decide),hb⟩
 ·rw[if_neg (by decide)]
  have hm':=isM_iff.1 hm
  by_cases hp:pln a=false∨pln b=false
  ·rw[if_pos hp]
   have hr:Rn .mul a b (mulX a b):=rn_of (by simp) (mul_non ha hb hp)
   cases h:pln a
   ·exact pmul_na a b _ m w hm (pplain_f a ha h) hr mulX_lt
   ·exact pmul_nb a b _ m w hm (pplain_t a ha h) (pplain_f b hb (by rcases hp with h'|h';rw[h] at h';cases h';exact h')) hr mulX_lt
  ·rw[if_neg hp]
   have pa:pln a=true:=by cases h:pln a;exact absurd (.inl h) hp;rfl
   have pb:pln b=true:=by cases h:pln b;exact absurd (.inr h) hp;rfl
   have hok:Ok (tM (tF a) (tF b)):=tM_ok (tM_okR a b)
   refine(pmul_r a b _ m (tF a) (tF b) (tM (tF a) (tF b)) w hm (pplain_t a ha pa) (pplain_t b hb pb) (exact_ok a ha (pln_true.1 pa).1 w hT hI) (fun W h=>exact_ok b hb (pln_true.1 pb).1 W (hT.later h) (Tab.later hI h)) (fun W X Y h h1 h2=>multiplied_op (mul_op (tF_ok a) (tF_ok b) (tM_okR a b)) (hT.later h) h1 h2) (fun W X h h1=>prounded (hT.later h) hok h1 hm')).mono ?_
   rintro r w' ⟨rfl,hb'⟩
   exact⟨_,rfl,lk.refl (tfF_lt hm'),hb'⟩
theorem pdiv_all (a b:Nat) (m:Int) (ha:a<18446744073709551616) (hb:b<18446744073709551616) (w:World) (hT:Tab32 w) (hI:Ie.Tab w) :
  Calls Tryz.prog 59 #[.float .f64 a,.float .f64 b,.int .i64 m] w fun r w'=>OutF2 w (fDiv a b m) r w':=by
 unfold fDiv
 cases hm:isM m
 ·rw[if_pos rfl]
  refine(pdiv_no a b m w hm).mono ?_
  rintro r w' ⟨rfl,hb⟩
  exact⟨_,rfl,lk.nan (by decide) (by decide) (by decide),hb⟩
 ·rw[if_neg (by decide)]
  have hm':=isM_iff.1 hm
  by_cases hp:pln a=false∨pln b=false
  ·rw[if_pos hp]
   have hr:Rn .quo a b (divX a b):=rn_of (by simp) (div_non ha hb hp)
   cases h:pln a
   ·exact pdiv_na a b _ m w hm (pplain_f a ha h) hr divX_lt
   ·exact pdiv_nb a b _ m w hm (pplain_t a ha h) (pplain_f b hb (by rcases hp with h'|h';rw[h] at h';cases h';exact h')) hr divX_lt
  ·rw[if_neg hp]
   have pa:pln a=true:=by cases h:pln a;exact absurd (.inl h) hp;rfl
   have pb:pln b=true:=by cases h:pln b;exact absurd (.inr h) hp;rfl
   refine(pdiv_ok a b m w hm hT hI ha hb (pln_true.1 pa).1 (pln_true.1 pb).1 (pln_true.1 pa).2 (pln_true.1 pb).2 (tF_ne (pln_true.1 pa).2) (tF_ne (pln_true.1 pb).2)).mono ?_
   rintro r w' ⟨rfl,hb'⟩
   exact⟨_,rfl,lk.refl (rtF_lt hm'),hb'⟩
end Go.Proofs.YtjiolfnchiioaaaGreatDoor
namespace Go.Proofs.YtjiolfnchiioaaaGreatDoor
open Go.RowKit Go.Fl64
open Ie
end Go.Proofs.YtjiolfnchiioaaaGreatDoor
namespace Go.Proofs.YtjiolfnchiioaaaGreatDoor
open Go.RowKit Go.Fl64
end Go.Proofs.YtjiolfnchiioaaaGreatDoor
namespace Go.Proofs.YtjiolfnchiioaaaGreatDoor
open Go.RowKit
theorem rmag_1 (na nb:Bool) (ua va:Option Addr) (un uc vn vc:Nat) (ea eb ha hb:Int) (w:World) (hn1:((un:Int)==0)=false) (hn2:((vn:Int)==0)=false)
  (hh1 : -64000000000≤ha) (hh2:ha≤64000000000) (hh3 : -64000000000≤hb) (hh4:hb≤64000000000) (hne:ha≠hb)
  (kA:∀ W,Bw w W→Calls Tryz.prog 65 #[.agg #[.bool na,.slice ua un uc,.int .i64 ea]] W fun r w'=>r=.returned (.int .i64 ha)∧Bw W w')
  (kB:∀ W,Bw w W→Calls Tryz.prog 65 #[.agg #[.bool nb,.slice va vn vc,.int .i64 eb]] W fun r w'=>r=.returned (.int .i64 hb)∧Bw W w') :
  Calls Tryz.prog 81 #[.agg #[.bool na,.slice ua un uc,.int .i64 ea],.agg #[.bool nb,.slice va vn vc,.int .i64 eb]] w fun r w'=>r=.returned (.int .i64 (ha - hb))∧Bw w w':=by
 obtain⟨W,hW⟩:∃ W,W=(w.alloc (.cells #[.bool na,.slice ua un uc,.int .i64 ea] 44)).alloc (.cells #[.bool nb,.slice va vn vc,.int .i64 eb] 44):=⟨_,rfl⟩
 obtain⟨hA,hBb,hsz,hBW⟩:=two29 _ _ hW
 have HX:Hid (Bw w W):=hBW
 have kA':∀ w4,Bw W w4→Calls Tryz.prog 65 #[.agg #[.bool na,.slice ua un uc,.int .i64 ea]] w4 fun r w'=>r=.returned (.int .i64 ha)∧Bw W w':=fun w4 h4=>(kA w4 (hBW.trans (h4.mono hBW.size))).mono fun r w' ⟨e1,o2⟩=>⟨e1,h4.trans (o2.mono h4.size)⟩
 have kB':∀ w4,Bw W w4→Calls Tryz.prog 65 #[.agg #[.bool nb,.slice va vn vc,.int .i64 eb]] w4 fun r w'=>r=.returned (.int .i64 hb)∧Bw W w':=fun w4 h4=>(kB w4 (hBW.trans (h4.mono hBW.size))).mono fun r w' ⟨e1,o2⟩=>⟨e1,h4.trans (o2.mono h4.size)⟩
 have HKA:Hid (∀ w4,Bw W w4→Calls Tryz.prog 65 #[.agg #[.bool na,.slice ua un uc,.int .i64 ea]] w4 fun r w'=>r=.returned (.int .i64 ha)∧Bw W w'):=kA'
 have HKB:Hid (∀ w4,Bw W w4→Calls Tryz.prog 65 #[.agg #[.bool nb,.slice va vn vc,.int .i64 eb]] w4 fun r w'=>r=.returned (.int .i64 hb)∧Bw W w'):=kB'
 obtain⟨⟨a0,a1,a2⟩,-⟩:=box_cells29 hA
 obtain⟨⟨b0,b1,b2⟩,-⟩:=box_cells29 hBb
 have HK:Hid (∀ w',Bw W w'→((w'.cell? ⟨w.heap.size,0,none⟩=some (.bool na)∧w'.cell? ⟨w.heap.size,1,none⟩=some (.slice ua un uc)∧w'.cell? ⟨w.heap.size,2,none⟩=some (.int .i64 ea))∧(w'.cell? ⟨w.heap.size+1,0,none⟩=some (.bool nb)∧w'.cell? ⟨w.heap.size+1,1,none⟩=some (.slice va vn vc)∧w'.cell? ⟨w.heap.size+1,2,none⟩=some (.int .i64 eb)))):=fun w' hb=>⟨(box_cells29 (box_later hA hb (by omega))).1,(box_cells29 (box_later hBb hb (by omega))).1⟩
 have HRD:Hid (∀ w',Bw W w'→Bw W w'.drew):=fun w' h=>h.trans ⟨rfl,rfl,rfl,Nat.le_refl _,fun _ _=>rfl⟩
 have hBR:Bw W W.drew:=(Below.refl _ _).drew
 have HZ:Hid (IntKind.i64.wrap (ha - hb)=ha - hb):=(by rw[IntKind.wrap_i64];omega:IntKind.i64.wrap (ha - hb)=ha - hb)
 have hne':(ha==hb)=false:=by simpa using hne
 clear kA kB hA hBb hsz hBW hne hh1 hh2 hh3 hh4
 go_enter Tryz.func81,Tryz.ntmps81
 go_upto_region 3 with fail
 rw[←hW]
 clear hW
 go_cut [24] from 25 to 29 (fun v w'=>v=.bool true∧Hid (Bw W w'))
 case first =>
  go_region_held3 (fun w'=>((w'.cell? ⟨w.heap.size,0,none⟩=some (.bool na)∧w'.cell? ⟨w.heap.size,1,none⟩=some (.slice ua un uc)∧w'.cell? ⟨w.heap.size,2,none⟩=some (.int .i64 ea))∧(w'.cell? ⟨w.heap.size+1,0,none⟩=some (.bool nb)∧w'.cell? ⟨w.heap.size+1,1,none⟩=some (.slice va vn vc)∧w'.cell? ⟨w.heap.size+1,2,none⟩=some (.int .i64 eb)))) (first|(with_reducible assumption)|exact⟨⟨a0,a1,a2⟩,b0,b1,b2⟩|(refine HK.out _ ?_;with_reducible assumption)|go_keep)
   (first|(go_at_call 65;first|(with_reducible refine(kA' _ (by first|(with_reducible assumption)|exact hBR)).mono ?_;rintro r w5 ⟨rfl,hb5⟩)|(with_reducible refine(kB' _ (by first|(with_reducible assumption)|exact hBR)).mono ?_;rintro r w6 ⟨rfl,hb6⟩)))
  all_goals go_wp2_with fail
  all_goals go_meet
  all_goals exact⟨by rw[bne,hne'];rfl,by first|exact hb6|exact hb5⟩
 case rest =>
  obtain⟨rfl,hc⟩:=hcut
  obtain⟨W2,rfl⟩:∃ W2:World,W2=wc:=⟨_,rfl⟩
  clear a0 a1 a2 b0 b1 b2 kA' kB' hBR
  obtain⟨⟨a0,a1,a2⟩,b0,b1,b2⟩:=HK.out W2 hc.out
  have hBR:Bw W W2.drew:=HRD.out _ hc.out
  have kA':=HKA.out
  have kB':=HKB.out
  go_upto_region 4 with fail
  go_region_held3 (fun w'=>((w'.cell? ⟨w.heap.size,0,none⟩=some (.bool na)∧w'.cell? ⟨w.heap.size,1,none⟩=some (.slice ua un uc)∧w'.cell? ⟨w.heap.size,2,none⟩=some (.int .i64 ea))∧(w'.cell? ⟨w.heap.size+1,0,none⟩=some (.bool nb)∧w'.cell? ⟨w.heap.size+1,1,none⟩=some (.slice va vn vc)∧w'.cell? ⟨w.heap.size+1,2,none⟩=some (.int .i64 eb)))) (first|(with_reducible assumption)|exact⟨⟨a0,a1,a2⟩,b0,b1,b2⟩|(refine HK.out _ ?_;with_reducible assumption)|go_keep)
   (first|(go_at_call 65;first|(with_reducible refine(kA' _ (by first|(with_reducible assumption)|exact hBR)).mono ?_;rintro r w5 ⟨rfl,hb5⟩)|(with_reducible refine(kB' _ (by first|(with_reducible assumption)|exact hBR)).mono ?_;rintro r w6 ⟨rfl,hb6⟩)))
  all_goals (have HL5:Hid (Bw W w5):=hb5;have HL6:Hid (Bw W w6):=hb6;clear kA' kB' HK HKA HKB a0 a1 a2 b0 b1 b2 hBR hb5 hb6;go_wp2;go_ret;first|exact⟨by rw[HZ.out];rfl,HX.out.trans (HL6.out.mono HX.out.size)⟩|exact⟨by rw[HZ.out];rfl,HX.out.trans (HL5.out.mono HX.out.size)⟩)
theorem rmag_2 (na nb:Bool) (ua va:Option Addr) (un uc vn vc X Y:Nat) (ea eb ha:Int) (w:World) (hn1:((un:Int)==0)=false) (hn2:((vn:Int)==0)=false) (hX:dlen X≤1000000) (hY:dlen Y≤1000000)
  (he1 : -4000000≤ea) (he2:ea≤4000000) (he3 : -4000000≤eb) (he4:eb≤4000000)
  (kA:∀ W,Bw w W→Calls Tryz.prog 65 #[.agg #[.bool na,.slice ua un uc,.int .i64 ea]] W fun r w'=>r=.returned (.int .i64 ha)∧Bw W w')
  (kB:∀ W,Bw w W→Calls Tryz.prog 65 #[.agg #[.bool nb,.slice va vn vc,.int .i64 eb]] W fun r w'=>r=.returned (.int .i64 ha)∧Bw W w')
  (ku:∀ W i,Bw w W→i=ea - min ea eb→Calls Tryz.prog 68 #[.slice ua un uc,.int .i64 i] W fun r w'=>∃ v,r=.returned v∧Ir w' v X∧Bw W w')
  (kv:∀ W i,Bw w W→i=eb - min ea eb→Calls Tryz.prog 68 #[.slice va vn vc,.int .i64 i] W fun r w'=>∃ v,r=.returned v∧Ir w' v Y∧Bw W w') :
  Calls Tryz.prog 81 #[.agg #[.bool na,.slice ua un uc,.int .i64 ea],.agg #[.bool nb,.slice va vn vc,.int .i64 eb]] w fun r w'=>r=.returned (.int .i64 (cmpI X Y))∧Bw w w':=by
 obtain⟨W,hW⟩:∃ W,W=(w.alloc (.cells #[.bool na,.slice ua un uc,.int .i64 ea] 44)).alloc (.cells #[.bool nb,.slice va vn vc,.int .i64 eb] 44):=⟨_,rfl⟩
 obtain⟨hA,hBb,hsz,hBW⟩:=two29 _ _ hW
 have HX:Hid (Bw w W):=hBW
 have kA':∀ w4,Bw W w4→Calls Tryz.prog 65 #[.agg #[.bool na,.slice ua un uc,.int .i64 ea]] w4 fun r w'=>r=.returned (.int .i64 ha)∧Bw W w':=fun w4 h4=>(kA w4 (hBW.trans (h4.mono hBW.size))).mono fun r w' ⟨e1,o2⟩=>⟨e1,h4.trans (o2.mono h4.size)⟩
 have kB':∀ w4,Bw W w4→Calls Tryz.prog 65 #[.agg #[.bool nb,.slice va vn vc,.int .i64 eb]] w4 fun r w'=>r=.returned (.int .i64 ha)∧Bw W w':=fun w4 h4=>(kB w4 (hBW.trans (h4.mono hBW.size))).mono fun r w' ⟨e1,o2⟩=>⟨e1,h4.trans (o2.mono h4.size)⟩
 obtain⟨i1,hi1⟩:∃ i1,i1=ea - min ea eb:=⟨_,rfl⟩
 obtain⟨i2,hi2⟩:∃ i2,i2=eb - min ea eb:=⟨_,rfl⟩
 have HKU:Hid (∀ w4,Bw W w4→Calls Tryz.prog 68 #[.slice ua un uc,.int .i64 i1] w4 fun r w'=>∃ v,r=.returned v∧Ir w' v X∧Bw W w'∧Bw w4 w'):=(fun w4 h4=>(ku w4 i1 (hBW.trans (h4.mono hBW.size)) hi1).mono fun r w' ⟨v,e1,o1,o2⟩=>⟨v,e1,o1,h4.trans (o2.mono h4.size),o2⟩:∀ w4,Bw W w4→Calls Tryz.prog 68 #[.slice ua un uc,.int .i64 i1] w4 fun r w'=>∃ v,r=.returned v∧Ir w' v X∧Bw W w'∧Bw w4 w')
 have HKV:Hid (∀ w4,Bw W w4→Calls Tryz.prog 68 #[.slice va vn vc,.int .i64 i2] w4 fun r w'=>∃ v,r=.returned v∧Ir w' v Y∧Bw W w'∧Bw w4 w'):=(fun w4 h4=>(kv w4 i2 (hBW.trans (h4.mono hBW.size)) hi2).mono fun r w' ⟨v,e1,o1,o2⟩=>⟨v,e1,o1,h4.trans (o2.mono h4.size),o2⟩:∀ w4,Bw W w4→Calls Tryz.prog 68 #[.slice va vn vc,.int .i64 i2] w4 fun r w'=>∃ v,r=.returned v∧Ir w' v Y∧Bw W w'∧Bw w4 w')
 have kO:∀ w4 p q,Ir w4 p X→Ir w4 q Y→Bw W w4→Calls Tryz.prog 74 #[p,q] w4 fun r w'=>r=.returned (.int .i64 (cmpI X Y))∧Bw W w':=fun w4 p q hp hq h4=>(rord hp hq (by omega) (by omega)).mono fun r w' ⟨e1,d,e2⟩=>⟨e1,by rw[e2];exact h4.trans ⟨rfl,rfl,rfl,Nat.le_refl _,fun _ _=>rfl⟩⟩
 have HKO:Hid _:=kO
 obtain⟨⟨a0,a1,a2⟩,-⟩:=box_cells29 hA
 obtain⟨⟨b0,b1,b2⟩,-⟩:=box_cells29 hBb
 have HK:Hid (∀ w',Bw W w'→((w'.cell? ⟨w.heap.size,0,none⟩=some (.bool na)∧w'.cell? ⟨w.heap.size,1,none⟩=some (.slice ua un uc)∧w'.cell? ⟨w.heap.size,2,none⟩=some (.int .i64 ea))∧(w'.cell? ⟨w.heap.size+1,0,none⟩=some (.bool nb)∧w'.cell? ⟨w.heap.size+1,1,none⟩=some (.slice va vn vc)∧w'.cell? ⟨w.heap.size+1,2,none⟩=some (.int .i64 eb)))):=fun w' hb=>⟨(box_cells29 (box_later hA hb (by omega))).1,(box_cells29 (box_later hBb hb (by omega))).1⟩
 have HRD:Hid (∀ w',Bw W w'→Bw W w'.drew):=fun w' h=>h.trans ⟨rfl,rfl,rfl,Nat.le_refl _,fun _ _=>rfl⟩
 have hBR:Bw W W.drew:=(Below.refl _ _).drew
 have HI:Hid (∀ i,(i=ea - min ea eb∨i=IntKind.i64.wrap (ea - min ea eb))→i=i1):=(fun i h=>by rw[IntKind.wrap_i64] at h;omega:∀ i,(i=ea - min ea eb∨i=IntKind.i64.wrap (ea - min ea eb))→i=i1)
 have HJ:Hid (∀ i,(i=eb - min ea eb∨i=IntKind.i64.wrap (eb - min ea eb))→i=i2):=(fun i h=>by rw[IntKind.wrap_i64] at h;omega:∀ i,(i=eb - min ea eb∨i=IntKind.i64.wrap (eb - min ea eb))→i=i2)
 obtain⟨c,hc⟩:∃ c,c=cmpI X Y:=⟨_,rfl⟩
 rw[←hc] at HKO ⊢
 clear kA kB ku kv kO hA hBb hsz hBW hX hY hi1 hi2 hc
 go_enter Tryz.func81,Tryz.ntmps81
 go_upto_region 3 with fail
 rw[←hW]
 clear hW
 go_cut [24] from 25 to 29 (fun v w'=>v=.bool false∧Hid (Bw W w'))
 case first =>
  go_region_held3 (fun w'=>((w'.cell? ⟨w.heap.size,0,none⟩=some (.bool na)∧w'.cell? ⟨w.heap.size,1,none⟩=some (.slice ua un uc)∧w'.cell? ⟨w.heap.size,2,none⟩=some (.int .i64 ea))∧(w'.cell? ⟨w.heap.size+1,0,none⟩=some (.bool nb)∧w'.cell? ⟨w.heap.size+1,1,none⟩=some (.slice va vn vc)∧w'.cell? ⟨w.heap.size+1,2,none⟩=some (.int .i64 eb)))) (first|(with_reducible assumption)|exact⟨⟨a0,a1,a2⟩,b0,b1,b2⟩|(refine HK.out _ ?_;with_reducible assumption)|go_keep)
   (first|(go_at_call 65;first|(with_reducible refine(kA' _ (by first|(with_reducible assumption)|exact hBR)).mono ?_;rintro r w5 ⟨rfl,hb5⟩)|(with_reducible refine(kB' _ (by first|(with_reducible assumption)|exact hBR)).mono ?_;rintro r w6 ⟨rfl,hb6⟩)))
  all_goals go_wp2_with fail
  all_goals go_meet
  all_goals exact⟨by first|rfl|simp,by first|exact hb6|exact hb5⟩
 case rest =>
  obtain⟨rfl,hc⟩:=hcut
  obtain⟨W2,rfl⟩:∃ W2:World,W2=wc:=⟨_,rfl⟩
  clear a0 a1 a2 b0 b1 b2 kA' kB' hBR
  obtain⟨⟨a0,a1,a2⟩,b0,b1,b2⟩:=HK.out W2 hc.out
  have hBR:Bw W W2.drew:=HRD.out _ hc.out
  have kU:∀ i w4,(i=ea - min ea eb∨i=IntKind.i64.wrap (ea - min ea eb))→Bw W w4→Calls Tryz.prog 68 #[.slice ua un uc,.int .i64 i] w4 fun r w'=>∃ v,r=.returned v∧Ir w' v X∧Bw W w'∧Bw w4 w':=fun i w4 hi=>by rw[HI.out i hi];exact HKU.out w4
  have kV:∀ i w4,(i=eb - min ea eb∨i=IntKind.i64.wrap (eb - min ea eb))→Bw W w4→Calls Tryz.prog 68 #[.slice va vn vc,.int .i64 i] w4 fun r w'=>∃ v,r=.returned v∧Ir w' v Y∧Bw W w'∧Bw w4 w':=fun i w4 hi=>by rw[HJ.out i hi];exact HKV.out w4
  have kO:=HKO.out
  go_upto_region 6 with fail
  go_region_held3 (fun w'=>((w'.cell? ⟨w.heap.size,0,none⟩=some (.bool na)∧w'.cell? ⟨w.heap.size,1,none⟩=some (.slice ua un uc)∧w'.cell? ⟨w.heap.size,2,none⟩=some (.int .i64 ea))∧(w'.cell? ⟨w.heap.size+1,0,none⟩=some (.bool nb)∧w'.cell? ⟨w.heap.size+1,1,none⟩=some (.slice va vn vc)∧w'.cell? ⟨w.heap.size+1,2,none⟩=some (.int .i64 eb)))) (first|(with_reducible assumption)|exact⟨⟨a0,a1,a2⟩,b0,b1,b2⟩|(refine HK.out _ ?_;with_reducible assumption)|go_keep)
   (first|(go_at_call 68;first|(with_reducible refine(kU _ _ (by first|exact .inl rfl|exact .inr rfl) (by first|(with_reducible assumption)|exact hBR)).mono ?_;rintro r w5 ⟨p5,rfl,hp5,hb5,hc5⟩)|(with_reducible refine(kV _ _ (by first|exact .inl rfl|exact .inr rfl) (by first|(with_reducible assumption)|exact hBR)).mono ?_;rintro r w6 ⟨p6,rfl,hp6,hb6,hc6⟩))|(go_at_call 74;first|(with_reducible refine(kO _ _ _ (hp5.later hc6) hp6 hb6).mono ?_;rintro r w7 ⟨rfl,hb7⟩)|(with_reducible refine(kO _ _ _ hp5 (hp6.later hc5) hb5).mono ?_;rintro r w7 ⟨rfl,hb7⟩)))
  all_goals (have HL7:Hid (Bw W w7):=hb7;clear kU kV kO HK HKU HKV HKO a0 a1 a2 b0 b1 b2 hBR hb5 hb6 hb7 hp5 hp6 hc5 hc6;go_wp2;go_ret;exact⟨rfl,HX.out.trans (HL7.out.mono HX.out.size)⟩)
theorem rmag_0 (na nb:Bool) (ua va:Option Addr) (un uc vn vc:Nat) (ea eb:Int) (w:World) (h0:un=0∨vn=0) (hn1:un≤35184372088832) (hn2:vn≤35184372088832) :
  Calls Tryz.prog 81 #[.agg #[.bool na,.slice ua un uc,.int .i64 ea],.agg #[.bool nb,.slice va vn vc,.int .i64 eb]] w fun r w'=>r=.returned (.int .i64 ((un:Int) - vn))∧Bw w w':=by
 obtain⟨W,hW⟩:∃ W,W=(w.alloc (.cells #[.bool na,.slice ua un uc,.int .i64 ea] 44)).alloc (.cells #[.bool nb,.slice va vn vc,.int .i64 eb] 44):=⟨_,rfl⟩
 obtain⟨hA,hBb,hsz,hBW⟩:=two29 _ _ hW
 have HX:Hid (Bw w W):=hBW
 obtain⟨⟨a0,a1,a2⟩,-⟩:=box_cells29 hA
 obtain⟨⟨b0,b1,b2⟩,-⟩:=box_cells29 hBb
 rw[hW] at a0 a1 a2 b0 b1 b2
 have hw:IntKind.i64.wrap ((un:Int) - vn)=(un:Int) - vn:=by rw[IntKind.wrap_i64];omega
 have HD:Hid ((un:Int) - vn=(un:Int) - vn):=rfl
 clear hA hBb hsz hBW
 by_cases hu:un=0
 ·subst hu
  clear h0
  go_enter Tryz.func81,Tryz.ntmps81
  go_wp2
  go_ret
  exact⟨by simp,hW ▸ HX.out⟩
 ·obtain rfl:vn=0:=by omega
  have hu1:((un:Int)==0)=false:=by simp;omega
  clear h0 hu
  go_enter Tryz.func81,Tryz.ntmps81
  go_wp2
  go_ret
  exact⟨by simp,hW ▸ HX.out⟩
def magI (x:Nat) (ea:Int) (y:Nat) (eb:Int):Int:=if x=0∨y=0 then(dlen x:Int) - dlen y else if(bl x:Int)+ea=bl y+eb then cmpI (x*2^(ea - min ea eb).toNat:Nat) (y*2^(eb - min ea eb).toNat:Nat) else(bl x:Int)+ea - (bl y+eb)
theorem rmag {na nb:Bool} {ua va:Option Addr} {uc vc x y:Nat} {ea eb:Int} {w:World} (h1:Arg w ua (dlen x) uc x) (h2:Arg w va (dlen y) vc y) (hx:dlen x≤400000) (hy:dlen y≤400000) (ha : -2000000≤ea∧ea≤2000000) (hb : -2000000≤eb∧eb≤2000000) :
  Calls Tryz.prog 81 #[.agg #[.bool na,.slice ua (dlen x) uc,.int .i64 ea],.agg #[.bool nb,.slice va (dlen y) vc,.int .i64 eb]] w fun r w'=>r=.returned (.int .i64 (magI x ea y eb))∧Bw w w':=by
 unfold magI
 by_cases h0:x=0∨y=0
 ·rw[if_pos h0]
  exact rmag_0 na nb ua va _ uc _ vc ea eb w (h0.imp (fun h=>by rw[h,dlen_zero]) (fun h=>by rw[h,dlen_zero])) (by omega) (by omega)
 ·rw[if_neg h0]
  have hx0:x≠0:=fun e=>h0 (.inl e)
  have hy0:y≠0:=fun e=>h0 (.inr e)
  have b1:=bl_le_dlen x
  have b2:=bl_le_dlen y
  have kA:∀ W,Bw w W→Calls Tryz.prog 65 #[.agg #[.bool na,.slice ua (dlen x) uc,.int .i64 ea]] W fun r w'=>r=.returned (.int .i64 (bl x+ea))∧Bw W w':=fun W hW=>rhigh (h1.later hW).at_ hx0 (by omega) (by omega)
  have kB:∀ W,Bw w W→Calls Tryz.prog 65 #[.agg #[.bool nb,.slice va (dlen y) vc,.int .i64 eb]] W fun r w'=>r=.returned (.int .i64 (bl y+eb))∧Bw W w':=fun W hW=>rhigh (h2.later hW).at_ hy0 (by omega) (by omega)
  by_cases ht:(bl x:Int)+ea=bl y+eb
  ·rw[if_pos ht]
   rw[←ht] at kB
   have l1:dlen (x*2^(ea - min ea eb).toNat)≤760000:=by have:=shl_len (x:=x) (k:=(ea - min ea eb).toNat) rfl;omega
   have l2:dlen (y*2^(eb - min ea eb).toNat)≤760000:=by have:=shl_len (x:=y) (k:=(eb - min ea eb).toNat) rfl;omega
   refine rmag_2 na nb ua va _ uc _ vc _ _ ea eb _ w (len_ne (n:=0) hx0) (len_ne (n:=0) hy0) (by omega) (by omega) (by omega) (by omega) (by omega) (by omega) kA kB (fun W i hW hi=>?_) (fun W i hW hi=>?_)
   ·have hik:i=(((ea - min ea eb).toNat:Nat):Int):=by omega
    rw[hik]
    exact rup ⟨ua,uc,rfl,h1.le,(h1.later hW).at_⟩ _ (by omega) (by omega)
   ·have hik:i=(((eb - min ea eb).toNat:Nat):Int):=by omega
    rw[hik]
    exact rup ⟨va,vc,rfl,h2.le,(h2.later hW).at_⟩ _ (by omega) (by omega)
  ·rw[if_neg ht]
   exact rmag_1 na nb ua va _ uc _ vc ea eb _ _ w (len_ne (n:=0) hx0) (len_ne (n:=0) hy0) (by omega) (by omega) (by omega) (by omega) ht kA kB
theorem rorder_lt (na nb:Bool) (ua va:Option Addr) (un uc vn vc:Nat) (ea eb sa sb c:Int) (w:World) (hs:sa<sb)
  (kA:∀ W,Bw w W→Calls Tryz.prog 52 #[.agg #[.bool na,.slice ua un uc,.int .i64 ea]] W fun r w'=>r=.returned (.int .i64 sa)∧Bw W w')
  (kB:∀ W,Bw w W→Calls Tryz.prog 52 #[.agg #[.bool nb,.slice va vn vc,.int .i64 eb]] W fun r w'=>r=.returned (.int .i64 sb)∧Bw W w') :
  Calls Tryz.prog 53 #[.agg #[.bool na,.slice ua un uc,.int .i64 ea],.agg #[.bool nb,.slice va vn vc,.int .i64 eb]] w fun r w'=>r=.returned (.int .i64 (-1))∧Bw w w':=by
 obtain⟨W,hW⟩:∃ W,W=(w.alloc (.cells #[.bool na,.slice ua un uc,.int .i64 ea] 44)).alloc (.cells #[.bool nb,.slice va vn vc,.int .i64 eb] 44):=⟨_,rfl⟩
 obtain⟨hA,hBb,hsz,hBW⟩:=two29 _ _ hW
 have HX:Hid (Bw w W):=hBW
 have kA':∀ w4,Bw W w4→Calls Tryz.prog 52 #[.agg #[.bool na,.slice ua un uc,.int .i64 ea]] w4 fun r w'=>r=.returned (.int .i64 sa)∧Bw W w':=fun w4 h4=>(kA w4 (hBW.trans (h4.mono hBW.size))).mono fun r w' ⟨e1,o2⟩=>⟨e1,h4.trans (o2.mono h4.size)⟩
 have kB':∀ w4,Bw W w4→Calls Tryz.prog 52 #[.agg #[.bool nb,.slice va vn vc,.int .i64 eb]] w4 fun r w'=>r=.returned (.int .i64 sb)∧Bw W w':=fun w4 h4=>(kB w4 (hBW.trans (h4.mono hBW.size))).mono fun r w' ⟨e1,o2⟩=>⟨e1,h4.trans (o2.mono h4.size)⟩
 obtain⟨⟨a0,a1,a2⟩,-⟩:=box_cells29 hA
 obtain⟨⟨b0,b1,b2⟩,-⟩:=box_cells29 hBb
 have HK:Hid (∀ w',Bw W w'→((w'.cell? ⟨w.heap.size,0,none⟩=some (.bool na)∧w'.cell? ⟨w.heap.size,1,none⟩=some (.slice ua un uc)∧w'.cell? ⟨w.heap.size,2,none⟩=some (.int .i64 ea))∧(w'.cell? ⟨w.heap.size+1,0,none⟩=some (.bool nb)∧w'.cell? ⟨w.heap.size+1,1,none⟩=some (.slice va vn vc)∧w'.cell? ⟨w.heap.size+1,2,none⟩=some (.int .i64 eb)))):=fun w' hb=>⟨(box_cells29 (box_later hA hb (by omega))).1,(box_cells29 (box_later hBb hb (by omega))).1⟩
 have HRD:Hid (∀ w',Bw W w'→Bw W w'.drew):=fun w' h=>h.trans ⟨rfl,rfl,rfl,Nat.le_refl _,fun _ _=>rfl⟩
 have hBR:Bw W W.drew:=(Below.refl _ _).drew
 have hne:(sa==sb)=false:=by simp;omega
 have hne2:(sa != sb)=true:=by simp;omega
 clear kA kB hA hBb hsz hBW 
 go_enter Tryz.func53,Tryz.ntmps53
 go_upto_region 1 with fail
 rw[←hW]
 clear hW
 go_cut [5,6] from 8 to 11 (fun u v w'=>u=.int .i64 sa∧v=.int .i64 sb∧Hid (Bw W w'))
 case first =>
  go_region_held3 (fun w'=>((w'.cell? ⟨w.heap.size,0,none⟩=some (.bool na)∧w'.cell? ⟨w.heap.size,1,none⟩=some (.slice ua un uc)∧w'.cell? ⟨w.heap.size,2,none⟩=some (.int .i64 ea))∧(w'.cell? ⟨w.heap.size+1,0,none⟩=some (.bool nb)∧w'.cell? ⟨w.heap.size+1,1,none⟩=some (.slice va vn vc)∧w'.cell? ⟨w.heap.size+1,2,none⟩=some (.int .i64 eb)))) (first|(with_reducible assumption)|exact⟨⟨a0,a1,a2⟩,b0,b1,b2⟩|(refine HK.out _ ?_;with_reducible assumption)|go_keep)
   (first|(go_at_call 52;first|(with_reducible refine(kA' _ (by first|(with_reducible assumption)|exact hBR)).mono ?_;rintro r w5 ⟨rfl,hb5⟩)|(with_reducible refine(kB' _ (by first|(with_reducible assumption)|exact hBR)).mono ?_;rintro r w6 ⟨rfl,hb6⟩)))
  all_goals go_wp2_with fail
  all_goals go_meet
  all_goals exact⟨rfl,rfl,by first|exact hb6|exact hb5⟩
 case rest =>
  obtain⟨rfl,rfl,hc⟩:=hcut
  obtain⟨W2,rfl⟩:∃ W2:World,W2=wc:=⟨_,rfl⟩
  clear a0 a1 a2 b0 b1 b2 kA' kB' hBR
  go_wp2
  go_ret;exact⟨rfl,HX.out.trans (hc.out.mono HX.out.size)⟩
theorem rorder_gt (na nb:Bool) (ua va:Option Addr) (un uc vn vc:Nat) (ea eb sa sb c:Int) (w:World) (hs:¬ sa<sb) (hn:sa≠sb)
  (kA:∀ W,Bw w W→Calls Tryz.prog 52 #[.agg #[.bool na,.slice ua un uc,.int .i64 ea]] W fun r w'=>r=.returned (.int .i64 sa)∧Bw W w')
  (kB:∀ W,Bw w W→Calls Tryz.prog 52 #[.agg #[.bool nb,.slice va vn vc,.int .i64 eb]] W fun r w'=>r=.returned (.int .i64 sb)∧Bw W w') :
  Calls Tryz.prog 53 #[.agg #[.bool na,.slice ua un uc,.int .i64 ea],.agg #[.bool nb,.slice va vn vc,.int .i64 eb]] w fun r w'=>r=.returned (.int .i64 (1))∧Bw w w':=by
 obtain⟨W,hW⟩:∃ W,W=(w.alloc (.cells #[.bool na,.slice ua un uc,.int .i64 ea] 44)).alloc (.cells #[.bool nb,.slice va vn vc,.int .i64 eb] 44):=⟨_,rfl⟩
 obtain⟨hA,hBb,hsz,hBW⟩:=two29 _ _ hW
 have HX:Hid (Bw w W):=hBW
 have kA':∀ w4,Bw W w4→Calls Tryz.prog 52 #[.agg #[.bool na,.slice ua un uc,.int .i64 ea]] w4 fun r w'=>r=.returned (.int .i64 sa)∧Bw W w':=fun w4 h4=>(kA w4 (hBW.trans (h4.mono hBW.size))).mono fun r w' ⟨e1,o2⟩=>⟨e1,h4.trans (o2.mono h4.size)⟩
 have kB':∀ w4,Bw W w4→Calls Tryz.prog 52 #[.agg #[.bool nb,.slice va vn vc,.int .i64 eb]] w4 fun r w'=>r=.returned (.int .i64 sb)∧Bw W w':=fun w4 h4=>(kB w4 (hBW.trans (h4.mono hBW.size))).mono fun r w' ⟨e1,o2⟩=>⟨e1,h4.trans (o2.mono h4.size)⟩
 obtain⟨⟨a0,a1,a2⟩,-⟩:=box_cells29 hA
 obtain⟨⟨b0,b1,b2⟩,-⟩:=box_cells29 hBb
 have HK:Hid (∀ w',Bw W w'→((w'.cell? ⟨w.heap.size,0,none⟩=some (.bool na)∧w'.cell? ⟨w.heap.size,1,none⟩=some (.slice ua un uc)∧w'.cell? ⟨w.heap.size,2,none⟩=some (.int .i64 ea))∧(w'.cell? ⟨w.heap.size+1,0,none⟩=some (.bool nb)∧w'.cell? ⟨w.heap.size+1,1,none⟩=some (.slice va vn vc)∧w'.cell? ⟨w.heap.size+1,2,none⟩=some (.int .i64 eb)))):=fun w' hb=>⟨(box_cells29 (box_later hA hb (by omega))).1,(box_cells29 (box_later hBb hb (by omega))).1⟩
 have HRD:Hid (∀ w',Bw W w'→Bw W w'.drew):=fun w' h=>h.trans ⟨rfl,rfl,rfl,Nat.le_refl _,fun _ _=>rfl⟩
 have hBR:Bw W W.drew:=(Below.refl _ _).drew
 have hne:(sa==sb)=false:=by simp;omega
 have hne2:(sa != sb)=true:=by simp;omega
 clear kA kB hA hBb hsz hBW hn
 go_enter Tryz.func53,Tryz.ntmps53
 go_upto_region 1 with fail
 rw[←hW]
 clear hW
 go_cut [5,6] from 8 to 11 (fun u v w'=>u=.int .i64 sa∧v=.int .i64 sb∧Hid (Bw W w'))
 case first =>
  go_region_held3 (fun w'=>((w'.cell? ⟨w.heap.size,0,none⟩=some (.bool na)∧w'.cell? ⟨w.heap.size,1,none⟩=some (.slice ua un uc)∧w'.cell? ⟨w.heap.size,2,none⟩=some (.int .i64 ea))∧(w'.cell? ⟨w.heap.size+1,0,none⟩=some (.bool nb)∧w'.cell? ⟨w.heap.size+1,1,none⟩=some (.slice va vn vc)∧w'.cell? ⟨w.heap.size+1,2,none⟩=some (.int .i64 eb)))) (first|(with_reducible assumption)|exact⟨⟨a0,a1,a2⟩,b0,b1,b2⟩|(refine HK.out _ ?_;with_reducible assumption)|go_keep)
   (first|(go_at_call 52;first|(with_reducible refine(kA' _ (by first|(with_reducible assumption)|exact hBR)).mono ?_;rintro r w5 ⟨rfl,hb5⟩)|(with_reducible refine(kB' _ (by first|(with_reducible assumption)|exact hBR)).mono ?_;rintro r w6 ⟨rfl,hb6⟩)))
  all_goals go_wp2_with fail
  all_goals go_meet
  all_goals exact⟨rfl,rfl,by first|exact hb6|exact hb5⟩
 case rest =>
  obtain⟨rfl,rfl,hc⟩:=hcut
  obtain⟨W2,rfl⟩:∃ W2:World,W2=wc:=⟨_,rfl⟩
  clear a0 a1 a2 b0 b1 b2 kA' kB' hBR
  go_wp2
  go_ret;exact⟨rfl,HX.out.trans (hc.out.mono HX.out.size)⟩
theorem rorder_all (na nb:Bool) (ua va:Option Addr) (un uc vn vc:Nat) (ea eb sa sb c R:Int) (w:World) (hse0:sa=sb) (hcase:Hid ((0≤sa∧(c=0∧R=0∨0<c∧R=1∨c<0∧R = -1))∨(sa<0∧(c=0∧R=0∨0<c∧R = -1∨c<0∧R=1)))) (hc3 : -90000000000≤c) (hc4:c≤90000000000)
  (kA:∀ W,Bw w W→Calls Tryz.prog 52 #[.agg #[.bool na,.slice ua un uc,.int .i64 ea]] W fun r w'=>r=.returned (.int .i64 sa)∧Bw W w')
  (kB:∀ W,Bw w W→Calls Tryz.prog 52 #[.agg #[.bool nb,.slice va vn vc,.int .i64 eb]] W fun r w'=>r=.returned (.int .i64 sb)∧Bw W w')
  (kM:∀ W,Bw w W→Calls Tryz.prog 81 #[.agg #[.bool na,.slice ua un uc,.int .i64 ea],.agg #[.bool nb,.slice va vn vc,.int .i64 eb]] W fun r w'=>r=.returned (.int .i64 c)∧Bw W w') :
  Calls Tryz.prog 53 #[.agg #[.bool na,.slice ua un uc,.int .i64 ea],.agg #[.bool nb,.slice va vn vc,.int .i64 eb]] w fun r w'=>r=.returned (.int .i64 R)∧Bw w w':=by
 obtain⟨W,hW⟩:∃ W,W=(w.alloc (.cells #[.bool na,.slice ua un uc,.int .i64 ea] 44)).alloc (.cells #[.bool nb,.slice va vn vc,.int .i64 eb] 44):=⟨_,rfl⟩
 obtain⟨hA,hBb,hsz,hBW⟩:=two29 _ _ hW
 have HX:Hid (Bw w W):=hBW
 have kA':∀ w4,Bw W w4→Calls Tryz.prog 52 #[.agg #[.bool na,.slice ua un uc,.int .i64 ea]] w4 fun r w'=>r=.returned (.int .i64 sa)∧Bw W w':=fun w4 h4=>(kA w4 (hBW.trans (h4.mono hBW.size))).mono fun r w' ⟨e1,o2⟩=>⟨e1,h4.trans (o2.mono h4.size)⟩
 have kB':∀ w4,Bw W w4→Calls Tryz.prog 52 #[.agg #[.bool nb,.slice va vn vc,.int .i64 eb]] w4 fun r w'=>r=.returned (.int .i64 sb)∧Bw W w':=fun w4 h4=>(kB w4 (hBW.trans (h4.mono hBW.size))).mono fun r w' ⟨e1,o2⟩=>⟨e1,h4.trans (o2.mono h4.size)⟩
 have kM':∀ w4,Bw W w4→Calls Tryz.prog 81 #[.agg #[.bool na,.slice ua un uc,.int .i64 ea],.agg #[.bool nb,.slice va vn vc,.int .i64 eb]] w4 fun r w'=>r=.returned (.int .i64 c)∧Bw W w':=fun w4 h4=>(kM w4 (hBW.trans (h4.mono hBW.size))).mono fun r w' ⟨e1,o2⟩=>⟨e1,h4.trans (o2.mono h4.size)⟩
 have HKM:Hid (∀ w4,Bw W w4→Calls Tryz.prog 81 #[.agg #[.bool na,.slice ua un uc,.int .i64 ea],.agg #[.bool nb,.slice va vn vc,.int .i64 eb]] w4 fun r w'=>r=.returned (.int .i64 c)∧Bw W w'):=kM'
 obtain⟨⟨a0,a1,a2⟩,-⟩:=box_cells29 hA
 obtain⟨⟨b0,b1,b2⟩,-⟩:=box_cells29 hBb
 have HK:Hid (∀ w',Bw W w'→((w'.cell? ⟨w.heap.size,0,none⟩=some (.bool na)∧w'.cell? ⟨w.heap.size,1,none⟩=some (.slice ua un uc)∧w'.cell? ⟨w.heap.size,2,none⟩=some (.int .i64 ea))∧(w'.cell? ⟨w.heap.size+1,0,none⟩=some (.bool nb)∧w'.cell? ⟨w.heap.size+1,1,none⟩=some (.slice va vn vc)∧w'.cell? ⟨w.heap.size+1,2,none⟩=some (.int .i64 eb)))):=fun w' hb=>⟨(box_cells29 (box_later hA hb (by omega))).1,(box_cells29 (box_later hBb hb (by omega))).1⟩
 have HRD:Hid (∀ w',Bw W w'→Bw W w'.drew):=fun w' h=>h.trans ⟨rfl,rfl,rfl,Nat.le_refl _,fun _ _=>rfl⟩
 have hBR:Bw W W.drew:=(Below.refl _ _).drew
 have hse:(sa==sb)=true:=by simp;omega
 have hse2:(sa != sb)=false:=by simp;omega
 have HC:Hid (-90000000000≤c∧c≤90000000000):=⟨hc3,hc4⟩
 clear kA kB kM kM' hA hBb hsz hBW hc3 hc4 hse0
 go_enter Tryz.func53,Tryz.ntmps53
 go_upto_region 1 with fail
 rw[←hW]
 clear hW
 go_cut [5,6] from 8 to 11 (fun u v w'=>u=.int .i64 sa∧v=.int .i64 sb∧Hid (Bw W w'))
 case first =>
  go_region_held3 (fun w'=>((w'.cell? ⟨w.heap.size,0,none⟩=some (.bool na)∧w'.cell? ⟨w.heap.size,1,none⟩=some (.slice ua un uc)∧w'.cell? ⟨w.heap.size,2,none⟩=some (.int .i64 ea))∧(w'.cell? ⟨w.heap.size+1,0,none⟩=some (.bool nb)∧w'.cell? ⟨w.heap.size+1,1,none⟩=some (.slice va vn vc)∧w'.cell? ⟨w.heap.size+1,2,none⟩=some (.int .i64 eb)))) (first|(with_reducible assumption)|exact⟨⟨a0,a1,a2⟩,b0,b1,b2⟩|(refine HK.out _ ?_;with_reducible assumption)|go_keep)
   (first|(go_at_call 52;first|(with_reducible refine(kA' _ (by first|(with_reducible assumption)|exact hBR)).mono ?_;rintro r w5 ⟨rfl,hb5⟩)|(with_reducible refine(kB' _ (by first|(with_reducible assumption)|exact hBR)).mono ?_;rintro r w6 ⟨rfl,hb6⟩)))
  all_goals go_wp2_with fail
  all_goals go_meet
  all_goals exact⟨rfl,rfl,by first|exact hb6|exact hb5⟩
 case rest =>
  obtain⟨rfl,rfl,hc⟩:=hcut
  obtain⟨W2,rfl⟩:∃ W2:World,W2=wc:=⟨_,rfl⟩
  clear a0 a1 a2 b0 b1 b2 kA' kB' hBR
  have kM':=HKM.out W2 hc.out
  obtain⟨⟨a0,a1,a2⟩,b0,b1,b2⟩:=HK.out W2 hc.out
  go_wp2_with fail
  refine kM'.mono ?_
  rintro r w7 ⟨rfl,hb7⟩
  have HL7:Hid (Bw W w7):=hb7
  clear kM' HK HKM a0 a1 a2 b0 b1 b2 hb7
  rcases hcase.out with ⟨hs,h⟩|⟨hs,h⟩
  ·have hs1:¬ sa<0:=by omega
   rcases h with ⟨h,rfl⟩|⟨h,rfl⟩|⟨h,rfl⟩
   ·have hc1:¬ c<0:=by omega
    have hc2:¬ 0<c:=by omega
    clear h
    go_wp2
    go_ret
    exact⟨rfl,HX.out.trans (HL7.out.mono HX.out.size)⟩
   ·have hc1:¬ c<0:=by omega
    go_wp2
    go_ret
    exact⟨rfl,HX.out.trans (HL7.out.mono HX.out.size)⟩
   ·go_wp2
    go_ret
    exact⟨rfl,HX.out.trans (HL7.out.mono HX.out.size)⟩
  ·have hcb:=HC.out
   obtain⟨d,hd⟩:∃ d,d = -c:=⟨_,rfl⟩
   have hdw:IntKind.i64.wrap d=d:=by rw[IntKind.wrap_i64];omega
   have hdn : -c=d:=hd.symm
   rcases h with ⟨h,rfl⟩|⟨h,rfl⟩|⟨h,rfl⟩
   ·have hd1:¬ d<0:=by omega
    have hd2:¬ 0<d:=by omega
    clear hd h hcb
    go_wp2
    go_ret
    exact⟨rfl,HX.out.trans (HL7.out.mono HX.out.size)⟩
   ·have hd1:d<0:=by omega
    clear hd h hcb
    go_wp2
    go_ret
    exact⟨rfl,HX.out.trans (HL7.out.mono HX.out.size)⟩
   ·have hd1:¬ d<0:=by omega
    have hd2:0<d:=by omega
    clear hd h hcb
    go_wp2
    go_ret
    exact⟨rfl,HX.out.trans (HL7.out.mono HX.out.size)⟩
theorem magI_sign {x y:Nat} {ea eb:Int}:cmpI (magI x ea y eb) 0=cmpI (x*2^(ea - min ea eb).toNat:Nat) (y*2^(eb - min ea eb).toNat:Nat):=by
 unfold magI
 by_cases h0:x=0∨y=0
 ·rw[if_pos h0]
  by_cases hx:x=0
  ·subst hx
   rw[dlen_zero,Nat.zero_mul]
   by_cases hy:y=0
   ·subst hy;rw[dlen_zero,Nat.zero_mul];rfl
   ·have h1:dlen y≠0:=fun e=>hy (dlen_eq_zero.1 e)
    have h2:0<y*2^(eb - min ea eb).toNat:=Nat.mul_pos (by omega) (Nat.two_pow_pos _)
    unfold cmpI
    rw[if_pos (by omega),if_pos (by omega)]
  ·have hy:y=0:=by omega
   subst hy
   rw[dlen_zero,Nat.zero_mul]
   have h1:dlen x≠0:=fun e=>hx (dlen_eq_zero.1 e)
   have h2:0<x*2^(ea - min ea eb).toNat:=Nat.mul_pos (by omega) (Nat.two_pow_pos _)
   unfold cmpI
   rw[if_neg (by omega),if_pos (by omega),if_neg (by omega),if_pos (by omega)]
 ·rw[if_neg h0]
  have hx0:x≠0:=fun e=>h0 (.inl e)
  have hy0:y≠0:=fun e=>h0 (.inr e)
  by_cases ht:(bl x:Int)+ea=bl y+eb
  ·rw[if_pos ht]
   rcases cmpI_cases (x*2^(ea - min ea eb).toNat:Nat) (y*2^(eb - min ea eb).toNat:Nat)with h|h|h <;> rw[h.2] <;> rfl
  ·rw[if_neg ht]
   rcases cmpI_cases (bl x+ea) (bl y+eb)with h|h|h
   ·have:=top_lt (x:=x) (k:=(ea - min ea eb).toNat) (l:=(eb - min ea eb).toNat) hy0 (by omega)
    unfold cmpI;rw[if_pos (by omega),if_pos (by omega)]
   ·have:=top_lt (x:=y) (y:=x) (k:=(eb - min ea eb).toNat) (l:=(ea - min ea eb).toNat) hx0 (by omega)
    unfold cmpI;rw[if_neg (by omega),if_pos (by omega),if_neg (by omega),if_pos (by omega)]
   ·exact absurd h.1 ht
theorem magI_le {x y:Nat} {ea eb:Int} (hx:dlen x≤400000) (hy:dlen y≤400000) (ha : -2000000≤ea∧ea≤2000000) (hb : -2000000≤eb∧eb≤2000000) : -90000000000≤magI x ea y eb∧magI x ea y eb≤90000000000:=by
 have b1:=bl_le_dlen x
 have b2:=bl_le_dlen y
 unfold magI
 split
 ·omega
 ·split
  ·rcases cmpI_cases (x*2^(ea - min ea eb).toNat:Nat) (y*2^(eb - min ea eb).toNat:Nat)with h|h|h <;> rw[h.2] <;> omega
  ·omega
theorem rorder {na nb:Bool} {ua va:Option Addr} {uc vc x y:Nat} {ea eb:Int} {w:World} (h1:Arg w ua (dlen x) uc x) (h2:Arg w va (dlen y) vc y) (hx:dlen x≤400000) (hy:dlen y≤400000) (ha : -2000000≤ea∧ea≤2000000) (hb : -2000000≤eb∧eb≤2000000) :
  Calls Tryz.prog 53 #[.agg #[.bool na,.slice ua (dlen x) uc,.int .i64 ea],.agg #[.bool nb,.slice va (dlen y) vc,.int .i64 eb]] w fun r w'=>r=.returned (.int .i64 (ordN na x ea nb y eb))∧Bw w w':=by
 have kA:∀ W,Bw w W→Calls Tryz.prog 52 #[.agg #[.bool na,.slice ua (dlen x) uc,.int .i64 ea]] W fun r w'=>r=.returned (.int .i64 (sgI na (dlen x)))∧Bw W w':=fun W hW=>rsgn (by omega)
 have kB:∀ W,Bw w W→Calls Tryz.prog 52 #[.agg #[.bool nb,.slice va (dlen y) vc,.int .i64 eb]] W fun r w'=>r=.returned (.int .i64 (sgI nb (dlen y)))∧Bw W w':=fun W hW=>rsgn (by omega)
 have kM:∀ W,Bw w W→Calls Tryz.prog 81 #[.agg #[.bool na,.slice ua (dlen x) uc,.int .i64 ea],.agg #[.bool nb,.slice va (dlen y) vc,.int .i64 eb]] W fun r w'=>r=.returned (.int .i64 (magI x ea y eb))∧Bw W w':=fun W hW=>rmag (h1.later hW) (h2.later hW) hx hy ha hb
 have hl:=magI_le (ea:=ea) (eb:=eb) hx hy ha hb
 have hm:=magI_sign (x:=x) (y:=y) (ea:=ea) (eb:=eb)
 unfold ordN
 rw[←hm]
 generalize hsa:sgI na (dlen x)=sa at *
 generalize hsb:sgI nb (dlen y)=sb at *
 generalize magI x ea y eb=c at *
 by_cases hs:sa=sb
 ·rw[if_pos hs]
  have hs3:sa=0∨sa = -1∨sa=1:=by
   rw[←hsa];unfold sgI
   split
   ·exact .inl rfl
   ·split
    ·exact .inr (.inl rfl)
    ·exact .inr (.inr rfl)
  by_cases hsn:sa<0
  ·have hs1:sa = -1:=by omega
   rcases cmpI_cases c 0 with h|h|h
   ·rw[h.2,show sa * -1=1 by omega];exact rorder_all na nb ua va _ uc _ vc ea eb sa sb c _ w hs (.inr ⟨hsn,.inr (.inr ⟨h.1,rfl⟩)⟩) hl.1 hl.2 kA kB kM
   ·rw[h.2,show sa*1 = -1 by omega];exact rorder_all na nb ua va _ uc _ vc ea eb sa sb c _ w hs (.inr ⟨hsn,.inr (.inl ⟨h.1,rfl⟩)⟩) hl.1 hl.2 kA kB kM
   ·rw[h.2,Int.mul_zero];exact rorder_all na nb ua va _ uc _ vc ea eb sa sb c _ w hs (.inr ⟨hsn,.inl ⟨h.1,rfl⟩⟩) hl.1 hl.2 kA kB kM
  ·by_cases h0:sa=0
   ·have hc0:c=0:=by
     have hdx:dlen x=0:=by
      apply Decidable.byContradiction
      intro hne
      rw[h0,sgI_pos hne] at hsa
      cases na <;> simp at hsa
     have hdy:dlen y=0:=by
      apply Decidable.byContradiction
      intro hne
      rw[←hs,h0,sgI_pos hne] at hsb
      cases nb <;> simp at hsb
     have ex:x=0:=dlen_eq_zero.1 hdx
     have ey:y=0:=dlen_eq_zero.1 hdy
     subst ex;subst ey
     rw[Nat.zero_mul,Nat.zero_mul] at hm
     rcases cmpI_cases c 0 with h|h|h
     ·rw[h.2] at hm;exact absurd hm (by decide)
     ·rw[h.2] at hm;exact absurd hm (by decide)
     ·exact h.1
    rw[show sa*cmpI c 0=0 by rw[h0,Int.zero_mul]]
    exact rorder_all na nb ua va _ uc _ vc ea eb sa sb c _ w hs (.inl ⟨(by omega),.inl ⟨hc0,rfl⟩⟩) hl.1 hl.2 kA kB kM
   ·have hs1:sa=1:=by omega
    rw[show sa*cmpI c 0=cmpI c 0 by rw[hs1,Int.one_mul]]
    rcases cmpI_cases c 0 with h|h|h
    ·rw[h.2];exact rorder_all na nb ua va _ uc _ vc ea eb sa sb c _ w hs (.inl ⟨(by omega),.inr (.inr ⟨h.1,rfl⟩)⟩) hl.1 hl.2 kA kB kM
    ·rw[h.2];exact rorder_all na nb ua va _ uc _ vc ea eb sa sb c _ w hs (.inl ⟨(by omega),.inr (.inl ⟨h.1,rfl⟩)⟩) hl.1 hl.2 kA kB kM
    ·rw[h.2];exact rorder_all na nb ua va _ uc _ vc ea eb sa sb c _ w hs (.inl ⟨(by omega),.inl ⟨h.1,rfl⟩⟩) hl.1 hl.2 kA kB kM
 ·rw[if_neg hs]
  unfold cmpI
  by_cases hlt:sa<sb
  ·rw[if_pos hlt];exact rorder_lt na nb ua va _ uc _ vc ea eb sa sb c w hlt kA kB
  ·rw[if_neg hlt,if_pos (by omega)];exact rorder_gt na nb ua va _ uc _ vc ea eb sa sb c w hlt hs kA kB
end Go.Proofs.YtjiolfnchiioaaaGreatDoor
namespace Go.Proofs.YtjiolfnchiioaaaGreatDoor
open Go.RowKit Go.Fl64
theorem dn_store {w:World} {A:Value} {t:Bool×Nat×Int} {g:Nat} (h:DN w A t) (hg:w.heap[g]?=some (.cells #[.bool false,.slice none 0 0,.int .i64 0] 44 (0,0))) (a b c:Value):DN (((w.setCell ⟨g,0,none⟩ a).setCell ⟨g,1,none⟩ b).setCell ⟨g,2,none⟩ c) A t:=by
 obtain⟨ao,cap,h1,h2⟩:=h
 exact⟨ao,cap,h1,h2.nil,at_box h2.at_ rfl hg (by simp) (by simp) (by simp) a b c,h2.le,h2.small⟩
def BxD (w3 wc:World) (g:Nat) (s:Bool) (ao:Option Addr) (n cap:Nat) (ex:Int) (t:Bool×Nat×Int):Prop:=wc.heap[g]?=some (.cells #[.bool s,.slice ao n cap,.int .i64 ex] 44 (0,0))∧w3.heap.size≤g∧Bw w3 wc∧DN wc (.agg #[.bool s,.slice ao n cap,.int .i64 ex]) t
theorem BxD.new {w3 w7:World} {s:Bool} {ao:Option Addr} {n cap:Nat} {ex:Int} {t:Bool×Nat×Int} (hn:DN w7 (.agg #[.bool s,.slice ao n cap,.int .i64 ex]) t) (hb:Bw w3 w7):BxD w3 (w7.alloc (.cells #[.bool s,.slice ao n cap,.int .i64 ex] 44)) w7.heap.size s ao n cap ex t :=
 ⟨heap_alloc_new _ _,hb.size,hb.alloc hb.size _,hn.later ((Below.refl _ _).alloc (Nat.le_refl _) _)⟩
end Go.Proofs.YtjiolfnchiioaaaGreatDoor
