/- Own work: contracts of the program's functions, part 8: F1 F6 F7 FM3 L6 L8 FM4 FM5 RT0 RT1 RT3 RT7 RY1 RY2 RY3 RY4 FM6 FM7 FM8 RY5 SA7 SA8 SA9 UA1 UA2 UA3 UA4 UA5 UA6 UA7 ShelfD RE1 RE3 RE4 DL1 DE1 FR1 FR2 FR3 FR4 DL5 PV PV2 FR5 FR6 DC1 SB1 SB2 SB3 SC1 RY6. -/
import Derived.Test.YtfkaogdmlcdceaaGreatDoorA4
import Derived.Test.YtfkaogdmlcdceaaGreatDoorA6
import Derived.Test.YtfkaogdmlcdceaaGreatDoorA7
import Derived.Deep.CutBlock
import Derived.RangeFuncNested
import Derived.RangeFuncBound
import Derived.RangeFuncCalls
import Derived.RangeFuncLeaves
import Derived.Test.YtfkaogdmlcdceaaGreatDoorA2
import Derived.Shelf.Abstract
import Derived.Shelf.RegionOpen
import Derived.WalkKit
import Derived.OwnWalkIn
import Derived.TacticsInMore
import Derived.LoopNIn
import Derived.LoopIn
import Derived.Shelf.Strings.Builder1
import Derived.Shelf.Strings.Builder2
import Derived.Shelf.Strings.Trim
import Derived.Shelf.Small.Utf8
import Derived.Shelf.Small.Strs
import Derived.Shelf.Strings.Search1
import Derived.Shelf.Strings.Search2
import Derived.Shelf.Strings.Prefix
import Derived.Shelf.Strings.Runes
import Derived.Shelf.Strings.IndexAny
import Derived.Shelf.Strings.AsciiSet
import Derived.Shelf.Strings.IndexAnyAll
import Derived.Shelf.Strings.Repeat
import Derived.Test.YtfkaogdmlcdceaaGreatDoorProg
import Derived.Test.YtfkaogdmlcdceaaGreatDoorA1
import Derived.Deep.MidRow
import Derived.Test.YtfkaogdmlcdceaaGreatDoorA5

set_option maxHeartbeats 16000000
set_option maxRecDepth 200000
set_option linter.unusedVariables false
set_option linter.unusedSimpArgs false
/- A float is made anew of its odd part and its exponent, whatever the way of rounding. -/
namespace Go.Proofs.YtfkaogdmlcdceaaGreatDoor.Ie
open Go.RowKit Go.Fl64
end Go.Proofs.YtfkaogdmlcdceaaGreatDoor.Ie
namespace Go.Proofs.YtfkaogdmlcdceaaGreatDoor
open Go.RowKit Go.Fl64
theorem val_mant (a:Nat) (hf:mag a<9218868437227405312):val (mag a)=Ie.mant a*2^(Ie.lp a+1074).toNat ∧ -1074≤Ie.lp a∧Ie.lp a≤972:=by
 unfold val Ie.mant Ie.lp
 by_cases h:mag a<4503599627370496
 ·rw[if_pos h,if_pos h]
  have:(-1075+max 1 ((mag a / 4503599627370496:Nat):Int)+1074).toNat=0:=by omega
  rw[this,Nat.pow_zero,Nat.mul_one]
  exact⟨rfl,by omega,by omega⟩
 ·rw[if_neg h,if_neg h]
  have:(-1075+max 1 ((mag a / 4503599627370496:Nat):Int)+1074).toNat=mag a / 4503599627370496 - 1:=by omega
  rw[this]
  exact⟨rfl,by omega,by omega⟩
end Go.Proofs.YtfkaogdmlcdceaaGreatDoor
namespace Go.Proofs.YtfkaogdmlcdceaaGreatDoor
open Go.RowKit Go.Fl64
open Ie
theorem rnd0 (X k:Nat):rnd X k ((0:Nat):Int)=X / 2^k:=by
 have h1:¬ (((0:Nat):Int)=1):=by decide
 have h2:¬ (((0:Nat):Int)=2):=by decide
 simp only[rnd,Ie.rup,if_neg h1,if_neg h2,Bool.false_eq_true,if_false]
theorem rnd2 (X k:Nat):rnd X k ((2:Nat):Int)=if X % 2^k=0 then X / 2^k else X / 2^k+1:=by
 have h1:¬ (((2:Nat):Int)=1):=by decide
 have h2:((2:Nat):Int)=2:=by decide
 simp only[rnd,Ie.rup,if_neg h1,if_pos h2]
 by_cases h:X % 2^k=0
 ·rw[if_pos h,decide_eq_false (by simpa using h)];rfl
 ·rw[if_neg h,decide_eq_true h];rfl
theorem rnd1 (X k:Nat):rnd X k ((1:Nat):Int)=if 2*(X % 2^k)<2^k then X / 2^k else if 2*(X % 2^k)=2^k then X / 2^k+X / 2^k % 2 else X / 2^k+1:=by
 have h0:((1:Nat):Int)=1:=by decide
 simp only[rnd,Ie.rup,if_pos h0]
 by_cases h1:2*(X % 2^k)<2^k
 ·rw[if_pos h1,decide_eq_false (show ¬ 2^k<2*(X % 2^k) by omega),decide_eq_false (show ¬ 2*(X % 2^k)=2^k by omega)];rfl
 ·rw[if_neg h1]
  by_cases h2:2*(X % 2^k)=2^k
  ·rw[if_pos h2,decide_eq_false (show ¬ 2^k<2*(X % 2^k) by omega),decide_eq_true h2]
   by_cases h3:X / 2^k % 2=1
   ·rw[decide_eq_true h3,h3];rfl
   ·rw[decide_eq_false h3,show X / 2^k % 2=0 by omega];rfl
  ·rw[if_neg h2,decide_eq_true (show 2^k<2*(X % 2^k) by omega)];rfl
def rwb (x:Nat) (e:Int) (way:Nat):Nat:=(raw (tfM true x) (e+(tfD x:Int)) (way:Int)).toNat
theorem rwb_rounds {x:Nat} {e:Int} (h0:x≠0) {K:Nat} (hK:1200≤K) (hK2:64 - e≤K) {way:Nat}:Rounds (x*2^(e+K).toNat) (2^(K - 1074)) (rwb x e way) way:=by
 obtain⟨j,X,k,hR,hr,-,hl⟩:=raw_is (e:=e) h0
 have L:=hR.lies (K:=K) (by omega) (by omega) (by omega)
 refine⟨⟨j*4503599627370496+X / 2^k,⟨L.lo,L.hi⟩,?_,?_,?_⟩⟩
 ·intro h;subst h
  unfold rwb
  rw[hr,Int.toNat_natCast,rnd0]
 ·intro h;subst h
  unfold rwb
  rw[hr,Int.toNat_natCast,rnd2]
  by_cases hx:X % 2^k=0
  ·rw[if_pos hx,if_pos (L.ex.1 hx)]
  ·rw[if_neg hx,if_neg (fun h=>hx (L.ex.2 h)),Nat.add_assoc]
 ·intro h;subst h
  unfold rwb
  rw[hr,Int.toNat_natCast,rnd1]
  have hpar:(j*4503599627370496+X / 2^k) % 2=X / 2^k % 2:=by omega
  by_cases h1:2*(X % 2^k)<2^k
  ·rw[if_pos h1,if_pos (L.half_lt.1 h1)]
  ·rw[if_neg h1,if_neg (fun h=>h1 (L.half_lt.2 h))]
   by_cases h2:2*(X % 2^k)=2^k
   ·rw[if_pos h2,if_pos (L.half_eq.1 h2),hpar,Nat.add_assoc]
   ·rw[if_neg h2,if_neg (fun h=>h2 (L.half_eq.2 h)),Nat.add_assoc]
def bdy (x:Nat) (e:Int) (way:Nat):Nat:=if x=0 then 0 else if rwb x e way<9218868437227405312 then rwb x e way else if way=0 then 9218868437227405311 else 9218868437227405312
theorem raw_nn {x:Nat} {e:Int} (h0:x≠0) (way:Nat):raw (tfM true x) (e+(tfD x:Int)) (way:Int)=(rwb x e way:Int):=by
 obtain⟨j,X,k,-,hr,-,-⟩:=raw_is (e:=e) h0
 unfold rwb
 rw[hr];rfl
theorem bod_eq {x:Nat} {e:Int} (h0:x≠0) (way:Nat):(bod (tfM true x) (e+(tfD x:Int)) (way:Int)).toNat=bdy x e way:=by
 unfold bod bdy
 rw[if_neg h0,raw_nn h0]
 by_cases h1:rwb x e way<9218868437227405312
 ·rw[if_pos (by omega),if_pos h1];rfl
 ·rw[if_neg (by omega),if_neg h1]
  by_cases h2:way=0
  ·subst h2;rfl
  ·rw[if_neg h2]
   have:((way:Int)==0)=false:=by simp;omega
   rw[this];rfl
end Go.Proofs.YtfkaogdmlcdceaaGreatDoor
namespace Go.Proofs.YtfkaogdmlcdceaaGreatDoor
open Go.RowKit Go.Fl64
theorem cmpI_mul {a b:Int} {c:Nat} (hc:0<c):cmpI (a*(c:Int)) (b*(c:Int))=cmpI a b:=by
 have hc':(0:Int)<(c:Int):=by omega
 unfold cmpI
 have h1:(a*(c:Int)<b*(c:Int))↔a<b:=⟨fun h=>Int.lt_of_mul_lt_mul_right h (Int.le_of_lt hc'),fun h=>Int.mul_lt_mul_of_pos_right h hc'⟩
 have h2:(b*(c:Int)<a*(c:Int))↔b<a:=⟨fun h=>Int.lt_of_mul_lt_mul_right h (Int.le_of_lt hc'),fun h=>Int.mul_lt_mul_of_pos_right h hc'⟩
 simp only[h1,h2]
theorem cmpI_neg (a b:Int):cmpI (-a) (-b) = - cmpI a b:=by
 unfold cmpI
 by_cases h1:a<b
 ·rw[if_neg (by omega),if_pos (by omega),if_pos h1];rfl
 ·by_cases h2:b<a
  ·rw[if_pos (by omega),if_neg h1,if_pos h2]
  ·rw[if_neg (by omega),if_neg (by omega),if_neg h1,if_neg h2];rfl
theorem sgI_eq (s:Bool) (x:Nat):sgI s (dlen x)=if x=0 then 0 else if s then -1 else 1:=by
 unfold sgI
 by_cases h:x=0
 ·subst h;simp[dlen_zero]
 ·rw[if_neg (fun e=>h (dlen_eq_zero.1 e)),if_neg h]
theorem ordN_vz {K:Nat} {na nb:Bool} {x y:Nat} {ea eb:Int} (h1:0≤ea+K) (h2:0≤eb+K):ordN na x ea nb y eb=cmpI (vz K na x ea) (vz K nb y eb):=by
 have hm:0≤min ea eb+(K:Int):=by omega
 have e1:vz K na x ea=vz K na (x*2^(ea - min ea eb).toNat) (min ea eb):=by
  rw[vz_shift hm,show min ea eb+((ea - min ea eb).toNat:Int)=ea by omega]
 have e2:vz K nb y eb=vz K nb (y*2^(eb - min ea eb).toNat) (min ea eb):=by
  rw[vz_shift hm,show min ea eb+((eb - min ea eb).toNat:Int)=eb by omega]
 have hx:x=0↔x*2^(ea - min ea eb).toNat=0:=by
  constructor
  ·rintro rfl;rw[Nat.zero_mul]
  ·intro h;rcases Nat.mul_eq_zero.1 h with h|h
   ·exact h
   ·have:=Nat.two_pow_pos (ea - min ea eb).toNat;omega
 have hy:y=0↔y*2^(eb - min ea eb).toNat=0:=by
  constructor
  ·rintro rfl;rw[Nat.zero_mul]
  ·intro h;rcases Nat.mul_eq_zero.1 h with h|h
   ·exact h
   ·have:=Nat.two_pow_pos (eb - min ea eb).toNat;omega
 rw[e1,e2]
 unfold ordN vz
 rw[cmpI_mul (Nat.two_pow_pos _),sgI_eq,sgI_eq]
 generalize x*2^(ea - min ea eb).toNat=X at *
 generalize y*2^(eb - min ea eb).toNat=Y at *
 by_cases x0:x=0
 ·have X0:=hx.1 x0
  rw[if_pos x0,X0]
  by_cases y0:y=0
  ·rw[if_pos y0,if_pos rfl,hy.1 y0,sv_zero,sv_zero]
   simp[cmpI]
  ·have Y0:Y≠0:=fun h=>y0 (hy.2 h)
   rw[if_neg y0,sv_zero]
   cases nb
   ·simp[sv,cmpI];omega
   ·simp[sv,cmpI];omega
 ·have X0:X≠0:=fun h=>x0 (hx.2 h)
  rw[if_neg x0]
  by_cases y0:y=0
  ·rw[if_pos y0,hy.1 y0,sv_zero]
   cases na
   ·simp[sv,cmpI];omega
   ·simp[sv,cmpI];omega
  ·have Y0:Y≠0:=fun h=>y0 (hy.2 h)
   rw[if_neg y0]
   cases na <;> cases nb
   ·simp[sv]
   ·simp[sv,cmpI];omega
   ·simp[sv,cmpI];omega
   ·simp only[if_true,sv]
    rw[cmpI_neg];omega
theorem cmp_gt {a b:Int} (h:b<a):0<cmpI a b:=by
 rcases cmpI_cases a b with ⟨h1,h2⟩|⟨h1,h2⟩|⟨h1,h2⟩ <;> omega
end Go.Proofs.YtfkaogdmlcdceaaGreatDoor
namespace Go.Proofs.YtfkaogdmlcdceaaGreatDoor
open Go.RowKit Go.Fl64
open Ie
def VA (K x:Nat) (e:Int):Nat:=x*2^(e+(K:Int)).toNat
def UU (K:Nat):Nat:=2^(K - 1074)
theorem UU_pos (K:Nat):0<UU K:=Nat.two_pow_pos _
theorem VA_rounds {K:Nat} (hK:70000≤K) {x:Nat} {e:Int} (h0:x≠0) (he : -65536≤e) {way:Nat}:Rounds (VA K x e) (UU K) (rwb x e way) way:=rwb_rounds h0 (by omega) (by omega)
theorem bv_zero:bv 0=0:=rfl
theorem bdy_le (x:Nat) (e:Int) (way:Nat):bdy x e way≤9218868437227405312:=by
 unfold bdy
 split
 ·omega
 ·split
  ·omega
  ·split <;> omega
def wyN (s:Bool) (m:Int):Nat:=if m=2 then 1 else if(s==(m==1))then 2 else 0
theorem wyN_eq (s:Bool) (m:Int):((wyN s m:Nat):Int)=wy s m:=by
 unfold wyN wy
 split
 ·rfl
 ·split <;> rfl
theorem tfM_zero:tfM true 0=0:=by unfold tfM;rw[show tfD 0=0 from rfl];simp
theorem tfM_ne {x:Nat} (h0:x≠0):tfM true x≠0:=by
 unfold tfM
 split
 ·have h1:=le_bl h0
  have hp:2^tfD x≤x:=Nat.le_trans (Nat.pow_le_pow_right (by omega) (by unfold tfD;omega)) h1
  have:=(Nat.le_div_iff_mul_le (Nat.two_pow_pos (tfD x))).2 (show 1*2^tfD x≤x by omega)
  omega
 ·rw[or_one_eq];omega
theorem tf_bdy {s:Bool} {x:Nat} {e m:Int} (hm:1≤m∧m≤3):tfF s true x e m=sig s (bdy x e (wyN s m)):=by
 unfold tfF mk
 rw[if_pos (by omega)]
 congr 1
 by_cases h0:x=0
 ·subst h0
  rw[tfM_zero,if_pos rfl]
  unfold bdy;rw[if_pos rfl]
 ·rw[if_neg (tfM_ne h0),←wyN_eq,bod_eq h0]
theorem bl_ne {x:Nat} (h0:x≠0):1≤bl x:=by unfold bl;rw[if_neg h0];omega
theorem cinf_m (w:World):Calls Tryz.prog 53 #[.int .i64 (-1)] w fun r w'=>r=.returned (.float .f64 18442240474082181120)∧w'=w:=by
 have hb:=Ie.run_frombits
 go_enter Tryz.func53,Tryz.ntmps53
 go_wp2
 go_ret
 exact⟨rfl,rfl⟩
end Go.Proofs.YtfkaogdmlcdceaaGreatDoor
namespace Go.Proofs.YtfkaogdmlcdceaaGreatDoor
end Go.Proofs.YtfkaogdmlcdceaaGreatDoor
namespace Go.Proofs.YtfkaogdmlcdceaaGreatDoor
open Go.RowKit Go.Fl64
open Ie
end Go.Proofs.YtfkaogdmlcdceaaGreatDoor
namespace Go.Proofs.YtfkaogdmlcdceaaGreatDoor
open Go.RowKit
end Go.Proofs.YtfkaogdmlcdceaaGreatDoor
namespace Go.Proofs.YtfkaogdmlcdceaaGreatDoor
open Go.RowKit Go.Fl64
open Ie
theorem bl_ge {x n:Nat}:n+1≤bl x↔2^n≤x:=by
 have:=bl_le x n
 omega
theorem bl_div {x n:Nat} (h:n<bl x):bl (x / 2^n)=bl x - n:=by
 have hx0:x≠0:=fun e=>by rw[e] at h;simp[bl] at h
 have h1:=lt_bl x
 have h2:=le_bl hx0
 have a:bl (x / 2^n)≤bl x - n:=(bl_le _ _).2 ((Nat.div_lt_iff_lt_mul (Nat.two_pow_pos n)).2 (by rw[←Nat.pow_add,show bl x - n+n=bl x by omega];exact h1))
 have b:bl x - n - 1+1≤bl (x / 2^n):=bl_ge.2 ((Nat.le_div_iff_mul_le (Nat.two_pow_pos n)).2 (by rw[←Nat.pow_add,show bl x - n - 1+n=bl x - 1 by omega];exact h2))
 omega
theorem bl_two {x:Nat} (h:x≠0):bl (2*x+1)=bl x+1:=by
 have h1:=lt_bl x
 have h2:=le_bl h
 have hb:=bl_ne h
 have a:bl (2*x+1)≤bl x+1:=(bl_le _ _).2 (by rw[Nat.pow_succ];omega)
 have b:bl x+1≤bl (2*x+1):=bl_ge.2 (by
  have:2^bl x=2*2^(bl x - 1):=by rw[←Nat.pow_succ'];congr 1;omega
  omega)
 omega
theorem two_div {x t:Nat} (h:1≤t):(2*x+1) / 2^t=x / 2^(t - 1):=by
 obtain⟨n,rfl⟩:∃ n,t=n+1:=⟨t - 1,by omega⟩
 rw[Nat.add_sub_cancel,Nat.pow_succ',←Nat.div_div_eq_div_mul,show(2*x+1) / 2=x by omega]
theorem tf_sticky {s:Bool} {x:Nat} {e m:Int} (h:64≤bl x):tfF s false x e m=tfF s true (2*x+1) (e - 1) m:=by
 have hx0:x≠0:=fun e=>by rw[e] at h;simp[bl] at h
 have hb:=bl_two hx0
 have hd:tfD (2*x+1)=tfD x+1:=by unfold tfD;omega
 unfold tfF
 have hM:tfM true (2*x+1)=tfM false x:=by
  unfold tfM
  rw[hd,two_div (by omega),Nat.add_sub_cancel,tz_odd (show(2*x+1) % 2=1 by omega),decide_eq_true (show 0<tfD x+1 by omega)]
  simp
 rw[hM,hd,show e - 1+((tfD x+1:Nat):Int)=e+(tfD x:Int) by omega]
theorem tf_cut {s:Bool} {Z n:Nat} {E m:Int} (h:64≤bl (Z / 2^n)) (hr:Z % 2^n≠0):tfF s true Z E m=tfF s false (Z / 2^n) (E+n) m:=by
 have hn:0<n:=by
  rcases Nat.eq_zero_or_pos n with h0|h0
  ·rw[h0,Nat.pow_zero,Nat.mod_one] at hr;omega
  ·exact h0
 have hlt:n<bl Z:=Nat.lt_of_not_le fun hle=>by
  have:Z / 2^n=0:=Nat.div_eq_of_lt ((bl_le _ _).1 hle)
  rw[this] at h;simp[bl] at h
 have hb:=bl_div hlt
 have hZ0:Z≠0:=fun e=>by rw[e] at hlt;simp[bl] at hlt
 have hd:tfD Z=tfD (Z / 2^n)+n:=by unfold tfD;omega
 have hst:tz Z<tfD Z:=by
  refine(tz_iff hZ0).2 fun e=>hr ?_
  have h1:2^n ∣ 2^tfD Z:=Nat.pow_dvd_pow 2 (by omega)
  exact Nat.mod_eq_zero_of_dvd (Nat.dvd_trans h1 (Nat.dvd_of_mod_eq_zero e))
 unfold tfF
 have hM:tfM true Z=tfM false (Z / 2^n):=by
  unfold tfM
  rw[decide_eq_true hst,hd,Nat.div_div_eq_div_mul,←Nat.pow_add,Nat.add_comm n]
  simp
 rw[hM,hd,show E+((tfD (Z / 2^n)+n:Nat):Int)=E+(n:Int)+(tfD (Z / 2^n):Int) by omega]
end Go.Proofs.YtfkaogdmlcdceaaGreatDoor
namespace Go.Proofs.YtfkaogdmlcdceaaGreatDoor
open Go.RowKit Go.Fl64
theorem cn_parts (a m:Nat) (ha:a<18446744073709551616) (hf:mag a<9218868437227405312) (hm:Ie.sM a=(m:Int)):cn (neg a) m (Ie.sE a)=tF a:=by
 unfold tF cn
 rcases of_parts a m ha hf hm with ⟨h1,h2⟩|⟨h1,h2,-,h3,h4⟩
 ·rw[if_pos h1,if_pos h2]
 ·rw[if_neg h1,if_neg h2,h3,h4]
theorem psign {t:Bool×Nat×Int} {A:Value} {w:World} (ok:Ok t) (h:PN w A t):Calls Tryz.prog 89 #[A] w fun r w'=>r=.returned (.int .i64 (sgI t.1 (dlen t.2.1)))∧Bw w w':=by
 obtain⟨ao,cap,rfl,h1⟩:=h
 obtain⟨f1,-,-,-,-⟩:=ok.facts
 exact sign_ok h1 (by omega) ok
end Go.Proofs.YtfkaogdmlcdceaaGreatDoor
namespace Go.Proofs.YtfkaogdmlcdceaaGreatDoor
open Go Go.RowKit
end Go.Proofs.YtfkaogdmlcdceaaGreatDoor
namespace Go.Proofs.YtfkaogdmlcdceaaGreatDoor
open Go.RowKit Go.Fl64
end Go.Proofs.YtfkaogdmlcdceaaGreatDoor
namespace Go.Proofs.YtfkaogdmlcdceaaGreatDoor
open Go Go.RowKit Go.Fl64 Go.Shelf
attribute [local go_sem] Oper.semAt_some
attribute [local go_sem] Oper.semAt_some
end Go.Proofs.YtfkaogdmlcdceaaGreatDoor
namespace Go.Proofs.YtfkaogdmlcdceaaGreatDoor
open Go.RowKit Go.Fl64
end Go.Proofs.YtfkaogdmlcdceaaGreatDoor
/- The library's contracts at this program that decim uses. -/
namespace Go.Proofs
open Go.Shelf
def Tryz.lays161_ren:Go.Shelf.Ren:=⟨fun|161=>95|231=>163|227=>142|233=>164|235=>165|228=>173|197=>222|151=>206|260=>259|152=>171|137=>228|119=>229|224=>230|225=>231|217=>264|266=>279|n=>n,fun|9=>9|4=>4|3=>3|5=>5|117=>159|116=>158|0=>0|124=>162|105=>205|21=>21|119=>251|46=>130|139=>254|138=>253|n=>n,fun|3=>5|4=>6|n=>n⟩
theorem Tryz.lays161:Go.Proofs.Lays.n161 Tryz.prog Tryz.lays161_ren:={
 mixed:=by kernel_rfl
 f119:=Tryz.func229.trans (congrArg some (by kernel_rfl))
 f137:=Tryz.func228.trans (congrArg some (by kernel_rfl))
 f151:=Tryz.func206.trans (congrArg some (by kernel_rfl))
 f152:=Tryz.func171.trans (congrArg some (by kernel_rfl))
 f161:=Tryz.func95.trans (congrArg some (by kernel_rfl))
 f197:=Tryz.func222.trans (congrArg some (by kernel_rfl))
 f217:=Tryz.func264.trans (congrArg some (by kernel_rfl))
 f224:=Tryz.func230.trans (congrArg some (by kernel_rfl))
 f225:=Tryz.func231.trans (congrArg some (by kernel_rfl))
 f227:=Tryz.func142.trans (congrArg some (by kernel_rfl))
 f228:=Tryz.func173.trans (congrArg some (by kernel_rfl))
 f231:=Tryz.func163.trans (congrArg some (by kernel_rfl))
 f233:=Tryz.func164.trans (congrArg some (by kernel_rfl))
 f235:=Tryz.func165.trans (congrArg some (by kernel_rfl))
 f260:=Tryz.func259.trans (congrArg some (by kernel_rfl))
 f266:=Tryz.func279.trans (congrArg some (by kernel_rfl))
 t0:=Tryz.underlying0
 a0:=Tryz.isAgg0
 z0:=Tryz.sizeOf0
 v0:=Tryz.zeroValue0
 t3:=Tryz.underlying3
 a3:=Tryz.isAgg3
 z3:=Tryz.sizeOf3
 v3:=Tryz.zeroValue3
 t4:=Tryz.underlying4
 a4:=Tryz.isAgg4
 z4:=Tryz.sizeOf4
 v4:=Tryz.zeroValue4
 t5:=Tryz.underlying5
 a5:=Tryz.isAgg5
 z5:=Tryz.sizeOf5
 v5:=Tryz.zeroValue5
 t9:=Tryz.underlying9
 a9:=Tryz.isAgg9
 z9:=Tryz.sizeOf9
 v9:=Tryz.zeroValue9
 t21:=Tryz.underlying21
 a21:=Tryz.isAgg21
 z21:=Tryz.sizeOf21
 v21:=Tryz.zeroValue21
 t46:=Tryz.underlying130
 a46:=Tryz.isAgg130
 z46:=Tryz.sizeOf130
 v46:=Tryz.zeroValue130
 t105:=Tryz.underlying205
 a105:=Tryz.isAgg205
 z105:=Tryz.sizeOf205
 v105:=Tryz.zeroValue205
 t116:=Tryz.underlying158
 a116:=Tryz.isAgg158
 z116:=Tryz.sizeOf158
 t117:=Tryz.underlying159
 a117:=Tryz.isAgg159
 z117:=Tryz.sizeOf159
 v117:=Tryz.zeroValue159
 t119:=Tryz.underlying251
 a119:=Tryz.isAgg251
 z119:=Tryz.sizeOf251
 t124:=Tryz.underlying162
 a124:=Tryz.isAgg162
 z124:=Tryz.sizeOf162
 v124:=Tryz.zeroValue162
 t138:=Tryz.underlying253
 a138:=Tryz.isAgg253
 z138:=Tryz.sizeOf253
 v138:=Tryz.zeroValue253
 t139:=Tryz.underlying254
 a139:=Tryz.isAgg254
 z139:=Tryz.sizeOf254
 v139:=Tryz.zeroValue254
 g3:=by kernel_rfl
 g4:=by kernel_rfl }
open Go.RowKit in
theorem Tryz.strings_TrimLeft_one (s:ByteArray) (c:UInt8) (hc:c.toNat<128) (w:World) :
  Calls Tryz.prog 95 #[.string s,.string ⟨#[c]⟩] w fun e w'=>e=.returned (.string ⟨(Lib.trimLeftB s.data.toList c).toArray⟩)∧w'=w:=Any.strings_TrimLeft_one Tryz.lays161 s c hc w
def Tryz.lays162_ren:Go.Shelf.Ren:=⟨fun|162=>78|232=>141|227=>142|234=>143|236=>144|228=>173|271=>205|151=>206|120=>250|197=>222|152=>171|260=>259|137=>228|119=>229|224=>230|225=>231|217=>264|266=>279|n=>n,fun|9=>9|4=>4|3=>3|5=>5|117=>159|116=>158|0=>0|124=>162|21=>21|105=>205|46=>130|119=>251|139=>254|138=>253|n=>n,fun|3=>5|4=>6|n=>n⟩
theorem Tryz.lays162:Go.Proofs.Lays.n162 Tryz.prog Tryz.lays162_ren:={
 mixed:=by kernel_rfl
 f119:=Tryz.func229.trans (congrArg some (by kernel_rfl))
 f120:=Tryz.func250.trans (congrArg some (by kernel_rfl))
 f137:=Tryz.func228.trans (congrArg some (by kernel_rfl))
 f151:=Tryz.func206.trans (congrArg some (by kernel_rfl))
 f152:=Tryz.func171.trans (congrArg some (by kernel_rfl))
 f162:=Tryz.func78.trans (congrArg some (by kernel_rfl))
 f197:=Tryz.func222.trans (congrArg some (by kernel_rfl))
 f217:=Tryz.func264.trans (congrArg some (by kernel_rfl))
 f224:=Tryz.func230.trans (congrArg some (by kernel_rfl))
 f225:=Tryz.func231.trans (congrArg some (by kernel_rfl))
 f227:=Tryz.func142.trans (congrArg some (by kernel_rfl))
 f228:=Tryz.func173.trans (congrArg some (by kernel_rfl))
 f232:=Tryz.func141.trans (congrArg some (by kernel_rfl))
 f234:=Tryz.func143.trans (congrArg some (by kernel_rfl))
 f236:=Tryz.func144.trans (congrArg some (by kernel_rfl))
 f260:=Tryz.func259.trans (congrArg some (by kernel_rfl))
 f266:=Tryz.func279.trans (congrArg some (by kernel_rfl))
 f271:=Tryz.func205.trans (congrArg some (by kernel_rfl))
 t0:=Tryz.underlying0
 a0:=Tryz.isAgg0
 z0:=Tryz.sizeOf0
 v0:=Tryz.zeroValue0
 t3:=Tryz.underlying3
 a3:=Tryz.isAgg3
 z3:=Tryz.sizeOf3
 v3:=Tryz.zeroValue3
 t4:=Tryz.underlying4
 a4:=Tryz.isAgg4
 z4:=Tryz.sizeOf4
 v4:=Tryz.zeroValue4
 t5:=Tryz.underlying5
 a5:=Tryz.isAgg5
 z5:=Tryz.sizeOf5
 v5:=Tryz.zeroValue5
 t9:=Tryz.underlying9
 a9:=Tryz.isAgg9
 z9:=Tryz.sizeOf9
 v9:=Tryz.zeroValue9
 t21:=Tryz.underlying21
 a21:=Tryz.isAgg21
 z21:=Tryz.sizeOf21
 v21:=Tryz.zeroValue21
 t46:=Tryz.underlying130
 a46:=Tryz.isAgg130
 z46:=Tryz.sizeOf130
 v46:=Tryz.zeroValue130
 t105:=Tryz.underlying205
 a105:=Tryz.isAgg205
 z105:=Tryz.sizeOf205
 v105:=Tryz.zeroValue205
 t116:=Tryz.underlying158
 a116:=Tryz.isAgg158
 z116:=Tryz.sizeOf158
 t117:=Tryz.underlying159
 a117:=Tryz.isAgg159
 z117:=Tryz.sizeOf159
 v117:=Tryz.zeroValue159
 t119:=Tryz.underlying251
 a119:=Tryz.isAgg251
 z119:=Tryz.sizeOf251
 t124:=Tryz.underlying162
 a124:=Tryz.isAgg162
 z124:=Tryz.sizeOf162
 v124:=Tryz.zeroValue162
 t138:=Tryz.underlying253
 a138:=Tryz.isAgg253
 z138:=Tryz.sizeOf253
 v138:=Tryz.zeroValue253
 t139:=Tryz.underlying254
 a139:=Tryz.isAgg254
 z139:=Tryz.sizeOf254
 v139:=Tryz.zeroValue254
 g3:=by kernel_rfl
 g4:=by kernel_rfl }
open Go.RowKit in
theorem Tryz.strings_TrimRight_one (s:ByteArray) (c:UInt8) (hc:c.toNat<128) (w:World) (hs:s.size≤9223372036854775807) :
  Calls Tryz.prog 78 #[.string s,.string ⟨#[c]⟩] w fun e w'=>e=.returned (.string ⟨(Lib.trimRightB s.data.toList c).toArray⟩)∧w'=w:=Any.strings_TrimRight_one Tryz.lays162 s c hc w hs
def Tryz.lays119_ren:Go.Shelf.Ren:=⟨fun|119=>229|n=>n,fun|21=>21|4=>4|n=>n,fun|n=>n⟩
theorem Tryz.lays119:Go.Proofs.Lays.n119 Tryz.prog Tryz.lays119_ren:={
 mixed:=by kernel_rfl
 f119:=Tryz.func229.trans (congrArg some (by kernel_rfl))
 t4:=Tryz.underlying4
 a4:=Tryz.isAgg4
 z4:=Tryz.sizeOf4
 v4:=Tryz.zeroValue4
 t21:=Tryz.underlying21
 a21:=Tryz.isAgg21
 z21:=Tryz.sizeOf21
 v21:=Tryz.zeroValue21 }
theorem Tryz.utf8_ValidRune (r:Int) (w:World) :
  Calls Tryz.prog 229 #[.int .i32 r] w fun e w'=>e=.returned (.bool (Lib.validRune r))∧w'=w:=Any.utf8_ValidRune Tryz.lays119 r w
def Tryz.lays137_ren:Go.Shelf.Ren:=⟨fun|137=>228|217=>264|266=>279|n=>n,fun|9=>9|5=>5|3=>3|n=>n,fun|n=>n⟩
theorem Tryz.lays137:Go.Proofs.Lays.n137 Tryz.prog Tryz.lays137_ren:={
 mixed:=by kernel_rfl
 f137:=Tryz.func228.trans (congrArg some (by kernel_rfl))
 f217:=Tryz.func264.trans (congrArg some (by kernel_rfl))
 f266:=Tryz.func279.trans (congrArg some (by kernel_rfl))
 t3:=Tryz.underlying3
 a3:=Tryz.isAgg3
 z3:=Tryz.sizeOf3
 v3:=Tryz.zeroValue3
 t5:=Tryz.underlying5
 a5:=Tryz.isAgg5
 z5:=Tryz.sizeOf5
 v5:=Tryz.zeroValue5
 t9:=Tryz.underlying9
 a9:=Tryz.isAgg9
 z9:=Tryz.sizeOf9
 v9:=Tryz.zeroValue9 }
open Go.RowKit in
theorem Tryz.strings_IndexByte (s:ByteArray) (c:Int) (w:World) :
  Calls Tryz.prog 228 #[.string s,.int .u8 c] w fun e w'=>e=.returned (.int .i64 (Lib.indexByte s.data.toList c.toNat.toUInt8))∧w'=w:=Any.strings_IndexByte Tryz.lays137 s c w
def Tryz.lays219_ren:Go.Shelf.Ren:=⟨fun|219=>232|217=>264|225=>231|224=>230|267=>265|266=>279|314=>280|n=>n,fun|9=>9|3=>3|4=>4|5=>5|46=>130|146=>224|51=>96|n=>n,fun|1=>3|n=>n⟩
theorem Tryz.lays219:Go.Proofs.Lays.n219 Tryz.prog Tryz.lays219_ren:={
 mixed:=by kernel_rfl
 f217:=Tryz.func264.trans (congrArg some (by kernel_rfl))
 f219:=Tryz.func232.trans (congrArg some (by kernel_rfl))
 f224:=Tryz.func230.trans (congrArg some (by kernel_rfl))
 f225:=Tryz.func231.trans (congrArg some (by kernel_rfl))
 f266:=Tryz.func279.trans (congrArg some (by kernel_rfl))
 f267:=Tryz.func265.trans (congrArg some (by kernel_rfl))
 f314:=Tryz.func280.trans (congrArg some (by kernel_rfl))
 t3:=Tryz.underlying3
 a3:=Tryz.isAgg3
 z3:=Tryz.sizeOf3
 v3:=Tryz.zeroValue3
 t4:=Tryz.underlying4
 a4:=Tryz.isAgg4
 z4:=Tryz.sizeOf4
 v4:=Tryz.zeroValue4
 t5:=Tryz.underlying5
 a5:=Tryz.isAgg5
 z5:=Tryz.sizeOf5
 v5:=Tryz.zeroValue5
 t9:=Tryz.underlying9
 a9:=Tryz.isAgg9
 z9:=Tryz.sizeOf9
 v9:=Tryz.zeroValue9
 t46:=Tryz.underlying130
 a46:=Tryz.isAgg130
 z46:=Tryz.sizeOf130
 v46:=Tryz.zeroValue130
 t51:=Tryz.underlying96
 a51:=Tryz.isAgg96
 z51:=Tryz.sizeOf96
 v51:=Tryz.zeroValue96
 t146:=Tryz.underlying224
 a146:=Tryz.isAgg224
 z146:=Tryz.sizeOf224
 v146:=Tryz.zeroValue224
 g1:=by kernel_rfl }
open Go.RowKit Go.Lib in
theorem Tryz.stringslite_Index_one (s:ByteArray) (c:UInt8) (w:World) :
  Calls Tryz.prog 232 #[.string s,.string ⟨#[c]⟩] w fun e w'=>e=.returned (.int .i64 (Lib.indexByte s.data.toList c))∧w'=w:=Any.stringslite_Index_one Tryz.lays219 s c w
def Tryz.lays99_ren:Go.Shelf.Ren:=⟨fun|99=>116|206=>170|n=>n,fun|9=>9|4=>4|3=>3|n=>n,fun|n=>n⟩
theorem Tryz.lays99:Go.Proofs.Lays.n99 Tryz.prog Tryz.lays99_ren:={
 mixed:=by kernel_rfl
 f99:=Tryz.func116.trans (congrArg some (by kernel_rfl))
 f206:=Tryz.func170.trans (congrArg some (by kernel_rfl))
 t3:=Tryz.underlying3
 a3:=Tryz.isAgg3
 z3:=Tryz.sizeOf3
 v3:=Tryz.zeroValue3
 t4:=Tryz.underlying4
 a4:=Tryz.isAgg4
 z4:=Tryz.sizeOf4
 v4:=Tryz.zeroValue4
 t9:=Tryz.underlying9
 a9:=Tryz.isAgg9
 z9:=Tryz.sizeOf9
 v9:=Tryz.zeroValue9 }
open Go.RowKit Go.Lib in
theorem Tryz.strings_HasPrefix (s p:ByteArray) (w:World) :
  Calls Tryz.prog 116 #[.string s,.string p] w fun e w'=>e=.returned (.bool (Lib.hasPrefix s.data.toList p.data.toList))∧w'=w:=Any.strings_HasPrefix Tryz.lays99 s p w
def Tryz.lays152_ren:Go.Shelf.Ren:=⟨fun|152=>171|137=>228|119=>229|224=>230|225=>231|217=>264|266=>279|n=>n,fun|9=>9|21=>21|3=>3|4=>4|5=>5|0=>0|46=>130|n=>n,fun|n=>n⟩
theorem Tryz.lays152:Go.Proofs.Lays.n152 Tryz.prog Tryz.lays152_ren:={
 mixed:=by kernel_rfl
 f119:=Tryz.func229.trans (congrArg some (by kernel_rfl))
 f137:=Tryz.func228.trans (congrArg some (by kernel_rfl))
 f152:=Tryz.func171.trans (congrArg some (by kernel_rfl))
 f217:=Tryz.func264.trans (congrArg some (by kernel_rfl))
 f224:=Tryz.func230.trans (congrArg some (by kernel_rfl))
 f225:=Tryz.func231.trans (congrArg some (by kernel_rfl))
 f266:=Tryz.func279.trans (congrArg some (by kernel_rfl))
 t0:=Tryz.underlying0
 a0:=Tryz.isAgg0
 z0:=Tryz.sizeOf0
 v0:=Tryz.zeroValue0
 t3:=Tryz.underlying3
 a3:=Tryz.isAgg3
 z3:=Tryz.sizeOf3
 v3:=Tryz.zeroValue3
 t4:=Tryz.underlying4
 a4:=Tryz.isAgg4
 z4:=Tryz.sizeOf4
 v4:=Tryz.zeroValue4
 t5:=Tryz.underlying5
 a5:=Tryz.isAgg5
 z5:=Tryz.sizeOf5
 v5:=Tryz.zeroValue5
 t9:=Tryz.underlying9
 a9:=Tryz.isAgg9
 z9:=Tryz.sizeOf9
 v9:=Tryz.zeroValue9
 t21:=Tryz.underlying21
 a21:=Tryz.isAgg21
 z21:=Tryz.sizeOf21
 v21:=Tryz.zeroValue21
 t46:=Tryz.underlying130
 a46:=Tryz.isAgg130
 z46:=Tryz.sizeOf130
 v46:=Tryz.zeroValue130 }
open Go.RowKit Go.Lib in
theorem Tryz.strings_IndexRune_ascii (s:ByteArray) (r:Int) (w:World) (h0:0≤r) (h1:r<128) :
  Calls Tryz.prog 171 #[.string s,.int .i32 r] w fun e w'=>e=.returned (.int .i64 (Lib.indexByte s.data.toList r.toNat.toUInt8))∧w'=w:=Any.strings_IndexRune_ascii Tryz.lays152 s r w h0 h1
def Tryz.lays226_ren:Go.Shelf.Ren:=⟨fun|226=>172|n=>n,fun|3=>3|4=>4|n=>n,fun|n=>n⟩
theorem Tryz.lays226:Go.Proofs.Lays.n226 Tryz.prog Tryz.lays226_ren:={
 mixed:=by kernel_rfl
 f226:=Tryz.func172.trans (congrArg some (by kernel_rfl))
 t3:=Tryz.underlying3
 a3:=Tryz.isAgg3
 z3:=Tryz.sizeOf3
 v3:=Tryz.zeroValue3
 t4:=Tryz.underlying4
 a4:=Tryz.isAgg4
 z4:=Tryz.sizeOf4
 v4:=Tryz.zeroValue4 }
open Go.RowKit Go.Lib in
theorem Tryz.strings_shouldUseASCIISet (n:Int) (w:World) :
  Calls Tryz.prog 172 #[.int .i64 n] w fun e w'=>e=.returned (.bool (decide (8<n)))∧w'=w:=Any.strings_shouldUseASCIISet Tryz.lays226 n w
def Tryz.lays153_ren:Go.Shelf.Ren:=⟨fun|153=>117|152=>171|226=>172|227=>142|228=>173|137=>228|119=>229|224=>230|225=>231|217=>264|266=>279|n=>n,fun|9=>9|3=>3|4=>4|5=>5|21=>21|117=>159|116=>158|0=>0|46=>130|124=>162|n=>n,fun|n=>n⟩
theorem Tryz.lays153:Go.Proofs.Lays.n153 Tryz.prog Tryz.lays153_ren:={
 mixed:=by kernel_rfl
 f119:=Tryz.func229.trans (congrArg some (by kernel_rfl))
 f137:=Tryz.func228.trans (congrArg some (by kernel_rfl))
 f152:=Tryz.func171.trans (congrArg some (by kernel_rfl))
 f153:=Tryz.func117.trans (congrArg some (by kernel_rfl))
 f217:=Tryz.func264.trans (congrArg some (by kernel_rfl))
 f224:=Tryz.func230.trans (congrArg some (by kernel_rfl))
 f225:=Tryz.func231.trans (congrArg some (by kernel_rfl))
 f226:=Tryz.func172.trans (congrArg some (by kernel_rfl))
 f227:=Tryz.func142.trans (congrArg some (by kernel_rfl))
 f228:=Tryz.func173.trans (congrArg some (by kernel_rfl))
 f266:=Tryz.func279.trans (congrArg some (by kernel_rfl))
 t0:=Tryz.underlying0
 a0:=Tryz.isAgg0
 z0:=Tryz.sizeOf0
 v0:=Tryz.zeroValue0
 t3:=Tryz.underlying3
 a3:=Tryz.isAgg3
 z3:=Tryz.sizeOf3
 v3:=Tryz.zeroValue3
 t4:=Tryz.underlying4
 a4:=Tryz.isAgg4
 z4:=Tryz.sizeOf4
 v4:=Tryz.zeroValue4
 t5:=Tryz.underlying5
 a5:=Tryz.isAgg5
 z5:=Tryz.sizeOf5
 v5:=Tryz.zeroValue5
 t9:=Tryz.underlying9
 a9:=Tryz.isAgg9
 z9:=Tryz.sizeOf9
 v9:=Tryz.zeroValue9
 t21:=Tryz.underlying21
 a21:=Tryz.isAgg21
 z21:=Tryz.sizeOf21
 v21:=Tryz.zeroValue21
 t46:=Tryz.underlying130
 a46:=Tryz.isAgg130
 z46:=Tryz.sizeOf130
 v46:=Tryz.zeroValue130
 t116:=Tryz.underlying158
 a116:=Tryz.isAgg158
 z116:=Tryz.sizeOf158
 t117:=Tryz.underlying159
 a117:=Tryz.isAgg159
 z117:=Tryz.sizeOf159
 v117:=Tryz.zeroValue159
 t124:=Tryz.underlying162
 a124:=Tryz.isAgg162
 z124:=Tryz.sizeOf162
 v124:=Tryz.zeroValue162 }
open Go.RowKit Go.Lib in
theorem Tryz.strings_IndexAny_short (s chars:ByteArray) (w:World) (h2:2≤chars.size) (h8:s.size≤8) (hascii:∀ (j:Nat) b,s.data.toList[j]?=some b→b.toNat<128) :
  Calls Tryz.prog 117 #[.string s,.string chars] w fun e w'=>e=.returned (.int .i64 (Lib.indexAny s.data.toList chars.data.toList))∧∃ pos,w'=w.iter s pos:=Any.strings_IndexAny_short Tryz.lays153 s chars w h2 h8 hascii
open Go.RowKit Go.Lib in
theorem Tryz.strings_IndexAny_long (hv116:∀ w,(zeroValue 158).run Tryz.prog w=.ok (.agg (Array.replicate 256 (.bool false))) w) (s chars:ByteArray) (w:World) (h2:2≤chars.size) (h8:8<s.size) (hs:s.size<4294967281) (hcs:chars.size<4294967281) (hascii:∀ (j:Nat) b,chars.data.toList[j]?=some b→b.toNat<128) :
  Calls Tryz.prog 117 #[.string s,.string chars] w fun e w'=>e=.returned (.int .i64 (Lib.indexAny s.data.toList chars.data.toList))∧w'=((w.alloc (.cells (Lib.setCells chars.data.toList) 158)).alloc (.cells (Lib.setCells chars.data.toList) 158)):=Any.strings_IndexAny_long Tryz.lays153 hv116 (by kernel_rfl) s chars w h2 h8 hs hcs hascii
def Tryz.lays105_ren:Go.Shelf.Ren:=⟨fun|105=>126|212=>184|99=>116|165=>185|166=>186|170=>187|169=>188|263=>238|264=>239|206=>170|240=>240|241=>241|276=>272|277=>273|n=>n,fun|9=>9|3=>3|4=>4|20=>20|0=>0|46=>130|109=>185|5=>5|72=>189|76=>191|51=>96|146=>224|53=>60|148=>153|70=>187|37=>65|75=>180|127=>227|164=>244|80=>44|n=>n,fun|n=>n⟩
theorem Tryz.lays105:Go.Proofs.Lays.n105 Tryz.prog Tryz.lays105_ren:={
 mixed:=by kernel_rfl
 f99:=Tryz.func116.trans (congrArg some (by kernel_rfl))
 f105:=Tryz.func126.trans (congrArg some (by kernel_rfl))
 f165:=Tryz.func185.trans (congrArg some (by kernel_rfl))
 f166:=Tryz.func186.trans (congrArg some (by kernel_rfl))
 f169:=Tryz.func188.trans (congrArg some (by kernel_rfl))
 f170:=Tryz.func187.trans (congrArg some (by kernel_rfl))
 f206:=Tryz.func170.trans (congrArg some (by kernel_rfl))
 f212:=Tryz.func184.trans (congrArg some (by kernel_rfl))
 f240:=Tryz.func240.trans (congrArg some (by kernel_rfl))
 f241:=Tryz.func241.trans (congrArg some (by kernel_rfl))
 f263:=Tryz.func238.trans (congrArg some (by kernel_rfl))
 f264:=Tryz.func239.trans (congrArg some (by kernel_rfl))
 f276:=Tryz.func272.trans (congrArg some (by kernel_rfl))
 f277:=Tryz.func273.trans (congrArg some (by kernel_rfl))
 t0:=Tryz.underlying0
 a0:=Tryz.isAgg0
 z0:=Tryz.sizeOf0
 v0:=Tryz.zeroValue0
 t3:=Tryz.underlying3
 a3:=Tryz.isAgg3
 z3:=Tryz.sizeOf3
 v3:=Tryz.zeroValue3
 t4:=Tryz.underlying4
 a4:=Tryz.isAgg4
 z4:=Tryz.sizeOf4
 v4:=Tryz.zeroValue4
 t5:=Tryz.underlying5
 a5:=Tryz.isAgg5
 z5:=Tryz.sizeOf5
 v5:=Tryz.zeroValue5
 t9:=Tryz.underlying9
 a9:=Tryz.isAgg9
 z9:=Tryz.sizeOf9
 v9:=Tryz.zeroValue9
 t20:=Tryz.underlying20
 a20:=Tryz.isAgg20
 z20:=Tryz.sizeOf20
 v20:=Tryz.zeroValue20
 t37:=Tryz.underlying65
 a37:=Tryz.isAgg65
 z37:=Tryz.sizeOf65
 v37:=Tryz.zeroValue65
 t46:=Tryz.underlying130
 a46:=Tryz.isAgg130
 z46:=Tryz.sizeOf130
 v46:=Tryz.zeroValue130
 t51:=Tryz.underlying96
 a51:=Tryz.isAgg96
 z51:=Tryz.sizeOf96
 v51:=Tryz.zeroValue96
 t53:=Tryz.underlying60
 a53:=Tryz.isAgg60
 z53:=Tryz.sizeOf60
 v53:=Tryz.zeroValue60
 t70:=Tryz.underlying187
 a70:=Tryz.isAgg187
 z70:=Tryz.sizeOf187
 v70:=Tryz.zeroValue187
 t72:=Tryz.underlying189
 a72:=Tryz.isAgg189
 z72:=Tryz.sizeOf189
 v72:=Tryz.zeroValue189
 t75:=Tryz.underlying180
 a75:=Tryz.isAgg180
 z75:=Tryz.sizeOf180
 v75:=Tryz.zeroValue180
 t76:=Tryz.underlying191
 a76:=Tryz.isAgg191
 z76:=Tryz.sizeOf191
 v76:=Tryz.zeroValue191
 t109:=Tryz.underlying185
 a109:=Tryz.isAgg185
 z109:=Tryz.sizeOf185
 v109:=Tryz.zeroValue185
 t127:=Tryz.underlying227
 a127:=Tryz.isAgg227
 z127:=Tryz.sizeOf227
 v127:=Tryz.zeroValue227
 t146:=Tryz.underlying224
 a146:=Tryz.isAgg224
 z146:=Tryz.sizeOf224
 v146:=Tryz.zeroValue224
 t148:=Tryz.underlying153
 a148:=Tryz.isAgg153
 z148:=Tryz.sizeOf153
 v148:=Tryz.zeroValue153
 t164:=Tryz.underlying244
 a164:=Tryz.isAgg244
 z164:=Tryz.sizeOf244
 v164:=Tryz.zeroValue244 }
theorem Tryz.Builder_Extra_105:Builder.Extra Tryz.prog Tryz.lays105_ren:={
 sizeBuilder:=by kernel_rfl
 liesBuilder:=by kernel_rfl
 t5:=Tryz.underlying5
 a5:=Tryz.isAgg5
 z5:=Tryz.sizeOf5
 v5:=Tryz.zeroValue5
 infoByte:=by kernel_rfl
 cellsByte:=by kernel_rfl
 sizeByte:=by kernel_rfl
 neB5:=by decide }
open Go.RowKit Go.Lib in
theorem Tryz.strings_Repeat (s:ByteArray) (c:Nat) (w:World) (hc:c≤9223372036854775807) (hlen:s.size*c≤140737488355328) :
  Calls Tryz.prog 126 #[.string s,.int .i64 c] w fun e w'=>e=.returned (.string ⟨(Lib.repeatL s.data.toList c).toArray⟩)∧Go.Proofs.YtfkaogdmlcdceaaGreatDoor.Bw w w':=Any.strings_Repeat Tryz.lays105 Tryz.Builder_Extra_105 s c w hc hlen
end Go.Proofs
namespace Go.Proofs.YtfkaogdmlcdceaaGreatDoor
open Go.RowKit
end Go.Proofs.YtfkaogdmlcdceaaGreatDoor
namespace Go.Proofs.YtfkaogdmlcdceaaGreatDoor
open Go.RowKit Go.Fl64
def gS (t1 t2:Bool×Nat×Int):Bool×Nat×Int:=cn (sumN t1.1 t1.2.1 t1.2.2 t2.1 t2.2.1 t2.2.2).1 (sumN t1.1 t1.2.1 t1.2.2 t2.1 t2.2.1 t2.2.2).2.1 (sumN t1.1 t1.2.1 t1.2.2 t2.1 t2.2.1 t2.2.2).2.2
def gM (t1 t2:Bool×Nat×Int):Bool×Nat×Int:=cn (!(t1.1==t2.1)) (t1.2.1*t2.2.1) (t1.2.2+t2.2.2)
def gD (t1 t2:Bool×Nat×Int):Bool×Nat×Int:=cn (sumN t1.1 t1.2.1 t1.2.2 (!t2.1&&decide (0<dlen t2.2.1)) t2.2.1 t2.2.2).1 (sumN t1.1 t1.2.1 t1.2.2 (!t2.1&&decide (0<dlen t2.2.1)) t2.2.1 t2.2.2).2.1 (sumN t1.1 t1.2.1 t1.2.2 (!t2.1&&decide (0<dlen t2.2.1)) t2.2.1 t2.2.2).2.2
def gN (t:Bool×Nat×Int):Bool×Nat×Int:=if t.2.1=0 then(false,0,0) else(!t.1,t.2.1,t.2.2)
theorem gcn_turn {t:Bool×Nat×Int} (h:cn t.1 t.2.1 t.2.2=t) (h0:t.2.1≠0) (s:Bool):cn s t.2.1 t.2.2=(s,t.2.1,t.2.2):=by
 unfold cn at h ⊢
 rw[if_neg h0] at h ⊢
 rw[Prod.ext_iff] at h
 exact Prod.ext rfl h.2
def gK (k:Int) (t:Bool×Nat×Int):Bool×Nat×Int:=if t.2.1=0 then(false,0,0) else(t.1,t.2.1,t.2.2+k)
def un (Z:Int) (p:Nat):Bool×Nat×Int:=cn (decide (Z<0)) Z.natAbs (-(p:Int))
theorem sv_nat (Z:Int):sv (decide (Z<0)) Z.natAbs=Z:=by
 unfold sv
 by_cases h:Z<0
 ·rw[if_pos (decide_eq_true h)];omega
 ·rw[if_neg (by simpa using h)];omega
theorem vz_un {K p:Nat} (Z:Int) (h:p≤K):vz K (un Z p).1 (un Z p).2.1 (un Z p).2.2=Z*((2^(K - p):Nat):Int):=by
 unfold un
 rw[vz_cn (by omega)]
 unfold vz
 rw[sv_nat,show(-(p:Int)+(K:Int)).toNat=K - p by omega]
theorem tz_le {x b:Nat} (h:x<2^b):tz x≤b:=by
 by_cases h0:x=0
 ·rw[h0];exact Nat.le_trans (Nat.le_of_eq (by rw[tz];rfl)) (Nat.zero_le _)
 ·have h2:=(tz_spec x x (Nat.le_refl _) h0).1
  have h3:2^tz x≤x:=by
   have h4:0<x / 2^tz x:=by
    rcases Nat.eq_zero_or_pos (x / 2^tz x)with h|h
    ·rw[h,Nat.mul_zero] at h2;omega
    ·exact h
   exact Nat.le_trans (Nat.le_mul_of_pos_right _ h4) (Nat.le_of_eq h2)
  exact Nat.le_of_lt ((Nat.pow_lt_pow_iff_right (by omega)).1 (Nat.lt_of_le_of_lt h3 h))
theorem un_e {Z:Int} {p b:Nat} (h:Z.natAbs<2^b) : -(p:Int)≤(un Z p).2.2∧(un Z p).2.2≤b∧0≤(un Z p).2.2+(p:Int):=by
 have ht:=tz_le h
 unfold un cn
 by_cases h0:Z.natAbs=0
 ·rw[if_pos h0];simp only;omega
 ·rw[if_neg h0];simp only;omega
theorem cn_idem (s:Bool) (z:Nat) (e:Int):cn (cn s z e).1 (cn s z e).2.1 (cn s z e).2.2=cn s z e:=by
 by_cases h0:z=0
 ·unfold cn;rw[if_pos h0,if_pos rfl]
 ·have h2:=(tz_spec z z (Nat.le_refl _) h0).2
  have:cn s z e=(s,z / 2^tz z,e+tz z):=by unfold cn;rw[if_neg h0]
  rw[this]
  exact cn_odd h2
theorem un_eq {s:Bool} {z:Nat} {e:Int} {Z:Int} {p K:Nat} (hp:p≤K) (he:0≤e+K) (h:vz K s z e=Z*((2^(K - p):Nat):Int)):cn s z e=un Z p:=by
 unfold un
 refine cn_eq he (by omega) ?_
 rw[h]
 unfold vz
 rw[sv_nat,show(-(p:Int)+(K:Int)).toNat=K - p by omega]
theorem gS_un {a b:Int} {p:Nat}:gS (un a p) (un b p)=un (a+b) p:=by
 have e1:=(un_e (p:=p) (Nat.lt_two_pow_self (n:=a.natAbs))).2.2
 have e2:=(un_e (p:=p) (Nat.lt_two_pow_self (n:=b.natAbs))).2.2
 unfold gS
 have hs:0≤(sumN (un a p).1 (un a p).2.1 (un a p).2.2 (un b p).1 (un b p).2.1 (un b p).2.2).2.2+(p:Int):=by
  unfold sumN
  split
  ·exact e2
  ·split
   ·exact e1
   ·split
    ·simp only;omega
    ·split <;> (simp only;omega)
 refine un_eq (K:=p) (Nat.le_refl _) hs ?_
 rw[vz_sumN e1 e2,vz_un a (Nat.le_refl _),vz_un b (Nat.le_refl _),←Int.add_mul]
theorem un_sign {Z:Int} {p:Nat}:((un Z p).1=true→0<dlen (un Z p).2.1)∧((un Z p).2.1=0↔Z=0):=by
 have hz:(un Z p).2.1=0↔Z=0:=by
  have h:=vz_un (K:=p) (p:=p) Z (Nat.le_refl _)
  have e:=vz_eq_zero (K:=p) (s:=(un Z p).1) (x:=(un Z p).2.1) (e:=(un Z p).2.2)
  rw[h,Nat.sub_self,Nat.pow_zero] at e
  constructor
  ·intro h0;have:=e.2 h0;simpa using this
  ·intro h0;exact e.1 (by rw[h0];simp)
 refine⟨fun h=>?_,hz⟩
 by_cases h0:(un Z p).2.1=0
 ·have:Z=0:=hz.1 h0
  subst this
  exact absurd h (by unfold un cn;rw[if_pos (by decide)];decide)
 ·have:dlen (un Z p).2.1≠0:=fun e=>h0 (dlen_eq_zero.1 e)
  omega
theorem gN_un {a:Int} {p:Nat}:gN (un a p)=un (-a) p:=by
 unfold gN
 by_cases h0:(un a p).2.1=0
 ·rw[if_pos h0]
  have:=un_sign.2.1 h0
  subst this
  unfold un cn;rw[if_pos (by decide)]
 ·rw[if_neg h0]
  have e1:=(un_e (p:=p) (Nat.lt_two_pow_self (n:=a.natAbs))).2.2
  have k:cn (!(un a p).1) (un a p).2.1 (un a p).2.2=(!(un a p).1,(un a p).2.1,(un a p).2.2):=gcn_turn (cn_idem _ _ _) h0 _
  rw[←k]
  refine un_eq (K:=p) (Nat.le_refl _) e1 ?_
  have h:=vz_un (K:=p) (p:=p) a (Nat.le_refl _)
  unfold vz at h ⊢
  have hs:sv (!(un a p).1) (un a p).2.1 = - sv (un a p).1 (un a p).2.1:=by unfold sv;cases (un a p).1 <;> simp
  rw[hs,Int.neg_mul,h,Int.neg_mul]
theorem gD_un {a b:Int} {p:Nat}:gD (un a p) (un b p)=un (a - b) p:=by
 have h:gD (un a p) (un b p)=gS (un a p) (gN (un b p)):=by
  unfold gD gS gN
  by_cases h0:(un b p).2.1=0
  ·rw[if_pos h0]
   have hb:=un_sign.2.1 h0
   subst hb
   have e:un 0 p=(false,0,0):=by unfold un cn;rw[if_pos (by decide)]
   rw[e,dlen_zero]
   rfl
  ·rw[if_neg h0]
   have hd:dlen (un b p).2.1≠0:=fun e=>h0 (dlen_eq_zero.1 e)
   rw[decide_eq_true (show 0<dlen (un b p).2.1 by omega),Bool.and_true]
 rw[h,gN_un,gS_un,Int.sub_eq_add_neg]
theorem gM_un {a b:Int} {p q:Nat}:gM (un a p) (un b q)=un (a*b) (p+q):=by
 have e1:=(un_e (p:=p) (Nat.lt_two_pow_self (n:=a.natAbs))).2.2
 have e2:=(un_e (p:=q) (Nat.lt_two_pow_self (n:=b.natAbs))).2.2
 unfold gM
 refine un_eq (K:=p+q) (Nat.le_refl _) (by omega) ?_
 rw[vz_mul e1 e2,vz_un a (Nat.le_refl _),vz_un b (Nat.le_refl _),Nat.sub_self,Nat.sub_self,Nat.sub_self]
 simp
theorem gK_un {a:Int} {p:Nat} {k:Int} {q:Nat} (h:(p:Int) - k=q):gK k (un a p)=un a q:=by
 unfold gK
 by_cases h0:(un a p).2.1=0
 ·rw[if_pos h0]
  have hb:=un_sign.2.1 h0
  subst hb
  unfold un cn;rw[if_pos (by decide)]
 ·rw[if_neg h0]
  unfold un at h0 ⊢
  unfold cn at h0 ⊢
  by_cases hz:a.natAbs=0
  ·rw[if_pos hz] at h0;exact absurd rfl h0
  ·rw[if_neg hz,if_neg hz]
   refine Prod.ext rfl (Prod.ext rfl ?_)
   simp only;omega
end Go.Proofs.YtfkaogdmlcdceaaGreatDoor
namespace Go.Proofs.YtfkaogdmlcdceaaGreatDoor
inductive Smp:Nat→Nat→Nat→Nat→Nat→Nat→Prop
 | whole {a b c d:Nat}:0<b→a % b=0→Smp a b c d (a / b) 1
 | above {a b c d:Nat}:0<b→a % b≠0→(a / b+1)*d≤c→Smp a b c d (a / b+1) 1
 | more {a b c d p q:Nat}:0<b→a % b≠0→c<(a / b+1)*d→Smp d (c - a / b*d) b (a % b) p q→Smp a b c d (a / b*p+q) p
end Go.Proofs.YtfkaogdmlcdceaaGreatDoor
namespace Go.Proofs.YtfkaogdmlcdceaaGreatDoor
open Go.RowKit Go.Fl64
theorem okR_un {Z:Int} {p b:Nat} (h:Z.natAbs<2^b) (hb:b≤60000) (hp:p≤60000):okR (decide (Z<0)) Z.natAbs (-(p:Int))=true :=
 Fits.ok (lo := -(p:Int)) (hi:=(b:Int) - p) (.inr ⟨by omega,by omega,by rw[show((b:Int) - p - (-(p:Int))).toNat=b by omega];exact h⟩) (by omega) (by omega) (by omega)
theorem ok_un {Z:Int} {p b:Nat} (h:Z.natAbs<2^b) (hb:b≤60000) (hp:p≤60000):Ok (un Z p):=ok_cn (okR_un h hb hp)
theorem pow_grow {x b:Nat} (k:Nat) (h:x<2^b):x<2^(b+k):=Nat.lt_of_lt_of_le h (Nat.pow_le_pow_right (by decide) (by omega))
theorem abs_add {a b:Int} {k:Nat} (h1:a.natAbs<2^k) (h2:b.natAbs<2^k):(a+b).natAbs<2^(k+1):=by rw[Nat.pow_succ];omega
theorem abs_sub {a b:Int} {k:Nat} (h1:a.natAbs<2^k) (h2:b.natAbs<2^k):(a - b).natAbs<2^(k+1):=by rw[Nat.pow_succ];omega
theorem abs_mul {a b:Int} {k l:Nat} (h1:a.natAbs<2^k) (h2:b.natAbs<2^l):(a*b).natAbs<2^(k+l):=by
 rw[Int.natAbs_mul,Nat.pow_add]
 exact Nat.mul_lt_mul'' h1 h2
theorem padd_un {a b:Int} {p k:Nat} (h1:a.natAbs<2^k) (h2:b.natAbs<2^k) (hk:k<60000) (hp:p≤60000):Op2 167 (un a p) (un b p) (un (a+b) p):=by
 have e:=gS_un (a:=a) (b:=b) (p:=p)
 have:=add_op (ok_un (p:=p) h1 (by omega) hp) (ok_un (p:=p) h2 (by omega) hp) (by
  rw[okR_cn]
  have o:=ok_un (p:=p) (abs_add h1 h2) (by omega) hp
  rw[←e] at o
  exact o)
 rw[←e]
 exact this
theorem psub_un {a b:Int} {p k:Nat} (h1:a.natAbs<2^k) (h2:b.natAbs<2^k) (hk:k<60000) (hp:p≤60000):Op2 161 (un a p) (un b p) (un (a - b) p):=by
 have e:=gD_un (a:=a) (b:=b) (p:=p)
 have:=sub_op (ok_un (p:=p) h1 (by omega) hp) (ok_un (p:=p) h2 (by omega) hp) (by
  rw[okR_cn]
  have o:=ok_un (p:=p) (abs_sub h1 h2) (by omega) hp
  rw[←e] at o
  exact o)
 rw[←e]
 exact this
theorem pmul_un {a b:Int} {p q k l:Nat} (h1:a.natAbs<2^k) (h2:b.natAbs<2^l) (hk:k+l≤60000) (hp:p+q≤60000):Op2 162 (un a p) (un b q) (un (a*b) (p+q)):=by
 have e:=gM_un (a:=a) (b:=b) (p:=p) (q:=q)
 have:=mul_op (ok_un (p:=p) h1 (by omega) (by omega)) (ok_un (p:=q) h2 (by omega) (by omega)) (by
  rw[okR_cn]
  have o:=ok_un (p:=p+q) (abs_mul h1 h2) (by omega) hp
  rw[←e] at o
  exact o)
 rw[←e]
 exact this
theorem ord_un {a b:Int} {p:Nat}:ordN (un a p).1 (un a p).2.1 (un a p).2.2 (un b p).1 (un b p).2.1 (un b p).2.2=cmpI a b:=by
 have e1:=(un_e (p:=p) (Nat.lt_two_pow_self (n:=a.natAbs))).2.2
 have e2:=(un_e (p:=p) (Nat.lt_two_pow_self (n:=b.natAbs))).2.2
 rw[ordN_vz e1 e2,vz_un a (Nat.le_refl _),vz_un b (Nat.le_refl _),Nat.sub_self,Nat.pow_zero]
 simp
theorem pcmp_un {a b:Int} {p k:Nat} (h1:a.natAbs<2^k) (h2:b.natAbs<2^k) (hk:k≤60000) (hp:p≤60000) {W:World} {X Y:Value} (hX:PN W X (un a p)) (hY:PN W Y (un b p)) :
  Calls Tryz.prog 166 #[X,Y] W fun r w'=>r=.returned (.int .i64 (cmpI a b))∧Bw W w':=by
 have o1:=ok_un (p:=p) h1 hk hp
 have o2:=ok_un (p:=p) h2 hk hp
 have f1:=o1.facts
 have f2:=o2.facts
 obtain⟨ua,uc,rfl,i1⟩:=hX
 obtain⟨va,vc,rfl,i2⟩:=hY
 have:=cmp_ok i1 i2 (by omega) (by omega) (by omega) (by omega) o1 o2
 rw[ord_un] at this
 exact this
theorem div_cross {X Y A B:Nat} (hY:0<Y) (hB:0<B) (h:X*B=A*Y):X / Y=A / B∧(X % Y=0↔A % B=0):=by
 have h1:X / Y=A / B:=by
  rw[←Nat.mul_div_mul_right X Y hB,h,Nat.mul_comm Y B,Nat.mul_div_mul_right A B hY]
 refine⟨h1,?_⟩
 have e1:=Nat.div_add_mod X Y
 have e2:=Nat.div_add_mod A B
 have e3:X % Y*B=A % B*Y:=by
  have g1:X*B=Y*(A / B)*B+X % Y*B:=by rw[←Nat.add_mul,←h1,e1]
  have g2:A*Y=B*(A / B)*Y+A % B*Y:=by rw[←Nat.add_mul,e2]
  have g3:Y*(A / B)*B=B*(A / B)*Y:=by ac_rfl
  omega
 constructor
 ·intro h0
  rw[h0,Nat.zero_mul] at e3
  rcases Nat.mul_eq_zero.1 e3.symm with h|h
  ·exact h
  ·omega
 ·intro h0
  rw[h0,Nat.zero_mul] at e3
  rcases Nat.mul_eq_zero.1 e3 with h|h
  ·exact h
  ·omega
theorem un_nat {A p:Nat}:(un (A:Int) p).1=false:=by
 unfold un cn
 rw[decide_eq_false (by omega)]
 split <;> rfl
theorem pquo_un {A B p k:Nat} (h1:A<2^k) (h2:B<2^k) (h0:0<B) (hk:k≤60000) (hp:p≤60000) {W:World} {X Y:Value} (hT:Tab32 W) (hX:PN W X (un (A:Int) p)) (hY:PN W Y (un (B:Int) p)) :
  Calls Tryz.prog 90 #[X,Y,.int .i64 0] W fun r w'=>∃ s ao n cap e,r=.returned (.tuple #[.agg #[.bool s,.slice ao n cap,.int .i64 e],.bool (decide (A % B=0)),.int .i64 0])∧PN w' (.agg #[.bool s,.slice ao n cap,.int .i64 e]) (un ((A / B:Nat):Int) 0)∧Bw W w':=by
 have a1:((A:Nat):Int).natAbs<2^k:=by rw[Int.natAbs_natCast];exact h1
 have b1:((B:Nat):Int).natAbs<2^k:=by rw[Int.natAbs_natCast];exact h2
 have o1:=ok_un (p:=p) a1 hk hp
 have o2:=ok_un (p:=p) b1 hk hp
 have f1:=o1.facts
 have f2:=o2.facts
 have v1:=vz_un (K:=p) (p:=p) (A:Int) (Nat.le_refl _)
 have v2:=vz_un (K:=p) (p:=p) (B:Int) (Nat.le_refl _)
 have g1:=(un_e (p:=p) a1).2.2
 have g2:=(un_e (p:=p) b1).2.2
 have n1:=un_nat (A:=A) (p:=p)
 have n2:=un_nat (A:=B) (p:=p)
 have z2:(un (B:Int) p).2.1≠0:=fun h=>by have:=un_sign.2.1 h;omega
 obtain⟨ua,uc,rfl,i1⟩:=hX
 obtain⟨va,vc,rfl,i2⟩:=hY
 obtain⟨t1,ht1⟩:∃ t,t=un (A:Int) p:=⟨_,rfl⟩
 obtain⟨t2,ht2⟩:∃ t,t=un (B:Int) p:=⟨_,rfl⟩
 rw[←ht1] at o1 f1 v1 g1 n1 i1 ⊢
 rw[←ht2] at o2 f2 v2 g2 n2 z2 i2 ⊢
 obtain⟨s1,x,ea⟩:=t1
 obtain⟨s2,y,eb⟩:=t2
 simp only at o1 f1 v1 g1 n1 i1 o2 f2 v2 g2 n2 z2 i2 ⊢
 subst n1
 subst n2
 have eA:x*2^(ea+(p:Int)).toNat=A:=by
  unfold vz sv at v1
  rw[Nat.sub_self,Nat.pow_zero] at v1
  simp only[Bool.false_eq_true,if_false,Int.mul_one] at v1
  have:((x*2^(ea+(p:Int)).toNat:Nat):Int)=(A:Int):=by
   rw[Int.natCast_mul];simpa using v1
  exact Int.ofNat.inj this
 have eB:y*2^(eb+(p:Int)).toNat=B:=by
  unfold vz sv at v2
  rw[Nat.sub_self,Nat.pow_zero] at v2
  simp only[Bool.false_eq_true,if_false,Int.mul_one] at v2
  have:((y*2^(eb+(p:Int)).toNat:Nat):Int)=(B:Int):=by
   rw[Int.natCast_mul];simpa using v2
  exact Int.ofNat.inj this
 obtain⟨P,hP⟩:∃ P,x*2^(ea+0 - min (ea+0) eb).toNat=P:=⟨_,rfl⟩
 obtain⟨Q,hQ⟩:∃ Q,y*2^(eb - min (ea+0) eb).toNat=Q:=⟨_,rfl⟩
 have hQ0:0<Q:=by rw[←hQ];exact Nat.mul_pos (Nat.pos_of_ne_zero z2) (Nat.two_pow_pos _)
 have hcr:P*B=A*Q:=by
  rw[←hP,←hQ,←eA,←eB]
  have e1:(ea+0 - min (ea+0) eb).toNat+(eb+(p:Int)).toNat=(ea+(p:Int)).toNat+(eb - min (ea+0) eb).toNat:=by omega
  generalize (ea+0 - min (ea+0) eb).toNat=j1 at *
  generalize (eb+(p:Int)).toNat=j2 at *
  generalize (ea+(p:Int)).toNat=j3 at *
  generalize (eb - min (ea+0) eb).toNat=j4 at *
  have e2:(2:Nat)^j1*2^j2=2^j3*2^j4:=by rw[←Nat.pow_add,←Nat.pow_add,e1]
  calc x*2^j1*(y*2^j2)=x*y*(2^j1*2^j2):=by ac_rfl
   _=x*y*(2^j3*2^j4):=by rw[e2]
   _=x*2^j3*(y*2^j4):=by ac_rfl
 obtain⟨d1,d2⟩:=div_cross hQ0 h0 hcr
 refine(c44 (na:=false) (nb:=false) (place:=0) i1 i2 hT z2 (by omega) (by omega) o1 o2 ⟨f1.2.1,f1.2.2.1⟩ ⟨f2.2.1,f2.2.2.1⟩ (by omega) P Q hP hQ).mono ?_
 rintro r w' ⟨N,rfl,hN,hb⟩
 have hz:(if((false:Bool) != false) && !(decide (P % Q=0))then P / Q+1 else P / Q)=A / B:=by rw[←d1];rfl
 have hdec:decide (P % Q=0)=decide (A % B=0):=by
  by_cases h:A % B=0
  ·rw[decide_eq_true h,decide_eq_true (d2.2 h)]
  ·rw[decide_eq_false h,decide_eq_false (fun g=>h (d2.1 g))]
 rw[hz] at hN
 have hq1:((A / B:Nat):Int).natAbs<2^k:=by rw[Int.natAbs_natCast];exact Nat.lt_of_le_of_lt (Nat.div_le_self _ _) h1
 have hokq:okR ((false:Bool) != false) (A / B) (-(0:Int))=true:=by
  have:=okR_un (p:=0) hq1 hk (by omega)
  rw[decide_eq_false (by omega),Int.natAbs_natCast] at this
  exact this
 rw[hz,hokq,hdec]
 have hpn:=hN.pn
 have he:cn ((false:Bool) != false) (A / B) (-(0:Int))=un ((A / B:Nat):Int) 0:=by
  unfold un
  rw[decide_eq_false (by omega),Int.natAbs_natCast]
  rfl
 rw[he] at hpn
 obtain⟨s',ao,n,cap,e',rfl⟩:=hpn.shape
 exact⟨s',ao,n,cap,e',by rw[Bool.and_true];rfl,hpn,hb⟩
def Fv (W:World) (U:Value) (t1 t2:Bool×Nat×Int):Prop:=∃ (s1:Bool) (ao1:Option Addr) (n1 cp1:Nat) (e1:Int) (s2:Bool) (ao2:Option Addr) (n2 cp2:Nat) (e2:Int),U=.agg #[.bool s1,.slice ao1 n1 cp1,.int .i64 e1,.bool s2,.slice ao2 n2 cp2,.int .i64 e2]∧PN W (.agg #[.bool s1,.slice ao1 n1 cp1,.int .i64 e1]) t1∧PN W (.agg #[.bool s2,.slice ao2 n2 cp2,.int .i64 e2]) t2
theorem Fv.later {W w':World} {U:Value} {t1 t2:Bool×Nat×Int} (h:Fv W U t1 t2) (hb:Bw W w'):Fv w' U t1 t2:=by
 obtain⟨_,_,_,_,_,_,_,_,_,_,e,h1,h2⟩:=h
 exact⟨_,_,_,_,_,_,_,_,_,_,e,h1.later hb,h2.later hb⟩
theorem cells6F {w:World} {g:Nat} {a b c d e f:Value} {T:TypeId} (h:w.heap[g]?=some (.cells #[a,b,c,d,e,f] T (0,0))) :
  (w.cell? ⟨g,0,none⟩=some a∧w.cell? ⟨g,1,none⟩=some b∧w.cell? ⟨g,2,none⟩=some c∧w.cell? ⟨g,3,none⟩=some d∧w.cell? ⟨g,4,none⟩=some e∧w.cell? ⟨g,5,none⟩=some f)∧(w.frozen? ⟨g,0,none⟩=false∧w.frozen? ⟨g,1,none⟩=false∧w.frozen? ⟨g,2,none⟩=false∧w.frozen? ⟨g,3,none⟩=false∧w.frozen? ⟨g,4,none⟩=false∧w.frozen? ⟨g,5,none⟩=false):=by
 simp[World.cell?,World.frozen?,h]
theorem cells3N {w:World} {g:Nat} {a b c:Value} {T:TypeId} (h:w.heap[g]?=some (.cells #[a,b,c] T (0,0))) :
  (w.cell? ⟨g,0,none⟩=some a∧w.cell? ⟨g,1,none⟩=some b∧w.cell? ⟨g,2,none⟩=some c)∧(w.frozen? ⟨g,0,none⟩=false∧w.frozen? ⟨g,1,none⟩=false∧w.frozen? ⟨g,2,none⟩=false):=by
 simp[World.cell?,World.frozen?,h]
theorem two_new {w W:World} (a b:Obj) (hW:W=(w.alloc a).alloc b):W.heap[w.heap.size]?=some a∧W.heap[w.heap.size+1]?=some b∧W.heap.size=w.heap.size+1+1∧Bw w W:=by
 subst hW
 refine⟨?_,?_,by simp,((Below.refl _ _).alloc (Nat.le_refl _) _).alloc (by simp) _⟩
 ·rw[Below.heap_alloc _ _ _ (by simp)];exact heap_alloc_new _ _
 ·have:=heap_alloc_new (w.alloc a) b
  simpa using this
theorem at_cells {W W':World} {ao:Option Addr} {n z g:Nat} {T:TypeId} {s1 s2:Bool} {a1 a2:Option Addr} {m1 c1 m2 c2:Nat} {e1 e2:Int} (h:At W ao n z) (hE:W.heap[g]?=some (.cells #[.bool s1,.slice a1 m1 c1,.int .i64 e1] T (0,0))∨W.heap[g]?=some (.cells #[.bool s1,.slice a1 m1 c1,.int .i64 e1,.bool s2,.slice a2 m2 c2,.int .i64 e2] T (0,0))) (hW:∀ b,b≠g→W'.heap[b]?=W.heap[b]?):At W' ao n z:=by
 obtain⟨bb,o,h1,h2⟩:=h
 refine⟨bb,o,h1,fun i hi=>?_⟩
 have hc:=h2 i hi
 have hne:bb≠g:=by
  rintro rfl
  rcases hE with hE|hE
  ·simp only[World.cell?,hE] at hc
   rcases(show o+i=0∨o+i=1∨o+i=2∨3≤o+i by omega)with e|e|e|e
   ·rw[e] at hc;simp at hc
   ·rw[e] at hc;simp at hc
   ·rw[e] at hc;simp at hc
   ·rw[Array.getElem?_eq_none (by simpa using e)] at hc;cases hc
  ·simp only[World.cell?,hE] at hc
   rcases(show o+i=0∨o+i=1∨o+i=2∨o+i=3∨o+i=4∨o+i=5∨6≤o+i by omega)with e|e|e|e|e|e|e
   ·rw[e] at hc;simp at hc
   ·rw[e] at hc;simp at hc
   ·rw[e] at hc;simp at hc
   ·rw[e] at hc;simp at hc
   ·rw[e] at hc;simp at hc
   ·rw[e] at hc;simp at hc
   ·rw[Array.getElem?_eq_none (by simpa using e)] at hc;cases hc
 unfold World.cell? at hc ⊢
 rw[hW bb hne]
 exact hc
theorem set_other (W:World) (g b i:Nat) (v:Value) (h:b≠g):(W.setCell ⟨g,i,none⟩ v).heap[b]?=W.heap[b]?:=by
 simp[World.setCell,Array.getElem?_modify,Ne.symm h]
theorem PN.cells {W W':World} {A:Value} {t:Bool×Nat×Int} {g:Nat} {T:TypeId} {s1 s2:Bool} {a1 a2:Option Addr} {m1 c1 m2 c2:Nat} {e1 e2:Int} (h:PN W A t) (hE:W.heap[g]?=some (.cells #[.bool s1,.slice a1 m1 c1,.int .i64 e1] T (0,0))∨W.heap[g]?=some (.cells #[.bool s1,.slice a1 m1 c1,.int .i64 e1,.bool s2,.slice a2 m2 c2,.int .i64 e2] T (0,0))) (hW:∀ b,b≠g→W'.heap[b]?=W.heap[b]?):PN W' A t:=by
 obtain⟨ao,cap,rfl,a',c',h1,h2,h3,h4⟩:=h
 exact⟨ao,cap,rfl,a',c',h1,h2,h3,at_cells h4 hE hW⟩
theorem PN.set3 {W:World} {A:Value} {t:Bool×Nat×Int} {g:Nat} {T:TypeId} {s1:Bool} {a1:Option Addr} {m1 c1:Nat} {e1:Int} (h:PN W A t) (hE:W.heap[g]?=some (.cells #[.bool s1,.slice a1 m1 c1,.int .i64 e1] T (0,0))) (x y z:Value):PN (((W.setCell ⟨g,0,none⟩ x).setCell ⟨g,1,none⟩ y).setCell ⟨g,2,none⟩ z) A t :=
 h.cells (s2:=false) (a2:=none) (m2:=0) (c2:=0) (e2:=0) (.inl hE) fun b hb=>by rw[set_other _ _ _ _ _ hb,set_other _ _ _ _ _ hb,set_other _ _ _ _ _ hb]
theorem set6_at {w:World} {g:Nat} {a b c d e f:Value} {T:TypeId} (a1 b1 c1 a2 b2 c2:Value) (h:w.heap[g]?=some (.cells #[a,b,c,d,e,f] T (0,0))) :
  ((((((w.setCell ⟨g,0,none⟩ a1).setCell ⟨g,1,none⟩ b1).setCell ⟨g,2,none⟩ c1).setCell ⟨g,3,none⟩ a2).setCell ⟨g,4,none⟩ b2).setCell ⟨g,5,none⟩ c2).heap[g]?=some (.cells #[a1,b1,c1,a2,b2,c2] T (0,0)):=by
 simp[World.setCell,Array.getElem?_modify,h]
theorem PN.set6 {W:World} {A:Value} {t:Bool×Nat×Int} {g:Nat} {T:TypeId} {s1 s2:Bool} {a1 a2:Option Addr} {m1 c1 m2 c2:Nat} {e1 e2:Int} (h:PN W A t) (hE:W.heap[g]?=some (.cells #[.bool s1,.slice a1 m1 c1,.int .i64 e1,.bool s2,.slice a2 m2 c2,.int .i64 e2] T (0,0))) (x y z x' y' z':Value):PN ((((((W.setCell ⟨g,0,none⟩ x).setCell ⟨g,1,none⟩ y).setCell ⟨g,2,none⟩ z).setCell ⟨g,3,none⟩ x').setCell ⟨g,4,none⟩ y').setCell ⟨g,5,none⟩ z') A t :=
 h.cells (.inr hE) fun b hb=>by rw[set_other _ _ _ _ _ hb,set_other _ _ _ _ _ hb,set_other _ _ _ _ _ hb,set_other _ _ _ _ _ hb,set_other _ _ _ _ _ hb,set_other _ _ _ _ _ hb]
theorem below_set3 {B:Nat} {w0 w:World} {g:Nat} (h:Below B w0 w) (hg:B≤g) (x y z:Value):Below B w0 (((w.setCell ⟨g,0,none⟩ x).setCell ⟨g,1,none⟩ y).setCell ⟨g,2,none⟩ z):=((h.setCell hg _).setCell hg _).setCell hg _
theorem below_set6 {B:Nat} {w0 w:World} {g:Nat} (h:Below B w0 w) (hg:B≤g) (x y z x' y' z':Value):Below B w0 ((((((w.setCell ⟨g,0,none⟩ x).setCell ⟨g,1,none⟩ y).setCell ⟨g,2,none⟩ z).setCell ⟨g,3,none⟩ x').setCell ⟨g,4,none⟩ y').setCell ⟨g,5,none⟩ z'):=(((((h.setCell hg _).setCell hg _).setCell hg _).setCell hg _).setCell hg _).setCell hg _
theorem set3_at {w:World} {g:Nat} {a b c:Value} {T:TypeId} (a1 b1 c1:Value) (h:w.heap[g]?=some (.cells #[a,b,c] T (0,0))) :
  (((w.setCell ⟨g,0,none⟩ a1).setCell ⟨g,1,none⟩ b1).setCell ⟨g,2,none⟩ c1).heap[g]?=some (.cells #[a1,b1,c1] T (0,0)):=by
 simp[World.setCell,Array.getElem?_modify,h]
theorem three_new {w W:World} (a b c:Obj) (hW:W=((w.alloc a).alloc b).alloc c):W.heap[w.heap.size]?=some a∧W.heap[w.heap.size+1]?=some b∧W.heap[w.heap.size+1+1]?=some c∧Bw w W:=by
 obtain⟨V,hV⟩:∃ V,V=(w.alloc a).alloc b:=⟨_,rfl⟩
 obtain⟨h1,h2,h3,h4⟩:=two_new a b hV
 have hb:Bw V W:=by rw[hW,←hV];exact(Below.refl _ _).alloc (Nat.le_refl _) _
 refine⟨box_later h1 hb (by omega),box_later h2 hb (by omega),?_,h4.trans (hb.mono h4.size)⟩
 rw[hW,←hV,←h3];exact heap_alloc_new _ _
def OutP (W:World) (T:Bool×Nat×Int) (r:Ending) (w':World):Prop:=∃ s ao n cap e,r=.returned (.agg #[.bool s,.slice ao n cap,.int .i64 e])∧PN w' (.agg #[.bool s,.slice ao n cap,.int .i64 e]) T∧Bw W w'
def OutFv (W:World) (t1 t2:Bool×Nat×Int) (r:Ending) (w':World):Prop:=∃ U,r=.returned U∧Fv w' U t1 t2∧Bw W w'
end Go.Proofs.YtfkaogdmlcdceaaGreatDoor
namespace Go.Proofs.YtfkaogdmlcdceaaGreatDoor
open Go.RowKit
structure ParL (W0:World) (a0:Act) (m:Nat) (slot:Nat→Tmp) (V:Nat→World→Value→Prop) (listed:Array Bool) (a:Act) (w:World):Prop where
 below:Bw W0 w
 size:a.tmps.size=a0.tmps.size
 defers:a.defers=a0.defers
 other:∀ s,(∀ j,j<m→s≠slot j)→a.tmps[s]?=a0.tmps[s]?
 val:∀ j,j<m→listed.getD j false=true→∃ u,a.tmps[slot j]?=some u∧V j w u
theorem parl_region {P:Program} {ops:Array Oper} {Q:Exit→Act→World→Prop} {id:Nat} (hm:P.follows .mixedOrders=true) (m:Nat) (slot:Nat→Tmp) (dep:Nat→List Nat)
  (W0:World) (a0:Act) (V:Nat→World→Value→Prop) (hsz:ops.size=m+1)
  (hord:∀ (i:Nat) (o:Oper),ops[i]?=some o→∀ e ∈ o.after,e.on<i)
  (hV1:∀ j w w' u,Bw w w'→V j w u→V j w' u)
  (hdep:∀ j,j<m→∀ j' ∈ dep j,j'<m∧∀ o,ops[j]?=some o→∃ e ∈ o.after,e.on=j'∧Region.binds .any e=true)
  (hA:∀ j,j<m→∀ (a:Act) (w:World),Bw W0 w→(∀ s,(∀ j,j<m→s≠slot j)→a.tmps[s]?=a0.tmps[s]?) →
   (∀ j' ∈ dep j,∃ u,a.tmps[slot j']?=some u∧V j' w u)→wpOp P ops Q j (fun a' w'=>∃ u,a'=a.put (some (slot j)) u∧V j w' u∧Bw w w') a w)
  (hlast:∀ o,ops[m]?=some o→∀ j,j<m→∃ e ∈ o.after,e.on=j∧Region.binds .any e=true)
  (hin:∀ j,j<m→slot j<a0.tmps.size)
  (hinj:∀ j j',j<m→j'<m→slot j=slot j'→j=j')
  (hL:∀ (u:Nat→Value) (a:Act) (w:World),Bw W0 w→(∀ j,j<m→a.tmps[slot j]?=some (u j)∧V j w (u j)) →
   a.tmps.size=a0.tmps.size→a.defers=a0.defers→(∀ s,(∀ j,j<m→s≠slot j)→a.tmps[s]?=a0.tmps[s]?)→wpOp P ops Q m (fun a' w'=>Q .normal a' w') a w) :
  (Code.region id ops true).wp P Q a0 W0:=by
 refine wp_region_any hm ?_
 refine wpAny_inv (fun listed a w=>(listed.getD m false=false∧ParL W0 a0 m slot V listed a w)∨((∀ i,i<m+1→listed.getD i false=true)∧Q .normal a w)) ?_ ?_ ops.size _ a0 _ (by simp) ?_ (by simp)
 ·intro listed a w i hl hI hr
  obtain⟨hun,o,ho,hall⟩:=mem_ready.1 hr
  have hunf:=not_listed hun
  have hio:i<ops.size:=(Array.getElem?_eq_some_iff.1 ho).1
  have hil:i<listed.size:=by omega
  have hset:=listed_set hil
  have hne:∀ x,x≠i→(listed.setIfInBounds i true).getD x false=listed.getD x false:=fun x hx=>getD_set_ne false (Ne.symm hx)
  rcases hI with ⟨hm0,hI⟩|⟨hfull,-⟩
  ·by_cases him:i<m
   ·refine wpOp_mono ?_ (hA i him a w hI.below hI.other fun j' hj'=>?_)
    ·rintro a' w' ⟨u,rfl,hu,hb⟩
     have hlt:slot i<a.tmps.size:=by rw[hI.size];exact hin i him
     refine .inl ⟨by rw[hne m (by omega)];exact hm0,hI.below.trans (hb.mono hI.below.size),by rw[put_size];exact hI.size,by rw[put_defers];exact hI.defers,fun s h1=>?_,fun j hj h1=>?_⟩
     ·rw[put_get_ne (h1 i him)];exact hI.other s h1
     ·by_cases e:j=i
      ·subst e;exact⟨u,put_get hlt,hu⟩
      ·rw[hne j e] at h1
       obtain⟨u',g1,g2⟩:=hI.val j hj h1
       exact⟨u',by rw[put_get_ne (fun e2=>e (hinj j i hj him e2))];exact g1,hV1 _ _ _ _ hb g2⟩
    ·obtain⟨h1,h2⟩:=hdep i him j' hj'
     obtain⟨e,he,rfl,hbd⟩:=h2 o ho
     exact hI.val _ h1 (hall e he hbd)
   ·obtain rfl:i=m:=by omega
    have hl2:∀ j,j<i→listed.getD j false=true:=fun j hj=>by
     obtain⟨e,he,rfl,hbd⟩:=hlast o ho j hj
     exact hall e he hbd
    have hval:∀ j,∃ u,j<i→a.tmps[slot j]?=some u∧V j w u:=fun j=>by
     by_cases hj:j<i
     ·obtain⟨u,h1,h2⟩:=hI.val j hj (hl2 j hj)
      exact⟨u,fun _=>⟨h1,h2⟩⟩
     ·exact⟨undef,fun h=>absurd h hj⟩
    obtain⟨u,hu⟩:=Classical.axiomOfChoice hval
    refine wpOp_mono ?_ (hL u a w hI.below hu hI.size hI.defers hI.other)
    intro a' w' hq
    refine .inr ⟨fun j hj=>?_,hq⟩
    by_cases e:j=i
    ·rw[e];exact hset
    ·rw[hne j e];exact hl2 j (by omega)
  ·rw[hfull i (by omega)] at hunf
   cases hunf
 ·intro listed a w hl hI hr
  rcases hI with ⟨hm0,hI⟩|⟨-,hq⟩
  ·exfalso
   have hfull:∀ i,i<ops.size→listed.getD i false=true:=by
    intro i
    induction i using Nat.strongRecOn with
    | _ i ih =>
     intro hi
     cases hx:listed.getD i false with
     | true=>rfl
     | false =>
      exfalso
      have ho:ops[i]?=some ops[i]:=Array.getElem?_eq_getElem hi
      have:i ∈ Region.ready .any ops listed:=by
       refine mem_ready.2 ⟨?_,ops[i],ho,fun e he _=>ih e.on (hord i _ ho e he) (Nat.lt_trans (hord i _ ho e he) hi)⟩
       have hil:i<listed.size:=by omega
       simp only[Array.getD_eq_getD_getElem?,Array.getElem?_eq_getElem hil,Option.getD_some] at hx ⊢
       exact hx
      rw[hr] at this
      cases this
   rw[hfull m (by omega)] at hm0
   cases hm0
  ·exact hq
 ·have h0:∀ x,(Array.replicate ops.size false).getD x false=true→False:=fun x h=>by
   simp[Array.getD_eq_getD_getElem?,Array.getElem?_replicate] at h
   split at h <;> simp at h
  refine .inl ⟨?_,(Below.refl _ _).drew,rfl,rfl,fun _ _=>rfl,fun j _ h=>(h0 _ h).elim⟩
  cases hx:(Array.replicate ops.size false).getD m false with
  | false=>rfl
  | true=>exact(h0 _ hx).elim
def vhas (o:Oper) (j:Nat):Bool:=o.after.any fun e=>e.on==j&&Region.binds .any e
theorem vhas_ex {o:Oper} {j:Nat} (h:vhas o j=true):∃ e ∈ o.after,e.on=j∧Region.binds .any e=true:=by
 unfold vhas at h
 obtain⟨i,hi,h2⟩:=Array.any_eq_true.1 h
 rw[Bool.and_eq_true,beq_iff_eq] at h2
 exact⟨_,Array.getElem_mem hi,h2.1,h2.2⟩
theorem owp_move {P:Program} {Q:Exit→Act→World→Prop} {o:Oper} {K:Act→World→Prop} {a:Act} {w:World} {s:Tmp} {v:Value}
  (hop:o.op=.move (.tmp s)) (hs:a.tmps[s]?=some v) (h:K (a.put o.dst v) w):o.wp P a w K Q:=by
 unfold Oper.wp
 simp[execOp,hop,eval_get hs,Oper.upon,h]
theorem owp_assign {P:Program} {Q:Exit→Act→World→Prop} {o:Oper} {K:Act→World→Prop} {a:Act} {w:World} {s:Tmp} {v:Value}
  (hop:o.op=.assign (.tmp s)) (hs:a.tmps[s]?=some v) (h:K (a.put o.dst v) w):o.wp P a w K Q:=by
 unfold Oper.wp
 simp[execOp,hop,eval_get hs,Oper.upon,h]
theorem owp_call {P:Program} {Q:Exit→Act→World→Prop} {o:Oper} {K:Act→World→Prop} {a:Act} {w:World}
  {f:FuncId} {args:Array Operand} {ts:Array TypeId} (hop:o.op=.call { callee:=.value (.func f),args:=args,argTypes:=ts }) {vs:Array Value}
  (hc:∀ vs w,(callFunc f vs).run P w=.ok (.enter f vs) w) (hv:args.map a.eval=vs) (h:Calls P f vs w fun r w'=>∃ v,r=.returned v∧K (a.put o.dst v) w'):o.wp P a w K Q:=by
 unfold Oper.wp
 have e:(execOp a.eval o).run P w=.ok (.enter f vs) w:=by
  simp[execOp,hop,resolve,Deferred.ofValue,Act.eval,invoke,hv,hc]
 rw[e,Oper.upon_enter]
 refine h.mono ?_
 rintro r w' ⟨v,rfl,hk⟩
 exact hk
theorem owp_run1 {P:Program} {Q:Exit→Act→World→Prop} {o:Oper} {K:Act→World→Prop} {a:Act} {w w':World} {v:Value}
  (hr:(execOp a.eval o).run P w=.ok (.value v) w') (h:K (a.put o.dst v) w'):o.wp P a w K Q:=by
 unfold Oper.wp
 rw[hr]
 exact h
def Stays (P:World→Value→Prop):Prop:=∀ W W' A,Bw W W'→P W A→P W' A
def StaysAll:List (World→Value→Prop)→Prop
 | []=>True
 | P :: r=>Stays P∧StaysAll r
def vL (L:List (World→Value→Prop)) (j:Nat):World→Value→Prop:=L[j]?.getD (fun _ _=>False)
def dL (D:List (List Nat)) (j:Nat):List Nat:=D[j]?.getD []
def isV (x:Value):World→Value→Prop:=fun _ u=>u=x
theorem isV_stays (x:Value):Stays (isV x):=fun _ _ _ _ h=>h
theorem vL_stays:∀ {L:List (World→Value→Prop)},StaysAll L→∀ j,Stays (vL L j)
 | [],_,j=>fun W W' A hb h=>by simp[vL] at h
 | P :: r,hL,0=>hL.1
 | P :: r,hL,j+1=>by
  have:=vL_stays hL.2 j
  exact this
theorem owp_store {P:Program} {Q:Exit→Act→World→Prop} {o:Oper} {K:Act→World→Prop} {a:Act} {w:World}
  {ty:TypeId} {s v:Tmp} (hop:o.op=.store ty (.tmp s) (.tmp v)) {g:Nat} {old cs:Array Value}
  (hs:a.tmps[s]?=some (.pointer (some ⟨g,0,none⟩))) (hv:a.tmps[v]?=some (.agg cs)) (hb:w.heap[g]?=some (.cells old ty (0,0))) (hn:(P.info? ty).map (·.size)=some cs.size) (ho:old.size=cs.size) (h1:cs.all (·.oneCell')=true)
  (h:K (a.put o.dst undef) (w.setRow g cs)):o.wp P a w K Q:=by
 unfold Oper.wp
 simp[execOp,hop,eval_get hs,eval_get hv,Instr.storeAt,Instr.sureAddr,run_storeVar_row w g ty ty old cs hb hn ho h1,Result.andThen,Oper.upon,h]
end Go.Proofs.YtfkaogdmlcdceaaGreatDoor
namespace Go.Proofs.YtfkaogdmlcdceaaGreatDoor
open Go.RowKit Go.Fl64
theorem run_ldN (g o:Nat) (s:Bool) (ao:Option Addr) (n cp:Nat) (e:Int) (w:World) (h0:w.cell? ⟨g,o,none⟩=some (.bool s)) (h1:w.cell? ⟨g,o+1,none⟩=some (.slice ao n cp)) (h2:w.cell? ⟨g,o+2,none⟩=some (.int .i64 e)):(Instr.loadAt 50 (.pointer (some ⟨g,o,none⟩))).run Tryz.prog w=.ok (.agg #[.bool s,.slice ao n cp,.int .i64 e]) w :=
 run_loadAt_mid w g o 50 [.bool s,.slice ao n cp,.int .i64 e] _ (fun j v hv=>by
  match j with
  | 0=>simp at hv;subst hv;exact h0
  | 1=>simp at hv;subst hv;exact h1
  | 2=>simp at hv;subst hv;exact h2
  | k+3=>simp at hv) Tryz.underlying50 rfl Tryz.info50
def isP (T:Bool×Nat×Int):World→Value→Prop:=fun w u=>PN w u T
theorem isP_stays (T:Bool×Nat×Int):Stays (isP T):=fun _ _ _ hb h=>PN.later h hb
def isF (T T':Bool×Nat×Int):World→Value→Prop:=fun w u=>Fv w u T T'
theorem isF_stays (T T':Bool×Nat×Int):Stays (isF T T'):=fun _ _ _ hb h=>Fv.later h hb
theorem nabs {A k:Nat} (h:A<2^k):((A:Nat):Int).natAbs<2^k:=by rw[Int.natAbs_natCast];exact h
theorem mul_lt2 {a b k l:Nat} (h1:a<2^k) (h2:b<2^l):a*b<2^(k+l):=by rw[Nat.pow_add];exact Nat.mul_lt_mul'' h1 h2
theorem paddN {a b p k:Nat} (h1:a<2^k) (h2:b<2^k) (hk:k<60000) (hp:p≤60000):Op2 167 (un (a:Int) p) (un (b:Int) p) (un ((a+b:Nat):Int) p):=by
 have:=padd_un (p:=p) (nabs h1) (nabs h2) hk hp
 rw[←Int.natCast_add] at this
 exact this
theorem psubN {a b p k:Nat} (h1:a<2^k) (hle:b≤a) (hk:k<60000) (hp:p≤60000):Op2 161 (un (a:Int) p) (un (b:Int) p) (un ((a - b:Nat):Int) p):=by
 have:=psub_un (p:=p) (nabs h1) (nabs (Nat.lt_of_le_of_lt hle h1)) hk hp
 rw[←Int.natCast_sub hle] at this
 exact this
theorem Dexact_1 (a:Nat) (t:Bool×Nat×Int) (w:World)
  (k:∀ W,Bw w W→Calls Tryz.prog 87 #[.float .f64 a] W fun r w'=>∃ s ao n cap e,r=.returned (.tuple #[.agg #[.bool s,.slice ao n cap,.int .i64 e],.int .i64 0])∧PN w' (.agg #[.bool s,.slice ao n cap,.int .i64 e]) t∧Bw W w') :
  Calls Tryz.prog 32 #[.float .f64 a] w fun r w'=>OutA w t r w':=by
 obtain⟨W,hW⟩:∃ W,W=w.alloc (.cells #[.bool false,.slice none 0 0,.int .i64 0] 50):=⟨_,rfl⟩
 have HX:Hid (Bw w W∧W.heap[w.heap.size]?=some (.cells #[.bool false,.slice none 0 0,.int .i64 0] 50 (0,0))):=⟨by rw[hW];exact(Below.refl _ _).alloc (Nat.le_refl _) _,by rw[hW];exact heap_alloc_new _ _⟩
 have k1:=k W HX.out.1
 clear k
 go_enter Tryz.func32,Tryz.ntmps32
 go_wp2_with fail
 rw[←hW]
 clear hW
 refine k1.mono ?_
 rintro r w1 ⟨s1,ao1,n1,cap1,ex1,rfl,hA,hb1⟩
 obtain⟨W1,hW1⟩:∃ W1,W1=w1.alloc (.cells #[.bool s1,.slice ao1 n1 cap1,.int .i64 ex1] 50):=⟨_,rfl⟩
 have hb2:Bw W W1:=by rw[hW1];exact hb1.alloc hb1.size _
 have HY:Hid (PN W1 (.agg #[.bool s1,.slice ao1 n1 cap1,.int .i64 ex1]) t∧Bw w W1∧W1.heap[w1.heap.size]?=some (.cells #[.bool s1,.slice ao1 n1 cap1,.int .i64 ex1] 50 (0,0))∧W1.heap[w.heap.size]?=some (.cells #[.bool false,.slice none 0 0,.int .i64 0] 50 (0,0))) :=
  ⟨by rw[hW1];exact hA.later ((Below.refl _ _).alloc (Nat.le_refl _) _),HX.out.1.trans (hb2.mono HX.out.1.size),by rw[hW1];exact heap_alloc_new _ _,box_later HX.out.2 hb2 (lt_of_box HX.out.2)⟩
 clear k1 hA hb1 hb2
 go_upto_region 2 with fail
 rw[←hW1]
 clear hW1
 generalize w1.heap.size=g1 at *
 obtain⟨⟨a0,a1,a2⟩,-⟩:=box_cells HY.out.2.2.1
 obtain⟨⟨x1,x2,x3⟩,x4,x5,x6⟩:=box_cells HY.out.2.2.2
 go_wp2
 refine bodyPost_ret (results_cell_row rfl _ _ w.heap.size 50 #[.bool s1,.slice ao1 n1 cap1,.int .i64 ex1] (0,0) _ rfl (store3 _ _ _ HY.out.2.2.2) Tryz.underlying50 rfl Tryz.info50) rfl ?_
 exact⟨_,_,_,_,_,rfl,pn_store HY.out.1 HY.out.2.2.2 _ _ _,below_store3 HY.out.2.1 (Nat.le_refl _) _ _ _⟩
-- GEN: one call of two numbers each, the error let go
theorem Dadded_1 (na nb:Bool) (ua va:Option Addr) (un uc vn vc:Nat) (ea eb:Int) (t:Bool×Nat×Int) (w:World)
  (k:∀ W,Bw w W→Calls Tryz.prog 167 #[.agg #[.bool na,.slice ua un uc,.int .i64 ea],.agg #[.bool nb,.slice va vn vc,.int .i64 eb]] W fun r w'=>∃ s ao n cap e,r=.returned (.tuple #[.agg #[.bool s,.slice ao n cap,.int .i64 e],.int .i64 0])∧PN w' (.agg #[.bool s,.slice ao n cap,.int .i64 e]) t∧Bw W w') :
  Calls Tryz.prog 98 #[.agg #[.bool na,.slice ua un uc,.int .i64 ea],.agg #[.bool nb,.slice va vn vc,.int .i64 eb]] w fun r w'=>OutA w t r w':=by
 obtain⟨W,hW⟩:∃ W,W=((w.alloc (.cells #[.bool na,.slice ua un uc,.int .i64 ea] 50)).alloc (.cells #[.bool nb,.slice va vn vc,.int .i64 eb] 50)).alloc (.cells #[.bool false,.slice none 0 0,.int .i64 0] 50):=⟨_,rfl⟩
 obtain⟨hA,hB,hC,hsz,hBW⟩:=boxes3 _ _ _ hW
 obtain⟨⟨a0,a1,a2⟩,-⟩:=box_cells hA
 obtain⟨⟨b0,b1,b2⟩,-⟩:=box_cells hB
 have HX:Hid (Bw w W∧W.heap[w.heap.size+1+1]?=some (.cells #[.bool false,.slice none 0 0,.int .i64 0] 50 (0,0))):=⟨hBW,hC⟩
 have k1:=k W HX.out.1
 clear k hA hB hC hBW hsz
 rw[hW] at a0 a1 a2 b0 b1 b2
 go_enter Tryz.func98,Tryz.ntmps98
 go_wp2_with fail
 rw[←hW]
 clear hW a0 a1 a2 b0 b1 b2
 refine k1.mono ?_
 rintro r w1 ⟨s1,ao1,n1,cap1,ex1,rfl,hA,hb1⟩
 obtain⟨W1,hW1⟩:∃ W1,W1=w1.alloc (.cells #[.bool s1,.slice ao1 n1 cap1,.int .i64 ex1] 50):=⟨_,rfl⟩
 have hb2:Bw W W1:=by rw[hW1];exact hb1.alloc hb1.size _
 have HY:Hid (PN W1 (.agg #[.bool s1,.slice ao1 n1 cap1,.int .i64 ex1]) t∧Bw w W1∧W1.heap[w1.heap.size]?=some (.cells #[.bool s1,.slice ao1 n1 cap1,.int .i64 ex1] 50 (0,0))∧W1.heap[w.heap.size+1+1]?=some (.cells #[.bool false,.slice none 0 0,.int .i64 0] 50 (0,0))) :=
  ⟨by rw[hW1];exact hA.later ((Below.refl _ _).alloc (Nat.le_refl _) _),HX.out.1.trans (hb2.mono HX.out.1.size),by rw[hW1];exact heap_alloc_new _ _,box_later HX.out.2 hb2 (lt_of_box HX.out.2)⟩
 clear k1 hA hb1 hb2
 go_upto_region 2 with fail
 rw[←hW1]
 clear hW1
 generalize w1.heap.size=g1 at *
 obtain⟨⟨c0,c1,c2⟩,-⟩:=box_cells HY.out.2.2.1
 obtain⟨⟨x1,x2,x3⟩,x4,x5,x6⟩:=box_cells HY.out.2.2.2
 go_wp2
 refine bodyPost_ret (results_cell_row rfl _ _ (w.heap.size+1+1) 50 #[.bool s1,.slice ao1 n1 cap1,.int .i64 ex1] (0,0) _ rfl (store3 _ _ _ HY.out.2.2.2) Tryz.underlying50 rfl Tryz.info50) rfl ?_
 exact⟨_,_,_,_,_,rfl,pn_store HY.out.1 HY.out.2.2.2 _ _ _,below_store3 HY.out.2.1 (by omega) _ _ _⟩
theorem Dtaken_1 (na nb:Bool) (ua va:Option Addr) (un uc vn vc:Nat) (ea eb:Int) (t:Bool×Nat×Int) (w:World)
  (k:∀ W,Bw w W→Calls Tryz.prog 161 #[.agg #[.bool na,.slice ua un uc,.int .i64 ea],.agg #[.bool nb,.slice va vn vc,.int .i64 eb]] W fun r w'=>∃ s ao n cap e,r=.returned (.tuple #[.agg #[.bool s,.slice ao n cap,.int .i64 e],.int .i64 0])∧PN w' (.agg #[.bool s,.slice ao n cap,.int .i64 e]) t∧Bw W w') :
  Calls Tryz.prog 93 #[.agg #[.bool na,.slice ua un uc,.int .i64 ea],.agg #[.bool nb,.slice va vn vc,.int .i64 eb]] w fun r w'=>OutA w t r w':=by
 obtain⟨W,hW⟩:∃ W,W=((w.alloc (.cells #[.bool na,.slice ua un uc,.int .i64 ea] 50)).alloc (.cells #[.bool nb,.slice va vn vc,.int .i64 eb] 50)).alloc (.cells #[.bool false,.slice none 0 0,.int .i64 0] 50):=⟨_,rfl⟩
 obtain⟨hA,hB,hC,hsz,hBW⟩:=boxes3 _ _ _ hW
 obtain⟨⟨a0,a1,a2⟩,-⟩:=box_cells hA
 obtain⟨⟨b0,b1,b2⟩,-⟩:=box_cells hB
 have HX:Hid (Bw w W∧W.heap[w.heap.size+1+1]?=some (.cells #[.bool false,.slice none 0 0,.int .i64 0] 50 (0,0))):=⟨hBW,hC⟩
 have k1:=k W HX.out.1
 clear k hA hB hC hBW hsz
 rw[hW] at a0 a1 a2 b0 b1 b2
 go_enter Tryz.func93,Tryz.ntmps93
 go_wp2_with fail
 rw[←hW]
 clear hW a0 a1 a2 b0 b1 b2
 refine k1.mono ?_
 rintro r w1 ⟨s1,ao1,n1,cap1,ex1,rfl,hA,hb1⟩
 obtain⟨W1,hW1⟩:∃ W1,W1=w1.alloc (.cells #[.bool s1,.slice ao1 n1 cap1,.int .i64 ex1] 50):=⟨_,rfl⟩
 have hb2:Bw W W1:=by rw[hW1];exact hb1.alloc hb1.size _
 have HY:Hid (PN W1 (.agg #[.bool s1,.slice ao1 n1 cap1,.int .i64 ex1]) t∧Bw w W1∧W1.heap[w1.heap.size]?=some (.cells #[.bool s1,.slice ao1 n1 cap1,.int .i64 ex1] 50 (0,0))∧W1.heap[w.heap.size+1+1]?=some (.cells #[.bool false,.slice none 0 0,.int .i64 0] 50 (0,0))) :=
  ⟨by rw[hW1];exact hA.later ((Below.refl _ _).alloc (Nat.le_refl _) _),HX.out.1.trans (hb2.mono HX.out.1.size),by rw[hW1];exact heap_alloc_new _ _,box_later HX.out.2 hb2 (lt_of_box HX.out.2)⟩
 clear k1 hA hb1 hb2
 go_upto_region 2 with fail
 rw[←hW1]
 clear hW1
 generalize w1.heap.size=g1 at *
 obtain⟨⟨c0,c1,c2⟩,-⟩:=box_cells HY.out.2.2.1
 obtain⟨⟨x1,x2,x3⟩,x4,x5,x6⟩:=box_cells HY.out.2.2.2
 go_wp2
 refine bodyPost_ret (results_cell_row rfl _ _ (w.heap.size+1+1) 50 #[.bool s1,.slice ao1 n1 cap1,.int .i64 ex1] (0,0) _ rfl (store3 _ _ _ HY.out.2.2.2) Tryz.underlying50 rfl Tryz.info50) rfl ?_
 exact⟨_,_,_,_,_,rfl,pn_store HY.out.1 HY.out.2.2.2 _ _ _,below_store3 HY.out.2.1 (by omega) _ _ _⟩
theorem Dmultiplied_1 (na nb:Bool) (ua va:Option Addr) (un uc vn vc:Nat) (ea eb:Int) (t:Bool×Nat×Int) (w:World)
  (k:∀ W,Bw w W→Calls Tryz.prog 162 #[.agg #[.bool na,.slice ua un uc,.int .i64 ea],.agg #[.bool nb,.slice va vn vc,.int .i64 eb]] W fun r w'=>∃ s ao n cap e,r=.returned (.tuple #[.agg #[.bool s,.slice ao n cap,.int .i64 e],.int .i64 0])∧PN w' (.agg #[.bool s,.slice ao n cap,.int .i64 e]) t∧Bw W w') :
  Calls Tryz.prog 94 #[.agg #[.bool na,.slice ua un uc,.int .i64 ea],.agg #[.bool nb,.slice va vn vc,.int .i64 eb]] w fun r w'=>OutA w t r w':=by
 obtain⟨W,hW⟩:∃ W,W=((w.alloc (.cells #[.bool na,.slice ua un uc,.int .i64 ea] 50)).alloc (.cells #[.bool nb,.slice va vn vc,.int .i64 eb] 50)).alloc (.cells #[.bool false,.slice none 0 0,.int .i64 0] 50):=⟨_,rfl⟩
 obtain⟨hA,hB,hC,hsz,hBW⟩:=boxes3 _ _ _ hW
 obtain⟨⟨a0,a1,a2⟩,-⟩:=box_cells hA
 obtain⟨⟨b0,b1,b2⟩,-⟩:=box_cells hB
 have HX:Hid (Bw w W∧W.heap[w.heap.size+1+1]?=some (.cells #[.bool false,.slice none 0 0,.int .i64 0] 50 (0,0))):=⟨hBW,hC⟩
 have k1:=k W HX.out.1
 clear k hA hB hC hBW hsz
 rw[hW] at a0 a1 a2 b0 b1 b2
 go_enter Tryz.func94,Tryz.ntmps94
 go_wp2_with fail
 rw[←hW]
 clear hW a0 a1 a2 b0 b1 b2
 refine k1.mono ?_
 rintro r w1 ⟨s1,ao1,n1,cap1,ex1,rfl,hA,hb1⟩
 obtain⟨W1,hW1⟩:∃ W1,W1=w1.alloc (.cells #[.bool s1,.slice ao1 n1 cap1,.int .i64 ex1] 50):=⟨_,rfl⟩
 have hb2:Bw W W1:=by rw[hW1];exact hb1.alloc hb1.size _
 have HY:Hid (PN W1 (.agg #[.bool s1,.slice ao1 n1 cap1,.int .i64 ex1]) t∧Bw w W1∧W1.heap[w1.heap.size]?=some (.cells #[.bool s1,.slice ao1 n1 cap1,.int .i64 ex1] 50 (0,0))∧W1.heap[w.heap.size+1+1]?=some (.cells #[.bool false,.slice none 0 0,.int .i64 0] 50 (0,0))) :=
  ⟨by rw[hW1];exact hA.later ((Below.refl _ _).alloc (Nat.le_refl _) _),HX.out.1.trans (hb2.mono HX.out.1.size),by rw[hW1];exact heap_alloc_new _ _,box_later HX.out.2 hb2 (lt_of_box HX.out.2)⟩
 clear k1 hA hb1 hb2
 go_upto_region 2 with fail
 rw[←hW1]
 clear hW1
 generalize w1.heap.size=g1 at *
 obtain⟨⟨c0,c1,c2⟩,-⟩:=box_cells HY.out.2.2.1
 obtain⟨⟨x1,x2,x3⟩,x4,x5,x6⟩:=box_cells HY.out.2.2.2
 go_wp2
 refine bodyPost_ret (results_cell_row rfl _ _ (w.heap.size+1+1) 50 #[.bool s1,.slice ao1 n1 cap1,.int .i64 ex1] (0,0) _ rfl (store3 _ _ _ HY.out.2.2.2) Tryz.underlying50 rfl Tryz.info50) rfl ?_
 exact⟨_,_,_,_,_,rfl,pn_store HY.out.1 HY.out.2.2.2 _ _ _,below_store3 HY.out.2.1 (by omega) _ _ _⟩
theorem Dadded_op {t1 t2 t3:Bool×Nat×Int} (h:Op2 167 t1 t2 t3) {X Y:Value} {w:World} (hT:Tab32 w) (h1:PN w X t1) (h2:PN w Y t2):Calls Tryz.prog 98 #[X,Y] w fun r w'=>OutA w t3 r w':=by
 obtain⟨s,ao,n,cap,e,rfl⟩:=h1.shape
 obtain⟨s',ao',n',cap',e',rfl⟩:=h2.shape
 exact Dadded_1 s s' ao ao' n cap n' cap' e e' t3 w fun W hW=>h W _ _ (hT.later hW) (h1.later hW) (h2.later hW)
theorem Dtaken_op {t1 t2 t3:Bool×Nat×Int} (h:Op2 161 t1 t2 t3) {X Y:Value} {w:World} (hT:Tab32 w) (h1:PN w X t1) (h2:PN w Y t2):Calls Tryz.prog 93 #[X,Y] w fun r w'=>OutA w t3 r w':=by
 obtain⟨s,ao,n,cap,e,rfl⟩:=h1.shape
 obtain⟨s',ao',n',cap',e',rfl⟩:=h2.shape
 exact Dtaken_1 s s' ao ao' n cap n' cap' e e' t3 w fun W hW=>h W _ _ (hT.later hW) (h1.later hW) (h2.later hW)
theorem Dmultiplied_op {t1 t2 t3:Bool×Nat×Int} (h:Op2 162 t1 t2 t3) {X Y:Value} {w:World} (hT:Tab32 w) (h1:PN w X t1) (h2:PN w Y t2):Calls Tryz.prog 94 #[X,Y] w fun r w'=>OutA w t3 r w':=by
 obtain⟨s,ao,n,cap,e,rfl⟩:=h1.shape
 obtain⟨s',ao',n',cap',e',rfl⟩:=h2.shape
 exact Dmultiplied_1 s s' ao ao' n cap n' cap' e e' t3 w fun W hW=>h W _ _ (hT.later hW) (h1.later hW) (h2.later hW)
def rtK (t1 t2:Bool×Nat×Int):Nat:=(max 0 (64+(bl t2.2.1:Int) - (bl t1.2.1:Int))).toNat
def rtF (t1 t2:Bool×Nat×Int) (m:Int):Nat:=tfF (t1.1 != t2.1) (decide (t1.2.1*2^rtK t1 t2 % t2.2.1=0)) (t1.2.1*2^rtK t1 t2 / t2.2.1) (t1.2.2 - t2.2.2 - rtK t1 t2) m
theorem pratio {t1 t2:Bool×Nat×Int} {X Y:Value} {m:Int} {w:World} (hT:Tab32 w) (o1:Ok t1) (o2:Ok t2) (h1:PN w X t1) (h2:PN w Y t2) (x0:t1.2.1≠0) (y0:t2.2.1≠0) (hm:1≤m∧m≤3) :
  Calls Tryz.prog 125 #[X,Y,.int .i64 m] w fun r w'=>r=.returned (.tuple #[.float .f64 (rtF t1 t2 m),.int .i64 0])∧Bw w w':=by
 obtain⟨pa,pc,rfl,i1⟩:=h1
 obtain⟨qa,qc,rfl,i2⟩:=h2
 have f1:=o1.facts
 have f2:=o2.facts
 have bx:=bl_le_dlen t1.2.1
 have by':=bl_le_dlen t2.2.1
 have hn0:((dlen t1.2.1:Int)==0)=false:=by
  have:dlen t1.2.1≠0:=fun e=>x0 (dlen_eq_zero.1 e)
  simp;omega
 have hn1:((dlen t2.2.1:Int)==0)=false:=by
  have:dlen t2.2.1≠0:=fun e=>y0 (dlen_eq_zero.1 e)
  simp;omega
 have hk:max 0 (64+(bl t2.2.1:Int) - (bl t1.2.1:Int))=(rtK t1 t2:Int):=by unfold rtK;omega
 refine pratio_1 t1.1 t2.1 pa qa _ pc _ qc _ _ (rtK t1 t2) (bl t1.2.1) (bl t2.2.1) t1.2.2 t2.2.2 m (t1.1 != t2.1) w (rfl:(!(t1.1==t2.1))=(t1.1 != t2.1)) hT i1 i2 (by omega) (by omega) y0 (by omega) (by omega) (by omega) (by omega) (by omega) rfl rfl (by omega) (by omega) hk (by omega) hn0 hn1 (fun W' g hW' hg=>?_)
 have:=maybe2 hg (i1.later hW') (i2.later hW') (by omega) (by omega)
 rw[show okN t1.1 (dlen t1.2.1) t1.2.1 t1.2.2=true from o1,show okN t2.1 (dlen t2.2.1) t2.2.1 t2.2.2=true from o2] at this
 exact this
end Go.Proofs.YtfkaogdmlcdceaaGreatDoor
namespace Go.Proofs.YtfkaogdmlcdceaaGreatDoor
open Go.RowKit Go.Fl64
open Ie
end Go.Proofs.YtfkaogdmlcdceaaGreatDoor
