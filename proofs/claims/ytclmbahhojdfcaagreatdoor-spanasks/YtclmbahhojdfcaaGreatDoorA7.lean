/- Own work: contracts of the program's functions, part 7: FM2 F1 F6 F7 FM3 L6 L8 FM4 FM5 RT0 RT1 RT3 RT7 RY1 RY2 RY3 RY4 FM6 FM7 FM8 RY5 SA7 SA8 SA9 UA1 UA2 UA3 UA4 UA5 UA6 UA7 SB1 SB2 SB3 SC1 RY6 SC2 SN1 SN2 SN3 SN4 SN5. -/
import Derived.Test.YtclmbahhojdfcaaGreatDoorA4
import Derived.Test.YtclmbahhojdfcaaGreatDoorA6
import Derived.Test.YtclmbahhojdfcaaGreatDoorA3
import Derived.Test.YtclmbahhojdfcaaGreatDoorA5
import Derived.Deep.CutBlock
import Derived.RangeFuncNested
import Derived.RangeFuncBound
import Derived.RangeFuncCalls
import Derived.RangeFuncLeaves
import Derived.Test.YtclmbahhojdfcaaGreatDoorA2
import Derived.Shelf.Abstract
import Derived.Shelf.RegionOpen
import Derived.WalkKit
import Derived.OwnWalkIn
import Derived.TacticsInMore
import Derived.LoopNIn
import Derived.LoopIn

set_option maxHeartbeats 16000000
set_option maxRecDepth 200000
set_option linter.unusedVariables false
set_option linter.unusedSimpArgs false
namespace Go.Proofs.YtclmbahhojdfcaaGreatDoor
open Go.RowKit Go.Fl64
open Ie
theorem or_one_half (y:Nat):(y ||| 1) / 2=y / 2:=by rw[Nat.or_div_two];simp
theorem or_one_odd (y:Nat):(y ||| 1) % 2=1:=Nat.or_mod_two_eq_one.2 (.inr rfl)
theorem or_one_eq (y:Nat):y ||| 1=2*(y / 2)+1:=by
 have h1:=or_one_half y
 have h2:=or_one_odd y
 omega
theorem rnd_sticky {x D k y m:Nat} {way:Int} (hk:2≤k) (hy:y=x / 2^D) (hm:(x % 2^D=0∧m=y)∨(x % 2^D≠0∧m=2*(y / 2)+1)):rnd m k way=rnd x (D+k) way:=by
 obtain⟨h,rfl⟩:∃ h,k=h+2:=⟨k - 2,by omega⟩
 have e2:(2:Nat)^(h+2)=2*(2*2^h):=by rw[Nat.pow_succ,Nat.pow_succ];omega
 have eD:(2:Nat)^(D+(h+2))=2^D*2^(h+2):=Nat.pow_add ..
 have hq:m / 2^(h+2)=x / 2^(D+(h+2)):=by
  rw[eD,←Nat.div_div_eq_div_mul,←hy]
  rcases hm with ⟨-,hm⟩|⟨-,hm⟩
  ·rw[hm]
  ·have hd:∀ z,z / (2*(2*2^h))=z / 2 / (2*2^h):=fun z=>(Nat.div_div_eq_div_mul ..).symm
   rw[e2,hd,hd,hm,show(2*(y / 2)+1) / 2=y / 2 by omega]
 have hR:x % 2^(D+(h+2))=(y % 2^(h+2))*2^D+x % 2^D:=by
  rw[eD,Nat.mod_mul,hy,Nat.mul_comm];omega
 have hM:(x % 2^D=0∧m % 2^(h+2)=y % 2^(h+2))∨(x % 2^D≠0∧m % 2^(h+2)=2*(y % 2^(h+2) / 2)+1):=by
  rcases hm with ⟨h1,hm⟩|⟨h1,hm⟩
  ·exact .inl ⟨h1,by rw[hm]⟩
  ·refine .inr ⟨h1,?_⟩
   rw[hm,e2]
   generalize 2^h=H
   rw[Nat.mod_mul,Nat.mod_mul (x:=y),show(2*(y / 2)+1) % 2=1 by omega,show(2*(y / 2)+1) / 2=y / 2 by omega]
   generalize y / 2 % (2*H)=t
   omega
 have hrx:x % 2^D<2^D:=Nat.mod_lt _ (Nat.two_pow_pos D)
 have hp:0<2^D:=Nat.two_pow_pos D
 have i0:m % 2^(h+2)=0↔x % 2^(D+(h+2))=0:=by
  rw[hR]
  rcases hM with ⟨h1,h2⟩|⟨h1,h2⟩
  ·rw[h1,h2,Nat.add_zero]
   constructor
   ·intro e;rw[e,Nat.zero_mul]
   ·intro e;rcases Nat.mul_eq_zero.1 e with e|e
    ·exact e
    ·omega
  ·rw[h2];omega
 have key:∀ c:Nat,c=2*2^h→(2^(h+2)<2*(m % 2^(h+2))↔2^(D+(h+2))<2*(x % 2^(D+(h+2))))∧(2*(m % 2^(h+2))=2^(h+2)↔2*(x % 2^(D+(h+2)))=2^(D+(h+2))):=by
  intro c hc
  rw[hR,eD]
  have e3:(2:Nat)^(h+2)=2*c:=by rw[e2,hc]
  rw[e3] at hM ⊢
  have hc2:c % 2=0:=by omega
  generalize y % (2*c)=ry at *
  generalize m % (2*c)=rm at *
  generalize x % 2^D=rx at *
  generalize 2^D=T at *
  have a1:T*(2*c)=2*(c*T):=by rw[Nat.mul_comm T,Nat.mul_assoc]
  rw[a1]
  rcases hM with ⟨h1,h2⟩|⟨h1,h2⟩
  ·subst h1
   rw[h2,Nat.add_zero]
   constructor
   ·constructor
    ·intro g;have:=Nat.mul_lt_mul_of_pos_right (show c<ry by omega) hp;omega
    ·intro g;have:c*T<ry*T:=by omega
     have:=Nat.lt_of_mul_lt_mul_right this;omega
   ·constructor
    ·intro g;rw[show ry=c by omega]
    ·intro g;have:=Nat.eq_of_mul_eq_mul_right hp (show ry*T=c*T by omega);omega
  ·have hlt:ry<c→ry*T+rx<c*T:=by
    intro g
    have:=Nat.mul_le_mul_right T (show ry+1≤c by omega)
    rw[Nat.add_mul,Nat.one_mul] at this
    omega
   have hge:c≤ry→c*T<ry*T+rx:=by
    intro g
    have:=Nat.mul_le_mul_right T g
    omega
   by_cases g:ry<c
   ·have a2:=hlt g
    have a3:rm<c:=by omega
    clear hlt hge
    refine⟨⟨fun g2=>?_,fun g2=>?_⟩,⟨fun g2=>?_,fun g2=>?_⟩⟩
    ·omega
    ·omega
    ·omega
    ·omega
   ·have a2:=hge (by omega)
    have a3:c<rm:=by omega
    clear hlt hge
    refine⟨⟨fun g2=>?_,fun g2=>?_⟩,⟨fun g2=>?_,fun g2=>?_⟩⟩
    ·omega
    ·omega
    ·omega
    ·omega
 have k1:=key _ rfl
 unfold rnd
 have hrup:Ie.rup m (h+2) way=Ie.rup x (D+(h+2)) way:=by
  unfold Ie.rup
  rw[hq]
  simp only[k1.1,k1.2,ne_eq,i0]
 rw[hrup,hq]
theorem tz_iff {x n:Nat} (h0:x≠0):tz x<n↔x % 2^n≠0:=by
 obtain⟨h1,h2⟩:=tz_spec x x (Nat.le_refl _) h0
 constructor
 ·intro hlt he
  have hd:2^(tz x+1) ∣ x:=Nat.dvd_trans (Nat.pow_dvd_pow 2 (by omega)) (Nat.dvd_of_mod_eq_zero he)
  obtain⟨c,hc⟩:=hd
  have h3:x / 2^tz x=2*c:=by
   rw[Nat.pow_succ,Nat.mul_assoc] at hc
   exact Nat.div_eq_of_eq_mul_right (Nat.two_pow_pos _) hc
  omega
 ·intro hne
  apply Decidable.byContradiction
  intro hge
  apply hne
  have:2^n ∣ x:=by rw[←h1];exact Nat.dvd_trans (Nat.pow_dvd_pow 2 (by omega)) (Nat.dvd_mul_right _ _)
  exact Nat.mod_eq_zero_of_dvd this
theorem raw_of {x:Nat} {e:Int} {X m j k k1:Nat} {s P:Int} {e':Int} (hs:s=e' - (nz m:Int)) (hP:P=pl m e') (hk1:(k1:Int)=P - s) (hj:(j:Int)=P+1074) (hr:∀ way,rnd (tp m) k1 way=rnd X k way) (way:Int):raw m e' way=((j*4503599627370496+rnd X k way:Nat):Int):=by
 unfold raw
 rw[←hP,←hs,show(P - s).toNat=k1 by omega,hr]
 omega
theorem raw_is {x:Nat} {e:Int} (h0:x≠0):∃ j X k,IsR x e j X k∧(∀ way,raw (tfM true x) (e+(tfD x:Int)) way=((j*4503599627370496+rnd X k way:Nat):Int))∧(k:Int)≤j+1074+(if e<0 then -e else 0)+64 ∧ -64+min e (-1074)≤(j:Int) - 1074 - k:=by
 by_cases hD:bl x≤64
 ·have eD:tfD x=0:=by unfold tfD;omega
  have eM:tfM true x=x:=by unfold tfM;rw[eD];simp
  rw[eM,eD]
  have hx64:x<18446744073709551616:=(bl_le x 64).1 hD
  obtain⟨n1,n2,n3⟩:=nz_facts x hx64 h0
  obtain⟨P,hP⟩:∃ P,P=pl x (e+((0:Nat):Int)):=⟨_,rfl⟩
  have hPl:=hP
  unfold pl at hPl
  have hPc:(P = -1074∧e - nz x+11 < -1074)∨(P=e - nz x+11 ∧ -1074≤P):=by
   split at hPl
   ·exact .inl ⟨hPl,by omega⟩
   ·exact .inr ⟨by omega,by omega⟩
  refine⟨(P+1074).toNat,tp x,(P - (e - nz x)).toNat,⟨?_,?_,?_⟩,fun way=>raw_of (x:=x) (e:=e) (m:=x) (s:=e - nz x) (P:=P) (k1:=(P - (e - nz x)).toNat) (by omega) hP (by omega) (by omega) (fun _=>rfl) way,?_,?_⟩
  ·intro K hK1 hK2
   unfold tp
   rw[Nat.mul_assoc,←Nat.pow_add]
   congr 2
   omega
  ·have:2^11≤2^(P - (e - nz x)).toNat:=Nat.pow_le_pow_right (by omega) (by omega)
   refine Nat.div_lt_of_lt_mul ?_
   have:2^11*9007199254740992≤2^(P - (e - nz x)).toNat*9007199254740992:=Nat.mul_le_mul_right _ this
   omega
  ·rcases hPc with h|h
   ·exact .inl (by omega)
   ·refine .inr ?_
    rw[show(P - (e - nz x)).toNat=11 by omega]
    omega
  ·split <;> omega
  ·omega
 ·have eD:bl x=tfD x+64:=by unfold tfD;omega
  obtain⟨D,hDD⟩:∃ D,D=tfD x:=⟨_,rfl⟩
  rw[←hDD] at eD ⊢
  have hx1:x<2^(D+64):=by rw[←eD];exact lt_bl x
  have hx2:2^(D+63)≤x:=by have:=le_bl h0;rw[eD] at this;exact this
  have hp:0<2^D:=Nat.two_pow_pos D
  obtain⟨y,hy⟩:∃ y,y=x / 2^D:=⟨_,rfl⟩
  have hy1:y<18446744073709551616:=by rw[hy];refine Nat.div_lt_of_lt_mul ?_;rw[Nat.pow_add] at hx1;exact hx1
  have hy2:9223372036854775808≤y:=by rw[hy,Nat.le_div_iff_mul_le hp,Nat.mul_comm];rw[Nat.pow_add] at hx2;exact hx2
  have hm:(x % 2^D=0∧tfM true x=y)∨(x % 2^D≠0∧tfM true x=2*(y / 2)+1):=by
   unfold tfM
   rw[←hDD,←hy]
   by_cases hz:tz x<D
   ·exact .inr ⟨(tz_iff h0).1 hz,by rw[decide_eq_true hz];exact or_one_eq y⟩
   ·refine .inl ⟨?_,by rw[decide_eq_false hz];rfl⟩
    apply Decidable.byContradiction
    intro h
    exact hz ((tz_iff h0).2 h)
  obtain⟨m,hmm⟩:∃ m,m=tfM true x:=⟨_,rfl⟩
  rw[←hmm] at hm ⊢
  have hm1:m<18446744073709551616:=by rcases hm with h|h <;> omega
  have hm2:9223372036854775808≤m:=by rcases hm with h|h <;> omega
  have hbm:bl m=64:=bl_eq (n:=64) hm1 (.inr hm2)
  have hnz:nz m=0:=by unfold nz;rw[←bl_bitLen,hbm]
  have htp:tp m=m:=by unfold tp;rw[hnz];simp
  obtain⟨P,hP⟩:∃ P,P=pl m (e+(D:Int)):=⟨_,rfl⟩
  have hPl:=hP
  unfold pl at hPl
  rw[hnz] at hPl
  have hPc:(P = -1074∧e+D+11 < -1074)∨(P=e+D+11 ∧ -1074≤P):=by
   split at hPl
   ·exact .inl ⟨hPl,by omega⟩
   ·exact .inr ⟨by omega,by omega⟩
  have hq:∀ k1,11≤k1→x / 2^(D+k1)=y / 2^k1:=fun k1 _=>by rw[Nat.pow_add,←Nat.div_div_eq_div_mul,hy]
  refine⟨(P+1074).toNat,x,D+(P - (e+D)).toNat,⟨?_,?_,?_⟩,fun way=>raw_of (x:=x) (e:=e) (m:=m) (s:=e+D) (P:=P) (k1:=(P - (e+D)).toNat) (by rw[hnz];omega) hP (by omega) (by omega) (fun way=>by rw[htp];exact rnd_sticky (by omega) hy hm) way,?_,?_⟩
  ·intro K hK1 hK2
   congr 2
   omega
  ·rw[hq _ (by omega)]
   have:2^11≤2^(P - (e+D)).toNat:=Nat.pow_le_pow_right (by omega) (by omega)
   refine Nat.div_lt_of_lt_mul ?_
   have:2^11*9007199254740992≤2^(P - (e+D)).toNat*9007199254740992:=Nat.mul_le_mul_right _ this
   omega
  ·rcases hPc with h|h
   ·exact .inl (by omega)
   ·refine .inr ?_
    rw[hq _ (by omega),show(P - (e+D)).toNat=11 by omega]
    omega
  ·split <;> omega
  ·omega
end Go.Proofs.YtclmbahhojdfcaaGreatDoor
/- A float is made anew of its odd part and its exponent, whatever the way of rounding. -/
namespace Go.Proofs.YtclmbahhojdfcaaGreatDoor.Ie
open Go.RowKit Go.Fl64
end Go.Proofs.YtclmbahhojdfcaaGreatDoor.Ie
namespace Go.Proofs.YtclmbahhojdfcaaGreatDoor
open Go.RowKit Go.Fl64
end Go.Proofs.YtclmbahhojdfcaaGreatDoor
namespace Go.Proofs.YtclmbahhojdfcaaGreatDoor
open Go.RowKit Go.Fl64
open Ie
def rwb (x:Nat) (e:Int) (way:Nat):Nat:=(raw (tfM true x) (e+(tfD x:Int)) (way:Int)).toNat
def bdy (x:Nat) (e:Int) (way:Nat):Nat:=if x=0 then 0 else if rwb x e way<9218868437227405312 then rwb x e way else if way=0 then 9218868437227405311 else 9218868437227405312
theorem raw_nn {x:Nat} {e:Int} (h0:x≠0) (way:Nat):raw (tfM true x) (e+(tfD x:Int)) (way:Int)=(rwb x e way:Int):=by
 obtain⟨j,X,k,-,hr,-,-⟩:=raw_is (e:=e) h0
 unfold rwb
 rw[hr];rfl
theorem bod_eq {x:Nat} {e:Int} (h0:x≠0) (way:Nat):(bod (tfM true x) (e+(tfD x:Int)) (way:Int)).toNat=bdy x e way:=by
 unfold bod bdy
 rw[if_neg h0,raw_nn h0]
 by_cases h1:rwb x e way<9218868437227405312
 ·rw[if_pos (by omega),if_pos h1];rfl
 ·rw[if_neg (by omega),if_neg h1]
  by_cases h2:way=0
  ·subst h2;rfl
  ·rw[if_neg h2]
   have:((way:Int)==0)=false:=by simp;omega
   rw[this];rfl
end Go.Proofs.YtclmbahhojdfcaaGreatDoor
namespace Go.Proofs.YtclmbahhojdfcaaGreatDoor
open Go.RowKit Go.Fl64
end Go.Proofs.YtclmbahhojdfcaaGreatDoor
namespace Go.Proofs.YtclmbahhojdfcaaGreatDoor
open Go.RowKit Go.Fl64
open Ie
theorem bdy_le (x:Nat) (e:Int) (way:Nat):bdy x e way≤9218868437227405312:=by
 unfold bdy
 split
 ·omega
 ·split
  ·omega
  ·split <;> omega
def wyN (s:Bool) (m:Int):Nat:=if m=2 then 1 else if(s==(m==1))then 2 else 0
theorem wyN_eq (s:Bool) (m:Int):((wyN s m:Nat):Int)=wy s m:=by
 unfold wyN wy
 split
 ·rfl
 ·split <;> rfl
theorem tfM_zero:tfM true 0=0:=by unfold tfM;rw[show tfD 0=0 from rfl];simp
theorem tfM_ne {x:Nat} (h0:x≠0):tfM true x≠0:=by
 unfold tfM
 split
 ·have h1:=le_bl h0
  have hp:2^tfD x≤x:=Nat.le_trans (Nat.pow_le_pow_right (by omega) (by unfold tfD;omega)) h1
  have:=(Nat.le_div_iff_mul_le (Nat.two_pow_pos (tfD x))).2 (show 1*2^tfD x≤x by omega)
  omega
 ·rw[or_one_eq];omega
theorem tf_bdy {s:Bool} {x:Nat} {e m:Int} (hm:1≤m∧m≤3):tfF s true x e m=sig s (bdy x e (wyN s m)):=by
 unfold tfF mk
 rw[if_pos (by omega)]
 congr 1
 by_cases h0:x=0
 ·subst h0
  rw[tfM_zero,if_pos rfl]
  unfold bdy;rw[if_pos rfl]
 ·rw[if_neg (tfM_ne h0),←wyN_eq,bod_eq h0]
theorem cinf_m (w:World):Calls Tryz.prog 40 #[.int .i64 (-1)] w fun r w'=>r=.returned (.float .f64 18442240474082181120)∧w'=w:=by
 have hb:=Ie.run_frombits
 go_enter Tryz.func40,Tryz.ntmps40
 go_wp2
 go_ret
 exact⟨rfl,rfl⟩
end Go.Proofs.YtclmbahhojdfcaaGreatDoor
namespace Go.Proofs.YtclmbahhojdfcaaGreatDoor
end Go.Proofs.YtclmbahhojdfcaaGreatDoor
namespace Go.Proofs.YtclmbahhojdfcaaGreatDoor
open Go.RowKit Go.Fl64
open Ie
end Go.Proofs.YtclmbahhojdfcaaGreatDoor
namespace Go.Proofs.YtclmbahhojdfcaaGreatDoor
open Go.RowKit
end Go.Proofs.YtclmbahhojdfcaaGreatDoor
namespace Go.Proofs.YtclmbahhojdfcaaGreatDoor
open Go.RowKit Go.Fl64
open Ie
end Go.Proofs.YtclmbahhojdfcaaGreatDoor
namespace Go.Proofs.YtclmbahhojdfcaaGreatDoor
open Go.RowKit Go.Fl64
theorem tF_fits (a:Nat):Fits (-1074) 1025 (tF a).2.1 (tF a).2.2:=by
 refine Fits.cn (.inr ⟨(Ie.lp_bound a).1,by have:=(Ie.lp_bound a).2;omega,?_⟩)
 have h:=Ie.mant_bound a
 have h2:=(Ie.lp_bound a).2
 have:2^53≤2^(1025 - Ie.lp a).toNat:=Nat.pow_le_pow_right (by decide) (by omega)
 omega
theorem tF_ok (a:Nat):Ok (tF a):=by
 refine ok_cn (Fits.ok (lo := -1074) (hi:=1025) (.inr ⟨(Ie.lp_bound a).1,by have:=(Ie.lp_bound a).2;omega,?_⟩) (by omega) (by omega) (by omega))
 have h:=Ie.mant_bound a
 have h2:=(Ie.lp_bound a).2
 have:2^53≤2^(1025 - Ie.lp a).toNat:=Nat.pow_le_pow_right (by decide) (by omega)
 omega
theorem cn_parts (a m:Nat) (ha:a<18446744073709551616) (hf:mag a<9218868437227405312) (hm:Ie.sM a=(m:Int)):cn (neg a) m (Ie.sE a)=tF a:=by
 unfold tF cn
 rcases of_parts a m ha hf hm with ⟨h1,h2⟩|⟨h1,h2,-,h3,h4⟩
 ·rw[if_pos h1,if_pos h2]
 ·rw[if_neg h1,if_neg h2,h3,h4]
theorem exact_ok (a:Nat) (ha:a<18446744073709551616) (hf:mag a<9218868437227405312) (w:World) (hT:Tab32 w) (hI:Ie.Tab w):Calls Tryz.prog 105 #[.float .f64 a] w fun r w'=>OutA w (tF a) r w':=by
 obtain⟨m,hm,hml⟩:=sM_lt a ha
 refine exact_1 a (tF a) w fun W hW=>(of_fin a m ha W (hT.later hW) (Tab.later hI hW) hf hm).mono ?_
 rintro r w' ⟨A,rfl,hN,hb⟩
 have hp:=hN.pn
 rw[cn_parts a m ha hf hm] at hp
 obtain⟨s,ao,n,cap,e,rfl⟩:=hp.shape
 exact⟨s,ao,n,cap,e,rfl,hp,hb⟩
def tS (t1 t2:Bool×Nat×Int):Bool×Nat×Int:=cn (sumN t1.1 t1.2.1 t1.2.2 t2.1 t2.2.1 t2.2.2).1 (sumN t1.1 t1.2.1 t1.2.2 t2.1 t2.2.1 t2.2.2).2.1 (sumN t1.1 t1.2.1 t1.2.2 t2.1 t2.2.1 t2.2.2).2.2
theorem tS_fits {lo hi:Int} {t1 t2:Bool×Nat×Int} (h1:Fits lo hi t1.2.1 t1.2.2) (h2:Fits lo hi t2.2.1 t2.2.2):Fits lo (hi+1) (tS t1 t2).2.1 (tS t1 t2).2.2:=Fits.cn (Fits.sum h1 h2)
theorem tS_okR {lo hi:Int} {t1 t2:Bool×Nat×Int} (h1:Fits lo hi t1.2.1 t1.2.2) (h2:Fits lo hi t2.2.1 t2.2.2) (hb:hi+1 - lo≤65536) (hlo : -65536≤lo) (hhi:hi+1≤65536):okR (sumN t1.1 t1.2.1 t1.2.2 t2.1 t2.2.1 t2.2.2).1 (sumN t1.1 t1.2.1 t1.2.2 t2.1 t2.2.1 t2.2.2).2.1 (sumN t1.1 t1.2.1 t1.2.2 t2.1 t2.2.1 t2.2.2).2.2=true:=(Fits.sum h1 h2).ok hb hlo hhi
theorem psign {t:Bool×Nat×Int} {A:Value} {w:World} (ok:Ok t) (h:PN w A t):Calls Tryz.prog 111 #[A] w fun r w'=>r=.returned (.int .i64 (sgI t.1 (dlen t.2.1)))∧Bw w w':=by
 obtain⟨ao,cap,rfl,h1⟩:=h
 obtain⟨f1,-,-,-,-⟩:=ok.facts
 exact sign_ok h1 (by omega) ok
theorem sgI_nought {s:Bool} {x:Nat}:(sgI s (dlen x)==0)=decide (x=0):=by
 unfold sgI
 by_cases h:x=0
 ·rw[if_pos (dlen_eq_zero.2 h),decide_eq_true h];rfl
 ·rw[if_neg (fun e=>h (dlen_eq_zero.1 e)),decide_eq_false h];cases s <;> rfl
theorem sig_lt {s:Bool} {n:Nat} (h:n≤9218868437227405312):sig s n<18446744073709551616:=by
 unfold sig;cases s <;> simp <;> omega
theorem tfF_lt {s:Bool} {x:Nat} {e m:Int} (hm:1≤m∧m≤3):tfF s true x e m<18446744073709551616:=by
 rw[tf_bdy hm];exact sig_lt (bdy_le _ _ _)
theorem fin_false {a:Nat}:fin a=false↔¬ mag a<9218868437227405312:=by unfold fin;simp
theorem addX_lt {a b:Nat} (ha:a<18446744073709551616) (hb:b<18446744073709551616):addX a b<18446744073709551616:=by
 unfold addX
 repeat' split
 all_goals first|exact ha|exact hb|decide
def OutF2 (W:World) (X:Nat) (r:Ending) (w':World):Prop:=∃ n,r=.returned (.float .f64 n)∧lk n X∧Bw W w'
theorem psub_1 (a b X:Nat) (m:Int) (w:World) (hb:b<18446744073709551616) (k:Calls Tryz.prog 81 #[.float .f64 a,.float .f64 (ngt b),.int .i64 m] w fun r w'=>OutF2 w X r w') :
  Calls Tryz.prog 61 #[.float .f64 a,.float .f64 b,.int .i64 m] w fun r w'=>OutF2 w X r w':=by
 have hn:∀ w,(Op.unary UnOp.neg (.float .f64 b)).run Tryz.prog w=.ok (.float .f64 (ngt b)) w:=fun w=>by rw[←negF b hb];rfl
 go_enter Tryz.func61,Tryz.ntmps61
 go_wp2_with fail
 refine k.mono ?_
 rintro r w1 ⟨n,rfl,h1,h2⟩
 have HB:Hid (lk n X∧Bw w w1):=⟨h1,h2⟩
 clear k h1 h2
 go_wp2_with fail
 go_ret
 exact⟨_,rfl,HB.out.1,HB.out.2⟩
end Go.Proofs.YtclmbahhojdfcaaGreatDoor
namespace Go.Proofs.YtclmbahhojdfcaaGreatDoor
open Go Go.RowKit
end Go.Proofs.YtclmbahhojdfcaaGreatDoor
namespace Go.Proofs.YtclmbahhojdfcaaGreatDoor
open Go.RowKit Go.Fl64
end Go.Proofs.YtclmbahhojdfcaaGreatDoor
namespace Go.Proofs.YtclmbahhojdfcaaGreatDoor
open Go Go.RowKit Go.Fl64 Go.Shelf
attribute [local go_sem] Oper.semAt_some
attribute [local go_sem] Oper.semAt_some
end Go.Proofs.YtclmbahhojdfcaaGreatDoor
namespace Go.Proofs.YtclmbahhojdfcaaGreatDoor
open Go.RowKit Go.Fl64
theorem lk_or {n X:Nat} (h:lk n X):n=X∨(isNaN n=true∧isNaN X=true):=by
 cases hn:isNaN X
 ·exact .inl (h.eq hn)
 ·cases h2:isNaN n
  ·have:=h.2
   unfold same at this
   rw[hn,h2] at this
   have e:n=X:=by simp at this;omega
   rw[e,hn] at h2
   cases h2
  ·exact .inr ⟨rfl,rfl⟩
def rtK (t1 t2:Bool×Nat×Int):Nat:=(max 0 (64+(bl t2.2.1:Int) - (bl t1.2.1:Int))).toNat
def rtF (t1 t2:Bool×Nat×Int) (m:Int):Nat:=tfF (t1.1 != t2.1) (decide (t1.2.1*2^rtK t1 t2 % t2.2.1=0)) (t1.2.1*2^rtK t1 t2 / t2.2.1) (t1.2.2 - t2.2.2 - rtK t1 t2) m
theorem pratio {t1 t2:Bool×Nat×Int} {X Y:Value} {m:Int} {w:World} (hT:Tab32 w) (o1:Ok t1) (o2:Ok t2) (h1:PN w X t1) (h2:PN w Y t2) (x0:t1.2.1≠0) (y0:t2.2.1≠0) (hm:1≤m∧m≤3) :
  Calls Tryz.prog 106 #[X,Y,.int .i64 m] w fun r w'=>r=.returned (.tuple #[.float .f64 (rtF t1 t2 m),.int .i64 0])∧Bw w w':=by
 obtain⟨pa,pc,rfl,i1⟩:=h1
 obtain⟨qa,qc,rfl,i2⟩:=h2
 have f1:=o1.facts
 have f2:=o2.facts
 have bx:=bl_le_dlen t1.2.1
 have by':=bl_le_dlen t2.2.1
 have hn0:((dlen t1.2.1:Int)==0)=false:=by
  have:dlen t1.2.1≠0:=fun e=>x0 (dlen_eq_zero.1 e)
  simp;omega
 have hn1:((dlen t2.2.1:Int)==0)=false:=by
  have:dlen t2.2.1≠0:=fun e=>y0 (dlen_eq_zero.1 e)
  simp;omega
 have hk:max 0 (64+(bl t2.2.1:Int) - (bl t1.2.1:Int))=(rtK t1 t2:Int):=by unfold rtK;omega
 refine pratio_1 t1.1 t2.1 pa qa _ pc _ qc _ _ (rtK t1 t2) (bl t1.2.1) (bl t2.2.1) t1.2.2 t2.2.2 m (t1.1 != t2.1) w (rfl:(!(t1.1==t2.1))=(t1.1 != t2.1)) hT i1 i2 (by omega) (by omega) y0 (by omega) (by omega) (by omega) (by omega) (by omega) rfl rfl (by omega) (by omega) hk (by omega) hn0 hn1 (fun W' g hW' hg=>?_)
 have:=maybe2 hg (i1.later hW') (i2.later hW') (by omega) (by omega)
 rw[show okN t1.1 (dlen t1.2.1) t1.2.1 t1.2.2=true from o1,show okN t2.1 (dlen t2.2.1) t2.2.1 t2.2.2=true from o2] at this
 exact this
theorem ne_nought {a:Nat} (ha:a<18446744073709551616) (hf:mag a<9218868437227405312):(FloatKind.f64.format.order a 0 != some Ordering.eq)=decide (mag a≠0):=by
 rw[bne,ord_eq a 0 ha (by decide)]
 have na:isNaN a=false:=by unfold isNaN;simp;omega
 have nb:isNaN 0=false:=by decide
 unfold Fl64.eq
 rw[na,nb]
 have e0:stp 0=0:=by decide
 rw[e0]
 by_cases h:mag a=0
 ·have:stp a=0:=by unfold stp sgn;rw[h];simp
  simp[this,h]
 ·have:stp a≠0:=by unfold stp sgn;split <;> omega
  simp[this,h]
theorem pplain_y (a:Nat) (ha:a<18446744073709551616) (hf:mag a<9218868437227405312) (h0:mag a≠0) (w:World):Calls Tryz.prog 102 #[.float .f64 a] w fun r w'=>r=.returned (.bool true)∧w'=w:=by
 have k:=pfin_y a ha hf
 have he:=ne_nought ha hf
 rw[decide_eq_true h0] at he
 clear ha hf h0
 go_enter Tryz.func102,Tryz.ntmps102
 go_wp2_with (go_at_call 109;refine(k _).mono ?_;rintro e w' ⟨rfl,rfl⟩)
 go_ret
 exact⟨rfl,rfl⟩
theorem pplain_z (a:Nat) (ha:a<18446744073709551616) (h0:mag a=0) (w:World):Calls Tryz.prog 102 #[.float .f64 a] w fun r w'=>r=.returned (.bool false)∧w'=w:=by
 have k:=pfin_y a ha (by omega)
 have he:=ne_nought ha (by omega)
 rw[decide_eq_false (by omega)] at he
 clear ha h0
 go_enter Tryz.func102,Tryz.ntmps102
 go_wp2_with (go_at_call 109;refine(k _).mono ?_;rintro e w' ⟨rfl,rfl⟩)
 go_ret
 exact⟨rfl,rfl⟩
theorem pplain_n (a:Nat) (ha:a<18446744073709551616) (hf:¬ mag a<9218868437227405312) (w:World):Calls Tryz.prog 102 #[.float .f64 a] w fun r w'=>r=.returned (.bool false)∧w'=w.drew:=by
 have k:=pfin_n a ha hf w
 clear ha hf
 go_enter Tryz.func102,Tryz.ntmps102
 go_wp2_with fail
 refine k.mono ?_
 rintro e w' ⟨rfl,hw⟩
 rw[hw]
 clear hw k w'
 go_wp2
 go_ret
 exact⟨rfl,rfl⟩
theorem pdiv_r (a b F:Nat) (m:Int) (ta tb:Bool×Nat×Int) (w:World) (hm:isM m=true)
  (hfa:∀ W,Calls Tryz.prog 102 #[.float .f64 a] W fun r w'=>r=.returned (.bool true)∧w'=W)
  (hfb:∀ W,Calls Tryz.prog 102 #[.float .f64 b] W fun r w'=>r=.returned (.bool true)∧w'=W)
  (kA:Calls Tryz.prog 105 #[.float .f64 a] w fun r w'=>OutA w ta r w')
  (kB:∀ W,Bw w W→Calls Tryz.prog 105 #[.float .f64 b] W fun r w'=>OutA W tb r w')
  (kC:∀ W X Y,Bw w W→PN W X ta→PN W Y tb→Calls Tryz.prog 106 #[X,Y,.int .i64 m] W fun r w'=>r=.returned (.tuple #[.float .f64 F,.int .i64 0])∧Bw W w') :
  Calls Tryz.prog 71 #[.float .f64 a,.float .f64 b,.int .i64 m] w fun r w'=>r=.returned (.float .f64 F)∧Bw w w':=by
 have kV:=pvalid m w
 rw[hm] at kV
 have HKB:Hid _:=kB
 have HKC:Hid _:=kC
 clear kB kC
 go_enter Tryz.func71,Tryz.ntmps71
 go_wp2_with fail
 refine kV.mono ?_
 rintro r w' ⟨rfl,hw⟩
 rw[hw]
 clear hw kV
 have kN:=hfa w
 go_wp2_with fail
 refine kN.mono ?_
 rintro r w' ⟨rfl,hw⟩
 rw[hw]
 clear hw kN hfa
 have kN:=hfb w
 go_wp2_with fail
 refine kN.mono ?_
 rintro r w' ⟨rfl,hw⟩
 rw[hw]
 clear hw kN hfb
 go_wp2_with fail
 refine kA.mono ?_
 rintro r w1 ⟨s1,ao1,n1,cap1,ex1,rfl,hP1,hb1⟩
 have k2:=HKB.out w1 hb1
 clear kA
 go_wp2_with fail
 refine k2.mono ?_
 rintro r w2 ⟨s2,ao2,n2,cap2,ex2,rfl,hP2,hb2⟩
 have HB2:Hid (Bw w w2):=hb1.trans (hb2.mono hb1.size)
 have k3:=HKC.out w2 _ _ HB2.out (hP1.later hb2) hP2
 clear k2 hP1 hP2 hb1 hb2
 go_wp2_with fail
 refine k3.mono ?_
 rintro r w3 ⟨rfl,hb3⟩
 have HB3:Hid (Bw w w3):=HB2.out.trans (hb3.mono HB2.out.size)
 clear k3 hb3
 go_wp2_with fail
 go_ret
 exact⟨rfl,HB3.out⟩
theorem pdiv_ok (a b:Nat) (m:Int) (w:World) (hm:isM m=true) (hT:Tab32 w) (hI:Ie.Tab w) (ha:a<18446744073709551616) (hb:b<18446744073709551616) (hfa:mag a<9218868437227405312) (hfb:mag b<9218868437227405312) (ha0:mag a≠0) (hb0:mag b≠0) (xa:(tF a).2.1≠0) (xb:(tF b).2.1≠0) :
  Calls Tryz.prog 71 #[.float .f64 a,.float .f64 b,.int .i64 m] w fun r w'=>r=.returned (.float .f64 (rtF (tF a) (tF b) m))∧Bw w w' :=
 pdiv_r a b _ m (tF a) (tF b) w hm (pplain_y a ha hfa ha0) (pplain_y b hb hfb hb0) (exact_ok a ha hfa w hT hI) (fun W h=>exact_ok b hb hfb W (hT.later h) (Tab.later hI h)) (fun W X Y h h1 h2=>pratio (hT.later h) (tF_ok a) (tF_ok b) h1 h2 xa xb (isM_iff.1 hm))
theorem tF_ne {a:Nat} (h:mag a≠0):(tF a).2.1≠0:=by
 have h1:=Ie.mant_ne h
 unfold tF cn
 rw[if_neg h1]
 intro e
 have:=(tz_spec _ _ (Nat.le_refl _) h1).2
 simp only at e
 rw[e] at this
 simp at this
def tM (t1 t2:Bool×Nat×Int):Bool×Nat×Int:=cn (!(t1.1==t2.1)) (t1.2.1*t2.2.1) (t1.2.2+t2.2.2)
theorem tM_ok {t1 t2:Bool×Nat×Int} (h:okR (!(t1.1==t2.1)) (t1.2.1*t2.2.1) (t1.2.2+t2.2.2)=true):Ok (tM t1 t2):=ok_cn h
def Rn (op:BinOp) (a b F:Nat):Prop:=(∀ W,(binOp op 22 (.float .f64 a) (.float .f64 b)).run Tryz.prog W=.ok (.float .f64 F) W)∨∀ W,∃ n,lk n F∧(binOp op 22 (.float .f64 a) (.float .f64 b)).run Tryz.prog W=.ok (.float .f64 n) W.drew
theorem rn_of {op:BinOp} {a b F:Nat} (hop:op=.add∨op=.sub∨op=.mul∨op=.quo) (h:(floatBits op .f64 a b=none∧isNaN F=true)∨floatBits op .f64 a b=some F):Rn op a b F:=by
 rcases h with ⟨h1,h2⟩|h1
 ·refine .inr fun W=>?_
  obtain⟨n,n1,n2,hs⟩:=run_nan (P:=Tryz.prog) W op 22 a b hop h1
  exact⟨n,lk.nan n1 n2 h2,hs⟩
 ·exact .inl fun W=>run_float_arith W op 22 .f64 a b _ h1
theorem pplain_f (a:Nat) (ha:a<18446744073709551616) (h:pln a=false) (w:World):Calls Tryz.prog 102 #[.float .f64 a] w fun r w'=>r=.returned (.bool false)∧Bw w w':=by
 rcases pln_false.1 h with h|h
 ·exact(pplain_n a ha h w).mono fun r w' ⟨e,hw⟩=>⟨e,hw ▸ (Below.refl _ _).drew⟩
 ·exact(pplain_z a ha h w).mono fun r w' ⟨e,hw⟩=>⟨e,hw ▸ Below.refl _ _⟩
theorem pplain_t (a:Nat) (ha:a<18446744073709551616) (h:pln a=true) (w:World):Calls Tryz.prog 102 #[.float .f64 a] w fun r w'=>r=.returned (.bool true)∧w'=w:=pplain_y a ha (pln_true.1 h).1 (pln_true.1 h).2 w
theorem pmul_no (a b:Nat) (m:Int) (w:World) (hm:isM m=false):Calls Tryz.prog 70 #[.float .f64 a,.float .f64 b,.int .i64 m] w fun r w'=>r=.returned (.float .f64 9221120237041090561)∧Bw w w':=by
 have kV:=pvalid m w
 rw[hm] at kV
 go_enter Tryz.func70,Tryz.ntmps70
 go_wp2_with fail
 refine kV.mono ?_
 rintro r w' ⟨rfl,hw⟩
 rw[hw]
 clear hw kV w'
 have kN:=Ie.c52 w
 go_wp2_with fail
 refine kN.mono ?_
 rintro r w' ⟨rfl,hw⟩
 rw[hw]
 clear hw kN w'
 go_wp2_with fail
 go_ret
 exact⟨rfl,Below.refl _ _⟩
theorem pmul_na (a b F:Nat) (m:Int) (w:World) (hm:isM m=true) (hfa:∀ W,Calls Tryz.prog 102 #[.float .f64 a] W fun r w'=>r=.returned (.bool false)∧Bw W w') (h:Rn .mul a b F) (hF:F<18446744073709551616) :
  Calls Tryz.prog 70 #[.float .f64 a,.float .f64 b,.int .i64 m] w fun r w'=>OutF2 w F r w':=by
 have kV:=pvalid m w
 rw[hm] at kV
 have HF:Hid (F<18446744073709551616∧Rn .mul a b F):=⟨hF,h⟩
 clear hF h
 go_enter Tryz.func70,Tryz.ntmps70
 go_wp2_with fail
 refine kV.mono ?_
 rintro r w' ⟨rfl,hw⟩
 rw[hw]
 clear hw kV w'
 have kN:=hfa w
 go_wp2_with fail
 refine kN.mono ?_
 rintro r w1 ⟨rfl,hb1⟩
 have HB:Hid (Bw w w1∧Bw w w1.drew):=⟨hb1,hb1.drew⟩
 clear hb1 kN hfa
 rcases HF.out.2 with h|h
 ·have hr:=h w1
  clear h
  go_wp2_with fail
  go_ret
  exact⟨_,rfl,lk.refl HF.out.1,HB.out.1⟩
 ·obtain⟨n,hn,hr⟩:=h w1
  have HN:Hid (lk n F):=hn
  clear hn h
  go_wp2_with fail
  go_ret
  exact⟨_,rfl,HN.out,HB.out.2⟩
theorem pmul_nb (a b F:Nat) (m:Int) (w:World) (hm:isM m=true) (hfa:∀ W,Calls Tryz.prog 102 #[.float .f64 a] W fun r w'=>r=.returned (.bool true)∧w'=W) (hfb:∀ W,Calls Tryz.prog 102 #[.float .f64 b] W fun r w'=>r=.returned (.bool false)∧Bw W w') (h:Rn .mul a b F) (hF:F<18446744073709551616) :
  Calls Tryz.prog 70 #[.float .f64 a,.float .f64 b,.int .i64 m] w fun r w'=>OutF2 w F r w':=by
 have kV:=pvalid m w
 rw[hm] at kV
 have HF:Hid (F<18446744073709551616∧Rn .mul a b F):=⟨hF,h⟩
 clear hF h
 go_enter Tryz.func70,Tryz.ntmps70
 go_wp2_with fail
 refine kV.mono ?_
 rintro r w' ⟨rfl,hw⟩
 rw[hw]
 clear hw kV w'
 have kN:=hfa w
 go_wp2_with fail
 refine kN.mono ?_
 rintro r w' ⟨rfl,hw⟩
 rw[hw]
 clear hw kN hfa w'
 have kN:=hfb w
 go_wp2_with fail
 refine kN.mono ?_
 rintro r w1 ⟨rfl,hb1⟩
 have HB:Hid (Bw w w1∧Bw w w1.drew):=⟨hb1,hb1.drew⟩
 clear hb1 kN hfb
 rcases HF.out.2 with h|h
 ·have hr:=h w1
  clear h
  go_wp2_with fail
  go_ret
  exact⟨_,rfl,lk.refl HF.out.1,HB.out.1⟩
 ·obtain⟨n,hn,hr⟩:=h w1
  have HN:Hid (lk n F):=hn
  clear hn h
  go_wp2_with fail
  go_ret
  exact⟨_,rfl,HN.out,HB.out.2⟩
theorem pdiv_no (a b:Nat) (m:Int) (w:World) (hm:isM m=false):Calls Tryz.prog 71 #[.float .f64 a,.float .f64 b,.int .i64 m] w fun r w'=>r=.returned (.float .f64 9221120237041090561)∧Bw w w':=by
 have kV:=pvalid m w
 rw[hm] at kV
 go_enter Tryz.func71,Tryz.ntmps71
 go_wp2_with fail
 refine kV.mono ?_
 rintro r w' ⟨rfl,hw⟩
 rw[hw]
 clear hw kV w'
 have kN:=Ie.c52 w
 go_wp2_with fail
 refine kN.mono ?_
 rintro r w' ⟨rfl,hw⟩
 rw[hw]
 clear hw kN w'
 go_wp2_with fail
 go_ret
 exact⟨rfl,Below.refl _ _⟩
theorem pdiv_na (a b F:Nat) (m:Int) (w:World) (hm:isM m=true) (hfa:∀ W,Calls Tryz.prog 102 #[.float .f64 a] W fun r w'=>r=.returned (.bool false)∧Bw W w') (h:Rn .quo a b F) (hF:F<18446744073709551616) :
  Calls Tryz.prog 71 #[.float .f64 a,.float .f64 b,.int .i64 m] w fun r w'=>OutF2 w F r w':=by
 have kV:=pvalid m w
 rw[hm] at kV
 have HF:Hid (F<18446744073709551616∧Rn .quo a b F):=⟨hF,h⟩
 clear hF h
 go_enter Tryz.func71,Tryz.ntmps71
 go_wp2_with fail
 refine kV.mono ?_
 rintro r w' ⟨rfl,hw⟩
 rw[hw]
 clear hw kV w'
 have kN:=hfa w
 go_wp2_with fail
 refine kN.mono ?_
 rintro r w1 ⟨rfl,hb1⟩
 have HB:Hid (Bw w w1∧Bw w w1.drew):=⟨hb1,hb1.drew⟩
 clear hb1 kN hfa
 rcases HF.out.2 with h|h
 ·have hr:=h w1
  clear h
  go_wp2_with fail
  go_ret
  exact⟨_,rfl,lk.refl HF.out.1,HB.out.1⟩
 ·obtain⟨n,hn,hr⟩:=h w1
  have HN:Hid (lk n F):=hn
  clear hn h
  go_wp2_with fail
  go_ret
  exact⟨_,rfl,HN.out,HB.out.2⟩
theorem pdiv_nb (a b F:Nat) (m:Int) (w:World) (hm:isM m=true) (hfa:∀ W,Calls Tryz.prog 102 #[.float .f64 a] W fun r w'=>r=.returned (.bool true)∧w'=W) (hfb:∀ W,Calls Tryz.prog 102 #[.float .f64 b] W fun r w'=>r=.returned (.bool false)∧Bw W w') (h:Rn .quo a b F) (hF:F<18446744073709551616) :
  Calls Tryz.prog 71 #[.float .f64 a,.float .f64 b,.int .i64 m] w fun r w'=>OutF2 w F r w':=by
 have kV:=pvalid m w
 rw[hm] at kV
 have HF:Hid (F<18446744073709551616∧Rn .quo a b F):=⟨hF,h⟩
 clear hF h
 go_enter Tryz.func71,Tryz.ntmps71
 go_wp2_with fail
 refine kV.mono ?_
 rintro r w' ⟨rfl,hw⟩
 rw[hw]
 clear hw kV w'
 have kN:=hfa w
 go_wp2_with fail
 refine kN.mono ?_
 rintro r w' ⟨rfl,hw⟩
 rw[hw]
 clear hw kN hfa w'
 have kN:=hfb w
 go_wp2_with fail
 refine kN.mono ?_
 rintro r w1 ⟨rfl,hb1⟩
 have HB:Hid (Bw w w1∧Bw w w1.drew):=⟨hb1,hb1.drew⟩
 clear hb1 kN hfb
 rcases HF.out.2 with h|h
 ·have hr:=h w1
  clear h
  go_wp2_with fail
  go_ret
  exact⟨_,rfl,lk.refl HF.out.1,HB.out.1⟩
 ·obtain⟨n,hn,hr⟩:=h w1
  have HN:Hid (lk n F):=hn
  clear hn h
  go_wp2_with fail
  go_ret
  exact⟨_,rfl,HN.out,HB.out.2⟩
theorem pmul_r (a b F:Nat) (m:Int) (ta tb t3:Bool×Nat×Int) (w:World) (hm:isM m=true)
  (hfa:∀ W,Calls Tryz.prog 102 #[.float .f64 a] W fun r w'=>r=.returned (.bool true)∧w'=W)
  (hfb:∀ W,Calls Tryz.prog 102 #[.float .f64 b] W fun r w'=>r=.returned (.bool true)∧w'=W)
  (kA:Calls Tryz.prog 105 #[.float .f64 a] w fun r w'=>OutA w ta r w')
  (kB:∀ W,Bw w W→Calls Tryz.prog 105 #[.float .f64 b] W fun r w'=>OutA W tb r w')
  (kC:∀ W X Y,Bw w W→PN W X ta→PN W Y tb→Calls Tryz.prog 104 #[X,Y] W fun r w'=>OutA W t3 r w')
  (kR:∀ W X,Bw w W→PN W X t3→Calls Tryz.prog 103 #[X,.int .i64 m] W fun r w'=>r=.returned (.float .f64 F)∧Bw W w') :
  Calls Tryz.prog 70 #[.float .f64 a,.float .f64 b,.int .i64 m] w fun r w'=>r=.returned (.float .f64 F)∧Bw w w':=by
 have kV:=pvalid m w
 rw[hm] at kV
 have HKB:Hid _:=kB
 have HKC:Hid _:=kC
 have HKR:Hid _:=kR
 clear kB kC kR
 go_enter Tryz.func70,Tryz.ntmps70
 go_wp2_with fail
 refine kV.mono ?_
 rintro r w' ⟨rfl,hw⟩
 rw[hw]
 clear hw kV
 have kN:=hfa w
 go_wp2_with fail
 refine kN.mono ?_
 rintro r w' ⟨rfl,hw⟩
 rw[hw]
 clear hw kN hfa
 have kN:=hfb w
 go_wp2_with fail
 refine kN.mono ?_
 rintro r w' ⟨rfl,hw⟩
 rw[hw]
 clear hw kN hfb
 go_wp2_with fail
 refine kA.mono ?_
 rintro r w1 ⟨s1,ao1,n1,cap1,ex1,rfl,hP1,hb1⟩
 have k2:=HKB.out w1 hb1
 clear kA
 go_wp2_with fail
 refine k2.mono ?_
 rintro r w2 ⟨s2,ao2,n2,cap2,ex2,rfl,hP2,hb2⟩
 have HB2:Hid (Bw w w2):=hb1.trans (hb2.mono hb1.size)
 have k3:=HKC.out w2 _ _ HB2.out (hP1.later hb2) hP2
 clear k2 hP1 hP2 hb1 hb2
 go_wp2_with fail
 refine k3.mono ?_
 rintro r w3 ⟨s3,ao3,n3,cap3,ex3,rfl,hP3,hb3⟩
 have HB3:Hid (Bw w w3):=HB2.out.trans (hb3.mono HB2.out.size)
 have k4:=HKR.out w3 _ HB3.out hP3
 clear k3 hb3 hP3
 go_wp2_with fail
 refine k4.mono ?_
 rintro r w4 ⟨rfl,hb4⟩
 have HB4:Hid (Bw w w4):=HB3.out.trans (hb4.mono HB3.out.size)
 clear k4 hb4
 go_wp2_with fail
 go_ret
 exact⟨rfl,HB4.out⟩
theorem tM_okR (a b:Nat):okR (!((tF a).1==(tF b).1)) ((tF a).2.1*(tF b).2.1) ((tF a).2.2+(tF b).2.2)=true:=(Fits.mul (tF_fits a) (tF_fits b)).ok (by omega) (by omega) (by omega)
theorem mulX_lt {a b:Nat}:mulX a b<18446744073709551616:=by
 unfold mulX
 repeat' split
 all_goals first|decide|exact(by unfold sig;split <;> decide)
theorem divX_lt {a b:Nat}:divX a b<18446744073709551616:=by
 unfold divX
 repeat' split
 all_goals first|decide|exact(by unfold sig;split <;> decide)
def fMul (a b:Nat) (m:Int):Nat:=if isM m=false then 9221120237041090560 else if pln a=false∨pln b=false then mulX a b else tfF (tM (tF a) (tF b)).1 true (tM (tF a) (tF b)).2.1 (tM (tF a) (tF b)).2.2 m
def fDiv (a b:Nat) (m:Int):Nat:=if isM m=false then 9221120237041090560 else if pln a=false∨pln b=false then divX a b else rtF (tF a) (tF b) m
theorem tfM_lt (ex:Bool) (x:Nat):tfM ex x<18446744073709551616:=by
 have h1:x<2^(tfD x+64):=Nat.lt_of_lt_of_le (lt_bl x) (Nat.pow_le_pow_right (by decide) (by unfold tfD;omega))
 rw[Nat.pow_add] at h1
 have h2:x / 2^tfD x<2^64:=Nat.div_lt_of_lt_mul h1
 have h3:x / 2^tfD x ||| 1<2^64:=Nat.or_lt_two_pow h2 (by decide)
 unfold tfM
 split
 ·exact h2
 ·exact h3
theorem tfF_lt' {s ex:Bool} {x:Nat} {e m:Int} (hm:1≤m∧m≤3):tfF s ex x e m<18446744073709551616:=by
 unfold tfF Ie.mk
 rw[if_pos (by omega)]
 refine sig_lt ?_
 split
 ·omega
 ·rename_i h0
  have:=Ie.bod_bounds (tfM ex x) (e+(tfD x:Int)) (Ie.wy s m) (tfM_lt ex x) h0
  omega
theorem rtF_lt {t1 t2:Bool×Nat×Int} {m:Int} (hm:1≤m∧m≤3):rtF t1 t2 m<18446744073709551616:=tfF_lt' hm
theorem fMul_lt {a b:Nat} {m:Int}:fMul a b m<18446744073709551616:=by
 unfold fMul
 split
 ·decide
 ·rename_i h
  split
  ·exact mulX_lt
  ·exact tfF_lt (isM_iff.1 (by simpa using h))
theorem fDiv_lt {a b:Nat} {m:Int}:fDiv a b m<18446744073709551616:=by
 unfold fDiv
 split
 ·decide
 ·rename_i h
  split
  ·exact divX_lt
  ·exact rtF_lt (isM_iff.1 (by simpa using h))
theorem pmul_all (a b:Nat) (m:Int) (ha:a<18446744073709551616) (hb:b<18446744073709551616) (w:World) (hT:Tab32 w) (hI:Ie.Tab w) :
  Calls Tryz.prog 70 #[.float .f64 a,.float .f64 b,.int .i64 m] w fun r w'=>OutF2 w (fMul a b m) r w':=by
 unfold fMul
 cases hm:isM m
 ·rw[if_pos rfl]
  refine(pmul_no a b m w hm).mono ?_
  rintro r w' ⟨rfl,hb⟩
  exact⟨_,rfl,lk.nan (by decide) (by decide) (by decide),hb⟩
 ·rw[if_neg (by decide)]
  have hm':=isM_iff.1 hm
  by_cases hp:pln a=false∨pln b=false
  ·rw[if_pos hp]
   have hr:Rn .mul a b (mulX a b):=rn_of (by simp) (mul_non ha hb hp)
   cases h:pln a
   ·exact pmul_na a b _ m w hm (pplain_f a ha h) hr mulX_lt
   ·exact pmul_nb a b _ m w hm (pplain_t a ha h) (pplain_f b hb (by rcases hp with h'|h';rw[h] at h';cases h';exact h')) hr mulX_lt
  ·rw[if_neg hp]
   have pa:pln a=true:=by cases h:pln a;exact absurd (.inl h) hp;rfl
   have pb:pln b=true:=by cases h:pln b;exact absurd (.inr h) hp;rfl
   have hok:Ok (tM (tF a) (tF b)):=tM_ok (tM_okR a b)
   refine(pmul_r a b _ m (tF a) (tF b) (tM (tF a) (tF b)) w hm (pplain_t a ha pa) (pplain_t b hb pb) (exact_ok a ha (pln_true.1 pa).1 w hT hI) (fun W h=>exact_ok b hb (pln_true.1 pb).1 W (hT.later h) (Tab.later hI h)) (fun W X Y h h1 h2=>multiplied_op (mul_op (tF_ok a) (tF_ok b) (tM_okR a b)) (hT.later h) h1 h2) (fun W X h h1=>prounded (hT.later h) hok h1 hm')).mono ?_
   rintro r w' ⟨rfl,hb'⟩
   exact⟨_,rfl,lk.refl (tfF_lt hm'),hb'⟩
theorem pdiv_all (a b:Nat) (m:Int) (ha:a<18446744073709551616) (hb:b<18446744073709551616) (w:World) (hT:Tab32 w) (hI:Ie.Tab w) :
  Calls Tryz.prog 71 #[.float .f64 a,.float .f64 b,.int .i64 m] w fun r w'=>OutF2 w (fDiv a b m) r w':=by
 unfold fDiv
 cases hm:isM m
 ·rw[if_pos rfl]
  refine(pdiv_no a b m w hm).mono ?_
  rintro r w' ⟨rfl,hb⟩
  exact⟨_,rfl,lk.nan (by decide) (by decide) (by decide),hb⟩
 ·rw[if_neg (by decide)]
  have hm':=isM_iff.1 hm
  by_cases hp:pln a=false∨pln b=false
  ·rw[if_pos hp]
   have hr:Rn .quo a b (divX a b):=rn_of (by simp) (div_non ha hb hp)
   cases h:pln a
   ·exact pdiv_na a b _ m w hm (pplain_f a ha h) hr divX_lt
   ·exact pdiv_nb a b _ m w hm (pplain_t a ha h) (pplain_f b hb (by rcases hp with h'|h';rw[h] at h';cases h';exact h')) hr divX_lt
  ·rw[if_neg hp]
   have pa:pln a=true:=by cases h:pln a;exact absurd (.inl h) hp;rfl
   have pb:pln b=true:=by cases h:pln b;exact absurd (.inr h) hp;rfl
   refine(pdiv_ok a b m w hm hT hI ha hb (pln_true.1 pa).1 (pln_true.1 pb).1 (pln_true.1 pa).2 (pln_true.1 pb).2 (tF_ne (pln_true.1 pa).2) (tF_ne (pln_true.1 pb).2)).mono ?_
   rintro r w' ⟨rfl,hb'⟩
   exact⟨_,rfl,lk.refl (rtF_lt hm'),hb'⟩
end Go.Proofs.YtclmbahhojdfcaaGreatDoor
namespace Go.Proofs.YtclmbahhojdfcaaGreatDoor
open Go.RowKit Go.Fl64
open Ie
end Go.Proofs.YtclmbahhojdfcaaGreatDoor
namespace Go.Proofs.YtclmbahhojdfcaaGreatDoor
open Go.RowKit Go.Fl64
end Go.Proofs.YtclmbahhojdfcaaGreatDoor
/- Floats in order: not above, the lesser and the greater of two; intervals that may be. -/
namespace Go.Fl64
def le (a b:Nat):Bool := !isNaN a && !isNaN b&&decide (stp a≤stp b)
theorem ord_le (a b:Nat) (ha:a<18446744073709551616) (hb:b<18446744073709551616):(FloatKind.f64.format.order a b==some Ordering.lt||FloatKind.f64.format.order a b==some Ordering.eq)=le a b:=by
 rw[ord_lt a b ha hb,ord_eq a b ha hb]
 unfold lt eq le
 cases isNaN a <;> cases isNaN b <;> simp
 rw[←Bool.decide_or]
 exact decide_eq_decide.2 (by omega)
theorem ord_ge (a b:Nat) (ha:a<18446744073709551616) (hb:b<18446744073709551616):(FloatKind.f64.format.order a b==some Ordering.gt||FloatKind.f64.format.order a b==some Ordering.eq)=le b a:=by
 rw[ord_gt a b ha hb,ord_eq a b ha hb]
 unfold lt eq le
 cases isNaN a <;> cases isNaN b <;> simp
 rw[←Bool.decide_or]
 exact decide_eq_decide.2 (by omega)
theorem ord_ne (a b:Nat) (ha:a<18446744073709551616) (hb:b<18446744073709551616):(FloatKind.f64.format.order a b != some Ordering.eq) = !eq a b:=by
 rw[←ord_eq a b ha hb];rfl
def fMin (x y:Nat):Nat:=if stp x<stp y then x else if stp y<stp x then y else if neg x then x else y
def fMax (x y:Nat):Nat:=if stp x<stp y then y else if stp y<stp x then x else if neg x then y else x
theorem dec_neg (a:Nat) (h:a<18446744073709551616) (n:isNaN a=false):(FloatKind.f64.decode a).neg=neg a:=by
 unfold FloatKind.decode
 rw[f64]
 have n':¬ 9218868437227405312<mag a:=of_decide_eq_false n
 by_cases f:mag a<9218868437227405312
 ·obtain⟨m,k,e,_⟩:=read_number a h f
  rw[e];rfl
 ·rw[read_infinity a h (by omega)];rfl
theorem run_fmin {P:Program} (w:World) (ts:Array TypeId) (t:TypeId) (x y:Nat) (hx:x<18446744073709551616) (hy:y<18446744073709551616) (nx:isNaN x=false) (ny:isNaN y=false) :
  (Builtin.min_ ts t #[.float .f64 x,.float .f64 y]).run P w=.ok (.float .f64 (fMin x y)) w:=by
 have ho:=order_num x y hx hy nx ny
 have hd:=dec_neg x hx nx
 rw[←f64] at ho
 unfold fMin
 rcases Int.lt_trichotomy (stp x) (stp y)with h|h|h
 ·rw[cmp_lt h] at ho
  rw[if_pos h]
  simp[Builtin.min_,Builtin.min2,ho]
 ·rw[cmp_eq h] at ho
  rw[if_neg (by omega),if_neg (by omega)]
  simp[Builtin.min_,Builtin.min2,ho,hd]
 ·rw[cmp_gt h] at ho
  rw[if_neg (by omega),if_pos h]
  simp[Builtin.min_,Builtin.min2,ho]
theorem run_fmax {P:Program} (w:World) (ts:Array TypeId) (t:TypeId) (x y:Nat) (hx:x<18446744073709551616) (hy:y<18446744073709551616) (nx:isNaN x=false) (ny:isNaN y=false) :
  (Builtin.max_ ts t #[.float .f64 x,.float .f64 y]).run P w=.ok (.float .f64 (fMax x y)) w:=by
 have ho:=order_num x y hx hy nx ny
 have hd:=dec_neg x hx nx
 rw[←f64] at ho
 unfold fMax
 rcases Int.lt_trichotomy (stp x) (stp y)with h|h|h
 ·rw[cmp_lt h] at ho
  rw[if_pos h]
  simp[Builtin.max_,Builtin.max2,ho]
 ·rw[cmp_eq h] at ho
  rw[if_neg (by omega),if_neg (by omega)]
  simp[Builtin.max_,Builtin.max2,ho,hd]
 ·rw[cmp_gt h] at ho
  rw[if_neg (by omega),if_pos h]
  simp[Builtin.max_,Builtin.max2,ho]
theorem fMin_or (x y:Nat):fMin x y=x∨fMin x y=y:=by
 unfold fMin
 split
 ·exact .inl rfl
 ·split
  ·exact .inr rfl
  ·split
   ·exact .inl rfl
   ·exact .inr rfl
theorem fMax_or (x y:Nat):fMax x y=x∨fMax x y=y:=by
 unfold fMax
 split
 ·exact .inr rfl
 ·split
  ·exact .inl rfl
  ·split
   ·exact .inr rfl
   ·exact .inl rfl
theorem fMin_lt {x y:Nat} (hx:x<18446744073709551616) (hy:y<18446744073709551616):fMin x y<18446744073709551616:=by
 rcases fMin_or x y with h|h <;> rw[h] <;> assumption
theorem fMax_lt {x y:Nat} (hx:x<18446744073709551616) (hy:y<18446744073709551616):fMax x y<18446744073709551616:=by
 rcases fMax_or x y with h|h <;> rw[h] <;> assumption
theorem fMin_nn {x y:Nat} (hx:isNaN x=false) (hy:isNaN y=false):isNaN (fMin x y)=false:=by
 rcases fMin_or x y with h|h <;> rw[h] <;> assumption
theorem fMax_nn {x y:Nat} (hx:isNaN x=false) (hy:isNaN y=false):isNaN (fMax x y)=false:=by
 rcases fMax_or x y with h|h <;> rw[h] <;> assumption
theorem fMin_stp (x y:Nat):stp (fMin x y)=min (stp x) (stp y):=by
 unfold fMin
 split
 ·omega
 ·split
  ·omega
  ·split <;> omega
theorem fMax_stp (x y:Nat):stp (fMax x y)=max (stp x) (stp y):=by
 unfold fMax
 split
 ·omega
 ·split
  ·omega
  ·split <;> omega
def pl (a:Nat):Nat:=if a=9223372036854775808 then 0 else a
theorem stp_zero {a:Nat} (ha:a<18446744073709551616):stp a=0↔(a=0∨a=9223372036854775808):=by
 unfold stp sgn neg mag
 constructor
 ·intro h
  split at h <;> rename_i h1 <;> simp only[decide_eq_true_eq] at h1 <;> omega
 ·rintro(rfl|rfl) <;> decide
def vI (lo hi:Nat):Bool:=le lo hi&&lt lo 9218868437227405312&&lt 18442240474082181120 hi&&decide (lo≠9223372036854775808)&&decide (hi≠9223372036854775808)
theorem stp_inj {a b:Nat} (ha:a<18446744073709551616) (hb:b<18446744073709551616) (h:stp a=stp b) (h1:a≠9223372036854775808) (h2:b≠9223372036854775808):a=b:=by
 unfold stp sgn neg mag at h
 split at h <;> split at h <;> rename_i h3 h4 <;> simp only[decide_eq_true_eq] at h3 h4 <;> omega
end Go.Fl64
namespace Go.Proofs.YtclmbahhojdfcaaGreatDoor
open Go.RowKit Go.Fl64
theorem eq_zero (a:Nat) (ha:a<18446744073709551616):eq a 0=(decide (a=0)||decide (a=9223372036854775808)):=by
 rw[←Bool.decide_or]
 unfold eq
 rw[show isNaN 0=false from rfl]
 have h:=stp_zero ha
 rw[show stp 0=0 from rfl]
 by_cases h0:stp a=0
 ·have h1:=h.1 h0
  rw[decide_eq_true h0,decide_eq_true h1]
  rcases h1 with rfl|rfl <;> rfl
 ·rw[decide_eq_false h0,decide_eq_false fun h2=>h0 (h.2 h2),Bool.and_false]
theorem pmn (a:Nat) (ha:a<18446744073709551616) (w:World) :
  Calls Tryz.prog 39 #[.float .f64 a] w fun r w'=>r=.returned (.bool (decide (a=9223372036854775808)))∧w'=w:=by
 have k:=Ie.c33 a ha
 have e:=ord_eq a 0 ha (by omega)
 rw[eq_zero a ha] at e
 by_cases h:a=0∨a=9223372036854775808
 ·have e1:(FloatKind.f64.format.order a 0==some Ordering.eq)=true:=by
   rw[e,←Bool.decide_or];exact decide_eq_true h
  have e2:decide (a=9223372036854775808)=neg a:=by
   rcases h with rfl|rfl <;> rfl
  rw[e2]
  clear e e2 h
  go_enter Tryz.func39,Tryz.ntmps39
  go_wp2_with (first|(go_at_call 66;refine(k _).mono ?_;rintro r w' ⟨rfl,rfl⟩))
  go_ret
  exact⟨rfl,rfl⟩
 ·have e1:(FloatKind.f64.format.order a 0==some Ordering.eq)=false:=by
   rw[e,←Bool.decide_or];exact decide_eq_false h
  rw[decide_eq_false fun h1=>h (.inr h1)]
  clear e h
  go_enter Tryz.func39,Tryz.ntmps39
  go_wp2
  go_ret
  exact⟨rfl,rfl⟩
theorem ppl (a:Nat) (ha:a<18446744073709551616) (w:World) :
  Calls Tryz.prog 64 #[.float .f64 a] w fun r w'=>r=.returned (.float .f64 (pl a))∧w'=w:=by
 have e:=ord_eq a 0 ha (by omega)
 rw[eq_zero a ha] at e
 by_cases h:a=0∨a=9223372036854775808
 ·have e1:(FloatKind.f64.format.order a 0==some Ordering.eq)=true:=by
   rw[e,←Bool.decide_or];exact decide_eq_true h
  have e2:pl a=0:=by
   rcases h with rfl|rfl <;> rfl
  rw[e2]
  clear e e2 h
  go_enter Tryz.func64,Tryz.ntmps64
  go_wp2
  go_ret
  exact⟨rfl,rfl⟩
 ·have e1:(FloatKind.f64.format.order a 0==some Ordering.eq)=false:=by
   rw[e,←Bool.decide_or];exact decide_eq_false h
  have e2:pl a=a:=if_neg fun h1=>h (.inr h1)
  rw[e2]
  clear e e2 h
  go_enter Tryz.func64,Tryz.ntmps64
  go_wp2
  go_ret
  exact⟨rfl,rfl⟩
theorem box_cells2 {w:World} {g:Nat} {a b:Value} {T:TypeId} (h:w.heap[g]?=some (.cells #[a,b] T (0,0))):w.cell? ⟨g,0,none⟩=some a∧w.cell? ⟨g,1,none⟩=some b:=by
 simp[World.cell?,h]
theorem bdrewN {B:Nat} {a w:World} (h:Below B a w) (n:Nat):Below B a (w.drewN n):=h.trans ⟨rfl,rfl,rfl,Nat.le_refl _,fun _ _=>rfl⟩
theorem cinf_p (w:World):Calls Tryz.prog 40 #[.int .i64 1] w fun r w'=>r=.returned (.float .f64 9218868437227405312)∧w'=w:=by
 have hb:=Ie.run_frombits
 go_enter Tryz.func40,Tryz.ntmps40
 go_wp2
 go_ret
 exact⟨rfl,rfl⟩
theorem isinf_p (a:Nat) (ha:a<18446744073709551616) (w:World) :
  Calls Tryz.prog 38 #[.float .f64 a,.int .i64 1] w fun e w'=>e=.returned (.bool (lt 9218868437227405311 a))∧w'=w:=by
 have h:=ord_gt a 9218868437227405311 ha (by omega)
 have H:Hid ((FloatKind.f64.format.order a 9218868437227405311==some Ordering.gt)=lt 9218868437227405311 a):=h
 clear h
 go_enter Tryz.func38,Tryz.ntmps38
 go_wp2
 go_ret
 exact⟨congrArg Ending.returned (congrArg Value.bool H.out),rfl⟩
theorem run_negf8 (a:Nat) (w:World):(Op.unary .neg (.float .f64 a)).run Tryz.prog w=.ok (.float .f64 (Op.negFloat .f64 a)) w:=rfl
theorem isinf_m (a:Nat) (ha:a<18446744073709551616) (w:World) :
  Calls Tryz.prog 38 #[.float .f64 a,.int .i64 (-1)] w fun e w'=>e=.returned (.bool (lt 9218868437227405311 (ngt a)))∧w'=w:=by
 have kn:=run_negf8
 have h:=ord_gt (ngt a) 9218868437227405311 (ngt_lt ha) (by omega)
 have hn:=negF a ha
 generalize ngt a=b at *
 have H:Hid ((FloatKind.f64.format.order b 9218868437227405311==some Ordering.gt)=lt 9218868437227405311 b):=h
 clear h
 go_enter Tryz.func38,Tryz.ntmps38
 go_wp2
 go_ret
 refine⟨?_,rfl⟩
 rw[hn] at *
 exact congrArg Ending.returned (congrArg Value.bool H.out)
theorem ngt_stp {a:Nat} (ha:a<18446744073709551616):stp (ngt a) = - stp a:=by
 unfold stp
 rw[ngt_mag ha,ngt_neg ha]
 cases neg a <;> simp[sgn]
theorem ngt_nan8 {a:Nat} (ha:a<18446744073709551616):isNaN (ngt a)=isNaN a:=by
 unfold isNaN;rw[ngt_mag ha]
theorem nan_stp {a:Nat} (h:isNaN a=false) : -9218868437227405312≤stp a∧stp a≤9218868437227405312:=by
 have h':¬ 9218868437227405312<mag a:=of_decide_eq_false h
 unfold stp sgn
 split <;> omega
theorem vI_p (lo hi:Nat) (h1:lo<18446744073709551616) (h2:hi<18446744073709551616) :
  vI lo hi=(le lo hi && !(lt 9218868437227405311 lo||lt 9218868437227405311 (ngt hi))&&(!decide (lo=9223372036854775808) && !decide (hi=9223372036854775808))):=by
 unfold vI
 cases hl:le lo hi
 ·rfl
 ·unfold le at hl
  simp only[Bool.and_eq_true,Bool.not_eq_true',decide_eq_true_eq] at hl
  obtain⟨⟨n1,n2⟩,h3⟩:=hl
  have b1:=nan_stp n1
  have b2:=nan_stp n2
  have e1:lt lo 9218868437227405312 = !lt 9218868437227405311 lo:=by
   unfold lt
   rw[n1,show isNaN 9218868437227405312=false by decide,show isNaN 9218868437227405311=false by decide,show stp 9218868437227405312=9218868437227405312 by decide,show stp 9218868437227405311=9218868437227405311 by decide]
   rw[Bool.not_false,Bool.true_and,Bool.true_and,Bool.true_and,←decide_not]
   exact decide_eq_decide.2 (by omega)
  have e2:lt 18442240474082181120 hi = !lt 9218868437227405311 (ngt hi):=by
   unfold lt
   rw[ngt_nan8 h2,n2,ngt_stp h2,show isNaN 18442240474082181120=false by decide,show isNaN 9218868437227405311=false by decide,show stp 18442240474082181120 = -9218868437227405312 by decide,show stp 9218868437227405311=9218868437227405311 by decide]
   rw[Bool.not_false,Bool.true_and,Bool.true_and,Bool.true_and,←decide_not]
   exact decide_eq_decide.2 (by omega)
  rw[e1,e2]
  simp[Bool.and_assoc]
theorem pvalid_1 (lo hi:Nat) (w:World)
  (h:(FloatKind.f64.format.order lo hi==some Ordering.lt||FloatKind.f64.format.order lo hi==some Ordering.eq)=false) :
  Calls Tryz.prog 9 #[.agg #[.float .f64 lo,.float .f64 hi]] w fun r w'=>r=.returned (.bool false)∧Bw w w':=by
 go_enter Tryz.func9,Tryz.ntmps9
 go_wp2_with (first|fail)
 go_ret
 exact⟨rfl,(Below.refl _ _).alloc (Nat.le_refl _) _⟩
theorem pvalid_2 (lo hi:Nat) (w:World) (p q s:Bool)
  (h:(FloatKind.f64.format.order lo hi==some Ordering.lt||FloatKind.f64.format.order lo hi==some Ordering.eq)=true)
  (k1:∀ W,Calls Tryz.prog 38 #[.float .f64 lo,.int .i64 1] W fun e w'=>e=.returned (.bool true)∧w'=W)
  (k2:∀ W,Calls Tryz.prog 38 #[.float .f64 hi,.int .i64 (-1)] W fun e w'=>e=.returned (.bool p)∧w'=W)
  (k3:∀ W,Calls Tryz.prog 39 #[.float .f64 lo] W fun e w'=>e=.returned (.bool q)∧w'=W)
  (k4:∀ W,Calls Tryz.prog 39 #[.float .f64 hi] W fun e w'=>e=.returned (.bool s)∧w'=W) :
  Calls Tryz.prog 9 #[.agg #[.float .f64 lo,.float .f64 hi]] w fun r w'=>r=.returned (.bool false)∧Bw w w':=by
 go_enter Tryz.func9,Tryz.ntmps9
 go_wp2_with (first|(go_at_call 38;first|(with_reducible refine(k1 _).mono ?_;rintro r w' ⟨rfl,rfl⟩)|(with_reducible refine(k2 _).mono ?_;rintro r w' ⟨rfl,rfl⟩))|(go_at_call 39;first|(with_reducible refine(k3 _).mono ?_;rintro r w' ⟨rfl,rfl⟩)|(with_reducible refine(k4 _).mono ?_;rintro r w' ⟨rfl,rfl⟩)))
 go_ret
 exact⟨rfl,(Below.refl _ _).alloc (Nat.le_refl _) _⟩
theorem pvalid_3 (lo hi:Nat) (w:World) (q s:Bool)
  (h:(FloatKind.f64.format.order lo hi==some Ordering.lt||FloatKind.f64.format.order lo hi==some Ordering.eq)=true)
  (k1:∀ W,Calls Tryz.prog 38 #[.float .f64 lo,.int .i64 1] W fun e w'=>e=.returned (.bool false)∧w'=W)
  (k2:∀ W,Calls Tryz.prog 38 #[.float .f64 hi,.int .i64 (-1)] W fun e w'=>e=.returned (.bool true)∧w'=W)
  (k3:∀ W,Calls Tryz.prog 39 #[.float .f64 lo] W fun e w'=>e=.returned (.bool q)∧w'=W)
  (k4:∀ W,Calls Tryz.prog 39 #[.float .f64 hi] W fun e w'=>e=.returned (.bool s)∧w'=W) :
  Calls Tryz.prog 9 #[.agg #[.float .f64 lo,.float .f64 hi]] w fun r w'=>r=.returned (.bool false)∧Bw w w':=by
 go_enter Tryz.func9,Tryz.ntmps9
 go_wp2_with (first|(go_at_call 38;first|(with_reducible refine(k1 _).mono ?_;rintro r w' ⟨rfl,rfl⟩)|(with_reducible refine(k2 _).mono ?_;rintro r w' ⟨rfl,rfl⟩))|(go_at_call 39;first|(with_reducible refine(k3 _).mono ?_;rintro r w' ⟨rfl,rfl⟩)|(with_reducible refine(k4 _).mono ?_;rintro r w' ⟨rfl,rfl⟩)))
 go_ret
 exact⟨rfl,(Below.refl _ _).alloc (Nat.le_refl _) _⟩
theorem pvalid_4 (lo hi:Nat) (w:World) (s:Bool)
  (h:(FloatKind.f64.format.order lo hi==some Ordering.lt||FloatKind.f64.format.order lo hi==some Ordering.eq)=true)
  (k1:∀ W,Calls Tryz.prog 38 #[.float .f64 lo,.int .i64 1] W fun e w'=>e=.returned (.bool false)∧w'=W)
  (k2:∀ W,Calls Tryz.prog 38 #[.float .f64 hi,.int .i64 (-1)] W fun e w'=>e=.returned (.bool false)∧w'=W)
  (k3:∀ W,Calls Tryz.prog 39 #[.float .f64 lo] W fun e w'=>e=.returned (.bool true)∧w'=W)
  (k4:∀ W,Calls Tryz.prog 39 #[.float .f64 hi] W fun e w'=>e=.returned (.bool s)∧w'=W) :
  Calls Tryz.prog 9 #[.agg #[.float .f64 lo,.float .f64 hi]] w fun r w'=>r=.returned (.bool false)∧Bw w w':=by
 go_enter Tryz.func9,Tryz.ntmps9
 go_wp2_with (first|(go_at_call 38;first|(with_reducible refine(k1 _).mono ?_;rintro r w' ⟨rfl,rfl⟩)|(with_reducible refine(k2 _).mono ?_;rintro r w' ⟨rfl,rfl⟩))|(go_at_call 39;first|(with_reducible refine(k3 _).mono ?_;rintro r w' ⟨rfl,rfl⟩)|(with_reducible refine(k4 _).mono ?_;rintro r w' ⟨rfl,rfl⟩)))
 go_ret
 exact⟨rfl,(Below.refl _ _).alloc (Nat.le_refl _) _⟩
theorem pvalid_5 (lo hi:Nat) (w:World) (s:Bool)
  (h:(FloatKind.f64.format.order lo hi==some Ordering.lt||FloatKind.f64.format.order lo hi==some Ordering.eq)=true)
  (k1:∀ W,Calls Tryz.prog 38 #[.float .f64 lo,.int .i64 1] W fun e w'=>e=.returned (.bool false)∧w'=W)
  (k2:∀ W,Calls Tryz.prog 38 #[.float .f64 hi,.int .i64 (-1)] W fun e w'=>e=.returned (.bool false)∧w'=W)
  (k3:∀ W,Calls Tryz.prog 39 #[.float .f64 lo] W fun e w'=>e=.returned (.bool false)∧w'=W)
  (k4:∀ W,Calls Tryz.prog 39 #[.float .f64 hi] W fun e w'=>e=.returned (.bool s)∧w'=W) :
  Calls Tryz.prog 9 #[.agg #[.float .f64 lo,.float .f64 hi]] w fun r w'=>r=.returned (.bool (!s))∧Bw w w':=by
 go_enter Tryz.func9,Tryz.ntmps9
 go_wp2_with (first|(go_at_call 38;first|(with_reducible refine(k1 _).mono ?_;rintro r w' ⟨rfl,rfl⟩)|(with_reducible refine(k2 _).mono ?_;rintro r w' ⟨rfl,rfl⟩))|(go_at_call 39;first|(with_reducible refine(k3 _).mono ?_;rintro r w' ⟨rfl,rfl⟩)|(with_reducible refine(k4 _).mono ?_;rintro r w' ⟨rfl,rfl⟩)))
 go_ret
 exact⟨rfl,(Below.refl _ _).alloc (Nat.le_refl _) _⟩
theorem svalid (lo hi:Nat) (h1:lo<18446744073709551616) (h2:hi<18446744073709551616) (w:World) :
  Calls Tryz.prog 9 #[.agg #[.float .f64 lo,.float .f64 hi]] w fun r w'=>r=.returned (.bool (vI lo hi))∧Bw w w':=by
 have ho:=ord_le lo hi h1 h2
 rw[vI_p lo hi h1 h2]
 have k1:=isinf_p lo h1
 have k2:=isinf_m hi h2
 have k3:=pmn lo h1
 have k4:=pmn hi h2
 cases hl:le lo hi
 ·rw[hl] at ho
  exact pvalid_1 lo hi w ho
 ·rw[hl] at ho
  cases hp:lt 9218868437227405311 lo
  ·rw[hp] at k1
   cases hq:lt 9218868437227405311 (ngt hi)
   ·rw[hq] at k2
    cases hs:decide (lo=9223372036854775808)
    ·rw[hs] at k3
     exact pvalid_5 lo hi w _ ho k1 k2 k3 k4
    ·rw[hs] at k3
     exact pvalid_4 lo hi w _ ho k1 k2 k3 k4
   ·rw[hq] at k2
    exact pvalid_3 lo hi w _ _ ho k1 k2 k3 k4
  ·rw[hp] at k1
   exact pvalid_2 lo hi w _ _ _ ho k1 k2 k3 k4
theorem dclean (a:Nat) (ha:a<18446744073709551616) (w:World) :
  Calls Tryz.prog 41 #[.float .f64 a] w fun r w'=>r=.returned (.bool (!decide (a=9223372036854775808)))∧w'=w:=by
 have k:=Ie.c33 a ha
 have e:=ord_ne a 0 ha (by omega)
 rw[eq_zero a ha] at e
 by_cases h:a=0∨a=9223372036854775808
 ·have e1:(FloatKind.f64.format.order a 0 != some Ordering.eq)=false:=by
   rw[e,←Bool.decide_or,decide_eq_true h];rfl
  have e2:decide (a=9223372036854775808)=neg a:=by
   rcases h with rfl|rfl <;> rfl
  rw[e2]
  clear e e2 h
  go_enter Tryz.func41,Tryz.ntmps41
  go_wp2_with (first|(go_at_call 66;refine(k _).mono ?_;rintro r w' ⟨rfl,rfl⟩))
  go_ret
  exact⟨rfl,rfl⟩
 ·have e1:(FloatKind.f64.format.order a 0 != some Ordering.eq)=true:=by
   rw[e,←Bool.decide_or,decide_eq_false h];rfl
  rw[decide_eq_false fun h1=>h (.inr h1)]
  clear e h
  go_enter Tryz.func41,Tryz.ntmps41
  go_wp2
  go_ret
  exact⟨rfl,rfl⟩
theorem dvalid_1 (lo hi:Nat) (w:World) (p q r s:Bool)
  (o1:(FloatKind.f64.format.order lo hi==some Ordering.lt||FloatKind.f64.format.order lo hi==some Ordering.eq)=false)
  (o2:(FloatKind.f64.format.order lo 9218868437227405312==some Ordering.lt)=p)
  (o3:(FloatKind.f64.format.order hi 18442240474082181120==some Ordering.gt)=q)
  (k3:∀ W,Calls Tryz.prog 41 #[.float .f64 lo] W fun e w'=>e=.returned (.bool r)∧w'=W)
  (k4:∀ W,Calls Tryz.prog 41 #[.float .f64 hi] W fun e w'=>e=.returned (.bool s)∧w'=W) :
  Calls Tryz.prog 10 #[.agg #[.float .f64 lo,.float .f64 hi]] w fun r w'=>r=.returned (.bool false)∧Bw w w':=by
 obtain⟨W,hW⟩:∃ W,W=w.alloc (.cells #[.float .f64 lo,.float .f64 hi] 24):=⟨_,rfl⟩
 have HX:Hid (Bw w W):=by rw[hW];exact(Below.refl _ _).alloc (Nat.le_refl _) _
 have hcl:W.cell? ⟨w.heap.size,0,none⟩=some (.float .f64 lo)∧W.cell? ⟨w.heap.size,1,none⟩=some (.float .f64 hi):=by rw[hW];exact box_cells2 (heap_alloc_new _ _)
 obtain⟨c0,c1⟩:=hcl
 go_enter Tryz.func10,Tryz.ntmps10
 go_upto_region 1 with fail
 rw[←hW]
 clear hW
 go_quiet (first|(go_at_call 40;first|(with_reducible refine Calls.quiet_of_same (cinf_p _))|(with_reducible refine Calls.quiet_of_same (cinf_m _)))|(go_at_call 41;first|(with_reducible refine Calls.quiet_of_same (k3 _))|(with_reducible refine Calls.quiet_of_same (k4 _))))
 go_wp2
 go_ret
 exact⟨rfl,bdrewN HX.out _⟩
theorem dvalid_2 (lo hi:Nat) (w:World) (q r s:Bool)
  (o1:(FloatKind.f64.format.order lo hi==some Ordering.lt||FloatKind.f64.format.order lo hi==some Ordering.eq)=true)
  (o2:(FloatKind.f64.format.order lo 9218868437227405312==some Ordering.lt)=false)
  (o3:(FloatKind.f64.format.order hi 18442240474082181120==some Ordering.gt)=q)
  (k3:∀ W,Calls Tryz.prog 41 #[.float .f64 lo] W fun e w'=>e=.returned (.bool r)∧w'=W)
  (k4:∀ W,Calls Tryz.prog 41 #[.float .f64 hi] W fun e w'=>e=.returned (.bool s)∧w'=W) :
  Calls Tryz.prog 10 #[.agg #[.float .f64 lo,.float .f64 hi]] w fun r w'=>r=.returned (.bool false)∧Bw w w':=by
 obtain⟨W,hW⟩:∃ W,W=w.alloc (.cells #[.float .f64 lo,.float .f64 hi] 24):=⟨_,rfl⟩
 have HX:Hid (Bw w W):=by rw[hW];exact(Below.refl _ _).alloc (Nat.le_refl _) _
 have hcl:W.cell? ⟨w.heap.size,0,none⟩=some (.float .f64 lo)∧W.cell? ⟨w.heap.size,1,none⟩=some (.float .f64 hi):=by rw[hW];exact box_cells2 (heap_alloc_new _ _)
 obtain⟨c0,c1⟩:=hcl
 go_enter Tryz.func10,Tryz.ntmps10
 go_upto_region 1 with fail
 rw[←hW]
 clear hW
 go_quiet (first|(go_at_call 40;first|(with_reducible refine Calls.quiet_of_same (cinf_p _))|(with_reducible refine Calls.quiet_of_same (cinf_m _)))|(go_at_call 41;first|(with_reducible refine Calls.quiet_of_same (k3 _))|(with_reducible refine Calls.quiet_of_same (k4 _))))
 go_wp2
 go_ret
 exact⟨rfl,bdrewN HX.out _⟩
theorem dvalid_3 (lo hi:Nat) (w:World) (r s:Bool)
  (o1:(FloatKind.f64.format.order lo hi==some Ordering.lt||FloatKind.f64.format.order lo hi==some Ordering.eq)=true)
  (o2:(FloatKind.f64.format.order lo 9218868437227405312==some Ordering.lt)=true)
  (o3:(FloatKind.f64.format.order hi 18442240474082181120==some Ordering.gt)=false)
  (k3:∀ W,Calls Tryz.prog 41 #[.float .f64 lo] W fun e w'=>e=.returned (.bool r)∧w'=W)
  (k4:∀ W,Calls Tryz.prog 41 #[.float .f64 hi] W fun e w'=>e=.returned (.bool s)∧w'=W) :
  Calls Tryz.prog 10 #[.agg #[.float .f64 lo,.float .f64 hi]] w fun r w'=>r=.returned (.bool false)∧Bw w w':=by
 obtain⟨W,hW⟩:∃ W,W=w.alloc (.cells #[.float .f64 lo,.float .f64 hi] 24):=⟨_,rfl⟩
 have HX:Hid (Bw w W):=by rw[hW];exact(Below.refl _ _).alloc (Nat.le_refl _) _
 have hcl:W.cell? ⟨w.heap.size,0,none⟩=some (.float .f64 lo)∧W.cell? ⟨w.heap.size,1,none⟩=some (.float .f64 hi):=by rw[hW];exact box_cells2 (heap_alloc_new _ _)
 obtain⟨c0,c1⟩:=hcl
 go_enter Tryz.func10,Tryz.ntmps10
 go_upto_region 1 with fail
 rw[←hW]
 clear hW
 go_quiet (first|(go_at_call 40;first|(with_reducible refine Calls.quiet_of_same (cinf_p _))|(with_reducible refine Calls.quiet_of_same (cinf_m _)))|(go_at_call 41;first|(with_reducible refine Calls.quiet_of_same (k3 _))|(with_reducible refine Calls.quiet_of_same (k4 _))))
 go_wp2
 go_ret
 exact⟨rfl,bdrewN HX.out _⟩
theorem dvalid_4 (lo hi:Nat) (w:World) (s:Bool)
  (o1:(FloatKind.f64.format.order lo hi==some Ordering.lt||FloatKind.f64.format.order lo hi==some Ordering.eq)=true)
  (o2:(FloatKind.f64.format.order lo 9218868437227405312==some Ordering.lt)=true)
  (o3:(FloatKind.f64.format.order hi 18442240474082181120==some Ordering.gt)=true)
  (k3:∀ W,Calls Tryz.prog 41 #[.float .f64 lo] W fun e w'=>e=.returned (.bool false)∧w'=W)
  (k4:∀ W,Calls Tryz.prog 41 #[.float .f64 hi] W fun e w'=>e=.returned (.bool s)∧w'=W) :
  Calls Tryz.prog 10 #[.agg #[.float .f64 lo,.float .f64 hi]] w fun r w'=>r=.returned (.bool false)∧Bw w w':=by
 obtain⟨W,hW⟩:∃ W,W=w.alloc (.cells #[.float .f64 lo,.float .f64 hi] 24):=⟨_,rfl⟩
 have HX:Hid (Bw w W):=by rw[hW];exact(Below.refl _ _).alloc (Nat.le_refl _) _
 have hcl:W.cell? ⟨w.heap.size,0,none⟩=some (.float .f64 lo)∧W.cell? ⟨w.heap.size,1,none⟩=some (.float .f64 hi):=by rw[hW];exact box_cells2 (heap_alloc_new _ _)
 obtain⟨c0,c1⟩:=hcl
 go_enter Tryz.func10,Tryz.ntmps10
 go_upto_region 1 with fail
 rw[←hW]
 clear hW
 go_quiet (first|(go_at_call 40;first|(with_reducible refine Calls.quiet_of_same (cinf_p _))|(with_reducible refine Calls.quiet_of_same (cinf_m _)))|(go_at_call 41;first|(with_reducible refine Calls.quiet_of_same (k3 _))|(with_reducible refine Calls.quiet_of_same (k4 _))))
 go_wp2
 go_ret
 exact⟨rfl,bdrewN HX.out _⟩
theorem dvalid_5 (lo hi:Nat) (w:World) (s:Bool)
  (o1:(FloatKind.f64.format.order lo hi==some Ordering.lt||FloatKind.f64.format.order lo hi==some Ordering.eq)=true)
  (o2:(FloatKind.f64.format.order lo 9218868437227405312==some Ordering.lt)=true)
  (o3:(FloatKind.f64.format.order hi 18442240474082181120==some Ordering.gt)=true)
  (k3:∀ W,Calls Tryz.prog 41 #[.float .f64 lo] W fun e w'=>e=.returned (.bool true)∧w'=W)
  (k4:∀ W,Calls Tryz.prog 41 #[.float .f64 hi] W fun e w'=>e=.returned (.bool s)∧w'=W) :
  Calls Tryz.prog 10 #[.agg #[.float .f64 lo,.float .f64 hi]] w fun r w'=>r=.returned (.bool s)∧Bw w w':=by
 obtain⟨W,hW⟩:∃ W,W=w.alloc (.cells #[.float .f64 lo,.float .f64 hi] 24):=⟨_,rfl⟩
 have HX:Hid (Bw w W):=by rw[hW];exact(Below.refl _ _).alloc (Nat.le_refl _) _
 have hcl:W.cell? ⟨w.heap.size,0,none⟩=some (.float .f64 lo)∧W.cell? ⟨w.heap.size,1,none⟩=some (.float .f64 hi):=by rw[hW];exact box_cells2 (heap_alloc_new _ _)
 obtain⟨c0,c1⟩:=hcl
 go_enter Tryz.func10,Tryz.ntmps10
 go_upto_region 1 with fail
 rw[←hW]
 clear hW
 go_quiet (first|(go_at_call 40;first|(with_reducible refine Calls.quiet_of_same (cinf_p _))|(with_reducible refine Calls.quiet_of_same (cinf_m _)))|(go_at_call 41;first|(with_reducible refine Calls.quiet_of_same (k3 _))|(with_reducible refine Calls.quiet_of_same (k4 _))))
 go_wp2
 go_ret
 exact⟨rfl,bdrewN HX.out _⟩
theorem d8valid (lo hi:Nat) (h1:lo<18446744073709551616) (h2:hi<18446744073709551616) (w:World) :
  Calls Tryz.prog 10 #[.agg #[.float .f64 lo,.float .f64 hi]] w fun r w'=>r=.returned (.bool (vI lo hi))∧Bw w w':=by
 have o1:=ord_le lo hi h1 h2
 have o2:=ord_lt lo 9218868437227405312 h1 (by omega)
 have o3:=ord_gt hi 18442240474082181120 h2 (by omega)
 have k3:=dclean lo h1
 have k4:=dclean hi h2
 unfold vI
 rw[decide_not,decide_not]
 cases hl:le lo hi
 ·rw[hl] at o1
  exact dvalid_1 lo hi w _ _ _ _ o1 o2 o3 k3 k4
 ·rw[hl] at o1
  cases hp:lt lo 9218868437227405312
  ·rw[hp] at o2
   exact dvalid_2 lo hi w _ _ _ o1 o2 o3 k3 k4
  ·rw[hp] at o2
   cases hq:lt 18442240474082181120 hi
   ·rw[hq] at o3
    exact dvalid_3 lo hi w _ _ o1 o2 o3 k3 k4
   ·rw[hq] at o3
    cases hs:decide (lo=9223372036854775808)
    ·rw[hs] at k3
     exact dvalid_5 lo hi w _ o1 o2 o3 k3 k4
    ·rw[hs] at k3
     exact dvalid_4 lo hi w _ o1 o2 o3 k3 k4
theorem run_store_flt (P:Program) (w:World) (a:Addr) (m:Mode) (k:FloatKind) (n:Nat):(store a (.float k n) m).run P w=stored P w a (.float k n) m:=run_store P w a _ m rfl
attribute [local go_sem] run_store_flt
theorem smaybe_1 (g k:Nat) (lo hi:Nat→Nat) (w:World) (hk:k≤3)
  (h0:∀ i,i<k→w.cell? ⟨g,i*2,none⟩=some (.float .f64 (lo i))) (h1:∀ i,i<k→w.cell? ⟨g,i*2+1,none⟩=some (.float .f64 (hi i)))
  (b0:∀ i,lo i<18446744073709551616) (b1:∀ i,hi i<18446744073709551616) :
  Calls Tryz.prog 45 #[.slice (some ⟨g,0,none⟩) k k] w fun r w'=>r=.returned (.bool (decide (∀ i,i<k→vI (lo i) (hi i)=true)))∧Bw w w':=by
 generalize hans:decide (∀ i,i<k→vI (lo i) (hi i)=true)=ans
 have HA:Hid (ans=decide (∀ i,i<k→vI (lo i) (hi i)=true)):=hans.symm
 clear hans
 go_enter Tryz.func45,Tryz.ntmps45
 go_wp2
 go_loopw [7] (fun i wr=>∃ j:Nat,j≤k∧i=.int .i64 j∧Hid (Bw w wr)∧Hid (∀ i,i<j→vI (lo i) (hi i)=true)) (fun i _=>k - (intOf i).toNat)
 case atStart=>exact⟨0,Nat.zero_le _,rfl,Below.refl _ _,(fun i hi'=>absurd hi' (Nat.not_lt_zero _):∀ i,i<0→vI (lo i) (hi i)=true)⟩
 case round =>
  obtain⟨j,hj,rfl,hB,hok⟩:=hrel
  by_cases hjk:j<k
  ·have a0:wr.cell? ⟨g,j*2,none⟩=some (.float .f64 (lo j)):=(hB.out.cell (World.block_lt_of_cell? _ _ (h0 j hjk))).trans (h0 j hjk)
   have a1:wr.cell? ⟨g,j*2+1,none⟩=some (.float .f64 (hi j)):=(hB.out.cell (World.block_lt_of_cell? _ _ (h1 j hjk))).trans (h1 j hjk)
   have hg:g<wr.heap.size:=World.block_lt_of_cell? _ _ a0
   have hji:(j:Int)<(k:Int):=by omega
   clear h0 h1
   have k18:=svalid (lo j) (hi j) (b0 j) (b1 j) (wr.alloc (.cells #[.float .f64 (lo j),.float .f64 (hi j)] 24))
   generalize hokj:vI (lo j) (hi j)=okj at *
   have HOK:Hid (vI (lo j) (hi j)=okj):=hokj
   clear hokj b0 b1
   go_wp2_with fail
   refine k18.mono ?_
   rintro r w1 ⟨rfl,hw1⟩
   have HB1:Hid (Bw w w1):=(hB.out.alloc hB.out.size _).trans (hw1.mono (by have:=hB.out.size;simp;omega))
   clear hw1 k18
   cases okj
   ·go_wp2
    go_ret
    refine⟨congrArg Ending.returned (congrArg Value.bool ?_),HB1.out⟩
    rw[HA.out,decide_eq_false]
    intro h
    have:=h j hjk
    rw[HOK.out] at this
    exact absurd this (by decide)
   ·go_wp2
    exact⟨⟨j+1,by omega,by simp,HB1,(fun i hi'=>by
     by_cases e1:i=j
     ·subst e1;exact HOK.out
     ·exact hok.out i (by omega):∀ i,i<j+1→vI (lo i) (hi i)=true)⟩,by simp[intOf];omega⟩
  ·obtain rfl:j=k:=by omega
   clear h0 h1
   go_wp2
   go_ret
   refine⟨congrArg Ending.returned (congrArg Value.bool ?_),hB.out⟩
   rw[HA.out,decide_eq_true hok.out]
theorem box_cells_2x2 {w:World} {g:Nat} {a b c d:Value} {T:TypeId} (h:w.heap[g]?=some (.cells #[a,b,c,d] T (0,0))):w.cell? ⟨g,0,none⟩=some a∧w.cell? ⟨g,1,none⟩=some b∧w.cell? ⟨g,2,none⟩=some c∧w.cell? ⟨g,3,none⟩=some d:=by
 simp[World.cell?,h]
theorem smaybe {a b c d g:Nat} {T:TypeId} {w:World} (h:w.heap[g]?=some (.cells #[.float .f64 a,.float .f64 b,.float .f64 c,.float .f64 d] T (0,0)))
  (ha:a<18446744073709551616) (hb:b<18446744073709551616) (hc:c<18446744073709551616) (hd:d<18446744073709551616) :
  Calls Tryz.prog 45 #[.slice (some ⟨g,0,none⟩) 2 2] w fun r w'=>r=.returned (.bool (vI a b&&vI c d))∧Bw w w':=by
 obtain⟨x0,x1,x2,x3⟩:=box_cells_2x2 h
 have k:=smaybe_1 g 2 (fun i=>if i=0 then a else c) (fun i=>if i=0 then b else d) w (by omega)
  (fun i hi=>by rcases(show i=0∨i=1 by omega)with rfl|rfl;exact x0;exact x2)
  (fun i hi=>by rcases(show i=0∨i=1 by omega)with rfl|rfl;exact x1;exact x3)
  (fun i=>by split <;> assumption) (fun i=>by split <;> assumption)
 have e:decide (∀ i,i<2→vI (if i=0 then a else c) (if i=0 then b else d)=true)=(vI a b&&vI c d):=by
  rw[Bool.eq_iff_iff,decide_eq_true_eq,Bool.and_eq_true]
  constructor
  ·intro h
   exact⟨h 0 (by omega),h 1 (by omega)⟩
  ·rintro⟨h1,h2⟩ i hi
   rcases(show i=0∨i=1 by omega)with rfl|rfl
   ·exact h1
   ·exact h2
 rw[e] at k
 exact k
theorem iv_info:(Tryz.prog.info? 24).map (·.size)=some 2:=by kernel_rfl
theorem sall (w:World):Calls Tryz.prog 12 #[] w fun r w'=>r=.returned (.agg #[.float .f64 18442240474082181120,.float .f64 9218868437227405312])∧Bw w w':=by
 go_enter Tryz.func12,Tryz.ntmps12
 go_wp2_with (first|(go_at_call 40;first|(with_reducible refine(cinf_p _).mono ?_;rintro r w' ⟨rfl,rfl⟩)|(with_reducible refine(cinf_m _).mono ?_;rintro r w' ⟨rfl,rfl⟩)))
 refine bodyPost_ret (results_cell_row rfl _ _ w.heap.size 24 #[.float .f64 18442240474082181120,.float .f64 9218868437227405312] (0,0) _ rfl (heap_alloc_new _ _) Tryz.underlying24 rfl iv_info) rfl ?_
 exact⟨rfl,(Below.refl _ _).alloc (Nat.le_refl _) _⟩
theorem sbetween (a b:Nat) (w:World) (ha:a<18446744073709551616) (hb:b<18446744073709551616):Calls Tryz.prog 36 #[.float .f64 a,.float .f64 b] w fun r w'=>r=.returned (.agg #[.float .f64 (pl a),.float .f64 (pl b)])∧Bw w w':=by
 have k1:=ppl a ha
 have k2:=ppl b hb
 generalize pl a=A at *
 generalize pl b=C at *
 go_enter Tryz.func36,Tryz.ntmps36
 go_wp2_with (first|(go_at_call 64;first|(with_reducible refine(k1 _).mono ?_;rintro r w' ⟨rfl,rfl⟩)|(with_reducible refine(k2 _).mono ?_;rintro r w' ⟨rfl,rfl⟩)))
 refine bodyPost_ret (results_cell_row rfl _ _ w.heap.size 24 #[.float .f64 A,.float .f64 C] (0,0) _ rfl (heap_alloc_new _ _) Tryz.underlying24 rfl iv_info) rfl ?_
 exact⟨rfl,(Below.refl _ _).alloc (Nat.le_refl _) _⟩
attribute [local go_sem] run_store_flt
theorem shas_1 (lo hi f:Nat) (v i p q:Bool) (w:World)
  (k1:∀ W,Calls Tryz.prog 9 #[.agg #[.float .f64 lo,.float .f64 hi]] W fun r w'=>r=.returned (.bool v)∧Bw W w')
  (k2:∀ W,Calls Tryz.prog 38 #[.float .f64 f,.int .i64 0] W fun r w'=>r=.returned (.bool i)∧w'=W)
  (o1:(FloatKind.f64.format.order lo f==some Ordering.lt||FloatKind.f64.format.order lo f==some Ordering.eq)=p) (o2:(FloatKind.f64.format.order f hi==some Ordering.lt||FloatKind.f64.format.order f hi==some Ordering.eq)=q) :
  Calls Tryz.prog 19 #[.agg #[.float .f64 lo,.float .f64 hi],.float .f64 f] w fun r w'=>r=.returned (.bool (v && !i&&p&&q))∧Bw w w':=by
 obtain⟨W,hW⟩:∃ W,W=w.alloc (.cells #[.float .f64 lo,.float .f64 hi] 24):=⟨_,rfl⟩
 have HX:Hid (Bw w W∧W.heap[w.heap.size]?=some (.cells #[.float .f64 lo,.float .f64 hi] 24 (0,0))):=⟨by rw[hW];exact(Below.refl _ _).alloc (Nat.le_refl _) _,by rw[hW];exact heap_alloc_new _ _⟩
 have HK:Hid (∀ w',Bw W w'→w'.cell? ⟨w.heap.size,0,none⟩=some (.float .f64 lo)∧w'.cell? ⟨w.heap.size,1,none⟩=some (.float .f64 hi)):=fun w' hb=>box_cells2 (box_later HX.out.2 hb (lt_of_box HX.out.2))
 obtain⟨c0,c1⟩:=HK.out W (Below.refl _ _)
 have kv:=k1 W
 clear k1
 go_enter Tryz.func19,Tryz.ntmps19
 go_upto_region 1 with fail
 rw[←hW]
 clear hW
 go_wp2_with fail
 refine kv.mono ?_
 rintro r w1 ⟨rfl,hb1⟩
 clear c0 c1
 obtain⟨c0,c1⟩:=HK.out w1 hb1
 have HB:Hid (Bw w w1):=HX.out.1.trans (hb1.mono HX.out.1.size)
 clear hb1 HK HX kv
 cases v <;> cases i <;> cases p
 all_goals
  go_wp2_with (first|(go_at_call 38;refine(k2 _).mono ?_;rintro r w' ⟨rfl,rfl⟩))
  go_ret
  exact⟨rfl,HB.out⟩
def hI (lo hi f:Nat):Bool:=vI lo hi && !lt 9218868437227405311 (mag f)&&le lo f&&le f hi
theorem shas (lo hi f:Nat) (h1:lo<18446744073709551616) (h2:hi<18446744073709551616) (h3:f<18446744073709551616) (w:World) :
  Calls Tryz.prog 19 #[.agg #[.float .f64 lo,.float .f64 hi],.float .f64 f] w fun r w'=>r=.returned (.bool (hI lo hi f))∧Bw w w' :=
 shas_1 lo hi f _ _ _ _ w (fun W=>svalid lo hi h1 h2 W) (fun W=>c123 f h3 W) (ord_le lo f h1 h3) (ord_le f hi h3 h2)
theorem dhas_1 (lo hi f:Nat) (v i j p q:Bool) (w:World)
  (k1:∀ W,Calls Tryz.prog 10 #[.agg #[.float .f64 lo,.float .f64 hi]] W fun r w'=>r=.returned (.bool v)∧Bw W w')
  (o3:(FloatKind.f64.format.order f 18442240474082181119==some Ordering.gt||FloatKind.f64.format.order f 18442240474082181119==some Ordering.eq)=i) (o4:(FloatKind.f64.format.order f 9218868437227405311==some Ordering.lt||FloatKind.f64.format.order f 9218868437227405311==some Ordering.eq)=j) (o1:(FloatKind.f64.format.order lo f==some Ordering.lt||FloatKind.f64.format.order lo f==some Ordering.eq)=p) (o2:(FloatKind.f64.format.order f hi==some Ordering.lt||FloatKind.f64.format.order f hi==some Ordering.eq)=q) :
  Calls Tryz.prog 20 #[.agg #[.float .f64 lo,.float .f64 hi],.float .f64 f] w fun r w'=>r=.returned (.bool (v&&i&&j&&p&&q))∧Bw w w':=by
 obtain⟨W,hW⟩:∃ W,W=w.alloc (.cells #[.float .f64 lo,.float .f64 hi] 24):=⟨_,rfl⟩
 have HX:Hid (Bw w W∧W.heap[w.heap.size]?=some (.cells #[.float .f64 lo,.float .f64 hi] 24 (0,0))):=⟨by rw[hW];exact(Below.refl _ _).alloc (Nat.le_refl _) _,by rw[hW];exact heap_alloc_new _ _⟩
 have HK:Hid (∀ w',Bw W w'→w'.cell? ⟨w.heap.size,0,none⟩=some (.float .f64 lo)∧w'.cell? ⟨w.heap.size,1,none⟩=some (.float .f64 hi)):=fun w' hb=>box_cells2 (box_later HX.out.2 hb (lt_of_box HX.out.2))
 obtain⟨c0,c1⟩:=HK.out W (Below.refl _ _)
 have kv:=k1 W
 clear k1
 go_enter Tryz.func20,Tryz.ntmps20
 go_upto_region 1 with fail
 rw[←hW]
 clear hW
 go_wp2_with fail
 refine kv.mono ?_
 rintro r w1 ⟨rfl,hb1⟩
 clear c0 c1
 obtain⟨c0,c1⟩:=HK.out w1 hb1
 have HB:Hid (Bw w w1):=HX.out.1.trans (hb1.mono HX.out.1.size)
 clear hb1 HK HX kv
 cases v <;> cases i <;> cases j <;> cases p
 all_goals
  go_wp2
  go_ret
  exact⟨rfl,HB.out⟩
theorem hI_d (lo hi f:Nat) (h3:f<18446744073709551616):hI lo hi f=(vI lo hi&&le 18442240474082181119 f&&le f 9218868437227405311&&le lo f&&le f hi):=by
 unfold hI
 cases hn:isNaN f
 ·have e:(!lt 9218868437227405311 (mag f))=(le 18442240474082181119 f&&le f 9218868437227405311):=by
   have hm:isNaN (mag f)=false:=by
    have h':¬ 9218868437227405312<mag f:=of_decide_eq_false hn
    unfold isNaN
    rw[show mag (mag f)=mag f by unfold mag;omega]
    exact decide_eq_false h'
   have hs:stp (mag f)=(mag f:Int):=by
    unfold stp sgn neg
    rw[show mag (mag f)=mag f by unfold mag;omega,if_neg (by have:=mag_lt f;simp;omega)]
   unfold lt le
   rw[hn,hm,hs,show isNaN 18442240474082181119=false by decide,show isNaN 9218868437227405311=false by decide,show stp 18442240474082181119 = -9218868437227405311 by decide,show stp 9218868437227405311=9218868437227405311 by decide]
   simp only[Bool.not_false,Bool.true_and]
   rw[←decide_not,←Bool.decide_and]
   refine decide_eq_decide.2 ?_
   unfold stp sgn
   have:=mag_lt f
   split <;> omega
  rw[Bool.and_assoc (vI lo hi) (le 18442240474082181119 f),e]
 ·have e:le lo f=false:=by unfold le;rw[hn];simp
  rw[e]
  simp
theorem dhas (lo hi f:Nat) (h1:lo<18446744073709551616) (h2:hi<18446744073709551616) (h3:f<18446744073709551616) (w:World) :
  Calls Tryz.prog 20 #[.agg #[.float .f64 lo,.float .f64 hi],.float .f64 f] w fun r w'=>r=.returned (.bool (hI lo hi f))∧Bw w w':=by
 rw[hI_d lo hi f h3]
 exact dhas_1 lo hi f _ _ _ _ _ w (fun W=>d8valid lo hi h1 h2 W) (ord_ge f _ h3 (by omega)) (ord_le f _ h3 (by omega)) (ord_le lo f h1 h3) (ord_le f hi h3 h2)
theorem swithin_1 (a b c d:Nat) (v p q:Bool) (w:World)
  (k1:∀ W g T,W.heap[g]?=some (.cells #[.float .f64 a,.float .f64 b,.float .f64 c,.float .f64 d] T (0,0))→Calls Tryz.prog 45 #[.slice (some ⟨g,0,none⟩) 2 2] W fun r w'=>r=.returned (.bool v)∧Bw W w')
  (o1:(FloatKind.f64.format.order c a==some Ordering.lt||FloatKind.f64.format.order c a==some Ordering.eq)=p) (o2:(FloatKind.f64.format.order b d==some Ordering.lt||FloatKind.f64.format.order b d==some Ordering.eq)=q) :
  Calls Tryz.prog 21 #[.agg #[.float .f64 a,.float .f64 b],.agg #[.float .f64 c,.float .f64 d]] w fun r w'=>r=.returned (.bool (v&&p&&q))∧Bw w w':=by
 obtain⟨W,hW⟩:∃ W,W=(w.alloc (.cells #[.float .f64 a,.float .f64 b] 24)).alloc (.cells #[.float .f64 c,.float .f64 d] 24):=⟨_,rfl⟩
 have HX:Hid (Bw w W∧W.heap[w.heap.size]?=some (.cells #[.float .f64 a,.float .f64 b] 24 (0,0))∧W.heap[w.heap.size+1]?=some (.cells #[.float .f64 c,.float .f64 d] 24 (0,0))):=⟨by rw[hW];exact((Below.refl _ _).alloc (Nat.le_refl _) _).alloc (by simp) _,by rw[hW];exact(Below.heap_alloc _ _ _ (by simp)).trans (heap_alloc_new _ _),by rw[hW];have:=heap_alloc_new (w.alloc (.cells #[.float .f64 a,.float .f64 b] 24)) (.cells #[.float .f64 c,.float .f64 d] 24);simpa using this⟩
 have HK:Hid (∀ w',Bw W w'→(w'.cell? ⟨w.heap.size,0,none⟩=some (.float .f64 a)∧w'.cell? ⟨w.heap.size,1,none⟩=some (.float .f64 b))∧(w'.cell? ⟨w.heap.size+1,0,none⟩=some (.float .f64 c)∧w'.cell? ⟨w.heap.size+1,1,none⟩=some (.float .f64 d))):=fun w' hb=>⟨box_cells2 (box_later HX.out.2.1 hb (lt_of_box HX.out.2.1)),box_cells2 (box_later HX.out.2.2 hb (lt_of_box HX.out.2.2))⟩
 obtain⟨⟨c0,c1⟩,c2,c3⟩:=HK.out W (Below.refl _ _)
 have H1:Hid _:=k1
 clear k1
 go_enter Tryz.func21,Tryz.ntmps21
 go_upto_region 1 with fail
 rw[←hW]
 clear hW
 go_wp2_with fail
 refine(H1.out _ _ _ (heap_alloc_new _ _)).mono ?_
 rintro r w1 ⟨rfl,hb1⟩
 clear c0 c1 c2 c3
 have hb2:Bw W w1:=((Below.refl _ _).alloc (Nat.le_refl _) _).trans (hb1.mono (by simp))
 obtain⟨⟨c0,c1⟩,c2,c3⟩:=HK.out w1 hb2
 have HB:Hid (Bw w w1):=HX.out.1.trans (hb2.mono HX.out.1.size)
 clear hb1 hb2 HK HX H1
 cases v <;> cases p
 all_goals
  go_wp2
  go_ret
  exact⟨rfl,HB.out⟩
def wI (a b c d:Nat):Bool:=vI a b&&vI c d&&le c a&&le b d
theorem swithin (a b c d:Nat) (ha:a<18446744073709551616) (hb:b<18446744073709551616) (hc:c<18446744073709551616) (hd:d<18446744073709551616) (w:World) :
  Calls Tryz.prog 21 #[.agg #[.float .f64 a,.float .f64 b],.agg #[.float .f64 c,.float .f64 d]] w fun r w'=>r=.returned (.bool (wI a b c d))∧Bw w w' :=
 swithin_1 a b c d _ _ _ w (fun W g T h=>smaybe h ha hb hc hd) (ord_le c a hc ha) (ord_le b d hb hd)
theorem dwithin_1 (a b c d:Nat) (u v p q:Bool) (w:World)
  (k1:∀ W,Calls Tryz.prog 10 #[.agg #[.float .f64 a,.float .f64 b]] W fun r w'=>r=.returned (.bool u)∧Bw W w')
  (k2:∀ W,Calls Tryz.prog 10 #[.agg #[.float .f64 c,.float .f64 d]] W fun r w'=>r=.returned (.bool v)∧Bw W w')
  (o1:(FloatKind.f64.format.order c a==some Ordering.lt||FloatKind.f64.format.order c a==some Ordering.eq)=p) (o2:(FloatKind.f64.format.order b d==some Ordering.lt||FloatKind.f64.format.order b d==some Ordering.eq)=q) :
  Calls Tryz.prog 22 #[.agg #[.float .f64 a,.float .f64 b],.agg #[.float .f64 c,.float .f64 d]] w fun r w'=>r=.returned (.bool (u&&v&&p&&q))∧Bw w w':=by
 obtain⟨W,hW⟩:∃ W,W=(w.alloc (.cells #[.float .f64 a,.float .f64 b] 24)).alloc (.cells #[.float .f64 c,.float .f64 d] 24):=⟨_,rfl⟩
 have HX:Hid (Bw w W∧W.heap[w.heap.size]?=some (.cells #[.float .f64 a,.float .f64 b] 24 (0,0))∧W.heap[w.heap.size+1]?=some (.cells #[.float .f64 c,.float .f64 d] 24 (0,0))):=⟨by rw[hW];exact((Below.refl _ _).alloc (Nat.le_refl _) _).alloc (by simp) _,by rw[hW];exact(Below.heap_alloc _ _ _ (by simp)).trans (heap_alloc_new _ _),by rw[hW];have:=heap_alloc_new (w.alloc (.cells #[.float .f64 a,.float .f64 b] 24)) (.cells #[.float .f64 c,.float .f64 d] 24);simpa using this⟩
 have HK:Hid (∀ w',Bw W w'→(w'.cell? ⟨w.heap.size,0,none⟩=some (.float .f64 a)∧w'.cell? ⟨w.heap.size,1,none⟩=some (.float .f64 b))∧(w'.cell? ⟨w.heap.size+1,0,none⟩=some (.float .f64 c)∧w'.cell? ⟨w.heap.size+1,1,none⟩=some (.float .f64 d))):=fun w' hb=>⟨box_cells2 (box_later HX.out.2.1 hb (lt_of_box HX.out.2.1)),box_cells2 (box_later HX.out.2.2 hb (lt_of_box HX.out.2.2))⟩
 obtain⟨⟨c0,c1⟩,c2,c3⟩:=HK.out W (Below.refl _ _)
 have kv:=k1 W
 have H2:Hid _:=k2
 clear k1 k2
 go_enter Tryz.func22,Tryz.ntmps22
 go_upto_region 1 with fail
 rw[←hW]
 clear hW
 go_wp2_with fail
 refine kv.mono ?_
 rintro r w1 ⟨rfl,hb1⟩
 clear c0 c1 c2 c3 kv
 obtain⟨⟨c0,c1⟩,c2,c3⟩:=HK.out w1 hb1
 cases u
 ·have HB:Hid (Bw w w1):=HX.out.1.trans (hb1.mono HX.out.1.size)
  clear hb1 HK HX H2
  go_wp2
  go_ret
  exact⟨rfl,HB.out⟩
 have kv:=H2.out w1
 have HB1:Hid (Bw W w1):=hb1
 clear hb1
 go_wp2_with fail
 refine kv.mono ?_
 rintro r w2 ⟨rfl,hb2⟩
 clear c0 c1 c2 c3 kv
 have hb3:Bw W w2:=HB1.out.trans (hb2.mono HB1.out.size)
 obtain⟨⟨c0,c1⟩,c2,c3⟩:=HK.out w2 hb3
 have HB:Hid (Bw w w2):=HX.out.1.trans (hb3.mono HX.out.1.size)
 clear hb2 hb3 HK HX H2 HB1
 cases v <;> cases p
 all_goals
  go_wp2
  go_ret
  exact⟨rfl,HB.out⟩
theorem dwithin (a b c d:Nat) (ha:a<18446744073709551616) (hb:b<18446744073709551616) (hc:c<18446744073709551616) (hd:d<18446744073709551616) (w:World) :
  Calls Tryz.prog 22 #[.agg #[.float .f64 a,.float .f64 b],.agg #[.float .f64 c,.float .f64 d]] w fun r w'=>r=.returned (.bool (wI a b c d))∧Bw w w' :=
 dwithin_1 a b c d _ _ _ _ w (fun W=>d8valid a b ha hb W) (fun W=>d8valid c d hc hd W) (ord_le c a hc ha) (ord_le b d hb hd)
end Go.Proofs.YtclmbahhojdfcaaGreatDoor
