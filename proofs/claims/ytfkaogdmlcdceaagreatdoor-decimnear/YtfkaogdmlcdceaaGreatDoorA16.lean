/- Own work: contracts of the program's functions, part 16: DUD DUE DUF DUG DSP DUH DRI DRK DRL DRJ DRN DRO DRP DRQ DRR DRS DRT DUI DUJ DSQ DUK DUL DUM DUN DUO DUP DUQ DUR DUS DUT DTA DUU DUV DUW DUX DUY DUZ DVB DVA. -/
import Derived.Test.YtfkaogdmlcdceaaGreatDoorA15
import Derived.Test.YtfkaogdmlcdceaaGreatDoorA12
import Derived.Test.YtfkaogdmlcdceaaGreatDoorA13

set_option maxHeartbeats 16000000
set_option maxRecDepth 200000
set_option linter.unusedVariables false
set_option linter.unusedSimpArgs false
namespace Go.Proofs.YtfkaogdmlcdceaaGreatDoor
open Go Go.RowKit Go.Fl64
theorem nr_near {Z a:Nat} (hZ:Z≠0) (h0:0<a) (h:a<9218868437227405312):nrF (Z:Int)=a↔RdN a Z 1:=by
 have hkP:=kP_eq
 have hkQ:=kQ_n
 have hs:=(tz_spec _ _ (Nat.le_refl _) hZ).1
 have hx:Z / 2^tz Z≠0:=by intro h9;rw[h9,Nat.mul_zero] at hs;omega
 unfold nrF
 rw[un_partsB Z kQ hZ]
 rw[Nat.mul_comm] at hs
 generalize Z / 2^tz Z=x at *
 generalize tz Z=t at *
 generalize kQ=Q at *
 generalize kP=p at *
 obtain⟨K,hK⟩:∃ K:Nat,K=70000:=⟨_,rfl⟩
 show tfF false true x ((t:Int) - (Q:Int)) 2=a↔_
 rw[tf_bdy (by omega),sig_f]
 show bdy _ _ 1=a↔_
 rw[bdy_near (K:=K) (by omega) hx (by omega) h0 h,←RdN.scale (c:=a) (P:=Z) (Q:=1) (k:=UU K) (UU_pos K),Nat.one_mul]
 have e:2*VA K x ((t:Int) - (Q:Int))=Z*UU K:=by
  unfold VA UU
  rw[←hs]
  have e1:2*(x*2^((t:Int) - (Q:Int)+(K:Int)).toNat)=x*2^(((t:Int) - (Q:Int)+(K:Int)).toNat+1):=by rw[Nat.pow_succ];ac_rfl
  rw[e1,Nat.mul_assoc,←Nat.pow_add,pe (show((t:Int) - (Q:Int)+(K:Int)).toNat+1=t+(K - 1074) by omega)]
 rw[e]
theorem nr_le {Z:Nat} (hZ:Z≠0):nrF (Z:Int)≤9218868437227405312:=by
 unfold nrF
 rw[un_partsB Z kQ hZ]
 show tfF false true _ _ 2≤_
 rw[tf_bdy (by omega),sig_f]
 exact bdy_le _ _ _
theorem isR_near {Z a:Nat} (hZ:Z≠0) (h0:0<a) (h:a<9218868437227405312):isR (Z:Int) a=true↔RdN a Z 1:=by
 have hl:=nr_le hZ
 rw[←nr_near hZ h0 h]
 unfold isR
 rw[ord_eq _ a (by omega) (by omega),eq_pos hl (by omega)]
 exact decide_eq_true_iff
theorem isR_lo {a:Nat} (h0:0<a) (h:a<9218868437227405312):isR (loZ a) a=decide (a % 2=0):=by
 have m1:bv (a - 1)<bv a:=bv_lt (by omega)
 have m2:bv a<bv (a+1):=bv_succ a
 rw[loZ_bv h0 h]
 have:=isR_near (Z:=bv (a - 1)+bv a) (by omega) h0 h
 unfold RdN at this
 rw[Bool.eq_iff_iff,this,decide_eq_true_iff]
 constructor
 ·rintro⟨h1|h1,-⟩ <;> omega
 ·intro h1;exact⟨.inr (by omega),.inl (by omega)⟩
theorem isR_hi {a:Nat} (h0:0<a) (h:a<9218868437227405312):isR (hiZ a) a=decide (a % 2=0):=by
 have m1:bv (a - 1)<bv a:=bv_lt (by omega)
 have m2:bv a<bv (a+1):=bv_succ a
 rw[hiZ_bv h]
 have:=isR_near (Z:=bv a+bv (a+1)) (by omega) h0 h
 unfold RdN at this
 rw[Bool.eq_iff_iff,this,decide_eq_true_iff]
 constructor
 ·rintro⟨-,h1|h1⟩ <;> omega
 ·intro h1;exact⟨.inl (by omega),.inr (by omega)⟩
theorem exq_nat (Z a:Nat):exq (Z:Int) a=decide (Z*shO a % (shU a*2^kQ)=0):=by
 unfold exq
 rw[←Int.natCast_mul,←Int.natCast_emod]
 exact decide_eq_decide.2 (by omega)
theorem lo_pure {p d N:Nat} {ev:Prop} [Decidable ev] (hd:0<d):(if(decide (p % d=0)&&decide ev)=true then p / d else p / d+1)≤N↔p<N*d∨(p=N*d∧ev):=by
 have hp:=Nat.div_add_mod p d
 have hm:=Nat.mod_lt p hd
 by_cases c:p % d=0∧ev
 ·rw[if_pos (by simpa using c)]
  have e:p / d*d=p:=Nat.div_mul_cancel (Nat.dvd_of_mod_eq_zero c.1)
  constructor
  ·intro h
   have:=Nat.mul_le_mul_right d h
   rw[e] at this
   rcases Nat.lt_or_ge p (N*d)with h1|h1
   ·exact .inl h1
   ·exact .inr ⟨by omega,c.2⟩
  ·intro h
   refine Nat.le_of_mul_le_mul_right (c:=d) ?_ hd
   rw[e]
   rcases h with h|⟨h,-⟩ <;> omega
 ·rw[if_neg (by simpa using c)]
  have h1:p / d+1≤N↔p<N*d:=Nat.div_lt_iff_lt_mul hd
  rw[h1]
  constructor
  ·exact .inl
  ·rintro(h2|⟨h2,h3⟩)
   ·exact h2
   ·exfalso;exact c ⟨by rw[h2];exact Nat.mul_mod_left _ _,h3⟩
theorem hi_pure {p d N:Nat} {ev:Prop} [Decidable ev] (hd:0<d) (h0:0<p / d):N≤(if(decide (p % d=0) && !decide ev)=true then p / d - 1 else p / d)↔N*d<p∨(N*d=p∧ev):=by
 by_cases c:p % d=0∧¬ ev
 ·rw[if_pos (by simpa using c)]
  have e:p / d*d=p:=Nat.div_mul_cancel (Nat.dvd_of_mod_eq_zero c.1)
  constructor
  ·intro h
   left
   have h1:N<p / d:=by omega
   have:=Nat.mul_lt_mul_of_pos_right h1 hd
   rwa [e] at this
  ·rintro(h|⟨-,h⟩)
   ·rw[←e] at h
    have:=Nat.lt_of_mul_lt_mul_right h
    omega
   ·exact absurd h c.2
 ·rw[if_neg (by simpa using c),Nat.le_div_iff_mul_le hd]
  constructor
  ·intro h
   rcases Nat.lt_or_ge (N*d) p with h1|h1
   ·exact .inl h1
   ·right
    refine⟨by omega,?_⟩
    have h2:p % d=0:=by rw[show p=N*d by omega];exact Nat.mul_mod_left _ _
    exact Classical.byContradiction fun h3=>c ⟨h2,h3⟩
  ·rintro(h|⟨h,-⟩) <;> omega
theorem shL_iff {a N:Nat} (h0:0<a) (h:a<9218868437227405312):shL a≤N↔(bv (a - 1)+bv a)*shO a<N*(shU a*2^kQ)∨((bv (a - 1)+bv a)*shO a=N*(shU a*2^kQ)∧a % 2=0):=by
 have hd:0<shU a*2^kQ:=Nat.mul_pos (Nat.pow_pos (by decide)) (twB_pos _)
 have e1:shN a=(bv (a - 1)+bv a)*shO a / (shU a*2^kQ):=by unfold shN;rw[loZ_bv h0 h,flQ_nat,Int.toNat_natCast]
 unfold shL
 rw[e1,isR_lo h0 h,loZ_bv h0 h,exq_nat,lo_pure hd]
theorem shH_iff {a N:Nat} (h0:0<a) (h:a<9218868437227405312):N≤shH a↔N*(shU a*2^kQ)<(bv a+bv (a+1))*shO a∨(N*(shU a*2^kQ)=(bv a+bv (a+1))*shO a∧a % 2=0):=by
 have hhi:=(shOk h0 h).hi
 have hd:0<shU a*2^kQ:=Nat.mul_pos (Nat.pow_pos (by decide)) (twB_pos _)
 have e2:shM a=(bv a+bv (a+1))*shO a / (shU a*2^kQ):=by unfold shM;rw[hiZ_bv h,flQ_nat,Int.toNat_natCast]
 have e3:0<(bv a+bv (a+1))*shO a / (shU a*2^kQ):=by
  rw[hiZ_bv h,flQ_nat] at hhi
  exact Int.natCast_pos.1 hhi
 unfold shH
 rw[e2,isR_hi h0 h,hiZ_bv h,exq_nat,hi_pure hd e3]
theorem sh_iff {a N:Nat} (h0:0<a) (h:a<9218868437227405312):(shL a≤N∧N≤shH a)↔RdN a (N*(shU a*2^kQ)) (shO a):=by
 rw[shL_iff h0 h,shH_iff h0 h,RdN]
theorem gap53 (b:Nat):bv (b+1)≤9007199254740992*(bv (b+1) - bv b):=by
 have hg:=bv_gapS b
 by_cases h:b<4503599627370496
 ·have e1:=bv_at (j:=0) (q:=b+1) (.inl ⟨rfl,by omega⟩)
  rw[show max 1 (b / 4503599627370496) - 1=0 by omega] at hg
  simp at e1 hg
  omega
 ·have e1:=bv_at (j:=b / 4503599627370496 - 1) (q:=4503599627370496+b % 4503599627370496+1) (.inr ⟨by omega,by omega⟩)
  rw[show(b / 4503599627370496 - 1)*4503599627370496+(4503599627370496+b % 4503599627370496+1)=b+1 by omega] at e1
  rw[show max 1 (b / 4503599627370496) - 1=b / 4503599627370496 - 1 by omega] at hg
  rw[show bv (b+1) - bv b=2^(b / 4503599627370496 - 1) by rw[hg,Nat.add_sub_cancel_left],e1]
  exact Nat.mul_le_mul_right _ (by omega)
theorem gapN {x y O d g:Nat} (h:x≤9007199254740992*y) (hg:10000000000000000*d≤x*O) (hd:0<d):d<y*O:=by
 have h1:x*O≤9007199254740992*(y*O):=by rw[←Nat.mul_assoc];exact Nat.mul_le_mul_right _ h
 omega
theorem sh17 {a:Nat} (h0:0<a) (h:a<9218868437227405312):shL a≤shG a∨shG a+1≤shH a:=by
 obtain⟨g1,-⟩:=shG_b h0 h
 have hd:0<shU a*2^kP:=Nat.mul_pos (Nat.pow_pos (by decide)) (twB_pos _)
 rw[shL_iff h0 h,shH_iff h0 h,kQ_q]
 have m1:bv (a - 1)<bv a:=bv_lt (by omega)
 have m2:bv a<bv (a+1):=bv_succ a
 have q1:=gap53 (a - 1)
 have q2:=gap53 a
 rw[show a - 1+1=a by omega] at q1
 have hdm:=Nat.div_add_mod (bv a*shO a) (shU a*2^kP)
 have hm:=Nat.mod_lt (bv a*shO a) hd
 have hG:bv a*shO a / (shU a*2^kP)=shG a:=rfl
 rw[hG] at hdm
 generalize shG a=G at *
 generalize shU a*2^kP=d at *
 have hN:10000000000000000*d≤bv a*shO a:=by
  have:10000000000000000*d≤G*d:=Nat.mul_le_mul_right _ g1
  rw[Nat.mul_comm d G] at hdm
  omega
 have k1:=gapN (g:=0) q1 hN hd
 have k2:=gapN (x:=bv a) (y:=bv (a+1) - bv a) (g:=0) (by omega) hN hd
 obtain⟨u,hu⟩:∃ u,bv a=bv (a - 1)+u:=⟨bv a - bv (a - 1),by omega⟩
 obtain⟨v,hv⟩:∃ v,bv (a+1)=bv a+v:=⟨bv (a+1) - bv a,by omega⟩
 rw[show bv a - bv (a - 1)=u by omega] at k1
 rw[show bv (a+1) - bv a=v by omega] at k2
 have e1:(bv (a - 1)+bv a)*shO a+u*shO a=2*(bv a*shO a):=by
  rw[←Nat.add_mul,←Nat.mul_assoc]
  congr 1
  omega
 have e2:(bv a+bv (a+1))*shO a=2*(bv a*shO a)+v*shO a:=by
  rw[←Nat.mul_assoc,←Nat.add_mul]
  congr 1
  omega
 have e3:G*(2*d)=2*(d*G):=by ac_rfl
 have e4:(G+1)*(2*d)=2*(d*G)+2*d:=by rw[Nat.add_mul,e3,Nat.one_mul]
 rw[e2,e3,e4]
 generalize bv a*shO a % d=r at *
 generalize bv a*shO a=N at *
 generalize (bv (a - 1)+bv a)*shO a=L at *
 generalize u*shO a=U' at *
 generalize v*shO a=V' at *
 generalize d*G=dG at *
 rcases Nat.lt_or_ge d (2*r)with hr|hr
 ·right;left;omega
 ·left;left;omega
theorem tenX {a b:Nat} (h:a=b):(10:Nat)^a=10^b:=by rw[h]
theorem tn_cross (k:Int) (j:Nat):tnU k*tnO (k+j)=10^j*tnU (k+j)*tnO k:=by
 unfold tnU tnO
 rw[←Nat.pow_add,←Nat.pow_add,←Nat.pow_add]
 exact tenX (by omega)
def loD (a i:Nat):Nat:=scF (fU a) ((i:Int) - shX a)
def exD (a i:Nat):Bool:=scE (fU a) ((i:Int) - shX a)
def hiD (a i:Nat):Nat:=if exD a i then loD a i else loD a i+1
def Bk (a N:Nat) (k:Int):Prop:=RdN a (N*(tnU k*2^kQ)) (tnO k)
theorem loD_fw {a i:Nat} (hi:i≤16) (h0:0<a) (h:a<9218868437227405312):loD a i*fwU i=fwL (shT a) i:=by
 have h1:=scF_down (fU a) (16 - shX a) (16 - i)
 rw[show 16 - shX a - ((16 - i:Nat):Int)=(i:Int) - shX a by omega] at h1
 have e2:scF (fU a) (16 - shX a)=shG a:=by
  unfold scF shG shO shU
  rw[←kU_kP,fU_bv (by omega)]
 have hT:shT a / 2=shG a:=by
  unfold shT shTz shG
  rw[sZ_bv (by omega),←Int.natCast_mul,←Int.natCast_ediv,Int.toNat_natCast,kP_q,sh_half]
 unfold loD fwL fwU
 rw[h1,e2,hT]
theorem bk_sh {a N i:Nat} (hi:i≤16) (h0:0<a) (h:a<9218868437227405312):Bk a N ((i:Int) - shX a)↔shL a≤N*fwU i∧N*fwU i≤shH a:=by
 rw[sh_iff h0 h]
 unfold Bk shO shU fwU
 have hc:=tn_cross ((i:Int) - shX a) (16 - i)
 rw[show(i:Int) - shX a+((16 - i:Nat):Int)=16 - shX a by omega] at hc
 refine RdN.cross (s:=tnO (16 - shX a)) (t:=tnO ((i:Int) - shX a)) (Nat.pow_pos (by decide)) (Nat.pow_pos (by decide)) ?_ (Nat.mul_comm _ _)
 generalize tnO (16 - shX a)=O at *
 generalize tnU (16 - shX a)=U at *
 generalize tnO ((i:Int) - shX a)=o at *
 generalize tnU ((i:Int) - shX a)=u at *
 generalize 2^kQ=q
 have e1:N*(u*q)*O=N*q*(u*O):=by ac_rfl
 have e2:N*10^(16 - i)*(U*q)*o=N*q*(10^(16 - i)*U*o):=by ac_rfl
 rw[e1,e2,hc]
theorem shG_H {a:Nat} (h0:0<a) (h:a<9218868437227405312):shG a≤shH a∧shL a≤shG a+1:=by
 have hd:0<shU a*2^kP:=Nat.mul_pos (Nat.pow_pos (by decide)) (twB_pos _)
 rw[shL_iff h0 h,shH_iff h0 h,kQ_q]
 have m1:bv (a - 1)<bv a:=bv_lt (by omega)
 have m2:bv a<bv (a+1):=bv_succ a
 have hO:0<shO a:=Nat.pow_pos (by decide)
 have hdm:=Nat.div_add_mod (bv a*shO a) (shU a*2^kP)
 have hm:=Nat.mod_lt (bv a*shO a) hd
 have hG:bv a*shO a / (shU a*2^kP)=shG a:=rfl
 rw[hG] at hdm
 have e1:(bv (a - 1)+bv a)*shO a<2*(bv a*shO a):=by rw[←Nat.mul_assoc];exact Nat.mul_lt_mul_of_pos_right (by omega) hO
 have e2:2*(bv a*shO a)<(bv a+bv (a+1))*shO a:=by rw[←Nat.mul_assoc];exact Nat.mul_lt_mul_of_pos_right (by omega) hO
 generalize shG a=G at *
 generalize shU a*2^kP=d at *
 have e3:G*(2*d)=2*(d*G):=by ac_rfl
 have e4:(G+1)*(2*d)=2*(d*G)+2*d:=by rw[Nat.add_mul,e3,Nat.one_mul]
 rw[e3,e4]
 generalize bv a*shO a % d=r at *
 generalize bv a*shO a=N at *
 generalize (bv (a - 1)+bv a)*shO a=L at *
 generalize (bv a+bv (a+1))*shO a=H at *
 generalize d*G=dG at *
 exact⟨.inl (by omega),.inl (by omega)⟩
theorem shT_G {a:Nat} (h:a<9218868437227405312):shT a / 2=shG a:=by
 unfold shT shTz shG
 rw[sZ_bv (by omega),←Int.natCast_mul,←Int.natCast_ediv,Int.toNat_natCast,kP_q,sh_half]
theorem fwG {a i:Nat} (h:a<9218868437227405312):fwL (shT a) i≤shG a∧shG a+1≤fwL (shT a) i+fwU i:=by
 have e:=shT_G h
 unfold fwL
 rw[e]
 have h1:=Nat.div_add_mod (shG a) (fwU i)
 have h2:=Nat.mod_lt (shG a) (fwU_pos i)
 rw[Nat.mul_comm] at h1
 omega
theorem bk_lo {a i:Nat} (hi:i≤16) (h0:0<a) (h:a<9218868437227405312):Bk a (loD a i) ((i:Int) - shX a)↔shL a≤fwL (shT a) i:=by
 obtain⟨g1,g2⟩:=shG_H h0 h
 obtain⟨f1,f2⟩:=fwG (i:=i) h
 rw[bk_sh hi h0 h,loD_fw hi h0 h]
 exact⟨fun k=>k.1,fun k=>⟨k,by omega⟩⟩
theorem bk_hi {a i:Nat} (hi:i≤16) (h0:0<a) (h:a<9218868437227405312):Bk a (loD a i+1) ((i:Int) - shX a)↔fwL (shT a) i+fwU i≤shH a:=by
 obtain⟨g1,g2⟩:=shG_H h0 h
 obtain⟨f1,f2⟩:=fwG (i:=i) h
 rw[bk_sh hi h0 h,Nat.add_mul,loD_fw hi h0 h,Nat.one_mul]
 exact⟨fun k=>k.2,fun k=>⟨by omega,k⟩⟩
def mdM (a i:Nat):Nat:=2*fwL (shT a) i+fwU i
theorem sc_key {A low r Ok Uk O U K u N d1:Nat} (hA:A*Ok=Uk*(2*K)*low+r) (hc:Uk*O=u*U*Ok) (hN:N=A*O) (hd:d1=U*K) :
  (2*low*u*d1)*(2*Ok)+2*r*O=N*(2*Ok)∧(u*d1)*(2*Ok)=Uk*(2*K)*O:=by
 subst hN hd
 constructor
 ·have e1:A*O*(2*Ok)=2*(A*Ok)*O:=by ac_rfl
  rw[e1,hA,Nat.mul_add,Nat.add_mul]
  have e2:2*(Uk*(2*K)*low)*O=2*(2*K)*low*(Uk*O):=by ac_rfl
  rw[e2,hc]
  congr 1
  ac_rfl
 ·have e3:Uk*(2*K)*O=2*K*(Uk*O):=by ac_rfl
  rw[e3,hc]
  ac_rfl
theorem sc_cmp {Q r O N M d1 Ok low2u ud:Nat} (hO:0<O) (hOk:0<Ok) (h1:low2u*d1*(2*Ok)+2*r*O=N*(2*Ok)) (h2:ud*d1*(2*Ok)=Q*O) (hM:M=low2u+ud):(Q<2*r↔M*d1<N)∧(2*r=Q↔N=M*d1):=by
 have e:M*d1*(2*Ok)=low2u*d1*(2*Ok)+Q*O:=by rw[hM,Nat.add_mul,Nat.add_mul,h2]
 have k1:M*d1<N↔M*d1*(2*Ok)<N*(2*Ok):=(Nat.mul_lt_mul_right (by omega)).symm
 have k2:N=M*d1↔N*(2*Ok)=M*d1*(2*Ok):=⟨fun h=>by rw[h],fun h=>Nat.eq_of_mul_eq_mul_right (by omega) h⟩
 have k3:Q<2*r↔Q*O<2*r*O:=(Nat.mul_lt_mul_right hO).symm
 have k4:2*r=Q↔2*r*O=Q*O:=⟨fun h=>by rw[h],fun h=>Nat.eq_of_mul_eq_mul_right hO h⟩
 rw[k1,k2,k3,k4,e,←h1]
 omega
theorem sc_half {a i:Nat} (hi:i≤16) (h0:0<a) (h:a<9218868437227405312) :
  (tnU ((i:Int) - shX a)*kU<2*scR (fU a) ((i:Int) - shX a)↔mdM a i*(shU a*2^kP1)<bv a*shO a)∧(2*scR (fU a) ((i:Int) - shX a)=tnU ((i:Int) - shX a)*kU↔bv a*shO a=mdM a i*(shU a*2^kP1)):=by
 have hc:=tn_cross ((i:Int) - shX a) (16 - i)
 rw[show(i:Int) - shX a+((16 - i:Nat):Int)=16 - shX a by omega] at hc
 obtain⟨s1,-⟩:=sc_eq (fU a) ((i:Int) - shX a)
 have hl:=loD_fw hi h0 h
 have hO:0<tnO (16 - shX a):=Nat.pow_pos (by decide)
 have hOk:0<tnO ((i:Int) - shX a):=Nat.pow_pos (by decide)
 unfold mdM
 rw[←hl,fU_bv (by omega)] at *
 unfold loD fwU shO shU
 rw[fU_bv (by omega),kP1_half] at *
 generalize scF (bv a) ((i:Int) - shX a)=low at *
 generalize scR (bv a) ((i:Int) - shX a)=r at *
 generalize tnO (16 - shX a)=O at *
 generalize tnU (16 - shX a)=U at *
 generalize tnO ((i:Int) - shX a)=o at *
 generalize tnU ((i:Int) - shX a)=u at *
 generalize 2^kP1=K at *
 obtain⟨k1,k2⟩:=sc_key (A:=bv a) (low:=low) (r:=r) (Ok:=o) (Uk:=u) (O:=O) (U:=U) (K:=K) (u:=10^(16 - i)) s1 hc rfl rfl
 exact sc_cmp hO hOk (low2u:=2*low*10^(16 - i)) (ud:=10^(16 - i)) k1 k2 (by rw[Nat.mul_assoc])
theorem ab_pure {N d M T:Nat} (hd:0<d) (hT:T=N / d):(M*d<N↔M<T∨(T=M∧¬ N % d=0))∧(N=M*d↔T=M∧N % d=0):=by
 have h1:=Nat.div_add_mod N d
 have h2:=Nat.mod_lt N hd
 rw[←hT,Nat.mul_comm] at h1
 have key:∀ x y:Nat,x<y→x*d+d≤y*d:=fun x y hxy=>by
  have:=Nat.mul_le_mul_right d (show x+1≤y from hxy)
  rwa [Nat.add_mul,Nat.one_mul] at this
 rcases Nat.lt_trichotomy M T with c|c|c
 ·have:=key M T c
  constructor <;> constructor
  ·intro _;exact .inl c
  ·intro _;omega
  ·intro _;omega
  ·rintro⟨k,-⟩;omega
 ·subst c
  constructor <;> constructor
  ·intro _;exact .inr ⟨rfl,by omega⟩
  ·rintro(k|⟨-,k⟩) <;> omega
  ·intro _;exact⟨rfl,by omega⟩
  ·rintro⟨-,k⟩;omega
 ·have:=key T M c
  constructor <;> constructor
  ·intro _;omega
  ·rintro(k|⟨k,-⟩) <;> omega
  ·intro _;omega
  ·rintro⟨k,-⟩;omega
theorem shA_doc {a:Nat} (hJ:shJ a≤16) (h0:0<a) (h:a<9218868437227405312):shA a=decide (tnU ((shJ a:Int) - shX a)*kU<2*scR (fU a) ((shJ a:Int) - shX a)∨(2*scR (fU a) ((shJ a:Int) - shX a)=tnU ((shJ a:Int) - shX a)*kU∧loD a (shJ a) % 2=1)):=by
 obtain⟨k1,k2⟩:=sc_half hJ h0 h
 have hl:=loD_fw hJ h0 h
 have hu:=fwU_pos (shJ a)
 have hle:=fwL_le (shT a) (shJ a)
 have hd:0<shU a*2^kP1:=Nat.mul_pos (Nat.pow_pos (by decide)) (twB_pos _)
 have hT:shT a=bv a*shO a / (shU a*2^kP1):=by
  unfold shT shTz
  rw[sZ_bv (by omega),←Int.natCast_mul,←Int.natCast_ediv,Int.toNat_natCast]
 have hI:shI a=decide (bv a*shO a % (shU a*2^kP1)=0):=by
  unfold shI
  rw[sZ_bv (by omega),←Int.natCast_mul,←Int.natCast_emod]
  exact decide_eq_decide.2 (by omega)
 obtain⟨p1,p2⟩:=ab_pure (M:=mdM a (shJ a)) hd hT
 have hq:fwL (shT a) (shJ a) / fwU (shJ a)=loD a (shJ a):=by rw[←hl,Nat.mul_div_cancel _ hu]
 rw[Bool.eq_iff_iff,decide_eq_true_iff,k1,k2,p1,p2]
 unfold shA
 rw[hI,hq]
 unfold mdM
 simp only[Bool.or_eq_true,Bool.and_eq_true,decide_eq_true_iff,Bool.not_eq_true',decide_eq_false_iff_not]
 generalize bv a*shO a % (shU a*2^kP1)=R
 generalize loD a (shJ a)=low
 generalize fwL (shT a) (shJ a)=l at *
 generalize fwU (shJ a)=u at *
 generalize shT a=T at *
 omega
theorem fwS_le (L H T:Nat):∀ n j,n+j=16→fwS L H T n j≤16:=by
 intro n
 induction n with
 | zero=>intro j hj;unfold fwS;omega
 | succ n ih =>
  intro j hj
  unfold fwS
  split
  ·exact ih (j+1) (by omega)
  ·omega
theorem shJ_le (a:Nat):shJ a≤16:=fwS_le _ _ _ 16 0 rfl
theorem shJ_spec {a:Nat} (h0:0<a) (h:a<9218868437227405312):(∀ i,i<shJ a→¬ shL a≤fwL (shT a) i∧¬ fwL (shT a) i+fwU i≤shH a)∧(shL a≤fwL (shT a) (shJ a)∨fwL (shT a) (shJ a)+fwU (shJ a)≤shH a):=by
 obtain⟨s1,s2⟩:=fwS_spec (shL a) (shH a) (shT a) 16 0 rfl (fun i hi=>absurd hi (by omega))
 have hle:=shJ_le a
 refine⟨fun i hi=>?_,?_⟩
 ·have:=s1 i hi
  omega
 ·show shL a≤fwL (shT a) (shJ a)∨_
  by_cases c:1<fwU (shJ a)
  ·have:=fun x=>s2 ⟨c,x⟩
   by_cases d:shL a≤fwL (shT a) (shJ a)
   ·exact .inl d
   ·right
    rcases Nat.lt_or_ge (shH a) (fwL (shT a) (shJ a)+fwU (shJ a))with e|e
    ·exact absurd ⟨by unfold shJ at d;omega,by unfold shJ at e;exact e⟩ this
    ·exact e
  ·have hu:=fwU_pos (shJ a)
   have e1:fwU (shJ a)=1:=by omega
   have e2:fwL (shT a) (shJ a)=shG a:=by
    unfold fwL
    rw[e1,Nat.mul_one,Nat.div_one,shT_G h]
   rw[e1,e2]
   exact sh17 h0 h
theorem ex_lo {a i:Nat} (hi:i≤16) (h0:0<a) (h:a<9218868437227405312) (he:exD a i=true):shL a≤fwL (shT a) i∧scR (fU a) ((i:Int) - shX a)=0:=by
 have hr:scR (fU a) ((i:Int) - shX a)=0:=by
  unfold exD scE at he
  unfold scR
  exact of_decide_eq_true he
 refine⟨?_,hr⟩
 have hc:=tn_cross ((i:Int) - shX a) (16 - i)
 rw[show(i:Int) - shX a+((16 - i:Nat):Int)=16 - shX a by omega] at hc
 obtain⟨s1,-⟩:=sc_eq (fU a) ((i:Int) - shX a)
 have hl:=loD_fw hi h0 h
 have m1:bv (a - 1)<bv a:=bv_lt (by omega)
 have hO:0<tnO (16 - shX a):=Nat.pow_pos (by decide)
 have hOk:0<tnO ((i:Int) - shX a):=Nat.pow_pos (by decide)
 rw[shL_iff h0 h,←hl]
 left
 rw[hr,Nat.add_zero,fU_bv (by omega)] at s1
 unfold loD fwU shO shU
 rw[fU_bv (by omega),kQ_q,kU_kP] at *
 generalize scF (bv a) ((i:Int) - shX a)=low at *
 generalize tnO (16 - shX a)=O at *
 generalize tnU (16 - shX a)=U at *
 generalize tnO ((i:Int) - shX a)=o at *
 generalize tnU ((i:Int) - shX a)=u at *
 generalize kU=K at *
 have e1:low*10^(16 - i)*(2*(U*K))*o=2*bv a*O*o:=by
  have e2:low*10^(16 - i)*(2*(U*K))*o=2*(K*low)*(10^(16 - i)*U*o):=by ac_rfl
  have e3:2*bv a*O*o=2*(bv a*o)*O:=by ac_rfl
  rw[e2,←hc,e3,s1]
  ac_rfl
 have e4:=Nat.eq_of_mul_eq_mul_right hOk e1
 rw[e4]
 exact Nat.mul_lt_mul_of_pos_right (by omega) hO
def bsD (a:Nat):Nat:=if shL a≤fwL (shT a) (shJ a)∧(exD a (shJ a)=true∨¬ (fwL (shT a) (shJ a)+fwU (shJ a)≤shH a∧shA a=true))then loD a (shJ a)else loD a (shJ a)+1
theorem shF_doc {a:Nat} (h0:0<a) (h:a<9218868437227405312):shF a=bsD a*fwU (shJ a):=by
 have hl:=loD_fw (shJ_le a) h0 h
 unfold shF bsD
 by_cases he:exD a (shJ a)=true
 ·obtain⟨k1,k2⟩:=ex_lo (shJ_le a) h0 h he
  have hA:shA a=false:=by
   rw[shA_doc (shJ_le a) h0 h,k2]
   refine decide_eq_false ?_
   have:=tnU_pos ((shJ a:Int) - shX a)
   rintro(h1|⟨h1,-⟩) <;> omega
  have n1:¬ (fwL (shT a) (shJ a)<shL a∨(shA a=true∧fwL (shT a) (shJ a)+fwU (shJ a)≤shH a)):=by
   intro h1
   rcases h1 with h1|h1
   ·omega
   ·rw[hA] at h1;exact absurd h1.1 (by decide)
  rw[if_neg n1,if_pos ⟨k1,.inl he⟩,hl]
 ·by_cases c:shL a≤fwL (shT a) (shJ a)
  ·by_cases d:fwL (shT a) (shJ a)+fwU (shJ a)≤shH a∧shA a=true
   ·rw[if_pos (.inr ⟨d.2,d.1⟩),if_neg (by rintro⟨-,h1|h1⟩;exact he h1;exact h1 d),Nat.add_mul,hl,Nat.one_mul]
   ·rw[if_neg (by rintro(h1|h1);omega;exact d ⟨h1.2,h1.1⟩),if_pos ⟨c,.inr d⟩,hl]
  ·rw[if_pos (.inl (by omega)),if_neg (by rintro⟨h1,-⟩;exact c h1),Nat.add_mul,hl,Nat.one_mul]
theorem dot_nd {b:Int}:isDg 46 b=false:=by unfold isDg;simp
def StopD (b:Int) (dt:Bool) (R:List UInt8):Prop:=R = []∨∃ c R',R=c :: R'∧isDg c.toNat b=false∧(dt=false→c≠46)
def dtL (dt:Bool) (B:List UInt8):List UInt8:=if dt then 46 :: B else []
theorem split_dg {b:Int}:∀ {P A:List UInt8} {u v:UInt8} {U V:List UInt8},allDg P b=true→allDg A b=true→isDg u.toNat b=false→isDg v.toNat b=false→P++u :: U=A++v :: V→P=A∧u=v∧U=V
 | [],[],u,v,U,V,_,_,_,_,h=>by
  simp at h
  exact⟨rfl,h.1,h.2⟩
 | [],a :: A,u,v,U,V,_,hA,hu,_,h=>by
  simp at h
  unfold allDg at hA
  rw[List.all_cons,Bool.and_eq_true] at hA
  rw[h.1] at hu
  rw[hA.1] at hu
  cases hu
 | p :: P,[],u,v,U,V,hP,_,_,hv,h=>by
  simp at h
  unfold allDg at hP
  rw[List.all_cons,Bool.and_eq_true] at hP
  rw[←h.1] at hv
  rw[hP.1] at hv
  cases hv
 | p :: P,a :: A,u,v,U,V,hP,hA,hu,hv,h=>by
  simp at h
  unfold allDg at hP hA
  rw[List.all_cons,Bool.and_eq_true] at hP hA
  obtain⟨h1,h2,h3⟩:=split_dg (b:=b) (P:=P) (A:=A) (by unfold allDg;exact hP.2) (by unfold allDg;exact hA.2) hu hv h.2
  exact⟨by rw[h.1,h1],h2,h3⟩
theorem allDg_app {A B:List UInt8} {b:Int}:allDg (A++B) b=(allDg A b&&allDg B b):=by unfold allDg;rw[List.all_append]
theorem allDg_mem {A:List UInt8} {b:Int} (h:allDg A b=true):∀ c ∈ A,isDg c.toNat b=true:=by
 unfold allDg at h
 exact List.all_eq_true.1 h
theorem ixb_app {c:UInt8}:∀ {A T:List UInt8},(∀ x ∈ A,x≠c)→Lib.indexByte (A++c :: T) c=(A.length:Nat)
 | [],T,_=>by simp[Lib.indexByte]
 | a :: A,T,h=>by
  have h1:=ixb_app (A:=A) (T:=T) (fun x hx=>h x (List.mem_cons_of_mem _ hx))
  have h2:(a==c)=false:=by rw[beq_eq_false_iff_ne];exact h a (List.mem_cons_self ..)
  rw[List.cons_append]
  unfold Lib.indexByte
  rw[h2,h1]
  simp
theorem ixb_none {c:UInt8}:∀ {A:List UInt8},(∀ x ∈ A,x≠c)→Lib.indexByte A c = -1
 | [],_=>rfl
 | a :: A,h=>by
  have h1:=ixb_none (A:=A) (fun x hx=>h x (List.mem_cons_of_mem _ hx))
  have h2:(a==c)=false:=by rw[beq_eq_false_iff_ne];exact h a (List.mem_cons_self ..)
  unfold Lib.indexByte
  rw[h2,h1]
  simp
theorem ixa_app {M:List UInt8} {c:UInt8} (hc:M.contains c=true):∀ {A T:List UInt8},(∀ x ∈ A,M.contains x=false)→Lib.indexAny (A++c :: T) M=(A.length:Nat)
 | [],T,_=>by rw[List.nil_append];unfold Lib.indexAny;rw[if_pos hc];rfl
 | a :: A,T,h=>by
  have h1:=ixa_app hc (A:=A) (T:=T) (fun x hx=>h x (List.mem_cons_of_mem _ hx))
  have h2:=h a (List.mem_cons_self ..)
  rw[List.cons_append]
  unfold Lib.indexAny
  rw[h2,h1]
  simp
theorem ixa_none {M:List UInt8}:∀ {A:List UInt8},(∀ x ∈ A,M.contains x=false)→Lib.indexAny A M = -1
 | [],_=>rfl
 | a :: A,h=>by
  have h1:=ixa_none (A:=A) (fun x hx=>h x (List.mem_cons_of_mem _ hx))
  have h2:=h a (List.mem_cons_self ..)
  unfold Lib.indexAny
  rw[h2,h1]
  simp
theorem dg_nodot {A:List UInt8} {b:Int} (h:allDg A b=true):∀ x ∈ A,x≠(46:UInt8):=fun x hx e=>by
 have:=allDg_mem h x hx
 rw[e] at this
 rw[show((46:UInt8).toNat)=46 from rfl,dot_nd] at this
 cases this
theorem cu_dt {A B:List UInt8} {dt:Bool} {b:Int} (hA:allDg A b=true) (hB:dt=false→B = []):cuA (A++dtL dt B)=A∧cuB (A++dtL dt B)=B:=by
 cases dt
 ·rw[hB rfl]
  have e:A++dtL false ([]:List UInt8)=A:=by simp[dtL]
  rw[e]
  unfold cuA cuB
  rw[ixb_none (dg_nodot hA),if_pos (by decide),if_pos (by decide)]
  exact⟨rfl,rfl⟩
 ·have e:A++dtL true B=A++46 :: B:=rfl
  rw[e]
  unfold cuA cuB
  rw[ixb_app (dg_nodot hA),if_neg (by omega),if_neg (by omega),Int.toNat_natCast]
  constructor
  ·simp
  ·rw[List.drop_append,List.drop_eq_nil_of_le (by omega)]
   simp
theorem cu_bad {A B R:List UInt8} {dt:Bool} {b:Int} {c:UInt8} (hA:allDg A b=true) (hB:allDg B b=true) (hdt:dt=false→B = []) (hc:isDg c.toNat b=false) (h46:dt=false→c≠46) :
  dgO b (cuA (A++dtL dt B++c :: R)++cuB (A++dtL dt B++c :: R))=false:=by
 cases hq:dgO b (cuA (A++dtL dt B++c :: R)++cuB (A++dtL dt B++c :: R)) with
 | false=>rfl
 | true =>
  exfalso
  unfold dgO at hq
  rw[Bool.and_eq_true,allDg_app,Bool.and_eq_true] at hq
  obtain⟨⟨h1,h2⟩,-⟩:=hq
  have hdn:isDg (46:UInt8).toNat b=false:=dot_nd
  rcases cu_join (A++dtL dt B++c :: R)with ⟨-,h3,-⟩|h3
  ·rw[h3] at h1
   have:=allDg_mem h1 c (by simp)
   rw[hc] at this
   cases this
  ·cases dt
   ·have e:A++dtL false B++c :: R=A++c :: R:=by simp[dtL]
    rw[e] at h1 h2 h3
    obtain⟨-,h5,-⟩:=split_dg hA h1 hc hdn h3
    exact h46 rfl h5
   ·have e:A++dtL true B++c :: R=A++46 :: (B++c :: R):=by simp[dtL]
    rw[e] at h1 h2 h3
    obtain⟨-,-,h5⟩:=split_dg hA h1 hdn hdn h3
    rw[←h5] at h2
    have:=allDg_mem h2 c (by simp)
    rw[hc] at this
    cases this
def mkL (b:Int):List UInt8:=if b=16 then [112,80] else [101,69]
theorem mk_dg {b:Int} (hb:b=10∨b=16) {x:UInt8} (h:isDg x.toNat b=true):(mkL b).contains x=false:=by
 have key:∀ n:Fin 256,(isDg n.val 10=true→n.val≠101∧n.val≠69)∧(isDg n.val 16=true→n.val≠112∧n.val≠80):=by decide +kernel
 have h1:=key ⟨x.toNat,x.toNat_lt⟩
 have ne:∀ {y:UInt8},x.toNat≠y.toNat→x≠y:=fun h e=>h (by rw[e])
 rcases hb with rfl|rfl
 ·have h2:=h1.1 h
  have e1:x≠101:=ne h2.1
  have e2:x≠69:=ne h2.2
  simp[mkL,e1,e2]
 ·have h2:=h1.2 h
  have e1:x≠112:=ne h2.1
  have e2:x≠80:=ne h2.2
  simp[mkL,e1,e2]
theorem mk_dot {b:Int} (hb:b=10∨b=16):(mkL b).contains 46=false:=by rcases hb with rfl|rfl <;> decide
theorem mk_x {b:Int} (hb:b=10∨b=16) {A B:List UInt8} {dt:Bool} (hA:allDg A b=true) (hB:allDg B b=true):∀ x ∈ A++dtL dt B,(mkL b).contains x=false:=by
 intro x hx
 rcases List.mem_append.1 hx with h|h
 ·exact mk_dg hb (allDg_mem hA x h)
 ·cases dt
  ·simp[dtL] at h
  ·rcases List.mem_cons.1 (show x ∈ 46 :: B from h)with h|h
   ·rw[h];exact mk_dot hb
   ·exact mk_dg hb (allDg_mem hB x h)
theorem ps_case {S T A B Rr:List UInt8} {b:Int} {dt:Bool} (hb:b=10∨b=16) (hT:psS S=T) (hM:psM S=mkL b) (hpb:psb S=b) (hTX:T=A++dtL dt B++Rr) (hA:allDg A b=true) (hB:allDg B b=true) (hdt:dt=false→B = []) (hst:StopD b dt Rr) :
  (Rr = []∧psOk S=(!hexP S&&decide (A++B ≠ []))∧psD S=A++B∧psH S=B.length∧psX S=0) ∨
  (∃ c R',Rr=c :: R'∧(mkL b).contains c=true∧psOk S=(exO R'&&decide (A++B ≠ []))∧psD S=A++B∧psH S=B.length∧psX S=exX R') ∨
  (∃ c R',Rr=c :: R'∧(mkL b).contains c=false∧psOk S=false):=by
 obtain⟨cA,cB⟩:=cu_dt (A:=A) (B:=B) (dt:=dt) hA hdt
 have hall:allDg (A++B) b=true:=by rw[allDg_app,hA,hB];rfl
 have hdg:dgO b (A++B)=decide (A++B ≠ []):=by unfold dgO;rw[hall,Bool.true_and]
 rcases hst with h0|⟨c,R',h1,h2,h3⟩
 ·left
  have hv:psV S = -1:=by unfold psV;rw[hT,hM,hTX,h0,List.append_nil];exact ixa_none (mk_x hb hA hB)
  have hD0:psD0 S=A++dtL dt B:=by unfold psD0;rw[hv,if_neg (by decide),hT,hTX,h0,List.append_nil]
  refine⟨h0,?_,?_,?_,?_⟩
  ·unfold psOk psD;rw[hv,if_neg (by decide),hD0,cA,cB,hpb,hdg]
  ·unfold psD;rw[hD0,cA,cB]
  ·unfold psH;rw[hD0,cB]
  ·unfold psX;rw[hv,if_neg (by decide)]
 ·right
  by_cases hc:(mkL b).contains c=true
  ·left
   have hv:psV S=((A++dtL dt B).length:Nat):=by unfold psV;rw[hT,hM,hTX,h1];exact ixa_app hc (mk_x hb hA hB)
   have hD0:psD0 S=A++dtL dt B:=by unfold psD0;rw[hv,if_pos (by omega),hT,hTX,Int.toNat_natCast,List.take_append,List.take_of_length_le (Nat.le_refl _),Nat.sub_self,List.take_zero,List.append_nil]
   have hE:psE S=R':=by
    unfold psE
    rw[hv,hT,hTX,h1,Int.toNat_natCast,List.drop_append,List.drop_eq_nil_of_le (by omega)]
    simp
   refine⟨c,R',h1,hc,?_,?_,?_,?_⟩
   ·unfold psOk psD;rw[hv,if_pos (by omega),hD0,cA,cB,hpb,hdg,hE]
   ·unfold psD;rw[hD0,cA,cB]
   ·unfold psH;rw[hD0,cB]
   ·unfold psX;rw[hv,if_pos (by omega),hE]
  ·right
   have hc':(mkL b).contains c=false:=by simpa using hc
   refine⟨c,R',h1,hc',?_⟩
   have key:∃ R'',psD0 S=A++dtL dt B++c :: R'':=by
    unfold psD0
    rw[hT,hTX,h1]
    by_cases hv:0≤psV S
    ·rw[if_pos hv]
     rcases indexAny_in (psS S) (psM S)with h4|⟨i,h4,h5,y,h6,h7⟩
     ·have:psV S = -1:=h4
      omega
     ·have hvi:psV S=(i:Int):=h5
      rw[hvi,Int.toNat_natCast]
      rw[hT,hTX,h1] at h6
      rw[hM] at h7
      have hi:(A++dtL dt B).length<i:=by
       rcases Nat.lt_trichotomy i (A++dtL dt B).length with h8|h8|h8
       ·rw[List.getElem?_append_left h8] at h6
        have:=mk_x hb hA hB y (List.mem_of_getElem? h6)
        rw[h7] at this
        cases this
       ·rw[List.getElem?_append_right (by omega),h8,Nat.sub_self] at h6
        obtain rfl:c=y:=Option.some.inj h6
        rw[h7] at hc'
        cases hc'
       ·exact h8
      obtain⟨d,hd⟩:∃ d,i=(A++dtL dt B).length+(d+1):=⟨i - (A++dtL dt B).length - 1,by omega⟩
      refine⟨R'.take d,?_⟩
      rw[hd,List.take_append,List.take_of_length_le (by omega)]
      congr 1
      rw[show(A++dtL dt B).length+(d+1) - (A++dtL dt B).length=d+1 by omega]
      rfl
    ·rw[if_neg hv]
     exact⟨R',rfl⟩
   obtain⟨R'',hR⟩:=key
   unfold psOk psD
   rw[hR,hpb,cu_bad hA hB hdt h2 h3,Bool.and_false]
theorem hexP_cases (S:List UInt8):(hexP S=true∧∃ c T,S=48 :: c :: T∧(c=120∨c=88))∨(hexP S=false∧∀ c T,S=48 :: c :: T→c≠120∧c≠88):=by
 match S with
 | []=>right;exact⟨by decide,fun c T h=>by cases h⟩
 | [x]=>right;exact⟨by unfold hexP Lib.hasPrefix;simp[List.isPrefixOf],fun c T h=>by cases h⟩
 | x :: c :: T =>
  by_cases h1:x=48
  ·subst h1
   by_cases h2:c=120
   ·subst h2;left;exact⟨by unfold hexP Lib.hasPrefix;simp,_,_,rfl,.inl rfl⟩
   ·by_cases h3:c=88
    ·subst h3;left;exact⟨by unfold hexP Lib.hasPrefix;simp,_,_,rfl,.inr rfl⟩
    ·right
     refine⟨by unfold hexP Lib.hasPrefix;simp[List.isPrefixOf,Ne.symm h2,Ne.symm h3],?_⟩
     intro c' T' h
     injection h with _ h
     injection h with h _
     subst h
     exact⟨h2,h3⟩
  ·right
   refine⟨by unfold hexP Lib.hasPrefix;simp[List.isPrefixOf,Ne.symm h1],?_⟩
   intro c' T' h
   injection h with h _
   exact absurd h h1
theorem ps_dec {S:List UInt8} (h:hexP S=false):psS S=S∧psM S=mkL 10∧psb S=10:=by
 have h':¬ hexP S=true:=by rw[h];decide
 unfold psS psM psb mkL
 rw[if_neg h',if_neg h',if_neg h']
 exact⟨rfl,rfl,rfl⟩
def bkF (N:Nat) (k:Int):Nat:=rtF (un ((N*tnU k:Nat):Int) 0) (un ((tnO k:Nat):Int) 0) 2
theorem bk_near {a N b:Nat} {k:Int} (hN0:N≠0) (hN:N<2^b) (hb:b≤40000) (hk : -2000≤k∧k≤2000) (h0:0<a) (h:a<9218868437227405312):bkF N k=a↔Bk a N k:=by
 have h8:=hT8_eq
 have hp:0<tnU k:=Nat.pow_pos (by decide)
 have ho:0<tnO k:=Nat.pow_pos (by decide)
 unfold bkF
 rw[rt_near (Nat.mul_ne_zero hN0 (by omega)) (by omega) (mulN hN (tnO_lt hk).2) (tnO_lt hk).1 (by omega) h0 h,Nat.pow_zero,Nat.mul_one]
 unfold Bk
 have e:2*(N*tnU k)*2^kP=N*(tnU k*2^kQ):=by
  rw[kQ_n,Nat.pow_succ,Nat.mul_comm (2^kP) 2,Nat.mul_left_comm (tnU k),Nat.mul_left_comm N]
  simp only[Nat.mul_assoc]
 rw[e]
theorem bk_le {N b:Nat} {k:Int} (hN0:N≠0) (hN:N<2^b) (hb:b≤40000) (hk : -2000≤k∧k≤2000):bkF N k≤9218868437227405312:=by
 have h8:=hT8_eq
 have hp:0<tnU k:=Nat.pow_pos (by decide)
 have ho:0<tnO k:=Nat.pow_pos (by decide)
 obtain⟨X,e,h1,h2⟩:=rt_one (P:=0) (Nat.mul_ne_zero hN0 (by omega:tnU k≠0)) (by omega:tnO k≠0) (mulN hN (tnO_lt hk).2) (tnO_lt hk).1 (by omega)
 have h3:=h2 false 2 (by omega)
 rw[if_neg (by decide)] at h3
 unfold bkF
 rw[h3,sig_f]
 exact bdy_le _ _ _
theorem pabs_unP {Z:Int} {p b:Nat} (h:Z.natAbs<2^b) (hb:b≤60000) (hp:p≤60000) {W:World} {X:Value} (hX:PN W X (un Z p)):Calls Tryz.prog 61 #[X] W fun r w'=>OutA W (un ((Z.natAbs:Nat):Int) p) r w':=by
 obtain⟨ao,cap,rfl,hI⟩:=hX
 have ok:=ok_un (p:=p) h hb hp
 have f:=ok.facts
 refine(abs_ok hI (by omega) ok).mono ?_
 rintro r w' ⟨v,rfl,hO,hB⟩
 obtain⟨ao',cap',rfl,o1,o2,o3⟩:=hO.is
 rw[un_abs]
 exact⟨_,_,_,_,_,rfl,⟨ao',cap',rfl,⟨ao',cap',rfl,o1,o2,o3⟩⟩,hB⟩
theorem dcR_lt (N:Nat):N<10^(dcR N).length:=by
 induction N using Nat.strongRecOn with
 | _ N ih =>
  by_cases h0:N=0
  ·subst h0;decide
  ·have h:=ih (N / 10) (by omega)
   rw[dcR_step h0,List.length_append,List.length_singleton,Nat.pow_succ]
   omega
theorem dcR_ge {N k:Nat} (h:10^k≤N):k<(dcR N).length:=by
 rcases Nat.lt_or_ge k (dcR N).length with h1|h1
 ·exact h1
 ·have h2:=dcR_lt N
  have h3:10^(dcR N).length≤10^k:=Nat.pow_le_pow_right (by decide) h1
  omega
theorem dcR_le {N b:Nat} (h:N<10^b):(dcR N).length≤b:=by
 have:=rvD_len h
 unfold rvD at this
 rw[List.length_reverse] at this
 exact this
theorem rd_digits {A:Nat} {n:Nat} {neg:Bool} {m:Int} (hA:A<2^bU) (h0:A≠0) (hn:1≤n):n≤(dcR (rdN A ((n:Int) - 1 - woX A) neg m)).length∧(dcR (rdN A ((n:Int) - 1 - woX A) neg m)).length≤n+1:=by
 obtain⟨p1,p2,-,-⟩:=woX_spec hA h0
 have h1:=scF_step A (-woX A)
 rw[show -woX A+1=1 - woX A by omega] at h1
 have h2:=scF_down A ((n:Int) - 1 - woX A) (n - 1)
 rw[show(n:Int) - 1 - woX A - ((n - 1:Nat):Int) = -woX A by omega] at h2
 have h3:scF A ((n:Int) - 1 - woX A)≤rdN A ((n:Int) - 1 - woX A) neg m∧rdN A ((n:Int) - 1 - woX A) neg m≤scF A ((n:Int) - 1 - woX A)+1:=by
  unfold rdN
  split
  ·omega
  ·split <;> omega
 generalize scF A ((n:Int) - 1 - woX A)=u at *
 generalize rdN A ((n:Int) - 1 - woX A) neg m=v at *
 generalize scF A (1 - woX A)=s1 at *
 generalize scF A (-woX A)=s0 at *
 have hP:0<10^(n - 1):=Nat.pow_pos (by decide)
 have e10:10^n=10^(n - 1)*10:=by rw[←Nat.pow_succ];congr 1;omega
 have g1:10^(n - 1)≤u:=by
  rcases Nat.lt_or_ge u (10^(n - 1))with h|h
  ·rw[Nat.div_eq_of_lt h] at h2;omega
  ·exact h
 have g2:u<10^n:=by
  rw[e10,Nat.mul_comm]
  rw[←Nat.div_lt_iff_lt_mul hP]
  omega
 constructor
 ·have:=dcR_ge (Nat.le_trans g1 h3.1)
  omega
 ·refine dcR_le ?_
  rw[Nat.pow_succ]
  omega
def dgX (a:Nat) (n m:Int):List UInt8:=dcR (uN a (n - 1 - woX (fU a)) m)
def dgT (a:Nat) (n m:Int):List UInt8:=if 9218868437227405312<mag a then [110,97,110] else if mag a=9218868437227405312 then sgL (neg a) [105,110,102] else
 if mag a=0 then sgL (neg a) (exL (nzL n) (Lib.itoa 0))else sgL (neg a) (exL ((dgX a n m).take n.toNat) (Lib.itoa (if n.toNat<(dgX a n m).length then woX (fU a)+1 else woX (fU a))))
def dgA (a:Nat) (n m:Int):List UInt8×Int:=if 1≤m∧m≤3∧1≤n∧n≤1100 then(dgT a n m,0) else([],1)
theorem dg_no {a:Nat} {n m:Int} (h:¬ (1≤m∧m≤3∧1≤n∧n≤1100)):decide (1≤m∧m≤3)=false∨n<1∨1100<n:=by
 by_cases h1:1≤m∧m≤3
 ·exact .inr (by omega)
 ·exact .inl (decide_eq_false h1)
theorem dg_z {a:Nat} (ha:a<18446744073709551616) (h:mag a=0):a=0∨a=9223372036854775808:=by
 unfold mag at h
 omega
theorem dg_fU {a:Nat} (h:mag a≠0):fU a≠0:=by
 have h2:=Ie.mant_ne (a:=a) h
 unfold fU
 exact Nat.ne_of_gt (Nat.mul_pos (by omega) (Nat.two_pow_pos _))
theorem dg_o0 {a:Nat} (ha:a<18446744073709551616) (hf:mag a≤9218868437227405312):(FloatKind.f64.format.order a 0==some Ordering.eq)=decide (mag a=0):=by
 have o:=ord_eq a 0 ha (by decide)
 have h1:isNaN a=false:=by unfold isNaN;exact decide_eq_false (by omega)
 have hs:stp a=if neg a then -(mag a:Int) else(mag a:Int):=by unfold stp sgn;rfl
 unfold eq at o
 rw[h1,show stp 0=0 by decide] at o
 rw[o]
 by_cases h:mag a=0
 ·rw[decide_eq_true h,decide_eq_true (by rw[hs];split <;> omega)]
  rfl
 ·rw[decide_eq_false h,decide_eq_false (by rw[hs];split <;> omega)]
  simp
theorem itoa_lenQ {x:Int} (h : -5000≤x∧x≤5000):(Lib.itoa x).length≤100:=by
 have:=Lib.itoa_length_le x (by omega) (by omega)
 omega
theorem ex_lenQ (d t:List UInt8):(exL d t).length≤d.length+t.length+3:=by
 unfold exL
 rw[List.length_append,List.length_append,List.length_take,List.length_cons]
 split
 ·rw[List.length_cons,List.length_drop];omega
 ·simp;omega
theorem DDigitsA {a:Nat} (n m:Int) {w:World} (hT:Tab32 w) (hI:Ie.Tab w) (h10:Tab10 w) (ha:a<18446744073709551616) :
  Calls Tryz.prog 16 #[.float .f64 a,.int .i64 n,.int .i64 m] w fun r w'=>r=.returned (.tuple #[.string ⟨(dgA a n m).1.toArray⟩,.int .i64 (dgA a n m).2])∧Bw w w':=by
 unfold dgA
 by_cases h:1≤m∧m≤3∧1≤n∧n≤1100
 ·rw[if_pos h]
  have k0:=DisMode m
  rw[decide_eq_true (show 1≤m∧m≤3 by omega)] at k0
  unfold dgT
  rcases(by omega:9218868437227405312<mag a∨mag a=9218868437227405312∨mag a<9218868437227405312)with hf|hf|hf
  ·rw[if_pos hf]
   refine DDigits_1 a n m _ w (by omega) (by omega) k0 ?_
   intro W g1 g2 g3 hW b1 b2 b3
   have kC:=fun V=>Ie.c9 a ha V
   rw[cls_nan hf] at kC
   refine(Dtold_nan a _ _ W kC).mono ?_
   rintro r w' ⟨rfl,rfl⟩
   exact⟨rfl,Below.refl _ _⟩
  ·rw[if_neg (by omega),if_pos hf]
   obtain⟨c1,c2⟩:=cls_inf hf
   refine DDigits_1 a n m _ w (by omega) (by omega) k0 ?_
   intro W g1 g2 g3 hW b1 b2 b3
   have kC:=fun V=>Ie.c9 a ha V
   rw[c1,c2] at kC
   refine(Dtold_inf a _ _ W kC).mono ?_
   rintro r w' ⟨rfl,rfl⟩
   exact⟨rfl,Below.refl _ _⟩
  ·rw[if_neg (by omega),if_neg (by omega)]
   obtain⟨c1,c2,c3⟩:=cls_fin hf
   obtain⟨N,hN⟩:∃ N:Nat,n=(N:Int):=⟨n.toNat,by omega⟩
   have hnN:n.toNat=N:=by omega
   by_cases hz:mag a=0
   ·rw[if_pos hz]
    have hl:=nz_len n
    have hl2:=ex_lenQ (nzL n) (Lib.itoa 0)
    have hl3:=itoa_lenQ (x:=0) (by omega)
    refine DDigits_1 a n m _ w (by omega) (by omega) k0 ?_
    intro W g1 g2 g3 hW b1 b2 b3
    have kC:=fun V=>Ie.c9 a ha V
    rw[c3] at kC
    refine Dtold_fin a _ _ (neg a) _ _ W c1 c2 (by omega) kC (enters Tryz.func58 (by kernel_rfl) (by kernel_rfl)) ?_
    refine DDigits1_0 a n m _ g1 g2 g3 W b1 b2 ⟨by omega,by omega⟩ (dg_z ha hz) (knz W) ?_
    intro V hV
    exact Dexpon_1 _ _ 0 V (by omega) (by omega) hl3 (fun U hU=>Ditoa (by omega) (((h10.later hW).later hV).later hU))
   ·rw[if_neg hz]
    have hA0:=dg_fU hz
    obtain⟨p1,p2,p3,p4⟩:=woX_spec (fU_lt a) hA0
    obtain⟨x,hx⟩:∃ x,x=woX (fU a):=⟨_,rfl⟩
    have hrd:=rd_digits (neg:=neg a) (m:=m) (n:=N) (fU_lt a) hA0 (by omega)
    rw[←hN] at hrd
    unfold dgX
    rw[←uN_rd (by omega)] at hrd
    rw[←hx] at hrd p3 p4 ⊢
    have hlt:(List.take n.toNat (dcR (uN a (n - 1 - x) m))).length=N:=by rw[List.length_take,hnN];omega
    have hxx : -5000≤(if n.toNat<(dcR (uN a (n - 1 - x) m)).length then x+1 else x)∧(if n.toNat<(dcR (uN a (n - 1 - x) m)).length then x+1 else x)≤5000:=by split <;> omega
    have hl3:=itoa_lenQ hxx
    have hl2:=ex_lenQ (List.take n.toNat (dcR (uN a (n - 1 - x) m))) (Lib.itoa (if n.toNat<(dcR (uN a (n - 1 - x) m)).length then x+1 else x))
    refine DDigits_1 a n m _ w (by omega) (by omega) k0 ?_
    intro W g1 g2 g3 hW b1 b2 b3
    have kC:=fun V=>Ie.c9 a ha V
    rw[c3] at kC
    refine Dtold_fin a _ _ (neg a) _ _ W c1 c2 (by omega) kC (enters Tryz.func58 (by kernel_rfl) (by kernel_rfl)) ?_
    have ho:=dg_o0 ha (by omega)
    rw[decide_eq_false hz] at ho
    refine DDigits1_1 a n m x N (un (sZ a) kP) (un ((fU a:Nat):Int) kP) (un ((uN a (n - 1 - x) m:Nat):Int) 0) (dcR (uN a (n - 1 - x) m)) _ g1 g2 g3 W b1 b2 b3 ⟨by omega,by omega⟩ hN (by omega) ho ?_ ?_ ?_ ?_ ?_ ?_
    ·intro V hV
     exact Dexact ((hT.later hW).later hV) (Tab.later (Tab.later hI hW) hV) ha hf
    ·intro V X hV hX
     have h:=pabs_unP (sZ_lt a) (by rw[bU_eq];omega) (by rw[kP_eq];omega) hX
     rw[sZ_abs] at h
     exact h
    ·intro V X hV hX
     rw[hx]
     exact Dworth ((hT.later hW).later hV) (fU_lt a) hA0 hX
    ·intro V hV
     exact Dunits ((hT.later hW).later hV) (Tab.later (Tab.later hI hW) hV) ha hf (by omega) (by omega) (by omega)
    ·intro V X hV hX
     have h:=DwholeText ((hT.later hW).later hV) (uN_lt (by omega) (by omega)) dk6 hX
     rw[dcT_eq] at h
     exact h
    ·intro V hV
     rw[hnN] at hlt hl3 hl2 hxx ⊢
     exact Dexpon_1 _ _ _ V (by omega) (by omega) hl3 (fun U hU=>Ditoa (by omega) (((h10.later hW).later hV).later hU))
 ·rw[if_neg h]
  exact DDigits_no a n m _ w (DisMode m) (dg_no (a:=a) h)
theorem dcR_ten {N:Nat} (h:N≠0):∀ j,dcR (N*10^j)=dcR N++List.replicate j 48
 | 0=>by simp
 | j+1=>by
  have hp:0<10^j:=Nat.pow_pos (by decide)
  have h1:N*10^(j+1)=N*10^j*10:=by rw[Nat.pow_succ,Nat.mul_assoc]
  have h2:N*10^j≠0:=Nat.mul_ne_zero h (by omega)
  rw[h1,dcR_step (by omega),Nat.mul_div_cancel _ (by decide),dcR_ten h j,Nat.mul_mod_left,List.replicate_succ',List.append_assoc]
  rfl
theorem trimR_app (L:List UInt8):∀ j,Lib.trimRightB (L++List.replicate j 48) 48=Lib.trimRightB L 48
 | 0=>by simp
 | j+1=>by
  rw[List.replicate_succ',←List.append_assoc]
  have h:=trimR_app L j
  unfold Lib.trimRightB at *
  rw[List.reverse_append]
  simp
theorem trimR_split (L:List UInt8):∃ z,L=Lib.trimRightB L 48++List.replicate z 48∧∀ x,(Lib.trimRightB L 48).getLast?=some x→x≠48:=by
 refine⟨(L.reverse.takeWhile (· == 48)).length,?_,?_⟩
 ·have h1:=List.takeWhile_append_dropWhile (p:=(· == (48:UInt8))) (l:=L.reverse)
  have h2:L.reverse.takeWhile (· == (48:UInt8))=List.replicate (L.reverse.takeWhile (· == (48:UInt8))).length 48:=by
   rw[List.eq_replicate_iff]
   refine⟨rfl,fun b hb=>?_⟩
   have:=List.all_takeWhile (p:=(· == (48:UInt8))) (l:=L.reverse)
   have h3:=List.all_eq_true.1 this b hb
   simpa using h3
  unfold Lib.trimRightB
  have h3:=congrArg List.reverse h1
  rw[List.reverse_append,List.reverse_reverse] at h3
  conv=>lhs;rw[←h3]
  generalize List.takeWhile (fun x=>x==(48:UInt8)) L.reverse=t at *
  congr 1
  rw[h2]
  simp
 ·intro x hx
  unfold Lib.trimRightB at hx
  rw[List.getLast?_reverse] at hx
  have h:=List.head?_dropWhile_not (· == (48:UInt8)) L.reverse
  rw[hx] at h
  intro h9
  rw[h9] at h
  exact absurd h (by decide)
theorem trimR_ne:∀ N:Nat,N≠0→1≤(Lib.trimRightB (dcR N) 48).length:=by
 intro N
 induction N using Nat.strongRecOn with
 | ind N ih =>
  intro h
  rw[dcR_step h]
  by_cases h1:N % 10=0
  ·rw[h1]
   have h2:=trimR_app (dcR (N / 10)) 1
   rw[show List.replicate 1 (48:UInt8) = [UInt8.ofNat (48+0)] from rfl] at h2
   rw[h2]
   exact ih (N / 10) (by omega) (by omega)
  ·obtain⟨c,hc⟩:∃ c,c=UInt8.ofNat (48+N % 10):=⟨_,rfl⟩
   have hc8:(c==(48:UInt8))=false:=by
    rw[beq_eq_false_iff_ne,hc]
    intro h9
    have h10:=congrArg UInt8.toNat h9
    rw[UInt8.toNat_ofNat'] at h10
    have:(48:UInt8).toNat=48:=rfl
    omega
   rw[←hc]
   unfold Lib.trimRightB
   rw[List.reverse_append,List.reverse_singleton,List.singleton_append,List.dropWhile_cons,hc8]
   simp
theorem loD_ne {a i:Nat} (hi:i≤16) (h0:0<a) (h:a<9218868437227405312):loD a i≠0:=by
 have h1:=loD_fw hi h0 h
 obtain⟨g1,-⟩:=shG_b h0 h
 obtain⟨f1,f2⟩:=fwG (i:=i) h
 have h3:=fwU_le i
 have h4:=fwU_pos i
 intro h9
 rw[h9,Nat.zero_mul] at h1
 omega
theorem fU_ne {a:Nat} (h0:0<a) (h:a<9218868437227405312):fU a≠0:=dg_fU (by unfold mag;omega)
theorem lo_b {a i:Nat} (hi:i≤16) (hk : -2000≤(i:Int) - shX a∧(i:Int) - shX a≤2000) (h0:0<a) (h:a<9218868437227405312):loD a i<2^(bU+hT8)∧loD a i+1<2^(bU+hT8+1)∧hiD a i<2^(bU+hT8+1)∧hiD a i≠0:=by
 obtain⟨k1,k2,-⟩:=scF_lt (fU_lt a) hk
 have h9:=loD_ne hi h0 h
 refine⟨k1,k2,?_,?_⟩
 ·unfold hiD
  split
  ·exact Nat.lt_trans (Nat.lt_succ_self _) k2
  ·exact k2
 ·unfold hiD
  split
  ·exact h9
  ·exact Nat.succ_ne_zero _
theorem bs_b {a:Nat} (h1:loD a (shJ a)+1<2^(bU+hT8+1)) (h2:loD a (shJ a)≠0):bsD a<2^(bU+hT8+1)∧bsD a≠0:=by
 unfold bsD
 split
 ·exact⟨Nat.lt_trans (Nat.lt_succ_self _) h1,h2⟩
 ·exact⟨h1,Nat.succ_ne_zero _⟩
theorem sh_text {a:Nat} (hbs:bsD a≠0) (h0:0<a) (h:a<9218868437227405312):∃ z,dcD (bsD a)=shD a++List.replicate z 48∧1≤(shD a).length∧(shD a).length+z≤1000∧shX a+((shD a).length+z:Nat) - ((shJ a:Int)+1)=shE a∧(∀ x,(shD a).getLast?=some x→x≠48):=by
 have hJ:=shJ_le a
 obtain⟨z,hz1,hz2⟩:=trimR_split (dcR (bsD a))
 have hF:shF a=bsD a*10^(16 - shJ a):=shF_doc h0 h
 have eT:dcT (shF a)=dcR (bsD a)++List.replicate (16 - shJ a) 48:=by rw[dcT_eq,hF,dcR_ten hbs]
 have hD:shD a=Lib.trimRightB (dcR (bsD a)) 48:=by unfold shD;rw[eT,trimR_app]
 have hN1:=trimR_ne (bsD a) hbs
 have h1:=shF_len (shOk h0 h)
 have hE:shE a=(dcT (shF a)).length - 1 - (16 - shX a):=rfl
 have e:dcD (bsD a)=dcR (bsD a):=by unfold dcD;rw[if_neg hbs]
 rw[←hD] at hz1 hz2 hN1
 have hz3:=congrArg List.length hz1
 rw[eT,List.length_append,List.length_replicate] at h1 hE
 rw[List.length_append,List.length_replicate] at hz3
 rw[e]
 clear e hD eT hF hbs h
 refine⟨z,hz1,hN1,by omega,?_,hz2⟩
 rw[hE]
 omega
theorem shD_pos {a:Nat} (h0:0<a) (h:a<9218868437227405312):1≤(shD a).length∧∀ x,(shD a).getLast?=some x→x≠48:=by
 have hJ:=shJ_le a
 have hw : -400≤shX a∧shX a≤400:=(woX_spec (fU_lt a) (fU_ne h0 h)).2.2
 have hk : -2000≤(shJ a:Int) - shX a∧(shJ a:Int) - shX a≤2000:=by omega
 obtain⟨b1,b2⟩:=bs_b (lo_b hJ hk h0 h).2.1 (loD_ne hJ h0 h)
 obtain⟨z,z1,z2,z3,z4,z5⟩:=sh_text b2 h0 h
 exact⟨z2,z5⟩
def shTx (a:Nat):List UInt8:=if 9218868437227405312<mag a then [110,97,110] else if mag a=9218868437227405312 then sgL (neg a) [105,110,102] else if mag a=0 then sgL (neg a) [48] else sgL (neg a) (shS (mag a))
theorem shE_b {a:Nat} (h0:0<a) (h:a<9218868437227405312):(shD a).length≤36 ∧ -1000≤shE a∧shE a≤1000:=by
 have ok:=shOk h0 h
 have hx:=ok.x
 have hl:=shF_len ok
 have hl2:(shD a).length≤36:=Nat.le_trans (trimR_len _ _) hl
 have hE : -1000≤shE a∧shE a≤1000:=by unfold shE;omega
 exact⟨hl2,hE⟩
theorem DShortestA {a:Nat} {w:World} (hT:Tab32 w) (hI:Ie.Tab w) (h10:Tab10 w) (ha:a<18446744073709551616) :
  Calls Tryz.prog 7 #[.float .f64 a] w fun r w'=>r=.returned (.string ⟨(shTx a).toArray⟩)∧Bw w w':=by
 unfold shTx
 rcases(by omega:9218868437227405312<mag a∨mag a=9218868437227405312∨mag a<9218868437227405312)with hf|hf|hf
 ·rw[if_pos hf]
  refine DShortest_1 a _ w ?_
  intro W g1 hW b1
  have kC:=fun V=>Ie.c9 a ha V
  rw[cls_nan hf] at kC
  refine(Dtold_nan a _ _ W kC).mono ?_
  rintro r w' ⟨rfl,rfl⟩
  exact⟨rfl,Below.refl _ _⟩
 ·rw[if_neg (by omega),if_pos hf]
  obtain⟨c1,c2⟩:=cls_inf hf
  refine DShortest_1 a _ w ?_
  intro W g1 hW b1
  have kC:=fun V=>Ie.c9 a ha V
  rw[c1,c2] at kC
  refine(Dtold_inf a _ _ W kC).mono ?_
  rintro r w' ⟨rfl,rfl⟩
  exact⟨rfl,Below.refl _ _⟩
 ·rw[if_neg (by omega),if_neg (by omega)]
  obtain⟨c1,c2,c3⟩:=cls_fin hf
  have ho:=dg_o0 ha (Nat.le_of_lt hf)
  by_cases hz:mag a=0
  ·rw[if_pos hz]
   rw[decide_eq_true hz] at ho
   refine DShortest_1 a _ w ?_
   intro W g1 hW b1
   have kC:=fun V=>Ie.c9 a ha V
   rw[c3] at kC
   refine Dtold_fin a _ _ (neg a) _ _ W c1 c2 (by decide) kC (enters Tryz.func23 (by kernel_rfl) (by kernel_rfl)) ?_
   refine(DShort1_0 a g1 W b1 ho).mono ?_
   rintro r w' ⟨rfl,rfl⟩
   exact⟨rfl,Below.refl _ _⟩
  ·rw[if_neg hz]
   rw[decide_eq_false hz] at ho
   have hm0:0<mag a:=by omega
   obtain⟨hl2,hE⟩:=shE_b hm0 hf
   obtain⟨hd,-⟩:=shD_pos hm0 hf
   have ok:=shOk hm0 hf
   have hlen:(shS (mag a)).length≤20000:=shS_len hl2 hE
   refine DShortest_1 a _ w ?_
   intro W g1 hW b1
   have kC:=fun V=>Ie.c9 a ha V
   rw[c3] at kC
   refine Dtold_fin a _ _ (neg a) _ _ W c1 c2 hlen kC (enters Tryz.func23 (by kernel_rfl) (by kernel_rfl)) ?_
   refine DShort1_1 a (mag a) (shE (mag a)) (shD (mag a)) (shS (mag a)) g1 W b1 ho (by omega) (by omega) (fun V=>c159 a ha V) ?_ ?_ ?_
   ·exact Dshortest (hT.later hW) (Tab.later hI hW) ok
   ·intro hc V hV
    unfold shS
    rw[if_pos hc]
    exact Dexpon_1 (shD (mag a)) (Lib.itoa (shE (mag a))) (shE (mag a)) V hd (by omega) (by have:=Lib.itoa_length_le (shE (mag a)) (by omega) (by omega);show(Lib.itoa (shE (mag a))).length≤100;omega) (fun U hU=>Ditoa (by omega) (((h10.later hW).later hV).later hU))
   ·intro hc V hV
    unfold shS
    rw[if_neg hc]
    exact Dpointed (by omega) (by omega) (knz V)
theorem pt_n {d:List UInt8} {x:Int} (hd:1≤d.length) (h:x<0):ptL d ((d.length:Int) - 1 - x) = [48,46]++(nzL (-x - 1)++d):=by
 have e:nzL ((d.length:Int) - 1 - x+1 - (d.length:Int))=48 :: nzL (-x - 1):=by
  unfold nzL
  rw[show((d.length:Int) - 1 - x+1 - (d.length:Int)).toNat=(-x - 1).toNat+1 by omega,List.replicate_succ]
 unfold ptL
 rw[if_neg (by omega)]
 simp only[]
 rw[e,show(48 :: nzL (-x - 1)++d).length - ((d.length:Int) - 1 - x).toNat=1 by rw[List.length_append,List.length_cons,nz_len];omega]
 rfl
theorem pt_i {d:List UInt8} {x:Int} (hd:1≤d.length) (h:(d.length:Int)≤x+1):ptL d ((d.length:Int) - 1 - x)=d++nzL (x+1 - d.length):=by
 unfold ptL
 rw[if_pos (by omega),show nzL (1 - (d.length:Int)) = [] by unfold nzL;rw[show(1 - (d.length:Int)).toNat=0 by omega];rfl,List.nil_append,show -((d.length:Int) - 1 - x)=x+1 - d.length by omega]
theorem pt_p {d:List UInt8} {x:Int} {q:Nat} (h0:¬ x<0) (h:¬ (d.length:Int)≤x+1) (hq:x+1=(q:Int)):ptL d ((d.length:Int) - 1 - x)=d.take q++46 :: d.drop q:=by
 have e:nzL ((d.length:Int) - 1 - x+1 - (d.length:Int)) = []:=by
  unfold nzL
  rw[show((d.length:Int) - 1 - x+1 - (d.length:Int)).toNat=0 by omega]
  rfl
 unfold ptL
 rw[if_neg (by omega)]
 simp only[]
 rw[e,List.nil_append,show d.length - ((d.length:Int) - 1 - x).toNat=q by omega]
def isdT (c:UInt8):Bool:=decide (48≤c.toNat)&&decide (c.toNat≤57)
theorem dv_snoc (L:List UInt8) (c:UInt8):dvP 10 (L ++ [c]) (L.length+1)=dvP 10 L L.length*10+dgB c.toNat:=by
 show dvP 10 (L ++ [c]) L.length*10+dgB (bL (L ++ [c]) L.length)=_
 have h:=dvP_take 10 (L ++ [c]) L.length L.length (Nat.le_refl _)
 rw[List.take_left] at h
 rw[←h]
 congr 2
 unfold bL
 simp
theorem dgB_dg {m:Nat} (h:m<10):dgB (UInt8.ofNat (48+m)).toNat=m:=by
 rw[UInt8.toNat_ofNat_of_lt' (show 48+m<256 by omega)]
 unfold dgB
 rw[if_pos (by omega)]
 omega
theorem dv_dcR (N:Nat):dvP 10 (dcR N) (dcR N).length=N:=by
 induction N using Nat.strongRecOn with
 | _ N ih =>
  by_cases h0:N=0
  ·subst h0;rfl
  ·rw[dcR_step h0,List.length_append,List.length_singleton,dv_snoc,ih (N / 10) (by omega),dgB_dg (Nat.mod_lt _ (by decide))]
   omega
theorem dcR_dg (N:Nat):∀ c ∈ dcR N,isdT c=true:=by
 induction N using Nat.strongRecOn with
 | _ N ih =>
  by_cases h0:N=0
  ·subst h0;intro c hc;rw[dcR_0] at hc;simp at hc
  ·rw[dcR_step h0]
   intro c hc
   rcases List.mem_append.1 hc with h|h
   ·exact ih _ (by omega) c h
   ·obtain rfl:=List.mem_singleton.1 h
    unfold isdT
    rw[UInt8.toNat_ofNat_of_lt' (show 48+N % 10<256 by omega),decide_eq_true (by omega),decide_eq_true (by omega)]
    rfl
theorem nzL_dg (n:Int):∀ c ∈ nzL n,isdT c=true:=by
 intro c hc
 unfold nzL at hc
 obtain⟨-,rfl⟩:=List.mem_replicate.1 hc
 rfl
theorem dv_nz (k:Nat) (L:List UInt8):dvP 10 (List.replicate k 48++L) (List.replicate k 48++L:List UInt8).length=dvP 10 L L.length:=by
 induction k with
 | zero=>rfl
 | succ k ih =>
  rw[List.replicate_succ,List.cons_append,List.length_cons,Nat.add_comm,dvP_app 10 _ 1,List.drop_one,List.tail_cons,ih]
  have:dvP 10 (48 :: (List.replicate k 48++L)) 1=0:=rfl
  rw[this]
  omega
theorem bk_cross {N T u u' o o' Q:Nat} (h:u'*o=T*u*o'):N*T*(u*Q)*o'=N*(u'*Q)*o:=by
 have e1:N*T*(u*Q)*o'=N*Q*(T*u*o'):=by ac_rfl
 have e2:N*(u'*Q)*o=N*Q*(u'*o):=by ac_rfl
 rw[e1,e2,h]
theorem bk_ten {a N:Nat} {k:Int} (j:Nat):Bk a (N*10^j) (k+j)↔Bk a N k:=by
 have hc:=tn_cross k j
 unfold Bk
 refine RdN.cross (s:=tnO k) (t:=tnO (k+j)) (Nat.pow_pos (by decide)) (Nat.pow_pos (by decide)) ?_ (Nat.mul_comm _ _)
 exact bk_cross hc
theorem dec_dcD (n:Nat):Lib.decDigits n=dcD n:=by
 induction n using Nat.strongRecOn with
 | _ n ih =>
  rw[Lib.decDigits]
  by_cases h:n<10
  ·rw[dif_pos h]
   unfold dcD
   by_cases h0:n=0
   ·rw[if_pos h0,h0];rfl
   ·rw[if_neg h0,dcR_step h0,show n / 10=0 by omega,dcR_0,List.nil_append,show n % 10=n by omega]
  ·rw[dif_neg h,ih (n / 10) (by omega)]
   unfold dcD
   rw[if_neg (by omega),if_neg (by omega),dcR_step (by omega:n≠0)]
theorem isDg_10 {c:UInt8} (h:isdT c=true):isDg c.toNat 10=true:=by
 unfold isdT at h
 unfold isDg
 rw[h]
 rfl
theorem all_10 {L:List UInt8} (h:∀ c ∈ L,isdT c=true):allDg L 10=true:=by
 unfold allDg
 exact List.all_eq_true.2 fun c hc=>isDg_10 (h c hc)
theorem dcD_dg (N:Nat):∀ c ∈ dcD N,isdT c=true:=by
 unfold dcD
 split
 ·intro c hc
  obtain rfl:=List.mem_singleton.1 hc
  rfl
 ·exact dcR_dg N
theorem dv_dcD (N:Nat):dvP 10 (dcD N) (dcD N).length=N:=by
 unfold dcD
 split
 ·rename_i h;rw[h];rfl
 ·exact dv_dcR N
theorem rdE_dv {L:List UInt8} (hd:∀ c ∈ L,isdT c=true) (h:dvP 10 L L.length≤6000):∀ k,k≤L.length→rdE L k=dvP 10 L k
 | 0,_=>rfl
 | k+1,hk=>by
  have ih:=rdE_dv hd h k (by omega)
  have h1:=dvP_app 10 L (k+1) (L.length - (k+1))
  rw[show k+1+(L.length - (k+1))=L.length by omega] at h1
  have h2:dvP 10 L (k+1)≤dvP 10 L L.length:=by
   rw[h1]
   exact Nat.le_trans (Nat.le_mul_of_pos_right _ (Nat.pow_pos (by decide))) (Nat.le_add_right _ _)
  have h3:48≤bL L k∧bL L k≤57:=by
   have h4:=hd L[k] (List.getElem_mem (by omega))
   unfold isdT at h4
   have h5:=Bool.and_eq_true_iff.1 h4
   unfold bL
   rw[List.getElem?_eq_getElem (by omega)]
   simp only[decide_eq_true_eq] at h5
   exact h5
  have h6:dgB (bL L k)=bL L k - 48:=by unfold dgB;rw[if_pos h3]
  have h7:dvP 10 L (k+1)=dvP 10 L k*10+dgB (bL L k):=rfl
  show min (10*rdE L k+(bL L k - 48)) 6000=dvP 10 L (k+1)
  rw[ih,h7,h6]
  rw[h7,h6] at h2
  omega
theorem dg_head {L:List UInt8} (hd:∀ c ∈ L,isdT c=true):¬ (L.head?=some 45∨L.head?=some 43):=by
 intro h
 cases L with
 | nil=>simp at h
 | cons c r =>
  have h1:=hd c List.mem_cons_self
  rcases h with h|h
  ·obtain rfl:=Option.some.inj h
   exact absurd h1 (by decide)
  ·obtain rfl:=Option.some.inj h
   exact absurd h1 (by decide)
theorem ex_itoa {x : Int} (h : -6000 ≤ x ∧ x ≤ 6000) : exO (Lib.itoa x) = true ∧ exX (Lib.itoa x) = x := by
  have key : ∀ n : Nat, n ≤ 6000 → dgO 10 (dcD n) = true ∧ rdE (dcD n) (dcD n).length = n := by
    intro n hn
    have h1 := dv_dcD n
    refine ⟨?_, (rdE_dv (dcD_dg n) (by omega) _ (Nat.le_refl _)).trans h1⟩
    unfold dgO
    rw [all_10 (dcD_dg n), Bool.true_and]
    refine decide_eq_true fun h9 => ?_
    have := (dcD_len (N := n) (b := 13) (by have : (2 : Nat) ^ 13 = 8192 := by decide
                                            omega)).2
    rw [h9] at this
    simp at this
  unfold exX exO
  by_cases hx : x < 0
  · obtain ⟨n, rfl⟩ : ∃ n : Nat, x = -(n : Int) := ⟨x.natAbs, by omega⟩
    have e : Lib.itoa (-(n : Int)) = 45 :: dcD n := by
      unfold Lib.itoa
      rw [if_pos hx, Int.natAbs_neg, Int.natAbs_natCast, dec_dcD]
    have e1 : csS (45 :: dcD n) = -1 := by unfold csS; rw [if_pos (show (45 :: dcD n).head? = some 45 from rfl)]
    have e2 : csD (45 :: dcD n) = dcD n := by unfold csD; rw [if_pos (.inl rfl)]; rfl
    obtain ⟨k1, k2⟩ := key n (by omega)
    rw [e, e1, e2, k1, k2, if_pos rfl]
    exact ⟨rfl, by omega⟩
  · obtain ⟨n, rfl⟩ : ∃ n : Nat, x = (n : Int) := ⟨x.toNat, by omega⟩
    have e : Lib.itoa (n : Int) = dcD n := by
      unfold Lib.itoa
      rw [if_neg hx, Int.toNat_natCast, dec_dcD]
    have hh := dg_head (dcD_dg n)
    have e1 : csS (dcD n) = 1 := by unfold csS; rw [if_neg (fun h9 => hh (.inl h9))]
    have e2 : csD (dcD n) = dcD n := by unfold csD; rw [if_neg hh]
    obtain ⟨k1, k2⟩ := key n (by omega)
    rw [e, e1, e2, k1, k2, if_pos rfl]
    exact ⟨rfl, by omega⟩
theorem hexP_no {L:List UInt8} (h:∀ c ∈ L,c≠120∧c≠88):hexP L=false:=by
 rcases hexP_cases L with ⟨-,c,T,h2,h3⟩|⟨h1,-⟩
 ·exfalso
  have h4:=h c (by rw[h2];simp)
  rcases h3 with h3|h3
  ·exact h4.1 h3
  ·exact h4.2 h3
 ·exact h1
theorem dg_nx {c:UInt8} (h:isdT c=true):c≠120∧c≠88∧c≠105∧c≠110∧c≠45∧c≠43:=by
 refine⟨?_,?_,?_,?_,?_,?_⟩ <;> (intro h9;rw[h9] at h;exact absurd h (by decide))
theorem itoa_mem (x:Int):∀ c ∈ Lib.itoa x,isdT c=true∨c=45:=by
 intro c hc
 unfold Lib.itoa at hc
 split at hc
 ·rcases List.mem_cons.1 hc with h|h
  ·exact .inr h
  ·rw[dec_dcD] at h;exact .inl (dcD_dg _ c h)
 ·rw[dec_dcD] at hc;exact .inl (dcD_dg _ c hc)
theorem cs_told {s:Bool} {L:List UInt8} (h:∀ c,L.head?=some c→c≠45∧c≠43):csS (sgL s L)=(if s then -1 else 1)∧csD (sgL s L)=L∧decide (csS (sgL s L)<0)=s:=by
 unfold sgL
 cases s
 ·have h1:¬ (L.head?=some 45∨L.head?=some 43):=by
   rintro(h1|h1)
   ·exact(h 45 h1).1 rfl
   ·exact(h 43 h1).2 rfl
  have e1:csS L=1:=by unfold csS;rw[if_neg (fun h9=>h1 (.inl h9))]
  have e2:csD L=L:=by unfold csD;rw[if_neg h1]
  exact⟨e1,e2,by rw[show csS (if false=true then 45 :: L else L)=1 from e1];rfl⟩
 ·exact⟨rfl,rfl,rfl⟩
theorem rdA_told {s dt:Bool} {A B Rr body:List UInt8} {x m:Int} (hm:1≤m∧m≤3) (hb:body=A++dtL dt B++Rr) (hA:∀ c ∈ A,isdT c=true) (hB:∀ c ∈ B,isdT c=true) (hdt:dt=false→B = []) (hA0:A ≠ []) (hR:(Rr = []∧x=0)∨(Rr=101 :: Lib.itoa x ∧ -5000≤x∧x≤5000)) (hl:A.length+B.length≤1100) :
  rdA (sgL s body) m=(rdFl s 10 (A++B) B.length x m,0):=by
 have hmem:∀ c ∈ body,isdT c=true∨c=46∨c=101∨c=45:=by
  intro c hc
  rw[hb] at hc
  rcases List.mem_append.1 hc with h|h
  ·rcases List.mem_append.1 h with h|h
   ·exact .inl (hA c h)
   ·unfold dtL at h
    split at h
    ·rcases List.mem_cons.1 h with h|h
     ·exact .inr (.inl h)
     ·exact .inl (hB c h)
    ·simp at h
  ·rcases hR with ⟨h1,-⟩|⟨h1,-⟩
   ·rw[h1] at h;simp at h
   ·rw[h1] at h
    rcases List.mem_cons.1 h with h|h
    ·exact .inr (.inr (.inl h))
    ·rcases itoa_mem x c h with h|h
     ·exact .inl h
     ·exact .inr (.inr (.inr h))
 have hx:hexP body=false:=hexP_no fun c hc=>by
  rcases hmem c hc with h|h|h|h
  ·exact⟨(dg_nx h).1,(dg_nx h).2.1⟩
  ·rw[h];decide
  ·rw[h];decide
  ·rw[h];decide
 obtain⟨a,A',rfl⟩:∃ a A',A=a :: A':=by
  cases A with
  | nil=>exact absurd rfl hA0
  | cons a A'=>exact⟨a,A',rfl⟩
 have ha:=hA a List.mem_cons_self
 have hhead:body.head?=some a:=by rw[hb];rfl
 obtain⟨c1,c2,c3⟩:=cs_told (s:=s) (L:=body) (fun c hc=>by
  rw[hhead] at hc
  obtain rfl:=Option.some.inj hc
  exact(dg_nx ha).2.2.2.2)
 have hRl:Rr.length≤101:=by
  rcases hR with ⟨h1,-⟩|⟨h1,h2⟩
  ·rw[h1];simp
  ·rw[h1,List.length_cons]
   have:=itoa_lenQ (x:=x) (by omega)
   omega
 have hlen:(sgL s body).length≤2000:=by
  have h1:body.length≤1202:=by
   rw[hb,List.length_append,List.length_append]
   unfold dtL
   split
   ·have h9:(46 :: B).length=B.length+1:=rfl
    omega
   ·have h9:([]:List UInt8).length=0:=rfl
    omega
  unfold sgL
  split
  ·rw[List.length_cons];omega
  ·omega
 obtain⟨p1,p2,p3⟩:=ps_dec hx
 have hst:StopD 10 dt Rr:=by
  rcases hR with ⟨h1,-⟩|⟨h1,-⟩
  ·exact .inl h1
  ·exact .inr ⟨101,Lib.itoa x,h1,by decide,fun _=>by decide⟩
 have hcase:=ps_case (S:=body) (.inl rfl) p1 p2 p3 hb (all_10 hA) (all_10 hB) hdt hst
 have hne:decide (a :: A'++B ≠ [])=true:=decide_eq_true (by simp)
 have hps:psOk body=true∧psD body=a :: A'++B∧psH body=B.length∧psX body=x:=by
  rcases hcase with ⟨h1,h2,h3,h4,h5⟩|⟨c,R',h1,h2,h3,h4,h5,h6⟩|⟨c,R',h1,h2,h3⟩
  ·rcases hR with ⟨-,g2⟩|⟨g1,-⟩
   ·exact⟨by rw[h2,hx,hne];rfl,h3,h4,by rw[h5,g2]⟩
   ·rw[h1] at g1;cases g1
  ·rcases hR with ⟨g1,-⟩|⟨g1,g2⟩
   ·rw[h1] at g1;cases g1
   ·rw[h1] at g1
    injection g1 with g3 g4
    subst g4
    obtain⟨e1,e2⟩:=ex_itoa (x:=x) (by omega)
    exact⟨by rw[h3,e1,hne];rfl,h4,h5,by rw[h6,e2]⟩
  ·rcases hR with ⟨g1,-⟩|⟨g1,g2⟩
   ·rw[h1] at g1;cases g1
   ·rw[h1] at g1
    injection g1 with g3 g4
    subst g3
    exact absurd h2 (by decide)
 obtain⟨q1,q2,q3,q4⟩:=hps
 have hd:∀ t:List UInt8,t.head?=some 105∨t.head?=some 110→body≠t:=by
  intro t ht h9
  rw[h9] at hhead
  rcases ht with ht|ht
  ·rw[ht] at hhead
   exact(dg_nx ha).2.2.1 (Option.some.inj hhead).symm
  ·rw[ht] at hhead
   exact(dg_nx ha).2.2.2.1 (Option.some.inj hhead).symm
 unfold rdA
 rw[if_neg (not_not_intro hm),if_neg (by omega),c2,if_neg (hd _ (.inl rfl)),if_neg (hd _ (.inr rfl)),q1,if_neg (by decide),q2,if_neg (by rw[List.length_append];omega),c3,p3,q3,q4]
theorem rdA_e {s:Bool} {d:List UInt8} {x m:Int} (hm:1≤m∧m≤3) (hd:∀ c ∈ d,isdT c=true) (h1:1≤d.length) (hl:d.length≤1100) (hx : -5000≤x∧x≤5000):rdA (sgL s (exL d (Lib.itoa x))) m=(rdFl s 10 d (d.length - 1) x m,0):=by
 have h:=rdA_told (s:=s) (dt:=decide (1<d.length)) (A:=d.take 1) (B:=d.drop 1) (Rr:=101 :: Lib.itoa x) (body:=exL d (Lib.itoa x)) (x:=x) hm (by
  unfold exL dtL
  by_cases h9:1<d.length
  ·rw[if_pos h9,if_pos (decide_eq_true h9)]
  ·rw[if_neg h9,if_neg (by rw[decide_eq_false h9];decide)]) (fun c hc=>hd c (List.mem_of_mem_take hc)) (fun c hc=>hd c (List.mem_of_mem_drop hc)) (fun h9=>by
  have:¬ 1<d.length:=of_decide_eq_false h9
  exact List.drop_eq_nil_of_le (by omega)) (by
  intro h9
  have:=congrArg List.length h9
  rw[List.length_take] at this
  have h8:([]:List UInt8).length=0:=rfl
  omega) (.inr ⟨rfl,hx⟩) (by rw[List.length_take,List.length_drop];omega)
 rw[List.take_append_drop,List.length_drop] at h
 exact h
theorem nz_mem (n:Int):∀ c ∈ nzL n,isdT c=true:=nzL_dg n
theorem dv_app (A B:List UInt8):dvP 10 (A++B) (A++B).length=dvP 10 A A.length*10^B.length+dvP 10 B B.length:=by
 rw[List.length_append,dvP_app,List.drop_left]
 have h:=dvP_take 10 (A++B) A.length A.length (Nat.le_refl _)
 rw[List.take_left] at h
 rw[h]
theorem dv_z (n:Nat):dvP 10 (List.replicate n 48) (List.replicate n 48:List UInt8).length=0:=by
 have h:=dv_nz n []
 rw[List.append_nil] at h
 rw[h]
 rfl
theorem sh_split (a:Nat):∃ z,dcR (shF a)=shD a++List.replicate z 48∧shF a=dvP 10 (shD a) (shD a).length*10^z∧shE a=(shD a).length+z - 1 - (16 - shX a):=by
 obtain⟨z,h1,-⟩:=trimR_split (dcT (shF a))
 have e:Lib.trimRightB (dcT (shF a)) 48=shD a:=rfl
 rw[e,dcT_eq] at h1
 refine⟨z,h1,?_,?_⟩
 ·have h2:=dv_dcR (shF a)
  rw[h1,dv_app,dv_z,List.length_replicate,Nat.add_zero] at h2
  exact h2.symm
 ·have h3:=congrArg List.length h1
  rw[List.length_append,List.length_replicate] at h3
  unfold shE
  rw[dcT_eq,h3]
  omega
theorem shD_dg (a:Nat):∀ c ∈ shD a,isdT c=true:=by
 obtain⟨z,h1,-,-⟩:=sh_split a
 intro c hc
 exact dcR_dg (shF a) c (by rw[h1];exact List.mem_append_left _ hc)
theorem e17:(10:Nat)^17=100000000000000000:=by decide
theorem fw_cap {g j:Nat} (hj:j≤16) (h:g<100000000000000000):g / fwU j*fwU j+fwU j≤100000000000000000:=by
 unfold fwU
 have e:(100000000000000000:Nat)=10^(j+1)*10^(16 - j):=by rw[←Nat.pow_add,show j+1+(16 - j)=17 by omega,e17]
 have hp:0<10^(16 - j):=Nat.pow_pos (by decide)
 rw[e] at h ⊢
 have h1:g / 10^(16 - j)<10^(j+1):=(Nat.div_lt_iff_lt_mul hp).2 h
 have h2:=Nat.mul_le_mul_right (10^(16 - j)) (show g / 10^(16 - j)+1≤10^(j+1)from h1)
 rw[Nat.add_mul,Nat.one_mul] at h2
 exact h2
theorem shF_cap {a:Nat} (h0:0<a) (h:a<9218868437227405312):shF a≤100000000000000000:=by
 obtain⟨g1,g2⟩:=shG_b h0 h
 have e:=shT_G h
 have h1:=fw_cap (shJ_le a) g2
 rw[←e] at h1
 have h2:fwL (shT a) (shJ a)+fwU (shJ a)≤100000000000000000:=h1
 unfold shF
 split <;> omega
theorem shD_17 {a:Nat} (h0:0<a) (h:a<9218868437227405312):(shD a).length≤17:=by
 have h1:=shF_cap h0 h
 have e:shD a=Lib.trimRightB (dcR (shF a)) 48:=by unfold shD;rw[dcT_eq]
 rcases Nat.lt_or_ge (shF a) 100000000000000000 with h2|h2
 ·rw[e]
  refine Nat.le_trans (trimR_len _ _) (dcR_le ?_)
  rw[e17];exact h2
 ·have h3:shF a=1*10^17:=by rw[e17];omega
  rw[e,h3,dcR_ten (by decide),trimR_app]
  refine Nat.le_trans (trimR_len _ _) (Nat.le_trans (dcR_le (b:=1) (by decide)) (by decide))
def ncS (p:Nat×Nat) (c:Nat):Nat×Nat:=if 49≤c∧c≤57 then(p.1+p.2+1,0)else if c=48∧0<p.1 then(p.1,p.2+1)else p
def ncN (L:List UInt8):Nat→Nat×Nat
 | 0=>(0,0)
 | i+1=>ncS (ncN L i) (bL L i)
def ncF (p:Nat×Nat) (L:List UInt8):Nat×Nat:=L.foldl (fun p c=>ncS p c.toNat) p
theorem ncN_F (L:List UInt8):∀ i,i≤L.length→ncN L i=ncF (0,0) (L.take i)
 | 0,_=>rfl
 | i+1,h=>by
  show ncS (ncN L i) (bL L i)=_
  rw[ncN_F L i (by omega),List.take_succ_eq_append_getElem (by omega)]
  unfold ncF bL
  rw[List.foldl_append,List.getElem?_eq_getElem (by omega)]
  rfl
theorem ncN_le (L:List UInt8):∀ i,(ncN L i).1+(ncN L i).2≤i
 | 0=>Nat.le_refl _
 | i+1=>by
  have ih:=ncN_le L i
  show(ncS (ncN L i) (bL L i)).1+(ncS (ncN L i) (bL L i)).2≤i+1
  unfold ncS
  split
  ·show(ncN L i).1+(ncN L i).2+1+0≤i+1;omega
  ·split
   ·show(ncN L i).1+((ncN L i).2+1)≤i+1;omega
   ·omega
theorem ncF_app (p:Nat×Nat) (A B:List UInt8):ncF p (A++B)=ncF (ncF p A) B:=by unfold ncF;rw[List.foldl_append]
theorem ncS_46 (p:Nat×Nat):ncS p 46=p:=by unfold ncS;rw[if_neg (by decide),if_neg (fun h=>absurd h.1 (by decide))]
theorem ncF_dot (p:Nat×Nat) (A B:List UInt8):ncF p (A++46 :: B)=ncF p (A++B):=by
 rw[ncF_app,ncF_app]
 show ncF (ncS (ncF p A) (46:UInt8).toNat) B=_
 rw[show(46:UInt8).toNat=46 from rfl,ncS_46]
theorem ncF_0 {A:List UInt8} (h:∀ c ∈ A,c.toNat<49∨57<c.toNat):ncF (0,0) A=(0,0):=by
 induction A with
 | nil=>rfl
 | cons c A ih =>
  have h1:=h c List.mem_cons_self
  have e:ncS (0,0) c.toNat=(0,0):=by
   unfold ncS
   rw[if_neg (by omega),if_neg (by rintro⟨-,h2⟩;exact absurd h2 (by decide))]
  show ncF (ncS (0,0) c.toNat) A=_
  rw[e]
  exact ih fun x hx=>h x (List.mem_cons_of_mem _ hx)
theorem isd_r {c:UInt8} (h:isdT c=true):48≤c.toNat∧c.toNat≤57:=by
 unfold isdT at h
 have h5:=Bool.and_eq_true_iff.1 h
 simp only[decide_eq_true_eq] at h5
 exact h5
theorem ncF_dg {D:List UInt8}:∀ (p:Nat×Nat),(∀ c ∈ D,isdT c=true)→1≤p.1→1≤(ncF p D).1∧(ncF p D).1+(ncF p D).2=p.1+p.2+D.length∧(∀ x,D.getLast?=some x→x≠48→(ncF p D).2=0):=by
 induction D with
 | nil=>exact fun p _ hp=>⟨hp,rfl,fun x hx=>by cases hx⟩
 | cons c D ih =>
  intro p hd hp
  have hc:=isd_r (hd c List.mem_cons_self)
  have h1:1≤(ncS p c.toNat).1∧(ncS p c.toNat).1+(ncS p c.toNat).2=p.1+p.2+1∧(c≠48→(ncS p c.toNat).2=0):=by
   unfold ncS
   by_cases h9:49≤c.toNat∧c.toNat≤57
   ·rw[if_pos h9]
    exact⟨by show 1≤p.1+p.2+1;omega,rfl,fun _=>rfl⟩
   ·have h8:c.toNat=48:=by omega
    rw[if_neg h9,if_pos ⟨h8,by omega⟩]
    refine⟨hp,by show p.1+(p.2+1)=_;omega,fun h7=>?_⟩
    exact absurd (UInt8.toNat_inj.1 (h8.trans (show(48:Nat)=(48:UInt8).toNat from rfl))) h7
  obtain⟨k1,k2,k3⟩:=ih (ncS p c.toNat) (fun x hx=>hd x (List.mem_cons_of_mem _ hx)) h1.1
  refine⟨k1,?_,?_⟩
  ·show(ncF (ncS p c.toNat) D).1+(ncF (ncS p c.toNat) D).2=_
   rw[k2,List.length_cons]
   omega
  ·intro x hx hx0
   show(ncF (ncS p c.toNat) D).2=0
   cases D with
   | nil =>
    have:c=x:=by simpa using hx
    subst this
    exact h1.2.2 hx0
   | cons c2 D2 =>
    refine k3 x ?_ hx0
    rw[List.getLast?_cons_cons] at hx
    exact hx
theorem ncF_all {d:List UInt8} (hd:∀ c ∈ d,isdT c=true) (h1:1≤d.length) (hh:∀ x,d.head?=some x→x≠48) (hl:∀ x,d.getLast?=some x→x≠48):ncF (0,0) d=(d.length,0):=by
 cases d with
 | nil=>simp at h1
 | cons c T =>
  have hc:=isd_r (hd c List.mem_cons_self)
  have hc0:c≠48:=hh c rfl
  have hc1:c.toNat≠48:=fun h=>hc0 (UInt8.toNat_inj.1 (h.trans (show(48:Nat)=(48:UInt8).toNat from rfl)))
  have e:ncS (0,0) c.toNat=(1,0):=by
   unfold ncS
   rw[if_pos (by omega)]
   rfl
  obtain⟨k1,k2,k3⟩:=ncF_dg (D:=T) (1,0) (fun x hx=>hd x (List.mem_cons_of_mem _ hx)) (Nat.le_refl _)
  show ncF (ncS (0,0) c.toNat) T=_
  rw[e]
  have h0:(ncF (1,0) T).2=0:=by
   cases T with
   | nil=>rfl
   | cons c2 T2 =>
    obtain⟨x,hx⟩:∃ x,(c2 :: T2).getLast?=some x:=⟨_,List.getLast?_eq_some_getLast (by simp)⟩
    refine k3 x hx (hl x ?_)
    rw[List.getLast?_cons_cons]
    exact hx
  rw[h0] at k2
  refine Prod.ext ?_ h0
  show(ncF (1,0) T).1=(c :: T).length
  rw[List.length_cons]
  have:(ncF (1,0) T).1+0=1+0+T.length:=k2
  omega
theorem ncF_z {p:Nat×Nat} (hp:1≤p.1):∀ k,(ncF p (List.replicate k 48)).1=p.1
 | 0=>rfl
 | k+1=>by
  have ih:=ncF_z hp k
  rw[List.replicate_succ',ncF_app]
  show(ncS (ncF p (List.replicate k 48)) (48:UInt8).toNat).1=_
  rw[show(48:UInt8).toNat=48 from rfl]
  unfold ncS
  rw[if_neg (by omega),if_pos ⟨rfl,by omega⟩]
  exact ih
theorem dcR_head (N:Nat):∀ x,(dcR N).head?=some x→x≠48:=by
 intro x hx h9
 have h1:=dv_dcR N
 cases h:dcR N with
 | nil=>rw[h] at hx;cases hx
 | cons c T =>
  rw[h] at hx h1
  obtain rfl:c=x:=Option.some.inj hx
  rw[h9] at h1
  have h2:dvP 10 (48 :: T) (48 :: T:List UInt8).length=dvP 10 T T.length:=dv_nz 1 T
  rw[h2] at h1
  have hT:∀ c ∈ T,isdT c=true:=fun y hy=>dcR_dg N y (by rw[h];exact List.mem_cons_of_mem _ hy)
  have h3:dvP 10 T T.length<10^T.length:=dvP_lt fun j hj=>dg_all (.inl rfl) (all_10 hT) j hj
  rw[h1] at h3
  have h4:=dcR_le h3
  rw[h,List.length_cons] at h4
  omega
theorem shD_head {a:Nat} (h0:0<a) (h:a<9218868437227405312):∀ x,(shD a).head?=some x→x≠48:=by
 obtain⟨z,h1,-,-⟩:=sh_split a
 obtain⟨hd,-⟩:=shD_pos h0 h
 intro x hx
 refine dcR_head (shF a) x ?_
 rw[h1]
 cases hD:shD a with
 | nil=>rw[hD] at hd;simp at hd
 | cons c T=>rw[hD] at hx;exact hx
theorem nr_shS {a:Nat} (h0:0<a) (h:a<9218868437227405312):∃ st,st≤(shS a).length∧(∀ i,i<st→bL (shS a) i≠101)∧(st=(shS a).length∨bL (shS a) st=101)∧(ncN (shS a) st).1=(shD a).length:=by
 obtain⟨hd,hl⟩:=shD_pos h0 h
 have hh:=shD_head h0 h
 have hdg:=shD_dg a
 unfold shS
 generalize shD a=d at *
 generalize shE a=x at *
 generalize Lib.itoa x=t at *
 have hall:=ncF_all hdg hd hh hl
 have h46:∀ P:List UInt8,(∀ c ∈ P,isdT c=true∨c=46)→∀ i,i<P.length→∀ R,bL (P++R) i≠101:=by
  intro P hP i hi R
  have h1:=hP P[i] (List.getElem_mem hi)
  have e:bL (P++R) i=P[i].toNat:=by
   unfold bL
   rw[List.getElem?_append_left hi,List.getElem?_eq_getElem hi]
   rfl
  rw[e]
  rcases h1 with h1|h1
  ·have:=isd_r h1;omega
  ·rw[h1];decide
 have hP:∀ A B:List UInt8,(∀ c ∈ A,isdT c=true)→(∀ c ∈ B,isdT c=true)→∀ c ∈ A++46 :: B,isdT c=true∨c=46:=by
  intro A B hA hB c hc
  rcases List.mem_append.1 hc with h|h
  ·exact .inl (hA c h)
  ·rcases List.mem_cons.1 h with h|h
   ·exact .inr h
   ·exact .inl (hB c h)
 by_cases hc:x < -5∨20<x
 ·rw[if_pos hc]
  obtain⟨P,hPe⟩:∃ P,P=d.take 1++(if 1<d.length then 46 :: d.drop 1 else []):=⟨_,rfl⟩
  have e:exL d t=P++101 :: t:=by unfold exL;rw[hPe]
  have hPd:∀ c ∈ P,isdT c=true∨c=46:=by
   rw[hPe]
   by_cases h9:1<d.length
   ·rw[if_pos h9]
    exact hP _ _ (fun c hc=>hdg c (List.mem_of_mem_take hc)) (fun c hc=>hdg c (List.mem_of_mem_drop hc))
   ·rw[if_neg h9,List.append_nil]
    exact fun c hc=>.inl (hdg c (List.mem_of_mem_take hc))
  have hPn:ncF (0,0) P=(d.length,0):=by
   rw[hPe]
   by_cases h9:1<d.length
   ·rw[if_pos h9,ncF_dot,List.take_append_drop,hall]
   ·rw[if_neg h9,List.append_nil,List.take_of_length_le (by omega),hall]
  rw[e]
  refine⟨P.length,by rw[List.length_append];omega,fun i hi=>h46 P hPd i hi _,.inr ?_,?_⟩
  ·unfold bL
   rw[List.getElem?_append_right (Nat.le_refl _),Nat.sub_self]
   rfl
  ·rw[ncN_F _ _ (by rw[List.length_append];omega),List.take_left' rfl,hPn]
 ·rw[if_neg hc]
  have key:∀ P:List UInt8,P=ptL d ((d.length:Int) - 1 - x)→(∀ c ∈ P,isdT c=true∨c=46)→(ncF (0,0) P).1=d.length→∃ st,st≤P.length∧(∀ i,i<st→bL P i≠101)∧(st=P.length∨bL P st=101)∧(ncN P st).1=d.length:=by
   intro P _ hPd hPn
   refine⟨P.length,Nat.le_refl _,fun i hi=>?_,.inl rfl,?_⟩
   ·have:=h46 P hPd i hi []
    rwa [List.append_nil] at this
   ·rw[ncN_F _ _ (Nat.le_refl _),List.take_length,hPn]
  refine key _ rfl ?_ ?_
  ·intro c hc
   by_cases hx0:x<0
   ·rw[pt_n hd hx0] at hc
    rcases List.mem_append.1 hc with h|h
    ·rcases List.mem_cons.1 h with h|h
     ·exact .inl (by rw[h];decide)
     ·exact .inr (List.mem_singleton.1 h)
    ·rcases List.mem_append.1 h with h|h
     ·exact .inl (nz_mem _ c h)
     ·exact .inl (hdg c h)
   ·by_cases hl2:(d.length:Int)≤x+1
    ·rw[pt_i hd hl2] at hc
     rcases List.mem_append.1 hc with h|h
     ·exact .inl (hdg c h)
     ·exact .inl (nz_mem _ c h)
    ·obtain⟨q,hq⟩:∃ q:Nat,x+1=(q:Int):=⟨(x+1).toNat,by omega⟩
     rw[pt_p hx0 hl2 hq] at hc
     exact hP _ _ (fun c hc=>hdg c (List.mem_of_mem_take hc)) (fun c hc=>hdg c (List.mem_of_mem_drop hc)) c hc
  ·by_cases hx0:x<0
   ·rw[pt_n hd hx0,←List.append_assoc,ncF_app,ncF_0,hall]
    intro c hc
    rcases List.mem_append.1 hc with h|h
    ·rcases List.mem_cons.1 h with h|h
     ·rw[h];decide
     ·obtain rfl:=List.mem_singleton.1 h;decide
    ·unfold nzL at h
     obtain⟨-,rfl⟩:=List.mem_replicate.1 h
     decide
   ·by_cases hl2:(d.length:Int)≤x+1
    ·rw[pt_i hd hl2,ncF_app,hall]
     exact ncF_z (by show 1≤d.length;exact hd) _
    ·obtain⟨q,hq⟩:∃ q:Nat,x+1=(q:Int):=⟨(x+1).toNat,by omega⟩
     rw[pt_p hx0 hl2 hq,ncF_dot,List.take_append_drop,hall]
theorem shTx_len {a:Nat} (ha:a<18446744073709551616):(shTx a).length≤30000:=by
 have hsg:∀ (s:Bool) (L:List UInt8),(sgL s L).length≤L.length+1:=fun s L=>by
  unfold sgL
  split
  ·exact Nat.le_of_eq (List.length_cons)
  ·omega
 unfold shTx
 split
 ·decide
 ·split
  ·exact Nat.le_trans (hsg _ _) (by decide)
  ·split
   ·exact Nat.le_trans (hsg _ _) (by decide)
   ·rename_i h1 h2 h3
    have hm0:0<mag a:=by omega
    obtain⟨hl2,hE⟩:=shE_b hm0 (by omega)
    have h9:=shS_len hl2 hE
    have:=hsg (neg a) (shS (mag a))
    omega
end Go.Proofs.YtfkaogdmlcdceaaGreatDoor
