/- Own work: contracts of the program's functions, part 16: DUD DUE DUF DUG DSP DUH DRI DRK DRL DRJ DRN DRO DRP DRQ DRR DRS DRT DUI DUJ DSQ DUK DUL DUM DUN DUO DUP DUQ DUR DUS DUT DTA DUU. -/
import Derived.Test.YtfkaogdmlcdceaaGreatDoorA15
import Derived.Test.YtfkaogdmlcdceaaGreatDoorA12
import Derived.Test.YtfkaogdmlcdceaaGreatDoorA13

set_option maxHeartbeats 16000000
set_option maxRecDepth 200000
set_option linter.unusedVariables false
set_option linter.unusedSimpArgs false
namespace Go.Proofs.YtfkaogdmlcdceaaGreatDoor
open Go Go.RowKit Go.Fl64
theorem nr_near {Z a:Nat} (hZ:Z≠0) (h0:0<a) (h:a<9218868437227405312):nrF (Z:Int)=a↔RdN a Z 1:=by
 have hkP:=kP_eq
 have hkQ:=kQ_n
 have hs:=(tz_spec _ _ (Nat.le_refl _) hZ).1
 have hx:Z / 2^tz Z≠0:=by intro h9;rw[h9,Nat.mul_zero] at hs;omega
 unfold nrF
 rw[un_partsB Z kQ hZ]
 rw[Nat.mul_comm] at hs
 generalize Z / 2^tz Z=x at *
 generalize tz Z=t at *
 generalize kQ=Q at *
 generalize kP=p at *
 obtain⟨K,hK⟩:∃ K:Nat,K=70000:=⟨_,rfl⟩
 show tfF false true x ((t:Int) - (Q:Int)) 2=a↔_
 rw[tf_bdy (by omega),sig_f]
 show bdy _ _ 1=a↔_
 rw[bdy_near (K:=K) (by omega) hx (by omega) h0 h,←RdN.scale (c:=a) (P:=Z) (Q:=1) (k:=UU K) (UU_pos K),Nat.one_mul]
 have e:2*VA K x ((t:Int) - (Q:Int))=Z*UU K:=by
  unfold VA UU
  rw[←hs]
  have e1:2*(x*2^((t:Int) - (Q:Int)+(K:Int)).toNat)=x*2^(((t:Int) - (Q:Int)+(K:Int)).toNat+1):=by rw[Nat.pow_succ];ac_rfl
  rw[e1,Nat.mul_assoc,←Nat.pow_add,pe (show((t:Int) - (Q:Int)+(K:Int)).toNat+1=t+(K - 1074) by omega)]
 rw[e]
theorem nr_le {Z:Nat} (hZ:Z≠0):nrF (Z:Int)≤9218868437227405312:=by
 unfold nrF
 rw[un_partsB Z kQ hZ]
 show tfF false true _ _ 2≤_
 rw[tf_bdy (by omega),sig_f]
 exact bdy_le _ _ _
theorem isR_near {Z a:Nat} (hZ:Z≠0) (h0:0<a) (h:a<9218868437227405312):isR (Z:Int) a=true↔RdN a Z 1:=by
 have hl:=nr_le hZ
 rw[←nr_near hZ h0 h]
 unfold isR
 rw[ord_eq _ a (by omega) (by omega),eq_pos hl (by omega)]
 exact decide_eq_true_iff
theorem isR_lo {a:Nat} (h0:0<a) (h:a<9218868437227405312):isR (loZ a) a=decide (a % 2=0):=by
 have m1:bv (a - 1)<bv a:=bv_lt (by omega)
 have m2:bv a<bv (a+1):=bv_succ a
 rw[loZ_bv h0 h]
 have:=isR_near (Z:=bv (a - 1)+bv a) (by omega) h0 h
 unfold RdN at this
 rw[Bool.eq_iff_iff,this,decide_eq_true_iff]
 constructor
 ·rintro⟨h1|h1,-⟩ <;> omega
 ·intro h1;exact⟨.inr (by omega),.inl (by omega)⟩
theorem isR_hi {a:Nat} (h0:0<a) (h:a<9218868437227405312):isR (hiZ a) a=decide (a % 2=0):=by
 have m1:bv (a - 1)<bv a:=bv_lt (by omega)
 have m2:bv a<bv (a+1):=bv_succ a
 rw[hiZ_bv h]
 have:=isR_near (Z:=bv a+bv (a+1)) (by omega) h0 h
 unfold RdN at this
 rw[Bool.eq_iff_iff,this,decide_eq_true_iff]
 constructor
 ·rintro⟨-,h1|h1⟩ <;> omega
 ·intro h1;exact⟨.inl (by omega),.inr (by omega)⟩
theorem exq_nat (Z a:Nat):exq (Z:Int) a=decide (Z*shO a % (shU a*2^kQ)=0):=by
 unfold exq
 rw[←Int.natCast_mul,←Int.natCast_emod]
 exact decide_eq_decide.2 (by omega)
theorem lo_pure {p d N:Nat} {ev:Prop} [Decidable ev] (hd:0<d):(if(decide (p % d=0)&&decide ev)=true then p / d else p / d+1)≤N↔p<N*d∨(p=N*d∧ev):=by
 have hp:=Nat.div_add_mod p d
 have hm:=Nat.mod_lt p hd
 by_cases c:p % d=0∧ev
 ·rw[if_pos (by simpa using c)]
  have e:p / d*d=p:=Nat.div_mul_cancel (Nat.dvd_of_mod_eq_zero c.1)
  constructor
  ·intro h
   have:=Nat.mul_le_mul_right d h
   rw[e] at this
   rcases Nat.lt_or_ge p (N*d)with h1|h1
   ·exact .inl h1
   ·exact .inr ⟨by omega,c.2⟩
  ·intro h
   refine Nat.le_of_mul_le_mul_right (c:=d) ?_ hd
   rw[e]
   rcases h with h|⟨h,-⟩ <;> omega
 ·rw[if_neg (by simpa using c)]
  have h1:p / d+1≤N↔p<N*d:=Nat.div_lt_iff_lt_mul hd
  rw[h1]
  constructor
  ·exact .inl
  ·rintro(h2|⟨h2,h3⟩)
   ·exact h2
   ·exfalso;exact c ⟨by rw[h2];exact Nat.mul_mod_left _ _,h3⟩
theorem hi_pure {p d N:Nat} {ev:Prop} [Decidable ev] (hd:0<d) (h0:0<p / d):N≤(if(decide (p % d=0) && !decide ev)=true then p / d - 1 else p / d)↔N*d<p∨(N*d=p∧ev):=by
 by_cases c:p % d=0∧¬ ev
 ·rw[if_pos (by simpa using c)]
  have e:p / d*d=p:=Nat.div_mul_cancel (Nat.dvd_of_mod_eq_zero c.1)
  constructor
  ·intro h
   left
   have h1:N<p / d:=by omega
   have:=Nat.mul_lt_mul_of_pos_right h1 hd
   rwa [e] at this
  ·rintro(h|⟨-,h⟩)
   ·rw[←e] at h
    have:=Nat.lt_of_mul_lt_mul_right h
    omega
   ·exact absurd h c.2
 ·rw[if_neg (by simpa using c),Nat.le_div_iff_mul_le hd]
  constructor
  ·intro h
   rcases Nat.lt_or_ge (N*d) p with h1|h1
   ·exact .inl h1
   ·right
    refine⟨by omega,?_⟩
    have h2:p % d=0:=by rw[show p=N*d by omega];exact Nat.mul_mod_left _ _
    exact Classical.byContradiction fun h3=>c ⟨h2,h3⟩
  ·rintro(h|⟨h,-⟩) <;> omega
theorem shL_iff {a N:Nat} (h0:0<a) (h:a<9218868437227405312):shL a≤N↔(bv (a - 1)+bv a)*shO a<N*(shU a*2^kQ)∨((bv (a - 1)+bv a)*shO a=N*(shU a*2^kQ)∧a % 2=0):=by
 have hd:0<shU a*2^kQ:=Nat.mul_pos (Nat.pow_pos (by decide)) (twB_pos _)
 have e1:shN a=(bv (a - 1)+bv a)*shO a / (shU a*2^kQ):=by unfold shN;rw[loZ_bv h0 h,flQ_nat,Int.toNat_natCast]
 unfold shL
 rw[e1,isR_lo h0 h,loZ_bv h0 h,exq_nat,lo_pure hd]
theorem shH_iff {a N:Nat} (h0:0<a) (h:a<9218868437227405312):N≤shH a↔N*(shU a*2^kQ)<(bv a+bv (a+1))*shO a∨(N*(shU a*2^kQ)=(bv a+bv (a+1))*shO a∧a % 2=0):=by
 have hhi:=(shOk h0 h).hi
 have hd:0<shU a*2^kQ:=Nat.mul_pos (Nat.pow_pos (by decide)) (twB_pos _)
 have e2:shM a=(bv a+bv (a+1))*shO a / (shU a*2^kQ):=by unfold shM;rw[hiZ_bv h,flQ_nat,Int.toNat_natCast]
 have e3:0<(bv a+bv (a+1))*shO a / (shU a*2^kQ):=by
  rw[hiZ_bv h,flQ_nat] at hhi
  exact Int.natCast_pos.1 hhi
 unfold shH
 rw[e2,isR_hi h0 h,hiZ_bv h,exq_nat,hi_pure hd e3]
theorem sh_iff {a N:Nat} (h0:0<a) (h:a<9218868437227405312):(shL a≤N∧N≤shH a)↔RdN a (N*(shU a*2^kQ)) (shO a):=by
 rw[shL_iff h0 h,shH_iff h0 h,RdN]
theorem gap53 (b:Nat):bv (b+1)≤9007199254740992*(bv (b+1) - bv b):=by
 have hg:=bv_gapS b
 by_cases h:b<4503599627370496
 ·have e1:=bv_at (j:=0) (q:=b+1) (.inl ⟨rfl,by omega⟩)
  rw[show max 1 (b / 4503599627370496) - 1=0 by omega] at hg
  simp at e1 hg
  omega
 ·have e1:=bv_at (j:=b / 4503599627370496 - 1) (q:=4503599627370496+b % 4503599627370496+1) (.inr ⟨by omega,by omega⟩)
  rw[show(b / 4503599627370496 - 1)*4503599627370496+(4503599627370496+b % 4503599627370496+1)=b+1 by omega] at e1
  rw[show max 1 (b / 4503599627370496) - 1=b / 4503599627370496 - 1 by omega] at hg
  rw[show bv (b+1) - bv b=2^(b / 4503599627370496 - 1) by rw[hg,Nat.add_sub_cancel_left],e1]
  exact Nat.mul_le_mul_right _ (by omega)
theorem gapN {x y O d g:Nat} (h:x≤9007199254740992*y) (hg:10000000000000000*d≤x*O) (hd:0<d):d<y*O:=by
 have h1:x*O≤9007199254740992*(y*O):=by rw[←Nat.mul_assoc];exact Nat.mul_le_mul_right _ h
 omega
theorem sh17 {a:Nat} (h0:0<a) (h:a<9218868437227405312):shL a≤shG a∨shG a+1≤shH a:=by
 obtain⟨g1,-⟩:=shG_b h0 h
 have hd:0<shU a*2^kP:=Nat.mul_pos (Nat.pow_pos (by decide)) (twB_pos _)
 rw[shL_iff h0 h,shH_iff h0 h,kQ_q]
 have m1:bv (a - 1)<bv a:=bv_lt (by omega)
 have m2:bv a<bv (a+1):=bv_succ a
 have q1:=gap53 (a - 1)
 have q2:=gap53 a
 rw[show a - 1+1=a by omega] at q1
 have hdm:=Nat.div_add_mod (bv a*shO a) (shU a*2^kP)
 have hm:=Nat.mod_lt (bv a*shO a) hd
 have hG:bv a*shO a / (shU a*2^kP)=shG a:=rfl
 rw[hG] at hdm
 generalize shG a=G at *
 generalize shU a*2^kP=d at *
 have hN:10000000000000000*d≤bv a*shO a:=by
  have:10000000000000000*d≤G*d:=Nat.mul_le_mul_right _ g1
  rw[Nat.mul_comm d G] at hdm
  omega
 have k1:=gapN (g:=0) q1 hN hd
 have k2:=gapN (x:=bv a) (y:=bv (a+1) - bv a) (g:=0) (by omega) hN hd
 obtain⟨u,hu⟩:∃ u,bv a=bv (a - 1)+u:=⟨bv a - bv (a - 1),by omega⟩
 obtain⟨v,hv⟩:∃ v,bv (a+1)=bv a+v:=⟨bv (a+1) - bv a,by omega⟩
 rw[show bv a - bv (a - 1)=u by omega] at k1
 rw[show bv (a+1) - bv a=v by omega] at k2
 have e1:(bv (a - 1)+bv a)*shO a+u*shO a=2*(bv a*shO a):=by
  rw[←Nat.add_mul,←Nat.mul_assoc]
  congr 1
  omega
 have e2:(bv a+bv (a+1))*shO a=2*(bv a*shO a)+v*shO a:=by
  rw[←Nat.mul_assoc,←Nat.add_mul]
  congr 1
  omega
 have e3:G*(2*d)=2*(d*G):=by ac_rfl
 have e4:(G+1)*(2*d)=2*(d*G)+2*d:=by rw[Nat.add_mul,e3,Nat.one_mul]
 rw[e2,e3,e4]
 generalize bv a*shO a % d=r at *
 generalize bv a*shO a=N at *
 generalize (bv (a - 1)+bv a)*shO a=L at *
 generalize u*shO a=U' at *
 generalize v*shO a=V' at *
 generalize d*G=dG at *
 rcases Nat.lt_or_ge d (2*r)with hr|hr
 ·right;left;omega
 ·left;left;omega
theorem tenX {a b:Nat} (h:a=b):(10:Nat)^a=10^b:=by rw[h]
theorem tn_cross (k:Int) (j:Nat):tnU k*tnO (k+j)=10^j*tnU (k+j)*tnO k:=by
 unfold tnU tnO
 rw[←Nat.pow_add,←Nat.pow_add,←Nat.pow_add]
 exact tenX (by omega)
def loD (a i:Nat):Nat:=scF (fU a) ((i:Int) - shX a)
def exD (a i:Nat):Bool:=scE (fU a) ((i:Int) - shX a)
def hiD (a i:Nat):Nat:=if exD a i then loD a i else loD a i+1
def Bk (a N:Nat) (k:Int):Prop:=RdN a (N*(tnU k*2^kQ)) (tnO k)
theorem loD_fw {a i:Nat} (hi:i≤16) (h0:0<a) (h:a<9218868437227405312):loD a i*fwU i=fwL (shT a) i:=by
 have h1:=scF_down (fU a) (16 - shX a) (16 - i)
 rw[show 16 - shX a - ((16 - i:Nat):Int)=(i:Int) - shX a by omega] at h1
 have e2:scF (fU a) (16 - shX a)=shG a:=by
  unfold scF shG shO shU
  rw[←kU_kP,fU_bv (by omega)]
 have hT:shT a / 2=shG a:=by
  unfold shT shTz shG
  rw[sZ_bv (by omega),←Int.natCast_mul,←Int.natCast_ediv,Int.toNat_natCast,kP_q,sh_half]
 unfold loD fwL fwU
 rw[h1,e2,hT]
theorem shG_H {a:Nat} (h0:0<a) (h:a<9218868437227405312):shG a≤shH a∧shL a≤shG a+1:=by
 have hd:0<shU a*2^kP:=Nat.mul_pos (Nat.pow_pos (by decide)) (twB_pos _)
 rw[shL_iff h0 h,shH_iff h0 h,kQ_q]
 have m1:bv (a - 1)<bv a:=bv_lt (by omega)
 have m2:bv a<bv (a+1):=bv_succ a
 have hO:0<shO a:=Nat.pow_pos (by decide)
 have hdm:=Nat.div_add_mod (bv a*shO a) (shU a*2^kP)
 have hm:=Nat.mod_lt (bv a*shO a) hd
 have hG:bv a*shO a / (shU a*2^kP)=shG a:=rfl
 rw[hG] at hdm
 have e1:(bv (a - 1)+bv a)*shO a<2*(bv a*shO a):=by rw[←Nat.mul_assoc];exact Nat.mul_lt_mul_of_pos_right (by omega) hO
 have e2:2*(bv a*shO a)<(bv a+bv (a+1))*shO a:=by rw[←Nat.mul_assoc];exact Nat.mul_lt_mul_of_pos_right (by omega) hO
 generalize shG a=G at *
 generalize shU a*2^kP=d at *
 have e3:G*(2*d)=2*(d*G):=by ac_rfl
 have e4:(G+1)*(2*d)=2*(d*G)+2*d:=by rw[Nat.add_mul,e3,Nat.one_mul]
 rw[e3,e4]
 generalize bv a*shO a % d=r at *
 generalize bv a*shO a=N at *
 generalize (bv (a - 1)+bv a)*shO a=L at *
 generalize (bv a+bv (a+1))*shO a=H at *
 generalize d*G=dG at *
 exact⟨.inl (by omega),.inl (by omega)⟩
theorem shT_G {a:Nat} (h:a<9218868437227405312):shT a / 2=shG a:=by
 unfold shT shTz shG
 rw[sZ_bv (by omega),←Int.natCast_mul,←Int.natCast_ediv,Int.toNat_natCast,kP_q,sh_half]
theorem fwG {a i:Nat} (h:a<9218868437227405312):fwL (shT a) i≤shG a∧shG a+1≤fwL (shT a) i+fwU i:=by
 have e:=shT_G h
 unfold fwL
 rw[e]
 have h1:=Nat.div_add_mod (shG a) (fwU i)
 have h2:=Nat.mod_lt (shG a) (fwU_pos i)
 rw[Nat.mul_comm] at h1
 omega
def mdM (a i:Nat):Nat:=2*fwL (shT a) i+fwU i
theorem sc_key {A low r Ok Uk O U K u N d1:Nat} (hA:A*Ok=Uk*(2*K)*low+r) (hc:Uk*O=u*U*Ok) (hN:N=A*O) (hd:d1=U*K) :
  (2*low*u*d1)*(2*Ok)+2*r*O=N*(2*Ok)∧(u*d1)*(2*Ok)=Uk*(2*K)*O:=by
 subst hN hd
 constructor
 ·have e1:A*O*(2*Ok)=2*(A*Ok)*O:=by ac_rfl
  rw[e1,hA,Nat.mul_add,Nat.add_mul]
  have e2:2*(Uk*(2*K)*low)*O=2*(2*K)*low*(Uk*O):=by ac_rfl
  rw[e2,hc]
  congr 1
  ac_rfl
 ·have e3:Uk*(2*K)*O=2*K*(Uk*O):=by ac_rfl
  rw[e3,hc]
  ac_rfl
theorem sc_cmp {Q r O N M d1 Ok low2u ud:Nat} (hO:0<O) (hOk:0<Ok) (h1:low2u*d1*(2*Ok)+2*r*O=N*(2*Ok)) (h2:ud*d1*(2*Ok)=Q*O) (hM:M=low2u+ud):(Q<2*r↔M*d1<N)∧(2*r=Q↔N=M*d1):=by
 have e:M*d1*(2*Ok)=low2u*d1*(2*Ok)+Q*O:=by rw[hM,Nat.add_mul,Nat.add_mul,h2]
 have k1:M*d1<N↔M*d1*(2*Ok)<N*(2*Ok):=(Nat.mul_lt_mul_right (by omega)).symm
 have k2:N=M*d1↔N*(2*Ok)=M*d1*(2*Ok):=⟨fun h=>by rw[h],fun h=>Nat.eq_of_mul_eq_mul_right (by omega) h⟩
 have k3:Q<2*r↔Q*O<2*r*O:=(Nat.mul_lt_mul_right hO).symm
 have k4:2*r=Q↔2*r*O=Q*O:=⟨fun h=>by rw[h],fun h=>Nat.eq_of_mul_eq_mul_right hO h⟩
 rw[k1,k2,k3,k4,e,←h1]
 omega
theorem sc_half {a i:Nat} (hi:i≤16) (h0:0<a) (h:a<9218868437227405312) :
  (tnU ((i:Int) - shX a)*kU<2*scR (fU a) ((i:Int) - shX a)↔mdM a i*(shU a*2^kP1)<bv a*shO a)∧(2*scR (fU a) ((i:Int) - shX a)=tnU ((i:Int) - shX a)*kU↔bv a*shO a=mdM a i*(shU a*2^kP1)):=by
 have hc:=tn_cross ((i:Int) - shX a) (16 - i)
 rw[show(i:Int) - shX a+((16 - i:Nat):Int)=16 - shX a by omega] at hc
 obtain⟨s1,-⟩:=sc_eq (fU a) ((i:Int) - shX a)
 have hl:=loD_fw hi h0 h
 have hO:0<tnO (16 - shX a):=Nat.pow_pos (by decide)
 have hOk:0<tnO ((i:Int) - shX a):=Nat.pow_pos (by decide)
 unfold mdM
 rw[←hl,fU_bv (by omega)] at *
 unfold loD fwU shO shU
 rw[fU_bv (by omega),kP1_half] at *
 generalize scF (bv a) ((i:Int) - shX a)=low at *
 generalize scR (bv a) ((i:Int) - shX a)=r at *
 generalize tnO (16 - shX a)=O at *
 generalize tnU (16 - shX a)=U at *
 generalize tnO ((i:Int) - shX a)=o at *
 generalize tnU ((i:Int) - shX a)=u at *
 generalize 2^kP1=K at *
 obtain⟨k1,k2⟩:=sc_key (A:=bv a) (low:=low) (r:=r) (Ok:=o) (Uk:=u) (O:=O) (U:=U) (K:=K) (u:=10^(16 - i)) s1 hc rfl rfl
 exact sc_cmp hO hOk (low2u:=2*low*10^(16 - i)) (ud:=10^(16 - i)) k1 k2 (by rw[Nat.mul_assoc])
theorem ab_pure {N d M T:Nat} (hd:0<d) (hT:T=N / d):(M*d<N↔M<T∨(T=M∧¬ N % d=0))∧(N=M*d↔T=M∧N % d=0):=by
 have h1:=Nat.div_add_mod N d
 have h2:=Nat.mod_lt N hd
 rw[←hT,Nat.mul_comm] at h1
 have key:∀ x y:Nat,x<y→x*d+d≤y*d:=fun x y hxy=>by
  have:=Nat.mul_le_mul_right d (show x+1≤y from hxy)
  rwa [Nat.add_mul,Nat.one_mul] at this
 rcases Nat.lt_trichotomy M T with c|c|c
 ·have:=key M T c
  constructor <;> constructor
  ·intro _;exact .inl c
  ·intro _;omega
  ·intro _;omega
  ·rintro⟨k,-⟩;omega
 ·subst c
  constructor <;> constructor
  ·intro _;exact .inr ⟨rfl,by omega⟩
  ·rintro(k|⟨-,k⟩) <;> omega
  ·intro _;exact⟨rfl,by omega⟩
  ·rintro⟨-,k⟩;omega
 ·have:=key T M c
  constructor <;> constructor
  ·intro _;omega
  ·rintro(k|⟨k,-⟩) <;> omega
  ·intro _;omega
  ·rintro⟨k,-⟩;omega
theorem shA_doc {a:Nat} (hJ:shJ a≤16) (h0:0<a) (h:a<9218868437227405312):shA a=decide (tnU ((shJ a:Int) - shX a)*kU<2*scR (fU a) ((shJ a:Int) - shX a)∨(2*scR (fU a) ((shJ a:Int) - shX a)=tnU ((shJ a:Int) - shX a)*kU∧loD a (shJ a) % 2=1)):=by
 obtain⟨k1,k2⟩:=sc_half hJ h0 h
 have hl:=loD_fw hJ h0 h
 have hu:=fwU_pos (shJ a)
 have hle:=fwL_le (shT a) (shJ a)
 have hd:0<shU a*2^kP1:=Nat.mul_pos (Nat.pow_pos (by decide)) (twB_pos _)
 have hT:shT a=bv a*shO a / (shU a*2^kP1):=by
  unfold shT shTz
  rw[sZ_bv (by omega),←Int.natCast_mul,←Int.natCast_ediv,Int.toNat_natCast]
 have hI:shI a=decide (bv a*shO a % (shU a*2^kP1)=0):=by
  unfold shI
  rw[sZ_bv (by omega),←Int.natCast_mul,←Int.natCast_emod]
  exact decide_eq_decide.2 (by omega)
 obtain⟨p1,p2⟩:=ab_pure (M:=mdM a (shJ a)) hd hT
 have hq:fwL (shT a) (shJ a) / fwU (shJ a)=loD a (shJ a):=by rw[←hl,Nat.mul_div_cancel _ hu]
 rw[Bool.eq_iff_iff,decide_eq_true_iff,k1,k2,p1,p2]
 unfold shA
 rw[hI,hq]
 unfold mdM
 simp only[Bool.or_eq_true,Bool.and_eq_true,decide_eq_true_iff,Bool.not_eq_true',decide_eq_false_iff_not]
 generalize bv a*shO a % (shU a*2^kP1)=R
 generalize loD a (shJ a)=low
 generalize fwL (shT a) (shJ a)=l at *
 generalize fwU (shJ a)=u at *
 generalize shT a=T at *
 omega
theorem fwS_le (L H T:Nat):∀ n j,n+j=16→fwS L H T n j≤16:=by
 intro n
 induction n with
 | zero=>intro j hj;unfold fwS;omega
 | succ n ih =>
  intro j hj
  unfold fwS
  split
  ·exact ih (j+1) (by omega)
  ·omega
theorem shJ_le (a:Nat):shJ a≤16:=fwS_le _ _ _ 16 0 rfl
theorem shJ_spec {a:Nat} (h0:0<a) (h:a<9218868437227405312):(∀ i,i<shJ a→¬ shL a≤fwL (shT a) i∧¬ fwL (shT a) i+fwU i≤shH a)∧(shL a≤fwL (shT a) (shJ a)∨fwL (shT a) (shJ a)+fwU (shJ a)≤shH a):=by
 obtain⟨s1,s2⟩:=fwS_spec (shL a) (shH a) (shT a) 16 0 rfl (fun i hi=>absurd hi (by omega))
 have hle:=shJ_le a
 refine⟨fun i hi=>?_,?_⟩
 ·have:=s1 i hi
  omega
 ·show shL a≤fwL (shT a) (shJ a)∨_
  by_cases c:1<fwU (shJ a)
  ·have:=fun x=>s2 ⟨c,x⟩
   by_cases d:shL a≤fwL (shT a) (shJ a)
   ·exact .inl d
   ·right
    rcases Nat.lt_or_ge (shH a) (fwL (shT a) (shJ a)+fwU (shJ a))with e|e
    ·exact absurd ⟨by unfold shJ at d;omega,by unfold shJ at e;exact e⟩ this
    ·exact e
  ·have hu:=fwU_pos (shJ a)
   have e1:fwU (shJ a)=1:=by omega
   have e2:fwL (shT a) (shJ a)=shG a:=by
    unfold fwL
    rw[e1,Nat.mul_one,Nat.div_one,shT_G h]
   rw[e1,e2]
   exact sh17 h0 h
theorem ex_lo {a i:Nat} (hi:i≤16) (h0:0<a) (h:a<9218868437227405312) (he:exD a i=true):shL a≤fwL (shT a) i∧scR (fU a) ((i:Int) - shX a)=0:=by
 have hr:scR (fU a) ((i:Int) - shX a)=0:=by
  unfold exD scE at he
  unfold scR
  exact of_decide_eq_true he
 refine⟨?_,hr⟩
 have hc:=tn_cross ((i:Int) - shX a) (16 - i)
 rw[show(i:Int) - shX a+((16 - i:Nat):Int)=16 - shX a by omega] at hc
 obtain⟨s1,-⟩:=sc_eq (fU a) ((i:Int) - shX a)
 have hl:=loD_fw hi h0 h
 have m1:bv (a - 1)<bv a:=bv_lt (by omega)
 have hO:0<tnO (16 - shX a):=Nat.pow_pos (by decide)
 have hOk:0<tnO ((i:Int) - shX a):=Nat.pow_pos (by decide)
 rw[shL_iff h0 h,←hl]
 left
 rw[hr,Nat.add_zero,fU_bv (by omega)] at s1
 unfold loD fwU shO shU
 rw[fU_bv (by omega),kQ_q,kU_kP] at *
 generalize scF (bv a) ((i:Int) - shX a)=low at *
 generalize tnO (16 - shX a)=O at *
 generalize tnU (16 - shX a)=U at *
 generalize tnO ((i:Int) - shX a)=o at *
 generalize tnU ((i:Int) - shX a)=u at *
 generalize kU=K at *
 have e1:low*10^(16 - i)*(2*(U*K))*o=2*bv a*O*o:=by
  have e2:low*10^(16 - i)*(2*(U*K))*o=2*(K*low)*(10^(16 - i)*U*o):=by ac_rfl
  have e3:2*bv a*O*o=2*(bv a*o)*O:=by ac_rfl
  rw[e2,←hc,e3,s1]
  ac_rfl
 have e4:=Nat.eq_of_mul_eq_mul_right hOk e1
 rw[e4]
 exact Nat.mul_lt_mul_of_pos_right (by omega) hO
def bsD (a:Nat):Nat:=if shL a≤fwL (shT a) (shJ a)∧(exD a (shJ a)=true∨¬ (fwL (shT a) (shJ a)+fwU (shJ a)≤shH a∧shA a=true))then loD a (shJ a)else loD a (shJ a)+1
theorem shF_doc {a:Nat} (h0:0<a) (h:a<9218868437227405312):shF a=bsD a*fwU (shJ a):=by
 have hl:=loD_fw (shJ_le a) h0 h
 unfold shF bsD
 by_cases he:exD a (shJ a)=true
 ·obtain⟨k1,k2⟩:=ex_lo (shJ_le a) h0 h he
  have hA:shA a=false:=by
   rw[shA_doc (shJ_le a) h0 h,k2]
   refine decide_eq_false ?_
   have:=tnU_pos ((shJ a:Int) - shX a)
   rintro(h1|⟨h1,-⟩) <;> omega
  have n1:¬ (fwL (shT a) (shJ a)<shL a∨(shA a=true∧fwL (shT a) (shJ a)+fwU (shJ a)≤shH a)):=by
   intro h1
   rcases h1 with h1|h1
   ·omega
   ·rw[hA] at h1;exact absurd h1.1 (by decide)
  rw[if_neg n1,if_pos ⟨k1,.inl he⟩,hl]
 ·by_cases c:shL a≤fwL (shT a) (shJ a)
  ·by_cases d:fwL (shT a) (shJ a)+fwU (shJ a)≤shH a∧shA a=true
   ·rw[if_pos (.inr ⟨d.2,d.1⟩),if_neg (by rintro⟨-,h1|h1⟩;exact he h1;exact h1 d),Nat.add_mul,hl,Nat.one_mul]
   ·rw[if_neg (by rintro(h1|h1);omega;exact d ⟨h1.2,h1.1⟩),if_pos ⟨c,.inr d⟩,hl]
  ·rw[if_pos (.inl (by omega)),if_neg (by rintro⟨h1,-⟩;exact c h1),Nat.add_mul,hl,Nat.one_mul]
theorem shF_read {a:Nat} (h0:0<a) (h:a<9218868437227405312):shL a≤shF a∧shF a≤shH a:=by
 obtain⟨g1,g2⟩:=shG_H h0 h
 obtain⟨f1,f2⟩:=fwG (i:=shJ a) h
 obtain⟨-,s2⟩:=shJ_spec h0 h
 unfold shF
 split
 ·rename_i c
  rcases c with c|c
  ·rcases s2 with s2|s2 <;> omega
  ·omega
 ·rename_i c
  constructor
  ·rcases Nat.lt_or_ge (fwL (shT a) (shJ a)) (shL a)with e|e
   ·exact absurd (.inl e) c
   ·exact e
  ·omega
theorem dot_nd {b:Int}:isDg 46 b=false:=by unfold isDg;simp
def StopD (b:Int) (dt:Bool) (R:List UInt8):Prop:=R = []∨∃ c R',R=c :: R'∧isDg c.toNat b=false∧(dt=false→c≠46)
def dtL (dt:Bool) (B:List UInt8):List UInt8:=if dt then 46 :: B else []
theorem split_dg {b:Int}:∀ {P A:List UInt8} {u v:UInt8} {U V:List UInt8},allDg P b=true→allDg A b=true→isDg u.toNat b=false→isDg v.toNat b=false→P++u :: U=A++v :: V→P=A∧u=v∧U=V
 | [],[],u,v,U,V,_,_,_,_,h=>by
  simp at h
  exact⟨rfl,h.1,h.2⟩
 | [],a :: A,u,v,U,V,_,hA,hu,_,h=>by
  simp at h
  unfold allDg at hA
  rw[List.all_cons,Bool.and_eq_true] at hA
  rw[h.1] at hu
  rw[hA.1] at hu
  cases hu
 | p :: P,[],u,v,U,V,hP,_,_,hv,h=>by
  simp at h
  unfold allDg at hP
  rw[List.all_cons,Bool.and_eq_true] at hP
  rw[←h.1] at hv
  rw[hP.1] at hv
  cases hv
 | p :: P,a :: A,u,v,U,V,hP,hA,hu,hv,h=>by
  simp at h
  unfold allDg at hP hA
  rw[List.all_cons,Bool.and_eq_true] at hP hA
  obtain⟨h1,h2,h3⟩:=split_dg (b:=b) (P:=P) (A:=A) (by unfold allDg;exact hP.2) (by unfold allDg;exact hA.2) hu hv h.2
  exact⟨by rw[h.1,h1],h2,h3⟩
theorem allDg_app {A B:List UInt8} {b:Int}:allDg (A++B) b=(allDg A b&&allDg B b):=by unfold allDg;rw[List.all_append]
theorem allDg_mem {A:List UInt8} {b:Int} (h:allDg A b=true):∀ c ∈ A,isDg c.toNat b=true:=by
 unfold allDg at h
 exact List.all_eq_true.1 h
theorem ixb_app {c:UInt8}:∀ {A T:List UInt8},(∀ x ∈ A,x≠c)→Lib.indexByte (A++c :: T) c=(A.length:Nat)
 | [],T,_=>by simp[Lib.indexByte]
 | a :: A,T,h=>by
  have h1:=ixb_app (A:=A) (T:=T) (fun x hx=>h x (List.mem_cons_of_mem _ hx))
  have h2:(a==c)=false:=by rw[beq_eq_false_iff_ne];exact h a (List.mem_cons_self ..)
  rw[List.cons_append]
  unfold Lib.indexByte
  rw[h2,h1]
  simp
theorem ixb_none {c:UInt8}:∀ {A:List UInt8},(∀ x ∈ A,x≠c)→Lib.indexByte A c = -1
 | [],_=>rfl
 | a :: A,h=>by
  have h1:=ixb_none (A:=A) (fun x hx=>h x (List.mem_cons_of_mem _ hx))
  have h2:(a==c)=false:=by rw[beq_eq_false_iff_ne];exact h a (List.mem_cons_self ..)
  unfold Lib.indexByte
  rw[h2,h1]
  simp
theorem ixa_app {M:List UInt8} {c:UInt8} (hc:M.contains c=true):∀ {A T:List UInt8},(∀ x ∈ A,M.contains x=false)→Lib.indexAny (A++c :: T) M=(A.length:Nat)
 | [],T,_=>by rw[List.nil_append];unfold Lib.indexAny;rw[if_pos hc];rfl
 | a :: A,T,h=>by
  have h1:=ixa_app hc (A:=A) (T:=T) (fun x hx=>h x (List.mem_cons_of_mem _ hx))
  have h2:=h a (List.mem_cons_self ..)
  rw[List.cons_append]
  unfold Lib.indexAny
  rw[h2,h1]
  simp
theorem ixa_none {M:List UInt8}:∀ {A:List UInt8},(∀ x ∈ A,M.contains x=false)→Lib.indexAny A M = -1
 | [],_=>rfl
 | a :: A,h=>by
  have h1:=ixa_none (A:=A) (fun x hx=>h x (List.mem_cons_of_mem _ hx))
  have h2:=h a (List.mem_cons_self ..)
  unfold Lib.indexAny
  rw[h2,h1]
  simp
theorem dg_nodot {A:List UInt8} {b:Int} (h:allDg A b=true):∀ x ∈ A,x≠(46:UInt8):=fun x hx e=>by
 have:=allDg_mem h x hx
 rw[e] at this
 rw[show((46:UInt8).toNat)=46 from rfl,dot_nd] at this
 cases this
theorem cu_dt {A B:List UInt8} {dt:Bool} {b:Int} (hA:allDg A b=true) (hB:dt=false→B = []):cuA (A++dtL dt B)=A∧cuB (A++dtL dt B)=B:=by
 cases dt
 ·rw[hB rfl]
  have e:A++dtL false ([]:List UInt8)=A:=by simp[dtL]
  rw[e]
  unfold cuA cuB
  rw[ixb_none (dg_nodot hA),if_pos (by decide),if_pos (by decide)]
  exact⟨rfl,rfl⟩
 ·have e:A++dtL true B=A++46 :: B:=rfl
  rw[e]
  unfold cuA cuB
  rw[ixb_app (dg_nodot hA),if_neg (by omega),if_neg (by omega),Int.toNat_natCast]
  constructor
  ·simp
  ·rw[List.drop_append,List.drop_eq_nil_of_le (by omega)]
   simp
theorem cu_bad {A B R:List UInt8} {dt:Bool} {b:Int} {c:UInt8} (hA:allDg A b=true) (hB:allDg B b=true) (hdt:dt=false→B = []) (hc:isDg c.toNat b=false) (h46:dt=false→c≠46) :
  dgO b (cuA (A++dtL dt B++c :: R)++cuB (A++dtL dt B++c :: R))=false:=by
 cases hq:dgO b (cuA (A++dtL dt B++c :: R)++cuB (A++dtL dt B++c :: R)) with
 | false=>rfl
 | true =>
  exfalso
  unfold dgO at hq
  rw[Bool.and_eq_true,allDg_app,Bool.and_eq_true] at hq
  obtain⟨⟨h1,h2⟩,-⟩:=hq
  have hdn:isDg (46:UInt8).toNat b=false:=dot_nd
  rcases cu_join (A++dtL dt B++c :: R)with ⟨-,h3,-⟩|h3
  ·rw[h3] at h1
   have:=allDg_mem h1 c (by simp)
   rw[hc] at this
   cases this
  ·cases dt
   ·have e:A++dtL false B++c :: R=A++c :: R:=by simp[dtL]
    rw[e] at h1 h2 h3
    obtain⟨-,h5,-⟩:=split_dg hA h1 hc hdn h3
    exact h46 rfl h5
   ·have e:A++dtL true B++c :: R=A++46 :: (B++c :: R):=by simp[dtL]
    rw[e] at h1 h2 h3
    obtain⟨-,-,h5⟩:=split_dg hA h1 hdn hdn h3
    rw[←h5] at h2
    have:=allDg_mem h2 c (by simp)
    rw[hc] at this
    cases this
def mkL (b:Int):List UInt8:=if b=16 then [112,80] else [101,69]
theorem mk_dg {b:Int} (hb:b=10∨b=16) {x:UInt8} (h:isDg x.toNat b=true):(mkL b).contains x=false:=by
 have key:∀ n:Fin 256,(isDg n.val 10=true→n.val≠101∧n.val≠69)∧(isDg n.val 16=true→n.val≠112∧n.val≠80):=by decide +kernel
 have h1:=key ⟨x.toNat,x.toNat_lt⟩
 have ne:∀ {y:UInt8},x.toNat≠y.toNat→x≠y:=fun h e=>h (by rw[e])
 rcases hb with rfl|rfl
 ·have h2:=h1.1 h
  have e1:x≠101:=ne h2.1
  have e2:x≠69:=ne h2.2
  simp[mkL,e1,e2]
 ·have h2:=h1.2 h
  have e1:x≠112:=ne h2.1
  have e2:x≠80:=ne h2.2
  simp[mkL,e1,e2]
theorem mk_dot {b:Int} (hb:b=10∨b=16):(mkL b).contains 46=false:=by rcases hb with rfl|rfl <;> decide
theorem mk_x {b:Int} (hb:b=10∨b=16) {A B:List UInt8} {dt:Bool} (hA:allDg A b=true) (hB:allDg B b=true):∀ x ∈ A++dtL dt B,(mkL b).contains x=false:=by
 intro x hx
 rcases List.mem_append.1 hx with h|h
 ·exact mk_dg hb (allDg_mem hA x h)
 ·cases dt
  ·simp[dtL] at h
  ·rcases List.mem_cons.1 (show x ∈ 46 :: B from h)with h|h
   ·rw[h];exact mk_dot hb
   ·exact mk_dg hb (allDg_mem hB x h)
theorem ps_case {S T A B Rr:List UInt8} {b:Int} {dt:Bool} (hb:b=10∨b=16) (hT:psS S=T) (hM:psM S=mkL b) (hpb:psb S=b) (hTX:T=A++dtL dt B++Rr) (hA:allDg A b=true) (hB:allDg B b=true) (hdt:dt=false→B = []) (hst:StopD b dt Rr) :
  (Rr = []∧psOk S=(!hexP S&&decide (A++B ≠ []))∧psD S=A++B∧psH S=B.length∧psX S=0) ∨
  (∃ c R',Rr=c :: R'∧(mkL b).contains c=true∧psOk S=(exO R'&&decide (A++B ≠ []))∧psD S=A++B∧psH S=B.length∧psX S=exX R') ∨
  (∃ c R',Rr=c :: R'∧(mkL b).contains c=false∧psOk S=false):=by
 obtain⟨cA,cB⟩:=cu_dt (A:=A) (B:=B) (dt:=dt) hA hdt
 have hall:allDg (A++B) b=true:=by rw[allDg_app,hA,hB];rfl
 have hdg:dgO b (A++B)=decide (A++B ≠ []):=by unfold dgO;rw[hall,Bool.true_and]
 rcases hst with h0|⟨c,R',h1,h2,h3⟩
 ·left
  have hv:psV S = -1:=by unfold psV;rw[hT,hM,hTX,h0,List.append_nil];exact ixa_none (mk_x hb hA hB)
  have hD0:psD0 S=A++dtL dt B:=by unfold psD0;rw[hv,if_neg (by decide),hT,hTX,h0,List.append_nil]
  refine⟨h0,?_,?_,?_,?_⟩
  ·unfold psOk psD;rw[hv,if_neg (by decide),hD0,cA,cB,hpb,hdg]
  ·unfold psD;rw[hD0,cA,cB]
  ·unfold psH;rw[hD0,cB]
  ·unfold psX;rw[hv,if_neg (by decide)]
 ·right
  by_cases hc:(mkL b).contains c=true
  ·left
   have hv:psV S=((A++dtL dt B).length:Nat):=by unfold psV;rw[hT,hM,hTX,h1];exact ixa_app hc (mk_x hb hA hB)
   have hD0:psD0 S=A++dtL dt B:=by unfold psD0;rw[hv,if_pos (by omega),hT,hTX,Int.toNat_natCast,List.take_append,List.take_of_length_le (Nat.le_refl _),Nat.sub_self,List.take_zero,List.append_nil]
   have hE:psE S=R':=by
    unfold psE
    rw[hv,hT,hTX,h1,Int.toNat_natCast,List.drop_append,List.drop_eq_nil_of_le (by omega)]
    simp
   refine⟨c,R',h1,hc,?_,?_,?_,?_⟩
   ·unfold psOk psD;rw[hv,if_pos (by omega),hD0,cA,cB,hpb,hdg,hE]
   ·unfold psD;rw[hD0,cA,cB]
   ·unfold psH;rw[hD0,cB]
   ·unfold psX;rw[hv,if_pos (by omega),hE]
  ·right
   have hc':(mkL b).contains c=false:=by simpa using hc
   refine⟨c,R',h1,hc',?_⟩
   have key:∃ R'',psD0 S=A++dtL dt B++c :: R'':=by
    unfold psD0
    rw[hT,hTX,h1]
    by_cases hv:0≤psV S
    ·rw[if_pos hv]
     rcases indexAny_in (psS S) (psM S)with h4|⟨i,h4,h5,y,h6,h7⟩
     ·have:psV S = -1:=h4
      omega
     ·have hvi:psV S=(i:Int):=h5
      rw[hvi,Int.toNat_natCast]
      rw[hT,hTX,h1] at h6
      rw[hM] at h7
      have hi:(A++dtL dt B).length<i:=by
       rcases Nat.lt_trichotomy i (A++dtL dt B).length with h8|h8|h8
       ·rw[List.getElem?_append_left h8] at h6
        have:=mk_x hb hA hB y (List.mem_of_getElem? h6)
        rw[h7] at this
        cases this
       ·rw[List.getElem?_append_right (by omega),h8,Nat.sub_self] at h6
        obtain rfl:c=y:=Option.some.inj h6
        rw[h7] at hc'
        cases hc'
       ·exact h8
      obtain⟨d,hd⟩:∃ d,i=(A++dtL dt B).length+(d+1):=⟨i - (A++dtL dt B).length - 1,by omega⟩
      refine⟨R'.take d,?_⟩
      rw[hd,List.take_append,List.take_of_length_le (by omega)]
      congr 1
      rw[show(A++dtL dt B).length+(d+1) - (A++dtL dt B).length=d+1 by omega]
      rfl
    ·rw[if_neg hv]
     exact⟨R',rfl⟩
   obtain⟨R'',hR⟩:=key
   unfold psOk psD
   rw[hR,hpb,cu_bad hA hB hdt h2 h3,Bool.and_false]
theorem hexP_cases (S:List UInt8):(hexP S=true∧∃ c T,S=48 :: c :: T∧(c=120∨c=88))∨(hexP S=false∧∀ c T,S=48 :: c :: T→c≠120∧c≠88):=by
 match S with
 | []=>right;exact⟨by decide,fun c T h=>by cases h⟩
 | [x]=>right;exact⟨by unfold hexP Lib.hasPrefix;simp[List.isPrefixOf],fun c T h=>by cases h⟩
 | x :: c :: T =>
  by_cases h1:x=48
  ·subst h1
   by_cases h2:c=120
   ·subst h2;left;exact⟨by unfold hexP Lib.hasPrefix;simp,_,_,rfl,.inl rfl⟩
   ·by_cases h3:c=88
    ·subst h3;left;exact⟨by unfold hexP Lib.hasPrefix;simp,_,_,rfl,.inr rfl⟩
    ·right
     refine⟨by unfold hexP Lib.hasPrefix;simp[List.isPrefixOf,Ne.symm h2,Ne.symm h3],?_⟩
     intro c' T' h
     injection h with _ h
     injection h with h _
     subst h
     exact⟨h2,h3⟩
  ·right
   refine⟨by unfold hexP Lib.hasPrefix;simp[List.isPrefixOf,Ne.symm h1],?_⟩
   intro c' T' h
   injection h with h _
   exact absurd h h1
theorem ps_hex {S:List UInt8} (h:hexP S=true):psS S=S.drop 2∧psM S=mkL 16∧psb S=16:=by
 unfold psS psM psb mkL
 rw[if_pos h,if_pos h,if_pos h]
 exact⟨rfl,rfl,rfl⟩
theorem ps_dec {S:List UInt8} (h:hexP S=false):psS S=S∧psM S=mkL 10∧psb S=10:=by
 have h':¬ hexP S=true:=by rw[h];decide
 unfold psS psM psb mkL
 rw[if_neg h',if_neg h',if_neg h']
 exact⟨rfl,rfl,rfl⟩
def bkF (N:Nat) (k:Int):Nat:=rtF (un ((N*tnU k:Nat):Int) 0) (un ((tnO k:Nat):Int) 0) 2
theorem bk_near {a N b:Nat} {k:Int} (hN0:N≠0) (hN:N<2^b) (hb:b≤40000) (hk : -2000≤k∧k≤2000) (h0:0<a) (h:a<9218868437227405312):bkF N k=a↔Bk a N k:=by
 have h8:=hT8_eq
 have hp:0<tnU k:=Nat.pow_pos (by decide)
 have ho:0<tnO k:=Nat.pow_pos (by decide)
 unfold bkF
 rw[rt_near (Nat.mul_ne_zero hN0 (by omega)) (by omega) (mulN hN (tnO_lt hk).2) (tnO_lt hk).1 (by omega) h0 h,Nat.pow_zero,Nat.mul_one]
 unfold Bk
 have e:2*(N*tnU k)*2^kP=N*(tnU k*2^kQ):=by
  rw[kQ_n,Nat.pow_succ,Nat.mul_comm (2^kP) 2,Nat.mul_left_comm (tnU k),Nat.mul_left_comm N]
  simp only[Nat.mul_assoc]
 rw[e]
theorem pabs_unP {Z:Int} {p b:Nat} (h:Z.natAbs<2^b) (hb:b≤60000) (hp:p≤60000) {W:World} {X:Value} (hX:PN W X (un Z p)):Calls Tryz.prog 61 #[X] W fun r w'=>OutA W (un ((Z.natAbs:Nat):Int) p) r w':=by
 obtain⟨ao,cap,rfl,hI⟩:=hX
 have ok:=ok_un (p:=p) h hb hp
 have f:=ok.facts
 refine(abs_ok hI (by omega) ok).mono ?_
 rintro r w' ⟨v,rfl,hO,hB⟩
 obtain⟨ao',cap',rfl,o1,o2,o3⟩:=hO.is
 rw[un_abs]
 exact⟨_,_,_,_,_,rfl,⟨ao',cap',rfl,⟨ao',cap',rfl,o1,o2,o3⟩⟩,hB⟩
theorem dcR_lt (N:Nat):N<10^(dcR N).length:=by
 induction N using Nat.strongRecOn with
 | _ N ih =>
  by_cases h0:N=0
  ·subst h0;decide
  ·have h:=ih (N / 10) (by omega)
   rw[dcR_step h0,List.length_append,List.length_singleton,Nat.pow_succ]
   omega
theorem dcR_ge {N k:Nat} (h:10^k≤N):k<(dcR N).length:=by
 rcases Nat.lt_or_ge k (dcR N).length with h1|h1
 ·exact h1
 ·have h2:=dcR_lt N
  have h3:10^(dcR N).length≤10^k:=Nat.pow_le_pow_right (by decide) h1
  omega
theorem dcR_le {N b:Nat} (h:N<10^b):(dcR N).length≤b:=by
 have:=rvD_len h
 unfold rvD at this
 rw[List.length_reverse] at this
 exact this
theorem rd_digits {A:Nat} {n:Nat} {neg:Bool} {m:Int} (hA:A<2^bU) (h0:A≠0) (hn:1≤n):n≤(dcR (rdN A ((n:Int) - 1 - woX A) neg m)).length∧(dcR (rdN A ((n:Int) - 1 - woX A) neg m)).length≤n+1:=by
 obtain⟨p1,p2,-,-⟩:=woX_spec hA h0
 have h1:=scF_step A (-woX A)
 rw[show -woX A+1=1 - woX A by omega] at h1
 have h2:=scF_down A ((n:Int) - 1 - woX A) (n - 1)
 rw[show(n:Int) - 1 - woX A - ((n - 1:Nat):Int) = -woX A by omega] at h2
 have h3:scF A ((n:Int) - 1 - woX A)≤rdN A ((n:Int) - 1 - woX A) neg m∧rdN A ((n:Int) - 1 - woX A) neg m≤scF A ((n:Int) - 1 - woX A)+1:=by
  unfold rdN
  split
  ·omega
  ·split <;> omega
 generalize scF A ((n:Int) - 1 - woX A)=u at *
 generalize rdN A ((n:Int) - 1 - woX A) neg m=v at *
 generalize scF A (1 - woX A)=s1 at *
 generalize scF A (-woX A)=s0 at *
 have hP:0<10^(n - 1):=Nat.pow_pos (by decide)
 have e10:10^n=10^(n - 1)*10:=by rw[←Nat.pow_succ];congr 1;omega
 have g1:10^(n - 1)≤u:=by
  rcases Nat.lt_or_ge u (10^(n - 1))with h|h
  ·rw[Nat.div_eq_of_lt h] at h2;omega
  ·exact h
 have g2:u<10^n:=by
  rw[e10,Nat.mul_comm]
  rw[←Nat.div_lt_iff_lt_mul hP]
  omega
 constructor
 ·have:=dcR_ge (Nat.le_trans g1 h3.1)
  omega
 ·refine dcR_le ?_
  rw[Nat.pow_succ]
  omega
def dgX (a:Nat) (n m:Int):List UInt8:=dcR (uN a (n - 1 - woX (fU a)) m)
def dgT (a:Nat) (n m:Int):List UInt8:=if 9218868437227405312<mag a then [110,97,110] else if mag a=9218868437227405312 then sgL (neg a) [105,110,102] else
 if mag a=0 then sgL (neg a) (exL (nzL n) (Lib.itoa 0))else sgL (neg a) (exL ((dgX a n m).take n.toNat) (Lib.itoa (if n.toNat<(dgX a n m).length then woX (fU a)+1 else woX (fU a))))
def dgA (a:Nat) (n m:Int):List UInt8×Int:=if 1≤m∧m≤3∧1≤n∧n≤1100 then(dgT a n m,0) else([],1)
theorem dg_no {a:Nat} {n m:Int} (h:¬ (1≤m∧m≤3∧1≤n∧n≤1100)):decide (1≤m∧m≤3)=false∨n<1∨1100<n:=by
 by_cases h1:1≤m∧m≤3
 ·exact .inr (by omega)
 ·exact .inl (decide_eq_false h1)
theorem dg_z {a:Nat} (ha:a<18446744073709551616) (h:mag a=0):a=0∨a=9223372036854775808:=by
 unfold mag at h
 omega
theorem dg_fU {a:Nat} (h:mag a≠0):fU a≠0:=by
 have h2:=Ie.mant_ne (a:=a) h
 unfold fU
 exact Nat.ne_of_gt (Nat.mul_pos (by omega) (Nat.two_pow_pos _))
theorem dg_o0 {a:Nat} (ha:a<18446744073709551616) (hf:mag a≤9218868437227405312):(FloatKind.f64.format.order a 0==some Ordering.eq)=decide (mag a=0):=by
 have o:=ord_eq a 0 ha (by decide)
 have h1:isNaN a=false:=by unfold isNaN;exact decide_eq_false (by omega)
 have hs:stp a=if neg a then -(mag a:Int) else(mag a:Int):=by unfold stp sgn;rfl
 unfold eq at o
 rw[h1,show stp 0=0 by decide] at o
 rw[o]
 by_cases h:mag a=0
 ·rw[decide_eq_true h,decide_eq_true (by rw[hs];split <;> omega)]
  rfl
 ·rw[decide_eq_false h,decide_eq_false (by rw[hs];split <;> omega)]
  simp
theorem itoa_lenQ {x:Int} (h : -5000≤x∧x≤5000):(Lib.itoa x).length≤100:=by
 have:=Lib.itoa_length_le x (by omega) (by omega)
 omega
theorem ex_lenQ (d t:List UInt8):(exL d t).length≤d.length+t.length+3:=by
 unfold exL
 rw[List.length_append,List.length_append,List.length_take,List.length_cons]
 split
 ·rw[List.length_cons,List.length_drop];omega
 ·simp;omega
theorem DDigitsA {a:Nat} (n m:Int) {w:World} (hT:Tab32 w) (hI:Ie.Tab w) (h10:Tab10 w) (ha:a<18446744073709551616) :
  Calls Tryz.prog 16 #[.float .f64 a,.int .i64 n,.int .i64 m] w fun r w'=>r=.returned (.tuple #[.string ⟨(dgA a n m).1.toArray⟩,.int .i64 (dgA a n m).2])∧Bw w w':=by
 unfold dgA
 by_cases h:1≤m∧m≤3∧1≤n∧n≤1100
 ·rw[if_pos h]
  have k0:=DisMode m
  rw[decide_eq_true (show 1≤m∧m≤3 by omega)] at k0
  unfold dgT
  rcases(by omega:9218868437227405312<mag a∨mag a=9218868437227405312∨mag a<9218868437227405312)with hf|hf|hf
  ·rw[if_pos hf]
   refine DDigits_1 a n m _ w (by omega) (by omega) k0 ?_
   intro W g1 g2 g3 hW b1 b2 b3
   have kC:=fun V=>Ie.c9 a ha V
   rw[cls_nan hf] at kC
   refine(Dtold_nan a _ _ W kC).mono ?_
   rintro r w' ⟨rfl,rfl⟩
   exact⟨rfl,Below.refl _ _⟩
  ·rw[if_neg (by omega),if_pos hf]
   obtain⟨c1,c2⟩:=cls_inf hf
   refine DDigits_1 a n m _ w (by omega) (by omega) k0 ?_
   intro W g1 g2 g3 hW b1 b2 b3
   have kC:=fun V=>Ie.c9 a ha V
   rw[c1,c2] at kC
   refine(Dtold_inf a _ _ W kC).mono ?_
   rintro r w' ⟨rfl,rfl⟩
   exact⟨rfl,Below.refl _ _⟩
  ·rw[if_neg (by omega),if_neg (by omega)]
   obtain⟨c1,c2,c3⟩:=cls_fin hf
   obtain⟨N,hN⟩:∃ N:Nat,n=(N:Int):=⟨n.toNat,by omega⟩
   have hnN:n.toNat=N:=by omega
   by_cases hz:mag a=0
   ·rw[if_pos hz]
    have hl:=nz_len n
    have hl2:=ex_lenQ (nzL n) (Lib.itoa 0)
    have hl3:=itoa_lenQ (x:=0) (by omega)
    refine DDigits_1 a n m _ w (by omega) (by omega) k0 ?_
    intro W g1 g2 g3 hW b1 b2 b3
    have kC:=fun V=>Ie.c9 a ha V
    rw[c3] at kC
    refine Dtold_fin a _ _ (neg a) _ _ W c1 c2 (by omega) kC (enters Tryz.func58 (by kernel_rfl) (by kernel_rfl)) ?_
    refine DDigits1_0 a n m _ g1 g2 g3 W b1 b2 ⟨by omega,by omega⟩ (dg_z ha hz) (knz W) ?_
    intro V hV
    exact Dexpon_1 _ _ 0 V (by omega) (by omega) hl3 (fun U hU=>Ditoa (by omega) (((h10.later hW).later hV).later hU))
   ·rw[if_neg hz]
    have hA0:=dg_fU hz
    obtain⟨p1,p2,p3,p4⟩:=woX_spec (fU_lt a) hA0
    obtain⟨x,hx⟩:∃ x,x=woX (fU a):=⟨_,rfl⟩
    have hrd:=rd_digits (neg:=neg a) (m:=m) (n:=N) (fU_lt a) hA0 (by omega)
    rw[←hN] at hrd
    unfold dgX
    rw[←uN_rd (by omega)] at hrd
    rw[←hx] at hrd p3 p4 ⊢
    have hlt:(List.take n.toNat (dcR (uN a (n - 1 - x) m))).length=N:=by rw[List.length_take,hnN];omega
    have hxx : -5000≤(if n.toNat<(dcR (uN a (n - 1 - x) m)).length then x+1 else x)∧(if n.toNat<(dcR (uN a (n - 1 - x) m)).length then x+1 else x)≤5000:=by split <;> omega
    have hl3:=itoa_lenQ hxx
    have hl2:=ex_lenQ (List.take n.toNat (dcR (uN a (n - 1 - x) m))) (Lib.itoa (if n.toNat<(dcR (uN a (n - 1 - x) m)).length then x+1 else x))
    refine DDigits_1 a n m _ w (by omega) (by omega) k0 ?_
    intro W g1 g2 g3 hW b1 b2 b3
    have kC:=fun V=>Ie.c9 a ha V
    rw[c3] at kC
    refine Dtold_fin a _ _ (neg a) _ _ W c1 c2 (by omega) kC (enters Tryz.func58 (by kernel_rfl) (by kernel_rfl)) ?_
    have ho:=dg_o0 ha (by omega)
    rw[decide_eq_false hz] at ho
    refine DDigits1_1 a n m x N (un (sZ a) kP) (un ((fU a:Nat):Int) kP) (un ((uN a (n - 1 - x) m:Nat):Int) 0) (dcR (uN a (n - 1 - x) m)) _ g1 g2 g3 W b1 b2 b3 ⟨by omega,by omega⟩ hN (by omega) ho ?_ ?_ ?_ ?_ ?_ ?_
    ·intro V hV
     exact Dexact ((hT.later hW).later hV) (Tab.later (Tab.later hI hW) hV) ha hf
    ·intro V X hV hX
     have h:=pabs_unP (sZ_lt a) (by rw[bU_eq];omega) (by rw[kP_eq];omega) hX
     rw[sZ_abs] at h
     exact h
    ·intro V X hV hX
     rw[hx]
     exact Dworth ((hT.later hW).later hV) (fU_lt a) hA0 hX
    ·intro V hV
     exact Dunits ((hT.later hW).later hV) (Tab.later (Tab.later hI hW) hV) ha hf (by omega) (by omega) (by omega)
    ·intro V X hV hX
     have h:=DwholeText ((hT.later hW).later hV) (uN_lt (by omega) (by omega)) dk6 hX
     rw[dcT_eq] at h
     exact h
    ·intro V hV
     rw[hnN] at hlt hl3 hl2 hxx ⊢
     exact Dexpon_1 _ _ _ V (by omega) (by omega) hl3 (fun U hU=>Ditoa (by omega) (((h10.later hW).later hV).later hU))
 ·rw[if_neg h]
  exact DDigits_no a n m _ w (DisMode m) (dg_no (a:=a) h)
theorem dcR_ten {N:Nat} (h:N≠0):∀ j,dcR (N*10^j)=dcR N++List.replicate j 48
 | 0=>by simp
 | j+1=>by
  have hp:0<10^j:=Nat.pow_pos (by decide)
  have h1:N*10^(j+1)=N*10^j*10:=by rw[Nat.pow_succ,Nat.mul_assoc]
  have h2:N*10^j≠0:=Nat.mul_ne_zero h (by omega)
  rw[h1,dcR_step (by omega),Nat.mul_div_cancel _ (by decide),dcR_ten h j,Nat.mul_mod_left,List.replicate_succ',List.append_assoc]
  rfl
theorem trimR_app (L:List UInt8):∀ j,Lib.trimRightB (L++List.replicate j 48) 48=Lib.trimRightB L 48
 | 0=>by simp
 | j+1=>by
  rw[List.replicate_succ',←List.append_assoc]
  have h:=trimR_app L j
  unfold Lib.trimRightB at *
  rw[List.reverse_append]
  simp
theorem trimR_split (L:List UInt8):∃ z,L=Lib.trimRightB L 48++List.replicate z 48∧∀ x,(Lib.trimRightB L 48).getLast?=some x→x≠48:=by
 refine⟨(L.reverse.takeWhile (· == 48)).length,?_,?_⟩
 ·have h1:=List.takeWhile_append_dropWhile (p:=(· == (48:UInt8))) (l:=L.reverse)
  have h2:L.reverse.takeWhile (· == (48:UInt8))=List.replicate (L.reverse.takeWhile (· == (48:UInt8))).length 48:=by
   rw[List.eq_replicate_iff]
   refine⟨rfl,fun b hb=>?_⟩
   have:=List.all_takeWhile (p:=(· == (48:UInt8))) (l:=L.reverse)
   have h3:=List.all_eq_true.1 this b hb
   simpa using h3
  unfold Lib.trimRightB
  have h3:=congrArg List.reverse h1
  rw[List.reverse_append,List.reverse_reverse] at h3
  conv=>lhs;rw[←h3]
  generalize List.takeWhile (fun x=>x==(48:UInt8)) L.reverse=t at *
  congr 1
  rw[h2]
  simp
 ·intro x hx
  unfold Lib.trimRightB at hx
  rw[List.getLast?_reverse] at hx
  have h:=List.head?_dropWhile_not (· == (48:UInt8)) L.reverse
  rw[hx] at h
  intro h9
  rw[h9] at h
  exact absurd h (by decide)
theorem trimR_ne:∀ N:Nat,N≠0→1≤(Lib.trimRightB (dcR N) 48).length:=by
 intro N
 induction N using Nat.strongRecOn with
 | ind N ih =>
  intro h
  rw[dcR_step h]
  by_cases h1:N % 10=0
  ·rw[h1]
   have h2:=trimR_app (dcR (N / 10)) 1
   rw[show List.replicate 1 (48:UInt8) = [UInt8.ofNat (48+0)] from rfl] at h2
   rw[h2]
   exact ih (N / 10) (by omega) (by omega)
  ·obtain⟨c,hc⟩:∃ c,c=UInt8.ofNat (48+N % 10):=⟨_,rfl⟩
   have hc8:(c==(48:UInt8))=false:=by
    rw[beq_eq_false_iff_ne,hc]
    intro h9
    have h10:=congrArg UInt8.toNat h9
    rw[UInt8.toNat_ofNat'] at h10
    have:(48:UInt8).toNat=48:=rfl
    omega
   rw[←hc]
   unfold Lib.trimRightB
   rw[List.reverse_append,List.reverse_singleton,List.singleton_append,List.dropWhile_cons,hc8]
   simp
theorem loD_ne {a i:Nat} (hi:i≤16) (h0:0<a) (h:a<9218868437227405312):loD a i≠0:=by
 have h1:=loD_fw hi h0 h
 obtain⟨g1,-⟩:=shG_b h0 h
 obtain⟨f1,f2⟩:=fwG (i:=i) h
 have h3:=fwU_le i
 have h4:=fwU_pos i
 intro h9
 rw[h9,Nat.zero_mul] at h1
 omega
theorem fU_ne {a:Nat} (h0:0<a) (h:a<9218868437227405312):fU a≠0:=dg_fU (by unfold mag;omega)
theorem lo_b {a i:Nat} (hi:i≤16) (hk : -2000≤(i:Int) - shX a∧(i:Int) - shX a≤2000) (h0:0<a) (h:a<9218868437227405312):loD a i<2^(bU+hT8)∧loD a i+1<2^(bU+hT8+1)∧hiD a i<2^(bU+hT8+1)∧hiD a i≠0:=by
 obtain⟨k1,k2,-⟩:=scF_lt (fU_lt a) hk
 have h9:=loD_ne hi h0 h
 refine⟨k1,k2,?_,?_⟩
 ·unfold hiD
  split
  ·exact Nat.lt_trans (Nat.lt_succ_self _) k2
  ·exact k2
 ·unfold hiD
  split
  ·exact h9
  ·exact Nat.succ_ne_zero _
theorem bs_b {a:Nat} (h1:loD a (shJ a)+1<2^(bU+hT8+1)) (h2:loD a (shJ a)≠0):bsD a<2^(bU+hT8+1)∧bsD a≠0:=by
 unfold bsD
 split
 ·exact⟨Nat.lt_trans (Nat.lt_succ_self _) h1,h2⟩
 ·exact⟨h1,Nat.succ_ne_zero _⟩
theorem sh_text {a:Nat} (hbs:bsD a≠0) (h0:0<a) (h:a<9218868437227405312):∃ z,dcD (bsD a)=shD a++List.replicate z 48∧1≤(shD a).length∧(shD a).length+z≤1000∧shX a+((shD a).length+z:Nat) - ((shJ a:Int)+1)=shE a∧(∀ x,(shD a).getLast?=some x→x≠48):=by
 have hJ:=shJ_le a
 obtain⟨z,hz1,hz2⟩:=trimR_split (dcR (bsD a))
 have hF:shF a=bsD a*10^(16 - shJ a):=shF_doc h0 h
 have eT:dcT (shF a)=dcR (bsD a)++List.replicate (16 - shJ a) 48:=by rw[dcT_eq,hF,dcR_ten hbs]
 have hD:shD a=Lib.trimRightB (dcR (bsD a)) 48:=by unfold shD;rw[eT,trimR_app]
 have hN1:=trimR_ne (bsD a) hbs
 have h1:=shF_len (shOk h0 h)
 have hE:shE a=(dcT (shF a)).length - 1 - (16 - shX a):=rfl
 have e:dcD (bsD a)=dcR (bsD a):=by unfold dcD;rw[if_neg hbs]
 rw[←hD] at hz1 hz2 hN1
 have hz3:=congrArg List.length hz1
 rw[eT,List.length_append,List.length_replicate] at h1 hE
 rw[List.length_append,List.length_replicate] at hz3
 rw[e]
 clear e hD eT hF hbs h
 refine⟨z,hz1,hN1,by omega,?_,hz2⟩
 rw[hE]
 omega
def exT (a:Nat):List UInt8:=if 9218868437227405312<mag a then [110,97,110] else if mag a=9218868437227405312 then sgL (neg a) [105,110,102] else sgL (neg a) (ptL (dcT (uN a (exP a) 2)) (exP a))
theorem DExactA {a:Nat} {w:World} (hT:Tab32 w) (hI:Ie.Tab w) (ha:a<18446744073709551616) :
  Calls Tryz.prog 9 #[.float .f64 a] w fun r w'=>r=.returned (.string ⟨(exT a).toArray⟩)∧Bw w w':=by
 unfold exT
 rcases(by omega:9218868437227405312<mag a∨mag a=9218868437227405312∨mag a<9218868437227405312)with hf|hf|hf
 ·rw[if_pos hf]
  refine DExact_1 a _ w ?_
  intro W g1 hW b1
  have kC:=fun V=>Ie.c9 a ha V
  rw[cls_nan hf] at kC
  refine(Dtold_nan a _ _ W kC).mono ?_
  rintro r w' ⟨rfl,rfl⟩
  exact⟨rfl,Below.refl _ _⟩
 ·rw[if_neg (by omega),if_pos hf]
  obtain⟨c1,c2⟩:=cls_inf hf
  refine DExact_1 a _ w ?_
  intro W g1 hW b1
  have kC:=fun V=>Ie.c9 a ha V
  rw[c1,c2] at kC
  refine(Dtold_inf a _ _ W kC).mono ?_
  rintro r w' ⟨rfl,rfl⟩
  exact⟨rfl,Below.refl _ _⟩
 ·rw[if_neg (by omega),if_neg (by omega)]
  exact DExact hT hI ha hf
theorem exP_fU {a:Nat} (h:fU a≠0):exP a=max 0 (1074 - (tz (fU a):Int)):=by
 have e:(un (sZ a) kP).2.2=(tz (fU a):Int) - (kP:Int):=by
  unfold sZ
  have h1:=un_sgn (P:=kP) (neg a) h
  rw[h1]
 unfold exP
 rw[e,kP_eq]
 congr 1
 omega
theorem exP_0 {a:Nat} (h:fU a=0):exP a=0:=by
 have e:sZ a=0:=by have:=sZ_abs a;omega
 unfold exP
 rw[e,un_zero]
 rfl
theorem ex_key {A k p:Nat} (h:A≠0) (hk:p≤tz A+k):2^p ∣ A*10^k:=by
 have h1:=(tz_spec _ _ (Nat.le_refl _) h).1
 have h2:(10:Nat)^k=2^k*5^k:=by rw[←Nat.mul_pow]
 have h3:A*10^k=2^(tz A+k)*(A / 2^tz A*5^k):=by
  have h4:A*10^k=2^tz A*(A / 2^tz A)*(2^k*5^k):=by rw[h1,h2]
  rw[h4,Nat.pow_add]
  ac_rfl
 rw[h3]
 exact Nat.dvd_trans (Nat.pow_dvd_pow 2 hk) (Nat.dvd_mul_right _ _)
theorem ex_whole {A k:Nat} {ng:Bool} (hd:kU ∣ A*10^k):rdN A (k:Int) ng 2=scF A k∧scF A k*kU=A*10^k:=by
 obtain⟨t1,t2⟩:=tn_p k
 have e:scE A k=true:=by
  unfold scE
  rw[t1,t2,Nat.one_mul]
  exact decide_eq_true (Nat.mod_eq_zero_of_dvd hd)
 refine⟨by unfold rdN;rw[if_pos e],?_⟩
 unfold scF
 rw[t1,t2,Nat.one_mul]
 exact Nat.div_mul_cancel hd
theorem pt_0 {d:List UInt8} (h:1≤d.length):ptL d 0=d:=by
 unfold ptL
 rw[if_pos (by decide),show nzL (1 - (d.length:Int)) = [] by unfold nzL;rw[show(1 - (d.length:Int)).toNat=0 by omega];rfl,show nzL (-0) = [] from rfl,List.append_nil,List.nil_append]
theorem shD_pos {a:Nat} (h0:0<a) (h:a<9218868437227405312):1≤(shD a).length∧∀ x,(shD a).getLast?=some x→x≠48:=by
 have hJ:=shJ_le a
 have hw : -400≤shX a∧shX a≤400:=(woX_spec (fU_lt a) (fU_ne h0 h)).2.2
 have hk : -2000≤(shJ a:Int) - shX a∧(shJ a:Int) - shX a≤2000:=by omega
 obtain⟨b1,b2⟩:=bs_b (lo_b hJ hk h0 h).2.1 (loD_ne hJ h0 h)
 obtain⟨z,z1,z2,z3,z4,z5⟩:=sh_text b2 h0 h
 exact⟨z2,z5⟩
def shTx (a:Nat):List UInt8:=if 9218868437227405312<mag a then [110,97,110] else if mag a=9218868437227405312 then sgL (neg a) [105,110,102] else if mag a=0 then sgL (neg a) [48] else sgL (neg a) (shS (mag a))
theorem shE_b {a:Nat} (h0:0<a) (h:a<9218868437227405312):(shD a).length≤36 ∧ -1000≤shE a∧shE a≤1000:=by
 have ok:=shOk h0 h
 have hx:=ok.x
 have hl:=shF_len ok
 have hl2:(shD a).length≤36:=Nat.le_trans (trimR_len _ _) hl
 have hE : -1000≤shE a∧shE a≤1000:=by unfold shE;omega
 exact⟨hl2,hE⟩
theorem DShortestA {a:Nat} {w:World} (hT:Tab32 w) (hI:Ie.Tab w) (h10:Tab10 w) (ha:a<18446744073709551616) :
  Calls Tryz.prog 7 #[.float .f64 a] w fun r w'=>r=.returned (.string ⟨(shTx a).toArray⟩)∧Bw w w':=by
 unfold shTx
 rcases(by omega:9218868437227405312<mag a∨mag a=9218868437227405312∨mag a<9218868437227405312)with hf|hf|hf
 ·rw[if_pos hf]
  refine DShortest_1 a _ w ?_
  intro W g1 hW b1
  have kC:=fun V=>Ie.c9 a ha V
  rw[cls_nan hf] at kC
  refine(Dtold_nan a _ _ W kC).mono ?_
  rintro r w' ⟨rfl,rfl⟩
  exact⟨rfl,Below.refl _ _⟩
 ·rw[if_neg (by omega),if_pos hf]
  obtain⟨c1,c2⟩:=cls_inf hf
  refine DShortest_1 a _ w ?_
  intro W g1 hW b1
  have kC:=fun V=>Ie.c9 a ha V
  rw[c1,c2] at kC
  refine(Dtold_inf a _ _ W kC).mono ?_
  rintro r w' ⟨rfl,rfl⟩
  exact⟨rfl,Below.refl _ _⟩
 ·rw[if_neg (by omega),if_neg (by omega)]
  obtain⟨c1,c2,c3⟩:=cls_fin hf
  have ho:=dg_o0 ha (Nat.le_of_lt hf)
  by_cases hz:mag a=0
  ·rw[if_pos hz]
   rw[decide_eq_true hz] at ho
   refine DShortest_1 a _ w ?_
   intro W g1 hW b1
   have kC:=fun V=>Ie.c9 a ha V
   rw[c3] at kC
   refine Dtold_fin a _ _ (neg a) _ _ W c1 c2 (by decide) kC (enters Tryz.func23 (by kernel_rfl) (by kernel_rfl)) ?_
   refine(DShort1_0 a g1 W b1 ho).mono ?_
   rintro r w' ⟨rfl,rfl⟩
   exact⟨rfl,Below.refl _ _⟩
  ·rw[if_neg hz]
   rw[decide_eq_false hz] at ho
   have hm0:0<mag a:=by omega
   obtain⟨hl2,hE⟩:=shE_b hm0 hf
   obtain⟨hd,-⟩:=shD_pos hm0 hf
   have ok:=shOk hm0 hf
   have hlen:(shS (mag a)).length≤20000:=shS_len hl2 hE
   refine DShortest_1 a _ w ?_
   intro W g1 hW b1
   have kC:=fun V=>Ie.c9 a ha V
   rw[c3] at kC
   refine Dtold_fin a _ _ (neg a) _ _ W c1 c2 hlen kC (enters Tryz.func23 (by kernel_rfl) (by kernel_rfl)) ?_
   refine DShort1_1 a (mag a) (shE (mag a)) (shD (mag a)) (shS (mag a)) g1 W b1 ho (by omega) (by omega) (fun V=>c159 a ha V) ?_ ?_ ?_
   ·exact Dshortest (hT.later hW) (Tab.later hI hW) ok
   ·intro hc V hV
    unfold shS
    rw[if_pos hc]
    exact Dexpon_1 (shD (mag a)) (Lib.itoa (shE (mag a))) (shE (mag a)) V hd (by omega) (by have:=Lib.itoa_length_le (shE (mag a)) (by omega) (by omega);show(Lib.itoa (shE (mag a))).length≤100;omega) (fun U hU=>Ditoa (by omega) (((h10.later hW).later hV).later hU))
   ·intro hc V hV
    unfold shS
    rw[if_neg hc]
    exact Dpointed (by omega) (by omega) (knz V)
def hxTx (a:Nat):List UInt8:=if 9218868437227405312<mag a then [110,97,110] else if mag a=9218868437227405312 then sgL (neg a) [105,110,102] else sgL (neg a) (hxT a)
theorem DHexA {a:Nat} {w:World} (hI:Ie.Tab w) (h10:Tab10 w) (ha:a<18446744073709551616) :
  Calls Tryz.prog 11 #[.float .f64 a] w fun r w'=>r=.returned (.string ⟨(hxTx a).toArray⟩)∧Bw w w':=by
 unfold hxTx
 rcases(by omega:9218868437227405312<mag a∨mag a=9218868437227405312∨mag a<9218868437227405312)with hf|hf|hf
 ·rw[if_pos hf]
  refine DHex_1 a _ w ?_
  intro W g1 hW b1
  have kC:=fun V=>Ie.c9 a ha V
  rw[cls_nan hf] at kC
  refine(Dtold_nan a _ _ W kC).mono ?_
  rintro r w' ⟨rfl,rfl⟩
  exact⟨rfl,Below.refl _ _⟩
 ·rw[if_neg (by omega),if_pos hf]
  obtain⟨c1,c2⟩:=cls_inf hf
  refine DHex_1 a _ w ?_
  intro W g1 hW b1
  have kC:=fun V=>Ie.c9 a ha V
  rw[c1,c2] at kC
  refine(Dtold_inf a _ _ W kC).mono ?_
  rintro r w' ⟨rfl,rfl⟩
  exact⟨rfl,Below.refl _ _⟩
 ·rw[if_neg (by omega),if_neg (by omega)]
  exact DHex hI h10 ha hf
theorem hx_lt8 {d:Nat} (h:d<16):hx d<256:=by unfold hx;split <;> omega
def hxO (dg:Nat→Nat) (i:Nat):List UInt8:=(List.range i).map fun j=>UInt8.ofNat (hx (dg j))
theorem hxO_len (dg:Nat→Nat) (i:Nat):(hxO dg i).length=i:=by unfold hxO;simp
theorem hxO_step (dg:Nat→Nat) (i:Nat):hxO dg (i+1)=hxO dg i ++ [UInt8.ofNat (hx (dg i))]:=by unfold hxO;rw[List.range_succ,List.map_append];rfl
theorem least_ex (p:Nat→Bool):∀ n,p n=true→∃ k,k≤n∧p k=true∧∀ i,i<k→p i=false:=by
 intro n
 induction n using Nat.strongRecOn with
 | _ n ih =>
  intro h
  by_cases c:∃ j,j<n∧p j=true
  ·obtain⟨j,hj,hp⟩:=c
   obtain⟨k,h1,h2,h3⟩:=ih j hj hp
   exact⟨k,by omega,h2,h3⟩
  ·refine⟨n,Nat.le_refl _,h,fun i hi=>?_⟩
   cases hp:p i
   ·rfl
   ·exact absurd ⟨i,hi,hp⟩ c
theorem e16_16:(16:Nat)^16=18446744073709551616:=by decide
def hxV (u i:Nat):Nat:=u*16^i % 18446744073709551616
def hxG (u i:Nat):Nat:=u / 16^(15 - i) % 16
theorem hxV_dg {u i:Nat} (hi:i≤15):16*hxV u i / 18446744073709551616=hxG u i:=by
 unfold hxV hxG
 have e1:(18446744073709551616:Nat)=16^(15 - i)*16*16^i:=by
  rw[←Nat.pow_succ,←Nat.pow_add,show 15 - i+1+i=16 by omega,e16_16]
 have key:∀ Q S x:Nat,0<S→16*(x % (Q*16)*S) / (Q*16*S)=x / Q % 16:=by
  intro Q S x hS
  have e2:16*(x % (Q*16)*S)=x % (Q*16)*(16*S):=by ac_rfl
  rw[e2,Nat.mul_assoc Q,Nat.mul_div_mul_right _ _ (by omega),Nat.mod_mul_right_div_self]
 rw[e1,Nat.mul_mod_mul_right]
 exact key _ _ _ (Nat.pow_pos (by decide))
theorem hxV_step (u i:Nat):16*hxV u i % 18446744073709551616=hxV u (i+1):=by
 unfold hxV
 rw[Nat.mul_mod_mod,Nat.pow_succ]
 congr 1
 ac_rfl
theorem hxV_16 (u:Nat):hxV u 16=0:=by
 unfold hxV
 rw[e16_16]
 exact Nat.mul_mod_left _ _
theorem trim_id {L:List UInt8} (h:∀ x,L.getLast?=some x→x≠48):Lib.trimRightB L 48=L:=by
 obtain⟨z,h1,h2⟩:=trimR_split L
 cases z with
 | zero =>
  rw[List.replicate_zero,List.append_nil] at h1
  exact h1.symm
 | succ z =>
  exfalso
  have h3:=congrArg List.getLast? h1
  rw[List.replicate_succ',←List.append_assoc,List.getLast?_concat] at h3
  exact h 48 h3 rfl
theorem hxO_zero {dg:Nat→Nat} {K:Nat}:∀ j,(∀ i,K≤i→i<K+j→dg i=0)→hxO dg (K+j)=hxO dg K++List.replicate j 48
 | 0,_=>by simp
 | j+1,h=>by
  rw[←Nat.add_assoc,hxO_step,hxO_zero j (fun i h1 h2=>h i h1 (by omega)),h (K+j) (by omega) (by omega),List.replicate_succ',List.append_assoc]
  rfl
theorem hxO_congr {f g:Nat→Nat}:∀ K,(∀ i,i<K→f i=g i)→hxO f K=hxO g K
 | 0,_=>rfl
 | K+1,h=>by rw[hxO_step,hxO_step,hxO_congr K (fun i hi=>h i (by omega)),h K (by omega)]
theorem hx_ne {d:Nat} (h0:d≠0) (h:d<16):UInt8.ofNat (hx d)≠48:=by
 intro h9
 have h10:=congrArg UInt8.toNat h9
 rw[UInt8.toNat_ofNat_of_lt' (hx_lt8 h)] at h10
 have h11:(48:UInt8).toNat=48:=rfl
 unfold hx at h10
 split at h10 <;> omega
theorem hxO_last {dg:Nat→Nat} {K:Nat} (h:∀ i,i<K→dg i<16) (h0:∀ k,K=k+1→dg k≠0):∀ x,(hxO dg K).getLast?=some x→x≠48:=by
 intro x hx
 cases K with
 | zero=>exact absurd hx (by simp[hxO])
 | succ k =>
  rw[hxO_step,List.getLast?_concat] at hx
  obtain rfl:=Option.some.inj hx
  exact hx_ne (h0 k rfl) (h k (by omega))
theorem hexL_getQ (u j k:Nat) (h:k<(hexL u j).length):(hexL u j)[k]=UInt8.ofNat (hx (u / 16^(j - k) % 16)):=by
 simp[hexL]
theorem hxO_get (dg:Nat→Nat) (K i:Nat) (h:i<(hxO dg K).length):(hxO dg K)[i]=UInt8.ofNat (hx (dg i)):=by
 simp[hxO]
theorem hxD_16 {u:Nat} (hu:u<18446744073709551616):nzL (16 - (hxD u).length)++hxD u=hxO (hxG u) 16:=by
 obtain⟨a,b,c⟩:=hxJ_spec 15 u (by rw[show(15+1)=16 from rfl,e16_16];exact hu)
 unfold hxD
 generalize hxJ 15 u=j at *
 have l1:(hexL u j).length=j+1:=hexL_length u j
 have l2:(nzL (16 - (hexL u j).length)).length=15 - j:=by rw[nz_len,l1];omega
 have hlt:u<16^(j+1):=by
  have:=(Nat.div_lt_iff_lt_mul (Nat.pow_pos (by decide:0<16))).1 a
  rw[Nat.pow_succ,Nat.mul_comm]
  exact this
 apply List.ext_getElem
 ·rw[List.length_append,l2,l1,hxO_len];omega
 ·intro i h1 h2
  have h3:i<16:=by rw[hxO_len] at h2;exact h2
  rw[hxO_get]
  by_cases hi:i<15 - j
  ·rw[List.getElem_append_left (by rw[l2];exact hi)]
   have e3:hxG u i=0:=by
    unfold hxG
    rw[Nat.div_eq_of_lt (Nat.lt_of_lt_of_le hlt (Nat.pow_le_pow_right (by decide) (by omega)))]
   rw[e3]
   unfold nzL
   rw[List.getElem_replicate]
   rfl
  ·rw[List.getElem_append_right (by rw[l2];omega),hexL_getQ]
   unfold hxG
   rw[l2,show j - (i - (15 - j))=15 - i by omega]
theorem hxB_eq {m:Nat} (h0:m≠0) (hm:m<18446744073709551616):1≤bl m∧bl m≤64∧m*2^(65 - bl m)=hxB m+18446744073709551616∧hxB m<18446744073709551616:=by
 have b1:1≤bl m:=Nat.pos_of_ne_zero fun h=>by
  have:=(bl_le m 0).1 (by omega)
  rw[Nat.pow_zero] at this
  omega
 have b2:bl m≤64:=(bl_le m 64).2 (by rw[show(2:Nat)^64=18446744073709551616 from by decide];exact hm)
 have h1:=bl_pow_le h0
 have h2:m<2^bl m:=(bl_le m (bl m)).1 (Nat.le_refl _)
 have h3:2^(bl m - 1)*2^(65 - bl m)≤m*2^(65 - bl m):=Nat.mul_le_mul_right _ h1
 have h4:m*2^(65 - bl m)<2^bl m*2^(65 - bl m):=Nat.mul_lt_mul_of_pos_right h2 (Nat.two_pow_pos _)
 rw[←Nat.pow_add,show bl m - 1+(65 - bl m)=64 by omega] at h3
 rw[←Nat.pow_add,show bl m+(65 - bl m)=65 by omega] at h4
 have e64:(2:Nat)^64=18446744073709551616:=by decide
 have e65:(2:Nat)^65=36893488147419103232:=by decide
 rw[e64] at h3
 rw[e65] at h4
 unfold hxB
 generalize m*2^(65 - bl m)=x at *
 exact⟨b1,b2,by omega,by omega⟩
theorem hxB_ne {m:Nat} (hodd:m % 2=1) (hm:m<18446744073709551616):hxB m=0↔bl m=1:=by
 obtain⟨b1,b2,b3,b4⟩:=hxB_eq (m:=m) (by omega) hm
 have e64:(2:Nat)^64=18446744073709551616:=by decide
 constructor
 ·intro h
  rw[h,Nat.zero_add,←e64,show(2:Nat)^64=2^(bl m - 1)*2^(65 - bl m) by rw[←Nat.pow_add,show bl m - 1+(65 - bl m)=64 by omega]] at b3
  have h2:=Nat.eq_of_mul_eq_mul_right (Nat.two_pow_pos _) b3
  by_cases h3:bl m=1
  ·exact h3
  ·obtain⟨k,hk⟩:∃ k,bl m - 1=k+1:=⟨bl m - 2,by omega⟩
   rw[hk,Nat.pow_succ] at h2
   omega
 ·intro h
  have h2:m<2^bl m:=(bl_le m (bl m)).1 (Nat.le_refl _)
  rw[h] at h2
  have h3:m=1:=by omega
  subst h3
  rw[h] at b3
  have e4:1*2^(65 - 1)=18446744073709551616:=by decide
  rw[e4] at b3
  omega
theorem hxR_eq {m z r P:Nat} (h0:m≠0) (hm:m<18446744073709551616) (hP:P+1=bl m+z) (hr:r+2^P=m*2^z):r*18446744073709551616=hxB m*2^P:=by
 obtain⟨b1,b2,b3,b4⟩:=hxB_eq h0 hm
 have e64:(18446744073709551616:Nat)=2^64:=by decide
 have key:∀ M Q:Nat,M*2^(65 - bl m)=hxB m+Q→m*2^z*Q=M*2^(65 - bl m)*2^P→(r+2^P)*Q=(hxB m+Q)*2^P→r*Q=hxB m*2^P:=by
  intro M Q g1 g2 g3
  rw[Nat.add_mul,Nat.add_mul,Nat.mul_comm Q (2^P)] at g3
  exact Nat.add_right_cancel g3
 have e2:m*2^z*18446744073709551616=m*2^(65 - bl m)*2^P:=by
  rw[e64,Nat.mul_assoc,Nat.mul_assoc,←Nat.pow_add,←Nat.pow_add,show z+64=65 - bl m+P by omega]
 exact key m 18446744073709551616 b3 e2 (by rw[hr,e2,b3])
def hxR (r P i:Nat):Nat:=r*16^i % 2^P
theorem hxR_V {u r P:Nat} (h:r*18446744073709551616=u*2^P) (i:Nat):hxR r P i*18446744073709551616=hxV u i*2^P:=by
 unfold hxR hxV
 rw[←Nat.mul_mod_mul_right,←Nat.mul_mod_mul_right]
 have e:r*16^i*18446744073709551616=u*16^i*2^P:=by
  rw[Nat.mul_right_comm,h,Nat.mul_right_comm]
 rw[e,Nat.mul_comm (2^P)]
theorem hxR_z {u r P:Nat} (h:r*18446744073709551616=u*2^P) (i:Nat):hxR r P i=0↔hxV u i=0:=by
 have h1:=hxR_V h i
 have hp:=Nat.two_pow_pos P
 constructor
 ·intro h2
  rw[h2,Nat.zero_mul] at h1
  rcases Nat.mul_eq_zero.1 h1.symm with h3|h3 <;> omega
 ·intro h2
  rw[h2,Nat.zero_mul] at h1
  omega
theorem hxR_dg {u r P:Nat} (h:r*18446744073709551616=u*2^P) (i:Nat):16*hxR r P i / 2^P=16*hxV u i / 18446744073709551616:=by
 have h1:=hxR_V h i
 have hp:=Nat.two_pow_pos P
 have e1:16*hxR r P i / 2^P=16*hxR r P i*18446744073709551616 / (2^P*18446744073709551616):=(Nat.mul_div_mul_right _ _ (by decide)).symm
 have e2:16*hxV u i / 18446744073709551616=16*hxV u i*2^P / (18446744073709551616*2^P):=(Nat.mul_div_mul_right _ _ hp).symm
 rw[e1,e2,Nat.mul_assoc,Nat.mul_assoc 16 (hxV u i),h1,Nat.mul_comm (2^P)]
theorem hxR_step (r P i:Nat):16*hxR r P i % 2^P=hxR r P (i+1):=by
 unfold hxR
 rw[Nat.mul_mod_mod,Nat.pow_succ]
 congr 1
 ac_rfl
theorem hx_same {m z r P:Nat} (hodd:m % 2=1) (hm:m<18446744073709551616) (hP:P+1=bl m+z) (hr:r+2^P=m*2^z):∃ K,K≤16∧(∀ i,i<K→hxR r P i≠0)∧hxR r P K=0∧(0<K↔1<bl m)∧hxC m=hxO (fun i=>16*hxR r P i / 2^P) K:=by
 have h0:m≠0:=by omega
 obtain⟨b1,b2,b3,b4⟩:=hxB_eq h0 hm
 have hu:=hxR_eq h0 hm hP hr
 have hne:=hxB_ne hodd hm
 unfold hxC
 rw[hxD_16 b4]
 generalize hxB m=u at *
 obtain⟨K,k1,k2,k3⟩:=least_ex (fun i=>decide (hxV u i=0)) 16 (decide_eq_true (hxV_16 u))
 have k2:=of_decide_eq_true k2
 have k3:∀ i,i<K→hxV u i≠0:=fun i hi=>of_decide_eq_false (k3 i hi)
 have hz:∀ j,hxV u (K+j)=0:=by
  intro j
  induction j with
  | zero=>exact k2
  | succ j ih=>rw[←Nat.add_assoc,←hxV_step,ih]
 refine⟨K,k1,fun i hi h=>k3 i hi ((hxR_z hu i).1 h),(hxR_z hu K).2 k2,?_,?_⟩
 ·have e0:hxV u 0=u:=by unfold hxV;rw[Nat.pow_zero,Nat.mul_one,Nat.mod_eq_of_lt b4]
  constructor
  ·intro h
   have:=k3 0 h
   rw[e0] at this
   have:bl m≠1:=fun h9=>this (hne.2 h9)
   omega
  ·intro h
   refine Nat.pos_of_ne_zero fun h9=>?_
   rw[h9,e0] at k2
   have:=hne.1 k2
   omega
 ·have e1:hxO (fun i=>16*hxR r P i / 2^P) K=hxO (hxG u) K:=by
   refine hxO_congr K fun i hi=>?_
   rw[hxR_dg hu,hxV_dg (by omega)]
  have e2:hxO (hxG u) 16=hxO (hxG u) K++List.replicate (16 - K) 48:=by
   have:=hxO_zero (dg:=hxG u) (K:=K) (16 - K) (fun i h1 h2=>by
    rw[←hxV_dg (by omega),show i=K+(i - K) by omega,hz])
   rw[show K+(16 - K)=16 by omega] at this
   exact this
  rw[e1,e2,trimR_app]
  refine trim_id (hxO_last (fun i hi=>Nat.mod_lt _ (by decide)) ?_)
  intro k hk h9
  subst hk
  rw[←hxV_dg (by omega)] at h9
  have h1:=k3 k (by omega)
  have h2:=hxV_step u k
  rw[k2] at h2
  have h3:=Nat.div_add_mod (16*hxV u k) 18446744073709551616
  rw[h9,h2] at h3
  omega
theorem hx_lt16 {r P i:Nat}:hxR r P i<2^P∧16*hxR r P i<2^(P+4)∧16*hxR r P i / 2^P≤15∧16*hxR r P i / 2^P<2^4:=by
 have h1:hxR r P i<2^P:=Nat.mod_lt _ (Nat.two_pow_pos P)
 have h2:16*hxR r P i / 2^P<16:=(Nat.div_lt_iff_lt_mul (Nat.two_pow_pos P)).2 (by omega)
 refine⟨h1,by rw[Nat.pow_add];omega,by omega,by omega⟩
theorem pt_n {d:List UInt8} {x:Int} (hd:1≤d.length) (h:x<0):ptL d ((d.length:Int) - 1 - x) = [48,46]++(nzL (-x - 1)++d):=by
 have e:nzL ((d.length:Int) - 1 - x+1 - (d.length:Int))=48 :: nzL (-x - 1):=by
  unfold nzL
  rw[show((d.length:Int) - 1 - x+1 - (d.length:Int)).toNat=(-x - 1).toNat+1 by omega,List.replicate_succ]
 unfold ptL
 rw[if_neg (by omega)]
 simp only[]
 rw[e,show(48 :: nzL (-x - 1)++d).length - ((d.length:Int) - 1 - x).toNat=1 by rw[List.length_append,List.length_cons,nz_len];omega]
 rfl
theorem pt_i {d:List UInt8} {x:Int} (hd:1≤d.length) (h:(d.length:Int)≤x+1):ptL d ((d.length:Int) - 1 - x)=d++nzL (x+1 - d.length):=by
 unfold ptL
 rw[if_pos (by omega),show nzL (1 - (d.length:Int)) = [] by unfold nzL;rw[show(1 - (d.length:Int)).toNat=0 by omega];rfl,List.nil_append,show -((d.length:Int) - 1 - x)=x+1 - d.length by omega]
theorem pt_p {d:List UInt8} {x:Int} {q:Nat} (h0:¬ x<0) (h:¬ (d.length:Int)≤x+1) (hq:x+1=(q:Int)):ptL d ((d.length:Int) - 1 - x)=d.take q++46 :: d.drop q:=by
 have e:nzL ((d.length:Int) - 1 - x+1 - (d.length:Int)) = []:=by
  unfold nzL
  rw[show((d.length:Int) - 1 - x+1 - (d.length:Int)).toNat=0 by omega]
  rfl
 unfold ptL
 rw[if_neg (by omega)]
 simp only[]
 rw[e,List.nil_append,show d.length - ((d.length:Int) - 1 - x).toNat=q by omega]
def isdT (c:UInt8):Bool:=decide (48≤c.toNat)&&decide (c.toNat≤57)
def fdL (L:List UInt8):List UInt8:=L.filter isdT
theorem dv_snoc (L:List UInt8) (c:UInt8):dvP 10 (L ++ [c]) (L.length+1)=dvP 10 L L.length*10+dgB c.toNat:=by
 show dvP 10 (L ++ [c]) L.length*10+dgB (bL (L ++ [c]) L.length)=_
 have h:=dvP_take 10 (L ++ [c]) L.length L.length (Nat.le_refl _)
 rw[List.take_left] at h
 rw[←h]
 congr 2
 unfold bL
 simp
theorem dgB_dg {m:Nat} (h:m<10):dgB (UInt8.ofNat (48+m)).toNat=m:=by
 rw[UInt8.toNat_ofNat_of_lt' (show 48+m<256 by omega)]
 unfold dgB
 rw[if_pos (by omega)]
 omega
theorem dv_dcR (N:Nat):dvP 10 (dcR N) (dcR N).length=N:=by
 induction N using Nat.strongRecOn with
 | _ N ih =>
  by_cases h0:N=0
  ·subst h0;rfl
  ·rw[dcR_step h0,List.length_append,List.length_singleton,dv_snoc,ih (N / 10) (by omega),dgB_dg (Nat.mod_lt _ (by decide))]
   omega
theorem dcR_dg (N:Nat):∀ c ∈ dcR N,isdT c=true:=by
 induction N using Nat.strongRecOn with
 | _ N ih =>
  by_cases h0:N=0
  ·subst h0;intro c hc;rw[dcR_0] at hc;simp at hc
  ·rw[dcR_step h0]
   intro c hc
   rcases List.mem_append.1 hc with h|h
   ·exact ih _ (by omega) c h
   ·obtain rfl:=List.mem_singleton.1 h
    unfold isdT
    rw[UInt8.toNat_ofNat_of_lt' (show 48+N % 10<256 by omega),decide_eq_true (by omega),decide_eq_true (by omega)]
    rfl
theorem nzL_dg (n:Int):∀ c ∈ nzL n,isdT c=true:=by
 intro c hc
 unfold nzL at hc
 obtain⟨-,rfl⟩:=List.mem_replicate.1 hc
 rfl
theorem dv_nz (k:Nat) (L:List UInt8):dvP 10 (List.replicate k 48++L) (List.replicate k 48++L:List UInt8).length=dvP 10 L L.length:=by
 induction k with
 | zero=>rfl
 | succ k ih =>
  rw[List.replicate_succ,List.cons_append,List.length_cons,Nat.add_comm,dvP_app 10 _ 1,List.drop_one,List.tail_cons,ih]
  have:dvP 10 (48 :: (List.replicate k 48++L)) 1=0:=rfl
  rw[this]
  omega
theorem fd_len (L:List UInt8):(fdL L).length≤L.length:=List.length_filter_le _ _
theorem bdy_exact {K:Nat} (hK:70000≤K) {x:Nat} {e:Int} {b w:Nat} (hx:x≠0) (he : -65536≤e) (hw:w=0∨w=1∨w=2) (hb:b<9218868437227405312) (h:VA K x e=bv b*UU K):bdy x e w=b:=by
 obtain⟨b0,⟨l,g⟩,w0,w2,w1⟩:=(VA_rounds hK hx he (way:=w)).fl
 have hu:=UU_pos K
 rw[h] at l g w2 w1
 have e1:b0=b:=by
  have h1:bv b0≤bv b:=Nat.le_of_mul_le_mul_right l hu
  have h2:bv b<bv (b0+1):=Nat.lt_of_mul_lt_mul_right g
  have h3:=bv_inj_lt h2
  rcases Nat.lt_or_ge b b0 with h4|h4
  ·have:=bv_lt h4
   omega
  ·omega
 subst e1
 have hs:bv b0<bv (b0+1):=bv_succ b0
 have e2:rwb x e w=b0:=by
  rcases hw with rfl|rfl|rfl
  ·exact w0 rfl
  ·rw[w1 rfl,if_pos]
   have:bv b0*UU K<bv (b0+1)*UU K:=Nat.mul_lt_mul_of_pos_right hs hu
   rw[Nat.add_mul]
   omega
  ·rw[w2 rfl,if_pos rfl]
 unfold bdy
 rw[if_neg hx,e2,if_pos hb]
theorem odd_cop {y:Nat} (h:y % 2=1) (n:Nat):Nat.Coprime y (2^n):=by
 refine Nat.Coprime.pow_right n ?_
 unfold Nat.Coprime
 rw[Nat.gcd_comm,Nat.gcd_rec,h]
 rfl
theorem wy_012 (s:Bool) {m:Int} (hm:1≤m∧m≤3):wyN s m=0∨wyN s m=1∨wyN s m=2:=by
 unfold wyN
 split
 ·exact .inr (.inl rfl)
 ·split
  ·exact .inr (.inr rfl)
  ·exact .inl rfl
theorem rx_cross {x Z M y b V W:Nat} (h:Z*x*M=b*(V*y)*W):x*(Z*M)=y*(b*(V*W)):=by
 have e1:x*(Z*M)=Z*x*M:=by ac_rfl
 have e2:y*(b*(V*W))=b*(V*y)*W:=by ac_rfl
 rw[e1,e2,h]
theorem rt_exact {Z U P b c a:Nat} (hZ:Z≠0) (hU:U≠0) (hZb:Z<2^b) (hUb:U<2^c) (hP:P+c≤60000) (ha:a<9218868437227405312) (h:Z*2^kP=bv a*U*2^P):∀ (s:Bool) (m:Int),1≤m∧m≤3→rtF (un (if s then -(Z:Int) else(Z:Int)) P) (un (U:Int) 0) m=sig s a:=by
 intro s m hm
 have eU:un (U:Int) 0=(false,U / 2^tz U,(tz U:Int)):=by
  unfold un cn
  rw[Int.natAbs_natCast,if_neg hU,decide_eq_false (by omega)]
  simp
 have eZ:∀ s:Bool,un (if s then -(Z:Int) else(Z:Int)) P=(s,Z / 2^tz Z,(tz Z:Int) - (P:Int)):=by
  intro s
  cases s
  ·rw[if_neg (by decide)]
   unfold un cn
   rw[Int.natAbs_natCast,if_neg hZ,decide_eq_false (by omega)]
   simp;omega
  ·rw[if_pos rfl]
   unfold un cn
   rw[Int.natAbs_neg,Int.natAbs_natCast,if_neg hZ,decide_eq_true (by omega)]
   simp;omega
 obtain⟨sU,oU⟩:=tz_spec _ _ (Nat.le_refl _) hU
 have sZ':=(tz_spec _ _ (Nat.le_refl _) hZ).1
 have hx:Z / 2^tz Z≠0:=by intro h9;rw[h9,Nat.mul_zero] at sZ';omega
 have hy:U / 2^tz U≠0:=by intro h9;rw[h9,Nat.mul_zero] at sU;omega
 have bU':bl U=bl (U / 2^tz U)+tz U:=by
  have:=bl_shlD (x:=U / 2^tz U) (k:=tz U) hy
  rw[Nat.mul_comm,sU] at this
  exact this
 have hbU:bl U≤c:=(bl_le U c).2 hUb
 rw[eU,eZ s]
 rw[←sZ',←sU] at h
 generalize U / 2^tz U=y at *
 generalize Z / 2^tz Z=x at *
 generalize tz U=tU at *
 generalize tz Z=tZ at *
 unfold rtF rtK
 show tfF (s != false) (decide (x*2^(max 0 (64+(bl y:Int) - (bl x:Int))).toNat % y=0)) (x*2^(max 0 (64+(bl y:Int) - (bl x:Int))).toNat / y) ((tZ:Int) - (P:Int) - (tU:Int) - ((max 0 (64+(bl y:Int) - (bl x:Int))).toNat:Int)) m=_
 obtain⟨k,hk⟩:∃ k,k=(max 0 (64+(bl y:Int) - (bl x:Int))).toNat:=⟨_,rfl⟩
 have hk9:k≤64+bl y:=by omega
 rw[←hk]
 clear hk
 have h1:x*2^(tZ+kP)=y*(bv a*2^(tU+P)):=by
  rw[Nat.pow_add,Nat.pow_add]
  exact rx_cross h
 obtain⟨v,rfl⟩:y ∣ x:=(odd_cop oU (tZ+kP)).dvd_of_dvd_mul_right ⟨_,h1⟩
 have hy0:0<y:=Nat.pos_of_ne_zero hy
 rw[Nat.mul_assoc] at h1
 have h2:=Nat.eq_of_mul_eq_mul_left hy0 h1
 have e1:y*v*2^k % y=0:=by rw[Nat.mul_assoc];exact Nat.mul_mod_right _ _
 have e2:y*v*2^k / y=v*2^k:=by rw[Nat.mul_assoc];exact Nat.mul_div_cancel_left _ hy0
 have hv:v≠0:=fun h9=>hx (by rw[h9,Nat.mul_zero])
 rw[e1,e2,decide_eq_true rfl,tf_bdy hm,show(s != false)=s by cases s <;> rfl]
 refine congrArg (sig s) ?_
 obtain⟨K,hK⟩:∃ K:Nat,K=300000:=⟨_,rfl⟩
 refine bdy_exact (K:=K) (by omega) (Nat.mul_ne_zero hv (Nat.ne_of_gt (Nat.two_pow_pos _))) (by omega) (wy_012 s hm) ha ?_
 unfold VA UU
 rw[Nat.mul_assoc,←Nat.pow_add]
 have e3:k+((tZ:Int) - (P:Int) - (tU:Int) - (k:Int)+(K:Int)).toNat=tZ+kP+(K - 1074 - P - tU):=by
  have hkP:=kP_eq
  clear h h1 h2 hx
  generalize kP=q at *
  omega
 have e4:K - 1074=tU+P+(K - 1074 - P - tU):=by omega
 rw[e3,Nat.pow_add,←Nat.mul_assoc,h2,Nat.mul_assoc,←Nat.pow_add,←e4]
theorem rd_near {s:Bool} {D:List UInt8} {h a:Nat} {x:Int} (hd:allDg D 10=true) (hl:D.length≤1100) (hx : -1500≤(h:Int) - x∧(h:Int) - x≤1500) (hN:dvP 10 D D.length≠0) (h0:0<a) (ha:a<9218868437227405312) (hB:Bk a (dvP 10 D D.length) ((h:Int) - x)):rdFl s 10 D h x 2=sig s a:=by
 have hNb:dvP 10 D D.length<2^(4*D.length):=dvP_b (.inl rfl) hd _ (Nat.le_refl _)
 have e1:rK 10 h x = -((h:Int) - x):=by unfold rK;rw[if_neg (by decide)];omega
 have h8:=hT8_eq
 unfold rdFl
 show(if dvP 10 D D.length=0 then _ else rtF (un ((if s=true then -((dvP 10 D D.length:Nat):Int) else(dvP 10 D D.length:Nat))*(rO 10 h x:Nat)) (rP 10 h x)) (un ((rU 10 h x:Nat):Int) 0) 2)=_
 generalize dvP 10 D D.length=N at *
 have eO:rO 10 h x=tnU ((h:Int) - x):=by
  unfold rO tnO tnU
  rw[if_neg (by decide),e1]
 have eU:rU 10 h x=tnO ((h:Int) - x):=by
  unfold rU tnO tnU
  rw[if_neg (by decide),e1,Int.neg_neg]
 have eP:rP 10 h x=0:=by unfold rP;rw[if_neg (by decide)]
 rw[if_neg hN,eO,eU,eP]
 generalize (h:Int) - x=k at *
 have hk : -2000≤k∧k≤2000:=by omega
 have hp:0<tnU k:=Nat.pow_pos (by decide)
 have ho:0<tnO k:=Nat.pow_pos (by decide)
 obtain⟨t1,t2⟩:=tnO_lt hk
 obtain⟨X,e,h1,h2⟩:=rt_one (P:=0) (Nat.mul_ne_zero hN (by omega:tnU k≠0)) (by omega:tnO k≠0) (mulN hNb t2) t1 (by omega)
 have h3:=h2 false 2 (by omega)
 have h4:=h2 s 2 (by omega)
 have h5:=(bk_near hN hNb (by omega) hk h0 ha).2 hB
 unfold bkF at h5
 rw[if_neg (by decide),h5] at h3
 have e7:(if s=true then -((N:Nat):Int) else(N:Nat))*((tnU k:Nat):Int)=if s=true then -((N*tnU k:Nat):Int) else((N*tnU k:Nat):Int):=by
  cases s
  ·rw[if_neg (by decide),if_neg (by decide),Int.natCast_mul]
  ·rw[if_pos rfl,if_pos rfl,Int.natCast_mul,Int.neg_mul]
 rw[e7,h4]
 have e8:∀ t:Bool,wyN t 2=1:=fun t=>by unfold wyN;rw[if_pos rfl]
 rw[e8] at h3 ⊢
 rw[sig_f] at h3
 rw[←h3]
theorem rd_exact {s:Bool} {D:List UInt8} {h a:Nat} {b x m:Int} (hb:b=10∨b=16) (hd:allDg D b=true) (hl:D.length≤1100) (hh:h≤1100) (hx : -6000≤x∧x≤6000) (hm:1≤m∧m≤3) (hN:dvP b.toNat D D.length≠0) (ha:a<9218868437227405312) (hE:dvP b.toNat D D.length*rO b h x*2^kP=bv a*rU b h x*2^rP b h x):rdFl s b D h x m=sig s a:=by
 obtain⟨o1,o2,o3,o4,o5⟩:=rO_lt hb hh hx
 have hNb:dvP b.toNat D D.length<2^(4*D.length):=by
  rcases hb with rfl|rfl
  ·exact dvP_b (.inl rfl) hd _ (Nat.le_refl _)
  ·exact dvP_b (.inr rfl) hd _ (Nat.le_refl _)
 unfold rdFl
 generalize dvP b.toNat D D.length=N at *
 rw[if_neg hN]
 have e:=rt_exact (Z:=N*rO b h x) (U:=rU b h x) (P:=rP b h x) (b:=4*D.length+dQ) (c:=dQ) (Nat.mul_ne_zero hN (by omega)) (by omega) (mul_lt2 hNb o1) o2 (by rw[dQ_eq];omega) ha hE s m hm
 have e7:(if s=true then -((N:Nat):Int) else(N:Nat))*((rO b h x:Nat):Int)=if s=true then -((N*rO b h x:Nat):Int) else((N*rO b h x:Nat):Int):=by
  cases s
  ·rw[if_neg (by decide),if_neg (by decide),Int.natCast_mul]
  ·rw[if_pos rfl,if_pos rfl,Int.natCast_mul,Int.neg_mul]
 rw[e7,e]
theorem rd_zeroU {s:Bool} {D:List UInt8} {h:Nat} {b x m:Int} (hN:dvP b.toNat D D.length=0):rdFl s b D h x m=sig s 0:=by
 unfold rdFl
 rw[if_pos hN]
theorem bk_cross {N T u u' o o' Q:Nat} (h:u'*o=T*u*o'):N*T*(u*Q)*o'=N*(u'*Q)*o:=by
 have e1:N*T*(u*Q)*o'=N*Q*(T*u*o'):=by ac_rfl
 have e2:N*(u'*Q)*o=N*Q*(u'*o):=by ac_rfl
 rw[e1,e2,h]
theorem bk_ten {a N:Nat} {k:Int} (j:Nat):Bk a (N*10^j) (k+j)↔Bk a N k:=by
 have hc:=tn_cross k j
 unfold Bk
 refine RdN.cross (s:=tnO k) (t:=tnO (k+j)) (Nat.pow_pos (by decide)) (Nat.pow_pos (by decide)) ?_ (Nat.mul_comm _ _)
 exact bk_cross hc
theorem dec_dcD (n:Nat):Lib.decDigits n=dcD n:=by
 induction n using Nat.strongRecOn with
 | _ n ih =>
  rw[Lib.decDigits]
  by_cases h:n<10
  ·rw[dif_pos h]
   unfold dcD
   by_cases h0:n=0
   ·rw[if_pos h0,h0];rfl
   ·rw[if_neg h0,dcR_step h0,show n / 10=0 by omega,dcR_0,List.nil_append,show n % 10=n by omega]
  ·rw[dif_neg h,ih (n / 10) (by omega)]
   unfold dcD
   rw[if_neg (by omega),if_neg (by omega),dcR_step (by omega:n≠0)]
theorem isDg_10 {c:UInt8} (h:isdT c=true):isDg c.toNat 10=true:=by
 unfold isdT at h
 unfold isDg
 rw[h]
 rfl
theorem all_10 {L:List UInt8} (h:∀ c ∈ L,isdT c=true):allDg L 10=true:=by
 unfold allDg
 exact List.all_eq_true.2 fun c hc=>isDg_10 (h c hc)
theorem dcD_dg (N:Nat):∀ c ∈ dcD N,isdT c=true:=by
 unfold dcD
 split
 ·intro c hc
  obtain rfl:=List.mem_singleton.1 hc
  rfl
 ·exact dcR_dg N
theorem dv_dcD (N:Nat):dvP 10 (dcD N) (dcD N).length=N:=by
 unfold dcD
 split
 ·rename_i h;rw[h];rfl
 ·exact dv_dcR N
theorem rdE_dv {L:List UInt8} (hd:∀ c ∈ L,isdT c=true) (h:dvP 10 L L.length≤6000):∀ k,k≤L.length→rdE L k=dvP 10 L k
 | 0,_=>rfl
 | k+1,hk=>by
  have ih:=rdE_dv hd h k (by omega)
  have h1:=dvP_app 10 L (k+1) (L.length - (k+1))
  rw[show k+1+(L.length - (k+1))=L.length by omega] at h1
  have h2:dvP 10 L (k+1)≤dvP 10 L L.length:=by
   rw[h1]
   exact Nat.le_trans (Nat.le_mul_of_pos_right _ (Nat.pow_pos (by decide))) (Nat.le_add_right _ _)
  have h3:48≤bL L k∧bL L k≤57:=by
   have h4:=hd L[k] (List.getElem_mem (by omega))
   unfold isdT at h4
   have h5:=Bool.and_eq_true_iff.1 h4
   unfold bL
   rw[List.getElem?_eq_getElem (by omega)]
   simp only[decide_eq_true_eq] at h5
   exact h5
  have h6:dgB (bL L k)=bL L k - 48:=by unfold dgB;rw[if_pos h3]
  have h7:dvP 10 L (k+1)=dvP 10 L k*10+dgB (bL L k):=rfl
  show min (10*rdE L k+(bL L k - 48)) 6000=dvP 10 L (k+1)
  rw[ih,h7,h6]
  rw[h7,h6] at h2
  omega
theorem dg_head {L:List UInt8} (hd:∀ c ∈ L,isdT c=true):¬ (L.head?=some 45∨L.head?=some 43):=by
 intro h
 cases L with
 | nil=>simp at h
 | cons c r =>
  have h1:=hd c List.mem_cons_self
  rcases h with h|h
  ·obtain rfl:=Option.some.inj h
   exact absurd h1 (by decide)
  ·obtain rfl:=Option.some.inj h
   exact absurd h1 (by decide)
theorem ex_itoa {x : Int} (h : -6000 ≤ x ∧ x ≤ 6000) : exO (Lib.itoa x) = true ∧ exX (Lib.itoa x) = x := by
  have key : ∀ n : Nat, n ≤ 6000 → dgO 10 (dcD n) = true ∧ rdE (dcD n) (dcD n).length = n := by
    intro n hn
    have h1 := dv_dcD n
    refine ⟨?_, (rdE_dv (dcD_dg n) (by omega) _ (Nat.le_refl _)).trans h1⟩
    unfold dgO
    rw [all_10 (dcD_dg n), Bool.true_and]
    refine decide_eq_true fun h9 => ?_
    have := (dcD_len (N := n) (b := 13) (by have : (2 : Nat) ^ 13 = 8192 := by decide
                                            omega)).2
    rw [h9] at this
    simp at this
  unfold exX exO
  by_cases hx : x < 0
  · obtain ⟨n, rfl⟩ : ∃ n : Nat, x = -(n : Int) := ⟨x.natAbs, by omega⟩
    have e : Lib.itoa (-(n : Int)) = 45 :: dcD n := by
      unfold Lib.itoa
      rw [if_pos hx, Int.natAbs_neg, Int.natAbs_natCast, dec_dcD]
    have e1 : csS (45 :: dcD n) = -1 := by unfold csS; rw [if_pos (show (45 :: dcD n).head? = some 45 from rfl)]
    have e2 : csD (45 :: dcD n) = dcD n := by unfold csD; rw [if_pos (.inl rfl)]; rfl
    obtain ⟨k1, k2⟩ := key n (by omega)
    rw [e, e1, e2, k1, k2, if_pos rfl]
    exact ⟨rfl, by omega⟩
  · obtain ⟨n, rfl⟩ : ∃ n : Nat, x = (n : Int) := ⟨x.toNat, by omega⟩
    have e : Lib.itoa (n : Int) = dcD n := by
      unfold Lib.itoa
      rw [if_neg hx, Int.toNat_natCast, dec_dcD]
    have hh := dg_head (dcD_dg n)
    have e1 : csS (dcD n) = 1 := by unfold csS; rw [if_neg (fun h9 => hh (.inl h9))]
    have e2 : csD (dcD n) = dcD n := by unfold csD; rw [if_neg hh]
    obtain ⟨k1, k2⟩ := key n (by omega)
    rw [e, e1, e2, k1, k2, if_pos rfl]
    exact ⟨rfl, by omega⟩
end Go.Proofs.YtfkaogdmlcdceaaGreatDoor
