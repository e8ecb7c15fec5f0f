/- Own work: contracts of the program's functions, part 17: DUV DUW DUX DUY DUZ DVA. -/
import Derived.Test.YtfkaogdmlcdceaaGreatDoorA16
import Derived.Test.YtfkaogdmlcdceaaGreatDoorA15

set_option maxHeartbeats 16000000
set_option maxRecDepth 200000
set_option linter.unusedVariables false
set_option linter.unusedSimpArgs false
namespace Go.Proofs.YtfkaogdmlcdceaaGreatDoor
open Go Go.RowKit Go.Fl64
theorem hexP_no {L:List UInt8} (h:∀ c ∈ L,c≠120∧c≠88):hexP L=false:=by
 rcases hexP_cases L with ⟨-,c,T,h2,h3⟩|⟨h1,-⟩
 ·exfalso
  have h4:=h c (by rw[h2];simp)
  rcases h3 with h3|h3
  ·exact h4.1 h3
  ·exact h4.2 h3
 ·exact h1
theorem dg_nx {c:UInt8} (h:isdT c=true):c≠120∧c≠88∧c≠105∧c≠110∧c≠45∧c≠43:=by
 refine⟨?_,?_,?_,?_,?_,?_⟩ <;> (intro h9;rw[h9] at h;exact absurd h (by decide))
theorem itoa_mem (x:Int):∀ c ∈ Lib.itoa x,isdT c=true∨c=45:=by
 intro c hc
 unfold Lib.itoa at hc
 split at hc
 ·rcases List.mem_cons.1 hc with h|h
  ·exact .inr h
  ·rw[dec_dcD] at h;exact .inl (dcD_dg _ c h)
 ·rw[dec_dcD] at hc;exact .inl (dcD_dg _ c hc)
theorem cs_told {s:Bool} {L:List UInt8} (h:∀ c,L.head?=some c→c≠45∧c≠43):csS (sgL s L)=(if s then -1 else 1)∧csD (sgL s L)=L∧decide (csS (sgL s L)<0)=s:=by
 unfold sgL
 cases s
 ·have h1:¬ (L.head?=some 45∨L.head?=some 43):=by
   rintro(h1|h1)
   ·exact(h 45 h1).1 rfl
   ·exact(h 43 h1).2 rfl
  have e1:csS L=1:=by unfold csS;rw[if_neg (fun h9=>h1 (.inl h9))]
  have e2:csD L=L:=by unfold csD;rw[if_neg h1]
  exact⟨e1,e2,by rw[show csS (if false=true then 45 :: L else L)=1 from e1];rfl⟩
 ·exact⟨rfl,rfl,rfl⟩
theorem rdA_told {s dt:Bool} {A B Rr body:List UInt8} {x m:Int} (hm:1≤m∧m≤3) (hb:body=A++dtL dt B++Rr) (hA:∀ c ∈ A,isdT c=true) (hB:∀ c ∈ B,isdT c=true) (hdt:dt=false→B = []) (hA0:A ≠ []) (hR:(Rr = []∧x=0)∨(Rr=101 :: Lib.itoa x ∧ -5000≤x∧x≤5000)) (hl:A.length+B.length≤1100) :
  rdA (sgL s body) m=(rdFl s 10 (A++B) B.length x m,0):=by
 have hmem:∀ c ∈ body,isdT c=true∨c=46∨c=101∨c=45:=by
  intro c hc
  rw[hb] at hc
  rcases List.mem_append.1 hc with h|h
  ·rcases List.mem_append.1 h with h|h
   ·exact .inl (hA c h)
   ·unfold dtL at h
    split at h
    ·rcases List.mem_cons.1 h with h|h
     ·exact .inr (.inl h)
     ·exact .inl (hB c h)
    ·simp at h
  ·rcases hR with ⟨h1,-⟩|⟨h1,-⟩
   ·rw[h1] at h;simp at h
   ·rw[h1] at h
    rcases List.mem_cons.1 h with h|h
    ·exact .inr (.inr (.inl h))
    ·rcases itoa_mem x c h with h|h
     ·exact .inl h
     ·exact .inr (.inr (.inr h))
 have hx:hexP body=false:=hexP_no fun c hc=>by
  rcases hmem c hc with h|h|h|h
  ·exact⟨(dg_nx h).1,(dg_nx h).2.1⟩
  ·rw[h];decide
  ·rw[h];decide
  ·rw[h];decide
 obtain⟨a,A',rfl⟩:∃ a A',A=a :: A':=by
  cases A with
  | nil=>exact absurd rfl hA0
  | cons a A'=>exact⟨a,A',rfl⟩
 have ha:=hA a List.mem_cons_self
 have hhead:body.head?=some a:=by rw[hb];rfl
 obtain⟨c1,c2,c3⟩:=cs_told (s:=s) (L:=body) (fun c hc=>by
  rw[hhead] at hc
  obtain rfl:=Option.some.inj hc
  exact(dg_nx ha).2.2.2.2)
 have hRl:Rr.length≤101:=by
  rcases hR with ⟨h1,-⟩|⟨h1,h2⟩
  ·rw[h1];simp
  ·rw[h1,List.length_cons]
   have:=itoa_lenQ (x:=x) (by omega)
   omega
 have hlen:(sgL s body).length≤2000:=by
  have h1:body.length≤1202:=by
   rw[hb,List.length_append,List.length_append]
   unfold dtL
   split
   ·have h9:(46 :: B).length=B.length+1:=rfl
    omega
   ·have h9:([]:List UInt8).length=0:=rfl
    omega
  unfold sgL
  split
  ·rw[List.length_cons];omega
  ·omega
 obtain⟨p1,p2,p3⟩:=ps_dec hx
 have hst:StopD 10 dt Rr:=by
  rcases hR with ⟨h1,-⟩|⟨h1,-⟩
  ·exact .inl h1
  ·exact .inr ⟨101,Lib.itoa x,h1,by decide,fun _=>by decide⟩
 have hcase:=ps_case (S:=body) (.inl rfl) p1 p2 p3 hb (all_10 hA) (all_10 hB) hdt hst
 have hne:decide (a :: A'++B ≠ [])=true:=decide_eq_true (by simp)
 have hps:psOk body=true∧psD body=a :: A'++B∧psH body=B.length∧psX body=x:=by
  rcases hcase with ⟨h1,h2,h3,h4,h5⟩|⟨c,R',h1,h2,h3,h4,h5,h6⟩|⟨c,R',h1,h2,h3⟩
  ·rcases hR with ⟨-,g2⟩|⟨g1,-⟩
   ·exact⟨by rw[h2,hx,hne];rfl,h3,h4,by rw[h5,g2]⟩
   ·rw[h1] at g1;cases g1
  ·rcases hR with ⟨g1,-⟩|⟨g1,g2⟩
   ·rw[h1] at g1;cases g1
   ·rw[h1] at g1
    injection g1 with g3 g4
    subst g4
    obtain⟨e1,e2⟩:=ex_itoa (x:=x) (by omega)
    exact⟨by rw[h3,e1,hne];rfl,h4,h5,by rw[h6,e2]⟩
  ·rcases hR with ⟨g1,-⟩|⟨g1,g2⟩
   ·rw[h1] at g1;cases g1
   ·rw[h1] at g1
    injection g1 with g3 g4
    subst g3
    exact absurd h2 (by decide)
 obtain⟨q1,q2,q3,q4⟩:=hps
 have hd:∀ t:List UInt8,t.head?=some 105∨t.head?=some 110→body≠t:=by
  intro t ht h9
  rw[h9] at hhead
  rcases ht with ht|ht
  ·rw[ht] at hhead
   exact(dg_nx ha).2.2.1 (Option.some.inj hhead).symm
  ·rw[ht] at hhead
   exact(dg_nx ha).2.2.2.1 (Option.some.inj hhead).symm
 unfold rdA
 rw[if_neg (not_not_intro hm),if_neg (by omega),c2,if_neg (hd _ (.inl rfl)),if_neg (hd _ (.inr rfl)),q1,if_neg (by decide),q2,if_neg (by rw[List.length_append];omega),c3,p3,q3,q4]
theorem rdA_e {s:Bool} {d:List UInt8} {x m:Int} (hm:1≤m∧m≤3) (hd:∀ c ∈ d,isdT c=true) (h1:1≤d.length) (hl:d.length≤1100) (hx : -5000≤x∧x≤5000):rdA (sgL s (exL d (Lib.itoa x))) m=(rdFl s 10 d (d.length - 1) x m,0):=by
 have h:=rdA_told (s:=s) (dt:=decide (1<d.length)) (A:=d.take 1) (B:=d.drop 1) (Rr:=101 :: Lib.itoa x) (body:=exL d (Lib.itoa x)) (x:=x) hm (by
  unfold exL dtL
  by_cases h9:1<d.length
  ·rw[if_pos h9,if_pos (decide_eq_true h9)]
  ·rw[if_neg h9,if_neg (by rw[decide_eq_false h9];decide)]) (fun c hc=>hd c (List.mem_of_mem_take hc)) (fun c hc=>hd c (List.mem_of_mem_drop hc)) (fun h9=>by
  have:¬ 1<d.length:=of_decide_eq_false h9
  exact List.drop_eq_nil_of_le (by omega)) (by
  intro h9
  have:=congrArg List.length h9
  rw[List.length_take] at this
  have h8:([]:List UInt8).length=0:=rfl
  omega) (.inr ⟨rfl,hx⟩) (by rw[List.length_take,List.length_drop];omega)
 rw[List.take_append_drop,List.length_drop] at h
 exact h
theorem nz_mem (n:Int):∀ c ∈ nzL n,isdT c=true:=nzL_dg n
theorem rdA_p0 {s:Bool} {d:List UInt8} {p m:Int} (hm:1≤m∧m≤3) (hd:∀ c ∈ d,isdT c=true) (h1:1≤d.length) (hp:p≤0) (hl:d.length+(-p).toNat≤1100):rdA (sgL s (ptL d p)) m=(rdFl s 10 (d++nzL (-p)) 0 0 m,0):=by
 have e:ptL d p=d++nzL (-p):=by
  unfold ptL
  rw[if_pos hp,show nzL (1 - (d.length:Int)) = [] by unfold nzL;rw[show(1 - (d.length:Int)).toNat=0 by omega];rfl,List.nil_append]
 have h:=rdA_told (s:=s) (dt:=false) (A:=d++nzL (-p)) (B := []) (Rr := []) (body:=ptL d p) (x:=0) hm (by rw[e];simp[dtL]) (fun c hc=>by
  rcases List.mem_append.1 hc with h|h
  ·exact hd c h
  ·exact nz_mem _ c h) (fun c hc=>by simp at hc) (fun _=>rfl) (by
  intro h9
  have:=congrArg List.length h9
  rw[List.length_append] at this
  have h8:([]:List UInt8).length=0:=rfl
  omega) (.inl ⟨rfl,rfl⟩) (by rw[List.length_append,nz_len];simp;omega)
 rw[List.append_nil] at h
 exact h
theorem rdA_p1 {s:Bool} {d:List UInt8} {p m:Int} (hm:1≤m∧m≤3) (hd:∀ c ∈ d,isdT c=true) (hp:0<p) (hl:d.length≤1100) (hp2:p≤1099):rdA (sgL s (ptL d p)) m=(rdFl s 10 (nzL (p+1 - d.length)++d) p.toNat 0 m,0):=by
 have hlen:(nzL (p+1 - d.length)++d).length=(p+1 - (d.length:Int)).toNat+d.length:=by rw[List.length_append,nz_len]
 obtain⟨e,he⟩:∃ e,e=nzL (p+1 - d.length)++d:=⟨_,rfl⟩
 have hE:∀ c ∈ e,isdT c=true:=by
  intro c hc
  rw[he] at hc
  rcases List.mem_append.1 hc with h|h
  ·exact nz_mem _ c h
  ·exact hd c h
 have eP:ptL d p=e.take (e.length - p.toNat)++46 :: e.drop (e.length - p.toNat):=by
  unfold ptL
  rw[if_neg (by omega),he]
 rw[←he] at hlen ⊢
 have h:=rdA_told (s:=s) (dt:=true) (A:=e.take (e.length - p.toNat)) (B:=e.drop (e.length - p.toNat)) (Rr := []) (body:=ptL d p) (x:=0) hm (by rw[eP];simp[dtL]) (fun c hc=>hE c (List.mem_of_mem_take hc)) (fun c hc=>hE c (List.mem_of_mem_drop hc)) (fun h9=>by cases h9) (by
  intro h9
  have:=congrArg List.length h9
  rw[List.length_take] at this
  have h8:([]:List UInt8).length=0:=rfl
  omega) (.inl ⟨rfl,rfl⟩) (by rw[List.length_take,List.length_drop];omega)
 rw[List.take_append_drop,List.length_drop,show e.length - (e.length - p.toNat)=p.toNat by omega] at h
 exact h
theorem dv_app (A B:List UInt8):dvP 10 (A++B) (A++B).length=dvP 10 A A.length*10^B.length+dvP 10 B B.length:=by
 rw[List.length_append,dvP_app,List.drop_left]
 have h:=dvP_take 10 (A++B) A.length A.length (Nat.le_refl _)
 rw[List.take_left] at h
 rw[h]
theorem dv_z (n:Nat):dvP 10 (List.replicate n 48) (List.replicate n 48:List UInt8).length=0:=by
 have h:=dv_nz n []
 rw[List.append_nil] at h
 rw[h]
 rfl
theorem rd_lay {s:Bool} {d:List UInt8} {x:Int} {a:Nat} (hd:∀ c ∈ d,isdT c=true) (h1:1≤d.length) (hl:d.length≤100) (hx : -1000≤x∧x≤1000) (hN:dvP 10 d d.length≠0) (h0:0<a) (ha:a<9218868437227405312) (hB:Bk a (dvP 10 d d.length) ((d.length:Int) - 1 - x)):rdA (sgL s (exL d (Lib.itoa x))) 2=(sig s a,0)∧(-10≤x∧x≤30→rdA (sgL s (ptL d ((d.length:Int) - 1 - x))) 2=(sig s a,0)):=by
 constructor
 ·rw[rdA_e (by omega) hd h1 (by omega) (by omega),rd_near (all_10 hd) (by omega) (by omega) hN h0 ha (by rw[show((d.length - 1:Nat):Int) - x=(d.length:Int) - 1 - x by omega];exact hB)]
 ·intro hx2
  by_cases hp:(d.length:Int) - 1 - x≤0
  ·obtain⟨j,hj⟩:∃ j:Nat,-((d.length:Int) - 1 - x)=(j:Int):=⟨(-((d.length:Int) - 1 - x)).toNat,by omega⟩
   rw[rdA_p0 (by omega) hd h1 hp (by omega)]
   have e:nzL (-((d.length:Int) - 1 - x))=List.replicate j 48:=by unfold nzL;rw[hj];rfl
   have hv:dvP 10 (d++List.replicate j 48) (d++List.replicate j 48).length=dvP 10 d d.length*10^j:=by
    rw[dv_app,dv_z,List.length_replicate,Nat.add_zero]
   rw[e]
   have hd2:∀ c ∈ d++List.replicate j 48,isdT c=true:=by
    intro c hc
    rcases List.mem_append.1 hc with h|h
    ·exact hd c h
    ·obtain⟨-,rfl⟩:=List.mem_replicate.1 h;rfl
   rw[rd_near (all_10 hd2) (by rw[List.length_append,List.length_replicate];omega) (by omega) (by rw[hv];exact Nat.mul_ne_zero hN (Nat.ne_of_gt (Nat.pow_pos (by decide)))) h0 ha (by
    rw[hv]
    have:=(bk_ten (a:=a) (N:=dvP 10 d d.length) (k:=(d.length:Int) - 1 - x) j).2 hB
    rw[show(d.length:Int) - 1 - x+(j:Int)=((0:Nat):Int) - 0 by omega] at this
    exact this)]
  ·rw[rdA_p1 (by omega) hd (by omega) (by omega) (by omega)]
   have hv:dvP 10 (nzL ((d.length:Int) - 1 - x+1 - d.length)++d) (nzL ((d.length:Int) - 1 - x+1 - d.length)++d).length=dvP 10 d d.length:=by
    unfold nzL
    exact dv_nz _ _
   have hd2:∀ c ∈ nzL ((d.length:Int) - 1 - x+1 - d.length)++d,isdT c=true:=by
    intro c hc
    rcases List.mem_append.1 hc with h|h
    ·exact nz_mem _ c h
    ·exact hd c h
   rw[rd_near (all_10 hd2) (by rw[List.length_append,nz_len];omega) (by omega) (by rw[hv];exact hN) h0 ha (by
    rw[hv,show(((d.length:Int) - 1 - x).toNat:Int) - 0=(d.length:Int) - 1 - x by omega]
    exact hB)]
theorem sh_split (a:Nat):∃ z,dcR (shF a)=shD a++List.replicate z 48∧shF a=dvP 10 (shD a) (shD a).length*10^z∧shE a=(shD a).length+z - 1 - (16 - shX a):=by
 obtain⟨z,h1,-⟩:=trimR_split (dcT (shF a))
 have e:Lib.trimRightB (dcT (shF a)) 48=shD a:=rfl
 rw[e,dcT_eq] at h1
 refine⟨z,h1,?_,?_⟩
 ·have h2:=dv_dcR (shF a)
  rw[h1,dv_app,dv_z,List.length_replicate,Nat.add_zero] at h2
  exact h2.symm
 ·have h3:=congrArg List.length h1
  rw[List.length_append,List.length_replicate] at h3
  unfold shE
  rw[dcT_eq,h3]
  omega
theorem shD_dg (a:Nat):∀ c ∈ shD a,isdT c=true:=by
 obtain⟨z,h1,-,-⟩:=sh_split a
 intro c hc
 exact dcR_dg (shF a) c (by rw[h1];exact List.mem_append_left _ hc)
theorem shF_ne {a:Nat} (h0:0<a) (h:a<9218868437227405312):shF a≠0:=by
 obtain⟨h1,h2⟩:=shF_read h0 h
 obtain⟨g1,g2⟩:=shG_b h0 h
 have hk:shF a=bsD a*fwU (shJ a):=shF_doc h0 h
 have hw : -400≤shX a∧shX a≤400:=(woX_spec (fU_lt a) (fU_ne h0 h)).2.2
 have hJ:=shJ_le a
 obtain⟨-,b2⟩:=bs_b (lo_b hJ (by omega) h0 h).2.1 (loD_ne hJ h0 h)
 rw[hk]
 exact Nat.mul_ne_zero b2 (Nat.ne_of_gt (fwU_pos _))
theorem sh_bk {a:Nat} (h0:0<a) (h:a<9218868437227405312):Bk a (dvP 10 (shD a) (shD a).length) ((shD a).length - 1 - shE a)∧dvP 10 (shD a) (shD a).length≠0:=by
 obtain⟨z,h1,h2,h3⟩:=sh_split a
 have hB:Bk a (shF a) (16 - shX a):=(sh_iff h0 h).1 (shF_read h0 h)
 constructor
 ·rw[h2,show(16:Int) - shX a=((shD a).length:Int) - 1 - shE a+(z:Int) by omega] at hB
  exact(bk_ten z).1 hB
 ·intro h9
  rw[h9,Nat.zero_mul] at h2
  exact shF_ne h0 h h2
theorem e17:(10:Nat)^17=100000000000000000:=by decide
theorem fw_cap {g j:Nat} (hj:j≤16) (h:g<100000000000000000):g / fwU j*fwU j+fwU j≤100000000000000000:=by
 unfold fwU
 have e:(100000000000000000:Nat)=10^(j+1)*10^(16 - j):=by rw[←Nat.pow_add,show j+1+(16 - j)=17 by omega,e17]
 have hp:0<10^(16 - j):=Nat.pow_pos (by decide)
 rw[e] at h ⊢
 have h1:g / 10^(16 - j)<10^(j+1):=(Nat.div_lt_iff_lt_mul hp).2 h
 have h2:=Nat.mul_le_mul_right (10^(16 - j)) (show g / 10^(16 - j)+1≤10^(j+1)from h1)
 rw[Nat.add_mul,Nat.one_mul] at h2
 exact h2
theorem shF_cap {a:Nat} (h0:0<a) (h:a<9218868437227405312):shF a≤100000000000000000:=by
 obtain⟨g1,g2⟩:=shG_b h0 h
 have e:=shT_G h
 have h1:=fw_cap (shJ_le a) g2
 rw[←e] at h1
 have h2:fwL (shT a) (shJ a)+fwU (shJ a)≤100000000000000000:=h1
 unfold shF
 split <;> omega
theorem shD_17 {a:Nat} (h0:0<a) (h:a<9218868437227405312):(shD a).length≤17:=by
 have h1:=shF_cap h0 h
 have e:shD a=Lib.trimRightB (dcR (shF a)) 48:=by unfold shD;rw[dcT_eq]
 rcases Nat.lt_or_ge (shF a) 100000000000000000 with h2|h2
 ·rw[e]
  refine Nat.le_trans (trimR_len _ _) (dcR_le ?_)
  rw[e17];exact h2
 ·have h3:shF a=1*10^17:=by rw[e17];omega
  rw[e,h3,dcR_ten (by decide),trimR_app]
  refine Nat.le_trans (trimR_len _ _) (Nat.le_trans (dcR_le (b:=1) (by decide)) (by decide))
def rdNaN (a:Nat):Nat:=if 9218868437227405312<mag a then 9221120237041090561 else a
theorem rdNaN_n {a:Nat} (h:9218868437227405312<mag a):rdNaN a=9221120237041090561:=by unfold rdNaN;rw[if_pos h]
theorem rdNaN_f {a:Nat} (h:¬ 9218868437227405312<mag a):rdNaN a=a:=by unfold rdNaN;rw[if_neg h]
theorem rd_nanT (m:Int) (hm:1≤m∧m≤3):rdA [110,97,110] m=(9221120237041090561,0):=by
 unfold rdA
 rw[if_neg (not_not_intro hm),if_neg (by decide),if_neg (by decide),if_pos (by decide)]
theorem rd_infT (s:Bool) (m:Int) (hm:1≤m∧m≤3):rdA (sgL s [105,110,102]) m=(sig s 9218868437227405312,0):=by
 unfold rdA
 cases s
 ·rw[if_neg (not_not_intro hm),if_neg (by decide),if_pos (by decide)]
  rfl
 ·rw[if_neg (not_not_intro hm),if_neg (by decide),if_pos (by decide)]
  rfl
theorem rd_shTx {a:Nat} (ha:a<18446744073709551616):rdA (shTx a) 2=(rdNaN a,0):=by
 have hs:=Ie.sig_self a ha
 unfold shTx
 rcases(by omega:9218868437227405312<mag a∨mag a=9218868437227405312∨mag a<9218868437227405312)with hf|hf|hf
 ·rw[if_pos hf,rdNaN_n hf]
  exact rd_nanT 2 (by omega)
 ·rw[if_neg (by omega),if_pos hf,rdNaN_f (by omega),rd_infT _ 2 (by omega),←hf,hs]
 ·rw[if_neg (by omega),if_neg (by omega),rdNaN_f (by omega)]
  by_cases hz:mag a=0
  ·rw[if_pos hz]
   have h:=rdA_p0 (s:=neg a) (d := [48]) (p:=0) (m:=2) (by omega) (by intro c hc;obtain rfl:=List.mem_singleton.1 hc;rfl) (by decide) (by omega) (by decide)
   rw[pt_0 (by decide)] at h
   rw[h,rd_zeroU (by decide),←hz,hs]
  ·rw[if_neg hz]
   have hm0:0<mag a:=by omega
   obtain⟨b1,b2⟩:=sh_bk hm0 hf
   obtain⟨hl2,hE⟩:=shE_b hm0 hf
   obtain⟨hd,-⟩:=shD_pos hm0 hf
   obtain⟨l1,l2⟩:=rd_lay (s:=neg a) (shD_dg (mag a)) hd (by omega) hE b2 hm0 hf b1
   rw[hs] at l1 l2
   unfold shS
   split
   ·exact l1
   ·exact l2 (by omega)
theorem sh17N {a:Nat} (h0:0<a) (h:a<9218868437227405312):(2*scR (fU a) (16 - shX a)≤shU a*kU→shL a≤shG a)∧(shU a*kU≤2*scR (fU a) (16 - shX a)→shG a+1≤shH a):=by
 obtain⟨g1,-⟩:=shG_b h0 h
 have hd:0<shU a*2^kP:=Nat.mul_pos (Nat.pow_pos (by decide)) (twB_pos _)
 have eR:scR (fU a) (16 - shX a)=bv a*shO a % (shU a*2^kP):=by
  unfold scR shO shU
  rw[fU_bv (by omega),kU_kP]
 rw[shL_iff h0 h,shH_iff h0 h,kQ_q,eR,←kU_kP]
 have m1:bv (a - 1)<bv a:=bv_lt (by omega)
 have m2:bv a<bv (a+1):=bv_succ a
 have q1:=gap53 (a - 1)
 have q2:=gap53 a
 rw[show a - 1+1=a by omega] at q1
 have hdm:=Nat.div_add_mod (bv a*shO a) (shU a*2^kP)
 have hm:=Nat.mod_lt (bv a*shO a) hd
 have hG:bv a*shO a / (shU a*2^kP)=shG a:=rfl
 rw[hG] at hdm
 generalize shG a=G at *
 generalize shU a*2^kP=d at *
 have hN:10000000000000000*d≤bv a*shO a:=by
  have:10000000000000000*d≤G*d:=Nat.mul_le_mul_right _ g1
  rw[Nat.mul_comm d G] at hdm
  omega
 have k1:=gapN (g:=0) q1 hN hd
 have k2:=gapN (x:=bv a) (y:=bv (a+1) - bv a) (g:=0) (by omega) hN hd
 obtain⟨u,hu⟩:∃ u,bv a=bv (a - 1)+u:=⟨bv a - bv (a - 1),by omega⟩
 obtain⟨v,hv⟩:∃ v,bv (a+1)=bv a+v:=⟨bv (a+1) - bv a,by omega⟩
 rw[show bv a - bv (a - 1)=u by omega] at k1
 rw[show bv (a+1) - bv a=v by omega] at k2
 have e1:(bv (a - 1)+bv a)*shO a+u*shO a=2*(bv a*shO a):=by
  rw[←Nat.add_mul,←Nat.mul_assoc]
  congr 1
  omega
 have e2:(bv a+bv (a+1))*shO a=2*(bv a*shO a)+v*shO a:=by
  rw[←Nat.mul_assoc,←Nat.add_mul]
  congr 1
  omega
 have e3:G*(2*d)=2*(d*G):=by ac_rfl
 have e4:(G+1)*(2*d)=2*(d*G)+2*d:=by rw[Nat.add_mul,e3,Nat.one_mul]
 rw[e2,e3,e4]
 generalize bv a*shO a % d=r at *
 generalize bv a*shO a=N at *
 generalize (bv (a - 1)+bv a)*shO a=L at *
 generalize u*shO a=U' at *
 generalize v*shO a=V' at *
 generalize d*G=dG at *
 exact⟨fun hr=>.inl (by omega),fun hr=>.inl (by omega)⟩
theorem rd17 {a:Nat} {ng:Bool} (h0:0<a) (h:a<9218868437227405312):shL a≤rdN (fU a) (16 - shX a) ng 2∧rdN (fU a) (16 - shX a) ng 2≤shH a∧10000000000000000≤rdN (fU a) (16 - shX a) ng 2∧rdN (fU a) (16 - shX a) ng 2≤100000000000000000:=by
 obtain⟨g1,g2⟩:=shG_b h0 h
 obtain⟨k1,k2⟩:=sh17N h0 h
 obtain⟨j1,j2⟩:=shG_H h0 h
 have e2:scF (fU a) (16 - shX a)=shG a:=by
  unfold scF shG shO shU
  rw[←kU_kP,fU_bv (by omega)]
 have eU:tnU (16 - shX a)=shU a:=rfl
 have hr:scE (fU a) (16 - shX a)=true→scR (fU a) (16 - shX a)=0:=fun h9=>by
  unfold scE at h9
  unfold scR
  exact of_decide_eq_true h9
 unfold rdN rdU
 rw[e2,eU,if_pos rfl]
 generalize scR (fU a) (16 - shX a)=r at *
 generalize shU a*kU=d at *
 by_cases c:scE (fU a) (16 - shX a)=true
 ·rw[if_pos c]
  have:=hr c
  exact⟨k1 (by omega),j1,g1,by omega⟩
 ·rw[if_neg c]
  by_cases c2:(decide (d<2*r)||decide (2*r=d)&&decide (shG a % 2=1))=true
  ·rw[if_pos c2]
   have h9:d≤2*r:=by
    simp only[Bool.or_eq_true,Bool.and_eq_true,decide_eq_true_eq] at c2
    omega
   exact⟨by omega,k2 h9,by omega,by omega⟩
  ·rw[if_neg c2]
   have h9:2*r≤d:=by
    simp only[Bool.or_eq_true,Bool.and_eq_true,decide_eq_true_eq,not_or,not_and] at c2
    omega
   exact⟨k1 h9,j1,g1,by omega⟩
theorem fU_mag (a:Nat):fU (mag a)=fU a:=by
 have h2:mag (mag a)=mag a:=by unfold mag;omega
 unfold fU Ie.mant Ie.lp
 rw[h2]
theorem rd_dg17 {a:Nat} (ha:a<18446744073709551616):(dgA a 17 2).2=0∧rdA (dgA a 17 2).1 2=(rdNaN a,0):=by
 have hs:=Ie.sig_self a ha
 have e0:dgA a 17 2=(dgT a 17 2,0):=by unfold dgA;rw[if_pos (by omega)]
 rw[e0]
 refine⟨rfl,?_⟩
 show rdA (dgT a 17 2) 2=_
 unfold dgT
 rcases(by omega:9218868437227405312<mag a∨mag a=9218868437227405312∨mag a<9218868437227405312)with hf|hf|hf
 ·rw[if_pos hf,rdNaN_n hf]
  exact rd_nanT 2 (by omega)
 ·rw[if_neg (by omega),if_pos hf,rdNaN_f (by omega),rd_infT _ 2 (by omega),←hf,hs]
 ·rw[if_neg (by omega),if_neg (by omega),rdNaN_f (by omega)]
  by_cases hz:mag a=0
  ·rw[if_pos hz,rdA_e (by omega) (nz_mem 17) (by rw[nz_len];decide) (by rw[nz_len];decide) (by omega),rd_zeroU (by decide),←hz,hs]
  ·rw[if_neg hz]
   have hm0:0<mag a:=by omega
   obtain⟨n1,n2,n3,n4⟩:=rd17 (ng:=neg a) hm0 hf
   have hw:=(woX_spec (fU_lt (mag a)) (fU_ne hm0 hf)).2.2
   have eX:shX (mag a)=woX (fU a):=by unfold shX;rw[fU_mag]
   rw[fU_mag] at n1 n2 n3 n4 hw
   rw[eX] at n1 n2 n3 n4
   have hB:Bk (mag a) (rdN (fU a) (16 - woX (fU a)) (neg a) 2) (16 - woX (fU a)):=by
    have:=(sh_iff hm0 hf).1 ⟨n1,n2⟩
    unfold shU shO at this
    rw[eX] at this
    exact this
   have eD:dgX a 17 2=dcR (rdN (fU a) (16 - woX (fU a)) (neg a) 2):=by
    unfold dgX
    rw[show(17:Int) - 1 - woX (fU a)=16 - woX (fU a) by omega,uN_rd (by omega)]
   rw[eD,show(17:Int).toNat=17 from rfl]
   generalize rdN (fU a) (16 - woX (fU a)) (neg a) 2=N at *
   generalize woX (fU a)=x at *
   have h18:(dcR N).length≤18:=dcR_le (by rw[show(10:Nat)^18=1000000000000000000 by decide];omega)
   have h17:16<(dcR N).length:=dcR_ge (by rw[show(10:Nat)^16=10000000000000000 by decide];exact n3)
   by_cases c:17<(dcR N).length
   ·rw[if_pos c]
    have hN:N=100000000000000000:=by
     rcases Nat.lt_or_ge N 100000000000000000 with h9|h9
     ·have:=dcR_le (N:=N) (b:=17) (by rw[e17];exact h9)
      omega
     ·omega
    have hs2:=dcR_step (N:=N) (by omega)
    have hl2:=congrArg List.length hs2
    rw[List.length_append,List.length_singleton] at hl2
    have ht:(dcR N).take 17=dcR (N / 10):=by rw[hs2,List.take_append_of_le_length (by omega),List.take_of_length_le (by omega)]
    rw[ht]
    have hB2:Bk (mag a) (N / 10) (15 - x):=by
     rw[show N=N / 10*10^1 by omega,show(16:Int) - x=15 - x+((1:Nat):Int) by omega] at hB
     have h9:=(bk_ten 1).1 hB
     exact h9
    have h3:=dv_dcR (N / 10)
    have h:=(rd_lay (s:=neg a) (d:=dcR (N / 10)) (x:=x+1) (dcR_dg _) (by omega) (by omega) (by omega) (by rw[h3];omega) hm0 hf (by
     rw[h3,show((dcR (N / 10)).length:Int) - 1 - (x+1)=15 - x by omega]
     exact hB2)).1
    rw[hs] at h
    exact h
   ·rw[if_neg c,List.take_of_length_le (by omega)]
    have h3:=dv_dcR N
    have h:=(rd_lay (s:=neg a) (d:=dcR N) (x:=x) (dcR_dg _) (by omega) (by omega) (by omega) (by rw[h3];omega) hm0 hf (by
     rw[h3,show((dcR N).length:Int) - 1 - x=16 - x by omega]
     exact hB)).1
    rw[hs] at h
    exact h
theorem ex_odd {N m z k M:Nat} (hk:M=z+k) (h:N*2^M=m*2^z*10^k):N=m*5^k:=by
 have e10:(10:Nat)^k=2^k*5^k:=by rw[←Nat.mul_pow]
 rw[e10,hk] at h
 have e:m*2^z*(2^k*5^k)=m*5^k*2^(z+k):=by rw[Nat.pow_add];ac_rfl
 rw[e] at h
 exact Nat.eq_of_mul_eq_mul_right (Nat.two_pow_pos _) h
theorem ex_le {m k:Nat} (h:m<9007199254740992):m*5^k<10^(16+k):=by
 have h1:(5:Nat)^k≤10^k:=Nat.pow_le_pow_left (by decide) k
 have h2:m*5^k≤m*10^k:=Nat.mul_le_mul_left _ h1
 have h3:m*10^k<10^16*10^k:=Nat.mul_lt_mul_of_pos_right (by rw[show(10:Nat)^16=10000000000000000 by decide];omega) (Nat.pow_pos (by decide))
 rw[Nat.pow_add]
 omega
theorem ex_len {a k N:Nat} (hf:mag a<9218868437227405312) (hk:exP a=(k:Int)) (hN:N*kU=fU a*10^k):(dcD N).length≤1090∧k≤1074:=by
 by_cases h0:fU a=0
 ·have hk0:=exP_0 h0
  rw[h0,Nat.zero_mul] at hN
  have hN0:N=0:=(Nat.mul_eq_zero.1 hN).resolve_right (Nat.ne_of_gt kU_pos)
  rw[hN0]
  exact⟨by decide,by omega⟩
 ·have hz:mag a≠0:=by
   intro h9
   refine h0 ?_
   rw[←fU_mag,h9]
   decide
  have hx:=exP_fU h0
  obtain⟨o1,o2,o3,o4,o5⟩:=num_parts hf hz
  have hAe:fU a=nM a*2^(Ie.sE a+1074).toNat:=by rw[o5];exact(val_mant a hf).1.symm
  obtain⟨z,hz9⟩:∃ z,z=(Ie.sE a+1074).toNat:=⟨_,rfl⟩
  rw[←hz9] at hAe
  have ht:tz (fU a)=z:=by rw[hAe,Nat.mul_comm];exact tz_pow z _ o1
  rw[ht] at hx
  by_cases hk0:k=0
  ·rw[hk0,Nat.pow_zero,Nat.mul_one] at hN
   have hA:=fU_lt a
   have hb:=bU_eq
   have hkP:=kP_eq
   obtain⟨q,hq⟩:∃ q:Nat,q=1130:=⟨_,rfl⟩
   have hlt:N<2^q:=by
    rw[←hN,←kU_kP,show bU=(bU - kP)+kP by clear hA hN hAe o5;omega,Nat.pow_add] at hA
    have h9:=Nat.lt_of_mul_lt_mul_right hA
    exact Nat.lt_of_lt_of_le h9 (Nat.pow_le_pow_right (by decide) (by clear h9 hA hN hAe o5;omega))
   have h8:=(dcD_len hlt).1
   clear hlt hA hN hAe o5
   omega
  ·have hN2:N=nM a*5^k:=by
    rw[←kU_kP,hAe] at hN
    refine ex_odd (z:=z) ?_ hN
    have hkP:=kP_eq
    clear hN hAe o5
    omega
   have h1:=ex_le (k:=k) o2
   rw[←hN2] at h1
   have h2:=dcR_le h1
   have h3:(dcD N).length≤16+k:=by
    unfold dcD
    split
    ·show 1≤16+k;omega
    ·exact h2
   clear h1 hN hN2 hAe o5
   omega
theorem ex_l2 {L:List UInt8} {k:Nat} (h1:L.length≤1090) (h2:k≤1074):(nzL ((k:Int)+1 - L.length)++L).length≤1100:=by
 rw[List.length_append,nz_len];omega
theorem bv_fU {a:Nat} (hf:mag a<9218868437227405312):bv (mag a)=fU a:=by
 rw[←fU_bv (by omega),fU_mag]
theorem rd_exT {a:Nat} {m:Int} (ha:a<18446744073709551616) (hm:1≤m∧m≤3):rdA (exT a) m=(rdNaN a,0):=by
 have hs:=Ie.sig_self a ha
 unfold exT
 rcases(by omega:9218868437227405312<mag a∨mag a=9218868437227405312∨mag a<9218868437227405312)with hf|hf|hf
 ·rw[if_pos hf,rdNaN_n hf]
  exact rd_nanT m hm
 ·rw[if_neg (by omega),if_pos hf,rdNaN_f (by omega),rd_infT _ m hm,←hf,hs]
 ·rw[if_neg (by omega),if_neg (by omega),rdNaN_f (by omega)]
  have hb:=exP_b a
  have he:0≤exP a∧exP a≤1100:=by unfold exP;omega
  obtain⟨k,hk⟩:∃ k:Nat,exP a=(k:Int):=⟨(exP a).toNat,by omega⟩
  have hd:kU ∣ fU a*10^k:=by
   by_cases h0:fU a=0
   ·rw[h0,Nat.zero_mul];exact Nat.dvd_zero _
   ·have h1:=exP_fU h0
    rw[←kU_kP]
    exact ex_key h0 (by rw[kP_eq];omega)
  obtain⟨N1,N2⟩:=ex_whole (ng:=neg a) hd
  have e:=uN_rd (a:=a) (k:=exP a) (m:=2) (by omega)
  rw[hk,N1] at e
  obtain⟨l1,l2⟩:=ex_len hf hk N2
  have l3:=dcD_dg (scF (fU a) (k:Int))
  have l4:=dv_dcD (scF (fU a) (k:Int))
  have l5:1≤(dcD (scF (fU a) (k:Int))).length:=by
   unfold dcD
   split
   ·decide
   ·rename_i h9
    rcases Nat.lt_or_ge 0 (dcR (scF (fU a) (k:Int))).length with h2|h2
    ·exact h2
    ·exact absurd (dcR_nil.1 (List.length_eq_zero_iff.1 (by omega))) h9
  rw[hk,e,dcT_eq,←pt_dcD _ (by omega)]
  clear hd N1 e hb he
  have key:∀ (D:List UInt8) (h:Nat),(∀ c ∈ D,isdT c=true)→D.length≤1100→h≤1100→dvP 10 D D.length=scF (fU a) (k:Int)→h=k→rdFl (neg a) 10 D h 0 m=a:=by
   intro D h h1 h2 h3 h4 h5
   subst h5
   by_cases h0:scF (fU a) (h:Int)=0
   ·rw[rd_zeroU (by show dvP 10 D D.length=0;rw[h4];exact h0)]
    rw[h0,Nat.zero_mul] at N2
    have hz:mag a=0:=by
     refine Classical.byContradiction fun h9=>?_
     rcases Nat.mul_eq_zero.1 N2.symm with h8|h8
     ·exact dg_fU h9 h8
     ·exact absurd h8 (Nat.ne_of_gt (Nat.pow_pos (by decide)))
    rw[←hz,hs]
   ·have h9:=rd_exact (s:=neg a) (D:=D) (h:=h) (a:=mag a) (b:=10) (x:=0) (m:=m) (.inl rfl) (all_10 h1) h2 h3 (by omega) hm (by show dvP 10 D D.length≠0;rw[h4];exact h0) hf (by
     show dvP 10 D D.length*_*_=_
     have e1:rK 10 h 0 = -(h:Int):=by unfold rK;rw[if_neg (by decide)];omega
     have e2:rO 10 h 0=1:=by unfold rO;rw[if_neg (by decide),e1];exact tn_n1 h
     have e3:rU 10 h 0=10^h:=by unfold rU;rw[if_neg (by decide),e1];exact(tn_n h).2
     have e4:rP 10 h 0=0:=by unfold rP;rw[if_neg (by decide)]
     rw[h4,e2,e3,e4,bv_fU hf,Nat.mul_one,Nat.pow_zero,Nat.mul_one,kU_kP,N2])
    rw[h9,hs]
  by_cases hk0:k=0
  ·have h:=rdA_p0 (s:=neg a) (m:=m) hm l3 l5 (show(k:Int)≤0 by clear key N2;omega) (by clear key N2;omega)
   rw[h]
   have e0:nzL (-(k:Int)) = []:=by rw[hk0];rfl
   rw[e0,List.append_nil]
   have hl:(dcD (scF (fU a) (k:Int))).length≤1100:=Nat.le_trans l1 (by decide)
   generalize dcD (scF (fU a) (k:Int))=D at *
   rw[key D 0 l3 hl (by decide) l4 hk0.symm]
  ·have h:=rdA_p1 (s:=neg a) (m:=m) hm l3 (show(0:Int)<(k:Int) by clear key N2;omega) (by clear key N2;omega) (by clear key N2;omega)
   rw[h,Int.toNat_natCast]
   have hv:dvP 10 (nzL ((k:Int)+1 - (dcD (scF (fU a) (k:Int))).length)++dcD (scF (fU a) (k:Int))) (nzL ((k:Int)+1 - (dcD (scF (fU a) (k:Int))).length)++dcD (scF (fU a) (k:Int))).length=scF (fU a) (k:Int):=by
    unfold nzL
    rw[dv_nz,l4]
   have hm1:∀ c ∈ nzL ((k:Int)+1 - (dcD (scF (fU a) (k:Int))).length)++dcD (scF (fU a) (k:Int)),isdT c=true:=by
    intro c hc
    rcases List.mem_append.1 hc with h|h
    ·exact nz_mem _ c h
    ·exact l3 c h
   have hm2:(nzL ((k:Int)+1 - (dcD (scF (fU a) (k:Int))).length)++dcD (scF (fU a) (k:Int))).length≤1100:=ex_l2 l1 l2
   generalize nzL ((k:Int)+1 - (dcD (scF (fU a) (k:Int))).length)++dcD (scF (fU a) (k:Int))=D at *
   rw[key D k hm1 hm2 (Nat.le_trans l2 (by decide)) hv rfl]
theorem rdA_hex {s dt:Bool} {A B body:List UInt8} {x m:Int} (hm:1≤m∧m≤3) (hb:body=48 :: 120 :: (A++dtL dt B++112 :: Lib.itoa x)) (hA:allDg A 16=true) (hB:allDg B 16=true) (hdt:dt=false→B = []) (hA0:A ≠ []) (hx : -5000≤x∧x≤5000) (hl:A.length+B.length≤1100) :
  rdA (sgL s body) m=(rdFl s 16 (A++B) B.length x m,0):=by
 have hh:hexP body=true:=by
  rw[hb]
  unfold hexP Lib.hasPrefix
  simp[List.isPrefixOf]
 have hhead:body.head?=some 48:=by rw[hb];rfl
 obtain⟨c1,c2,c3⟩:=cs_told (s:=s) (L:=body) (fun c hc=>by
  rw[hhead] at hc
  obtain rfl:=Option.some.inj hc
  decide)
 have hlen:(sgL s body).length≤2000:=by
  have h0:=itoa_lenQ (x:=x) (by omega)
  have h1:body.length≤1302:=by
   rw[hb,List.length_cons,List.length_cons,List.length_append,List.length_append,List.length_cons]
   unfold dtL
   split
   ·have h9:(46 :: B).length=B.length+1:=rfl
    omega
   ·have h9:([]:List UInt8).length=0:=rfl
    omega
  unfold sgL
  split
  ·rw[List.length_cons];omega
  ·omega
 obtain⟨p1,p2,p3⟩:=ps_hex hh
 have hT:psS body=A++dtL dt B++112 :: Lib.itoa x:=by rw[p1,hb];rfl
 have hst:StopD 16 dt (112 :: Lib.itoa x):=.inr ⟨112,Lib.itoa x,rfl,by decide,fun _=>by decide⟩
 have hcase:=ps_case (S:=body) (.inr rfl) hT p2 p3 rfl hA hB hdt hst
 have hne:decide (A++B ≠ [])=true:=decide_eq_true fun h9=>hA0 (List.append_eq_nil_iff.1 h9).1
 have hps:psOk body=true∧psD body=A++B∧psH body=B.length∧psX body=x:=by
  rcases hcase with ⟨h1,-⟩|⟨c,R',h1,h2,h3,h4,h5,h6⟩|⟨c,R',h1,h2,h3⟩
  ·cases h1
  ·injection h1 with g3 g4
   subst g4
   obtain⟨e1,e2⟩:=ex_itoa (x:=x) (by omega)
   exact⟨by rw[h3,e1,hne];rfl,h4,h5,by rw[h6,e2]⟩
  ·injection h1 with g3 g4
   subst g3
   exact absurd h2 (by decide)
 obtain⟨q1,q2,q3,q4⟩:=hps
 have hd:∀ t:List UInt8,t.head?=some 105∨t.head?=some 110→body≠t:=by
  intro t ht h9
  rw[h9] at hhead
  rcases ht with ht|ht
  ·rw[ht] at hhead;exact absurd (Option.some.inj hhead) (by decide)
  ·rw[ht] at hhead;exact absurd (Option.some.inj hhead) (by decide)
 unfold rdA
 rw[if_neg (not_not_intro hm),if_neg (by omega),c2,if_neg (hd _ (.inl rfl)),if_neg (hd _ (.inr rfl)),q1,if_neg (by decide),q2,if_neg (by rw[List.length_append];omega),c3,p3,q3,q4]
theorem hx_dg {d:Nat} (h:d<16):isDg (UInt8.ofNat (hx d)).toNat 16=true∧dgB (UInt8.ofNat (hx d)).toNat=d:=by
 have key:∀ d:Fin 16,isDg (UInt8.ofNat (hx d.val)).toNat 16=true∧dgB (UInt8.ofNat (hx d.val)).toNat=d.val:=by decide +kernel
 exact key ⟨d,h⟩
theorem hxO_dg {dg:Nat→Nat} {K:Nat} (h:∀ i,i<K→dg i<16):allDg (hxO dg K) 16=true:=by
 unfold allDg hxO
 rw[List.all_eq_true]
 intro c hc
 obtain⟨i,hi,rfl⟩:=List.mem_map.1 hc
 exact(hx_dg (h i (List.mem_range.1 hi))).1
theorem hxO_dv {r P:Nat} (h:r<2^P):∀ i,r*16^i=dvP 16 (hxO (fun i=>16*hxR r P i / 2^P) i) i*2^P+hxR r P i
 | 0=>by
  show r*16^0=0*2^P+hxR r P 0
  unfold hxR
  rw[Nat.pow_zero,Nat.mul_one,Nat.mod_eq_of_lt h]
  omega
 | i+1=>by
  have ih:=hxO_dv h i
  have h1:dvP 16 (hxO (fun i=>16*hxR r P i / 2^P) (i+1)) (i+1)=dvP 16 (hxO (fun i=>16*hxR r P i / 2^P) i) i*16+16*hxR r P i / 2^P:=by
   show dvP 16 (hxO (fun i=>16*hxR r P i / 2^P) (i+1)) i*16+dgB (bL (hxO (fun i=>16*hxR r P i / 2^P) (i+1)) i)=_
   have hl:=hxO_len (fun i=>16*hxR r P i / 2^P) i
   have e1:=dvP_take 16 (hxO (fun i=>16*hxR r P i / 2^P) (i+1)) i i (Nat.le_refl _)
   have e2:(hxO (fun i=>16*hxR r P i / 2^P) (i+1)).take i=hxO (fun i=>16*hxR r P i / 2^P) i:=by
    rw[hxO_step]
    exact List.take_left' hl
   rw[e2] at e1
   have e3:bL (hxO (fun i=>16*hxR r P i / 2^P) (i+1)) i=(UInt8.ofNat (hx (16*hxR r P i / 2^P))).toNat:=by
    unfold bL
    rw[List.getElem?_eq_getElem (by rw[hxO_len];omega),hxO_get]
    rfl
   rw[←e1,e3,(hx_dg (by have:=(hx_lt16 (r:=r) (P:=P) (i:=i)).2.2.1;omega)).2]
  have h2:=Nat.div_add_mod (16*hxR r P i) (2^P)
  rw[hxR_step] at h2
  rw[h1,Nat.pow_succ,←Nat.mul_assoc,ih]
  generalize 16*hxR r P i / 2^P=q at *
  generalize hxR r P (i+1)=r1 at *
  generalize hxR r P i=ri at *
  generalize dvP 16 (hxO (fun i=>16*hxR r P i / 2^P) i) i=v at *
  generalize 2^P=M at *
  have e9:(v*16+q)*M=v*M*16+q*M:=by rw[Nat.add_mul,Nat.mul_right_comm]
  rw[e9]
  rw[Nat.mul_comm M q] at h2
  omega
theorem hx_val {V A P K q u v:Nat} (hV:V*2^P=2^(4*K)*A) (he:4*K+(u+q)=v+P):V*2^u*2^q=A*1*2^v:=by
 refine Nat.eq_of_mul_eq_mul_right (Nat.two_pow_pos P) ?_
 have e1:V*2^u*2^q*2^P=V*2^P*(2^u*2^q):=by ac_rfl
 rw[e1,hV,Nat.mul_one,Nat.mul_assoc A,←Nat.pow_add,←Nat.pow_add,Nat.mul_comm (2^(4*K)),Nat.mul_assoc,←Nat.pow_add,he]
theorem hx_tot {V A r P K:Nat} (hA:r+2^P=A) (hv:r*16^K=V*2^P):(16^K+V)*2^P=2^(4*K)*A:=by
 have e:(16:Nat)^K=2^(4*K):=by rw[Nat.pow_mul]
 rw[Nat.add_mul,←hv,←hA,←e,Nat.mul_add,Nat.mul_comm r,Nat.add_comm]
theorem rd_hxTx {a:Nat} {m:Int} (ha:a<18446744073709551616) (hm:1≤m∧m≤3):rdA (hxTx a) m=(rdNaN a,0):=by
 have hs:=Ie.sig_self a ha
 unfold hxTx
 rcases(by omega:9218868437227405312<mag a∨mag a=9218868437227405312∨mag a<9218868437227405312)with hf|hf|hf
 ·rw[if_pos hf,rdNaN_n hf]
  exact rd_nanT m hm
 ·rw[if_neg (by omega),if_pos hf,rdNaN_f (by omega),rd_infT _ m hm,←hf,hs]
 ·rw[if_neg (by omega),if_neg (by omega),rdNaN_f (by omega)]
  by_cases hz:mag a=0
  ·have e:hxT a = [48,120,48,112,48]:=by
    have h1:(Ie.sM a).toNat=0:=(num_zero hz).1
    unfold hxT
    rw[if_pos h1]
   have e0:Lib.itoa 0 = [48]:=by
    unfold Lib.itoa
    rw[if_neg (by decide),dec_dcD]
    rfl
   rw[e,rdA_hex (s:=neg a) (dt:=false) (A := [48]) (B := []) (x:=0) hm (by rw[e0];rfl) (by decide) (by decide) (fun _=>rfl) (by decide) (by omega) (by decide),rd_zeroU (by decide),←hz,hs]
  ·obtain⟨o1,o2,o3,o4,o5⟩:=num_parts hf hz
   have hA0:=dg_fU hz
   have hA:=fU_lt a
   have hAe:fU a=nM a*2^(Ie.sE a+1074).toNat:=by rw[o5];exact(val_mant a hf).1.symm
   have hT:hxT a=hxL (bl (nM a)) (hxC (nM a)) (Lib.itoa (Ie.sE a+bl (nM a) - 1)):=by
    have h1:¬ (Ie.sM a).toNat=0:=by show ¬ nM a=0;omega
    unfold hxT
    rw[if_neg h1]
    rfl
   rw[hT]
   obtain⟨b1,b2⟩:=bl_bU hA hA0
   have hm64:nM a<18446744073709551616:=by omega
   obtain⟨c1,c2,-,-⟩:=hxB_eq (m:=nM a) (by omega) hm64
   have hbl:bl (fU a)=bl (nM a)+(Ie.sE a+1074).toNat:=by rw[hAe];exact bl_shlD (by omega)
   have hp1:=bl_pow_le hA0
   have hp2:fU a<2^bl (fU a):=(bl_le _ _).1 (Nat.le_refl _)
   obtain⟨z,hz9⟩:∃ z,z=(Ie.sE a+1074).toNat:=⟨_,rfl⟩
   have hE:Ie.sE a=(z:Int) - 1074:=by omega
   rw[←hz9] at hAe hbl
   rw[hE]
   obtain⟨P,hP⟩:∃ P,P+1=bl (nM a)+z:=⟨bl (nM a)+z - 1,by omega⟩
   rw[hbl,←hP] at hp1 hp2
   rw[Nat.add_sub_cancel] at hp1
   obtain⟨r,hr⟩:∃ r,r+2^P=fU a:=⟨fU a - 2^P,by omega⟩
   have hr2:r<2^P:=by rw[Nat.pow_succ] at hp2;omega
   have hr3:=hr
   rw[hAe] at hr3
   obtain⟨K,k1,k2,k3,k4,k5⟩:=hx_same o1 hm64 hP hr3
   have htop:(z:Int) - 1074+(bl (nM a):Int) - 1=(P:Int) - 1074:=by omega
   have hPb:P≤2300:=by omega
   rw[htop,k5]
   have hd:=fun i (hi:i<K)=>(hx_lt16 (r:=r) (P:=P) (i:=i)).2.2.1
   have hL:=hxO_len (fun i=>16*hxR r P i / 2^P) K
   have hdv:=hxO_dv hr2 K
   rw[k3,Nat.add_zero] at hdv
   have hall:allDg (hxO (fun i=>16*hxR r P i / 2^P) K) 16=true:=hxO_dg fun i hi=>by have:=hd i hi;omega
   have hB0:K=0→hxO (fun i=>16*hxR r P i / 2^P) K = []:=fun h=>by rw[h];rfl
   generalize hxO (fun i=>16*hxR r P i / 2^P) K=C at *
   have hb:hxL (bl (nM a)) C (Lib.itoa ((P:Int) - 1074))=48 :: 120 :: ([49]++dtL (decide (1<bl (nM a))) C++112 :: Lib.itoa ((P:Int) - 1074)):=by
    unfold hxL dtL
    by_cases h9:1<bl (nM a)
    ·rw[if_pos h9,if_pos (decide_eq_true h9)];rfl
    ·rw[if_neg h9,if_neg (by rw[decide_eq_false h9];decide)];rfl
   have h49:allDg [49] 16=true:=by decide
   have hD:allDg ([49]++C) 16=true:=by rw[allDg_app,h49,hall];rfl
   have hDl:([49]++C).length=K+1:=by rw[List.length_append,hL];show 1+K=K+1;omega
   have hDv:dvP 16 ([49]++C) ([49]++C).length=16^K+dvP 16 C K:=by
    rw[hDl,Nat.add_comm K 1,dvP_app]
    have e1:dvP 16 ([49]++C) 1=1:=rfl
    rw[e1,Nat.one_mul]
    rfl
   have htot:=hx_tot hr hdv
   rw[rdA_hex (s:=neg a) (dt:=decide (1<bl (nM a))) (A := [49]) (B:=C) (x:=(P:Int) - 1074) hm hb h49 hall (fun h9=>hB0 (by
    have:¬ 1<bl (nM a):=of_decide_eq_false h9
    exact Nat.eq_zero_of_not_pos fun h=>this (k4.1 h))) (by decide) (by omega) (by rw[hL];show 1+K≤1100;omega)]
   have hN:dvP (16:Int).toNat ([49]++C) ([49]++C).length≠0:=by
    show dvP 16 ([49]++C) ([49]++C).length≠0
    rw[hDv]
    have:0<16^K:=Nat.pow_pos (by decide)
    omega
   have h9:=rd_exact (s:=neg a) (D := [49]++C) (h:=C.length) (a:=mag a) (b:=16) (x:=(P:Int) - 1074) (m:=m) (.inr rfl) hD (by rw[hDl];omega) (by rw[hL];omega) (by omega) hm hN hf (by
    have e0:(16:Int).toNat=16:=rfl
    have e2:rO 16 C.length ((P:Int) - 1074)=2^((P:Int) - 1074 - 4*K).toNat:=by unfold rO rK;rw[if_pos rfl,if_pos rfl,hL]
    have e3:rU 16 C.length ((P:Int) - 1074)=1:=by unfold rU;rw[if_pos rfl]
    have e4:rP 16 C.length ((P:Int) - 1074)=(-((P:Int) - 1074 - 4*K)).toNat:=by unfold rP rK;rw[if_pos rfl,if_pos rfl,hL]
    rw[e0,hDv,e2,e3,e4,bv_fU hf]
    obtain⟨q,hq⟩:∃ q,q=kP:=⟨_,rfl⟩
    rw[←hq]
    refine hx_val htot ?_
    have hkP:=kP_eq
    clear htot hdv hp1 hp2 hr hr2 hr3 hAe o5 hN hDv hD k5
    generalize kP=q2 at *
    omega)
   rw[h9,hs]
def ctS (n c:Nat):Nat:=if(49≤c∧c≤57)∨(c=48∧0<n)then n+1 else n
def ctN (L:List UInt8):Nat→Nat
 | 0=>0
 | i+1=>ctS (ctN L i) (bL L i)
def ctF (n:Nat) (L:List UInt8):Nat:=L.foldl (fun n c=>ctS n c.toNat) n
theorem ctN_F (L:List UInt8):∀ i,i≤L.length→ctN L i=ctF 0 (L.take i)
 | 0,_=>rfl
 | i+1,h=>by
  show ctS (ctN L i) (bL L i)=_
  rw[ctN_F L i (by omega),List.take_succ_eq_append_getElem (by omega)]
  unfold ctF bL
  rw[List.foldl_append,List.getElem?_eq_getElem (by omega)]
  rfl
theorem ctS_le (n c:Nat):n≤ctS n c:=by unfold ctS;split <;> omega
theorem ctF_ge (L:List UInt8):∀ n,n≤ctF n L:=by
 induction L with
 | nil=>exact fun n=>Nat.le_refl _
 | cons c L ih =>
  intro n
  exact Nat.le_trans (ctS_le n c.toNat) (ih _)
theorem ctF_app (n:Nat) (A B:List UInt8):ctF n (A++B)=ctF (ctF n A) B:=by unfold ctF;rw[List.foldl_append]
theorem ctF_le (L:List UInt8):∀ n,ctF n L≤n+(fdL L).length:=by
 induction L with
 | nil=>exact fun n=>Nat.le_refl _
 | cons c L ih =>
  intro n
  have h1:=ih (ctS n c.toNat)
  show ctF (ctS n c.toNat) L≤_
  unfold fdL at *
  by_cases hc:isdT c=true
  ·rw[List.filter_cons_of_pos hc,List.length_cons]
   have:ctS n c.toNat≤n+1:=by unfold ctS;split <;> omega
   omega
  ·rw[List.filter_cons_of_neg hc]
   have:ctS n c.toNat=n:=by
    unfold ctS
    rw[if_neg]
    intro h9
    refine hc ?_
    unfold isdT
    rw[decide_eq_true (by omega),decide_eq_true (by omega)]
    rfl
   omega
theorem ctF_0 {L:List UInt8} (h:∀ c ∈ L,c.toNat<49∨57<c.toNat):ctF 0 L=0:=by
 induction L with
 | nil=>rfl
 | cons c L ih =>
  have h1:=h c List.mem_cons_self
  have:ctS 0 c.toNat=0:=by
   unfold ctS
   rw[if_neg (by omega)]
  show ctF (ctS 0 c.toNat) L=0
  rw[this]
  exact ih fun x hx=>h x (List.mem_cons_of_mem _ hx)
theorem ct_sg (s:Bool) (L:List UInt8):ctF 0 (sgL s L)=ctF 0 L:=by cases s <;> rfl
theorem ct_all {L:List UInt8} (h:ctF 0 L≤21):∀ i,i≤L.length→ctN L i≤21:=by
 intro i hi
 rw[ctN_F L i hi]
 have h1:=ctF_ge (L.drop i) (ctF 0 (L.take i))
 rw[←ctF_app,List.take_append_drop] at h1
 omega
theorem fd_app (A B:List UInt8):fdL (A++B)=fdL A++fdL B:=by unfold fdL;rw[List.filter_append]
theorem itoa_3 {x:Int} (h : -999≤x∧x≤999):(fdL (Lib.itoa x)).length≤3:=by
 unfold Lib.itoa
 split
 ·have h1:=decDigits_len 2 x.natAbs (by rw[show(10:Nat)^(2+1)=1000 by decide];omega)
  have h2:=fd_len (Lib.decDigits x.natAbs)
  have h3:fdL (45 :: Lib.decDigits x.natAbs)=fdL (Lib.decDigits x.natAbs):=rfl
  rw[h3]
  omega
 ·have h1:=decDigits_len 2 x.toNat (by rw[show(10:Nat)^(2+1)=1000 by decide];omega)
  have h2:=fd_len (Lib.decDigits x.toNat)
  omega
theorem shE_b2 {a:Nat} (h0:0<a) (h:a<9218868437227405312) : -500≤shE a∧shE a≤500:=by
 have hl:=shF_len (shOk h0 h)
 have hw : -400≤shX a∧shX a≤400:=(woX_spec (fU_lt a) (fU_ne h0 h)).2.2
 unfold shE
 omega
theorem fd_exL (d t:List UInt8) (hd:1≤d.length):fdL (exL d t)=fdL d++fdL t:=by
 unfold exL
 rw[fd_app,fd_app]
 have e1:fdL (101 :: t)=fdL t:=rfl
 rw[e1]
 refine congrArg (· ++ fdL t) ?_
 by_cases h9:1<d.length
 ·rw[if_pos h9]
  have e2:fdL (46 :: d.drop 1)=fdL (d.drop 1):=rfl
  rw[e2,←fd_app,List.take_append_drop]
 ·rw[if_neg h9,List.take_of_length_le (by omega)]
  exact List.append_nil _
theorem ct_shTx {a:Nat} (ha:a<18446744073709551616):ctF 0 (shTx a)≤21:=by
 unfold shTx
 rcases(by omega:9218868437227405312<mag a∨mag a=9218868437227405312∨mag a<9218868437227405312)with hf|hf|hf
 ·rw[if_pos hf]
  exact Nat.le_trans (Nat.le_of_eq (ctF_0 (by decide))) (by decide)
 ·rw[if_neg (by omega),if_pos hf,ct_sg]
  exact Nat.le_trans (Nat.le_of_eq (ctF_0 (by decide))) (by decide)
 ·rw[if_neg (by omega),if_neg (by omega)]
  by_cases hz:mag a=0
  ·rw[if_pos hz,ct_sg]
   exact Nat.le_trans (Nat.le_of_eq (ctF_0 (by decide))) (by decide)
  ·rw[if_neg hz,ct_sg]
   have hm0:0<mag a:=by omega
   have hE:=shE_b2 hm0 hf
   obtain⟨hd,-⟩:=shD_pos hm0 hf
   have h17:=shD_17 hm0 hf
   unfold shS
   generalize shD (mag a)=d at *
   generalize shE (mag a)=x at *
   have hfd:=fd_len d
   split
   ·have h1:=ctF_le (exL d (Lib.itoa x)) 0
    have h2:=fd_exL d (Lib.itoa x) hd
    have h3:=itoa_3 (x:=x) (by omega)
    rw[h2,List.length_append] at h1
    omega
   ·rename_i hc
    by_cases h0:x<0
    ·rw[pt_n hd h0,←List.append_assoc,ctF_app,ctF_0 (by
      intro c hc
      rcases List.mem_append.1 hc with h|h
      ·rcases List.mem_cons.1 h with h|h
       ·rw[h];decide
       ·obtain rfl:=List.mem_singleton.1 h;decide
      ·unfold nzL at h
       obtain⟨-,rfl⟩:=List.mem_replicate.1 h
       decide)]
     have:=ctF_le d 0
     omega
    ·by_cases hl:(d.length:Int)≤x+1
     ·rw[pt_i hd hl]
      have h1:=ctF_le (d++nzL (x+1 - d.length)) 0
      have h2:=fd_len (d++nzL (x+1 - d.length))
      rw[List.length_append,nz_len] at h2
      omega
     ·obtain⟨q,hq⟩:∃ q:Nat,x+1=(q:Int):=⟨(x+1).toNat,by omega⟩
      rw[pt_p h0 hl hq]
      have h1:=ctF_le (d.take q++46 :: d.drop q) 0
      have h2:fdL (d.take q++46 :: d.drop q)=fdL d:=by
       rw[fd_app]
       have e2:fdL (46 :: d.drop q)=fdL (d.drop q):=rfl
       rw[e2,←fd_app,List.take_append_drop]
      rw[h2] at h1
      omega
theorem decimBack_1 (f F:Nat) (L T E X:List UInt8) (n:Nat) (w:World) (hn:Hid (n=L.length)) (hL:n≤30000) (hct:Hid (∀ i,i≤L.length→ctN L i≤21))
  (kS:∀ W,Bw w W→Calls Tryz.prog 7 #[.float .f64 f] W fun r w'=>r=.returned (.string ⟨L.toArray⟩)∧Bw W w')
  (kR:Hid (∀ W,Bw w W→Calls Tryz.prog 14 #[.string ⟨L.toArray⟩,.int .i64 2] W fun r w'=>r=.returned (.tuple #[.float .f64 F,.int .i64 0])∧Bw W w'))
  (kD:Hid (∀ W,Bw w W→Calls Tryz.prog 16 #[.float .f64 f,.int .i64 17,.int .i64 2] W fun r w'=>r=.returned (.tuple #[.string ⟨T.toArray⟩,.int .i64 0])∧Bw W w'))
  (kR2:Hid (∀ W,Bw w W→Calls Tryz.prog 14 #[.string ⟨T.toArray⟩,.int .i64 2] W fun r w'=>r=.returned (.tuple #[.float .f64 F,.int .i64 0])∧Bw W w'))
  (kE:Hid (∀ W,Bw w W→Calls Tryz.prog 9 #[.float .f64 f] W fun r w'=>r=.returned (.string ⟨E.toArray⟩)∧Bw W w'))
  (kX:Hid (∀ W,Bw w W→Calls Tryz.prog 11 #[.float .f64 f] W fun r w'=>r=.returned (.string ⟨X.toArray⟩)∧Bw W w'))
  (kR3:Hid (∀ m:Int,1≤m∧m≤3→∀ W,Bw w W→Calls Tryz.prog 14 #[.string ⟨E.toArray⟩,.int .i64 m] W fun r w'=>r=.returned (.tuple #[.float .f64 F,.int .i64 0])∧Bw W w'))
  (kR4:Hid (∀ m:Int,1≤m∧m≤3→∀ W,Bw w W→Calls Tryz.prog 14 #[.string ⟨X.toArray⟩,.int .i64 m] W fun r w'=>r=.returned (.tuple #[.float .f64 F,.int .i64 0])∧Bw W w'))
  (kl:∀ W,Calls Tryz.prog 15 #[.float .f64 F,.float .f64 f] W fun r w'=>r=.returned (.bool true)∧w'=W)
  (kW:Hid (∀ W,Bw w W→Calls Tryz.prog 13 #[] W fun r w'=>r=.returned (.bool true)∧Bw W w')) :
  Calls Tryz.prog 4 #[.float .f64 f] w fun r w'=>r=.returned (.bool true)∧Bw w w':=by
 have j1:=kS w (Below.refl _ _)
 obtain⟨R,hR⟩:∃ R:ByteArray,R=⟨L.toArray⟩:=⟨_,rfl⟩
 have hRs:R.size=n:=by rw[hR,hn.out];rfl
 have HRg:Hid (∀ k (h:k<R.size),(R[k]'h).toNat=bL L k):=by rw[hR];exact bL_get L
 rw[←hR] at j1 kR
 clear hR kS
 go_enter Tryz.func4,Tryz.ntmps4
 go_wp2_with fail
 refine j1.mono ?_
 rintro r w1 ⟨rfl,hb1⟩
 have HB1:Hid (Bw w w1):=hb1
 clear j1 hb1
 go_upto_region 4 with fail
 go_loopw [4,5] (fun v k wr=>∃ i:Nat,i≤n∧k=.int .i64 (i:Nat)∧v=.int .i64 (ctN L i:Nat)∧wr=w1) (fun _ k _=>n - (intOf k).toNat)
 case atStart=>exact⟨0,Nat.zero_le _,rfl,rfl,rfl⟩
 case round =>
  obtain⟨i,hi,rfl,rfl,rfl⟩:=hrel
  have hg2:=HRg.out i
  have hwi:IntKind.i64.wrap ((i:Int)+1)=(i:Int)+1:=by rw[IntKind.wrap_i64];omega
  have hc21:=hct.out i (by have:=hn.out;omega)
  obtain⟨t,ht⟩:∃ t,t=ctN L i:=⟨_,rfl⟩
  have hwt:IntKind.i64.wrap ((t:Int)+1)=(t:Int)+1:=by rw[IntKind.wrap_i64];omega
  obtain⟨c,hc⟩:∃ c,c=bL L i:=⟨_,rfl⟩
  have hstep:ctN L (i+1)=ctS t c:=by show ctS (ctN L i) (bL L i)=_;rw[←ht,←hc]
  rw[←hc] at hg2
  have hc256:c<256:=by rw[hc];exact bL_lt L i
  have HT:Hid (t=ctN L i):=ht
  rw[←ht] at hc21 ⊢
  clear hc ht
  by_cases hbody:i<n∧c≠101
  ·obtain⟨hin,h101⟩:=hbody
   have hii:(i:Int)<(n:Int):=by omega
   have h101':¬ (c:Int)=101:=by omega
   have HS:Hid (ctN L (i+1)=ctS t c):=hstep
   clear hstep
   have hcase:(49≤c∧c≤57∧ctS t c=t+1)∨(c=48∧0<t∧ctS t c=t+1)∨(c=48∧¬ 0<t∧ctS t c=t)∨(c<48∧ctS t c=t)∨(57<c∧ctS t c=t):=by
    unfold ctS
    by_cases h1:(49≤c∧c≤57)∨(c=48∧0<t)
    ·rw[if_pos h1];omega
    ·rw[if_neg h1];omega
   rcases hcase with ⟨g1,g2,g3⟩|⟨g1,g2,g3⟩|⟨g1,g2,g3⟩|⟨g1,g3⟩|⟨g1,g3⟩
   ·have q1:(49:Int)≤(c:Int):=by omega
    have q2:(c:Int)≤57:=by omega
    rw[g3] at HS
    clear g3 g1 g2
    go_wp2_with fail
    exact⟨⟨i+1,by omega,by congr 1,by rw[HS.out];congr 1,trivial⟩,by simp[intOf];omega⟩
   ·subst g1
    have q2:(0:Int)<(t:Int):=by omega
    rw[g3] at HS
    clear g3 g2
    go_wp2_with fail
    exact⟨⟨i+1,by omega,by congr 1,by rw[HS.out];congr 1,trivial⟩,by simp[intOf];omega⟩
   ·subst g1
    have q2:¬ (0:Int)<(t:Int):=by omega
    rw[g3] at HS
    clear g3 g2
    go_wp2_with fail
    exact⟨⟨i+1,by omega,by congr 1,by rw[HS.out],trivial⟩,by simp[intOf];omega⟩
   ·have q1:¬ (49:Int)≤(c:Int):=by omega
    have q2:¬ (c:Int)=48:=by omega
    rw[g3] at HS
    clear g3 g1
    go_wp2_with fail
    exact⟨⟨i+1,by omega,by congr 1,by rw[HS.out],trivial⟩,by simp[intOf];omega⟩
   ·have q1:(49:Int)≤(c:Int):=by omega
    have q3:¬ (c:Int)≤57:=by omega
    have q2:¬ (c:Int)=48:=by omega
    rw[g3] at HS
    clear g3 g1
    go_wp2_with fail
    exact⟨⟨i+1,by omega,by congr 1,by rw[HS.out],trivial⟩,by simp[intOf];omega⟩
  ·have HBD:Hid (¬ (i<n∧c≠101)):=hbody
   have hn21:¬ (21:Int)<(t:Int):=by omega
   clear hbody hstep hwi hwt
   go_upto_region 4 with fail
   go_cut [28] from 19 to 29 (fun v wx=>v=.bool false∧wx=wr)
   case first =>
    by_cases hin:i<n
    ·have hii:(i:Int)<(n:Int):=by omega
     obtain rfl:c=101:=by have:=HBD.out;omega
     go_wp2_with fail
     go_meet
     exact⟨rfl,rfl⟩
    ·have hii:¬ (i:Int)<(n:Int):=by omega
     go_wp2_with fail
     go_meet
     exact⟨rfl,rfl⟩
   case rest =>
   obtain⟨rfl,hw⟩:=hcut
   subst hw
   clear HBD hg2 hc256 hi hc21 HT
   have j2:=kR.out wc HB1.out
   go_wp2_with fail
   refine j2.mono ?_
   rintro r w2 ⟨rfl,hb2⟩
   have HB2:Hid (Bw w w2):=HB1.out.trans (hb2.mono HB1.out.size)
   have j3:=kD.out w2 HB2.out
   clear j2 hb2 kR HB1 kD
   go_wp2_with (go_at_call 15;refine(kl _).mono ?_;rintro r w' ⟨rfl,hw⟩;replace hw:=hw.symm;subst hw)
   refine j3.mono ?_
   rintro r w3 ⟨rfl,hb3⟩
   have HB3:Hid (Bw w w3):=HB2.out.trans (hb3.mono HB2.out.size)
   have j2:=kR2.out w3 HB3.out
   clear j3 hb3 HB2 kR2 hn21
   go_wp2_with fail
   refine j2.mono ?_
   rintro r w4 ⟨rfl,hb4⟩
   have HB4:Hid (Bw w w4):=HB3.out.trans (hb4.mono HB3.out.size)
   clear j2 hb4 HB3
   go_upto_region 16 with (go_at_call 15;refine(kl _).mono ?_;rintro r w' ⟨rfl,hw⟩;replace hw:=hw.symm;subst hw)
   go_loopw [12] (fun v wx=>∃ m:Nat,1≤m∧m≤4∧v=.int .i64 (m:Nat)∧Hid (Bw w wx)) (fun v _=>4 - (intOf v).toNat)
   case atStart=>exact⟨1,by omega,by omega,rfl,HB4⟩
   case round =>
    obtain⟨m,hm1,hm4,rfl,HM⟩:=hrel
    clear HB4
    by_cases hm3:m≤3
    ·have hm3':(m:Int)≤3:=by omega
     have hwm:IntKind.i64.wrap ((m:Int)+1)=(m:Int)+1:=by rw[IntKind.wrap_i64];omega
     have HMM:Hid (1≤(m:Int)∧(m:Int)≤3):=⟨by omega,by omega⟩
     have j2:=kE.out wr HM.out
     go_wp2_with fail
     refine j2.mono ?_
     rintro r w5 ⟨rfl,hb5⟩
     have HB5:Hid (Bw w w5):=HM.out.trans (hb5.mono HM.out.size)
     have j3:=kR3.out (m:Int) HMM.out w5 HB5.out
     clear j2 hb5 HM
     go_wp2_with fail
     refine j3.mono ?_
     rintro r w6 ⟨rfl,hb6⟩
     have HB6:Hid (Bw w w6):=HB5.out.trans (hb6.mono HB5.out.size)
     have j2:=kX.out w6 HB6.out
     clear j3 hb6 HB5
     go_wp2_with fail
     refine j2.mono ?_
     rintro r w7 ⟨rfl,hb7⟩
     have HB7:Hid (Bw w w7):=HB6.out.trans (hb7.mono HB6.out.size)
     have j3:=kR4.out (m:Int) HMM.out w7 HB7.out
     clear j2 hb7 HB6
     go_wp2_with fail
     refine j3.mono ?_
     rintro r w8 ⟨rfl,hb8⟩
     have HB8:Hid (Bw w w8):=HB7.out.trans (hb8.mono HB7.out.size)
     clear j3 hb8 HB7
     go_wp2_with (go_at_call 15;refine(kl _).mono ?_;rintro r w' ⟨rfl,hw⟩;replace hw:=hw.symm;subst hw)
     exact⟨⟨m+1,by omega,by omega,by congr 1,HB8⟩,by simp[intOf];omega⟩
    ·obtain rfl:m=4:=by omega
     have j2:=kW.out wr HM.out
     go_wp2_with fail
     refine j2.mono ?_
     rintro r w5 ⟨rfl,hb5⟩
     have HB5:Hid (Bw w w5):=HM.out.trans (hb5.mono HM.out.size)
     clear j2 hb5 HM
     go_wp2_with fail
     go_ret
     exact⟨rfl,HB5.out⟩
theorem same_rd {a:Nat}:same (rdNaN a) a=true:=by
 unfold same rdNaN
 by_cases h:9218868437227405312<mag a
 ·rw[if_pos h]
  have h1:isNaN a=true:=by unfold isNaN;exact decide_eq_true h
  have h2:isNaN 9221120237041090561=true:=by decide
  rw[h1,h2]
  simp
 ·rw[if_neg h]
  simp
theorem rdNaN_lt {a:Nat} (ha:a<18446744073709551616):rdNaN a<18446744073709551616:=by unfold rdNaN;split <;> omega
theorem shTx_len {a:Nat} (ha:a<18446744073709551616):(shTx a).length≤30000:=by
 have hsg:∀ (s:Bool) (L:List UInt8),(sgL s L).length≤L.length+1:=fun s L=>by
  unfold sgL
  split
  ·exact Nat.le_of_eq (List.length_cons)
  ·omega
 unfold shTx
 split
 ·decide
 ·split
  ·exact Nat.le_trans (hsg _ _) (by decide)
  ·split
   ·exact Nat.le_trans (hsg _ _) (by decide)
   ·rename_i h1 h2 h3
    have hm0:0<mag a:=by omega
    obtain⟨hl2,hE⟩:=shE_b hm0 (by omega)
    have h9:=shS_len hl2 hE
    have:=hsg (neg a) (shS (mag a))
    omega
theorem decimBack_ok (a:Nat) (w:World) (ha:a<18446744073709551616) (hT:Tab32 w) (hI:Ie.Tab w) (h10:Tab10 w) :
  Calls Tryz.prog 4 #[.float .f64 a] w fun r w'=>r=.returned (.bool true)∧Bw w w':=by
 obtain⟨d1,d2⟩:=rd_dg17 ha
 have e1:=rd_shTx ha
 refine decimBack_1 a (rdNaN a) (shTx a) (dgA a 17 2).1 (exT a) (hxTx a) _ w rfl (shTx_len ha) (ct_all (ct_shTx ha)) (fun W hW=>DShortestA (hT.later hW) (Tab.later hI hW) (h10.later hW) ha) ?_ ?_ ?_ (fun W hW=>DExactA (hT.later hW) (Tab.later hI hW) ha) (fun W hW=>DHexA (Tab.later hI hW) (h10.later hW) ha) ?_ ?_ ?_ (fun W hW=>Dworks (hT.later hW) (Tab.later hI hW) (h10.later hW))
 ·intro W hW
  have h:=DRead (s:=shTx a) (m:=2) (hT.later hW)
  rw[e1] at h
  exact h
 ·intro W hW
  have h:=DDigitsA (a:=a) 17 2 (hT.later hW) (Tab.later hI hW) (h10.later hW) ha
  rw[d1] at h
  exact h
 ·intro W hW
  have h:=DRead (s:=(dgA a 17 2).1) (m:=2) (hT.later hW)
  rw[d2] at h
  exact h
 ·intro m hm W hW
  have h:=DRead (s:=exT a) (m:=m) (hT.later hW)
  rw[rd_exT ha hm] at h
  exact h
 ·intro m hm W hW
  have h:=DRead (s:=hxTx a) (m:=m) (hT.later hW)
  rw[rd_hxTx ha hm] at h
  exact h
 ·intro W
  have h:=Dlike (rdNaN a) a (rdNaN_lt ha) ha W
  rw[same_rd] at h
  exact h
end Go.Proofs.YtfkaogdmlcdceaaGreatDoor
