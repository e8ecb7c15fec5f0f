/- Own work: contracts of the program's functions, part 17: DVC. -/
import Derived.Test.YtfkaogdmlcdceaaGreatDoorA16

set_option maxHeartbeats 16000000
set_option maxRecDepth 200000
set_option linter.unusedVariables false
set_option linter.unusedSimpArgs false
namespace Go.Proofs.YtfkaogdmlcdceaaGreatDoor
open Go Go.RowKit Go.Fl64
theorem rd_gen {s:Bool} {D:List UInt8} {h:Nat} {x:Int} (hd:allDg D 10=true) (hl:D.length≤1100) (hx : -1500≤(h:Int) - x∧(h:Int) - x≤1500) (hN:dvP 10 D D.length≠0):rdFl s 10 D h x 2=sig s (bkF (dvP 10 D D.length) ((h:Int) - x)):=by
 have hNb:dvP 10 D D.length<2^(4*D.length):=dvP_b (.inl rfl) hd _ (Nat.le_refl _)
 have e1:rK 10 h x = -((h:Int) - x):=by unfold rK;rw[if_neg (by decide)];omega
 have h8:=hT8_eq
 unfold rdFl
 show(if dvP 10 D D.length=0 then _ else rtF (un ((if s=true then -((dvP 10 D D.length:Nat):Int) else(dvP 10 D D.length:Nat))*(rO 10 h x:Nat)) (rP 10 h x)) (un ((rU 10 h x:Nat):Int) 0) 2)=_
 generalize dvP 10 D D.length=N at *
 have eO:rO 10 h x=tnU ((h:Int) - x):=by
  unfold rO tnO tnU
  rw[if_neg (by decide),e1]
 have eU:rU 10 h x=tnO ((h:Int) - x):=by
  unfold rU tnO tnU
  rw[if_neg (by decide),e1,Int.neg_neg]
 have eP:rP 10 h x=0:=by unfold rP;rw[if_neg (by decide)]
 rw[if_neg hN,eO,eU,eP]
 generalize (h:Int) - x=k at *
 have hk : -2000≤k∧k≤2000:=by omega
 have hp:0<tnU k:=Nat.pow_pos (by decide)
 have ho:0<tnO k:=Nat.pow_pos (by decide)
 obtain⟨t1,t2⟩:=tnO_lt hk
 obtain⟨X,e,h1,h2⟩:=rt_one (P:=0) (Nat.mul_ne_zero hN (by omega:tnU k≠0)) (by omega:tnO k≠0) (mulN hNb t2) t1 (by omega)
 have h3:=h2 false 2 (by omega)
 have h4:=h2 s 2 (by omega)
 rw[if_neg (by decide)] at h3
 have e7:(if s=true then -((N:Nat):Int) else(N:Nat))*((tnU k:Nat):Int)=if s=true then -((N*tnU k:Nat):Int) else((N*tnU k:Nat):Int):=by
  cases s
  ·rw[if_neg (by decide),if_neg (by decide),Int.natCast_mul]
  ·rw[if_pos rfl,if_pos rfl,Int.natCast_mul,Int.neg_mul]
 rw[e7,h4]
 have e8:∀ t:Bool,wyN t 2=1:=fun t=>by unfold wyN;rw[if_pos rfl]
 rw[e8] at h3 ⊢
 rw[sig_f] at h3
 unfold bkF
 rw[h3]
theorem rd_not {d:List UInt8} {x:Int} {b:Nat} (hd:∀ c ∈ d,isdT c=true) (h1:1≤d.length) (hl:d.length≤100) (hx : -1000≤x∧x≤1000) (hN:dvP 10 d d.length≠0) (h0:0<b) (hb:b<9218868437227405312) (hB:¬ Bk b (dvP 10 d d.length) ((d.length:Int) - 1 - x)):∃ F,rdA (exL d (Lib.itoa x)) 2=(F,0)∧F≠b∧F≤9218868437227405312:=by
 have hNb:dvP 10 d d.length<2^(4*d.length):=dvP_b (.inl rfl) (all_10 hd) _ (Nat.le_refl _)
 have hk : -2000≤(d.length:Int) - 1 - x∧(d.length:Int) - 1 - x≤2000:=by omega
 refine⟨bkF (dvP 10 d d.length) ((d.length:Int) - 1 - x),?_,fun h9=>hB ((bk_near hN hNb (by omega) hk h0 hb).1 h9),bk_le hN hNb (by omega) hk⟩
 have h:=rdA_e (s:=false) (d:=d) (x:=x) (m:=2) (by omega) hd h1 (by omega) (by omega)
 rw[rd_gen (all_10 hd) (by omega) (by omega) hN,show((d.length - 1:Nat):Int) - x=(d.length:Int) - 1 - x by omega] at h
 exact h
theorem loD_cap {a i:Nat} (hi:i≤16) (h0:0<a) (h:a<9218868437227405312):loD a i+1≤10^(i+1):=by
 obtain⟨g1,g2⟩:=shG_b h0 h
 have e:=shT_G h
 have h1:=fw_cap hi g2
 have h2:=loD_fw hi h0 h
 rw[←e] at h1
 have h3:loD a i*fwU i+fwU i≤100000000000000000:=by rw[h2];exact h1
 have e2:(100000000000000000:Nat)=10^(i+1)*fwU i:=by
  unfold fwU
  rw[←Nat.pow_add,show i+1+(16 - i)=17 by omega,e17]
 rw[e2] at h3
 have h4:(loD a i+1)*fwU i≤10^(i+1)*fwU i:=by rw[Nat.add_mul,Nat.one_mul];exact h3
 exact Nat.le_of_mul_le_mul_right h4 (fwU_pos i)
theorem shD_J {a:Nat} (h0:0<a) (h:a<9218868437227405312):(shD a).length≤shJ a+1:=by
 have hJ:=shJ_le a
 have hw : -400≤shX a∧shX a≤400:=(woX_spec (fU_lt a) (fU_ne h0 h)).2.2
 obtain⟨-,b2⟩:=bs_b (lo_b hJ (by omega) h0 h).2.1 (loD_ne hJ h0 h)
 have hc:=loD_cap hJ h0 h
 have hb:bsD a≤10^(shJ a+1):=by
  unfold bsD
  split <;> omega
 have hF:shF a=bsD a*10^(16 - shJ a):=shF_doc h0 h
 have eD:shD a=Lib.trimRightB (dcR (bsD a)) 48:=by
  unfold shD
  rw[dcT_eq,hF,dcR_ten b2,trimR_app]
 rw[eD]
 rcases Nat.lt_or_ge (bsD a) (10^(shJ a+1))with h1|h1
 ·exact Nat.le_trans (trimR_len _ _) (dcR_le h1)
 ·have e:bsD a=1*10^(shJ a+1):=by omega
  rw[e,dcR_ten (by decide),trimR_app]
  exact Nat.le_trans (trimR_len _ _) (Nat.le_trans (dcR_le (b:=1) (by decide)) (by omega))
theorem sgL_f (l:List UInt8):sgL false l=l:=rfl
theorem rd_few {b i:Nat} {m:Int} (h0:0<b) (h:b<9218868437227405312) (hm:1≤m∧m≤3) (hi:i<shJ b):(dgA b ((i:Int)+1) m).2=0∧∃ F,rdA (dgA b ((i:Int)+1) m).1 2=(F,0)∧F≠b∧F≤9218868437227405312:=by
 have hJ:=shJ_le b
 have hmg:mag b=b:=by unfold mag;omega
 have hng:neg b=false:=by unfold neg;exact decide_eq_false (by omega)
 have e0:dgA b ((i:Int)+1) m=(dgT b ((i:Int)+1) m,0):=by unfold dgA;rw[if_pos (by omega)]
 rw[e0]
 refine⟨rfl,?_⟩
 show ∃ F,rdA (dgT b ((i:Int)+1) m) 2=(F,0)∧F≠b∧F≤9218868437227405312
 have hA0:=fU_ne h0 h
 have hw:=(woX_spec (fU_lt b) hA0).2.2
 have eX:shX b=woX (fU b):=rfl
 have hdig:=rd_digits (neg:=neg b) (m:=m) (n:=i+1) (fU_lt b) hA0 (by omega)
 obtain⟨s1,-⟩:=shJ_spec h0 h
 obtain⟨s2,s3⟩:=s1 i hi
 have hcap:=loD_cap (by omega:i≤16) h0 h
 have hlo0:=loD_ne (by omega:i≤16) h0 h
 have ek:((i+1:Nat):Int) - 1 - woX (fU b)=(i:Int) - woX (fU b):=by omega
 rw[ek] at hdig
 have hN:∃ N,rdN (fU b) ((i:Int) - woX (fU b)) (neg b) m=N∧N≠0∧N≤10^(i+1)∧¬ Bk b N ((i:Int) - woX (fU b)):=by
  have q1:¬ Bk b (loD b i) ((i:Int) - woX (fU b)):=fun h9=>s2 ((bk_lo (by omega) h0 h).1 h9)
  have q2:¬ Bk b (loD b i+1) ((i:Int) - woX (fU b)):=fun h9=>s3 ((bk_hi (by omega) h0 h).1 h9)
  have e1:scF (fU b) ((i:Int) - woX (fU b))=loD b i:=rfl
  refine⟨_,rfl,?_⟩
  unfold rdN
  rw[e1]
  split
  ·exact⟨hlo0,by omega,q1⟩
  ·split
   ·exact⟨by omega,hcap,q2⟩
   ·exact⟨hlo0,by omega,q1⟩
 obtain⟨N,hNe,hN0,hNc,hNB⟩:=hN
 have eD:dgX b ((i:Int)+1) m=dcR N:=by
  unfold dgX
  rw[show(i:Int)+1 - 1 - woX (fU b)=(i:Int) - woX (fU b) by omega,uN_rd (by omega),hNe]
 rw[hNe] at hdig
 unfold dgT
 rw[hmg,if_neg (by omega),if_neg (by omega),if_neg (by omega),hng,eD,show((i:Int)+1).toNat=i+1 by omega]
 rw[show sgL false (exL ((dcR N).take (i+1)) (Lib.itoa (if i+1<(dcR N).length then woX (fU b)+1 else woX (fU b))))=exL ((dcR N).take (i+1)) (Lib.itoa (if i+1<(dcR N).length then woX (fU b)+1 else woX (fU b)))from sgL_f _]
 clear e0 hNe eD eX
 generalize woX (fU b)=x at *
 by_cases c:i+1<(dcR N).length
 ·rw[if_pos c]
  have hNE:N=10^(i+1):=by
   rcases Nat.lt_or_ge N (10^(i+1))with h9|h9
   ·have:=dcR_le h9
    omega
   ·omega
  have hs2:=dcR_step (N:=N) hN0
  have hl2:=congrArg List.length hs2
  rw[List.length_append,List.length_singleton] at hl2
  have ht:(dcR N).take (i+1)=dcR (N / 10):=by rw[hs2,List.take_append_of_le_length (by omega),List.take_of_length_le (by omega)]
  rw[ht]
  have h10:N=N / 10*10^1:=by
   rw[Nat.pow_succ] at hNE
   omega
  have hB2:¬ Bk b (N / 10) ((i:Int) - x - 1):=by
   intro h9
   refine hNB ?_
   have h8:=(bk_ten (a:=b) (N:=N / 10) (k:=(i:Int) - x - 1) 1).2 h9
   rw[←h10,show(i:Int) - x - 1+((1:Nat):Int)=(i:Int) - x by omega] at h8
   exact h8
  have h3:=dv_dcR (N / 10)
  have hn10:N / 10≠0:=by
   intro h9
   rw[h9,dcR_0] at hl2
   simp at hl2
   omega
  exact rd_not (d:=dcR (N / 10)) (x:=x+1) (dcR_dg _) (by omega) (by omega) (by omega) (by rw[h3];exact hn10) h0 h (by
   rw[h3,show((dcR (N / 10)).length:Int) - 1 - (x+1)=(i:Int) - x - 1 by omega]
   exact hB2)
 ·rw[if_neg c,List.take_of_length_le (by omega)]
  have h3:=dv_dcR N
  exact rd_not (d:=dcR N) (x:=x) (dcR_dg _) (by omega) (by omega) (by omega) (by rw[h3];exact hN0) h0 h (by
   rw[h3,show((dcR N).length:Int) - 1 - x=(i:Int) - x by omega]
   exact hNB)
theorem decimNear_w (f b:Nat) (w:World)
  (kA:∀ W,Calls Tryz.prog 17 #[.float .f64 f] W fun r w'=>r=.returned (.float .f64 b)∧w'=W)
  (hc:(FloatKind.f64.format.order b 0==some Ordering.gt)=false∨((FloatKind.f64.format.order b 0==some Ordering.gt)=true∧(FloatKind.f64.format.order b 9218868437227405311==some Ordering.lt)=false∧(FloatKind.f64.format.order b 9218868437227405311==some Ordering.eq)=false))
  (kW:Hid (∀ W,Bw w W→Calls Tryz.prog 13 #[] W fun r w'=>r=.returned (.bool true)∧Bw W w')) :
  Calls Tryz.prog 5 #[.float .f64 f] w fun r w'=>r=.returned (.bool true)∧Bw w w':=by
 have kk:=kW.out w (Below.refl _ _)
 rcases hc with h1|⟨h1,h2,h3⟩
 all_goals
  go_enter Tryz.func5,Tryz.ntmps5
  go_wp2_with (first|(go_at_call 17;refine(kA _).mono ?_;rintro r w' ⟨rfl,hw⟩;replace hw:=hw.symm;subst hw))
  refine kk.mono ?_
  rintro r w' ⟨rfl,hb⟩
  have HB:Hid (Bw w w'):=hb
  clear hb kk
  go_wp2_with fail
  go_ret
  exact⟨rfl,HB.out⟩
theorem decimNear_1 (f b:Nat) (L T:List UInt8) (n tl st N:Nat) (U:Int→List UInt8) (F:Int→Nat) (w:World) (hn:Hid (n=L.length)) (hL:n≤30000) (htl:Hid (tl=T.length)) (htl2:17≤tl) (htl3:tl≤30000)
  (hst:Hid (st≤n∧(∀ i,i<st→bL L i≠101)∧(st=n∨bL L st=101)∧(ncN L st).1=N)) (hN1:1≤N) (hN2:N≤17)
  (kA:∀ W,Calls Tryz.prog 17 #[.float .f64 f] W fun r w'=>r=.returned (.float .f64 b)∧w'=W)
  (h1:(FloatKind.f64.format.order b 0==some Ordering.gt)=true)
  (h2:(FloatKind.f64.format.order b 9218868437227405311==some Ordering.lt)=true∨((FloatKind.f64.format.order b 9218868437227405311==some Ordering.lt)=false∧(FloatKind.f64.format.order b 9218868437227405311==some Ordering.eq)=true))
  (kD:Hid (∀ W,Bw w W→Calls Tryz.prog 16 #[.float .f64 b,.int .i64 17,.int .i64 2] W fun r w'=>r=.returned (.tuple #[.string ⟨T.toArray⟩,.int .i64 0])∧Bw W w'))
  (kS:Hid (∀ W,Bw w W→Calls Tryz.prog 7 #[.float .f64 b] W fun r w'=>r=.returned (.string ⟨L.toArray⟩)∧Bw W w'))
  (kD2:Hid (∀ m:Int,1≤m∧m≤3→2≤N→∀ W,Bw w W→Calls Tryz.prog 16 #[.float .f64 b,.int .i64 ((N:Int) - 1),.int .i64 m] W fun r w'=>r=.returned (.tuple #[.string ⟨(U m).toArray⟩,.int .i64 0])∧Bw W w'))
  (kR:Hid (∀ m:Int,1≤m∧m≤3→2≤N→∀ W,Bw w W→Calls Tryz.prog 14 #[.string ⟨(U m).toArray⟩,.int .i64 2] W fun r w'=>r=.returned (.tuple #[.float .f64 (F m),.int .i64 0])∧Bw W w'))
  (kl:Hid (∀ m:Int,1≤m∧m≤3→2≤N→∀ W,Calls Tryz.prog 15 #[.float .f64 (F m),.float .f64 b] W fun r w'=>r=.returned (.bool false)∧w'=W))
  (kW:Hid (∀ W,Bw w W→Calls Tryz.prog 13 #[] W fun r w'=>r=.returned (.bool true)∧Bw W w')) :
  Calls Tryz.prog 5 #[.float .f64 f] w fun r w'=>r=.returned (.bool true)∧Bw w w':=by
 have j1:=kD.out w (Below.refl _ _)
 obtain⟨R,hR⟩:∃ R:ByteArray,R=⟨L.toArray⟩:=⟨_,rfl⟩
 have hRs:R.size=n:=by rw[hR,hn.out];rfl
 have HRg:Hid (∀ k (h:k<R.size),(R[k]'h).toNat=bL L k):=by rw[hR];exact bL_get L
 obtain⟨Q,hQ⟩:∃ Q:ByteArray,Q=⟨T.toArray⟩:=⟨_,rfl⟩
 have hQs:Q.size=tl:=by rw[hQ,htl.out];rfl
 rw[←hR] at kS
 rw[←hQ] at j1
 clear hR hQ kD
 have HLN:Hid (2≤N∨N=1):=(by omega:2≤N∨N=1)
 have qN1:¬ (N:Int)<1:=by omega
 have qN2:¬ (17:Int)<(N:Int):=by omega
 have qt:¬ (tl:Int)<17:=by omega
 have hwN:IntKind.i64.wrap ((N:Int) - 1)=(N:Int) - 1:=by rw[IntKind.wrap_i64];omega
 have HNB:Hid (1≤N∧N≤17):=⟨hN1,hN2⟩
 clear hN1 hN2 htl2
 go_enter Tryz.func5,Tryz.ntmps5
 go_upto_region 2 with (first|(go_at_call 17;refine(kA _).mono ?_;rintro r w' ⟨rfl,hw⟩;replace hw:=hw.symm;subst hw))
 go_cut [22] from 16 to 23 (fun v wx=>v=.bool false∧wx=w)
 case first =>
  rcases h2 with h2|⟨h2,h3⟩
  all_goals
   go_wp2_with fail
   go_meet
   exact⟨rfl,rfl⟩
 case rest =>
 obtain⟨rfl,hw⟩:=hcut
 subst hw
 clear h1 h2 kA
 go_wp2_with fail
 refine j1.mono ?_
 rintro r w1 ⟨rfl,hb1⟩
 have HB1:Hid (Bw wc w1):=hb1
 have j2:=kS.out w1 hb1
 clear j1 hb1 kS
 go_wp2_with fail
 refine j2.mono ?_
 rintro r w2 ⟨rfl,hb2⟩
 have HB2:Hid (Bw wc w2):=HB1.out.trans (hb2.mono HB1.out.size)
 clear j2 hb2 HB1
 go_upto_region 9 with fail
 go_loopw [6,7,8] (fun a v k wr=>∃ i:Nat,i≤st∧k=.int .i64 (i:Nat)∧a=.int .i64 ((ncN L i).1:Nat)∧v=.int .i64 ((ncN L i).2:Nat)∧wr=w2) (fun _ _ k _=>n - (intOf k).toNat)
 case atStart=>exact⟨0,Nat.zero_le _,rfl,rfl,rfl,rfl⟩
 case round =>
  obtain⟨i,hi,rfl,rfl,rfl,rfl⟩:=hrel
  have hg2:=HRg.out i
  have hin9:i≤n:=Nat.le_trans hi hst.out.1
  have hwi:IntKind.i64.wrap ((i:Int)+1)=(i:Int)+1:=by rw[IntKind.wrap_i64];omega
  have hle:=ncN_le L i
  obtain⟨p,hp⟩:∃ p,p=ncN L i:=⟨_,rfl⟩
  obtain⟨c,hc⟩:∃ c,c=bL L i:=⟨_,rfl⟩
  have hstep:ncN L (i+1)=ncS p c:=by show ncS (ncN L i) (bL L i)=_;rw[←hp,←hc]
  rw[←hp] at hle ⊢
  have HCC:Hid (c=bL L i∧p=ncN L i):=⟨hc,hp⟩
  rw[←hc] at hg2
  have hc256:c<256:=by rw[hc];exact bL_lt L i
  obtain⟨t,u⟩:=p
  have hw1:IntKind.i64.wrap ((t:Int)+(u:Int))=((t+u:Nat):Int):=by rw[IntKind.wrap_i64];simp at hle;omega
  have hw4:IntKind.i64.wrap ((t:Int)+(u:Int)+1)=((t+u+1:Nat):Int):=by rw[IntKind.wrap_i64];simp at hle;omega
  have hw2:IntKind.i64.wrap (((t+u:Nat):Int)+1)=((t+u+1:Nat):Int):=by rw[IntKind.wrap_i64];simp at hle;omega
  have hw3:IntKind.i64.wrap ((u:Int)+1)=((u+1:Nat):Int):=by rw[IntKind.wrap_i64];simp at hle;omega
  clear hc hp hle
  by_cases hbody:i<n∧c≠101
  ·obtain⟨hin,h101⟩:=hbody
   have hii:(i:Int)<(n:Int):=by omega
   have h101':¬ (c:Int)=101:=by omega
   have hist:i+1≤st:=by
    rcases Nat.lt_or_ge i st with h9|h9
    ·exact h9
    ·exfalso
     obtain rfl:i=st:=by omega
     rcases hst.out.2.2.1 with h8|h8
     ·omega
     ·exact h101 (HCC.out.1.trans h8)
   have HS:Hid (ncN L (i+1)=ncS (t,u) c):=hstep
   have HI:Hid (i+1≤st):=hist
   clear hstep hist
   have hcase:(49≤c∧c≤57∧ncS (t,u) c=(t+u+1,0))∨(c=48∧0<t∧ncS (t,u) c=(t,u+1))∨(c=48∧¬ 0<t∧ncS (t,u) c=(t,u))∨(c<48∧ncS (t,u) c=(t,u))∨(57<c∧ncS (t,u) c=(t,u)):=by
    unfold ncS
    by_cases g1:49≤c∧c≤57
    ·rw[if_pos g1];exact .inl ⟨g1.1,g1.2,rfl⟩
    ·rw[if_neg g1]
     by_cases g2:c=48∧0<t
     ·rw[if_pos g2];exact .inr (.inl ⟨g2.1,g2.2,rfl⟩)
     ·rw[if_neg g2];simp;omega
   rcases hcase with ⟨g1,g2,g3⟩|⟨g1,g2,g3⟩|⟨g1,g2,g3⟩|⟨g1,g3⟩|⟨g1,g3⟩
   ·have q1:(49:Int)≤(c:Int):=by omega
    have q2:(c:Int)≤57:=by omega
    rw[g3] at HS
    clear g3 g1 g2
    go_wp2_with fail
    exact⟨⟨i+1,HI.out,by congr 1,by rw[HS.out];rfl,by rw[HS.out];rfl,trivial⟩,by simp[intOf];omega⟩
   ·subst g1
    have q2:(0:Int)<(t:Int):=by omega
    rw[g3] at HS
    clear g3 g2
    go_wp2_with fail
    exact⟨⟨i+1,HI.out,by congr 1,by rw[HS.out],by rw[HS.out];rfl,trivial⟩,by simp[intOf];omega⟩
   ·subst g1
    have q2:¬ (0:Int)<(t:Int):=by omega
    rw[g3] at HS
    clear g3 g2
    go_wp2_with fail
    exact⟨⟨i+1,HI.out,by congr 1,by rw[HS.out],by rw[HS.out],trivial⟩,by simp[intOf];omega⟩
   ·have q1:¬ (49:Int)≤(c:Int):=by omega
    have q2:¬ (c:Int)=48:=by omega
    rw[g3] at HS
    clear g3 g1
    go_wp2_with fail
    exact⟨⟨i+1,HI.out,by congr 1,by rw[HS.out],by rw[HS.out],trivial⟩,by simp[intOf];omega⟩
   ·have q1:(49:Int)≤(c:Int):=by omega
    have q3:¬ (c:Int)≤57:=by omega
    have q2:¬ (c:Int)=48:=by omega
    rw[g3] at HS
    clear g3 g1
    go_wp2_with fail
    exact⟨⟨i+1,HI.out,by congr 1,by rw[HS.out],by rw[HS.out],trivial⟩,by simp[intOf];omega⟩
  ·have hist:i=st:=by
    rcases Nat.lt_or_ge i st with h9|h9
    ·exfalso
     have g1:=hst.out.2.1 i h9
     exact hbody ⟨by have:=hst.out.1;omega,fun h8=>g1 (HCC.out.1.symm.trans h8)⟩
    ·omega
   have htN:t=N:=by
    have g1:=hst.out.2.2.2
    rw[←hist,←HCC.out.2] at g1
    exact g1
   have HBD:Hid (¬ (i<n∧c≠101)):=hbody
   subst htN
   clear hbody hstep hwi hw1 hw2 hw3 hist hin9 hi
   go_upto_region 9 with fail
   go_cut [40] from 31 to 41 (fun v wx=>v=.bool false∧wx=wr)
   case first =>
    by_cases hin:i<n
    ·have hii:(i:Int)<(n:Int):=by omega
     obtain rfl:c=101:=by have:=HBD.out;omega
     go_wp2_with fail
     go_meet
     exact⟨rfl,rfl⟩
    ·have hii:¬ (i:Int)<(n:Int):=by omega
     go_wp2_with fail
     go_meet
     exact⟨rfl,rfl⟩
   case rest =>
   obtain⟨rfl,hw⟩:=hcut
   replace hw:=hw.symm
   subst hw
   clear HBD hg2 hc256 HCC
   by_cases h1N:t=1
   ·subst h1N
    have j2:=kW.out _ HB2.out
    go_wp2_with fail
    refine j2.mono ?_
    rintro r w5 ⟨rfl,hb5⟩
    have HB5:=HB2.out.trans (hb5.mono HB2.out.size)
    have HB6:Hid _:=HB5
    clear j2 hb5 HB2 HB5
    go_wp2_with fail
    go_ret
    exact⟨rfl,HB6.out⟩
   ·have h1N':¬ (t:Int)=1:=by omega
    have H2N:Hid (2≤t):=(by have:=HNB.out;omega:2≤t)
    clear h1N
    go_upto_region 21 with fail
    go_loopw [9] (fun v wx=>∃ m:Nat,(m=1∨m=3∨m=5)∧v=.int .i64 (m:Nat)∧Hid (Bw wc wx)) (fun v _=>5 - (intOf v).toNat)
    case atStart=>exact⟨1,.inl rfl,rfl,HB2⟩
    case round =>
     obtain⟨m,hm,rfl,HM⟩:=hrel
     clear HB2 h1N'
     by_cases hm5:m=5
     ·subst hm5
      have j2:=kW.out _ HM.out
      go_wp2_with fail
      refine j2.mono ?_
      rintro r w5 ⟨rfl,hb5⟩
      have HB5:=HM.out.trans (hb5.mono HM.out.size)
      have HB6:Hid _:=HB5
      clear j2 hb5 HM HB5
      go_wp2_with fail
      go_ret
      exact⟨rfl,HB6.out⟩
     ·have hm3:(m:Int)≤3:=by omega
      have hwm:IntKind.i64.wrap ((m:Int)+2)=((m+2:Nat):Int):=by rw[IntKind.wrap_i64];omega
      have HMM:Hid (1≤(m:Int)∧(m:Int)≤3∧(m+2=3∨m+2=5)):=⟨by omega,by omega,by omega⟩
      have j2:=kD2.out (m:Int) ⟨HMM.out.1,HMM.out.2.1⟩ H2N.out _ HM.out
      clear hm hm5
      go_wp2_with fail
      refine j2.mono ?_
      rintro r w5 ⟨rfl,hb5⟩
      have HB5:Hid (Bw wc w5):=HM.out.trans (hb5.mono HM.out.size)
      have j3:=kR.out (m:Int) ⟨HMM.out.1,HMM.out.2.1⟩ H2N.out w5 HB5.out
      clear j2 hb5 HM
      go_wp2_with fail
      refine j3.mono ?_
      rintro r w6 ⟨rfl,hb6⟩
      have HB6:Hid (Bw wc w6):=HB5.out.trans (hb6.mono HB5.out.size)
      have j2:=kl.out (m:Int) ⟨HMM.out.1,HMM.out.2.1⟩ H2N.out w6
      clear j3 hb6 HB5
      go_wp2_with fail
      refine j2.mono ?_
      rintro r w7 ⟨rfl,hw⟩
      replace hw:=hw.symm
      subst hw
      clear j2
      go_wp2_with fail
      have e9:((t:Int)==1)=false:=by have:=H2N.out;simp;omega
      rw[e9]
      refine⟨⟨_,_,_,_,_,_,_,_,_,_,_,_,_,_,_,_,_,_,_,_,_,_,_,_,_,_,  ⟨m+2,.inr HMM.out.2.2,?_,HB6⟩,rfl⟩,by have:=HMM.out.2.1;simp[intOf];omega⟩
      rfl
theorem dg_len17 {b:Nat} (h0:0<b) (h:b<9218868437227405312):17≤(dgA b 17 2).1.length∧(dgA b 17 2).1.length≤30000:=by
 have hmg:mag b=b:=by unfold mag;omega
 have hng:neg b=false:=by unfold neg;exact decide_eq_false (by omega)
 have hA0:=fU_ne h0 h
 have hw:=(woX_spec (fU_lt b) hA0).2.2
 have hdig:=rd_digits (neg:=neg b) (m:=2) (n:=17) (fU_lt b) hA0 (by omega)
 have e0:dgA b 17 2=(dgT b 17 2,0):=by unfold dgA;rw[if_pos (by omega)]
 have eD:dgX b 17 2=dcR (rdN (fU b) (((17:Nat):Int) - 1 - woX (fU b)) (neg b) 2):=by
  unfold dgX
  rw[uN_rd (by omega)]
  rfl
 rw[e0]
 show 17≤(dgT b 17 2).length∧(dgT b 17 2).length≤30000
 unfold dgT
 rw[hmg,if_neg (by omega),if_neg (by omega),if_neg (by omega),hng,eD]
 generalize dcR (rdN (fU b) (((17:Nat):Int) - 1 - woX (fU b)) (neg b) 2)=D at *
 show 17≤(exL (D.take 17) (Lib.itoa _)).length∧(exL (D.take 17) (Lib.itoa _)).length≤30000
 obtain⟨t,ht⟩:∃ t,t=Lib.itoa (if(17:Int).toNat<D.length then woX (fU b)+1 else woX (fU b)):=⟨_,rfl⟩
 have htl:t.length≤100:=by rw[ht];exact itoa_lenQ (by split <;> omega)
 rw[←ht]
 have h1:=exL_len (D.take 17) t
 have h2:(D.take 17).length=17:=by rw[List.length_take];omega
 refine⟨?_,by omega⟩
 unfold exL
 rw[List.length_append,List.length_append,List.length_cons,if_pos (by omega),List.length_cons,List.length_drop,List.length_take]
 omega
theorem near_o {b:Nat} (hb:b<18446744073709551616) (hp:b<9223372036854775808):((0<b∧b<9218868437227405312)→(FloatKind.f64.format.order b 0==some Ordering.gt)=true∧((FloatKind.f64.format.order b 9218868437227405311==some Ordering.lt)=true∨((FloatKind.f64.format.order b 9218868437227405311==some Ordering.lt)=false∧(FloatKind.f64.format.order b 9218868437227405311==some Ordering.eq)=true)))∧(¬ (0<b∧b<9218868437227405312)→(FloatKind.f64.format.order b 0==some Ordering.gt)=false∨((FloatKind.f64.format.order b 0==some Ordering.gt)=true∧(FloatKind.f64.format.order b 9218868437227405311==some Ordering.lt)=false∧(FloatKind.f64.format.order b 9218868437227405311==some Ordering.eq)=false)):=by
 have hm:mag b=b:=by unfold mag;omega
 have hng:neg b=false:=by unfold neg;exact decide_eq_false (by omega)
 have hs:stp b=(b:Int):=by unfold stp sgn;rw[hng,hm];rfl
 have e1:stp 9218868437227405311=9218868437227405311:=by decide
 have e0:stp 0=0:=by decide
 have n1:isNaN 9218868437227405311=false:=by decide
 have n0:isNaN 0=false:=by decide
 have nb:isNaN b=decide (9218868437227405312<b):=by unfold isNaN;rw[hm]
 have o1:=ord_gt b 0 hb (by decide)
 have o2:=ord_lt b 9218868437227405311 hb (by decide)
 have o3:=ord_eq b 9218868437227405311 hb (by decide)
 unfold lt at o1 o2
 unfold eq at o3
 rw[hs,e0,n0,nb] at o1
 rw[hs,e1,n1,nb] at o2 o3
 constructor
 ·rintro⟨h1,h2⟩
  have q:decide (9218868437227405312<b)=false:=decide_eq_false (by omega)
  rw[q] at o1 o2 o3
  refine⟨by rw[o1];simp;omega,?_⟩
  by_cases c:b<9218868437227405311
  ·exact .inl (by rw[o2];simp;omega)
  ·exact .inr ⟨by rw[o2];simp;omega,by rw[o3];simp;omega⟩
 ·intro h
  rcases(by omega:b=0∨b=9218868437227405312∨9218868437227405312<b)with rfl|rfl|h1
  ·exact .inl (by rw[o1];simp)
  ·refine .inr ⟨by rw[o1];simp,by rw[o2];simp,by rw[o3];simp⟩
  ·have q:decide (9218868437227405312<b)=true:=decide_eq_true h1
   rw[q] at o1
   exact .inl (by rw[o1];simp)
theorem same_ne {F b:Nat} (h:F≠b) (hb:b<9218868437227405312):same F b=false:=by
 have nb:isNaN b=false:=by unfold isNaN mag;exact decide_eq_false (by omega)
 unfold same
 rw[nb]
 simp
 omega
theorem nr_sh {b:Nat} (h0:0<b) (h:b<9218868437227405312):shTx b=shS b:=by
 have hmg:mag b=b:=by unfold mag;omega
 have hng:neg b=false:=by unfold neg;exact decide_eq_false (by omega)
 unfold shTx
 rw[hmg,if_neg (by omega),if_neg (by omega),if_neg (by omega),hng,sgL_f]
theorem nr_dg {b:Nat} {n m:Int} (h:1≤m∧m≤3∧1≤n∧n≤1100):(dgA b n m).2=0:=by unfold dgA;rw[if_pos h]
theorem nr_key {b n:Nat} (h0:0<b) (h:b<9218868437227405312) (hJ:n≤shJ b+1):∃ F:Int→Nat,∀ m:Int,1≤m∧m≤3→2≤n→rdA (dgA b ((n:Int) - 1) m).1 2=(F m,0)∧F m≠b∧F m≤9218868437227405312:=by
 have kF:∀ m:Int,∃ F,1≤m∧m≤3→2≤n→rdA (dgA b ((n:Int) - 1) m).1 2=(F,0)∧F≠b∧F≤9218868437227405312:=by
  intro m
  by_cases h9:(1≤m∧m≤3)∧2≤n
  ·have:=rd_few (b:=b) (i:=n - 2) (m:=m) h0 h h9.1 (by omega)
   rw[show((n - 2:Nat):Int)+1=(n:Int) - 1 by omega] at this
   obtain⟨F,hF⟩:=this.2
   exact⟨F,fun _ _=>hF⟩
  ·exact⟨0,fun g1 g2=>absurd ⟨g1,g2⟩ h9⟩
 exact⟨fun m=>Classical.choose (kF m),fun m=>Classical.choose_spec (kF m)⟩
theorem nr_D {b:Nat} {n m:Int} {w:World} (hT:Tab32 w) (hI:Ie.Tab w) (h10:Tab10 w) (hb:b<18446744073709551616) (hm:1≤m∧m≤3∧1≤n∧n≤1100):Calls Tryz.prog 16 #[.float .f64 b,.int .i64 n,.int .i64 m] w fun r w'=>r=.returned (.tuple #[.string ⟨(dgA b n m).1.toArray⟩,.int .i64 0])∧Bw w w':=by
 have h:=DDigitsA (a:=b) n m hT hI h10 hb
 rw[nr_dg hm] at h
 exact h
theorem nr_S {b:Nat} {w:World} (hT:Tab32 w) (hI:Ie.Tab w) (h10:Tab10 w) (h0:0<b) (hb:b<9218868437227405312):Calls Tryz.prog 7 #[.float .f64 b] w fun r w'=>r=.returned (.string ⟨(shS b).toArray⟩)∧Bw w w':=by
 have h:=DShortestA (a:=b) hT hI h10 (by omega)
 rw[nr_sh h0 hb] at h
 exact h
theorem nr_R {t:List UInt8} {F:Nat} {w:World} (hT:Tab32 w) (hF:rdA t 2=(F,0)):Calls Tryz.prog 14 #[.string ⟨t.toArray⟩,.int .i64 2] w fun r w'=>r=.returned (.tuple #[.float .f64 F,.int .i64 0])∧Bw w w':=by
 have h:=DRead (s:=t) (m:=2) hT
 rw[hF] at h
 exact h
theorem nr_l {F b:Nat} {W:World} (g2:F≠b) (g3:F≤9218868437227405312) (h:b<9218868437227405312):Calls Tryz.prog 15 #[.float .f64 F,.float .f64 b] W fun r w'=>r=.returned (.bool false)∧w'=W:=by
 have h:=Dlike F b (by omega) (by omega) W
 rw[same_ne g2 (by assumption)] at h
 exact h
theorem near_pos (a b:Nat) (w:World) (hT:Tab32 w) (hI:Ie.Tab w) (h10:Tab10 w) (h0:0<b) (h:b<9218868437227405312)
  (kA:∀ W,Calls Tryz.prog 17 #[.float .f64 a] W fun r w'=>r=.returned (.float .f64 b)∧w'=W)
  (o1:(FloatKind.f64.format.order b 0==some Ordering.gt)=true)
  (o2:(FloatKind.f64.format.order b 9218868437227405311==some Ordering.lt)=true∨((FloatKind.f64.format.order b 9218868437227405311==some Ordering.lt)=false∧(FloatKind.f64.format.order b 9218868437227405311==some Ordering.eq)=true)) :
  Calls Tryz.prog 5 #[.float .f64 a] w fun r w'=>r=.returned (.bool true)∧Bw w w':=by
 have hbb:b<18446744073709551616:=by omega
 obtain⟨st,s1,s2,s3,s4⟩:=nr_shS h0 h
 obtain⟨hd,-⟩:=shD_pos h0 h
 have h17:=shD_17 h0 h
 obtain⟨l1,l2⟩:=dg_len17 h0 h
 have hL:=shTx_len hbb
 rw[nr_sh h0 h] at hL
 obtain⟨F,hF⟩:=nr_key h0 h (shD_J h0 h)
 generalize (shD b).length=n at *
 have jD:∀ m:Int,1≤m∧m≤3→2≤n→∀ W,Bw w W→Calls Tryz.prog 16 #[.float .f64 b,.int .i64 ((n:Int) - 1),.int .i64 m] W fun r w'=>r=.returned (.tuple #[.string ⟨(dgA b ((n:Int) - 1) m).1.toArray⟩,.int .i64 0])∧Bw W w' :=
  fun m hm h2 W hW=>nr_D (hT.later hW) (Tab.later hI hW) (h10.later hW) hbb (by omega)
 have jR:∀ m:Int,1≤m∧m≤3→2≤n→∀ W,Bw w W→Calls Tryz.prog 14 #[.string ⟨(dgA b ((n:Int) - 1) m).1.toArray⟩,.int .i64 2] W fun r w'=>r=.returned (.tuple #[.float .f64 (F m),.int .i64 0])∧Bw W w' :=
  fun m hm h2 W hW=>nr_R (hT.later hW) (hF m hm h2).1
 have j17:∀ W,Bw w W→Calls Tryz.prog 16 #[.float .f64 b,.int .i64 17,.int .i64 2] W fun r w'=>r=.returned (.tuple #[.string ⟨(dgA b 17 2).1.toArray⟩,.int .i64 0])∧Bw W w' :=
  fun W hW=>nr_D (hT.later hW) (Tab.later hI hW) (h10.later hW) hbb (by omega)
 have jS:∀ W,Bw w W→Calls Tryz.prog 7 #[.float .f64 b] W fun r w'=>r=.returned (.string ⟨(shS b).toArray⟩)∧Bw W w' :=
  fun W hW=>nr_S (hT.later hW) (Tab.later hI hW) (h10.later hW) h0 h
 have jl:∀ m:Int,1≤m∧m≤3→2≤n→∀ W,Calls Tryz.prog 15 #[.float .f64 (F m),.float .f64 b] W fun r w'=>r=.returned (.bool false)∧w'=W :=
  fun m hm h2 W=>nr_l (hF m hm h2).2.1 (hF m hm h2).2.2 h
 have jW:∀ W,Bw w W→Calls Tryz.prog 13 #[] W fun r w'=>r=.returned (.bool true)∧Bw W w' :=
  fun W hW=>Dworks (hT.later hW) (Tab.later hI hW) (h10.later hW)
 generalize shS b=L at *
 generalize (dgA b 17 2).1=T at *
 obtain⟨U,hU⟩:∃ U:Int→List UInt8,∀ m,U m=(dgA b ((n:Int) - 1) m).1:=⟨_,fun _=>rfl⟩
 have jD':∀ m:Int,1≤m∧m≤3→2≤n→∀ W,Bw w W→Calls Tryz.prog 16 #[.float .f64 b,.int .i64 ((n:Int) - 1),.int .i64 m] W fun r w'=>r=.returned (.tuple #[.string ⟨(U m).toArray⟩,.int .i64 0])∧Bw W w':=by
  intro m;rw[hU m];exact jD m
 have jR':∀ m:Int,1≤m∧m≤3→2≤n→∀ W,Bw w W→Calls Tryz.prog 14 #[.string ⟨(U m).toArray⟩,.int .i64 2] W fun r w'=>r=.returned (.tuple #[.float .f64 (F m),.int .i64 0])∧Bw W w':=by
  intro m;rw[hU m];exact jR m
 clear jD jR hU hF
 exact decimNear_1 a b L T L.length T.length st n U F w rfl hL rfl l1 l2 ⟨s1,s2,s3,s4⟩ hd h17 kA o1 o2 j17 jS jD' jR' jl jW
theorem decimNear_ok (a:Nat) (w:World) (ha:a<18446744073709551616) (hT:Tab32 w) (hI:Ie.Tab w) (h10:Tab10 w) :
  Calls Tryz.prog 5 #[.float .f64 a] w fun r w'=>r=.returned (.bool true)∧Bw w w':=by
 have hm9:=mag_lt' a ha
 have kA:=fun W=>c159 a ha W
 obtain⟨n1,n2⟩:=near_o (b:=mag a) (by omega) (by unfold mag;omega)
 by_cases c:0<mag a∧mag a<9218868437227405312
 ·obtain⟨o1,o2⟩:=n1 c
  exact near_pos a (mag a) w hT hI h10 c.1 c.2 kA o1 o2
 ·exact decimNear_w a (mag a) w kA (n2 c) (fun W hW=>Dworks (hT.later hW) (Tab.later hI hW) (h10.later hW))
end Go.Proofs.YtfkaogdmlcdceaaGreatDoor
