/- Own work: contracts of the program's functions, part 14: DD2 DD4 DD5 DD6 DD7 DCX DCY. -/
import Derived.Test.YtfkaogdmlcdceaaGreatDoorA13
import Derived.Test.YtfkaogdmlcdceaaGreatDoorA8
import Derived.Test.YtfkaogdmlcdceaaGreatDoorA7
import Derived.Test.YtfkaogdmlcdceaaGreatDoorA11
import Derived.Test.YtfkaogdmlcdceaaGreatDoorA10
import Derived.Test.YtfkaogdmlcdceaaGreatDoorA12
import Derived.Test.YtfkaogdmlcdceaaGreatDoorA9
import Derived.Lib.ItoaLen

set_option maxHeartbeats 16000000
set_option maxRecDepth 200000
set_option linter.unusedVariables false
set_option linter.unusedSimpArgs false
namespace Go.Proofs.YtfkaogdmlcdceaaGreatDoor
open Go Go.RowKit Go.Fl64
theorem un_shiftD (a:Int) (p d:Nat):un a p=un (a*((2^d:Nat):Int)) (p+d):=by
 refine un_eq (K:=p+d) (by omega) ?_ ?_
 ·omega
 ·rw[Nat.sub_self,Nat.pow_zero]
  have e1:vz (p+d) (decide (a<0)) a.natAbs (-(p:Int))=a*((2^d:Nat):Int):=by
   unfold vz
   rw[sv_nat,show(-(p:Int)+((p+d:Nat):Int)).toNat=d by omega]
  rw[e1];simp
theorem DisMode (m:Int) (w:World):Calls Tryz.prog 51 #[.int .i64 m] w fun r w'=>r=.returned (.bool (decide (1≤m∧m≤3)))∧w'=w:=by
 by_cases h:1≤m∧m≤3
 ·rw[decide_eq_true h]
  rcases(by omega:m=1∨m=2∨m=3)with rfl|rfl|rfl
  all_goals
   go_enter Tryz.func51,Tryz.ntmps51
   go_wp2
   go_ret
   exact⟨rfl,rfl⟩
 ·rw[decide_eq_false h]
  have h1:(m==1)=false:=by rw[beq_eq_false_iff_ne];omega
  have h2:(m==2)=false:=by rw[beq_eq_false_iff_ne];omega
  have h3:(m==3)=false:=by rw[beq_eq_false_iff_ne];omega
  clear h
  go_enter Tryz.func51,Tryz.ntmps51
  go_wp2
  go_ret
  exact⟨rfl,rfl⟩
theorem klen {n:Nat} (h:n≤7500):KLen n:=fun W=>c156 n (by omega) W
theorem psgn_un {Z:Int} {p b:Nat} (h:Z.natAbs<2^b) (hb:b≤60000) (hp:p≤60000) {W:World} {X:Value} (hX:PN W X (un Z p)) :
  Calls Tryz.prog 89 #[X] W fun r w'=>r=.returned (.int .i64 (if Z=0 then 0 else if Z<0 then -1 else 1))∧Bw W w':=by
 have k:=psign (ok_un h hb hp) hX
 have e:sgI (un Z p).1 (dlen (un Z p).2.1)=(if Z=0 then 0 else if Z<0 then -1 else 1):=by
  unfold sgI
  have h1:=(un_sign (Z:=Z) (p:=p)).2
  by_cases hz:Z=0
  ·rw[if_pos hz,if_pos (dlen_eq_zero.2 (h1.2 hz))]
  ·rw[if_neg hz,if_neg (fun h=>hz (h1.1 (dlen_eq_zero.1 h)))]
   have e1:(un Z p).1=decide (Z<0):=by unfold un cn;rw[if_neg (show ¬ Z.natAbs=0 by omega)]
   rw[e1]
   by_cases hn:Z<0
   ·rw[if_pos hn,if_pos (decide_eq_true hn)]
   ·rw[if_neg hn,if_neg (by simpa using hn)]
 rw[e] at k
 exact k
theorem isDg_dgB {c:Nat} {b:Nat} (hb:b=10∨b=16) (hc:c<256) (h:isDg c (b:Int)=true):dgB c<b:=by
 have key:∀ c:Fin 256,(isDg c.val 10=true→dgB c.val<10)∧(isDg c.val 16=true→dgB c.val<16):=by decide +kernel
 have:=key ⟨c,hc⟩
 rcases hb with rfl|rfl
 ·exact this.1 h
 ·exact this.2 h
theorem dg_all {b:Nat} {D:List UInt8} (hb:b=10∨b=16) (h:allDg D (b:Int)=true):∀ j,j<D.length→dgB (bL D j)<b:=fun j hj=>isDg_dgB hb (bL_lt D j) ((allDg_iff _ _).1 h j hj)
theorem pow16 (n:Nat):16^n=2^(4*n):=by rw[Nat.pow_mul]
theorem dvP_b {b:Nat} {D:List UInt8} (hb:b=10∨b=16) (h:allDg D (b:Int)=true) (k:Nat) (hk:k≤D.length):dvP b D k<2^(4*k):=by
 have h1:dvP b D k<b^k:=dvP_lt fun j hj=>dg_all hb h j (by omega)
 have h2:b^k≤16^k:=Nat.pow_le_pow_left (by rcases hb with rfl|rfl <;> omega) k
 rw[←pow16];omega
theorem bpow_lt {b n:Nat} (hb:b=10∨b=16):b^n<2^(4*n+1):=by
 have h2:b^n≤16^n:=Nat.pow_le_pow_left (by rcases hb with rfl|rfl <;> omega) n
 rw[pow16] at h2
 rw[Nat.pow_succ]
 have:0<2^(4*n):=Nat.pow_pos (by decide)
 omega
theorem Dwhole {b:Nat} {D:List UInt8} {h e:Int} {w:World} (hT:Tab32 w) (hb:b=10∨b=16) (hd:allDg D (b:Int)=true) (hl:D.length≤1100) :
  Calls Tryz.prog 121 #[.agg #[.int .i64 (b:Int),.string ⟨D.toArray⟩,.int .i64 h,.int .i64 e]] w fun r w'=>OutA w (un ((dvP b D D.length:Nat):Int) 0) r w':=by
 have hpart:∀ (P:List UInt8) (k:Nat),P=(D.drop k).take (min 15 (D.length - k))→k<D.length→P.length≤15∧0<P.length∧(∀ j,j<P.length→dgB (bL P j)<b):=by
  intro P k hP hk
  have hlen:P.length=min 15 (D.length - k):=by rw[hP,List.length_take,List.length_drop];omega
  refine⟨by omega,by omega,fun j hj=>?_⟩
  have e:bL P j=bL D (k+j):=by
   unfold bL
   rw[hP,List.getElem?_take_of_lt (by omega),List.getElem?_drop]
  rw[e]
  exact dg_all hb hd _ (by omega)
 have hval:∀ (P:List UInt8) (k:Nat),P=(D.drop k).take (min 15 (D.length - k))→k<D.length→dvP b P P.length<18446744073709551616:=by
  intro P k hP hk
  obtain⟨a1,a2,a3⟩:=hpart P k hP hk
  have h1:dvP b P P.length<b^P.length:=dvP_lt a3
  have h2:b^P.length≤16^P.length:=Nat.pow_le_pow_left (by rcases hb with rfl|rfl <;> omega) _
  have h3:16^P.length≤16^15:=Nat.pow_le_pow_right (by decide) a1
  have h4:(16:Nat)^15<18446744073709551616:=by decide
  omega
 refine Dwhole_1 b D h e (fun k=>un ((dvP b D k:Nat):Int) 0) (fun n=>un ((b^n:Nat):Int) 0) (fun k=>un ((dvP b ((D.drop k).take (min 15 (D.length - k))) (min 15 (D.length - k)):Nat):Int) 0) (fun k n=>un ((dvP b D k*b^n:Nat):Int) 0) w (un_0 0) (by omega) ?_ ?_ ?_ ?_ ?_
 ·intro W P k hP hk
  obtain⟨a1,a2,a3⟩:=hpart P k hP hk
  rcases hb with rfl|rfl
  ·exact Dspu_10 P W a1 a2 a3
  ·exact Dspu_16 P W a1 a2 a3
 ·intro W n hW hn
  exact Dpower (hT.later hW) (by rcases hb with rfl|rfl <;> omega) (by rcases hb with rfl|rfl <;> omega) (by omega) (bpow_lt hb) (by omega) (fun V=>c156 n (by omega) V)
 ·intro W X Y k n hW hX hY hkn hn
  have:=Dmultiplied (k:=4*k) (l:=4*n+1) (nabs (dvP_b hb hd k (by omega))) (nabs (bpow_lt (n:=n) hb)) (by omega) (by omega) (hT.later hW) hX hY
  rw[←Int.natCast_mul] at this
  exact this
 ·intro W P k hP hk hW
  have hlen:P.length=min 15 (D.length - k):=by rw[hP,List.length_take,List.length_drop];omega
  have h1:=DofWord (hT.later hW) (hval P k hP hk)
  show Calls _ _ _ _ fun r w'=>OutA W (un ((dvP b ((D.drop k).take (min 15 (D.length - k))) (min 15 (D.length - k)):Nat):Int) 0) r w'
  rw[←hP,←hlen]
  exact h1
 ·intro W X Y k n hW hX hY hn hk
  have e:dvP b D (k+n)=dvP b D k*b^n+dvP b ((D.drop k).take (min 15 (D.length - k))) (min 15 (D.length - k)):=by
   rw[dvP_app,←hn,dvP_take _ _ _ _ (Nat.le_refl _)]
  obtain⟨q,hq⟩:∃ q:Nat,q=4500:=⟨_,rfl⟩
  have b1:dvP b D k*b^n<2^q:=Nat.lt_of_lt_of_le (mul_lt2 (dvP_b hb hd k (by omega)) (bpow_lt (n:=n) hb)) (Nat.pow_le_pow_right (by decide) (by omega))
  have b2:dvP b ((D.drop k).take (min 15 (D.length - k))) (min 15 (D.length - k))<2^q:=by
   have h1:=hval _ k rfl hk
   rw[show((D.drop k).take (min 15 (D.length - k))).length=min 15 (D.length - k) by rw[List.length_take,List.length_drop];omega] at h1
   exact Nat.lt_of_lt_of_le h1 (Nat.le_trans (by decide:18446744073709551616≤2^64) (Nat.pow_le_pow_right (by decide) (by omega)))
  have:=Dadded_op (paddN (p:=0) b1 b2 (by omega) (by omega)) (hT.later hW) hX hY
  rw[←e] at this
  exact this
def rK (b:Int) (h:Nat) (x:Int):Int:=if b=16 then x - 4*h else x - h
def rO (b:Int) (h:Nat) (x:Int):Nat:=if b=16 then 2^(rK b h x).toNat else tnO (rK b h x)
def rP (b:Int) (h:Nat) (x:Int):Nat:=if b=16 then(-(rK b h x)).toNat else 0
def rU (b:Int) (h:Nat) (x:Int):Nat:=if b=16 then 1 else tnU (rK b h x)
def rdFl (neg:Bool) (b:Int) (D:List UInt8) (h:Nat) (x m:Int):Nat :=
 if dvP b.toNat D D.length=0 then sig neg 0 else rtF (un ((if neg then -((dvP b.toNat D D.length:Nat):Int) else(dvP b.toNat D D.length:Nat))*(rO b h x:Nat)) (rP b h x)) (un ((rU b h x:Nat):Int) 0) m
theorem DtwoTo {k:Int} {w:World} (hT:Tab32 w) (h1 : -20000≤k) (h2:k≤20000) :
  Calls Tryz.prog 179 #[.int .i64 k] w fun r w'=>OutFv w (un ((2^k.toNat:Nat):Int) (-k).toNat) (un ((1:Nat):Int) 0) r w':=by
 refine DtwoTo_1 k _ _ w (fun W hW=>whole_pn (n:=1) (hT.later hW) (by omega)) ?_
 intro W X hW hX
 have e:un ((1:Nat):Int) 0=un ((2^k.toNat:Nat):Int) k.toNat:=by
  have:=un_shiftD 1 0 k.toNat
  rw[Int.one_mul,Nat.zero_add] at this
  exact this
 rw[e] at hX
 exact Dshifted (b:=k.toNat+1) (nabs (Nat.pow_lt_pow_right (by decide) (by omega))) (by omega) (by omega) (by omega) (by omega) hX
theorem Dscale {b:Int} {h:Nat} {x:Int} {d:ByteArray} {w:World} (hT:Tab32 w) (hb:b=10∨b=16) (hh:h≤1100) (hx : -6000≤x∧x≤6000) :
  Calls Tryz.prog 124 #[.agg #[.int .i64 b,.string d,.int .i64 (h:Int),.int .i64 x]] w fun r w'=>OutFv w (un ((rO b h x:Nat):Int) (rP b h x)) (un ((rU b h x:Nat):Int) 0) r w':=by
 unfold rO rP rU
 rcases hb with rfl|rfl
 ·rw[if_neg (by decide),if_neg (by decide),if_neg (by decide)]
  refine Dscale_t 10 h x d _ _ w (by decide) (by omega) (by omega) ?_
  intro W hW
  have e:rK 10 h x=x - h:=by unfold rK;rw[if_neg (by decide)]
  rw[e]
  exact DtenTo (hT.later hW) (by omega) (by omega) (fun n hn=>klen hn)
 ·rw[if_pos rfl,if_pos rfl,if_pos rfl]
  refine Dscale_x 16 h x d _ _ w rfl (by omega) (by omega) ?_
  intro W hW
  have e:rK 16 h x=x - 4*h:=by unfold rK;rw[if_pos rfl]
  rw[e]
  exact DtwoTo (hT.later hW) (by omega) (by omega)
def dQ:Nat:=25000
theorem dQ_eq:dQ=25000:=rfl
theorem rO_lt {b:Int} {h:Nat} {x:Int} (hb:b=10∨b=16) (hh:h≤1100) (hx : -6000≤x∧x≤6000):rO b h x<2^dQ∧rU b h x<2^dQ∧rP b h x≤20000∧0<rU b h x∧0<rO b h x:=by
 unfold rO rU rP
 rcases hb with rfl|rfl
 ·rw[if_neg (by decide),if_neg (by decide),if_neg (by decide)]
  have e:rK 10 h x=x - h:=by unfold rK;rw[if_neg (by decide)]
  rw[e]
  have hd:(2:Nat)^dB≤2^dQ:=Nat.pow_le_pow_right (by decide) (by rw[dQ_eq];exact dB_le)
  refine⟨Nat.lt_of_lt_of_le (ten_lt (by omega)) hd,Nat.lt_of_lt_of_le (ten_lt (by omega)) hd,by omega,Nat.pow_pos (by decide),Nat.pow_pos (by decide)⟩
 ·rw[if_pos rfl,if_pos rfl,if_pos rfl]
  have e:rK 16 h x=x - 4*h:=by unfold rK;rw[if_pos rfl]
  rw[e]
  exact⟨Nat.pow_lt_pow_right (by decide) (by rw[dQ_eq];omega),Nat.one_lt_two_pow (by rw[dQ_eq];omega),by omega,by omega,Nat.pow_pos (by decide)⟩
theorem Drounded {b:Nat} {D:List UInt8} {h:Nat} {x m:Int} {neg:Bool} {w:World} (hT:Tab32 w) (hb:b=10∨b=16) (hd:allDg D (b:Int)=true) (hl:D.length≤1100) (hh:h≤1100) (hx : -6000≤x∧x≤6000) (hm:1≤m∧m≤3) :
  Calls Tryz.prog 56 #[.agg #[.int .i64 (b:Int),.string ⟨D.toArray⟩,.int .i64 (h:Int),.int .i64 x],.bool neg,.int .i64 m] w fun r w'=>r=.returned (.float .f64 (rdFl neg b D h x m))∧Bw w w':=by
 obtain⟨q,hq⟩:∃ q:Nat,q=4400:=⟨_,rfl⟩
 have hN:dvP b D D.length<2^q:=Nat.lt_of_lt_of_le (dvP_b hb hd D.length (Nat.le_refl _)) (Nat.pow_le_pow_right (by decide) (by omega))
 have hb':(b:Int)=10∨(b:Int)=16:=by omega
 obtain⟨o1,o2,o3,o4,o5⟩:=rO_lt hb' hh hx
 unfold rdFl
 rw[Int.toNat_natCast]
 generalize hNN:dvP b D D.length=N at *
 by_cases h0:N=0
 ·rw[if_pos h0]
  refine Drounded_0 _ _ _ _ _ _ (un ((N:Nat):Int) 0) _ w ?_ ?_ ?_
  ·intro W hW
   have:=Dwhole (h:=(h:Int)) (e:=x) (hT.later hW) hb hd hl
   rw[hNN] at this
   exact this
  ·intro W X hW hX
   have:=psgn_un (b:=q) (nabs hN) (by omega) (by omega) hX
   rw[if_pos (by omega)] at this
   exact this
  ·intro W hW
   have:=Ie.c24 neg 0 0 m (by omega) W
   rw[mk_nought hm] at this
   refine this.mono ?_
   rintro r w' ⟨rfl,rfl⟩
   exact⟨rfl,Below.refl _ _⟩
 ·rw[if_neg h0]
  generalize hO:rO (b:Int) h x=O at *
  generalize hU:rU (b:Int) h x=U at *
  generalize hP:rP (b:Int) h x=P at *
  have hz:(if neg=true then -(N:Int) else(N:Int)).natAbs<2^q:=by split <;> omega
  have hz0:(if neg=true then -(N:Int) else(N:Int))≠0:=by split <;> omega
  refine Drounded_1 _ _ _ _ 1 0 _ _ (un ((N:Nat):Int) 0) (un (if neg=true then -(N:Int) else(N:Int)) 0) (un ((O:Nat):Int) P) (un ((U:Nat):Int) 0) (un ((if neg=true then -(N:Int) else(N:Int))*((O:Nat):Int)) P) _ w (by decide:¬ (1:Int)=0) ?_ ?_ ?_ ?_ ?_ ?_ ?_
  ·intro W hW
   have:=Dwhole (h:=(h:Int)) (e:=x) (hT.later hW) hb hd hl
   rw[hNN] at this
   exact this
  ·intro W X hW hX
   have:=psgn_un (b:=q) (nabs hN) (by omega) (by omega) hX
   rw[if_neg (by omega),if_neg (by omega)] at this
   exact this
  ·intro hn W X hW hX
   have:=pneg_un (b:=q) (nabs hN) (by omega) hX
   rw[if_pos hn]
   exact this
  ·intro hn
   show un (if neg=true then -(N:Int) else(N:Int)) 0=un ((N:Nat):Int) 0
   rw[hn];rfl
  ·intro W hW
   have:=Dscale (d:=⟨D.toArray⟩) (hT.later hW) hb' hh hx
   rw[hO,hP,hU] at this
   exact this
  ·intro W X Y hW hX hY
   have:=Dmultiplied (k:=q) (l:=dQ) (p:=0) (q:=P) hz (nabs o1) (by rw[dQ_eq];omega) (by omega) (hT.later hW) hX hY
   rw[Nat.zero_add] at this
   exact this
  ·intro W X Y hW hX hY
   have hprod:((if neg=true then -(N:Int) else(N:Int))*((O:Nat):Int)).natAbs<2^(q+dQ):=abs_mul hz (nabs o1)
   refine pratio (hT.later hW) (ok_un hprod (by rw[dQ_eq];omega) (by omega)) (ok_un (nabs o2) (by rw[dQ_eq];omega) (by omega)) hX hY ?_ ?_ hm
   ·rw[Ne,(un_sign (p:=P)).2]
    exact Int.mul_ne_zero hz0 (by omega)
   ·rw[Ne,(un_sign (p:=0)).2];omega
theorem pquo_ng {A B p k:Nat} (hA0:0<A) (h1:A<2^k) (h2:B<2^k) (h0:0<B) (hk:k≤60000) (hp:p≤60000) {W:World} {X Y:Value} (hT:Tab32 W) (hX:PN W X (un (-(A:Int)) p)) (hY:PN W Y (un (B:Int) p)) :
  Calls Tryz.prog 90 #[X,Y,.int .i64 0] W fun r w'=>∃ s ao n cap e,r=.returned (.tuple #[.agg #[.bool s,.slice ao n cap,.int .i64 e],.bool (decide (A % B=0)),.int .i64 0])∧PN w' (.agg #[.bool s,.slice ao n cap,.int .i64 e]) (un (-((if A % B=0 then A / B else A / B+1:Nat):Int)) 0)∧Bw W w':=by
 have a1:(-((A:Nat):Int)).natAbs<2^k:=by rw[Int.natAbs_neg,Int.natAbs_natCast];exact h1
 have b1:((B:Nat):Int).natAbs<2^k:=by rw[Int.natAbs_natCast];exact h2
 have o1:=ok_un (p:=p) a1 hk hp
 have o2:=ok_un (p:=p) b1 hk hp
 have f1:=o1.facts
 have f2:=o2.facts
 have v1:=vz_un (K:=p) (p:=p) (-(A:Int)) (Nat.le_refl _)
 have v2:=vz_un (K:=p) (p:=p) (B:Int) (Nat.le_refl _)
 have g1:=(un_e (p:=p) a1).2.2
 have g2:=(un_e (p:=p) b1).2.2
 have n1:(un (-(A:Int)) p).1=true:=by unfold un cn;rw[if_neg (show ¬ (-(A:Int)).natAbs=0 by omega)];exact decide_eq_true (by omega)
 have n2:=un_nat (A:=B) (p:=p)
 have z2:(un (B:Int) p).2.1≠0:=fun h=>by have:=un_sign.2.1 h;omega
 obtain⟨ua,uc,rfl,i1⟩:=hX
 obtain⟨va,vc,rfl,i2⟩:=hY
 obtain⟨t1,ht1⟩:∃ t,t=un (-(A:Int)) p:=⟨_,rfl⟩
 obtain⟨t2,ht2⟩:∃ t,t=un (B:Int) p:=⟨_,rfl⟩
 rw[←ht1] at o1 f1 v1 g1 n1 i1 ⊢
 rw[←ht2] at o2 f2 v2 g2 n2 z2 i2 ⊢
 obtain⟨s1,x,ea⟩:=t1
 obtain⟨s2,y,eb⟩:=t2
 simp only at o1 f1 v1 g1 n1 i1 o2 f2 v2 g2 n2 z2 i2 ⊢
 subst n1
 subst n2
 have eA:x*2^(ea+(p:Int)).toNat=A:=by
  unfold vz sv at v1
  rw[Nat.sub_self,Nat.pow_zero] at v1
  simp only[if_true,Int.mul_one] at v1
  have:((x*2^(ea+(p:Int)).toNat:Nat):Int)=(A:Int):=by
   have v1' : -((x:Int))*((2^(ea+(p:Int)).toNat:Nat):Int) = -(A:Int):=by simpa using v1
   rw[Int.neg_mul] at v1'
   rw[Int.natCast_mul];omega
  exact Int.ofNat.inj this
 have eB:y*2^(eb+(p:Int)).toNat=B:=by
  unfold vz sv at v2
  rw[Nat.sub_self,Nat.pow_zero] at v2
  simp only[Bool.false_eq_true,if_false,Int.mul_one] at v2
  have:((y*2^(eb+(p:Int)).toNat:Nat):Int)=(B:Int):=by
   rw[Int.natCast_mul];simpa using v2
  exact Int.ofNat.inj this
 obtain⟨P,hP⟩:∃ P,x*2^(ea+0 - min (ea+0) eb).toNat=P:=⟨_,rfl⟩
 obtain⟨Q,hQ⟩:∃ Q,y*2^(eb - min (ea+0) eb).toNat=Q:=⟨_,rfl⟩
 have hQ0:0<Q:=by rw[←hQ];exact Nat.mul_pos (Nat.pos_of_ne_zero z2) (Nat.two_pow_pos _)
 have hcr:P*B=A*Q:=by
  rw[←hP,←hQ,←eA,←eB]
  have e1:(ea+0 - min (ea+0) eb).toNat+(eb+(p:Int)).toNat=(ea+(p:Int)).toNat+(eb - min (ea+0) eb).toNat:=by omega
  generalize (ea+0 - min (ea+0) eb).toNat=j1 at *
  generalize (eb+(p:Int)).toNat=j2 at *
  generalize (ea+(p:Int)).toNat=j3 at *
  generalize (eb - min (ea+0) eb).toNat=j4 at *
  have e2:(2:Nat)^j1*2^j2=2^j3*2^j4:=by rw[←Nat.pow_add,←Nat.pow_add,e1]
  calc x*2^j1*(y*2^j2)=x*y*(2^j1*2^j2):=by ac_rfl
   _=x*y*(2^j3*2^j4):=by rw[e2]
   _=x*2^j3*(y*2^j4):=by ac_rfl
 obtain⟨d1,d2⟩:=div_cross hQ0 h0 hcr
 refine(c44 (na:=true) (nb:=false) (place:=0) i1 i2 hT z2 (by omega) (by omega) o1 o2 ⟨f1.2.1,f1.2.2.1⟩ ⟨f2.2.1,f2.2.2.1⟩ (by omega) P Q hP hQ).mono ?_
 rintro r w' ⟨N,rfl,hN,hb⟩
 have hz:(if((true:Bool) != false) && !(decide (P % Q=0))then P / Q+1 else P / Q)=(if A % B=0 then A / B else A / B+1):=by
  rw[←d1]
  by_cases h:A % B=0
  ·rw[if_pos h,decide_eq_true (d2.2 h)];rfl
  ·rw[if_neg h,decide_eq_false (fun g=>h (d2.1 g))];rfl
 have hdec:decide (P % Q=0)=decide (A % B=0):=by
  by_cases h:A % B=0
  ·rw[decide_eq_true h,decide_eq_true (d2.2 h)]
  ·rw[decide_eq_false h,decide_eq_false (fun g=>h (d2.1 g))]
 obtain⟨R,hR⟩:∃ R,R=(if A % B=0 then A / B else A / B+1):=⟨_,rfl⟩
 have hR0:0<R:=by
  rw[hR]
  by_cases h:A % B=0
  ·rw[if_pos h]
   have:=Nat.div_add_mod A B
   rw[h] at this
   apply Nat.pos_of_ne_zero
   intro h9
   rw[h9,Nat.mul_zero] at this
   omega
  ·rw[if_neg h];exact Nat.succ_pos _
 have hR2:R≤A:=by
  have hle:=Nat.div_le_self A B
  rw[hR]
  by_cases h:A % B=0
  ·rw[if_pos h];exact hle
  ·rw[if_neg h]
   have h9:=Nat.div_add_mod A B
   have h8:A / B≤B*(A / B):=Nat.le_mul_of_pos_left _ h0
   omega
 rw[hz,←hR] at hN
 rw[←hR]
 have hq1:(-((R:Nat):Int)).natAbs<2^k:=by rw[Int.natAbs_neg,Int.natAbs_natCast];omega
 have hokq:okR ((true:Bool) != false) R (-(0:Int))=true:=by
  have:=okR_un (p:=0) hq1 hk (by omega)
  rw[decide_eq_true (by omega),Int.natAbs_neg,Int.natAbs_natCast] at this
  exact this
 rw[hz,←hR,hokq,hdec]
 have hpn:=hN.pn
 have he:cn ((true:Bool) != false) R (-(0:Int))=un (-((R:Nat):Int)) 0:=by
  unfold un
  rw[decide_eq_true (by omega),Int.natAbs_neg,Int.natAbs_natCast]
  rfl
 rw[he] at hpn
 obtain⟨s',ao,n,cap,e',rfl⟩:=hpn.shape
 exact⟨s',ao,n,cap,e',by rw[Bool.and_true];rfl,hpn,hb⟩
theorem pquo_I {Z:Int} {B p k:Nat} (h1:Z.natAbs<2^k) (h2:B<2^k) (h0:0<B) (hk:k≤60000) (hp:p≤60000) {W:World} {X Y:Value} (hT:Tab32 W) (hX:PN W X (un Z p)) (hY:PN W Y (un (B:Int) p)) :
  Calls Tryz.prog 90 #[X,Y,.int .i64 0] W fun r w'=>∃ A,r=.returned (.tuple #[A,.bool (decide (Z % (B:Int)=0)),.int .i64 0])∧PN w' A (un (Z / (B:Int)) 0)∧Bw W w':=by
 have hB:(0:Int)<(B:Int):=by omega
 by_cases hz:Z<0
 ·obtain⟨A,hA⟩:∃ A:Nat,Z = -(A:Int):=⟨Z.natAbs,by omega⟩
  subst hA
  rw[Int.natAbs_neg,Int.natAbs_natCast] at h1
  refine(pquo_ng (by omega) h1 h2 h0 hk hp hT hX hY).mono ?_
  rintro r w' ⟨s,ao,n,cap,e,rfl,hp',hb⟩
  have d1:=Nat.div_add_mod A B
  have d2:=Nat.mod_lt A h0
  have d3:((B*(A / B):Nat):Int)+((A % B:Nat):Int)=(A:Int):=by rw[←Int.natCast_add,d1]
  rw[Int.natCast_mul] at d3
  obtain⟨q,hq⟩:∃ q:Nat,q=A / B:=⟨_,rfl⟩
  obtain⟨c,hc⟩:∃ c:Nat,c=A % B:=⟨_,rfl⟩
  rw[←hq,←hc] at d3
  rw[←hc] at d2
  have key:(-(A:Int)) / (B:Int) = -((if A % B=0 then A / B else A / B+1:Nat):Int)∧((-(A:Int)) % (B:Int)=0↔A % B=0):=by
   rw[←hq,←hc]
   by_cases h:c=0
   ·rw[if_pos h]
    have:=(Int.ediv_emod_unique (a := -(A:Int)) (b:=(B:Int)) (r:=0) (q := -(q:Int)) hB).2 ⟨by rw[h] at d3;rw[Int.mul_neg];omega,by omega,hB⟩
    exact⟨this.1,by rw[this.2];simp[h]⟩
   ·rw[if_neg h]
    have:=(Int.ediv_emod_unique (a := -(A:Int)) (b:=(B:Int)) (r:=(B:Int) - (c:Int)) (q := -((q:Int)+1)) hB).2 ⟨by rw[Int.mul_neg,Int.mul_add,Int.mul_one];omega,by omega,by omega⟩
    refine⟨by rw[this.1];push_cast;rfl,?_⟩
    rw[this.2]
    constructor
    ·intro h9;omega
    ·intro h9;exact absurd h9 h
  refine⟨_,?_,by rw[key.1];exact hp',hb⟩
  have:decide (A % B=0)=decide ((-(A:Int)) % (B:Int)=0):=by
   by_cases h:A % B=0
   ·rw[decide_eq_true h,decide_eq_true (key.2.2 h)]
   ·rw[decide_eq_false h,decide_eq_false (fun g=>h (key.2.1 g))]
  rw[this]
 ·obtain⟨A,hA⟩:∃ A:Nat,Z=(A:Int):=⟨Z.natAbs,by omega⟩
  subst hA
  rw[Int.natAbs_natCast] at h1
  refine(pquo_un h1 h2 h0 hk hp hT hX hY).mono ?_
  rintro r w' ⟨s,ao,n,cap,e,rfl,hp',hb⟩
  refine⟨_,?_,by rw[←Int.natCast_ediv];exact hp',hb⟩
  have:decide (A % B=0)=decide ((A:Int) % (B:Int)=0):=by
   by_cases h:A % B=0
   ·rw[decide_eq_true h,decide_eq_true (by omega)]
   ·rw[decide_eq_false h,decide_eq_false (by omega)]
  rw[this]
def kP:Nat:=1074
theorem kP_eq:kP=1074:=rfl
theorem Dfloor {Z:Int} {O U p k l:Nat} {W:World} {S X:Value} (hT:Tab32 W) (hS:Fv W S (un ((O:Nat):Int) 0) (un ((U:Nat):Int) 0)) (hX:PN W X (un Z p)) (h1:Z.natAbs<2^k) (h2:O<2^l) (h3:U<2^l) (h0:0<U) (hk:k+l+p≤60000) :
  Calls Tryz.prog 96 #[S,X] W fun r w'=>OutFl W (un (Z*(O:Int) / ((U*2^p:Nat):Int)) 0) (decide (Z*(O:Int) % ((U*2^p:Nat):Int)=0)) r w':=by
 obtain⟨s1,ao1,n1,cp1,e1,s2,ao2,n2,cp2,e2,rfl,p1,p2⟩:=hS
 obtain⟨s3,ao3,n3,cp3,e3,rfl⟩:=hX.shape
 refine Dfloor_1 s1 ao1 n1 cp1 e1 s2 ao2 n2 cp2 e2 s3 ao3 n3 cp3 e3 _ _ _ (un (Z*(O:Int)) p) _ _ W p1 p2 hX ?_ ?_
 ·intro V X Y hV hX hY
  have:=Dmultiplied (p:=p) (q:=0) h1 (nabs h2) (by omega) (by omega) (hT.later hV) hX hY
  exact this
 ·intro V X Y hV hX hY
  have e:un ((U:Nat):Int) 0=un ((U*2^p:Nat):Int) p:=by
   rw[un_shiftD _ 0 p,←Int.natCast_mul,Nat.zero_add]
  rw[e] at hY
  have hm:(Z*(O:Int)).natAbs<2^(k+l+p):=pow_grow p (abs_mul h1 (nabs h2))
  have hu:U*2^p<2^(k+l+p):=by
   have h9:U*2^p<2^l*2^p:=Nat.mul_lt_mul_of_pos_right h3 (Nat.two_pow_pos _)
   rw[←Nat.pow_add] at h9
   exact Nat.lt_of_lt_of_le h9 (Nat.pow_le_pow_right (by decide) (by omega))
  exact pquo_I hm hu (Nat.mul_pos h0 (Nat.two_pow_pos _)) hk (by omega) (hT.later hV) hX hY
def sZ (a:Nat):Int:=if neg a then -((fU a:Nat):Int) else((fU a:Nat):Int)
theorem tF_sZ {a:Nat} (hl : -1074≤Ie.lp a):tF a=un (sZ a) kP:=by
 unfold tF kP
 refine un_eq (K:=1074) (Nat.le_refl _) (by omega) ?_
 unfold sZ vz sv fU
 rw[Nat.sub_self,Nat.pow_zero,Int.natCast_mul]
 cases neg a
 ·simp
 ·simp[Int.neg_mul]
theorem sZ_abs (a:Nat):(sZ a).natAbs=fU a:=by unfold sZ;split <;> omega
theorem sZ_lt (a:Nat):(sZ a).natAbs<2^bU:=by rw[sZ_abs];exact fU_lt a
theorem Dexact {a:Nat} {w:World} (hT:Tab32 w) (hI:Ie.Tab w) (ha:a<18446744073709551616) (hf:mag a<9218868437227405312):Calls Tryz.prog 32 #[.float .f64 a] w fun r w'=>OutA w (un (sZ a) kP) r w':=by
 refine Dexact_1 a _ w fun W hW=>?_
 have:=ofN a ha hf W (hT.later hW) (fun i hi=>(hW.cell (World.block_lt_of_cell? _ _ (hI i hi))).trans (hI i hi))
 rw[tF_sZ (val_mant a hf).2.1] at this
 exact this
theorem un_abs (Z:Int) (p:Nat):un ((Z.natAbs:Nat):Int) p=(false,(un Z p).2.1,(un Z p).2.2):=by
 unfold un cn
 rw[Int.natAbs_natCast,decide_eq_false (by omega)]
 by_cases h:Z.natAbs=0
 ·rw[if_pos h,if_pos h]
 ·rw[if_neg h,if_neg h]
theorem pabs_un {Z:Int} {b:Nat} (h:Z.natAbs<2^b) (hb:b≤60000) {W:World} {X:Value} (hX:PN W X (un Z 0)):Calls Tryz.prog 61 #[X] W fun r w'=>OutA W (un ((Z.natAbs:Nat):Int) 0) r w':=by
 obtain⟨ao,cap,rfl,hI⟩:=hX
 have ok:=ok_un (p:=0) h hb (by omega)
 have f:=ok.facts
 refine(abs_ok hI (by omega) ok).mono ?_
 rintro r w' ⟨v,rfl,hO,hB⟩
 obtain⟨ao',cap',rfl,o1,o2,o3⟩:=hO.is
 rw[un_abs]
 exact⟨_,_,_,_,_,rfl,⟨ao',cap',rfl,⟨ao',cap',rfl,o1,o2,o3⟩⟩,hB⟩
def kP1:Nat:=1073
theorem kP1_eq:(kP:Int) - 1=kP1:=rfl
def unF (Z:Int) (O U:Nat):Int:=Z*(O:Int) / ((U*2^kP:Nat):Int)
def unX (Z:Int) (O U:Nat):Bool:=decide (Z*(O:Int) % ((U*2^kP:Nat):Int)=0)
def unA (Z:Int) (O U:Nat):Bool:=decide ((unF Z O U*2+1)*(U:Int)*((2^kP1:Nat):Int)<Z*(O:Int))||(decide ((unF Z O U*2+1)*(U:Int)*((2^kP1:Nat):Int)=Z*(O:Int))&&decide (unF Z O U % 2=1))
def unP (Z:Int) (O U:Nat) (m:Int):Bool := !unX Z O U&&(decide (m=3)||decide (m=2)&&unA Z O U)
def unR (Z:Int) (O U:Nat) (m:Int):Int:=if unP Z O U m then unF Z O U+1 else unF Z O U
theorem un_odd {L:Int} (e4:Int) (he:e4=(un L 0).2.2):(decide (e4=0)&&decide ((if L=0 then(0:Int)else if L<0 then -1 else 1)≠0))=decide (L % 2=1):=by
 subst he
 by_cases h0:L=0
 ·subst h0;rfl
 ·have h1:(if L=0 then(0:Int)else if L<0 then -1 else 1)≠0:=by rw[if_neg h0];split <;> decide
  rw[decide_eq_true h1,Bool.and_true]
  have e2:(un L 0).2.2=(tz L.natAbs:Int):=by
   unfold un cn
   rw[if_neg (by omega)]
   simp
  rw[e2]
  by_cases ho:L.natAbs % 2=1
  ·rw[tz_odd ho,decide_eq_true (by rfl),decide_eq_true (by omega)]
  ·rw[tz_even (by omega) (by omega),decide_eq_false (by omega),decide_eq_false (by omega)]
theorem unF_lt {Z:Int} {O U k l:Nat} (h1:Z.natAbs<2^k) (h2:O<2^l) (h0:0<U):(unF Z O U).natAbs<2^(k+l+1):=by
 have hm:(Z*(O:Int)).natAbs<2^(k+l):=abs_mul h1 (nabs h2)
 have hB:(0:Int)<((U*2^kP:Nat):Int):=by
  have:=Nat.mul_pos h0 (Nat.two_pow_pos kP)
  omega
 unfold unF
 generalize Z*(O:Int)=a at *
 generalize ((U*2^kP:Nat):Int)=b at *
 rw[Nat.pow_succ]
 have h3:a / b≤a.natAbs:=by
  rcases Int.lt_or_le a 0 with h|h
  ·have:=Int.ediv_neg_of_neg_of_pos h hB;omega
  ·have:=Int.ediv_le_self b h;omega
 have h4 : -(a.natAbs:Int)≤a / b:=by
  rcases Int.lt_or_le a 0 with h|h
  ·rw[Int.le_ediv_iff_mul_le hB]
   have : -(a.natAbs:Int)=a:=by omega
   rw[this]
   have h5:a*b≤a*1:=Int.mul_le_mul_of_nonpos_left (by omega) (by omega)
   omega
  ·have:=Int.ediv_nonneg h (Int.le_of_lt hB);omega
 omega
theorem Dabove {Z:Int} {O U k l:Nat} {W:World} {S X L:Value} (hT:Tab32 W) (hS:Fv W S (un ((O:Nat):Int) 0) (un ((U:Nat):Int) 0)) (hX:PN W X (un Z kP)) (hL:PN W L (un (unF Z O U) 0)) (h1:Z.natAbs<2^k) (h2:O<2^l) (h3:U<2^l) (h0:0<U) (hk:k+l+l+2000≤60000) :
  Calls Tryz.prog 97 #[S,X,L] W fun r w'=>r=.returned (.bool (unA Z O U))∧Bw W w':=by
 have hF:=unF_lt (k:=k) (l:=l) (Z:=Z) h1 h2 h0
 unfold unA
 generalize hFe:unF Z O U=F at *
 obtain⟨s1,ao1,n1,cp1,e1,s2,ao2,n2,cp2,e2,rfl,p1,p2⟩:=hS
 obtain⟨s3,ao3,n3,cp3,e3,rfl⟩:=hX.shape
 obtain⟨s4,ao4,n4,cp4,e4,rfl⟩:=hL.shape
 have he4:e4=(un F 0).2.2:=by
  obtain⟨ao,cap,h,-⟩:=hL
  injection h with h
  simp at h
  exact h.2.2
 have hF2:(F*2).natAbs<2^(k+l+2):=by rw[show k+l+2=(k+l+1)+1 by omega,Nat.pow_succ];omega
 have hF3:(F*2+1).natAbs<2^(k+l+3):=by rw[show k+l+3=(k+l+2)+1 by omega,Nat.pow_succ];omega
 refine Dabove_1 s1 ao1 n1 cp1 e1 s2 ao2 n2 cp2 e2 s3 ao3 n3 cp3 e3 s4 ao4 n4 cp4 e4 _ _ _ (un Z kP1) _ (un (F*2) 0) (un 1 0) (un (F*2+1) 0) (un (Z*(O:Int)) kP1) (un ((F*2+1)*(U:Int)) 0) (cmpI (Z*(O:Int)) ((F*2+1)*(U:Int)*((2^kP1:Nat):Int))) (if F=0 then 0 else if F<0 then -1 else 1) _ W p1 p2 hX hL ?_ ?_ ?_ ?_ ?_ ?_ ?_ ?_ ?_
 ·intro V X hV hX
  have e:un F 0=un (F*2) 1:=un_shiftD F 0 1
  rw[e] at hX
  exact Dshifted (b:=k+l+2) hF2 (by omega) (by omega) (q:=0) (by omega) (by omega) hX
 ·intro V X hV hX
  exact Dshifted (b:=k) h1 (by omega) (by rw[kP_eq];omega) (q:=kP1) (by unfold kP1;omega) kP1_eq hX
 ·intro V hV
  exact whole_pn (n:=1) (hT.later hV) (by omega)
 ·intro V X Y hV hX hY
  exact Dadded_op (padd_un (p:=0) (k:=k+l+2) hF2 (by have:1<2^(k+l+2):=Nat.one_lt_two_pow (by omega);omega) (by omega) (by omega)) (hT.later hV) hX hY
 ·intro V X Y hV hX hY
  exact Dmultiplied (p:=kP1) (q:=0) h1 (nabs h2) (by omega) (by unfold kP1;omega) (hT.later hV) hX hY
 ·intro V X Y hV hX hY
  exact Dmultiplied (p:=0) (q:=0) hF3 (nabs h3) (by omega) (by omega) (hT.later hV) hX hY
 ·intro V X Y hV hX hY
  have e:un ((F*2+1)*(U:Int)) 0=un ((F*2+1)*(U:Int)*((2^kP1:Nat):Int)) kP1:=by
   rw[un_shiftD _ 0 kP1,Nat.zero_add]
  rw[e] at hY
  have g1:(Z*(O:Int)).natAbs<2^(k+l+l+1500):=Nat.lt_of_lt_of_le (abs_mul h1 (nabs h2)) (Nat.pow_le_pow_right (by decide) (by omega))
  have g2:((F*2+1)*(U:Int)*((2^kP1:Nat):Int)).natAbs<2^(k+l+l+1500):=by
   have:=abs_mul (abs_mul hF3 (nabs h3)) (nabs (Nat.pow_lt_pow_right (a:=2) (by decide) (Nat.lt_succ_self kP1)))
   exact Nat.lt_of_lt_of_le this (Nat.pow_le_pow_right (by decide) (by unfold kP1;omega))
  exact pcmp_un g1 g2 (by omega) (by unfold kP1;omega) hX hY
 ·intro V hV hX
  exact psgn_un (b:=k+l+1) hF (by omega) (by omega) hX
 ·show(_∧_)∨(_∧_)∨(_∧_)
  rw[un_odd e4 he4]
  generalize (F*2+1)*(U:Int)*((2^kP1:Nat):Int)=b
  generalize Z*(O:Int)=a
  unfold cmpI
  by_cases c1:a<b
  ·rw[if_pos c1,decide_eq_false (by omega),decide_eq_false (by omega)]
   exact .inr (.inr ⟨rfl,rfl⟩)
  ·rw[if_neg c1]
   by_cases c2:b<a
   ·rw[if_pos c2,decide_eq_true c2]
    exact .inl ⟨rfl,rfl⟩
   ·rw[if_neg c2,decide_eq_false c2,decide_eq_true (by omega)]
    exact .inr (.inl ⟨rfl,by simp⟩)
def uN (a:Nat) (pl m:Int):Nat:=(unR (sZ a) (tnO pl) (tnU pl) m).natAbs
theorem bU_eq:bU=2200:=rfl
theorem dk1:bU+dB+kP≤60000:=by have h1:=kP_eq;have h2:=bU_eq;have h3:=dB_le;generalize kP=x at *; generalize bU=y at *; generalize dB=z at *; omega
theorem dk2:bU+dB+dB+2000≤60000:=by have h1:=kP_eq;have h2:=bU_eq;have h3:=dB_le;generalize kP=x at *; generalize bU=y at *; generalize dB=z at *; omega
theorem dk3:bU+dB+1<60000:=by have h1:=kP_eq;have h2:=bU_eq;have h3:=dB_le;generalize kP=x at *; generalize bU=y at *; generalize dB=z at *; omega
theorem dk4:bU+dB+2≤60000:=by have h1:=kP_eq;have h2:=bU_eq;have h3:=dB_le;generalize kP=x at *; generalize bU=y at *; generalize dB=z at *; omega
theorem tn_lt {pl:Int} (h1 : -7500≤pl) (h2:pl≤7500):tnO pl<2^dB∧tnU pl<2^dB∧0<tnU pl∧0<tnO pl:=by
 unfold tnO tnU
 exact⟨ten_lt (by omega),ten_lt (by omega),Nat.pow_pos (by decide),Nat.pow_pos (by decide)⟩
theorem unR_lt {a:Nat} {pl m:Int} (h1 : -7500≤pl) (h2:pl≤7500):(unR (sZ a) (tnO pl) (tnU pl) m).natAbs<2^(bU+dB+2)∧(unF (sZ a) (tnO pl) (tnU pl)+1).natAbs<2^(bU+dB+2):=by
 obtain⟨t1,t2,t3,t4⟩:=tn_lt h1 h2
 have hF:=unF_lt (Z:=sZ a) (sZ_lt a) t1 t3
 have hp:1<2^(bU+dB+1):=Nat.one_lt_two_pow (by omega)
 rw[Nat.pow_succ]
 unfold unR
 constructor
 ·split <;> omega
 ·omega
theorem Dunits {a:Nat} {pl m:Int} {w:World} (hT:Tab32 w) (hI:Ie.Tab w) (ha:a<18446744073709551616) (hf:mag a<9218868437227405312) (h1 : -7500≤pl) (h2:pl≤7500) (hm:1≤m∧m≤3) :
  Calls Tryz.prog 34 #[.float .f64 a,.int .i64 pl,.int .i64 m] w fun r w'=>OutA w (un ((uN a pl m:Nat):Int) 0) r w':=by
 obtain⟨t1,t2,t3,t4⟩:=tn_lt h1 h2
 have hd:=dB_le
 have hF:=unF_lt (Z:=sZ a) (sZ_lt a) t1 t3
 obtain⟨hR,hR2⟩:=unR_lt (a:=a) (m:=m) h1 h2
 refine Dunits_1 a pl m (un ((tnO pl:Nat):Int) 0) (un ((tnU pl:Nat):Int) 0) (un (sZ a) kP) (un (unF (sZ a) (tnO pl) (tnU pl)) 0) (un 1 0) (un (unF (sZ a) (tnO pl) (tnU pl)+1) 0) _ (unX (sZ a) (tnO pl) (tnU pl)) (unA (sZ a) (tnO pl) (tnU pl)) (unP (sZ a) (tnO pl) (tnU pl) m) w ?_ ?_ ?_ ?_ ?_ ?_ ?_ (by show m=1∨m=2∨m=3;omega) rfl
 ·intro W hW
  exact Dexact (hT.later hW) (Tab.later hI hW) ha hf
 ·intro W hW
  exact DtenTo (hT.later hW) h1 h2 (fun n hn=>klen hn)
 ·intro s1 ao1 n1 cp1 e1 s2 ao2 n2 cp2 e2 s3 ao3 n3 cp3 e3 W hW q1 q2 q3
  exact Dfloor (Z:=sZ a) (O:=tnO pl) (U:=tnU pl) (p:=kP) (k:=bU) (l:=dB) (hT.later hW) ⟨_,_,_,_,_,_,_,_,_,_,rfl,q1,q2⟩ q3 (sZ_lt a) t1 t2 t3 dk1
 ·intro s1 ao1 n1 cp1 e1 s2 ao2 n2 cp2 e2 s3 ao3 n3 cp3 e3 s4 ao4 n4 cp4 e4 W hW q1 q2 q3 q4
  exact Dabove (Z:=sZ a) (O:=tnO pl) (U:=tnU pl) (k:=bU) (l:=dB) (hT.later hW) ⟨_,_,_,_,_,_,_,_,_,_,rfl,q1,q2⟩ q3 q4 (sZ_lt a) t1 t2 t3 dk2
 ·intro W hW
  exact whole_pn (n:=1) (hT.later hW) (by omega)
 ·intro W X Y hW hX hY
  exact Dadded_op (padd_un (p:=0) (k:=bU+dB+1) hF (by have:1<2^(bU+dB+1):=Nat.one_lt_two_pow (by omega);omega) dk3 (by omega)) (hT.later hW) hX hY
 ·intro W X hW hX
  have e:(if unP (sZ a) (tnO pl) (tnU pl) m=true then un (unF (sZ a) (tnO pl) (tnU pl)+1) 0 else un (unF (sZ a) (tnO pl) (tnU pl)) 0)=un (unR (sZ a) (tnO pl) (tnU pl) m) 0:=by unfold unR;split <;> rfl
  rw[e] at hX
  exact pabs_un hR dk4 hX
def eiF:Nat→Nat→Nat
 | 0,_=>0
 | f+1,N=>if N=0 then 0 else eiF f (N / 10^18)+1
def eiN (N:Nat):Nat:=eiF N N
theorem eiF_spec:∀ (f N:Nat),N≤f→N<10^(18*eiF f N)∧(∀ k,k<eiF f N→N / 10^(18*k)≠0)∧eiF f N≤N:=by
 intro f
 induction f with
 | zero =>
  intro N h
  obtain rfl:N=0:=by omega
  exact⟨by decide,fun k hk=>absurd hk (Nat.not_lt_zero _),Nat.le_refl _⟩
 | succ f ih =>
  intro N h
  unfold eiF
  by_cases h0:N=0
  ·rw[if_pos h0,h0]
   exact⟨by decide,fun k hk=>absurd hk (Nat.not_lt_zero _),Nat.le_refl _⟩
  ·rw[if_neg h0]
   have hlt:N / 10^18<N:=Nat.div_lt_self (by omega) (by decide)
   obtain⟨a,b,c⟩:=ih (N / 10^18) (by omega)
   refine⟨?_,?_,by omega⟩
   ·rw[Nat.mul_succ,Nat.pow_add]
    exact(Nat.div_lt_iff_lt_mul (by decide)).1 a
   ·intro k hk
    cases k with
    | zero=>simpa using h0
    | succ k =>
     rw[Nat.mul_succ,Nat.pow_add,Nat.mul_comm,←Nat.div_div_eq_div_mul]
     exact b k (by omega)
def dcT (N:Nat):List UInt8:=Lib.trimLeftB (wtL N (eiN N)) 48
theorem eiN_le {N b:Nat} (h:N<2^b):eiN N≤b / 59+1:=by
 obtain⟨-,h2,-⟩:=eiF_spec N N (Nat.le_refl _)
 rcases Nat.lt_or_ge (b / 59+1) (eiN N)with h9|h9
 ·exfalso
  refine h2 (b / 59+1) h9 (Nat.div_eq_of_lt (Nat.lt_of_lt_of_le h ?_))
  have e1:(2:Nat)^b≤2^(59*(b / 59+1)):=Nat.pow_le_pow_right (by decide) (by omega)
  have e2:(2:Nat)^(59*(b / 59+1))≤10^(18*(b / 59+1)):=by
   rw[Nat.pow_mul,Nat.pow_mul]
   exact Nat.pow_le_pow_left (by decide) _
  exact Nat.le_trans e1 e2
 ·exact h9
theorem DwholeText {N b:Nat} {X:Value} {w:World} (hT:Tab32 w) (hN:N<2^b) (hb:b≤59000) (hX:PN w X (un ((N:Nat):Int) 0)) :
  Calls Tryz.prog 33 #[X] w fun r w'=>r=.returned (.string ⟨(dcT N).toArray⟩)∧Bw w w':=by
 obtain⟨s1,ao1,n1,cp1,e1,rfl⟩:=hX.shape
 obtain⟨q1,q2,q3⟩:=eiF_spec N N (Nat.le_refl _)
 have hle:=eiN_le hN
 have e18:(10:Nat)^18<2^60:=by decide
 refine DwholeText_1 s1 ao1 n1 cp1 e1 N (eiN N) (un ((10^18:Nat):Int) 0) ⟨(dcT N).toArray⟩ w hX q1 (by show eiN N≤100000;omega) q2 ?_ ?_ ?_ ?_ ?_ ?_
 ·intro W hW
  exact Dpower (bs:=10) (n:=18) (b:=60) (hT.later hW) (by omega) (by omega) (by omega) e18 (by omega) (fun V=>c156 18 (by omega) V)
 ·intro W X Y hW hX hY
  have:=psgn_un (b:=b) (nabs (Nat.lt_of_le_of_lt hY hN)) (by omega) (by omega) hX
  refine this.mono ?_
  rintro r w' ⟨rfl,hb'⟩
  refine⟨?_,hb'⟩
  by_cases h:Y=0
  ·rw[if_pos h,if_pos (by omega)]
  ·rw[if_neg h,if_neg (by omega),if_neg (by omega)]
 ·intro W X S Y hW hX hS hY
  have hY':Y<2^(b+60):=pow_grow 60 (Nat.lt_of_le_of_lt hY hN)
  have h18:(10:Nat)^18<2^(b+60):=by rw[Nat.add_comm];exact pow_grow b e18
  refine(pquo_un (p:=0) hY' h18 (by decide) (by omega) (by omega) (hT.later hW) hX hS).mono ?_
  rintro r w' ⟨s,ao,n,cap,e,rfl,hp,hb'⟩
  exact⟨s,ao,n,cap,e,_,rfl,hp,hb'⟩
 ·intro W X S Y hW hX hS hY
  have:=Dmultiplied (p:=0) (q:=0) (k:=b) (l:=60) (nabs (Nat.lt_of_le_of_lt hY hN)) (nabs e18) (by omega) (by omega) (hT.later hW) hX hS
  rw[←Int.natCast_mul] at this
  exact this
 ·intro W X Z' Y hW hX hZ hY
  have:=Dtaken_op (psubN (p:=0) (k:=b) (b:=Y / 10^18*10^18) (Nat.lt_of_le_of_lt hY hN) (Nat.div_mul_le_self _ _) (by omega) (by omega)) (hT.later hW) hX hZ
  rw[show Y - Y / 10^18*10^18=Y % 10^18 by have:=Nat.div_add_mod Y (10^18);omega] at this
  exact this
 ·intro W
  have:=Tryz.strings_TrimLeft_one ⟨(wtL N (eiN N)).toArray⟩ 48 (by decide) W
  refine this.mono ?_
  rintro r w' ⟨rfl,rfl⟩
  exact⟨rfl,Below.refl _ _⟩
theorem repeat_one (n:Nat) (c:UInt8):Lib.repeatL [c] n=List.replicate n c:=by
 induction n with
 | zero=>rfl
 | succ n ih=>rw[Lib.repeatL,ih,List.replicate_succ];rfl
theorem knz (w:World):KNz w:=by
 intro n W hn hW
 refine Dnoughts n W hn (fun V=>?_)
 have h:=Tryz.strings_Repeat ⟨#[48]⟩ n.toNat V (by omega) (by show 1*n.toNat≤_;omega)
 have e1:max 0 n=(n.toNat:Int):=by omega
 rw[e1]
 have e2:Lib.repeatL (⟨#[48]⟩:ByteArray).data.toList n.toNat=nzL n:=repeat_one n.toNat 48
 rw[e2] at h
 exact h
theorem Ditoa {n:Int} {w:World} (hn : -100000≤n∧n≤100000) (h10:Tab10 w):Calls Tryz.prog 79 #[.int .i64 n] w fun r w'=>r=.returned (.string ⟨(Lib.itoa n).toArray⟩)∧Bw w w':=by
 refine(Tryz.strconv_Itoa n (by omega) (by omega) w h10).mono ?_
 rintro r w' ⟨rfl,k,os,rfl⟩
 exact⟨rfl,below_more w k os⟩
theorem cls_fin {a:Nat} (hf:mag a<9218868437227405312):¬ cls a=1∧¬ cls a=2∧cneg a=neg a:=by
 have h1:¬ (9218868437227405312:Int)<(mag a:Int):=by omega
 have h2:((mag a:Int)==9218868437227405312)=false:=by rw[beq_eq_false_iff_ne];omega
 unfold cls cneg
 rw[if_neg h1,if_neg h1,h2]
 refine⟨?_,?_,rfl⟩
 ·repeat' split
  all_goals first|omega|contradiction
 ·repeat' split
  all_goals first|omega|contradiction
theorem trimL_len (L:List UInt8) (c:UInt8):(Lib.trimLeftB L c).length≤L.length:=by
 unfold Lib.trimLeftB
 exact(List.dropWhile_sublist _).length_le
theorem dcT_len {N b:Nat} (h:N<2^b):(dcT N).length≤18*(b / 59+1):=by
 have h1:=trimL_len (wtL N (eiN N)) 48
 rw[wtL_len] at h1
 have:=eiN_le h
 unfold dcT
 omega
theorem nz_len (n:Int):(nzL n).length=n.toNat:=by unfold nzL;simp
theorem pt_len {d:List UInt8} {p:Int}:(ptL d p).length≤d.length+p.natAbs+2:=by
 unfold ptL
 split
 ·rw[List.length_append,List.length_append,nz_len,nz_len];omega
 ·simp only[]
  rw[List.length_append,List.length_cons,List.length_take,List.length_drop,List.length_append,nz_len]
  omega
theorem uN_lt {a:Nat} {pl m:Int} (h1 : -7500≤pl) (h2:pl≤7500):uN a pl m<2^(bU+dB+2):=(unR_lt h1 h2).1
theorem dk5:18*((bU+dB+2) / 59+1)≤9000:=by have h2:=bU_eq;have h3:=dB_le;generalize bU=y at *; generalize dB=z at *; omega
theorem dk6:bU+dB+2≤59000:=by have h2:=bU_eq;have h3:=dB_le;generalize bU=y at *; generalize dB=z at *; omega
theorem duN_len {a:Nat} {pl m:Int} (h1 : -7500≤pl) (h2:pl≤7500):(dcT (uN a pl m)).length≤9000:=Nat.le_trans (dcT_len (uN_lt h1 h2)) dk5
theorem DFixed {a:Nat} {pl m:Int} {w:World} (hT:Tab32 w) (hI:Ie.Tab w) (ha:a<18446744073709551616) (hf:mag a<9218868437227405312) (h1:0≤pl) (h2:pl≤1100) (hm:1≤m∧m≤3) :
  Calls Tryz.prog 50 #[.float .f64 a,.int .i64 pl,.int .i64 m] w fun r w'=>r=.returned (.tuple #[.string ⟨(sgL (neg a) (ptL (dcT (uN a pl m)) pl)).toArray⟩,.int .i64 0])∧Bw w w':=by
 have k0:=DisMode m
 rw[decide_eq_true hm] at k0
 obtain⟨c1,c2,c3⟩:=cls_fin hf
 have hl:=duN_len (a:=a) (m:=m) (pl:=pl) (by omega) (by omega)
 have hp:=pt_len (d:=dcT (uN a pl m)) (p:=pl)
 refine DFixed_1 a pl m _ w (by omega) (by omega) k0 ?_
 intro W g1 g2 g3 hW b1 b2 b3
 have kC:=fun V=>Ie.c9 a ha V
 rw[c3] at kC
 refine Dtold_fin a _ _ (neg a) _ _ W c1 c2 (by omega) kC (enters Tryz.func115 (by kernel_rfl) (by kernel_rfl)) ?_
 refine DFixed1_1 a pl m (un ((uN a pl m:Nat):Int) 0) (dcT (uN a pl m)) _ g1 g2 g3 W b1 b2 b3 ?_ ?_ ?_
 ·intro V hV
  exact Dunits ((hT.later hW).later hV) (Tab.later (Tab.later hI hW) hV) ha hf (by omega) (by omega) hm
 ·intro V X hV hX
  exact DwholeText ((hT.later hW).later hV) (uN_lt (by omega) (by omega)) dk6 hX
 ·intro V hV
  exact Dpointed (by omega) (by omega) (knz V)
def exP (a:Nat):Int:=max 0 (-(un (sZ a) kP).2.2)
theorem exP_b (a:Nat) : -1100≤(un (sZ a) kP).2.2∧(un (sZ a) kP).2.2≤2200:=by
 have h:=un_e (Z:=sZ a) (p:=kP) (sZ_lt a)
 have h1:=kP_eq
 have h2:=bU_eq
 generalize (un (sZ a) kP).2.2=e at *
 generalize kP=x at *
 have h3:e≤(bU:Int):=h.2.1
 generalize bU=y at *
 omega
theorem DExact {a:Nat} {w:World} (hT:Tab32 w) (hI:Ie.Tab w) (ha:a<18446744073709551616) (hf:mag a<9218868437227405312) :
  Calls Tryz.prog 9 #[.float .f64 a] w fun r w'=>r=.returned (.string ⟨(sgL (neg a) (ptL (dcT (uN a (exP a) 2)) (exP a))).toArray⟩)∧Bw w w':=by
 obtain⟨c1,c2,c3⟩:=cls_fin hf
 have hb:=exP_b a
 have he:0≤exP a∧exP a≤1100:=by unfold exP;omega
 have hl:=duN_len (a:=a) (m:=2) (pl:=exP a) (by omega) (by omega)
 have hp:=pt_len (d:=dcT (uN a (exP a) 2)) (p:=exP a)
 refine DExact_1 a _ w ?_
 intro W g1 hW b1
 have kC:=fun V=>Ie.c9 a ha V
 rw[c3] at kC
 refine Dtold_fin a _ _ (neg a) _ _ W c1 c2 (by omega) kC (enters Tryz.func31 (by kernel_rfl) (by kernel_rfl)) ?_
 refine DExact1_1 a (un (sZ a) kP) (un ((uN a (exP a) 2:Nat):Int) 0) (exP a) (dcT (uN a (exP a) 2)) _ g1 W b1 rfl (by show -100000≤_∧_≤100000;omega) ?_ ?_ ?_ ?_
 ·intro V hV
  exact Dexact ((hT.later hW).later hV) (Tab.later (Tab.later hI hW) hV) ha hf
 ·intro V hV
  exact Dunits ((hT.later hW).later hV) (Tab.later (Tab.later hI hW) hV) ha hf (by omega) (by omega) (by omega)
 ·intro V X hV hX
  exact DwholeText ((hT.later hW).later hV) (uN_lt (by omega) (by omega)) dk6 hX
 ·intro V hV
  exact Dpointed (by omega) (by omega) (knz V)
theorem Dlen64 {x:Nat} (hx:x<18446744073709551616) (w:World):Calls Tryz.prog 108 #[.int .u64 x] w fun e w'=>e=.returned (.int .i64 (bl x:Nat))∧w'=w:=c181 x hx w
def hxB (m:Nat):Nat:=m*2^(65 - bl m) % 18446744073709551616
def hxJ:Nat→Nat→Nat
 | 0,_=>0
 | f+1,u=>if u<16 then 0 else hxJ f (u / 16)+1
theorem hxJ_spec:∀ f u,u<16^(f+1)→u / 16^hxJ f u<16∧(hxJ f u=0∨16≤u / 16^(hxJ f u - 1))∧hxJ f u≤f:=by
 intro f
 induction f with
 | zero=>intro u h;exact⟨by show u / 16^0<16;simpa using h,.inl rfl,Nat.le_refl _⟩
 | succ f ih =>
  intro u h
  unfold hxJ
  by_cases h0:u<16
  ·rw[if_pos h0];exact⟨by simpa using h0,.inl rfl,by omega⟩
  ·rw[if_neg h0]
   have hlt:u / 16<16^(f+1):=by rw[Nat.div_lt_iff_lt_mul (by decide)];rw[Nat.pow_succ] at h;exact h
   obtain⟨a,b,c⟩:=ih (u / 16) hlt
   refine⟨?_,.inr ?_,by omega⟩
   ·rw[Nat.pow_succ,Nat.mul_comm,←Nat.div_div_eq_div_mul];exact a
   ·rw[Nat.add_sub_cancel]
    rcases b with b|b
    ·rw[b,Nat.pow_zero,Nat.div_one];omega
    ·by_cases hz:hxJ f (u / 16)=0
     ·rw[hz,Nat.pow_zero,Nat.div_one];omega
     ·obtain⟨k,hk⟩:∃ k,hxJ f (u / 16)=k+1:=⟨hxJ f (u / 16) - 1,by omega⟩
      rw[hk] at b ⊢
      rw[Nat.add_sub_cancel] at b
      rw[Nat.pow_succ,Nat.mul_comm,←Nat.div_div_eq_div_mul]
      exact b
theorem hx_uniq {u i j:Nat} (h1:u / 16^i<16) (h2:i=0∨16≤u / 16^(i - 1)) (g1:u / 16^j<16) (g2:j=0∨16≤u / 16^(j - 1)):i=j:=by
 have key:∀ {a b:Nat},u / 16^a<16→(b=0∨16≤u / 16^(b - 1))→b≤a:=by
  intro a b ha hb
  rcases hb with rfl|hb
  ·omega
  ·refine Nat.le_of_not_lt fun hlt=>?_
   have h3:16^a≤16^(b - 1):=Nat.pow_le_pow_right (by decide) (by omega)
   have h4:u / 16^(b - 1)≤u / 16^a:=Nat.div_le_div_left h3 (Nat.pow_pos (by decide))
   omega
 have:=key h1 g2
 have:=key g1 h2
 omega
def hxD (u:Nat):List UInt8:=hexL u (hxJ 15 u)
def hxC (m:Nat):List UInt8:=Lib.trimRightB (nzL (16 - (hxD (hxB m)).length)++hxD (hxB m)) 48
theorem DformatUint {u:Nat} {w:World} (hI:Ie.Tab w) (hu:u<18446744073709551616):Calls Tryz.prog 109 #[.int .u64 u,.int .i64 16] w fun r w'=>r=.returned (.string ⟨(hxD u).toArray⟩)∧Bw w w':=by
 refine(c81q u w hI hu).mono ?_
 rintro r w' ⟨j,h1,h2,rfl,hb⟩
 obtain⟨a,b,c⟩:=hxJ_spec 15 u (by rw[show(16:Nat)^(15+1)=18446744073709551616 from by decide];exact hu)
 rw[hx_uniq h1 h2 a b]
 exact⟨rfl,hb⟩
theorem DhexText {m:Nat} {e:Int} {w:World} (hI:Ie.Tab w) (h10:Tab10 w) (hm:m<18446744073709551616) (hm0:m≠0) (he : -2000≤e∧e≤2000) :
  Calls Tryz.prog 43 #[.int .u64 m,.int .i64 e] w fun r w'=>r=.returned (.string ⟨(hxL (bl m) (hxC m) (Lib.itoa (e+bl m - 1))).toArray⟩)∧Bw w w':=by
 have hbl:bl m≤64:=(bl_le m 64).2 (by rw[show(2:Nat)^64=18446744073709551616 from by decide];exact hm)
 have hlenB:(hxD (hxB m)).length≤16:=by
  unfold hxD
  rw[hexL_length]
  have:=(hxJ_spec 15 (hxB m) (by rw[show(16:Nat)^(15+1)=18446744073709551616 from by decide];exact Nat.mod_lt _ (by decide))).2.2
  omega
 have hlenC:(hxC m).length≤16:=by
  unfold hxC Lib.trimRightB
  rw[List.length_reverse]
  refine Nat.le_trans (List.dropWhile_sublist _).length_le ?_
  rw[List.length_reverse,List.length_append,nz_len]
  omega
 refine DhexText_1 m (bl m) e (hxD (hxB m)) (hxC m) (Lib.itoa (e+bl m - 1)) w hbl (by omega) hlenB hlenC ?_ (fun W=>Dlen64 hm W) ?_ (knz w) ?_ ?_
 ·have:=Lib.itoa_length_le (e+bl m - 1) (by omega) (by omega)
  show(Lib.itoa (e+bl m - 1)).length≤100
  omega
 ·intro h1
  have e1:IntKind.u64.wrap ((m:Int)*2^(65 - bl m))=((hxB m:Nat):Int):=by
   have e2:(m:Int)*2^(65 - bl m)=((m*2^(65 - bl m):Nat):Int):=by simp
   rw[e2,IntKind.wrap_u64]
   unfold hxB
   omega
  rw[e1]
  exact DformatUint hI (Nat.mod_lt _ (by decide))
 ·intro W
  have:=Tryz.strings_TrimRight_one ⟨(nzL (16 - (hxD (hxB m)).length)++hxD (hxB m)).toArray⟩ 48 (by decide) W (by show(nzL (16 - (hxD (hxB m)).length)++hxD (hxB m)).length≤_;rw[List.length_append,nz_len];omega)
  refine this.mono ?_
  rintro r w' ⟨rfl,rfl⟩
  exact⟨rfl,Below.refl _ _⟩
 ·intro W hW
  exact Ditoa (by omega) (h10.later hW)
def hxT (a:Nat):List UInt8:=if(Ie.sM a).toNat=0 then [48,120,48,112,48] else hxL (bl (Ie.sM a).toNat) (hxC (Ie.sM a).toNat) (Lib.itoa (Ie.sE a+bl (Ie.sM a).toNat - 1))
theorem sE_b {a:Nat} (ha:a<18446744073709551616) (hf:mag a<9218868437227405312) : -1100≤Ie.sE a∧Ie.sE a≤1100:=by
 have hv:=val_mant a hf
 unfold Ie.sE
 split
 ·omega
 ·split
  ·omega
  ·rename_i h1 h2
   have hm:=Ie.mant_ne h2
   have hb:=Ie.mant_bound a
   obtain⟨_,hk⟩:=Lib.lowest_bit 64 (Ie.mant a) hm (by omega)
   omega
theorem DHex {a:Nat} {w:World} (hI:Ie.Tab w) (h10:Tab10 w) (ha:a<18446744073709551616) (hf:mag a<9218868437227405312) :
  Calls Tryz.prog 11 #[.float .f64 a] w fun r w'=>r=.returned (.string ⟨(sgL (neg a) (hxT a)).toArray⟩)∧Bw w w':=by
 obtain⟨c1,c2,c3⟩:=cls_fin hf
 obtain⟨m,hm1,hm2⟩:=sM_lt a ha
 have hE:=sE_b ha hf
 have hbl:bl m≤64:=(bl_le m 64).2 (by rw[show(2:Nat)^64=18446744073709551616 from by decide];exact hm2)
 have hlenC:(hxC m).length≤16:=by
  unfold hxC Lib.trimRightB
  rw[List.length_reverse]
  refine Nat.le_trans (List.dropWhile_sublist _).length_le ?_
  rw[List.length_reverse,List.length_append,nz_len]
  have:(hxD (hxB m)).length≤16:=by
   unfold hxD
   rw[hexL_length]
   have:=(hxJ_spec 15 (hxB m) (by rw[show(16:Nat)^(15+1)=18446744073709551616 from by decide];exact Nat.mod_lt _ (by decide))).2.2
   omega
  omega
 unfold hxT
 rw[hm1,Int.toNat_natCast]
 refine DHex_1 a _ w ?_
 intro W g1 hW b1
 have kC:=fun V=>Ie.c9 a ha V
 rw[c3] at kC
 refine Dtold_fin a _ _ (neg a) _ _ W c1 c2 ?_ kC (enters Tryz.func41 (by kernel_rfl) (by kernel_rfl)) ?_
 ·split
  ·decide
  ·have:=Lib.itoa_length_le (Ie.sE a+bl m - 1) (by omega) (by omega)
   unfold hxL
   rw[List.length_append,List.length_append,List.length_cons]
   split
   ·rw[List.length_cons];simp;omega
   ·simp;omega
 ·refine DHex1_1 a m (Ie.sE a) (.bool (Ie.sN a)) (.bool (Ie.sO a)) _ g1 W b1 ?_ ?_ ?_
  ·have h:=Ie.c22 a ha W (Tab.later hI hW)
   rw[hm1] at h
   refine h.mono ?_
   rintro r w' ⟨rfl,n,rfl⟩
   exact⟨rfl,bdrewN (Below.refl _ _) n⟩
  ·intro h0 V hV
   rw[if_neg h0]
   exact DhexText (Tab.later (Tab.later hI hW) hV) ((h10.later hW).later hV) hm2 h0 (by omega)
  ·intro h0
   rw[if_pos h0]
end Go.Proofs.YtfkaogdmlcdceaaGreatDoor
namespace Go.Proofs.YtfkaogdmlcdceaaGreatDoor
open Go.RowKit Go.Fl64
theorem owp_ldS {Q:Exit→Act→World→Prop} {o:Oper} {K:Act→World→Prop} {a:Act} {w:World} {s:Tmp} {g:Nat} {a0 a1 a2 a3 a4 a5:Value} (hop:o.op=.load 104 (.tmp s)) (hs:a.tmps[s]?=some (.pointer (some ⟨g,0,none⟩))) (hrun:(Instr.loadAt 104 (.pointer (some ⟨g,0,none⟩))).run Tryz.prog w=.ok (.agg #[a0,a1,a2,a3,a4,a5]) w) (h:K (a.put o.dst (.agg #[a0,a1,a2,a3,a4,a5])) w):o.wp Tryz.prog a w K Q :=
 owp_run1 (w':=w) (by simp[execOp,hop,eval_get hs,hrun]) h
theorem DreadAs_1 (f fp fu:Nat) (s1:Bool) (ao1:Option Addr) (n1 cp1:Nat) (e1:Int) (s2:Bool) (ao2:Option Addr) (n2 cp2:Nat) (e2:Int) (t1 t2 ta tp tq tl tu tv th tn tm:Bool×Nat×Int) (b1 b2 r1 r2:Bool) (N M LS MS:Nat) (w:World) (hLS:Hid (LS=if b1&&r1 then N else N+1)) (hMS:Hid (MS=if b2 && !r2 then M - 1 else M)) (h1:PN w (.agg #[.bool s1,.slice ao1 n1 cp1,.int .i64 e1]) t1) (h2:PN w (.agg #[.bool s2,.slice ao2 n2 cp2,.int .i64 e2]) t2) (hN:N<9223372036854775808) (hM:M<9223372036854775808) (hM0:Hid (0<M))
  (k1:Hid (∀ W,Bw w W→Calls Tryz.prog 32 #[.float .f64 f] W fun r w'=>OutA W ta r w'))
  (k2:Hid (∀ W,Calls Tryz.prog 201 #[.float .f64 f] W fun r w'=>r=.returned (.float .f64 fp)∧Bw W w'))
  (k3:Hid (∀ W,Bw w W→Calls Tryz.prog 32 #[.float .f64 fp] W fun r w'=>OutA W tp r w'))
  (k4:Hid (∀ W X Y,Bw w W→PN W X tp→PN W Y ta→Calls Tryz.prog 98 #[X,Y] W fun r w'=>OutA W tq r w'))
  (k5:Hid (∀ W X,Bw w W→PN W X tq→Calls Tryz.prog 140 #[X,.int .i64 (-1)] W fun r w'=>OutA W tl r w'))
  (k6:Hid (∀ W,Calls Tryz.prog 202 #[.float .f64 f] W fun r w'=>r=.returned (.float .f64 fu)∧Bw W w'))
  (k7:Hid (∀ W,Bw w W→Calls Tryz.prog 32 #[.float .f64 fu] W fun r w'=>OutA W tu r w'))
  (k8:Hid (∀ W X,Bw w W→PN W X tu→Calls Tryz.prog 140 #[X,.int .i64 (-1)] W fun r w'=>OutA W tv r w'))
  (k9:Hid (∀ W X Y,Bw w W→PN W X ta→PN W Y tv→Calls Tryz.prog 98 #[X,Y] W fun r w'=>OutA W th r w'))
  (kA:Hid (∀ W X,Bw w W→PN W (.agg #[.bool s1,.slice ao1 n1 cp1,.int .i64 e1]) t1→PN W (.agg #[.bool s2,.slice ao2 n2 cp2,.int .i64 e2]) t2→PN W X tl→Calls Tryz.prog 96 #[.agg #[.bool s1,.slice ao1 n1 cp1,.int .i64 e1,.bool s2,.slice ao2 n2 cp2,.int .i64 e2],X] W fun r w'=>OutFl W tn b1 r w'))
  (kB:Hid (∀ W X,Bw w W→PN W X tn→Calls Tryz.prog 92 #[X] W fun r w'=>r=.returned (.int .u64 (N:Nat))∧Bw W w'))
  (kC:Hid (b1=true→∀ W X,Bw w W→PN W X tl→Calls Tryz.prog 203 #[X,.float .f64 f] W fun r w'=>r=.returned (.bool r1)∧Bw W w'))
  (kD:Hid (∀ W X,Bw w W→PN W (.agg #[.bool s1,.slice ao1 n1 cp1,.int .i64 e1]) t1→PN W (.agg #[.bool s2,.slice ao2 n2 cp2,.int .i64 e2]) t2→PN W X th→Calls Tryz.prog 96 #[.agg #[.bool s1,.slice ao1 n1 cp1,.int .i64 e1,.bool s2,.slice ao2 n2 cp2,.int .i64 e2],X] W fun r w'=>OutFl W tm b2 r w'))
  (kE:Hid (∀ W X,Bw w W→PN W X tm→Calls Tryz.prog 92 #[X] W fun r w'=>r=.returned (.int .u64 (M:Nat))∧Bw W w'))
  (kF:Hid (b2=true→∀ W X,Bw w W→PN W X th→Calls Tryz.prog 203 #[X,.float .f64 f] W fun r w'=>r=.returned (.bool r2)∧Bw W w')) :
  Calls Tryz.prog 139 #[.float .f64 f,.agg #[.bool s1,.slice ao1 n1 cp1,.int .i64 e1,.bool s2,.slice ao2 n2 cp2,.int .i64 e2]] w fun r w'=>r=.returned (.tuple #[.int .u64 (LS:Nat),.int .u64 (MS:Nat)])∧Bw w w':=by
 obtain⟨W,hW⟩:∃ W,W=w.alloc (.cells #[.bool s1,.slice ao1 n1 cp1,.int .i64 e1,.bool s2,.slice ao2 n2 cp2,.int .i64 e2] 104):=⟨_,rfl⟩
 have H0:Hid (W.heap[w.heap.size]?=some (.cells #[.bool s1,.slice ao1 n1 cp1,.int .i64 e1,.bool s2,.slice ao2 n2 cp2,.int .i64 e2] 104 (0,0))∧PN W (.agg #[.bool s1,.slice ao1 n1 cp1,.int .i64 e1]) t1∧PN W (.agg #[.bool s2,.slice ao2 n2 cp2,.int .i64 e2]) t2∧Bw w W):=(by
  have hb:Bw w W:=by rw[hW];exact(Below.refl _ _).alloc (Nat.le_refl _) _
  exact⟨by rw[hW];exact heap_alloc_new _ _,h1.later hb,h2.later hb,hb⟩:_∧_)
 have kk:=k1.out W H0.out.2.2.2
 clear k1 h1 h2
 go_enter Tryz.func139,Tryz.ntmps139
 go_upto_region 1 with fail
 rw[←hW]
 clear hW
 go_wp2_with fail
 refine kk.mono ?_
 rintro r w1 ⟨s3,ao3,n3,cp3,e3,rfl,hA,hb1⟩
 clear kk
 obtain⟨W1,hW1⟩:∃ W1,W1=w1.alloc (.cells #[.bool s3,.slice ao3 n3 cp3,.int .i64 e3] 50):=⟨_,rfl⟩
 have hbV:Bw w1 W1:=by rw[hW1];exact(Below.refl _ _).alloc (Nat.le_refl _) _
 have n6:W1.heap[w1.heap.size]?=some (.cells #[.bool s3,.slice ao3 n3 cp3,.int .i64 e3] 50 (0,0)):=by rw[hW1];exact heap_alloc_new _ _
 have hb01:Bw W W1:=hb1.trans (hbV.mono hb1.size)
 go_upto_region 2 with fail
 rw[←hW1]
 clear hW1
 have hA':=hA.later hbV
 clear hbV hA
 generalize w1.heap.size=gqA at *
 have H1:Hid ((W1.heap[w.heap.size]?=some (.cells #[.bool s1,.slice ao1 n1 cp1,.int .i64 e1,.bool s2,.slice ao2 n2 cp2,.int .i64 e2] 104 (0,0))∧PN W1 (.agg #[.bool s1,.slice ao1 n1 cp1,.int .i64 e1]) t1∧PN W1 (.agg #[.bool s2,.slice ao2 n2 cp2,.int .i64 e2]) t2∧Bw w W1)∧PBx W1 gqA s3 ao3 n3 cp3 e3 ta):=⟨⟨box_later H0.out.1 hb01 (lt_of_box H0.out.1),H0.out.2.1.later hb01,H0.out.2.2.1.later hb01,H0.out.2.2.2.trans (hb01.mono H0.out.2.2.2.size)⟩,⟨n6,hA'⟩⟩
 clear H0 n6 hA' hb1 hb01
 obtain⟨mS,m1⟩:=H1.out
 have hBW:=mS.2.2.2
 refine x_region follows_mixed [0,1,2,3,4,5] [6] [7] [16,17,18,19,20,21] [7] [[],[0],[1],[],[2,3],[4]] [5] 50 #[.bool false,.slice none 0 0,.int .i64 0] W1 _ [isV (.float .f64 f),isV (.float .f64 fp),isP (tp),isV (.agg #[.bool s3,.slice ao3 n3 cp3,.int .i64 e3]),isP (tq),isP (tl)] (by kernel_rfl) ⟨isV_stays _,isV_stays _,isP_stays _,isV_stays _,isP_stays _,isP_stays _,trivial⟩ ⟨fun _ _ _ _ _ h=>h,fun _ _ _ _ _ h=>h,isP_rows8 _,fun _ _ _ _ _ h=>h,isP_rows8 _,isP_rows8 _,trivial⟩ (by show ∀ s ∈ [16,17,18,19,20,21] ++ [7],s<65;decide) ?_ ?_ ?_ zeroN8 Tryz.info50 ?_ ?_
 ·intro k' hk U u h
  obtain rfl:k'=0:=Nat.lt_one_iff.1 hk
  obtain⟨ao,cap,rfl,-⟩:=(show PN U u (tl)from h)
  exact⟨_,rfl,rfl,one3 rfl rfl⟩
 ·intro j hj o ho act U hb hoth hdep
  have hj':j<6:=hj
  have hbU:Bw w U:=hBW.trans (hb.mono hBW.size)
  have t0':act.tmps[(0:Nat)]?=some (Value.float .f64 f):=(hoth 0 (by decide)).trans rfl
  have t6':act.tmps[(6:Nat)]?=some (Value.pointer (some ⟨gqA,0,none⟩)):=(hoth 6 (by decide)).trans rfl
  have d6:=(cells3N (box_later m1.1 hb (lt_of_box m1.1))).1
  rcases(by omega:j=0∨j=1∨j=2∨j=3∨j=4∨j=5)with rfl|rfl|rfl|rfl|rfl|rfl
  ·obtain rfl:=Option.some.inj ho
   exact .inl ⟨rfl,owp_move rfl t0' ⟨_,rfl,rfl,Below.refl _ _⟩⟩
  ·obtain rfl:=Option.some.inj ho
   have y0:act.tmps[(16:Nat)]?=_:=dV (hdep 0 (by simp[dL])) rfl
   refine .inl ⟨rfl,owp_call rfl (enters Tryz.func201 (by kernel_rfl) (by kernel_rfl)) (map1t8 y0) ?_⟩
   refine(k2.out U).mono ?_
   rintro r w' ⟨rfl,hb'⟩
   exact⟨_,rfl,_,rfl,rfl,hb'⟩
  ·obtain rfl:=Option.some.inj ho
   have y1:act.tmps[(17:Nat)]?=_:=dV (hdep 1 (by simp[dL])) rfl
   refine .inl ⟨rfl,owp_call rfl (enters Tryz.func32 (by kernel_rfl) (by kernel_rfl)) (map1t8 y1) ?_⟩
   refine(k3.out U hbU).mono ?_
   rintro r w' ⟨_,_,_,_,_,rfl,hA,hb'⟩
   exact⟨_,rfl,_,rfl,hA,hb'⟩
  ·obtain rfl:=Option.some.inj ho
   exact .inl ⟨rfl,owp_ldP (f:=0) rfl t6' d6.1 d6.2.1 d6.2.2 ⟨_,rfl,rfl,Below.refl _ _⟩⟩
  ·obtain rfl:=Option.some.inj ho
   obtain⟨u2,y2a,v2⟩:=hdep 2 (by simp[dL])
   have y2:act.tmps[(18:Nat)]?=_:=y2a
   have y3:act.tmps[(19:Nat)]?=_:=dV (hdep 3 (by simp[dL])) rfl
   refine .inl ⟨rfl,owp_call rfl (enters Tryz.func98 (by kernel_rfl) (by kernel_rfl)) (map2 y2 y3) ?_⟩
   refine(k4.out U _ _ hbU v2 (m1.2.later hb)).mono ?_
   rintro r w' ⟨_,_,_,_,_,rfl,hA,hb'⟩
   exact⟨_,rfl,_,rfl,hA,hb'⟩
  ·obtain rfl:=Option.some.inj ho
   obtain⟨u4,y4a,v4⟩:=hdep 4 (by simp[dL])
   have y4:act.tmps[(20:Nat)]?=_:=y4a
   refine .inl ⟨rfl,owp_call rfl (enters Tryz.func140 (by kernel_rfl) (by kernel_rfl)) (map2k y4) ?_⟩
   refine(k5.out U _ hbU v4).mono ?_
   rintro r w' ⟨_,_,_,_,_,rfl,hA,hb'⟩
   exact⟨_,rfl,_,rfl,hA,hb'⟩
 ·intro k' hk
  obtain rfl:k'=0:=Nat.lt_one_iff.1 hk
  exact⟨_,rfl,rfl⟩
 ·intro k' hk
  obtain rfl:k'=0:=Nat.lt_one_iff.1 hk
  exact⟨_,rfl,rfl⟩
 ·intro u g W3 hb3 hu hg hap
  obtain⟨g0,cs0,q0,z0⟩:=hg 0 (by decide)
  have q7:PN W3 (u 5) (tl):=hu 5 (by decide)
  have q0':u 5=.agg cs0:=q0
  rw[q0'] at q7
  obtain⟨s4,ao4,n4,cp4,e4,h5⟩:=q7.shape1
  obtain rfl:=Value.agg.inj h5
  obtain⟨gqL,hgS⟩:∃ x,x=g 0:=⟨_,rfl⟩
  rw[←hgS] at z0 g0
  have H3:Hid ((W3.heap[w.heap.size]?=some (.cells #[.bool s1,.slice ao1 n1 cp1,.int .i64 e1,.bool s2,.slice ao2 n2 cp2,.int .i64 e2] 104 (0,0))∧PN W3 (.agg #[.bool s1,.slice ao1 n1 cp1,.int .i64 e1]) t1∧PN W3 (.agg #[.bool s2,.slice ao2 n2 cp2,.int .i64 e2]) t2∧Bw w W3)∧PBx W3 gqA s3 ao3 n3 cp3 e3 ta∧PBx W3 gqL s4 ao4 n4 cp4 e4 tl):=⟨⟨box_later mS.1 hb3 (lt_of_box mS.1),mS.2.1.later hb3,mS.2.2.1.later hb3,mS.2.2.2.trans (hb3.mono mS.2.2.2.size)⟩,m1.later hb3,⟨z0,q7⟩⟩
  clear hu hg hap hb3 m1 mS hBW H1 q0 q0' z0 g0 q7 h5 k2 k3 k4 k5
  simp only[putL,show List.range 6 = [0,1,2,3,4,5] from rfl,show List.range 1 = [0] from rfl,List.length_cons,List.length_nil,List.getD_cons_zero,List.getD_cons_succ,List.map_cons,List.map_nil,List.cons_append,List.nil_append,List.foldl_cons,List.foldl_nil,Nat.reduceLT,Nat.reduceMod,Nat.reduceDiv,Nat.reduceMul,Nat.reduceAdd,Nat.reduceEqDiff,reduceIte,Nat.one_ne_zero,Act.put,List.setIfInBounds_toArray,List.set_cons_zero,List.set_cons_succ]
  rw[←hgS]
  clear hgS
  go_upto_region 3 with fail
  obtain⟨mS,m1,m2⟩:=H3.out
  have hBW:=mS.2.2.2
  refine x_region follows_mixed [0,1,2,3,4,5] [6] [7] [22,23,24,25,26,27] [8] [[],[],[1],[2],[3],[0,4]] [5] 50 #[.bool false,.slice none 0 0,.int .i64 0] W3 _ [isV (.agg #[.bool s3,.slice ao3 n3 cp3,.int .i64 e3]),isV (.float .f64 f),isV (.float .f64 fu),isP (tu),isP (tv),isP (th)] (by kernel_rfl) ⟨isV_stays _,isV_stays _,isV_stays _,isP_stays _,isP_stays _,isP_stays _,trivial⟩ ⟨fun _ _ _ _ _ h=>h,fun _ _ _ _ _ h=>h,fun _ _ _ _ _ h=>h,isP_rows8 _,isP_rows8 _,isP_rows8 _,trivial⟩ (by show ∀ s ∈ [22,23,24,25,26,27] ++ [8],s<65;decide) ?_ ?_ ?_ zeroN8 Tryz.info50 ?_ ?_
  ·intro k' hk U u h
   obtain rfl:k'=0:=Nat.lt_one_iff.1 hk
   obtain⟨ao,cap,rfl,-⟩:=(show PN U u (th)from h)
   exact⟨_,rfl,rfl,one3 rfl rfl⟩
  ·intro j hj o ho act U hb hoth hdep
   have hj':j<6:=hj
   have hbU:Bw w U:=hBW.trans (hb.mono hBW.size)
   have t0':act.tmps[(0:Nat)]?=some (Value.float .f64 f):=(hoth 0 (by decide)).trans rfl
   have t6':act.tmps[(6:Nat)]?=some (Value.pointer (some ⟨gqA,0,none⟩)):=(hoth 6 (by decide)).trans rfl
   have d6:=(cells3N (box_later m1.1 hb (lt_of_box m1.1))).1
   rcases(by omega:j=0∨j=1∨j=2∨j=3∨j=4∨j=5)with rfl|rfl|rfl|rfl|rfl|rfl
   ·obtain rfl:=Option.some.inj ho
    exact .inl ⟨rfl,owp_ldP (f:=0) rfl t6' d6.1 d6.2.1 d6.2.2 ⟨_,rfl,rfl,Below.refl _ _⟩⟩
   ·obtain rfl:=Option.some.inj ho
    exact .inl ⟨rfl,owp_move rfl t0' ⟨_,rfl,rfl,Below.refl _ _⟩⟩
   ·obtain rfl:=Option.some.inj ho
    have y1:act.tmps[(23:Nat)]?=_:=dV (hdep 1 (by simp[dL])) rfl
    refine .inl ⟨rfl,owp_call rfl (enters Tryz.func202 (by kernel_rfl) (by kernel_rfl)) (map1t8 y1) ?_⟩
    refine(k6.out U).mono ?_
    rintro r w' ⟨rfl,hb'⟩
    exact⟨_,rfl,_,rfl,rfl,hb'⟩
   ·obtain rfl:=Option.some.inj ho
    have y2:act.tmps[(24:Nat)]?=_:=dV (hdep 2 (by simp[dL])) rfl
    refine .inl ⟨rfl,owp_call rfl (enters Tryz.func32 (by kernel_rfl) (by kernel_rfl)) (map1t8 y2) ?_⟩
    refine(k7.out U hbU).mono ?_
    rintro r w' ⟨_,_,_,_,_,rfl,hA,hb'⟩
    exact⟨_,rfl,_,rfl,hA,hb'⟩
   ·obtain rfl:=Option.some.inj ho
    obtain⟨u3,y3a,v3⟩:=hdep 3 (by simp[dL])
    have y3:act.tmps[(25:Nat)]?=_:=y3a
    refine .inl ⟨rfl,owp_call rfl (enters Tryz.func140 (by kernel_rfl) (by kernel_rfl)) (map2k y3) ?_⟩
    refine(k8.out U _ hbU v3).mono ?_
    rintro r w' ⟨_,_,_,_,_,rfl,hA,hb'⟩
    exact⟨_,rfl,_,rfl,hA,hb'⟩
   ·obtain rfl:=Option.some.inj ho
    have y0:act.tmps[(22:Nat)]?=_:=dV (hdep 0 (by simp[dL])) rfl
    obtain⟨u4,y4a,v4⟩:=hdep 4 (by simp[dL])
    have y4:act.tmps[(26:Nat)]?=_:=y4a
    refine .inl ⟨rfl,owp_call rfl (enters Tryz.func98 (by kernel_rfl) (by kernel_rfl)) (map2 y0 y4) ?_⟩
    refine(k9.out U _ _ hbU (m1.2.later hb) v4).mono ?_
    rintro r w' ⟨_,_,_,_,_,rfl,hA,hb'⟩
    exact⟨_,rfl,_,rfl,hA,hb'⟩
  ·intro k' hk
   obtain rfl:k'=0:=Nat.lt_one_iff.1 hk
   exact⟨_,rfl,rfl⟩
  ·intro k' hk
   obtain rfl:k'=0:=Nat.lt_one_iff.1 hk
   exact⟨_,rfl,rfl⟩
  ·intro u g W4 hb3 hu hg hap
   obtain⟨g0,cs0,q0,z0⟩:=hg 0 (by decide)
   have q7:PN W4 (u 5) (th):=hu 5 (by decide)
   have q0':u 5=.agg cs0:=q0
   rw[q0'] at q7
   obtain⟨s5,ao5,n5,cp5,e5,h5⟩:=q7.shape1
   obtain rfl:=Value.agg.inj h5
   obtain⟨gqH,hgS⟩:∃ x,x=g 0:=⟨_,rfl⟩
   rw[←hgS] at z0 g0
   have H4:Hid ((W4.heap[w.heap.size]?=some (.cells #[.bool s1,.slice ao1 n1 cp1,.int .i64 e1,.bool s2,.slice ao2 n2 cp2,.int .i64 e2] 104 (0,0))∧PN W4 (.agg #[.bool s1,.slice ao1 n1 cp1,.int .i64 e1]) t1∧PN W4 (.agg #[.bool s2,.slice ao2 n2 cp2,.int .i64 e2]) t2∧Bw w W4)∧PBx W4 gqL s4 ao4 n4 cp4 e4 tl∧PBx W4 gqH s5 ao5 n5 cp5 e5 th):=⟨⟨box_later mS.1 hb3 (lt_of_box mS.1),mS.2.1.later hb3,mS.2.2.1.later hb3,mS.2.2.2.trans (hb3.mono mS.2.2.2.size)⟩,m2.later hb3,⟨z0,q7⟩⟩
   clear hu hg hap hb3 m1 m2 mS hBW H3 q0 q0' z0 g0 q7 h5 k6 k7 k8 k9
   simp only[putL,show List.range 6 = [0,1,2,3,4,5] from rfl,show List.range 1 = [0] from rfl,List.length_cons,List.length_nil,List.getD_cons_zero,List.getD_cons_succ,List.map_cons,List.map_nil,List.cons_append,List.nil_append,List.foldl_cons,List.foldl_nil,Nat.reduceLT,Nat.reduceMod,Nat.reduceDiv,Nat.reduceMul,Nat.reduceAdd,Nat.reduceEqDiff,reduceIte,Nat.one_ne_zero,Act.put,List.setIfInBounds_toArray,List.set_cons_zero,List.set_cons_succ]
   rw[←hgS]
   clear hgS
   obtain⟨c0,c1,c2,c3,c4,c5⟩:=(cells6F H4.out.1.1).1
   obtain⟨d0,d1,d2⟩:=(cells3N H4.out.2.1.1).1
   have kk:=kA.out W4 _ H4.out.1.2.2.2 H4.out.1.2.1 H4.out.1.2.2.1 H4.out.2.1.2
   clear kA
   go_wp2_with fail
   refine kk.mono ?_
   rintro r w5 ⟨s6,ao6,n6,cp6,e6,rfl,hA,hb5⟩
   clear kk c0 c1 c2 c3 c4 c5 d0 d1 d2
   obtain⟨W5,hW5⟩:∃ W5,W5=w5.alloc (.cells #[.bool s6,.slice ao6 n6 cp6,.int .i64 e6] 50):=⟨_,rfl⟩
   have hbV:Bw w5 W5:=by rw[hW5];exact(Below.refl _ _).alloc (Nat.le_refl _) _
   have n6:W5.heap[w5.heap.size]?=some (.cells #[.bool s6,.slice ao6 n6 cp6,.int .i64 e6] 50 (0,0)):=by rw[hW5];exact heap_alloc_new _ _
   have hb45:Bw W4 W5:=hb5.trans (hbV.mono hb5.size)
   go_upto_region 5 with fail
   rw[←hW5]
   clear hW5
   have hA':=hA.later hbV
   clear hbV hA hb5
   generalize w5.heap.size=gqN at *
   have H5:Hid ((W5.heap[w.heap.size]?=some (.cells #[.bool s1,.slice ao1 n1 cp1,.int .i64 e1,.bool s2,.slice ao2 n2 cp2,.int .i64 e2] 104 (0,0))∧PN W5 (.agg #[.bool s1,.slice ao1 n1 cp1,.int .i64 e1]) t1∧PN W5 (.agg #[.bool s2,.slice ao2 n2 cp2,.int .i64 e2]) t2∧Bw w W5)∧PBx W5 gqL s4 ao4 n4 cp4 e4 tl∧PBx W5 gqH s5 ao5 n5 cp5 e5 th):=⟨⟨box_later H4.out.1.1 hb45 (lt_of_box H4.out.1.1),H4.out.1.2.1.later hb45,H4.out.1.2.2.1.later hb45,H4.out.1.2.2.2.trans (hb45.mono H4.out.1.2.2.2.size)⟩,H4.out.2.1.later hb45,H4.out.2.2.later hb45⟩
   obtain⟨⟨d0,d1,d2⟩,-⟩:=box_cells n6
   have kk:=kB.out W5 _ H5.out.1.2.2.2 hA'
   clear kB H4 hb45 n6 hA'
   go_wp2_with fail
   refine kk.mono ?_
   rintro r w6 ⟨rfl,hb6⟩
   have H6:Hid ((w6.heap[w.heap.size]?=some (.cells #[.bool s1,.slice ao1 n1 cp1,.int .i64 e1,.bool s2,.slice ao2 n2 cp2,.int .i64 e2] 104 (0,0))∧PN w6 (.agg #[.bool s1,.slice ao1 n1 cp1,.int .i64 e1]) t1∧PN w6 (.agg #[.bool s2,.slice ao2 n2 cp2,.int .i64 e2]) t2∧Bw w w6)∧PBx w6 gqL s4 ao4 n4 cp4 e4 tl∧PBx w6 gqH s5 ao5 n5 cp5 e5 th):=⟨⟨box_later H5.out.1.1 hb6 (lt_of_box H5.out.1.1),H5.out.1.2.1.later hb6,H5.out.1.2.2.1.later hb6,H5.out.1.2.2.2.trans (hb6.mono H5.out.1.2.2.2.size)⟩,H5.out.2.1.later hb6,H5.out.2.2.later hb6⟩
   clear kk d0 d1 d2 hb6 H5
   have hwN:IntKind.u64.wrap ((N:Int)+1)=(N:Int)+1:=by rw[IntKind.wrap_u64];omega
   go_upto_region 6 with fail
   go_cut [43] from 34 to 42 (fun v wx=>v=.bool (!(b1&&r1))∧Hid ((wx.heap[w.heap.size]?=some (.cells #[.bool s1,.slice ao1 n1 cp1,.int .i64 e1,.bool s2,.slice ao2 n2 cp2,.int .i64 e2] 104 (0,0))∧PN wx (.agg #[.bool s1,.slice ao1 n1 cp1,.int .i64 e1]) t1∧PN wx (.agg #[.bool s2,.slice ao2 n2 cp2,.int .i64 e2]) t2∧Bw w wx)∧PBx wx gqL s4 ao4 n4 cp4 e4 tl∧PBx wx gqH s5 ao5 n5 cp5 e5 th))
   case first =>
    cases b1
    ·clear kC
     go_wp2
     go_meet
     exact⟨rfl,H6⟩
    ·have kk:=kC.out rfl w6 _ H6.out.1.2.2.2 H6.out.2.1.2
     obtain⟨⟨d0,d1,d2⟩,-⟩:=box_cells H6.out.2.1.1
     clear kC
     go_wp2_with fail
     refine kk.mono ?_
     rintro r w7 ⟨rfl,hb7⟩
     have H7:Hid ((w7.heap[w.heap.size]?=some (.cells #[.bool s1,.slice ao1 n1 cp1,.int .i64 e1,.bool s2,.slice ao2 n2 cp2,.int .i64 e2] 104 (0,0))∧PN w7 (.agg #[.bool s1,.slice ao1 n1 cp1,.int .i64 e1]) t1∧PN w7 (.agg #[.bool s2,.slice ao2 n2 cp2,.int .i64 e2]) t2∧Bw w w7)∧PBx w7 gqL s4 ao4 n4 cp4 e4 tl∧PBx w7 gqH s5 ao5 n5 cp5 e5 th):=⟨⟨box_later H6.out.1.1 hb7 (lt_of_box H6.out.1.1),H6.out.1.2.1.later hb7,H6.out.1.2.2.1.later hb7,H6.out.1.2.2.2.trans (hb7.mono H6.out.1.2.2.2.size)⟩,H6.out.2.1.later hb7,H6.out.2.2.later hb7⟩
     clear kk d0 d1 d2 hb7 H6
     go_wp2
     go_meet
     exact⟨rfl,H7⟩
   case rest =>
   obtain⟨rfl,H8⟩:=hcut
   clear H6 kC
   go_upto_if 43 with fail
   go_cut [11] from 34 to 45 (fun v wx=>v=.int .u64 (LS:Nat)∧Hid ((wx.heap[w.heap.size]?=some (.cells #[.bool s1,.slice ao1 n1 cp1,.int .i64 e1,.bool s2,.slice ao2 n2 cp2,.int .i64 e2] 104 (0,0))∧PN wx (.agg #[.bool s1,.slice ao1 n1 cp1,.int .i64 e1]) t1∧PN wx (.agg #[.bool s2,.slice ao2 n2 cp2,.int .i64 e2]) t2∧Bw w wx)∧PBx wx gqL s4 ao4 n4 cp4 e4 tl∧PBx wx gqH s5 ao5 n5 cp5 e5 th))
   case first =>
    cases hc:b1&&r1
    ·go_wp2
     go_meet
     exact⟨by rw[hLS.out,hc];simp,H8⟩
    ·go_wp2
     go_meet
     exact⟨by rw[hLS.out,hc];simp,H8⟩
   case rest =>
   obtain⟨rfl,H7⟩:=hcut
   clear H8 hwN
   obtain⟨c0,c1,c2,c3,c4,c5⟩:=(cells6F H7.out.1.1).1
   obtain⟨d0,d1,d2⟩:=(cells3N H7.out.2.2.1).1
   have kk:=kD.out _ _ H7.out.1.2.2.2 H7.out.1.2.1 H7.out.1.2.2.1 H7.out.2.2.2
   clear kD
   go_wp2_with fail
   refine kk.mono ?_
   rintro r w8 ⟨s6,ao6,n6,cp6,e6,rfl,hA,hb8⟩
   clear kk c0 c1 c2 c3 c4 c5 d0 d1 d2
   obtain⟨W8,hW8⟩:∃ W8,W8=w8.alloc (.cells #[.bool s6,.slice ao6 n6 cp6,.int .i64 e6] 50):=⟨_,rfl⟩
   have hbV:Bw w8 W8:=by rw[hW8];exact(Below.refl _ _).alloc (Nat.le_refl _) _
   have n6:W8.heap[w8.heap.size]?=some (.cells #[.bool s6,.slice ao6 n6 cp6,.int .i64 e6] 50 (0,0)):=by rw[hW8];exact heap_alloc_new _ _
   have hb78:=hb8.trans (hbV.mono hb8.size)
   go_upto_region 9 with fail
   rw[←hW8]
   clear hW8
   have hA':=hA.later hbV
   clear hbV hA hb8
   generalize w8.heap.size=gqM at *
   have H8:Hid ((W8.heap[w.heap.size]?=some (.cells #[.bool s1,.slice ao1 n1 cp1,.int .i64 e1,.bool s2,.slice ao2 n2 cp2,.int .i64 e2] 104 (0,0))∧PN W8 (.agg #[.bool s1,.slice ao1 n1 cp1,.int .i64 e1]) t1∧PN W8 (.agg #[.bool s2,.slice ao2 n2 cp2,.int .i64 e2]) t2∧Bw w W8)∧PBx W8 gqH s5 ao5 n5 cp5 e5 th):=⟨⟨box_later H7.out.1.1 hb78 (lt_of_box H7.out.1.1),H7.out.1.2.1.later hb78,H7.out.1.2.2.1.later hb78,H7.out.1.2.2.2.trans (hb78.mono H7.out.1.2.2.2.size)⟩,H7.out.2.2.later hb78⟩
   obtain⟨⟨d0,d1,d2⟩,-⟩:=box_cells n6
   have kk:=kE.out W8 _ H8.out.1.2.2.2 hA'
   clear kE H7 hb78 n6 hA'
   go_wp2_with fail
   refine kk.mono ?_
   rintro r w9 ⟨rfl,hb9⟩
   have H9:Hid ((w9.heap[w.heap.size]?=some (.cells #[.bool s1,.slice ao1 n1 cp1,.int .i64 e1,.bool s2,.slice ao2 n2 cp2,.int .i64 e2] 104 (0,0))∧PN w9 (.agg #[.bool s1,.slice ao1 n1 cp1,.int .i64 e1]) t1∧PN w9 (.agg #[.bool s2,.slice ao2 n2 cp2,.int .i64 e2]) t2∧Bw w w9)∧PBx w9 gqH s5 ao5 n5 cp5 e5 th):=⟨⟨box_later H8.out.1.1 hb9 (lt_of_box H8.out.1.1),H8.out.1.2.1.later hb9,H8.out.1.2.2.1.later hb9,H8.out.1.2.2.2.trans (hb9.mono H8.out.1.2.2.2.size)⟩,H8.out.2.later hb9⟩
   clear kk d0 d1 d2 hb9 H8
   have hwM:IntKind.u64.wrap ((M:Int) - 1)=((M - 1:Nat):Int):=by have:=hM0.out;rw[IntKind.wrap_u64];omega
   go_upto_region 10 with fail
   cases b2
   ·clear kF
    go_wp2
    refine bodyPost_ret (results_tmp2 rfl _ _ _) rfl ?_
    exact⟨by rw[hMS.out];simp,H9.out.1.2.2.2⟩
   ·have kk:=kF.out rfl w9 _ H9.out.1.2.2.2 H9.out.2.2
    obtain⟨⟨d0,d1,d2⟩,-⟩:=box_cells H9.out.2.1
    clear kF
    go_wp2_with fail
    refine kk.mono ?_
    rintro r wA ⟨rfl,hbA⟩
    have HA:Hid (Bw w wA):=H9.out.1.2.2.2.trans (hbA.mono H9.out.1.2.2.2.size)
    clear kk d0 d1 d2 hbA H9
    cases r2
    ·go_wp2
     refine bodyPost_ret (results_tmp2 rfl _ _ _) rfl ?_
     exact⟨by rw[hMS.out];simp,HA.out⟩
    ·go_wp2
     refine bodyPost_ret (results_tmp2 rfl _ _ _) rfl ?_
     exact⟨by rw[hMS.out];simp,HA.out⟩
def fwU (j:Nat):Nat:=10^(16 - j)
def fwL (t j:Nat):Nat:=t / 2 / fwU j*fwU j
theorem fwU_pos (j:Nat):0<fwU j:=Nat.pow_pos (by decide)
theorem fwU_le (j:Nat):fwU j≤10000000000000000:=Nat.le_trans (Nat.pow_le_pow_right (by decide) (Nat.sub_le 16 j)) (by decide)
theorem fwU_next {j:Nat} (h:1<fwU j):fwU j / 10=fwU (j+1)∧j<16:=by
 have hj:j<16:=by
  rcases Nat.lt_or_ge j 16 with h1|h1
  ·exact h1
  ·have:fwU j=1:=by unfold fwU;rw[Nat.sub_eq_zero_of_le h1]
   omega
 refine⟨?_,hj⟩
 unfold fwU
 rw[show 16 - j=(16 - (j+1))+1 by omega,Nat.pow_succ,Nat.mul_div_cancel _ (by decide)]
theorem fwL_le (t j:Nat):fwL t j≤t / 2:=Nat.div_mul_le_self _ _
theorem tdivN (a b:Nat):Int.tdiv (a:Int) (b:Int)=((a / b:Nat):Int):=by simp
theorem Dfewest_1 (f:Nat) (s1:Bool) (ao1:Option Addr) (n1 cp1:Nat) (e1:Int) (s2:Bool) (ao2:Option Addr) (n2 cp2:Nat) (e2:Int) (s3:Bool) (ao3:Option Addr) (n3 cp3:Nat) (e3:Int) (t1 t2 ta td tn tp:Bool×Nat×Int) (is ab:Bool) (LS MS TW J F:Nat) (w:World) (h1:PN w (.agg #[.bool s1,.slice ao1 n1 cp1,.int .i64 e1]) t1) (h2:PN w (.agg #[.bool s2,.slice ao2 n2 cp2,.int .i64 e2]) t2) (h3:PN w (.agg #[.bool s3,.slice ao3 n3 cp3,.int .i64 e3]) ta) (hLS:LS<4611686018427387904) (hMS:MS<4611686018427387904) (hTW:TW<4611686018427387904)
  (hJ1:Hid (∀ j,j<J→1<fwU j∧fwL TW j<LS∧MS<fwL TW j+fwU j)) (hJ2:Hid (¬ (1<fwU J∧fwL TW J<LS∧MS<fwL TW J+fwU J)))
  (hab:Hid (ab=(decide (fwU J<TW - 2*fwL TW J)||(decide (TW - 2*fwL TW J=fwU J)&&(!is||decide (fwL TW J / fwU J % 2=1))))))
  (hF:Hid (F=if fwL TW J<LS∨(ab=true∧fwL TW J+fwU J≤MS)then fwL TW J+fwU J else fwL TW J))
  (k1:Hid (∀ W,Bw w W→PN W (.agg #[.bool s1,.slice ao1 n1 cp1,.int .i64 e1]) t1→PN W (.agg #[.bool s2,.slice ao2 n2 cp2,.int .i64 e2]) t2→Calls Tryz.prog 139 #[.float .f64 f,.agg #[.bool s1,.slice ao1 n1 cp1,.int .i64 e1,.bool s2,.slice ao2 n2 cp2,.int .i64 e2]] W fun r w'=>r=.returned (.tuple #[.int .u64 (LS:Nat),.int .u64 (MS:Nat)])∧Bw W w'))
  (k2:Hid (∀ W X,Bw w W→PN W X ta→Calls Tryz.prog 140 #[X,.int .i64 1] W fun r w'=>OutA W td r w'))
  (k3:Hid (∀ W X,Bw w W→PN W (.agg #[.bool s1,.slice ao1 n1 cp1,.int .i64 e1]) t1→PN W (.agg #[.bool s2,.slice ao2 n2 cp2,.int .i64 e2]) t2→PN W X td→Calls Tryz.prog 96 #[.agg #[.bool s1,.slice ao1 n1 cp1,.int .i64 e1,.bool s2,.slice ao2 n2 cp2,.int .i64 e2],X] W fun r w'=>OutFl W tn is r w'))
  (k4:Hid (∀ W X,Bw w W→PN W X tn→Calls Tryz.prog 92 #[X] W fun r w'=>r=.returned (.int .u64 (TW:Nat))∧Bw W w'))
  (k5:Hid (∀ W,Bw w W→Calls Tryz.prog 88 #[.int .i64 10,.int .i64 16] W fun r w'=>OutA W tp r w'))
  (k6:Hid (∀ W X,Bw w W→PN W X tp→Calls Tryz.prog 92 #[X] W fun r w'=>r=.returned (.int .u64 (fwU 0:Nat))∧Bw W w')) :
  Calls Tryz.prog 76 #[.float .f64 f,.agg #[.bool s3,.slice ao3 n3 cp3,.int .i64 e3],.agg #[.bool s1,.slice ao1 n1 cp1,.int .i64 e1,.bool s2,.slice ao2 n2 cp2,.int .i64 e2]] w fun r w'=>r=.returned (.int .u64 (F:Nat))∧Bw w w':=by
 obtain⟨W,hW⟩:∃ W,W=(w.alloc (.cells #[.bool s3,.slice ao3 n3 cp3,.int .i64 e3] 50)).alloc (.cells #[.bool s1,.slice ao1 n1 cp1,.int .i64 e1,.bool s2,.slice ao2 n2 cp2,.int .i64 e2] 104):=⟨_,rfl⟩
 obtain⟨z1,z2,z3,z4⟩:=two_new _ _ hW
 have H0:Hid (W.heap[w.heap.size+1]?=some (.cells #[.bool s1,.slice ao1 n1 cp1,.int .i64 e1,.bool s2,.slice ao2 n2 cp2,.int .i64 e2] 104 (0,0))∧PN W (.agg #[.bool s1,.slice ao1 n1 cp1,.int .i64 e1]) t1∧PN W (.agg #[.bool s2,.slice ao2 n2 cp2,.int .i64 e2]) t2∧Bw w W∧PBx W w.heap.size s3 ao3 n3 cp3 e3 ta):=⟨z2,h1.later z4,h2.later z4,z4,⟨z1,h3.later z4⟩⟩
 have kk:=k1.out W z4 (h1.later z4) (h2.later z4)
 obtain⟨c0,c1,c2,c3,c4,c5⟩:=(cells6F z2).1
 clear k1 h1 h2 h3 z1 z2 z3 z4
 go_enter Tryz.func76,Tryz.ntmps76
 go_upto_region 1 with fail
 rw[←hW]
 clear hW
 go_wp2_with fail
 refine kk.mono ?_
 rintro r w1 ⟨rfl,hb1⟩
 have H1:Hid (w1.heap[w.heap.size+1]?=some (.cells #[.bool s1,.slice ao1 n1 cp1,.int .i64 e1,.bool s2,.slice ao2 n2 cp2,.int .i64 e2] 104 (0,0))∧PN w1 (.agg #[.bool s1,.slice ao1 n1 cp1,.int .i64 e1]) t1∧PN w1 (.agg #[.bool s2,.slice ao2 n2 cp2,.int .i64 e2]) t2∧Bw w w1∧PBx w1 w.heap.size s3 ao3 n3 cp3 e3 ta):=⟨box_later H0.out.1 hb1 (lt_of_box H0.out.1),H0.out.2.1.later hb1,H0.out.2.2.1.later hb1,H0.out.2.2.2.1.trans (hb1.mono H0.out.2.2.2.1.size),H0.out.2.2.2.2.later hb1⟩
 clear kk hb1 H0 c0 c1 c2 c3 c4 c5
 go_upto_region 2 with fail
 obtain⟨mS,p1,p2,hBW,m1⟩:=H1.out
 refine x_region follows_mixed [0,1,2,3,4,5,6,9] [7] [8] [23,24,25,26,22,27,28,10] [9] [[],[],[1],[0,2],[3],[4],[4],[6]] [5] 50 #[.bool false,.slice none 0 0,.int .i64 0] w1 _ [isV (.agg #[.bool s1,.slice ao1 n1 cp1,.int .i64 e1,.bool s2,.slice ao2 n2 cp2,.int .i64 e2]),isV (.agg #[.bool s3,.slice ao3 n3 cp3,.int .i64 e3]),isP (td),isW2 tn is,isW2 tn is,isP (tn),isV (.bool is),isV (.bool is)] (by kernel_rfl) ⟨isV_stays _,isV_stays _,isP_stays _,isW2_stays _ _,isW2_stays _ _,isP_stays _,isV_stays _,isV_stays _,trivial⟩ ⟨fun _ _ _ _ _ h=>h,fun _ _ _ _ _ h=>h,isP_rows8 _,isW2_rows _ _,isW2_rows _ _,isP_rows8 _,fun _ _ _ _ _ h=>h,fun _ _ _ _ _ h=>h,trivial⟩ (by show ∀ s ∈ [23,24,25,26,22,27,28,10] ++ [9],s<101;decide) ?_ ?_ ?_ zeroN8 Tryz.info50 ?_ ?_
 ·intro k' hk U u h
  obtain rfl:k'=0:=Nat.lt_one_iff.1 hk
  obtain⟨ao,cap,rfl,-⟩:=(show PN U u (tn)from h)
  exact⟨_,rfl,rfl,one3 rfl rfl⟩
 ·intro j hj o ho act U hb hoth hdep
  have hj':j<8:=hj
  have hbU:Bw w U:=hBW.trans (hb.mono hBW.size)
  have t4':act.tmps[(4:Nat)]?=some (Value.pointer (some ⟨w.heap.size,0,none⟩)):=(hoth 4 (by decide)).trans rfl
  have t5':act.tmps[(5:Nat)]?=some (Value.pointer (some ⟨w.heap.size+1,0,none⟩)):=(hoth 5 (by decide)).trans rfl
  have d4:=(cells3N (box_later m1.1 hb (lt_of_box m1.1))).1
  have d5:=(cells6F (box_later mS hb (lt_of_box mS))).1
  rcases(by omega:j=0∨j=1∨j=2∨j=3∨j=4∨j=5∨j=6∨j=7)with rfl|rfl|rfl|rfl|rfl|rfl|rfl|rfl
  ·obtain rfl:=Option.some.inj ho
   exact .inl ⟨rfl,owp_ldS rfl t5' (by simp[go_sem,d5.1,d5.2.1,d5.2.2.1,d5.2.2.2.1,d5.2.2.2.2.1,d5.2.2.2.2.2]) ⟨_,rfl,rfl,Below.refl _ _⟩⟩
  ·obtain rfl:=Option.some.inj ho
   exact .inl ⟨rfl,owp_ldP (f:=0) rfl t4' d4.1 d4.2.1 d4.2.2 ⟨_,rfl,rfl,Below.refl _ _⟩⟩
  ·obtain rfl:=Option.some.inj ho
   have y1:act.tmps[(24:Nat)]?=_:=dV (hdep 1 (by simp[dL])) rfl
   refine .inl ⟨rfl,owp_call rfl (enters Tryz.func140 (by kernel_rfl) (by kernel_rfl)) (map2k y1) ?_⟩
   refine(k2.out U _ hbU (m1.2.later hb)).mono ?_
   rintro r w' ⟨_,_,_,_,_,rfl,hA,hb'⟩
   exact⟨_,rfl,_,rfl,hA,hb'⟩
  ·obtain rfl:=Option.some.inj ho
   have y0:act.tmps[(23:Nat)]?=_:=dV (hdep 0 (by simp[dL])) rfl
   obtain⟨u2,y2a,v2⟩:=hdep 2 (by simp[dL])
   have y2:act.tmps[(25:Nat)]?=_:=y2a
   refine .inl ⟨rfl,owp_call rfl (enters Tryz.func96 (by kernel_rfl) (by kernel_rfl)) (map2 y0 y2) ?_⟩
   refine(k3.out U _ hbU (p1.later hb) (p2.later hb) v2).mono ?_
   rintro r w' ⟨_,_,_,_,_,rfl,hA,hb'⟩
   exact⟨_,rfl,_,rfl,⟨_,rfl,hA⟩,hb'⟩
  ·obtain rfl:=Option.some.inj ho
   obtain⟨u3,y3a,v3⟩:=hdep 3 (by simp[dL])
   have y3:act.tmps[(26:Nat)]?=_:=y3a
   exact .inl ⟨rfl,owp_move rfl y3 ⟨_,rfl,v3,Below.refl _ _⟩⟩
  ·obtain rfl:=Option.some.inj ho
   obtain⟨u4,y4a,A,rfl,vA⟩:=hdep 4 (by simp[dL])
   have y4:act.tmps[(22:Nat)]?=_:=y4a
   exact .inl ⟨rfl,owp_extS rfl y4 rfl ⟨_,rfl,vA,Below.refl _ _⟩⟩
  ·obtain rfl:=Option.some.inj ho
   obtain⟨u4,y4a,A,rfl,vA⟩:=hdep 4 (by simp[dL])
   have y4:act.tmps[(22:Nat)]?=_:=y4a
   exact .inl ⟨rfl,owp_extS rfl y4 rfl ⟨_,rfl,rfl,Below.refl _ _⟩⟩
  ·obtain rfl:=Option.some.inj ho
   have y6:act.tmps[(28:Nat)]?=_:=dV (hdep 6 (by simp[dL])) rfl
   exact .inl ⟨rfl,owp_assign rfl y6 ⟨_,rfl,rfl,Below.refl _ _⟩⟩
 ·intro k' hk
  obtain rfl:k'=0:=Nat.lt_one_iff.1 hk
  exact⟨_,rfl,rfl⟩
 ·intro k' hk
  obtain rfl:k'=0:=Nat.lt_one_iff.1 hk
  exact⟨_,rfl,rfl⟩
 ·intro u g W3 hb3 hu hg hap
  obtain⟨g0,cs0,q0,z0⟩:=hg 0 (by decide)
  have q7:PN W3 (u 5) (tn):=hu 5 (by decide)
  have q0':u 5=.agg cs0:=q0
  rw[q0'] at q7
  obtain⟨s5,ao5,n5,cp5,e5,h5⟩:=q7.shape1
  obtain rfl:=Value.agg.inj h5
  obtain⟨gqN,hgS⟩:∃ x,x=g 0:=⟨_,rfl⟩
  rw[←hgS] at z0 g0
  have u7:u 7=.bool is:=hu 7 (by decide)
  have H3:Hid (Bw w W3∧PBx W3 gqN s5 ao5 n5 cp5 e5 tn):=⟨hBW.trans (hb3.mono hBW.size),⟨z0,q7⟩⟩
  clear hu hg hap hb3 m1 mS p1 p2 hBW H1 q0 q0' z0 g0 q7 h5 k2 k3
  simp only[putL,show List.range 8 = [0,1,2,3,4,5,6,7] from rfl,show List.range 1 = [0] from rfl,List.length_cons,List.length_nil,List.getD_cons_zero,List.getD_cons_succ,List.map_cons,List.map_nil,List.cons_append,List.nil_append,List.foldl_cons,List.foldl_nil,Nat.reduceLT,Nat.reduceMod,Nat.reduceDiv,Nat.reduceMul,Nat.reduceAdd,Nat.reduceEqDiff,reduceIte,Nat.one_ne_zero,Act.put,List.setIfInBounds_toArray,List.set_cons_zero,List.set_cons_succ]
  rw[←hgS]
  clear hgS
  rw[u7]
  clear u7
  obtain⟨⟨d0,d1,d2⟩,-⟩:=box_cells H3.out.2.1
  have kk:=k4.out W3 _ H3.out.1 H3.out.2.2
  clear k4
  go_wp2_with fail
  refine kk.mono ?_
  rintro r w4 ⟨rfl,hb4⟩
  have H4:Hid (Bw w w4):=H3.out.1.trans (hb4.mono H3.out.1.size)
  have kk2:=k5.out w4 H4.out
  clear kk d0 d1 d2 hb4 H3 k5
  go_wp2_with fail
  refine kk2.mono ?_
  rintro r w5 ⟨s6,ao6,n6,cp6,e6,rfl,hA,hb5⟩
  have H5:Hid (Bw w w5):=H4.out.trans (hb5.mono H4.out.size)
  have kk3:=k6.out w5 _ H5.out hA
  clear kk2 hb5 H4 k6 hA
  go_wp2_with fail
  refine kk3.mono ?_
  rintro r w6 ⟨rfl,hb6⟩
  have H6:Hid (Bw w w6):=H5.out.trans (hb6.mono H5.out.size)
  clear kk3 hb6 H5
  go_upto_region 5 with fail
  obtain⟨U,hU⟩:∃ U,U=fwU 0:=⟨_,rfl⟩
  have HU:Hid (U=fwU 0∧0<U∧U≤10000000000000000):=⟨hU,by rw[hU];exact fwU_pos 0,by rw[hU];exact fwU_le 0⟩
  rw[←hU]
  clear hU
  have hU0:0<U:=HU.out.2.1
  have hUn:((U:Int)==0)=false:=by rw[beq_eq_false_iff_ne];omega
  obtain⟨T2,hT2⟩:∃ T2,T2=TW / 2:=⟨_,rfl⟩
  have HT2:Hid (T2=TW / 2):=hT2
  obtain⟨q,hq⟩:∃ q,q=T2 / U:=⟨_,rfl⟩
  obtain⟨l0,hl⟩:∃ l0,l0=q*U:=⟨_,rfl⟩
  have Hl0:Hid (l0=fwL TW 0):=(by rw[hl,hq,hT2,HU.out.1];rfl:l0=fwL TW 0)
  have b1:l0≤T2:=by rw[hl,hq];exact Nat.div_mul_le_self _ _
  have b2:q≤T2:=by rw[hq];exact Nat.div_le_self _ _
  have b3:T2<4611686018427387904:=by omega
  have e1:Int.tdiv (TW:Int) 2=(T2:Int):=by rw[hT2];exact tdivN _ _
  have e2:Int.tdiv (T2:Int) (U:Int)=(q:Int):=by rw[hq];exact tdivN _ _
  have e3:(q:Int)*(U:Int)=(l0:Int):=by rw[hl];exact(Int.natCast_mul _ _).symm
  have w1:IntKind.u64.wrap (T2:Int)=(T2:Int):=by rw[IntKind.wrap_u64];omega
  have w2:IntKind.u64.wrap (q:Int)=(q:Int):=by rw[IntKind.wrap_u64];omega
  have w3:IntKind.u64.wrap (l0:Int)=(l0:Int):=by rw[IntKind.wrap_u64];omega
  clear hT2 hq hl
  go_wp2
  clear e1 e2 e3 w1 w2 w3 b1 b2 hU0 hUn
  go_loopg [12,13] J (fun m u l wr=>∃ j:Nat,j+m=J∧u=.int .u64 (fwU j:Nat)∧l=.int .u64 (fwL TW j:Nat)∧wr=w6)
  case atStart=>exact⟨0,by omega,by rw[HU.out.1],by rw[Hl0.out],rfl⟩
  case round =>
   obtain⟨j,hjm,rfl,rfl,hwr⟩:=hrel
   replace hwr:=hwr.symm
   subst hwr
   have HJM:Hid (j+gk=J):=hjm
   clear Hl0 HU hjm
   obtain⟨Uj,hUj⟩:∃ Uj,Uj=fwU j:=⟨_,rfl⟩
   obtain⟨Lj,hLj⟩:∃ Lj,Lj=fwL TW j:=⟨_,rfl⟩
   have HUL:Hid (Uj=fwU j∧Lj=fwL TW j∧Lj=T2 / Uj*Uj):=⟨hUj,hLj,by rw[hLj,hUj,HT2.out];rfl⟩
   have b0:0<Uj:=by rw[hUj];exact fwU_pos j
   have b1:Uj≤10000000000000000:=by rw[hUj];exact fwU_le j
   have b2:Lj≤T2:=by rw[HUL.out.2.2];exact Nat.div_mul_le_self _ _
   have b4:T2≤TW:=by rw[HT2.out];exact Nat.div_le_self _ _
   rw[←hUj,←hLj]
   clear hUj hLj
   have w0:IntKind.u64.wrap ((Lj:Int)+(Uj:Int))=(Lj:Int)+(Uj:Int):=by rw[IntKind.wrap_u64];omega
   by_cases hlt:j<J
   ·obtain⟨x1,x2,x3⟩:=hJ1.out j hlt
    rw[←HUL.out.1] at x1 x3
    rw[←HUL.out.2.1] at x2 x3
    obtain⟨n1',n2'⟩:=fwU_next (j:=j) (by rw[←HUL.out.1];exact x1)
    have c1:(1:Int)<(Uj:Int):=by omega
    have c2:(Lj:Int)<(LS:Int):=by omega
    have c3:(MS:Int)<(Lj:Int)+(Uj:Int):=by omega
    obtain⟨Uk,hUk⟩:∃ Uk,Uk=Uj / 10:=⟨_,rfl⟩
    have HK:Hid (Uk=fwU (j+1)):=(by rw[hUk,HUL.out.1];exact n1':Uk=fwU (j+1))
    have hk0:0<Uk:=by rw[HK.out];exact fwU_pos _
    have hkn:((Uk:Int)==0)=false:=by rw[beq_eq_false_iff_ne];omega
    obtain⟨q,hq⟩:∃ q,q=T2 / Uk:=⟨_,rfl⟩
    obtain⟨l0,hl⟩:∃ l0,l0=q*Uk:=⟨_,rfl⟩
    have Hl0:Hid (l0=fwL TW (j+1)):=(by rw[hl,hq,HT2.out,HK.out];rfl:l0=fwL TW (j+1))
    have d1:l0≤T2:=by rw[hl,hq];exact Nat.div_mul_le_self _ _
    have d2:q≤T2:=by rw[hq];exact Nat.div_le_self _ _
    have a0:Int.tdiv (Uj:Int) 10=(Uk:Int):=by rw[hUk];exact tdivN _ _
    have a1:Int.tdiv (TW:Int) 2=(T2:Int):=by rw[HT2.out];exact tdivN _ _
    have a2:Int.tdiv (T2:Int) (Uk:Int)=(q:Int):=by rw[hq];exact tdivN _ _
    have a3:(q:Int)*(Uk:Int)=(l0:Int):=by rw[hl];exact(Int.natCast_mul _ _).symm
    have w4:IntKind.u64.wrap (Uk:Int)=(Uk:Int):=by rw[IntKind.wrap_u64];omega
    have w1:IntKind.u64.wrap (T2:Int)=(T2:Int):=by rw[IntKind.wrap_u64];omega
    have w2:IntKind.u64.wrap (q:Int)=(q:Int):=by rw[IntKind.wrap_u64];omega
    have w3:IntKind.u64.wrap (l0:Int)=(l0:Int):=by rw[IntKind.wrap_u64];omega
    clear hq hl hUk x1 x2 x3 n1' n2'
    go_wp2
    go_roundg (gk - 1)
    case measure=>have:=HJM.out;omega
    case rel=>exact⟨j+1,by have:=HJM.out;omega,by rw[HK.out],by rw[Hl0.out],rfl⟩
   ·obtain rfl:j=J:=by have:=HJM.out;omega
    have hst:=hJ2.out
    rw[←HUL.out.1,←HUL.out.2.1] at hst
    go_upto_region 6 with fail
    go_cut [52] from 39 to 51 (fun v wx=>v=.bool false∧wx=w6)
    case first =>
     by_cases x1:1<Uj
     ·have c1:(1:Int)<(Uj:Int):=by omega
      by_cases x2:Lj<LS
      ·have c2:(Lj:Int)<(LS:Int):=by omega
       have c3:¬ (MS:Int)<(Lj:Int)+(Uj:Int):=fun h=>hst ⟨x1,x2,by omega⟩
       clear hst x1 x2
       go_wp2
       go_meet
       exact⟨rfl,rfl⟩
      ·have c2:¬ (Lj:Int)<(LS:Int):=by omega
       clear hst x1 x2
       go_wp2
       go_meet
       exact⟨rfl,rfl⟩
     ·have c1:¬ (1:Int)<(Uj:Int):=by omega
      clear hst x1
      go_wp2
      go_meet
      exact⟨rfl,rfl⟩
    case rest =>
    obtain⟨rfl,hwr⟩:=hcut
    replace hwr:=hwr.symm
    subst hwr
    clear hst hlt hJ1 hJ2
    have hab':=hab.out
    have hF':=hF.out
    rw[←HUL.out.1,←HUL.out.2.1] at hab' hF'
    obtain⟨Q,hQ⟩:∃ Q,Q=Lj / Uj:=⟨_,rfl⟩
    rw[←hQ] at hab'
    obtain⟨fr,hfr⟩:∃ fr,fr=TW - 2*Lj:=⟨_,rfl⟩
    rw[←hfr] at hab'
    have h2L:2*Lj≤TW:=by have:=HT2.out;omega
    obtain⟨D,hD⟩:∃ D,D=2*Lj:=⟨_,rfl⟩
    have v1:IntKind.u64.wrap (2*(Lj:Int))=(D:Int):=by rw[IntKind.wrap_u64];omega
    have v2:IntKind.u64.wrap ((TW:Int) - (D:Int))=(fr:Int):=by rw[IntKind.wrap_u64];omega
    have HAB:Hid (ab=(decide (Uj<fr)||(decide (fr=Uj)&&(!is||decide (Q % 2=1))))):=hab'
    have HF:Hid (F=if Lj<LS∨(ab=true∧Lj+Uj≤MS)then Lj+Uj else Lj):=hF'
    have v3:Int.tdiv (Lj:Int) (Uj:Int)=(Q:Int):=by rw[hQ];exact tdivN _ _
    have v4:IntKind.u64.wrap (Q:Int)=(Q:Int):=by
     have:Q≤Lj:=by rw[hQ];exact Nat.div_le_self _ _
     rw[IntKind.wrap_u64];omega
    have v5:((Uj:Int)==0)=false:=by rw[beq_eq_false_iff_ne];omega
    have hfrb:fr≤TW:=by omega
    clear hab' hF' hQ hfr h2L hD hab hF
    go_upto_region 9 with fail
    go_upto_region 10 with fail
    clear v1 v2
    go_cut [15] from 65 to 83 (fun v wx=>v=.bool ab∧wx=w6)
    case first =>
     by_cases x1:Uj<fr
     ·have c1:(Uj:Int)<(fr:Int):=by omega
      have HA:Hid (ab=true):=(by rw[HAB.out,decide_eq_true x1];rfl:ab=true)
      go_wp2
      go_meet
      exact⟨by rw[HA.out],rfl⟩
     ·have c1:¬ (Uj:Int)<(fr:Int):=by omega
      by_cases x2:fr=Uj
      ·have c2:((fr:Int)==(Uj:Int))=true:=by rw[beq_iff_eq];omega
       cases is
       ·have HA:Hid (ab=true):=(by rw[HAB.out,decide_eq_true x2];simp:ab=true)
        clear x1 x2 HAB HF
        go_wp2
        go_meet
        exact⟨by rw[HA.out],rfl⟩
       ·obtain⟨o,ho⟩:∃ o,o=decide (Q % 2=1):=⟨_,rfl⟩
        have HA:Hid (ab=o):=(by rw[HAB.out,decide_eq_false x1,decide_eq_true x2,ho];simp:ab=o)
        have v6:Int.tmod (Q:Int) 2=((Q % 2:Nat):Int):=by rw[Int.tmod_eq_emod_of_nonneg (by omega)];omega
        have v7:IntKind.u64.wrap ((Q % 2:Nat):Int)=((Q % 2:Nat):Int):=by rw[IntKind.wrap_u64];omega
        have v8:(((Q % 2:Nat):Int)==1)=o:=by
         rw[ho]
         by_cases h:Q % 2=1
         ·rw[h];rfl
         ·rw[decide_eq_false h,beq_eq_false_iff_ne];omega
        generalize Q % 2=q2 at *
        clear x1 x2 ho HAB HF
        go_wp2
        go_meet
        exact⟨by rw[HA.out],rfl⟩
      ·have c2:((fr:Int)==(Uj:Int))=false:=by rw[beq_eq_false_iff_ne];omega
       have HA:Hid (ab=false):=(by rw[HAB.out,decide_eq_false x1,decide_eq_false x2];rfl:ab=false)
       clear x2 x1
       go_wp2
       go_meet
       exact⟨by rw[HA.out],rfl⟩
    case rest =>
    obtain⟨rfl,hwr⟩:=hcut
    replace hwr:=hwr.symm
    subst hwr
    clear HAB v3 v4 v5 hfrb
    obtain⟨cb,hcb⟩:∃ cb,cb=decide (Lj<LS∨(ab=true∧Lj+Uj≤MS)):=⟨_,rfl⟩
    have HC:Hid (cb=decide (Lj<LS∨(ab=true∧Lj+Uj≤MS))):=hcb
    clear hcb
    go_upto_region 11 with fail
    go_cut [96] from 84 to 95 (fun v wx=>v=.bool cb∧wx=w6)
    case first =>
     by_cases x1:Lj<LS
     ·have c1:(Lj:Int)<(LS:Int):=by omega
      have HA:Hid (cb=true):=(by rw[HC.out];exact decide_eq_true (.inl x1):cb=true)
      clear x1
      go_wp2
      go_meet
      exact⟨by rw[HA.out],rfl⟩
     ·have c1:¬ (Lj:Int)<(LS:Int):=by omega
      cases ab
      ·have HA:Hid (cb=false):=(by rw[HC.out];exact decide_eq_false (fun h=>h.elim x1 (fun h=>absurd h.1 (by decide))):cb=false)
       clear x1
       go_wp2
       go_meet
       exact⟨by rw[HA.out],rfl⟩
      ·by_cases x2:Lj+Uj≤MS
       ·have c2:(Lj:Int)+(Uj:Int)≤(MS:Int):=by omega
        have HA:Hid (cb=true):=(by rw[HC.out];exact decide_eq_true (.inr ⟨rfl,x2⟩):cb=true)
        clear x1 x2
        go_wp2
        go_meet
        exact⟨by rw[HA.out],rfl⟩
       ·have c2:¬ (Lj:Int)+(Uj:Int)≤(MS:Int):=by omega
        have HA:Hid (cb=false):=(by rw[HC.out];exact decide_eq_false (fun h=>h.elim x1 (fun h=>x2 h.2)):cb=false)
        clear x1 x2
        go_wp2
        go_meet
        exact⟨by rw[HA.out],rfl⟩
    case rest =>
    obtain⟨rfl,hwr⟩:=hcut
    replace hwr:=hwr.symm
    subst hwr
    have HFF:Hid (F=if cb=true then Lj+Uj else Lj):=(by rw[HF.out,HC.out];simp only[decide_eq_true_eq]:F=if cb=true then Lj+Uj else Lj)
    clear HF HC
    cases cb
    ·obtain rfl:F=Lj:=HFF.out
     go_wp2
     go_ret
     exact⟨rfl,H6.out⟩
    ·obtain rfl:F=Lj+Uj:=HFF.out
     go_wp2
     go_ret
     exact⟨by push_cast;rfl,H6.out⟩
end Go.Proofs.YtfkaogdmlcdceaaGreatDoor
