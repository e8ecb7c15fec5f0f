/- Own work: contracts of the program's functions, part 11: VU5 VU6 VU7 VU8 VU9 VV3 VV1 VV2 VU1 VV4 VV5. -/
import Derived.Test.YtgdhdailchonmabGreatDoorA10
import Derived.Test.YtgdhdailchonmabGreatDoorA8
import Derived.Deep.CutRange
import Derived.Test.YtgdhdailchonmabGreatDoorA9
import Derived.Test.YtgdhdailchonmabGreatDoorA6
import Derived.Test.YtgdhdailchonmabGreatDoorA5
import Derived.Test.YtgdhdailchonmabGreatDoorA4

set_option maxHeartbeats 16000000
set_option maxRecDepth 200000
set_option linter.unusedVariables false
set_option linter.unusedSimpArgs false
namespace Go.Proofs.YtgdhdailchonmabGreatDoor
open Go.RowKit Go.Fl64
def flN (n:Int):Nat:=if n<0 then 9223372036854775808+n.natAbs else n.toNat
def fvN (n:Int):Int:=if n<0 then -(bv n.natAbs:Int) else(bv n.toNat:Int)
theorem stp_mag (f:Nat):(stp f).natAbs=mag f:=by
 unfold stp sgn;split <;> omega
theorem stp_val (f:Nat):sv (neg f) (bv (mag f))=fvN (stp f):=by
 unfold sv fvN stp sgn
 cases hn:neg f
 ·simp only[Bool.false_eq_true,if_false]
  rw[if_neg (by omega),Int.toNat_natCast]
 ·simp only[if_true]
  by_cases h0:mag f=0
  ·rw[h0];simp[bv_zero]
  ·rw[if_pos (by omega),show(-(mag f:Int)).natAbs=mag f by omega]
theorem stp_fl {f:Nat} (hf:f<18446744073709551616) (h0:stp f≠0):flN (stp f)=f:=by
 unfold flN stp sgn neg mag at *
 by_cases h:9223372036854775808≤f
 ·rw[decide_eq_true h] at h0 ⊢
  simp only[if_true] at h0 ⊢
  rw[if_pos (by omega)];omega
 ·rw[decide_eq_false h] at h0 ⊢
  simp only[Bool.false_eq_true,if_false] at h0 ⊢
  rw[if_neg (by omega)];omega
theorem fvN_lt {n m:Int} (h:n<m):fvN n<fvN m:=by
 unfold fvN
 by_cases h1:n<0
 ·rw[if_pos h1]
  by_cases h2:m<0
  ·rw[if_pos h2]
   have:=bv_lt (show m.natAbs<n.natAbs by omega)
   omega
  ·rw[if_neg h2]
   have:=bv_lt (show 0<n.natAbs by omega)
   omega
 ·rw[if_neg h1,if_neg (by omega)]
  have:=bv_lt (show n.toNat<m.toNat by omega)
  omega
theorem fvN_le {n m:Int} (h:n≤m):fvN n≤fvN m:=by
 rcases(show n=m∨n<m by omega)with rfl|h
 ·omega
 ·exact Int.le_of_lt (fvN_lt h)
theorem fvN_succ (n:Int):fvN n+1≤fvN (n+1):=by have:=fvN_lt (show n<n+1 by omega);omega
theorem fvN_zero:fvN 0=0:=rfl
def agN (c p q:Bool×Nat×Int) (n:Int):Int:=agI (vz 70000 c.1 c.2.1 c.2.2) (vz (70000+70000) p.1 p.2.1 p.2.2) (vz (70000+70000) q.1 q.2.1 q.2.2) (fvN n*((UU 70000:Nat):Int))
theorem agN_T {c p q:Bool×Nat×Int} {f:Nat} (hf:f<18446744073709551616) (hm:mag f<9218868437227405312):agT c p q (tF f)=agN c p q (stp f):=by
 unfold agT agN
 rw[vz_num5 hf hm,stp_val]
theorem agN_mono {c p q:Bool×Nat×Int} {n m:Int} (h:n≤m) (hp:0<agN c p q m):0<agN c p q n :=
 agI_mono (Int.mul_le_mul_of_nonneg_right (fvN_le h) (by have:=UU_pos 70000;omega)) hp
structure Lst (c p q:Bool×Nat×Int) (n:Int):Prop where
 lo : -9218868437227405311≤n
 hi:n≤9218868437227405312
 here:n=9218868437227405312∨agN c p q n≤0
 below:n = -9218868437227405311∨0<agN c p q (n - 1)
theorem Lst.one {c p q:Bool×Nat×Int} {n m:Int} (h1:Lst c p q n) (h2:Lst c p q m):n=m:=by
 rcases(show n<m∨n=m∨m<n by omega)with h|h|h
 ·exfalso
  have a:=h1.here
  have b:=h2.below
  have:=h1.lo
  have:=h2.hi
  have a':agN c p q n≤0:=by omega
  have b':0<agN c p q (m - 1):=by omega
  have:=agN_mono (show n≤m - 1 by omega) b'
  omega
 ·exact h
 ·exfalso
  have a:=h2.here
  have b:=h1.below
  have:=h2.lo
  have:=h1.hi
  have a':agN c p q m≤0:=by omega
  have b':0<agN c p q (n - 1):=by omega
  have:=agN_mono (show m≤n - 1 by omega) b'
  omega
theorem lst_from (c p q:Bool×Nat×Int):∀ k:Nat,∀ n:Int,n+k=9218868437227405312 → -9218868437227405311≤n→(n = -9218868437227405311∨0<agN c p q (n - 1))→∃ m,Lst c p q m
 | 0,n,h,h1,h2=>⟨n,h1,by omega,.inl (by omega),h2⟩
 | k+1,n,h,h1,h2=>by
  by_cases h3:agN c p q n≤0
  ·exact⟨n,h1,by omega,.inr h3,h2⟩
  ·exact lst_from c p q k (n+1) (by omega) (by omega) (.inr (by rw[Int.add_sub_cancel];omega))
theorem lst_ex (c p q:Bool×Nat×Int):∃ n,Lst c p q n:=lst_from c p q (9218868437227405312+9218868437227405311) (-9218868437227405311) (by omega) (by omega) (.inl rfl)
def upA (c p q:Bool×Nat×Int) (n:Int):Nat:=if n=0 then(if agN c p q 0<0 then 9223372036854775808 else 0)else flN n
end Go.Proofs.YtgdhdailchonmabGreatDoor
namespace Go.Proofs.YtgdhdailchonmabGreatDoor
open Go Go.RowKit Go.Fl64
theorem tF_bg (f:Nat):Bg (tF f) (-65536) 131072:=(tF_ok f).bg
def nextA (a:Nat):Nat:=if mag a=0 then 1 else if neg a then a - 1 else a+1
theorem next_3 (a:Nat) (w:World) (hn:(FloatKind.f64.format.order a a != some Ordering.eq)=false) (h2:((a:Int)==9218868437227405312)=false) (h3:(FloatKind.f64.format.order a 0==some Ordering.eq)=true) :
  Calls Tryz.prog 153 #[.float .f64 a] w fun r w'=>r=.returned (.float .f64 1)∧w'=w:=by
 have kb:=Ie.run_bits
 have kf:=Ie.run_frombits
 go_enter Tryz.func153,Tryz.ntmps153
 go_wp2
 go_ret
 exact⟨rfl,rfl⟩
theorem next_4 (a:Nat) (r:Int) (w:World) (hn:(FloatKind.f64.format.order a a != some Ordering.eq)=false) (h2:((a:Int)==9218868437227405312)=false) (h3:(FloatKind.f64.format.order a 0==some Ordering.eq)=false) (h4:(bits .and .u64 (a:Int) 9223372036854775808 != 0)=true) (h5:IntKind.u64.wrap ((a:Int) - 1)=r) :
  Calls Tryz.prog 153 #[.float .f64 a] w fun e w'=>e=.returned (.float .f64 r.toNat)∧w'=w:=by
 have kb:=Ie.run_bits
 have kf:=Ie.run_frombits
 go_enter Tryz.func153,Tryz.ntmps153
 go_wp2
 go_ret
 exact⟨rfl,rfl⟩
theorem next_5 (a:Nat) (r:Int) (w:World) (hn:(FloatKind.f64.format.order a a != some Ordering.eq)=false) (h2:((a:Int)==9218868437227405312)=false) (h3:(FloatKind.f64.format.order a 0==some Ordering.eq)=false) (h4:(bits .and .u64 (a:Int) 9223372036854775808 != 0)=false) (h5:IntKind.u64.wrap ((a:Int)+1)=r) :
  Calls Tryz.prog 153 #[.float .f64 a] w fun e w'=>e=.returned (.float .f64 r.toNat)∧w'=w:=by
 have kb:=Ie.run_bits
 have kf:=Ie.run_frombits
 go_enter Tryz.func153,Tryz.ntmps153
 go_wp2
 go_ret
 exact⟨rfl,rfl⟩
theorem next_ok (a:Nat) (ha:a<18446744073709551616) (hn:mag a<9218868437227405312) (w:World) :
  Calls Tryz.prog 153 #[.float .f64 a] w fun r w'=>r=.returned (.float .f64 (nextA a))∧w'=w:=by
 have n1:isNaN a=false:=decide_eq_false (by omega)
 have q1:=self_ne a ha
 rw[n1] at q1
 have q2:((a:Int)==9218868437227405312)=false:=by
  rw[beq_eq_false_iff_ne]
  intro h
  have:a=9218868437227405312:=by omega
  rw[this] at hn
  revert hn;decide
 have q3:=unought ha
 have q3':(FloatKind.f64.format.order a 0==some Ordering.eq)=decide (mag a=0):=by
  have:(FloatKind.f64.format.order a 0 != some Ordering.eq) = !(FloatKind.f64.format.order a 0==some Ordering.eq):=rfl
  rw[this] at q3
  revert q3
  cases (FloatKind.f64.format.order a 0==some Ordering.eq) <;> cases decide (mag a=0) <;> simp
 have q4:(bits .and .u64 (a:Int) 9223372036854775808 != 0)=neg a:=by
  rw[and_sign a ha]
  cases neg a <;> decide
 unfold nextA
 by_cases h0:mag a=0
 ·rw[if_pos h0]
  rw[decide_eq_true h0] at q3'
  exact next_3 a w q1 q2 q3'
 ·rw[if_neg h0]
  rw[decide_eq_false h0] at q3'
  cases hs:neg a
  ·rw[hs] at q4
   have h9:a<9223372036854775808:=by unfold neg at hs;simpa using hs
   rw[if_neg (by decide)]
   exact next_5 a ((a+1:Nat):Int) w q1 q2 q3' q4 (by rw[IntKind.wrap_u64];omega)
  ·rw[hs] at q4
   have h9:9223372036854775808≤a:=by unfold neg at hs;simpa using hs
   rw[if_pos rfl]
   exact next_4 a ((a - 1:Nat):Int) w q1 q2 q3' q4 (by rw[IntKind.wrap_u64];omega)
theorem nextA_stp {a:Nat} (ha:a<18446744073709551616) (hn:mag a<9218868437227405312):stp (nextA a)=stp a+1∧nextA a<18446744073709551616∧(stp a = -1→nextA a=9223372036854775808):=by
 unfold nextA stp sgn neg mag at *
 by_cases h0:a % 9223372036854775808=0
 ·rw[if_pos h0,h0]
  refine⟨?_,by omega,?_⟩
  ·by_cases h1:9223372036854775808≤a
   ·rw[decide_eq_true h1];rfl
   ·rw[decide_eq_false h1];rfl
  ·by_cases h1:9223372036854775808≤a
   ·rw[decide_eq_true h1];intro h;exact absurd h (by decide)
   ·rw[decide_eq_false h1];intro h;exact absurd h (by decide)
 ·rw[if_neg h0]
  by_cases h1:9223372036854775808≤a
  ·rw[decide_eq_true h1,if_pos rfl,if_pos rfl]
   refine⟨?_,by omega,fun h=>by omega⟩
   by_cases h2:9223372036854775808≤a - 1
   ·rw[decide_eq_true h2,if_pos rfl];omega
   ·omega
  ·rw[decide_eq_false h1]
   simp only[Bool.false_eq_true,if_false]
   refine⟨?_,by omega,fun h=>by omega⟩
   rw[decide_eq_false (by omega)]
   simp only[Bool.false_eq_true,if_false]
   omega
end Go.Proofs.YtgdhdailchonmabGreatDoor
namespace Go.Proofs.YtgdhdailchonmabGreatDoor
open Go.RowKit Go.Fl64
theorem rtQ_lt {x b:Nat} {ea place:Int} (hx:x<2^b) {n:Nat} (h:(b:Int)+(ea+2*place)≤n):rtQ x ea place<2^n:=by
 unfold rtQ
 by_cases h0:0≤ea+2*place
 ·rw[if_pos h0]
  have h1:x*2^(ea+2*place).toNat<2^b*2^(ea+2*place).toNat:=Nat.mul_lt_mul_of_pos_right hx (Nat.two_pow_pos _)
  rw[←Nat.pow_add] at h1
  exact Nat.lt_of_lt_of_le h1 (Nat.pow_le_pow_right (by omega) (by omega))
 ·rw[if_neg h0]
  obtain⟨k,hk⟩:∃ k,k=(-(ea+2*place)).toNat:=⟨_,rfl⟩
  rw[←hk]
  apply Nat.div_lt_of_lt_mul
  rw[←Nat.pow_add]
  exact Nat.lt_of_lt_of_le hx (Nat.pow_le_pow_right (by omega) (by omega))
end Go.Proofs.YtgdhdailchonmabGreatDoor
namespace Go.Proofs.YtgdhdailchonmabGreatDoor
open Go Go.RowKit Go.Fl64
structure Gf (f:Nat):Prop where
 lt:f<18446744073709551616
 lo : -9218868437227405311≤stp f
 hi:stp f≤9218868437227405312
theorem Gf.nn {f:Nat} (h:Gf f):mag f≤9218868437227405312:=by have:=stp_mag f;have:=h.lo;have:=h.hi;omega
theorem Gf.fin {f:Nat} (h:Gf f) (h1:stp f<9218868437227405312):mag f<9218868437227405312:=by have:=stp_mag f;have:=h.lo;omega
theorem nan_of {f:Nat} (h:mag f≤9218868437227405312):isNaN f=false:=decide_eq_false (by omega)
theorem eq0 {f:Nat} (hf:f<18446744073709551616) (hn:mag f≤9218868437227405312):(FloatKind.f64.format.order f 0==some Ordering.eq)=decide (stp f=0):=by
 rw[ord_eq f 0 hf (by decide)]
 unfold Fl64.eq
 rw[nan_of hn,show isNaN 0=false by decide,show stp 0=0 by decide]
 simp
theorem up_gf (s:Bool) (x:Nat) (e:Int):Gf (sig s (bdy x e (wyN s 3))):=by
 have h1:=bdy_le x e (wyN s 3)
 cases s
 ·have e1:sig false (bdy x e (wyN false 3))=bdy x e (wyN false 3):=rfl
  rw[e1]
  generalize bdy x e (wyN false 3)=b at *
  have e2:stp b=b:=by
   unfold stp sgn neg mag
   rw[decide_eq_false (by omega)]
   simp only[Bool.false_eq_true,if_false]
   omega
  exact⟨by omega,by omega,by omega⟩
 ·have h2:bdy x e (wyN true 3)≤9218868437227405311:=by
   rw[show wyN true 3=0 by rfl]
   unfold bdy
   split
   ·omega
   ·split
    ·omega
    ·rw[if_pos rfl];omega
  have e1:sig true (bdy x e (wyN true 3))=bdy x e (wyN true 3)+9223372036854775808:=rfl
  rw[e1]
  generalize bdy x e (wyN true 3)=b at *
  have e2:stp (b+9223372036854775808) = -(b:Int):=by
   unfold stp sgn neg mag
   rw[decide_eq_true (by omega)]
   simp only[if_true]
   omega
  exact⟨by omega,by omega,by omega⟩
end Go.Proofs.YtgdhdailchonmabGreatDoor
namespace Go.Proofs.YtgdhdailchonmabGreatDoor
open Go.RowKit Go.Fl64
theorem rtQ_scale {x:Nat} {e:Int} {pl N K:Nat} (he:0≤e+K) (hK:K=2*pl+N) :
  rtQ x e (pl:Int)*2^N≤x*2^(e+K).toNat∧x*2^(e+K).toNat<(rtQ x e (pl:Int)+1)*2^N∧((0≤e+2*(pl:Int)∨x=0)→rtQ x e (pl:Int)*2^N=x*2^(e+K).toNat):=by
 unfold rtQ
 by_cases h0:0≤e+2*(pl:Int)
 ·rw[if_pos h0]
  have e1:x*2^(e+2*(pl:Int)).toNat*2^N=x*2^(e+K).toNat:=by
   rw[Nat.mul_assoc,←Nat.pow_add,show(e+2*(pl:Int)).toNat+N=(e+K).toNat by omega]
  rw[e1,Nat.add_mul,e1]
  have:=Nat.two_pow_pos N
  exact⟨Nat.le_refl _,by omega,fun _=>rfl⟩
 ·rw[if_neg h0]
  obtain⟨k,hk⟩:∃ k,k=(-(e+2*(pl:Int))).toNat:=⟨_,rfl⟩
  rw[←hk]
  have e1:2^N=2^k*2^(e+K).toNat:=by rw[←Nat.pow_add,show k+(e+K).toNat=N by omega]
  have hp:0<2^k:=Nat.two_pow_pos _
  have hM:0<2^(e+K).toNat:=Nat.two_pow_pos _
  rw[e1]
  generalize 2^(e+K).toNat=M at *
  generalize 2^k=D at *
  have h1:=Nat.div_add_mod x D
  have h2:=Nat.mod_lt x hp
  refine⟨?_,?_,?_⟩
  ·rw[←Nat.mul_assoc]
   exact Nat.mul_le_mul_right M (Nat.div_mul_le_self x D)
  ·rw[←Nat.mul_assoc]
   refine Nat.mul_lt_mul_of_pos_right ?_ hM
   rw[Nat.add_mul,Nat.one_mul,Nat.mul_comm];omega
  ·rintro(h|h)
   ·omega
   ·subst h;simp
theorem root_scale {x m:Nat} {e:Int} {pl N K:Nat} (he:0≤e+K) (hK:K=2*pl+N) {M:Nat} (hM:N=2*M) (h1:m*m≤rtQ x e (pl:Int)) (h2:rtQ x e (pl:Int)<(m+1)*(m+1)) :
  (m*2^M)*(m*2^M)≤x*2^(e+K).toNat∧x*2^(e+K).toNat<((m+1)*2^M)*((m+1)*2^M)∧((decide (0≤e+2*(pl:Int)∨x=0)&&decide (m*m=rtQ x e (pl:Int)))=true→(m*2^M)*(m*2^M)=x*2^(e+K).toNat):=by
 obtain⟨a1,a2,a3⟩:=rtQ_scale (x:=x) he hK
 have e1:∀ z:Nat,(z*2^M)*(z*2^M)=z*z*2^N:=fun z=>by
  rw[hM,Nat.two_mul M,Nat.pow_add]
  generalize 2^M=T
  grind
 rw[e1,e1]
 refine⟨?_,?_,?_⟩
 ·exact Nat.le_trans (Nat.mul_le_mul_right _ h1) a1
 ·exact Nat.lt_of_lt_of_le a2 (Nat.mul_le_mul_right _ h2)
 ·intro h
  simp only[Bool.and_eq_true,decide_eq_true_eq] at h
  rw[h.2]
  exact a3 h.1
theorem up_spec {t:Bool×Nat×Int} {hi:Int} (h:Bg t (-65536) hi) (hh:0≤hi) {F:Nat} (hF:F=tfF t.1 true t.2.1 t.2.2 3) :
  Gf F∧(stp F = -9218868437227405311∨fvN (stp F - 1)*((UU 70000:Nat):Int)<vz 70000 t.1 t.2.1 t.2.2)∧(stp F=9218868437227405312∨vz 70000 t.1 t.2.1 t.2.2≤fvN (stp F)*((UU 70000:Nat):Int))∧(stp F=0→neg F=decide (vz 70000 t.1 t.2.1 t.2.2<0)):=by
 have hU:0<UU 70000:=UU_pos _
 have b:=h.bounds (by omega) hh
 rw[tf_bdy (by omega)] at hF
 subst hF
 have hg:=up_gf t.1 t.2.1 t.2.2
 refine⟨hg,?_⟩
 by_cases h0:t.2.1=0
 ·have e:=h.cn
  unfold Go.Proofs.YtgdhdailchonmabGreatDoor.cn at e
  rw[if_pos h0] at e
  have e1:sig t.1 (bdy t.2.1 t.2.2 (wyN t.1 3))=0:=by rw[←e];rfl
  have e2:vz 70000 t.1 t.2.1 t.2.2=0:=vz_eq_zero.2 h0
  rw[e1,e2]
  have s0:stp 0=0:=rfl
  rw[s0]
  refine⟨.inr ?_,.inr (by rw[fvN_zero,Int.zero_mul];omega),fun _=>rfl⟩
  have:fvN (0 - 1)<0:=by have:=fvN_lt (show(0:Int) - 1<0 by omega);rw[fvN_zero] at this;exact this
  exact Int.mul_neg_of_neg_of_pos this (by omega)
 ·have hr:=fun way=>VA_rounds (K:=70000) (Nat.le_refl _) h0 (e:=t.2.2) (by omega) (way:=way)
  have hV:=vz_VA 70000 t.1 t.2.1 t.2.2
  have hV0:=VA_ne (K:=70000) (e:=t.2.2) h0
  rw[hV]
  generalize VA 70000 t.2.1 t.2.2=A at *
  generalize UU 70000=u at *
  have mulc:∀ z:Nat,((bv z*u:Nat):Int)=(bv z:Int)*(u:Int):=fun z=>by push_cast;rfl
  cases hs:t.1
  ·have e1:sig false (bdy t.2.1 t.2.2 (wyN false 3))=bdy t.2.1 t.2.2 2:=rfl
   rw[e1]
   obtain⟨b0,⟨c1,c2⟩,-,c3,-⟩:=(hr 2).fl
   have c3:=c3 rfl
   have sv0:sv false A=(A:Int):=rfl
   rw[sv0]
   have r1:A≤bv (rwb t.2.1 t.2.2 2)*u:=by
    rw[c3];split
    ·omega
    ·omega
   have r0:rwb t.2.1 t.2.2 2≠0:=by
    intro hz
    rw[hz,bv_zero,Nat.zero_mul] at r1
    omega
   have r2:bv (rwb t.2.1 t.2.2 2 - 1)*u<A:=by
    rw[c3] at r0 ⊢
    split at r0
    ·rename_i hc
     rw[if_pos hc,hc]
     exact Nat.mul_lt_mul_of_pos_right (bv_lt (by omega)) hU
    ·rename_i hc
     rw[if_neg hc,Nat.add_sub_cancel];omega
   generalize hrr:rwb t.2.1 t.2.2 2=r at *
   have hstp:∀ z:Nat,z≤9218868437227405312→stp z=(z:Int):=fun z hz=>by
    unfold stp sgn neg mag
    rw[decide_eq_false (by omega)]
    simp only[Bool.false_eq_true,if_false]
    omega
   have fvp:∀ z:Nat,fvN (z:Int)=(bv z:Int):=fun z=>by unfold fvN;rw[if_neg (by omega),Int.toNat_natCast]
   by_cases hlt:r<9218868437227405312
   ·have e2:bdy t.2.1 t.2.2 2=r:=by unfold bdy;rw[if_neg h0,hrr,if_pos hlt]
    rw[e2,hstp r (by omega)]
    refine⟨.inr ?_,.inr ?_,fun hz=>by omega⟩
    ·rw[show(r:Int) - 1=((r - 1:Nat):Int) by omega,fvp,←mulc];omega
    ·rw[fvp,←mulc];omega
   ·have e2:bdy t.2.1 t.2.2 2=9218868437227405312:=by unfold bdy;rw[if_neg h0,hrr,if_neg hlt,if_neg (by decide)]
    rw[e2,hstp _ (by omega)]
    refine⟨.inr ?_,.inl rfl,fun hz=>by omega⟩
    have hm:bv 9218868437227405311≤bv (r - 1):=bv_le (by omega)
    have hm':=Nat.mul_le_mul_right u hm
    rw[show((9218868437227405312:Nat):Int) - 1=((9218868437227405311:Nat):Int) by omega,fvp,←mulc]
    omega
  ·have e1:sig true (bdy t.2.1 t.2.2 (wyN true 3))=bdy t.2.1 t.2.2 0+9223372036854775808:=rfl
   rw[e1]
   obtain⟨b0,⟨c1,c2⟩,c3,-,-⟩:=(hr 0).fl
   have c3:=c3 rfl
   rw[←c3] at c1 c2
   have sv0:sv true A = -(A:Int):=rfl
   rw[sv0]
   generalize hrr:rwb t.2.1 t.2.2 0=r at *
   have hstp:∀ z:Nat,z≤9218868437227405312→stp (z+9223372036854775808) = -(z:Int)∧neg (z+9223372036854775808)=true:=fun z hz=>by
    unfold stp sgn neg mag
    rw[decide_eq_true (by omega)]
    exact⟨by simp only[if_true];omega,rfl⟩
   have fvm:∀ z:Nat,fvN (-(z:Int)) = -(bv z:Int):=fun z=>by
    unfold fvN
    by_cases hz:z=0
    ·subst hz;simp[bv_zero]
    ·rw[if_pos (by omega),show(-(z:Int)).natAbs=z by omega]
   by_cases hlt:r<9218868437227405312
   ·have e2:bdy t.2.1 t.2.2 0=r:=by unfold bdy;rw[if_neg h0,hrr,if_pos hlt]
    rw[e2,(hstp r (by omega)).1,(hstp r (by omega)).2]
    refine⟨.inr ?_,.inr ?_,fun hz=>by rw[decide_eq_true (by omega)]⟩
    ·rw[show -(r:Int) - 1 = -((r+1:Nat):Int) by omega,fvm,Int.neg_mul,←mulc];omega
    ·rw[fvm,Int.neg_mul,←mulc];omega
   ·have e2:bdy t.2.1 t.2.2 0=9218868437227405311:=by unfold bdy;rw[if_neg h0,hrr,if_neg hlt,if_pos rfl]
    rw[e2,(hstp _ (by omega)).1,(hstp _ (by omega)).2]
    refine⟨.inl (by omega),.inr ?_,fun hz=>by omega⟩
    have hm:bv 9218868437227405311≤bv r:=bv_le (by omega)
    have hm':=Nat.mul_le_mul_right u hm
    rw[fvm,Int.neg_mul,←mulc];omega
def Bp3 (w3 wc:World) (g:Nat) (s:Bool) (ao:Option Addr) (n cap:Nat) (ex:Int) (t:Bool×Nat×Int):Prop :=
 wc.heap[g]?=some (.cells #[.bool s,.slice ao n cap,.int .i64 ex] 47 (0,0))∧w3.heap.size≤g∧Bw w3 wc∧PN wc (.agg #[.bool s,.slice ao n cap,.int .i64 ex]) t
theorem Bp3.new {w3 w7:World} {s:Bool} {ao:Option Addr} {n cap:Nat} {ex:Int} {t:Bool×Nat×Int} (hn:PN w7 (.agg #[.bool s,.slice ao n cap,.int .i64 ex]) t) (hb:Bw w3 w7) :
  Bp3 w3 (w7.alloc (.cells #[.bool s,.slice ao n cap,.int .i64 ex] 47)) w7.heap.size s ao n cap ex t :=
 ⟨heap_alloc_new _ _,hb.size,hb.alloc hb.size _,hn.later ((Below.refl _ _).alloc (Nat.le_refl _) _)⟩
theorem Bp3.put {w3 w7:World} {g:Nat} {s:Bool} {ao:Option Addr} {n cap:Nat} {ex:Int} {t:Bool×Nat×Int} {s':Bool} {ao':Option Addr} {n' cap':Nat} {e':Int} (hn:PN w7 (.agg #[.bool s,.slice ao n cap,.int .i64 ex]) t) (hb:Bw w3 w7) (hg:w3.heap.size≤g) (hbx:w7.heap[g]?=some (.cells #[.bool s',.slice ao' n' cap',.int .i64 e'] 47 (0,0))) :
  Bp3 w3 (((w7.setCell ⟨g,0,none⟩ (.bool s)).setCell ⟨g,1,none⟩ (.slice ao n cap)).setCell ⟨g,2,none⟩ (.int .i64 ex)) g s ao n cap ex t :=
 ⟨store3 _ _ _ hbx,hg,below_store3 hb hg _ _ _,pn_storeG hn hbx _ _ _⟩
def coR (tg:Bool×Nat×Int) (o:Int):Int:=if tg.1 then 1 else o
theorem compareRoots_1 (np : Bool) (up : Option Addr) (lp kp : Nat) (ep : Int) (nq : Bool) (uq : Option Addr) (lq kq : Nat) (eq : Int) (nd : Bool) (ud : Option Addr) (ld kd : Nat) (ed : Int) (tp tq td tt ts tv tg t4 tm tk tn : Bool × Nat × Int) (o : Int) (w : World) (hp : PN w (.agg #[.bool np, .slice up lp kp, .int .i64 ep]) tp) (hq : PN w (.agg #[.bool nq, .slice uq lq kq, .int .i64 eq]) tq) (hd : PN w (.agg #[.bool nd, .slice ud ld kd, .int .i64 ed]) td)
    (kT : ∀ W X Y, Bw w W → PN W X td → PN W Y td → Calls Tryz.prog 101 #[X, Y] W fun r w' => ∃ A, r = .returned A ∧ PN w' A tt ∧ Bw W w')
    (kP : ∀ W X Y, Bw w W → PN W X tp → PN W Y tq → Calls Tryz.prog 100 #[X, Y] W fun r w' => ∃ A, r = .returned A ∧ PN w' A ts ∧ Bw W w')
    (kV : ∀ W X, Bw w W → PN W X ts → Calls Tryz.prog 77 #[X] W fun r w' => ∃ A, r = .returned A ∧ PN w' A tv ∧ Bw W w')
    (kG : ∀ W X Y, Bw w W → PN W X tt → PN W Y tv → Calls Tryz.prog 100 #[X, Y] W fun r w' => ∃ A, r = .returned A ∧ PN w' A tg ∧ Bw W w')
    (kW : ∀ W, Bw w W → Calls Tryz.prog 72 #[.int .i64 4] W fun r w' => ∃ A, r = .returned A ∧ PN w' A t4 ∧ Bw W w')
    (kM : ∀ W X Y, Bw w W → PN W X tp → PN W Y tq → Calls Tryz.prog 101 #[X, Y] W fun r w' => ∃ A, r = .returned A ∧ PN w' A tm ∧ Bw W w')
    (kQ : ∀ W X Y, Bw w W → PN W X t4 → PN W Y tm → Calls Tryz.prog 101 #[X, Y] W fun r w' => ∃ A, r = .returned A ∧ PN w' A tk ∧ Bw W w')
    (kN : ∀ W X Y, Bw w W → PN W X tg → PN W Y tg → Calls Tryz.prog 101 #[X, Y] W fun r w' => ∃ A, r = .returned A ∧ PN w' A tn ∧ Bw W w')
    (kO : ∀ W X Y, Bw w W → PN W X tk → PN W Y tn → Calls Tryz.prog 151 #[X, Y] W fun r w' => r = .returned (.int .i64 o) ∧ Bw W w') :
    Calls Tryz.prog 152 #[.agg #[.bool np, .slice up lp kp, .int .i64 ep], .agg #[.bool nq, .slice uq lq kq, .int .i64 eq], .agg #[.bool nd, .slice ud ld kd, .int .i64 ed]] w fun r w' => r = .returned (.int .i64 (coR tg o)) ∧ Bw w w' := by
  obtain ⟨W, hW⟩ : ∃ W, W = ((w.alloc (.cells #[.bool np, .slice up lp kp, .int .i64 ep] 47)).alloc (.cells #[.bool nq, .slice uq lq kq, .int .i64 eq] 47)).alloc (.cells #[.bool nd, .slice ud ld kd, .int .i64 ed] 47) := ⟨_, rfl⟩
  obtain ⟨hA, hBb, hC, hsz, hBW⟩ := boxes3 _ _ _ hW
  have HH : Hid (Bw w W ∧ W.heap.size = w.heap.size + 1 + 1 + 1) := ⟨hBW, hsz⟩
  have HD : Hid (PN W (.agg #[.bool np, .slice up lp kp, .int .i64 ep]) tp ∧ PN W (.agg #[.bool nq, .slice uq lq kq, .int .i64 eq]) tq ∧ PN W (.agg #[.bool nd, .slice ud ld kd, .int .i64 ed]) td) := ⟨hp.later hBW, hq.later hBW, hd.later hBW⟩
  have HT : Hid _ := kT
  have HP : Hid _ := kP
  have HV : Hid _ := kV
  have HG : Hid _ := kG
  have HW : Hid _ := kW
  have HM : Hid _ := kM
  have HQ : Hid _ := kQ
  have HN : Hid _ := kN
  have HO : Hid _ := kO
  have HC : Hid (∀ w', Bw W w' → ((w'.cell? ⟨w.heap.size, 0, none⟩ = some (.bool np) ∧ w'.cell? ⟨w.heap.size, 1, none⟩ = some (.slice up lp kp) ∧ w'.cell? ⟨w.heap.size, 2, none⟩ = some (.int .i64 ep)) ∧ (w'.cell? ⟨w.heap.size + 1, 0, none⟩ = some (.bool nq) ∧ w'.cell? ⟨w.heap.size + 1, 1, none⟩ = some (.slice uq lq kq) ∧ w'.cell? ⟨w.heap.size + 1, 2, none⟩ = some (.int .i64 eq)) ∧ (w'.cell? ⟨w.heap.size + 1 + 1, 0, none⟩ = some (.bool nd) ∧ w'.cell? ⟨w.heap.size + 1 + 1, 1, none⟩ = some (.slice ud ld kd) ∧ w'.cell? ⟨w.heap.size + 1 + 1, 2, none⟩ = some (.int .i64 ed))) ∧ Bw W w') := fun w' hb => ⟨⟨(box_cells (box_later hA hb (by omega))).1, (box_cells (box_later hBb hb (by omega))).1, (box_cells (box_later hC hb (by omega))).1⟩, hb⟩
  have kT' : ∀ w4, Bw W w4 → Calls Tryz.prog 101 #[.agg #[.bool nd, .slice ud ld kd, .int .i64 ed], .agg #[.bool nd, .slice ud ld kd, .int .i64 ed]] w4 fun r w' => ∃ A, r = .returned A ∧ PN w' A tt ∧ Bw W w' ∧ Hid (∀ g o, w4.heap[g]? = some o → w'.heap[g]? = some o) := fun w4 hb => (HT.out w4 _ _ (HH.out.1.trans (hb.mono HH.out.1.size)) (HD.out.2.2.later hb) (HD.out.2.2.later hb)).mono fun r w' ⟨A, e1, o1, o2⟩ => ⟨A, e1, o1, hb.trans (o2.mono hb.size), fun g o hg => box_later hg o2 (lt_of_box hg)⟩
  have kP' : ∀ w4, Bw W w4 → Calls Tryz.prog 100 #[.agg #[.bool np, .slice up lp kp, .int .i64 ep], .agg #[.bool nq, .slice uq lq kq, .int .i64 eq]] w4 fun r w' => ∃ A, r = .returned A ∧ PN w' A ts ∧ Bw W w' ∧ Bw w4 w' ∧ Hid (∀ g o, w4.heap[g]? = some o → w'.heap[g]? = some o) := fun w4 hb => (HP.out w4 _ _ (HH.out.1.trans (hb.mono HH.out.1.size)) (HD.out.1.later hb) (HD.out.2.1.later hb)).mono fun r w' ⟨A, e1, o1, o2⟩ => ⟨A, e1, o1, hb.trans (o2.mono hb.size), o2, fun g o hg => box_later hg o2 (lt_of_box hg)⟩
  have kV' : ∀ X w4, PN w4 X ts → Bw W w4 → Calls Tryz.prog 77 #[X] w4 fun r w' => ∃ A, r = .returned A ∧ PN w' A tv ∧ Bw W w' ∧ Bw w4 w' ∧ Hid (∀ g o, w4.heap[g]? = some o → w'.heap[g]? = some o) := fun X w4 h hb => (HV.out w4 _ (HH.out.1.trans (hb.mono HH.out.1.size)) h).mono fun r w' ⟨A, e1, o1, o2⟩ => ⟨A, e1, o1, hb.trans (o2.mono hb.size), o2, fun g o hg => box_later hg o2 (lt_of_box hg)⟩
  have kG' : ∀ X Y w4, PN w4 X tt → PN w4 Y tv → Bw W w4 → Calls Tryz.prog 100 #[X, Y] w4 fun r w' => ∃ s ao n cap ex, r = .returned (.agg #[.bool s, .slice ao n cap, .int .i64 ex]) ∧ PN w' (.agg #[.bool s, .slice ao n cap, .int .i64 ex]) tg ∧ Bw W w' ∧ Hid (∀ g o, w4.heap[g]? = some o → w'.heap[g]? = some o) := fun X Y w4 h1 h2 hb => (HG.out w4 _ _ (HH.out.1.trans (hb.mono HH.out.1.size)) h1 h2).mono fun r w' ⟨A, e1, o1, o2⟩ => by
    obtain ⟨s, ao, n, cap, ex, rfl⟩ := o1.shape
    exact ⟨s, ao, n, cap, ex, e1, o1, hb.trans (o2.mono hb.size), fun g o hg => box_later hg o2 (lt_of_box hg)⟩
  obtain ⟨⟨⟨a0, a1, a2⟩, ⟨b0, b1, b2⟩, ⟨c0, c1, c2⟩⟩, -⟩ := HC.out W (Below.refl _ _)
  have hBR : Bw W W.drew := (Below.refl _ _).drew
  clear hA hBb hC hsz hBW hp hq hd kT kP kV kG kW kM kQ kN kO
  go_enter Tryz.func152, Tryz.ntmps152
  go_upto_region 1 with fail
  rw [← hW]
  clear hW
  go_cut [7] from 8 to 15 (fun p wx => ∃ g s ao n cap ex, p = .pointer (some ⟨g, 0, none⟩) ∧ Hid (Bp3 W wx g s ao n cap ex tg))
  case first =>
    go_region_held3 (fun w' => ((w'.cell? ⟨w.heap.size, 0, none⟩ = some (.bool np) ∧ w'.cell? ⟨w.heap.size, 1, none⟩ = some (.slice up lp kp) ∧ w'.cell? ⟨w.heap.size, 2, none⟩ = some (.int .i64 ep)) ∧ (w'.cell? ⟨w.heap.size + 1, 0, none⟩ = some (.bool nq) ∧ w'.cell? ⟨w.heap.size + 1, 1, none⟩ = some (.slice uq lq kq) ∧ w'.cell? ⟨w.heap.size + 1, 2, none⟩ = some (.int .i64 eq)) ∧ (w'.cell? ⟨w.heap.size + 1 + 1, 0, none⟩ = some (.bool nd) ∧ w'.cell? ⟨w.heap.size + 1 + 1, 1, none⟩ = some (.slice ud ld kd) ∧ w'.cell? ⟨w.heap.size + 1 + 1, 2, none⟩ = some (.int .i64 ed))) ∧ Bw W w') (first | (with_reducible assumption) | exact ⟨⟨⟨a0, a1, a2⟩, ⟨b0, b1, b2⟩, ⟨c0, c1, c2⟩⟩, hBR⟩ | (refine HC.out _ ?_; with_reducible assumption) | (refine HC.out _ ?_; refine Below.alloc (by with_reducible assumption) (Below.size (by with_reducible assumption)) _) | (refine HC.out _ (below_store3 (by first | (with_reducible assumption) | exact hb8.alloc hb8.size _) (by first | exact Nat.le_refl _ | exact hb5.size | exact hb6.size | exact hb7.size | exact hb8.size) _ _ _)) | go_keep)
      (first | (go_at_call 101; refine (kT' _ (by first | (with_reducible assumption) | exact hBR.alloc hBR.size _)).mono ?_; rintro r w5 ⟨A5, rfl, hd5, hb5, hk5⟩; first | (have HBX : Hid (w5.heap[W.heap.size]? = some (.cells #[.bool false, .slice none 0 0, .int .i64 0] 47 (0, 0))) := hk5.out _ _ (heap_alloc_new W.drew _)) | (have HBX : Hid True := trivial))
             | (go_at_call 77; refine (kV' _ _ (by first | (with_reducible assumption) | exact hd6.later ((Below.refl _ _).alloc (Nat.le_refl _) _)) (by first | (with_reducible assumption) | exact hb6.alloc hb6.size _)).mono ?_; rintro r w7 ⟨A7, rfl, hd7, hb7, hq7, hk7⟩; have hd5 := (show PN w7 A5 tt from by first | exact hd5.later hq7 | exact (hd5.later ((Below.refl _ _).alloc (Nat.le_refl _) _)).later hq7); first | (have HBU := hidOf (hk7.out _ _ HBY.out)) | (have HBU : Hid (w7.heap[w6.heap.size]? = some (.cells #[.bool false, .slice none 0 0, .int .i64 0] 47 (0, 0))) := hk7.out _ _ (heap_alloc_new w6 _)) | (have HBU : Hid True := trivial))
             | (go_at_call 100; first
                | ((with_reducible refine (kP' _ (by first | (with_reducible assumption) | exact hb5.alloc hb5.size _)).mono ?_); rintro r w6 ⟨A6, rfl, hd6, hb6, hq6, hk6⟩; have hd5 := (show PN w6 A5 tt from by first | exact hd5.later hq6 | exact (hd5.later ((Below.refl _ _).alloc (Nat.le_refl _) _)).later hq6); first | (have HBY := hidOf (hk6.out _ _ HBX.out)) | (have HBY : Hid (w6.heap[w5.heap.size]? = some (.cells #[.bool false, .slice none 0 0, .int .i64 0] 47 (0, 0))) := hk6.out _ _ (heap_alloc_new w5 _)) | (have HBY : Hid True := trivial))
                | (refine (kG' _ _ _ (by first | (with_reducible assumption) | exact hd5.later ((Below.refl _ _).alloc (Nat.le_refl _) _)) (by first | (with_reducible assumption) | exact hd7.later ((Below.refl _ _).alloc (Nat.le_refl _) _)) (by first | (with_reducible assumption) | exact hb7.alloc hb7.size _)).mono ?_; rintro r w8 ⟨s8, ao8, n8, cap8, ex8, rfl, hn8, hb8, hk8⟩; first | (have HBZ := hidOf (hk8.out _ _ HBU.out); obtain ⟨⟨x1, x2, x3⟩, x4, x5, x6⟩ := box_cells HBZ.out) | (have HBZ : Hid (w8.heap[w7.heap.size]? = some (.cells #[.bool false, .slice none 0 0, .int .i64 0] 47 (0, 0))) := hk8.out _ _ (heap_alloc_new w7 _); obtain ⟨⟨x1, x2, x3⟩, x4, x5, x6⟩ := box_cells HBZ.out) | (have HBZ : Hid True := trivial))))
    all_goals go_wp2_with fail
    all_goals go_meet
    all_goals first
      | exact ⟨_, _, _, _, _, _, rfl, Bp3.new hn8 hb8⟩
      | exact ⟨_, _, _, _, _, _, rfl, Bp3.put hn8 hb8 hb7.size HBZ.out⟩
      | exact ⟨_, _, _, _, _, _, rfl, Bp3.put hn8 hb8 hb6.size HBZ.out⟩
      | exact ⟨_, _, _, _, _, _, rfl, Bp3.put hn8 hb8 hb5.size HBZ.out⟩
      | exact ⟨_, _, _, _, _, _, rfl, Bp3.put hn8 hb8 (Nat.le_refl _) HBZ.out⟩
  case rest =>
    obtain ⟨w8, rfl⟩ : ∃ w8 : World, w8 = wc := ⟨_, rfl⟩
    obtain ⟨gg, sg, aog, ng, kg, exg, rfl, H8⟩ := hcut
    have hsg : sg = tg.1 := by
      obtain ⟨_, _, e, -⟩ := H8.out.2.2.2
      simp only [Value.agg.injEq, Array.mk.injEq, List.cons.injEq, Value.bool.injEq] at e
      exact e.1
    have HW8 : Hid (Bw w w8) := HH.out.1.trans (H8.out.2.2.1.mono HH.out.1.size)
    clear kT' kP' kV' kG' hBR a0 a1 a2 b0 b1 b2 c0 c1 c2
    obtain ⟨⟨a0, a1, a2⟩, -⟩ := box_cells H8.out.1
    cases hg : tg.1
    · rw [hg] at hsg
      subst hsg
      have HK7 : Hid (∀ w', Bw w8 w' → ((w'.cell? ⟨gg, 0, none⟩ = some (.bool false) ∧ w'.cell? ⟨gg, 1, none⟩ = some (.slice aog ng kg) ∧ w'.cell? ⟨gg, 2, none⟩ = some (.int .i64 exg)) ∧ (w'.cell? ⟨w.heap.size, 0, none⟩ = some (.bool np) ∧ w'.cell? ⟨w.heap.size, 1, none⟩ = some (.slice up lp kp) ∧ w'.cell? ⟨w.heap.size, 2, none⟩ = some (.int .i64 ep)) ∧ (w'.cell? ⟨w.heap.size + 1, 0, none⟩ = some (.bool nq) ∧ w'.cell? ⟨w.heap.size + 1, 1, none⟩ = some (.slice uq lq kq) ∧ w'.cell? ⟨w.heap.size + 1, 2, none⟩ = some (.int .i64 eq))) ∧ Bw w8 w') := fun w' hb => ⟨⟨(box_cells (box_later H8.out.1 hb (lt_of_box H8.out.1))).1, (HC.out w' (H8.out.2.2.1.trans (hb.mono H8.out.2.2.1.size))).1.1, (HC.out w' (H8.out.2.2.1.trans (hb.mono H8.out.2.2.1.size))).1.2.1⟩, hb⟩
      have kW' : ∀ w4, Bw w8 w4 → Calls Tryz.prog 72 #[.int .i64 4] w4 fun r w' => ∃ A, r = .returned A ∧ PN w' A t4 ∧ Bw w8 w' := fun w4 hb => (HW.out w4 (HW8.out.trans (hb.mono HW8.out.size))).mono fun r w' ⟨A, e1, o1, o2⟩ => ⟨A, e1, o1, hb.trans (o2.mono hb.size)⟩
      have kM' : ∀ X w4, PN w4 X t4 → Bw w8 w4 → Calls Tryz.prog 101 #[.agg #[.bool np, .slice up lp kp, .int .i64 ep], .agg #[.bool nq, .slice uq lq kq, .int .i64 eq]] w4 fun r w' => ∃ A, r = .returned A ∧ PN w' A tm ∧ PN w' X t4 ∧ Bw w8 w' := fun X w4 h hb => (HM.out w4 _ _ (HW8.out.trans (hb.mono HW8.out.size)) (HD.out.1.later (H8.out.2.2.1.trans (hb.mono H8.out.2.2.1.size))) (HD.out.2.1.later (H8.out.2.2.1.trans (hb.mono H8.out.2.2.1.size)))).mono fun r w' ⟨A, e1, o1, o2⟩ => ⟨A, e1, o1, h.later o2, hb.trans (o2.mono hb.size)⟩
      have kQ' : ∀ X Y w4, PN w4 X t4 → PN w4 Y tm → Bw w8 w4 → Calls Tryz.prog 101 #[X, Y] w4 fun r w' => ∃ A, r = .returned A ∧ PN w' A tk ∧ Bw w8 w' := fun X Y w4 h1 h2 hb => (HQ.out w4 _ _ (HW8.out.trans (hb.mono HW8.out.size)) h1 h2).mono fun r w' ⟨A, e1, o1, o2⟩ => ⟨A, e1, o1, hb.trans (o2.mono hb.size)⟩
      have kN' : ∀ X w4, PN w4 X tk → Bw w8 w4 → Calls Tryz.prog 101 #[.agg #[.bool false, .slice aog ng kg, .int .i64 exg], .agg #[.bool false, .slice aog ng kg, .int .i64 exg]] w4 fun r w' => ∃ A, r = .returned A ∧ PN w' A tn ∧ PN w' X tk ∧ Bw w8 w' := fun X w4 h hb => (HN.out w4 _ _ (HW8.out.trans (hb.mono HW8.out.size)) (H8.out.2.2.2.later hb) (H8.out.2.2.2.later hb)).mono fun r w' ⟨A, e1, o1, o2⟩ => ⟨A, e1, o1, h.later o2, hb.trans (o2.mono hb.size)⟩
      have kO' : ∀ X Y w4, PN w4 X tk → PN w4 Y tn → Bw w8 w4 → Calls Tryz.prog 151 #[X, Y] w4 fun r w' => r = .returned (.int .i64 o) ∧ Bw w8 w' := fun X Y w4 h1 h2 hb => (HO.out w4 _ _ (HW8.out.trans (hb.mono HW8.out.size)) h1 h2).mono fun r w' ⟨e1, o2⟩ => ⟨e1, hb.trans (o2.mono hb.size)⟩
      have hBR : Bw w8 w8.drew := (Below.refl _ _).drew
      obtain ⟨⟨-, ⟨b0, b1, b2⟩, ⟨c0, c1, c2⟩⟩, -⟩ := HK7.out w8 (Below.refl _ _)
      go_upto_region 4 with fail
      go_region_held3 (fun w' => ((w'.cell? ⟨gg, 0, none⟩ = some (.bool false) ∧ w'.cell? ⟨gg, 1, none⟩ = some (.slice aog ng kg) ∧ w'.cell? ⟨gg, 2, none⟩ = some (.int .i64 exg)) ∧ (w'.cell? ⟨w.heap.size, 0, none⟩ = some (.bool np) ∧ w'.cell? ⟨w.heap.size, 1, none⟩ = some (.slice up lp kp) ∧ w'.cell? ⟨w.heap.size, 2, none⟩ = some (.int .i64 ep)) ∧ (w'.cell? ⟨w.heap.size + 1, 0, none⟩ = some (.bool nq) ∧ w'.cell? ⟨w.heap.size + 1, 1, none⟩ = some (.slice uq lq kq) ∧ w'.cell? ⟨w.heap.size + 1, 2, none⟩ = some (.int .i64 eq))) ∧ Bw w8 w') (first | (with_reducible assumption) | exact ⟨⟨⟨a0, a1, a2⟩, ⟨b0, b1, b2⟩, ⟨c0, c1, c2⟩⟩, hBR⟩ | (refine HK7.out _ ?_; with_reducible assumption) | go_keep)
        (first | (go_at_call 72; refine (kW' _ (by first | (with_reducible assumption) | exact hBR)).mono ?_; rintro r w9 ⟨A9, rfl, hd9, hb9⟩)
               | (go_at_call 101; first | (with_reducible refine (kM' _ _ hd9 hb9).mono ?_; rintro r w10 ⟨A10, rfl, hd10, hd9, hb10⟩) | (with_reducible refine (kQ' _ _ _ hd9 hd10 hb10).mono ?_; rintro r w11 ⟨A11, rfl, hd11, hb11⟩) | (refine (kN' _ _ hd11 hb11).mono ?_; rintro r w12 ⟨A12, rfl, hd12, hd11, hb12⟩))
               | (go_at_call 151; refine (kO' _ _ _ hd11 hd12 hb12).mono ?_; rintro r w13 ⟨rfl, hb13⟩))
      go_wp2_with fail
      go_ret
      exact ⟨by unfold coR; simp [hg], HW8.out.trans (hb13.mono HW8.out.size)⟩
    · rw [hg] at hsg
      subst hsg
      go_wp2_with fail
      go_ret
      exact ⟨by unfold coR; simp [hg], HW8.out⟩
end Go.Proofs.YtgdhdailchonmabGreatDoor
namespace Go.Proofs.YtgdhdailchonmabGreatDoor
open Go Go.RowKit Go.Fl64
def stR (f g:Nat) (o:Int):Nat:=if 0<o then g else if o=0∧stp f=0 then 0 else f
theorem settled_1 (nc : Bool) (uc : Option Addr) (lc kc : Nat) (ec : Int) (np : Bool) (up : Option Addr) (lp kp : Nat) (ep : Int) (nq : Bool) (uq : Option Addr) (lq kq : Nat) (eq : Int) (f g : Nat) (tf tv td : Bool × Nat × Int) (o : Int) (w : World) (hf : f < 18446744073709551616) (hm : mag f ≤ 9218868437227405312)
    (kF : ∀ W, Bw w W → Calls Tryz.prog 73 #[.float .f64 f] W fun r w' => ∃ A, r = .returned (.tuple #[A, .int .i64 0]) ∧ PN w' A tf ∧ Bw W w')
    (kV : ∀ W, Bw w W → Calls Tryz.prog 77 #[.agg #[.bool nc, .slice uc lc kc, .int .i64 ec]] W fun r w' => ∃ A, r = .returned A ∧ PN w' A tv ∧ Bw W w')
    (kS : ∀ W X Y, Bw w W → PN W X tf → PN W Y tv → Calls Tryz.prog 100 #[X, Y] W fun r w' => ∃ A, r = .returned A ∧ PN w' A td ∧ Bw W w')
    (kC : ∀ W X, Bw w W → PN W X td → Calls Tryz.prog 152 #[.agg #[.bool np, .slice up lp kp, .int .i64 ep], .agg #[.bool nq, .slice uq lq kq, .int .i64 eq], X] W fun r w' => r = .returned (.int .i64 o) ∧ Bw W w')
    (kN : ∀ W, Calls Tryz.prog 153 #[.float .f64 f] W fun r w' => r = .returned (.float .f64 g) ∧ w' = W) :
    Calls Tryz.prog 140 #[.float .f64 f, .agg #[.bool nc, .slice uc lc kc, .int .i64 ec], .agg #[.bool np, .slice up lp kp, .int .i64 ep], .agg #[.bool nq, .slice uq lq kq, .int .i64 eq]] w fun r w' => r = .returned (.float .f64 (stR f g o)) ∧ Bw w w' := by
  obtain ⟨W, hW⟩ : ∃ W, W = ((w.alloc (.cells #[.bool nc, .slice uc lc kc, .int .i64 ec] 47)).alloc (.cells #[.bool np, .slice up lp kp, .int .i64 ep] 47)).alloc (.cells #[.bool nq, .slice uq lq kq, .int .i64 eq] 47) := ⟨_, rfl⟩
  obtain ⟨hA, hBb, hC, hsz, hBW⟩ := boxes3 _ _ _ hW
  have HH : Hid (Bw w W ∧ W.heap.size = w.heap.size + 1 + 1 + 1) := ⟨hBW, hsz⟩
  have HF : Hid _ := kF
  have HV : Hid _ := kV
  have HS : Hid _ := kS
  have HC : Hid _ := kC
  have HN : Hid _ := kN
  have HD : Hid (f < 18446744073709551616 ∧ mag f ≤ 9218868437227405312) := ⟨hf, hm⟩
  have HK : Hid (∀ w', Bw W w' → ((w'.cell? ⟨w.heap.size, 0, none⟩ = some (.bool nc) ∧ w'.cell? ⟨w.heap.size, 1, none⟩ = some (.slice uc lc kc) ∧ w'.cell? ⟨w.heap.size, 2, none⟩ = some (.int .i64 ec)) ∧ (w'.cell? ⟨w.heap.size + 1, 0, none⟩ = some (.bool np) ∧ w'.cell? ⟨w.heap.size + 1, 1, none⟩ = some (.slice up lp kp) ∧ w'.cell? ⟨w.heap.size + 1, 2, none⟩ = some (.int .i64 ep)) ∧ (w'.cell? ⟨w.heap.size + 1 + 1, 0, none⟩ = some (.bool nq) ∧ w'.cell? ⟨w.heap.size + 1 + 1, 1, none⟩ = some (.slice uq lq kq) ∧ w'.cell? ⟨w.heap.size + 1 + 1, 2, none⟩ = some (.int .i64 eq))) ∧ Bw W w') := fun w' hb => ⟨⟨(box_cells (box_later hA hb (by omega))).1, (box_cells (box_later hBb hb (by omega))).1, (box_cells (box_later hC hb (by omega))).1⟩, hb⟩
  have kk := kF W hBW
  clear hA hBb hC hsz hBW hf hm kF kV kS kC kN
  go_enter Tryz.func140, Tryz.ntmps140
  go_wp2_with fail
  rw [← hW]
  clear hW
  refine kk.mono ?_
  rintro r w1 ⟨A1, rfl, hd1, hb1⟩
  obtain ⟨sv', aov, nv, kv, ev, rfl⟩ := hd1.shape
  have HB1 : Hid (Bw W w1 ∧ PN w1 (.agg #[.bool sv', .slice aov nv kv, .int .i64 ev]) tf) := ⟨hb1, hd1⟩
  clear kk hb1 hd1
  obtain ⟨w2, hw2⟩ : ∃ w2, w2 = w1.alloc (.cells #[.bool sv', .slice aov nv kv, .int .i64 ev] 47) := ⟨_, rfl⟩
  have HB2 : Hid (Bw w w2 ∧ Bw W w2 ∧ PN w2 (.agg #[.bool sv', .slice aov nv kv, .int .i64 ev]) tf ∧ w2.heap[w1.heap.size]? = some (.cells #[.bool sv', .slice aov nv kv, .int .i64 ev] 47 (0, 0))) := by
    have h1 : Bw w1 w2 := by rw [hw2]; exact (Below.refl _ _).alloc (Nat.le_refl _) _
    have h2 : Bw W w2 := HB1.out.1.trans (h1.mono HB1.out.1.size)
    exact ⟨HH.out.1.trans (h2.mono HH.out.1.size), h2, HB1.out.2.later h1, by rw [hw2]; exact heap_alloc_new _ _⟩
  have HK2 : Hid (∀ w', Bw w2 w' → ((w'.cell? ⟨w1.heap.size, 0, none⟩ = some (.bool sv') ∧ w'.cell? ⟨w1.heap.size, 1, none⟩ = some (.slice aov nv kv) ∧ w'.cell? ⟨w1.heap.size, 2, none⟩ = some (.int .i64 ev)) ∧ (w'.cell? ⟨w.heap.size, 0, none⟩ = some (.bool nc) ∧ w'.cell? ⟨w.heap.size, 1, none⟩ = some (.slice uc lc kc) ∧ w'.cell? ⟨w.heap.size, 2, none⟩ = some (.int .i64 ec)) ∧ (w'.cell? ⟨w.heap.size + 1, 0, none⟩ = some (.bool np) ∧ w'.cell? ⟨w.heap.size + 1, 1, none⟩ = some (.slice up lp kp) ∧ w'.cell? ⟨w.heap.size + 1, 2, none⟩ = some (.int .i64 ep)) ∧ (w'.cell? ⟨w.heap.size + 1 + 1, 0, none⟩ = some (.bool nq) ∧ w'.cell? ⟨w.heap.size + 1 + 1, 1, none⟩ = some (.slice uq lq kq) ∧ w'.cell? ⟨w.heap.size + 1 + 1, 2, none⟩ = some (.int .i64 eq))) ∧ Bw w2 w') := fun w' hb => ⟨⟨(box_cells (box_later HB2.out.2.2.2 hb (lt_of_box HB2.out.2.2.2))).1, (HK.out w' (HB2.out.2.1.trans (hb.mono HB2.out.2.1.size))).1⟩, hb⟩
  have kV' : ∀ w4, Bw w2 w4 → Calls Tryz.prog 77 #[.agg #[.bool nc, .slice uc lc kc, .int .i64 ec]] w4 fun r w' => ∃ A, r = .returned A ∧ PN w' A tv ∧ Bw w2 w' := fun w4 hb => (HV.out w4 (HB2.out.1.trans (hb.mono HB2.out.1.size))).mono fun r w' ⟨A, e1, o1, o2⟩ => ⟨A, e1, o1, hb.trans (o2.mono hb.size)⟩
  have kS' : ∀ Y w4, PN w4 Y tv → Bw w2 w4 → Calls Tryz.prog 100 #[.agg #[.bool sv', .slice aov nv kv, .int .i64 ev], Y] w4 fun r w' => ∃ A, r = .returned A ∧ PN w' A td ∧ Bw w2 w' := fun Y w4 h hb => (HS.out w4 _ _ (HB2.out.1.trans (hb.mono HB2.out.1.size)) (HB2.out.2.2.1.later hb) h).mono fun r w' ⟨A, e1, o1, o2⟩ => ⟨A, e1, o1, hb.trans (o2.mono hb.size)⟩
  have kC' : ∀ X w4, PN w4 X td → Bw w2 w4 → Calls Tryz.prog 152 #[.agg #[.bool np, .slice up lp kp, .int .i64 ep], .agg #[.bool nq, .slice uq lq kq, .int .i64 eq], X] w4 fun r w' => r = .returned (.int .i64 o) ∧ Bw w2 w' := fun X w4 h hb => (HC.out w4 _ (HB2.out.1.trans (hb.mono HB2.out.1.size)) h).mono fun r w' ⟨e1, o2⟩ => ⟨e1, hb.trans (o2.mono hb.size)⟩
  obtain ⟨⟨⟨v0, v1, v2⟩, ⟨a0, a1, a2⟩, ⟨b0, b1, b2⟩, ⟨c0, c1, c2⟩⟩, -⟩ := HK2.out w2 (Below.refl _ _)
  have hBR : Bw w2 w2.drew := (Below.refl _ _).drew
  have hz := eq0 HD.out.1 HD.out.2
  go_upto_region 2 with fail
  rw [← hw2]
  clear hw2
  generalize w1.heap.size = gv at *
  go_region_held3 (fun w' => ((w'.cell? ⟨gv, 0, none⟩ = some (.bool sv') ∧ w'.cell? ⟨gv, 1, none⟩ = some (.slice aov nv kv) ∧ w'.cell? ⟨gv, 2, none⟩ = some (.int .i64 ev)) ∧ (w'.cell? ⟨w.heap.size, 0, none⟩ = some (.bool nc) ∧ w'.cell? ⟨w.heap.size, 1, none⟩ = some (.slice uc lc kc) ∧ w'.cell? ⟨w.heap.size, 2, none⟩ = some (.int .i64 ec)) ∧ (w'.cell? ⟨w.heap.size + 1, 0, none⟩ = some (.bool np) ∧ w'.cell? ⟨w.heap.size + 1, 1, none⟩ = some (.slice up lp kp) ∧ w'.cell? ⟨w.heap.size + 1, 2, none⟩ = some (.int .i64 ep)) ∧ (w'.cell? ⟨w.heap.size + 1 + 1, 0, none⟩ = some (.bool nq) ∧ w'.cell? ⟨w.heap.size + 1 + 1, 1, none⟩ = some (.slice uq lq kq) ∧ w'.cell? ⟨w.heap.size + 1 + 1, 2, none⟩ = some (.int .i64 eq))) ∧ Bw w2 w') (first | (with_reducible assumption) | exact ⟨⟨⟨v0, v1, v2⟩, ⟨a0, a1, a2⟩, ⟨b0, b1, b2⟩, ⟨c0, c1, c2⟩⟩, hBR⟩ | (refine HK2.out _ ?_; with_reducible assumption) | go_keep)
    (first | (go_at_call 77; refine (kV' _ (by first | (with_reducible assumption) | exact hBR)).mono ?_; rintro r w5 ⟨A5, rfl, hd5, hb5⟩)
           | (go_at_call 100; refine (kS' _ _ hd5 hb5).mono ?_; rintro r w6 ⟨A6, rfl, hd6, hb6⟩)
           | (go_at_call 152; refine (kC' _ _ hd6 hb6).mono ?_; rintro r w7 ⟨rfl, hb7⟩))
  have HB7 : Hid (Bw w w7) := HB2.out.1.trans (hb7.mono HB2.out.1.size)
  clear hb7 hb6 hb5 hd5 hd6 kV' kS' kC' hBR v0 v1 v2 a0 a1 a2 b0 b1 b2 c0 c1 c2
  by_cases h1 : 0 < o
  · have hd1 : decide (o > 0) = true := decide_eq_true h1
    have hR : stR f g o = g := by unfold stR; rw [if_pos h1]
    clear h1
    have kn := HN.out w7
    go_wp2_with fail
    refine kn.mono ?_
    rintro r w' ⟨rfl, hw⟩
    rw [hw]
    clear hw kn w'
    go_wp2_with fail
    go_ret
    exact ⟨by rw [hR]; rfl, HB7.out⟩
  · have hd1 : decide (o > 0) = false := decide_eq_false h1
    by_cases h2 : o = 0
    · have hd2 : (o == 0) = true := by simp [h2]
      by_cases h3 : stp f = 0
      · rw [decide_eq_true h3] at hz
        have hR : stR f g o = 0 := by unfold stR; rw [if_neg h1, if_pos ⟨h2, h3⟩]
        clear h1 h2 h3
        go_wp2_with fail
        go_ret
        exact ⟨by rw [hR]; rfl, HB7.out⟩
      · rw [decide_eq_false h3] at hz
        have hR : stR f g o = f := by unfold stR; rw [if_neg h1, if_neg (fun h => h3 h.2)]
        clear h1 h2 h3
        go_wp2_with fail
        go_ret
        exact ⟨by rw [hR]; rfl, HB7.out⟩
    · have hd2 : (o == 0) = false := by rw [beq_eq_false_iff_ne]; exact h2
      have hR : stR f g o = f := by unfold stR; rw [if_neg h1, if_neg (fun h => h2 h.1)]
      clear h1 h2 hz
      go_wp2_with fail
      go_ret
      exact ⟨by rw [hR]; rfl, HB7.out⟩
end Go.Proofs.YtgdhdailchonmabGreatDoor
namespace Go.Proofs.YtgdhdailchonmabGreatDoor
open Go.RowKit Go.Fl64
def upRes (xP xQ:Bool) (F F2 R:Nat):Nat:=if(xP&&xQ)||lt 9218868437227405311 (mag F)then F else if same F F2 then F else R
theorem up_all (na xP xQ : Bool) (ua va wa : Option Addr) (un uc vn vc wn wk mP mQ F F2 R : Nat) (ea eb ec : Int) (w : World) (hT : Tab32 w)
    (hP : dlen mP ≤ 100000) (hQ : dlen mQ ≤ 100000) (hL2 : dlen (mP + mQ) ≤ 1000000000) (sL sH : Bool) (zL zH : Nat) (eL eH : Int) (hF : F < 18446744073709551616) (hF2 : F2 < 18446744073709551616)
    (kR1 : ∀ W a b, Bw w W → Nrm W b a sL zL eL → Calls Tryz.prog 79 #[a, .int .i64 3] W fun r w' => r = .returned (.float .f64 F) ∧ Bw W w')
    (kR2 : ∀ W a b, Bw w W → Nrm W b a sH zH eH → Calls Tryz.prog 79 #[a, .int .i64 3] W fun r w' => r = .returned (.float .f64 F2) ∧ Bw W w')
    (kH : ∀ W a b m b', Bw w W → Nrm W b a sL zL eL → Own W b' m 1 → Calls Tryz.prog 100 #[a, .agg #[.bool false, m, .int .i64 (-1075)]] W fun r w' => ∃ a, r = .returned a ∧ Nrm w' W.heap.size a sH zH eH ∧ Bw W w')
    (kL : ∀ W m b, Bw w W → Nrm W b m false (mP + mQ) (-1076) → Calls Tryz.prog 100 #[.agg #[.bool na, .slice ua un uc, .int .i64 ea], m] W fun r w' => ∃ a, r = .returned a ∧ Nrm w' W.heap.size a sL zL eL ∧ Bw W w')
    (k67 : ∀ W g, Bw w W → W.heap[g]? = some (.cells #[.bool na, .slice ua un uc, .int .i64 ea, .bool false, .slice va vn vc, .int .i64 eb, .bool false, .slice wa wn wk, .int .i64 ec] 47 (0, 0)) → Calls Tryz.prog 76 #[.slice (some ⟨g, 0, none⟩) 3 3] W fun r w' => r = .returned (.bool true) ∧ Bw W w')
    (kP : ∀ W, Bw w W → Calls Tryz.prog 97 #[NumV false (.slice va vn vc) eb, .int .i64 1076] W fun r w' => ∃ v, r = .returned (.tuple #[v, .bool xP]) ∧ Own w' W.heap.size v mP ∧ Bw W w')
    (kQ : ∀ W, Bw w W → Calls Tryz.prog 97 #[NumV false (.slice wa wn wk) ec, .int .i64 1076] W fun r w' => ∃ v, r = .returned (.tuple #[v, .bool xQ]) ∧ Own w' W.heap.size v mQ ∧ Bw W w')
    (kS : (xP && xQ) = false → same F F2 = false → lt 9218868437227405311 (mag F) = false → ∀ W, Bw w W → Calls Tryz.prog 140 #[.float .f64 F, NumV na (.slice ua un uc) ea, NumV false (.slice va vn vc) eb, NumV false (.slice wa wn wk) ec] W fun r w' => r = .returned (.float .f64 R) ∧ Bw W w') :
    Calls Tryz.prog 118 #[NumV na (.slice ua un uc) ea, NumV false (.slice va vn vc) eb, NumV false (.slice wa wn wk) ec] w fun r w' => r = .returned (.tuple #[.float .f64 (upRes xP xQ F F2 R), .int .i64 0]) ∧ Bw w w' := by
  obtain ⟨W, hW⟩ : ∃ W, W = ((w.alloc (.cells #[.bool na, .slice ua un uc, .int .i64 ea] 47)).alloc (.cells #[.bool false, .slice va vn vc, .int .i64 eb] 47)).alloc (.cells #[.bool false, .slice wa wn wk, .int .i64 ec] 47) := ⟨_, rfl⟩
  obtain ⟨hA, hBb, hC, hsz, hBW⟩ := boxes3 _ _ _ hW
  have hB4 : Below w.heap.size w (W.alloc (.cells #[.bool na, .slice ua un uc, .int .i64 ea, .bool false, .slice va vn vc, .int .i64 eb, .bool false, .slice wa wn wk, .int .i64 ec] 47)) := hBW.alloc hBW.size _
  have k1 := k67 (W.alloc (.cells #[.bool na, .slice ua un uc, .int .i64 ea, .bool false, .slice va vn vc, .int .i64 eb, .bool false, .slice wa wn wk, .int .i64 ec] 47)) (w.heap.size + 1 + 1 + 1) hB4 (by rw [← hsz]; exact heap_alloc_new _ _)
  have HH : Hid (Bw w W ∧ Below W.heap.size W (W.alloc (.cells #[.bool na, .slice ua un uc, .int .i64 ea, .bool false, .slice va vn vc, .int .i64 eb, .bool false, .slice wa wn wk, .int .i64 ec] 47)) ∧ W.heap.size = w.heap.size + 1 + 1 + 1 ∧ W.heap[w.heap.size]? = some (.cells #[.bool na, .slice ua un uc, .int .i64 ea] 47 (0, 0)) ∧ W.heap[w.heap.size + 1]? = some (.cells #[.bool false, .slice va vn vc, .int .i64 eb] 47 (0, 0)) ∧ W.heap[w.heap.size + 1 + 1]? = some (.cells #[.bool false, .slice wa wn wk, .int .i64 ec] 47 (0, 0)) ∧ Tab32 W) := ⟨hBW, (Below.refl _ _).alloc (Nat.le_refl _) _, hsz, hA, hBb, hC, hT.later hBW⟩
  have HKP : Hid _ := kP
  have HKQ : Hid _ := kQ
  have HKL : Hid _ := kL
  have HL : Hid (dlen mP ≤ 100000 ∧ dlen mQ ≤ 100000) := ⟨hP, hQ⟩
  have HR1 : Hid _ := kR1
  have HR2 : Hid _ := kR2
  have HKH : Hid _ := kH
  have HF : Hid (F < 18446744073709551616 ∧ F2 < 18446744073709551616) := ⟨hF, hF2⟩
  have HKS : Hid _ := kS
  unfold NumV
  clear kR1 kR2 kH hF hF2 kS hA hBb hC hsz hBW hB4 k67 kP kQ hP hQ hT kL
  go_enter Tryz.func118, Tryz.ntmps118
  go_wp2_with fail
  rw [← hW]
  clear hW
  refine k1.mono ?_
  rintro r w1 ⟨rfl, hB1⟩
  clear k1
  have HB1 : Hid (Bw W w1) := HH.out.2.1.trans (hB1.mono HH.out.2.1.size)
  clear hB1
  obtain ⟨⟨b0, b1, b2⟩, -⟩ := box_cells (box_later HH.out.2.2.2.2.1 HB1.out (by have := HH.out.2.2.1; omega))
  obtain ⟨⟨c0, c1, c2⟩, -⟩ := box_cells (box_later HH.out.2.2.2.2.2.1 HB1.out (by have := HH.out.2.2.1; omega))
  go_wp2_with fail
  refine (HKP.out w1 (HH.out.1.trans (HB1.out.mono HH.out.1.size))).mono ?_
  rintro r w2 ⟨vP, rfl, hoP, hB2⟩
  have HB2 : Hid (Bw W w2) := HB1.out.trans (hB2.mono HB1.out.size)
  have HOP : Hid (Own w2 w1.heap.size vP mP) := hoP
  clear hoP hB2 b0 b1 b2 c0 c1 c2
  obtain ⟨⟨c0, c1, c2⟩, -⟩ := box_cells (box_later HH.out.2.2.2.2.2.1 HB2.out (by have := HH.out.2.2.1; omega))
  go_wp2_with fail
  refine (HKQ.out w2 (HH.out.1.trans (HB2.out.mono HH.out.1.size))).mono ?_
  rintro r w3 ⟨vQ, rfl, hoQ, hB3⟩
  have HB3 : Hid (Bw W w3) := HB2.out.trans (hB3.mono HB2.out.size)
  have HOQ : Hid (Own w3 w2.heap.size vQ mQ ∧ Own w3 w1.heap.size vP mP ∧ Bw w2 w3) := ⟨hoQ, HOP.out.later hB3, hB3⟩
  clear hoQ hB3 c0 c1 c2 HOP
  obtain ⟨⟨a0, a1, a2⟩, -⟩ := box_cells (box_later HH.out.2.2.2.1 HB3.out (by have := HH.out.2.2.1; omega))
  have HK : Hid (∀ w', Bw w3 w' → (w'.cell? ⟨w.heap.size, 0, none⟩ = some (.bool na) ∧ w'.cell? ⟨w.heap.size, 1, none⟩ = some (.slice ua un uc) ∧ w'.cell? ⟨w.heap.size, 2, none⟩ = some (.int .i64 ea)) ∧ Bw w3 w') := fun w' hb => ⟨(box_cells (box_later HH.out.2.2.2.1 (HB3.out.trans (hb.mono HB3.out.size)) (by have := HH.out.2.2.1; omega))).1, hb⟩
  have k122 : ∀ w4, Bw w3 w4 → Calls Tryz.prog 125 #[vP, vQ] w4 fun r w' => ∃ v, r = .returned v ∧ Own w' w3.heap.size v (mP + mQ) ∧ Bw w3 w' ∧ Hid (∀ g o, w4.heap[g]? = some o → w'.heap[g]? = some o) := fun w4 hb =>
    (c122 (HOQ.out.2.1.later hb).is (HOQ.out.1.later hb).is (by have := HL.out.1; omega) (by have := HL.out.2; omega)).mono fun r w' ⟨v, e1, o1, o2⟩ => ⟨v, e1, o1.mono hb.size, hb.trans (o2.mono hb.size), fun g o hg => box_later hg o2 (Array.getElem?_eq_some_iff.1 hg).1⟩
  have k56 : ∀ v5 w5, Own w5 w3.heap.size v5 (mP + mQ) → Bw w3 w5 → Calls Tryz.prog 103 #[.bool false, v5, .int .i64 (-1076)] w5 fun r w' => ∃ m, r = .returned m ∧ Nrm w' w3.heap.size m false (mP + mQ) (-1076) ∧ Bw w3 w' ∧ Hid (∀ g o, w5.heap[g]? = some o → w'.heap[g]? = some o) := fun v5 w5 ho hb =>
    (c56 ho.is hL2 ((HH.out.2.2.2.2.2.2.later HB3.out).later hb) (by omega)).mono fun r w' ⟨v, e1, o1, o2⟩ => ⟨v, e1, o1.mono hb.size, hb.trans (o2.mono hb.size), fun g o hg => box_later hg o2 (Array.getElem?_eq_some_iff.1 hg).1⟩
  have k87 : ∀ m w6, Nrm w6 w3.heap.size m false (mP + mQ) (-1076) → Bw w3 w6 → Calls Tryz.prog 100 #[.agg #[.bool na, .slice ua un uc, .int .i64 ea], m] w6 fun r w' => ∃ s ao n cap ex, r = .returned (.agg #[.bool s, .slice ao n cap, .int .i64 ex]) ∧ Nrm w' w6.heap.size (.agg #[.bool s, .slice ao n cap, .int .i64 ex]) sL zL eL ∧ Bw w3 w' ∧ Hid (∀ g o, w6.heap[g]? = some o → w'.heap[g]? = some o) := fun m w6 hN hb =>
    (HKL.out w6 m w3.heap.size (HH.out.1.trans ((HB3.out.trans (hb.mono HB3.out.size)).mono HH.out.1.size)) hN).mono fun r w' ⟨v, e1, o1, o2⟩ => by
      obtain ⟨s, ao, n, cap, ex, rfl⟩ := o1.shape
      exact ⟨s, ao, n, cap, ex, e1, o1, hb.trans (o2.mono hb.size), fun g o hg => box_later hg o2 (Array.getElem?_eq_some_iff.1 hg).1⟩
  have hBR : Bw w3 w3.drew := (Below.refl _ _).drew
  clear hL2
  go_upto_region 8 with fail
  go_cut [12] from 37 to 42 (fun p wx => ∃ g s ao n cap ex, p = .pointer (some ⟨g, 0, none⟩) ∧ Hid (Bx w3 wx g s ao n cap ex sL zL eL))
  case first =>
    go_region_held3 (fun w' => (w'.cell? ⟨w.heap.size, 0, none⟩ = some (.bool na) ∧ w'.cell? ⟨w.heap.size, 1, none⟩ = some (.slice ua un uc) ∧ w'.cell? ⟨w.heap.size, 2, none⟩ = some (.int .i64 ea)) ∧ Bw w3 w') (first | (with_reducible assumption) | exact ⟨⟨a0, a1, a2⟩, hBR⟩ | (refine HK.out _ ?_; with_reducible assumption) | (refine HK.out _ ?_; refine Below.alloc (by with_reducible assumption) (Below.size (by with_reducible assumption)) _) | (refine HK.out _ (below_store3 (by first | (with_reducible assumption) | exact hb7.alloc hb7.size _) (by first | exact Nat.le_refl _ | exact hb5.size | exact hb6.size | exact hb7.size) _ _ _)) | go_keep)
      (first | (go_at_call 125; refine (k122 _ (by first | (with_reducible assumption) | exact hBR.alloc hBR.size _)).mono ?_; rintro r w5 ⟨v5, rfl, ho5, hb5, hk5⟩; first | (have HBX : Hid (w5.heap[w3.heap.size]? = some (.cells #[.bool false, .slice none 0 0, .int .i64 0] 47 (0, 0))) := hk5.out _ _ (heap_alloc_new w3.drew _)) | (have HBX : Hid True := trivial))
             | (go_at_call 103; refine (k56 _ _ (by first | (with_reducible assumption) | exact ho5.later ((Below.refl _ _).alloc (Nat.le_refl _) _)) (by first | (with_reducible assumption) | exact hb5.alloc hb5.size _)).mono ?_; rintro r w6 ⟨m6, rfl, hn6, hb6, hk6⟩; first | (have HBY := hidOf (hk6.out _ _ HBX.out)) | (have HBY : Hid (w6.heap[w5.heap.size]? = some (.cells #[.bool false, .slice none 0 0, .int .i64 0] 47 (0, 0))) := hk6.out _ _ (heap_alloc_new w5 _)) | (have HBY : Hid True := trivial))
             | (go_at_call 100; refine (k87 _ _ (by first | (with_reducible assumption) | exact Nrm.later hn6 ((Below.refl _ _).alloc (Nat.le_refl _) _)) (by first | (with_reducible assumption) | exact hb6.alloc hb6.size _)).mono ?_; rintro r w7 ⟨s7, ao7, n7, cap7, ex7, rfl, hn7, hb7, hk7⟩; first | (have HBZ := hidOf (hk7.out _ _ HBY.out); obtain ⟨⟨x1, x2, x3⟩, x4, x5, x6⟩ := box_cells HBZ.out) | (have HBZ : Hid (w7.heap[w6.heap.size]? = some (.cells #[.bool false, .slice none 0 0, .int .i64 0] 47 (0, 0))) := hk7.out _ _ (heap_alloc_new w6 _); obtain ⟨⟨x1, x2, x3⟩, x4, x5, x6⟩ := box_cells HBZ.out) | (have HBZ : Hid True := trivial)))
    all_goals go_wp2_with fail
    all_goals go_meet
    all_goals first
      | exact ⟨_, _, _, _, _, _, rfl, Bx.new hn7 hb7 hb6.size⟩
      | exact ⟨_, _, _, _, _, _, rfl, Bx.put hn7 hb7 (Nat.le_trans hb6.size (by simp)) hb6.size (by simp) HBZ.out⟩
      | exact ⟨_, _, _, _, _, _, rfl, Bx.put hn7 hb7 hb6.size hb5.size (lt_of_box HBY.out) HBZ.out⟩
      | exact ⟨_, _, _, _, _, _, rfl, Bx.put hn7 hb7 hb6.size (Nat.le_refl _) (lt_of_box HBY.out) HBZ.out⟩
  case rest =>
    obtain ⟨w8, rfl⟩ : ∃ w8 : World, w8 = wc := ⟨_, rfl⟩
    obtain ⟨g, s8, ao8, n8, cap8, ex8, rfl, H8⟩ := hcut
    obtain ⟨⟨x1, x2, x3⟩, -⟩ := box_cells H8.out.1
    have HW8 : Hid (Bw w w8) := HH.out.1.trans ((HB3.out.trans (H8.out.2.2.1.mono HB3.out.size)).mono HH.out.1.size)
    have kr := HR1.out w8 _ _ HW8.out H8.out.2.2.2
    clear k122 k56 k87 HK hBR a0 a1 a2
    go_wp2_with fail
    refine kr.mono ?_
    rintro r w9 ⟨rfl, hb9⟩
    have HW9 : Hid (Bw w w9 ∧ Bw w8 w9) := ⟨HW8.out.trans (hb9.mono HW8.out.size), hb9⟩
    have H9 : Hid (w9.heap[g]? = some (.cells #[.bool s8, .slice ao8 n8 cap8, .int .i64 ex8] 47 (0, 0))) := box_later H8.out.1 hb9 (lt_of_box H8.out.1)
    have HX : Hid (∀ g o, W.heap[g]? = some o → w9.heap[g]? = some o) := fun g o hg => box_later hg (HB3.out.trans ((H8.out.2.2.1.trans (HW9.out.2.mono H8.out.2.2.1.size)).mono HB3.out.size)) (lt_of_box hg)
    have k66 := c123 F HF.out.1
    clear kr hb9 x1 x2 x3
    by_cases hxx : xP = true ∧ xQ = true
    · obtain ⟨rfl, rfl⟩ := hxx
      go_wp2_with fail
      refine bodyPost_ret (results_tmp2 rfl _ _ _) rfl ?_
      exact ⟨rfl, HW9.out.1⟩
    cases hinf : lt 9218868437227405311 (mag F)
    · rw [hinf] at k66
      rcases (show xP = false ∨ (xP = true ∧ xQ = false) by cases xP <;> cases xQ <;> simp at hxx ⊢) with rfl | ⟨rfl, rfl⟩
      all_goals
        clear hxx
        obtain ⟨⟨a0, a1, a2⟩, -⟩ := box_cells H9.out
        have hBR : Bw w9 w9.drew := (Below.refl _ _).drew
        have HK : Hid (∀ w', Bw w9 w' → (w'.cell? ⟨g, 0, none⟩ = some (.bool s8) ∧ w'.cell? ⟨g, 1, none⟩ = some (.slice ao8 n8 cap8) ∧ w'.cell? ⟨g, 2, none⟩ = some (.int .i64 ex8)) ∧ Bw w9 w') := fun w' hb => ⟨(box_cells (box_later H9.out hb (lt_of_box H9.out))).1, hb⟩
        have k32 : ∀ w4, Bw w9 w4 → Calls Tryz.prog 104 #[.int .u64 1] w4 fun r w' => ∃ ao n cap, r = .returned (.slice ao n cap) ∧ Own w' w9.heap.size (.slice ao n cap) 1 ∧ Bw w9 w' ∧ Hid (∀ g o, w4.heap[g]? = some o → w'.heap[g]? = some o) := fun w4 hb =>
          (c57 1 w4 (by omega)).mono fun r w' ⟨v, e1, o1, o2⟩ => by
            obtain ⟨ao, cap, rfl, -, -, -⟩ := o1.is
            exact ⟨_, _, _, e1, o1.mono hb.size, hb.trans (o2.mono hb.size), fun g o hg => box_later hg o2 (lt_of_box hg)⟩
        have k44 : ∀ am nm cm w6, Own w6 w9.heap.size (.slice am nm cm) 1 → Bw w9 w6 → Calls Tryz.prog 100 #[.agg #[.bool s8, .slice ao8 n8 cap8, .int .i64 ex8], .agg #[.bool false, .slice am nm cm, .int .i64 (-1075)]] w6 fun r w' => ∃ s ao n cap ex, r = .returned (.agg #[.bool s, .slice ao n cap, .int .i64 ex]) ∧ Nrm w' w6.heap.size (.agg #[.bool s, .slice ao n cap, .int .i64 ex]) sH zH eH ∧ Bw w9 w' ∧ Hid (∀ g o, w6.heap[g]? = some o → w'.heap[g]? = some o) := fun am nm cm w6 hN hb =>
          (HKH.out w6 _ _ _ _ (HW9.out.1.trans (hb.mono HW9.out.1.size)) (H8.out.2.2.2.later (HW9.out.2.trans (hb.mono HW9.out.2.size))) hN).mono fun r w' ⟨v, e1, o1, o2⟩ => by
            obtain ⟨s, ao, n, cap, ex, rfl⟩ := o1.shape
            exact ⟨s, ao, n, cap, ex, e1, o1, hb.trans (o2.mono hb.size), fun g o hg => box_later hg o2 (lt_of_box hg)⟩
        go_upto_region 12 with (first | (go_at_call 139; refine (k66 _).mono ?_; rintro e w' ⟨rfl, hw'⟩; replace hw' := hw'.symm; subst hw'))
        clear k66
        go_cut [14] from 54 to 57 (fun p wx => ∃ g s ao n cap ex, p = .pointer (some ⟨g, 0, none⟩) ∧ Hid (Bx w9 wx g s ao n cap ex sH zH eH))
        case first =>
          go_region_held3 (fun w' => (w'.cell? ⟨g, 0, none⟩ = some (.bool s8) ∧ w'.cell? ⟨g, 1, none⟩ = some (.slice ao8 n8 cap8) ∧ w'.cell? ⟨g, 2, none⟩ = some (.int .i64 ex8)) ∧ Bw w9 w') (first | (with_reducible assumption) | exact ⟨⟨a0, a1, a2⟩, hBR⟩ | (refine HK.out _ ?_; with_reducible assumption) | (refine HK.out _ ?_; refine Below.alloc (by with_reducible assumption) (Below.size (by with_reducible assumption)) _) | (refine HK.out _ (below_store3 (by first | (with_reducible assumption) | exact hb7.alloc hb7.size _) (by first | exact Nat.le_refl _ | exact hb5.size | exact hb7.size) _ _ _)) | go_keep)
            (first | (go_at_call 104; refine (k32 _ (by first | (with_reducible assumption) | exact hBR.alloc hBR.size _)).mono ?_; rintro r w5 ⟨am, nm, cm, rfl, ho5, hb5, hk5⟩; first | (have HBY : Hid (w5.heap[w9.heap.size]? = some (.cells #[.bool false, .slice none 0 0, .int .i64 0] 47 (0, 0))) := hk5.out _ _ (heap_alloc_new w9.drew _)) | (have HBY : Hid True := trivial))
                   | (go_at_call 100; refine (k44 _ _ _ _ (by first | (with_reducible assumption) | exact ho5.later ((Below.refl _ _).alloc (Nat.le_refl _) _)) (by first | (with_reducible assumption) | exact hb5.alloc hb5.size _)).mono ?_; rintro r w7 ⟨s7, ao7, n7, cap7, ex7, rfl, hn7, hb7, hk7⟩; first | (have HBZ := hidOf (hk7.out _ _ HBY.out); obtain ⟨⟨x1, x2, x3⟩, x4, x5, x6⟩ := box_cells HBZ.out) | (have HBZ : Hid (w7.heap[w5.heap.size]? = some (.cells #[.bool false, .slice none 0 0, .int .i64 0] 47 (0, 0))) := hk7.out _ _ (heap_alloc_new w5 _); obtain ⟨⟨x1, x2, x3⟩, x4, x5, x6⟩ := box_cells HBZ.out) | (have HBZ : Hid True := trivial)))
          all_goals go_wp2_with fail
          all_goals go_meet
          all_goals first
            | exact ⟨_, _, _, _, _, _, rfl, Bx.new hn7 hb7 hb5.size⟩
            | exact ⟨_, _, _, _, _, _, rfl, Bx.put hn7 hb7 (Nat.le_trans hb5.size (by simp)) hb5.size (by simp) HBZ.out⟩
            | exact ⟨_, _, _, _, _, _, rfl, Bx.put hn7 hb7 hb5.size (Nat.le_refl _) (lt_of_box HBY.out) HBZ.out⟩
        case rest =>
          obtain ⟨w10, rfl⟩ : ∃ w10 : World, w10 = wc := ⟨_, rfl⟩
          obtain ⟨g', s9, ao9, n9, cap9, ex9, rfl, H10⟩ := hcut
          obtain ⟨⟨x1, x2, x3⟩, -⟩ := box_cells H10.out.1
          have HW10 : Hid (Bw w w10) := HW9.out.1.trans (H10.out.2.2.1.mono HW9.out.1.size)
          have kr := HR2.out w10 _ _ HW10.out H10.out.2.2.2
          clear k32 k44 HK hBR a0 a1 a2
          go_wp2_with fail
          refine kr.mono ?_
          rintro r w11 ⟨rfl, hb11⟩
          have k67 := Ie.c11 F F2 HF.out.1 HF.out.2 w11
          have HW11 : Hid (Bw w w11 ∧ Bw W w11) := ⟨HW10.out.trans (hb11.mono HW10.out.size), HB3.out.trans ((H8.out.2.2.1.trans ((HW9.out.2.trans ((H10.out.2.2.1.trans (hb11.mono H10.out.2.2.1.size)).mono HW9.out.2.size)).mono H8.out.2.2.1.size)).mono HB3.out.size)⟩
          clear kr hb11 x1 x2 x3
          cases hsm : same F F2
          · rw [hsm] at k67
            obtain ⟨⟨a0, a1, a2⟩, -⟩ := box_cells (box_later HH.out.2.2.2.1 HW11.out.2 (by have := HH.out.2.2.1; omega))
            obtain ⟨⟨b0, b1, b2⟩, -⟩ := box_cells (box_later HH.out.2.2.2.2.1 HW11.out.2 (by have := HH.out.2.2.1; omega))
            obtain ⟨⟨c0, c1, c2⟩, -⟩ := box_cells (box_later HH.out.2.2.2.2.2.1 HW11.out.2 (by have := HH.out.2.2.1; omega))
            have kk := HKS.out rfl hsm hinf w11 HW11.out.1
            go_wp2_with (first | (go_at_call 109; refine k67.mono ?_; rintro e w' ⟨rfl, hw'⟩; replace hw' := hw'.symm; subst hw'))
            refine kk.mono ?_
            rintro r w12 ⟨rfl, hb12⟩
            have HW12 : Hid (Bw w w12) := HW11.out.1.trans (hb12.mono HW11.out.1.size)
            clear kk hb12 a0 a1 a2 b0 b1 b2 c0 c1 c2
            go_wp2_with fail
            refine bodyPost_ret (results_tmp2 rfl _ _ _) rfl ?_
            exact ⟨by unfold upRes; simp [hinf, hsm], HW12.out⟩
          · rw [hsm] at k67
            go_wp2_with (first | (go_at_call 109; refine k67.mono ?_; rintro e w' ⟨rfl, hw'⟩; replace hw' := hw'.symm; subst hw'))
            refine bodyPost_ret (results_tmp2 rfl _ _ _) rfl ?_
            exact ⟨by unfold upRes; simp [hinf, hsm], HW11.out.1⟩
    · rw [hinf] at k66
      rcases (show xP = false ∨ (xP = true ∧ xQ = false) by cases xP <;> cases xQ <;> simp at hxx ⊢) with rfl | ⟨rfl, rfl⟩
      all_goals
        clear hxx
        go_wp2_with (first | (go_at_call 139; refine (k66 _).mono ?_; rintro e w' ⟨rfl, hw'⟩; replace hw' := hw'.symm; subst hw'))
        refine bodyPost_ret (results_tmp2 rfl _ _ _) rfl ?_
        exact ⟨by unfold upRes; simp [hinf], HW9.out.1⟩
end Go.Proofs.YtgdhdailchonmabGreatDoor
namespace Go.Proofs.YtgdhdailchonmabGreatDoor
open Go Go.RowKit Go.Fl64
theorem zero_or {F:Nat} (hF:F<18446744073709551616) (h:stp F=0):F=if neg F then 9223372036854775808 else 0:=by
 unfold stp sgn neg mag at *
 by_cases h1:9223372036854775808≤F
 ·rw[decide_eq_true h1] at h ⊢
  simp only[if_true] at h ⊢
  omega
 ·rw[decide_eq_false h1] at h ⊢
  simp only[Bool.false_eq_true,if_false] at h ⊢
  omega
theorem inf_stp {F:Nat} (h:Gf F):lt 9218868437227405311 (mag F)=decide (stp F=9218868437227405312):=by
 have h1:=stp_mag F
 have h2:=h.lo
 have h3:=h.hi
 have h4:=h.nn
 have e0:mag (mag F)=mag F:=by unfold mag;omega
 unfold lt
 rw[show isNaN 9218868437227405311=false by decide,show isNaN (mag F)=false from decide_eq_false (by omega),show stp 9218868437227405311=9218868437227405311 by decide]
 have e:stp (mag F)=mag F:=by
  unfold stp sgn neg
  rw[decide_eq_false (by omega)]
  simp only[Bool.false_eq_true,if_false]
  unfold mag;omega
 rw[e]
 simp only[Bool.not_false,Bool.true_and]
 congr 1
 apply propext
 constructor <;> intro h <;> omega
theorem same_fl {F G:Nat} (h1:Gf F) (h2:Gf G) (h:same F G=true):F=G:=by
 have n1:isNaN F=false:=nan_of h1.nn
 unfold same at h
 rw[n1] at h
 have:(F:Int)=G:=by simpa using h
 omega
theorem up_core {c p q:Bool×Nat×Int} {C P Q a b U VL VH:Int} {xP xQ:Bool} {F F2:Nat} (hag:∀ n,agN c p q n=agI C P Q (fvN n*(4*U))) (hU:0<U) (ha:0≤a) (hb:0≤b) (hP1:a*a≤P) (hP2:P<(a+U)*(a+U)) (hQ1:b*b≤Q) (hQ2:Q<(b+U)*(b+U))
  (hxP:xP=true→a*a=P) (hxQ:xQ=true→b*b=Q) (hVL:VL=C+(a+b)) (hVH:VH=VL+2*U)
  (gF:Gf F) (s2:stp F = -9218868437227405311∨fvN (stp F - 1)*(4*U)<VL) (s3:stp F=9218868437227405312∨VL≤fvN (stp F)*(4*U)) (s4:stp F=0→neg F=decide (VL<0))
  (gF2:Gf F2) (r3:stp F2=9218868437227405312∨VH≤fvN (stp F2)*(4*U)) (r4:stp F2=0→neg F2=decide (VH<0)) :
  ∃ n,Lst c p q n∧upRes xP xQ F F2 (stR F (nextA F) (agN c p q (stp F)))=upA c p q n:=by
 have aa:0≤a*a:=Int.mul_nonneg ha ha
 have bb:0≤b*b:=Int.mul_nonneg hb hb
 have high:∀ n,VH≤fvN n*(4*U)→agN c p q n<0:=fun n h=>by
  rw[hag];exact agI_high (a:=a+U) (b:=b+U) (by omega) (by omega) (by omega) (by omega) hP2 hQ2 (by omega)
 have low:∀ n,fvN n*(4*U)<VL→0<agN c p q n:=fun n h=>by
  rw[hag];exact agI_low ha hb hP1 hQ1 (by omega)
 have atv:∀ n,fvN n*(4*U)≤VL→0≤agN c p q n:=fun n h=>by
  rw[hag];exact agI_at ha hb hP1 hQ1 (by omega)
 have f0:fvN 0*(4*U)=0:=by rw[fvN_zero,Int.zero_mul]
 have below:stp F = -9218868437227405311∨0<agN c p q (stp F - 1):=s2.imp id (low _)
 have zF:=fun h=>zero_or gF.lt h
 -- at F itself
 have hereF:(stp F=9218868437227405312∨agN c p q (stp F)≤0)→(stp F=0→neg F=decide (agN c p q 0<0))→∃ n,Lst c p q n∧F=upA c p q n:=fun h h'=>by
  refine⟨stp F,⟨gF.lo,gF.hi,h,below⟩,?_⟩
  unfold upA
  by_cases h0:stp F=0
  ·rw[if_pos h0]
   have e:=zF h0
   rw[h' h0] at e
   by_cases hn:agN c p q 0<0
   ·rw[if_pos hn]
    rw[decide_eq_true hn] at e
    simpa using e
   ·rw[if_neg hn]
    rw[decide_eq_false hn] at e
    simpa using e
  ·rw[if_neg h0,stp_fl gF.lt h0]
 unfold upRes
 by_cases hx:(xP&&xQ||lt 9218868437227405311 (mag F))=true
 ·rw[if_pos hx]
  rw[Bool.or_eq_true,Bool.and_eq_true,inf_stp gF,decide_eq_true_eq] at hx
  rcases hx with ⟨x1,x2⟩|hx
  ·have rt:=fun n=>agI_root (C:=C) (X:=fvN n*(4*U)) ha hb (hxP x1) (hxQ x2)
   refine hereF ?_ ?_
   ·rcases s3 with h|h
    ·exact .inl h
    ·right
     rw[hag]
     rcases(show C+(a+b)=fvN (stp F)*(4*U)∨C+(a+b)<fvN (stp F)*(4*U) by omega)with h|h
     ·rw[(rt _).1 h];omega
     ·have:=(rt _).2 h;omega
   ·intro h0
    rw[s4 h0,hag]
    have h1:VL≤0:=by
     rcases s3 with h|h
     ·omega
     ·rw[h0,f0] at h;exact h
    by_cases hn:VL<0
    ·rw[decide_eq_true hn,decide_eq_true ((rt 0).2 (by rw[f0];omega))]
    ·have e0:=(rt 0).1 (by rw[f0];omega)
     rw[decide_eq_false hn,e0];rfl
  ·exact hereF (.inl hx) (fun h0=>by omega)
 ·rw[if_neg hx]
  have hx':lt 9218868437227405311 (mag F)=false:=by
   revert hx;cases lt 9218868437227405311 (mag F) <;> simp
  rw[inf_stp gF,decide_eq_false_iff_not] at hx'
  have s3:VL≤fvN (stp F)*(4*U):=s3.resolve_left hx'
  by_cases hs:same F F2=true
  ·rw[if_pos hs]
   have e:=same_fl gF gF2 hs
   rw[←e] at r3 r4
   have r3:=r3.resolve_left hx'
   have hh:=high _ r3
   refine hereF (.inr (by omega)) ?_
   intro h0
   rw[h0] at hh
   rw[h0,f0] at r3
   rw[s4 h0,decide_eq_true (show VL<0 by omega),decide_eq_true hh]
  ·rw[if_neg hs]
   have nx:=nextA_stp gF.lt (gF.fin (by have:=gF.hi;omega))
   have hnx:agN c p q (stp F+1)<0:=high _ (by
    have h1:=fvN_succ (stp F)
    have h2:(fvN (stp F)+1)*(4*U)≤fvN (stp F+1)*(4*U):=Int.mul_le_mul_of_nonneg_right h1 (by omega)
    rw[Int.add_mul,Int.one_mul] at h2
    omega)
   unfold stR
   by_cases ho:0<agN c p q (stp F)
   ·rw[if_pos ho]
    refine⟨stp F+1,⟨by have:=gF.lo;omega,by have:=gF.hi;omega,.inr (by omega),.inr (by rw[Int.add_sub_cancel];exact ho)⟩,?_⟩
    unfold upA
    by_cases h0:stp F+1=0
    ·rw[if_pos h0]
     rw[h0] at hnx
     rw[if_pos hnx]
     exact nx.2.2 (by omega)
    ·rw[if_neg h0,←nx.1]
     exact(stp_fl nx.2.1 (by rw[nx.1];exact h0)).symm
   ·rw[if_neg ho]
    by_cases h0:stp F=0
    ·by_cases he:agN c p q (stp F)=0
     ·rw[if_pos ⟨he,h0⟩]
      refine⟨stp F,⟨gF.lo,gF.hi,.inr (by omega),below⟩,?_⟩
      rw[h0] at he
      unfold upA
      rw[if_pos h0,he];rfl
     ·rw[if_neg (fun h=>he h.1)]
      refine hereF (.inr (by omega)) ?_
      intro _
      have hn:agN c p q 0<0:=by rw[h0] at he ho;omega
      have hl:VL<0:=by
       apply Decidable.byContradiction
       intro hc
       have:=atv 0 (by rw[f0];omega)
       omega
      rw[s4 h0,decide_eq_true hl,decide_eq_true hn]
    ·rw[if_neg (fun h=>h0 h.2)]
     exact hereF (.inr (by omega)) (fun h=>absurd h h0)
theorem psum_lg {t1 t2:Bool×Nat×Int} {X Y:Value} {w:World} (hT:Tab32 w) (o1:Lg t1) (o2:Lg t2) (h1:PN w X t1) (h2:PN w Y t2):Calls Tryz.prog 100 #[X,Y] w fun r w'=>∃ A,r=.returned A∧Nrm w' w.heap.size A (sumN t1.1 t1.2.1 t1.2.2 t2.1 t2.2.1 t2.2.2).1 (sumN t1.1 t1.2.1 t1.2.2 t2.1 t2.2.1 t2.2.2).2.1 (sumN t1.1 t1.2.1 t1.2.2 t2.1 t2.2.1 t2.2.2).2.2∧Bw w w':=by
 obtain⟨ao,cap,rfl,a1⟩:=h1
 obtain⟨ao',cap',rfl,a2⟩:=h2
 obtain⟨c1,f1,f2,f3⟩:=o1
 obtain⟨c2,g1,g2,g3⟩:=o2
 exact c87 a1 a2 (by omega) (by omega) (by omega) (by omega) hT
theorem psum_lgT {t1 t2:Bool×Nat×Int} {X Y:Value} {w:World} (hT:Tab32 w) (o1:Lg t1) (o2:Lg t2) (h1:PN w X t1) (h2:PN w Y t2):Calls Tryz.prog 100 #[X,Y] w fun r w'=>∃ A,r=.returned A∧PN w' A (tS t1 t2)∧Bw w w' :=
 (psum_lg hT o1 o2 h1 h2).mono fun r w' ⟨A,e,h,hb⟩=>⟨A,e,h.pn,hb⟩
theorem pprod_lg {t1 t2:Bool×Nat×Int} {X Y:Value} {w:World} (hT:Tab32 w) (o1:Lg t1) (o2:Lg t2) (h1:PN w X t1) (h2:PN w Y t2):Calls Tryz.prog 101 #[X,Y] w fun r w'=>∃ A,r=.returned A∧PN w' A (tM t1 t2)∧Bw w w':=by
 obtain⟨ao,cap,rfl,a1⟩:=h1
 obtain⟨ao',cap',rfl,a2⟩:=h2
 obtain⟨c1,f1,f2,f3⟩:=o1
 obtain⟨c2,g1,g2,g3⟩:=o2
 exact(c45_1 t1.1 t2.1 _ ao ao' _ cap _ cap' t1.2.1 t2.2.1 t1.2.2 t2.2.2 w hT a1 a2 (by omega) (by omega) (by omega) (by omega) (by omega) (by omega) rfl).mono fun r w' ⟨A,e,h,hb⟩=>⟨A,e,h.pn,hb⟩
theorem pcmp_lg {t1 t2:Bool×Nat×Int} {X Y:Value} {w:World} (o1:Lg t1) (o2:Lg t2) (h1:PN w X t1) (h2:PN w Y t2):Calls Tryz.prog 151 #[X,Y] w fun r w'=>r=.returned (.int .i64 (ordN t1.1 t1.2.1 t1.2.2 t2.1 t2.2.1 t2.2.2))∧Bw w w':=by
 obtain⟨ao,cap,rfl,a1⟩:=h1
 obtain⟨ao',cap',rfl,a2⟩:=h2
 obtain⟨c1,f1,f2,f3⟩:=o1
 obtain⟨c2,g1,g2,g3⟩:=o2
 exact c77 a1 a2 (by omega) (by omega) (by omega) (by omega)
def tNg (t:Bool×Nat×Int):Bool×Nat×Int:=(!t.1&&decide (0<dlen t.2.1),t.2.1,t.2.2)
theorem pneg_lg {t:Bool×Nat×Int} {X:Value} {w:World} (o:Lg t) (h:PN w X t):Calls Tryz.prog 77 #[X] w fun r w'=>∃ A,r=.returned A∧PN w' A (tNg t)∧Bw w w':=by
 obtain⟨ao,cap,rfl,a1⟩:=h
 obtain⟨c1,f1,f2,f3⟩:=o
 refine(neg_ok a1 (by omega)).mono ?_
 rintro r w' ⟨v,rfl,ho,hb⟩
 obtain⟨ao',cap',rfl,q1,q2,q3⟩:=ho.is
 exact⟨_,rfl,⟨ao',cap',rfl,ao',cap',rfl,q1,q2,q3⟩,hb⟩
theorem tNg_lg {t:Bool×Nat×Int} (o:Lg t):Lg (tNg t):=by
 obtain⟨c1,f1,f2,f3⟩:=o
 refine⟨?_,f1,f2,f3⟩
 by_cases h0:t.2.1=0
 ·unfold cn at c1
  rw[if_pos h0] at c1
  unfold tNg
  rw[←c1]
  simp[dlen_zero,cn]
 ·exact cn_turn c1 h0 _
theorem tS_ng (t u:Bool×Nat×Int):tS t (tNg u)=tD t u:=rfl
theorem four_bg:Bg ((false,1,2):Bool×Nat×Int) 0 3:=⟨by decide +kernel,.inr ⟨by decide,by decide,by decide⟩⟩
theorem four_val:vz 0 ((false,1,2):Bool×Nat×Int).1 ((false,1,2):Bool×Nat×Int).2.1 ((false,1,2):Bool×Nat×Int).2.2=4:=by decide +kernel
theorem four_cn:cn false 4 0=(false,1,2):=by decide +kernel
theorem four_v {t:Bool×Nat×Int} {lo hi:Int} (h:Bg t lo hi) (hl:lo≤0) (hh:0≤hi) {L:Nat} (hL:0≤lo+L) {f:Bool×Nat×Int} (hf:f=(false,1,2)):vz L (tM f t).1 (tM f t).2.1 (tM f t).2.2=4*vz L t.1 t.2.1 t.2.2:=by
 have b:Bg f 0 3:=by rw[hf];exact four_bg
 have h':=b.vmul (K:=0) (L:=L) h (by omega) (by omega) (by omega) hl hh hL
 have e:vz 0 f.1 f.2.1 f.2.2=4:=by rw[hf];exact four_val
 rw[Nat.zero_add,e] at h'
 exact h'
theorem compareRoots_ok {c p q x:Bool×Nat×Int} {A B D:Value} {w:World} (hT:Tab32 w) (oc:Ok c) (op:Ok p) (oq:Ok q) (hx:Bg x (-65536) 131072) (hd:(tD x c).1=false) (h1:PN w A p) (h2:PN w B q) (h3:PN w D (tD x c)) :
  Calls Tryz.prog 152 #[A,B,D] w fun r w'=>r=.returned (.int .i64 (agT c p q x))∧Bw w w':=by
 obtain⟨s1,a1,n1,c1,e1,rfl⟩:=h1.shape
 obtain⟨s2,a2,n2,c2,e2,rfl⟩:=h2.shape
 obtain⟨s3,a3,n3,c3,e3,rfl⟩:=h3.shape
 have lp:=op.bg.lg (by omega) (by omega) (by omega) (by omega)
 have lq:=oq.bg.lg (by omega) (by omega) (by omega) (by omega)
 have ld:=(d_bg oc hx).lg (by omega) (by omega) (by omega) (by omega)
 have ldd:=(dd_bg oc hx).lg (by omega) (by omega) (by omega) (by omega)
 have ls:=(pq_bg op oq).lg (by omega) (by omega) (by omega) (by omega)
 have lg:=(g_bg oc op oq hx).lg (by omega) (by omega) (by omega) (by omega)
 have lm:=(p4_bg op oq).lg (by omega) (by omega) (by omega) (by omega)
 obtain⟨f4,hf4⟩:∃ f4:Bool×Nat×Int,f4=(false,1,2):=⟨_,rfl⟩
 have b4:Bg f4 0 3:=by rw[hf4];exact four_bg
 have l4:=b4.lg (by omega) (by omega) (by omega) (by omega)
 have bk:Bg (tM f4 (tM p q)) (-262144) 524294:=(b4.mul (p4_bg op oq)).mono (by omega) (by omega)
 have lk':=bk.lg (by omega) (by omega) (by omega) (by omega)
 have ln:=(gg_bg oc op oq hx).lg (by omega) (by omega) (by omega) (by omega)
 have hv:vz (70000+70000+(70000+70000)) (tM f4 (tM p q)).1 (tM f4 (tM p q)).2.1 (tM f4 (tM p q)).2.2=4*(vz (70000+70000) p.1 p.2.1 p.2.2*vz (70000+70000) q.1 q.2.1 q.2.2):=by
  rw[four_v (p4_bg op oq) (by omega) (by omega) (by omega) hf4,op.bg.vmul (K:=70000+70000) (L:=70000+70000) oq.bg (by omega) (by omega) (by omega) (by omega) (by omega) (by omega)]
 have e:agT c p q x=coR (gT c p q x) (ordN (tM f4 (tM p q)).1 (tM f4 (tM p q)).2.1 (tM f4 (tM p q)).2.2 (tM (gT c p q x) (gT c p q x)).1 (tM (gT c p q x) (gT c p q x)).2.1 (tM (gT c p q x) (gT c p q x)).2.2):=by
  have e:=agT_eq oc op oq hx bk hv
  rw[hd,if_neg (by decide)] at e
  rw[e]
  unfold coR
  with_reducible rfl
 rw[e]
 have e4:cn false 4 0=f4:=by rw[hf4];exact four_cn
 exact compareRoots_1 s1 a1 n1 c1 e1 s2 a2 n2 c2 e2 s3 a3 n3 c3 e3 p q (tD x c) (tM (tD x c) (tD x c)) (tS p q) (tNg (tS p q)) (gT c p q x) f4 (tM p q) (tM f4 (tM p q)) (tM (gT c p q x) (gT c p q x)) _ w h1 h2 h3
  (fun W X Y hW a b=>pprod_lg (hT.later hW) ld ld a b) (fun W X Y hW a b=>psum_lgT (hT.later hW) lp lq a b) (fun W X hW a=>pneg_lg ls a) (fun W X Y hW a b=>by
   have k:=psum_lgT (hT.later hW) ldd (tNg_lg ls) a b
   rw[tS_ng] at k
   exact k)
  (fun W hW=>(c12_1 4 4 W (hT.later hW) (by omega) (by omega) (by decide)).mono fun r w' ⟨A,e,h,hb⟩=>⟨A,e,by rw[←e4];exact h.pn,hb⟩)
  (fun W X Y hW a b=>pprod_lg (hT.later hW) lp lq a b) (fun W X Y hW a b=>pprod_lg (hT.later hW) l4 lm a b) (fun W X Y hW a b=>pprod_lg (hT.later hW) lg lg a b) (fun W X Y hW a b=>pcmp_lg lk' ln a b)
theorem settled_ok {c p q:Bool×Nat×Int} {A B C:Value} {w:World} {f:Nat} (hT:Tab32 w) (hI:Ie.Tab w) (oc:Ok c) (op:Ok p) (oq:Ok q) (hf:f<18446744073709551616) (hm:mag f<9218868437227405312) (hd:(tD (tF f) c).1=false) (h1:PN w A c) (h2:PN w B p) (h3:PN w C q) :
  Calls Tryz.prog 140 #[.float .f64 f,A,B,C] w fun r w'=>r=.returned (.float .f64 (stR f (nextA f) (agN c p q (stp f))))∧Bw w w':=by
 obtain⟨s1,a1,n1,c1,e1,rfl⟩:=h1.shape
 obtain⟨s2,a2,n2,c2,e2,rfl⟩:=h2.shape
 obtain⟨s3,a3,n3,c3,e3,rfl⟩:=h3.shape
 have lc:=oc.bg.lg (by omega) (by omega) (by omega) (by omega)
 have lf:=(tF_bg f).lg (by omega) (by omega) (by omega) (by omega)
 obtain⟨m,hmm,hml⟩:=sM_lt f hf
 refine settled_1 s1 a1 n1 c1 e1 s2 a2 n2 c2 e2 s3 a3 n3 c3 e3 f (nextA f) (tF f) (tNg c) (tD (tF f) c) (agN c p q (stp f)) w hf (by omega) (fun W hW=>?_) (fun W hW=>pneg_lg lc (h1.later hW)) (fun W X Y hW a b=>by
  have k:=psum_lgT (hT.later hW) lf (tNg_lg lc) a b
  rw[tS_ng] at k
  exact k) (fun W X hW a=>?_) (fun W=>next_ok f hf hm W)
 ·refine(of_fin f m hf W (hT.later hW) (Tab.later hI hW) hm hmm).mono ?_
  rintro r w' ⟨A,rfl,hN,hb⟩
  have hp:=hN.pn
  rw[cn_parts f m hf hm hmm] at hp
  exact⟨A,rfl,hp,hb⟩
 ·rw[←agN_T hf hm]
  exact compareRoots_ok (hT.later hW) oc op oq (tF_bg f) hd (h2.later hW) (h3.later hW) a
end Go.Proofs.YtgdhdailchonmabGreatDoor
