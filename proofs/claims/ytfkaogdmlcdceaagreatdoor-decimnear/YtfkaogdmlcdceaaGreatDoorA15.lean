/- Own work: contracts of the program's functions, part 15: DD8 DD9 DDA DDB DD3 DDC DDD DDE DUA DUB DSA DDF DDG DDH DDI DRA DRB DRC DRD DRE DSB DSC DSD DRX DRF DRM DSE DRG DRH DSF FRI FS1 DSG DSH DSI DSJ DSK DSL DSM DSN DSO DUC. -/
import Derived.Test.YtfkaogdmlcdceaaGreatDoorA14
import Derived.Test.YtfkaogdmlcdceaaGreatDoorA9
import Derived.Test.YtfkaogdmlcdceaaGreatDoorA10
import Derived.Test.YtfkaogdmlcdceaaGreatDoorA8
import Derived.Test.YtfkaogdmlcdceaaGreatDoorA7
import Derived.Test.YtfkaogdmlcdceaaGreatDoorA11
import Derived.Test.YtfkaogdmlcdceaaGreatDoorA12

set_option maxHeartbeats 16000000
set_option maxRecDepth 200000
set_option linter.unusedVariables false
set_option linter.unusedSimpArgs false
namespace Go.Proofs.YtfkaogdmlcdceaaGreatDoor
open Go Go.RowKit Go.Fl64
def nextP (a:Nat):Nat:=if mag a=0 then 1 else if neg a then a - 1 else a+1
theorem nextP_3 (a:Nat) (w:World) (hn:(FloatKind.f64.format.order a a != some Ordering.eq)=false) (h2:((a:Int)==9218868437227405312)=false) (h3:(FloatKind.f64.format.order a 0==some Ordering.eq)=true) :
  Calls Tryz.prog 248 #[.float .f64 a] w fun r w'=>r=.returned (.float .f64 1)∧w'=w:=by
 have kb:=Ie.run_bits
 have kf:=Ie.run_frombits
 go_enter Tryz.func248,Tryz.ntmps248
 go_wp2
 go_ret
 exact⟨rfl,rfl⟩
theorem nextP_4 (a:Nat) (r:Int) (w:World) (hn:(FloatKind.f64.format.order a a != some Ordering.eq)=false) (h2:((a:Int)==9218868437227405312)=false) (h3:(FloatKind.f64.format.order a 0==some Ordering.eq)=false) (h4:(bits .and .u64 (a:Int) 9223372036854775808 != 0)=true) (h5:IntKind.u64.wrap ((a:Int) - 1)=r) :
  Calls Tryz.prog 248 #[.float .f64 a] w fun e w'=>e=.returned (.float .f64 r.toNat)∧w'=w:=by
 have kb:=Ie.run_bits
 have kf:=Ie.run_frombits
 go_enter Tryz.func248,Tryz.ntmps248
 go_wp2
 go_ret
 exact⟨rfl,rfl⟩
theorem nextP_5 (a:Nat) (r:Int) (w:World) (hn:(FloatKind.f64.format.order a a != some Ordering.eq)=false) (h2:((a:Int)==9218868437227405312)=false) (h3:(FloatKind.f64.format.order a 0==some Ordering.eq)=false) (h4:(bits .and .u64 (a:Int) 9223372036854775808 != 0)=false) (h5:IntKind.u64.wrap ((a:Int)+1)=r) :
  Calls Tryz.prog 248 #[.float .f64 a] w fun e w'=>e=.returned (.float .f64 r.toNat)∧w'=w:=by
 have kb:=Ie.run_bits
 have kf:=Ie.run_frombits
 go_enter Tryz.func248,Tryz.ntmps248
 go_wp2
 go_ret
 exact⟨rfl,rfl⟩
theorem nextP_ok (a:Nat) (ha:a<18446744073709551616) (hn:mag a<9218868437227405312) (w:World) :
  Calls Tryz.prog 248 #[.float .f64 a] w fun r w'=>r=.returned (.float .f64 (nextP a))∧w'=w:=by
 have n1:isNaN a=false:=decide_eq_false (by omega)
 have q1:=self_ne a ha
 rw[n1] at q1
 have q2:((a:Int)==9218868437227405312)=false:=by
  rw[beq_eq_false_iff_ne]
  intro h
  have:a=9218868437227405312:=by omega
  rw[this] at hn
  revert hn;decide
 have q3:=unought ha
 have q3':(FloatKind.f64.format.order a 0==some Ordering.eq)=decide (mag a=0):=by
  have:(FloatKind.f64.format.order a 0 != some Ordering.eq) = !(FloatKind.f64.format.order a 0==some Ordering.eq):=rfl
  rw[this] at q3
  revert q3
  cases (FloatKind.f64.format.order a 0==some Ordering.eq) <;> cases decide (mag a=0) <;> simp
 have q4:(bits .and .u64 (a:Int) 9223372036854775808 != 0)=neg a:=by
  rw[and_sign a ha]
  cases neg a <;> decide
 unfold nextP
 by_cases h0:mag a=0
 ·rw[if_pos h0]
  rw[decide_eq_true h0] at q3'
  exact nextP_3 a w q1 q2 q3'
 ·rw[if_neg h0]
  rw[decide_eq_false h0] at q3'
  cases hs:neg a
  ·rw[hs] at q4
   have h9:a<9223372036854775808:=by unfold neg at hs;simpa using hs
   rw[if_neg (by decide)]
   exact nextP_5 a ((a+1:Nat):Int) w q1 q2 q3' q4 (by rw[IntKind.wrap_u64];omega)
  ·rw[hs] at q4
   have h9:9223372036854775808≤a:=by unfold neg at hs;simpa using hs
   rw[if_pos rfl]
   exact nextP_4 a ((a - 1:Nat):Int) w q1 q2 q3' q4 (by rw[IntKind.wrap_u64];omega)
theorem ptop_ok {t:Bool×Nat×Int} {X:Value} {w:World} (ok:Ok t) (h:PN w X t):Calls Tryz.prog 127 #[X] w fun r w'=>r=.returned (.int .i64 ((bl t.2.1:Nat)+t.2.2))∧Bw w w':=by
 obtain⟨pa,pc,rfl,i1⟩:=h
 have f:=ok.facts
 refine pTop_1 t.1 pa _ pc t.2.2 _ w (fun W g hW hg=>?_) (fun W' hW'=>c75 (i1.later hW') (by omega) (by omega) (by omega))
 have:=maybe1 hg (i1.later hW) (by omega)
 have ok':okN t.1 (dlen t.2.1) t.2.1 t.2.2=true:=ok
 rw[ok'] at this
 exact this
theorem ptop_un {A p b:Nat} (h:A<2^b) (h0:A≠0) (hb:b≤60000) (hp:p≤60000) {W:World} {X:Value} (hX:PN W X (un (A:Int) p)) :
  Calls Tryz.prog 127 #[X] W fun r w'=>r=.returned (.int .i64 ((bl A:Nat) - (p:Int)))∧Bw W w':=by
 have k:=ptop_ok (ok_un (nabs h) hb hp) hX
 have sp:=(tz_spec _ _ (Nat.le_refl _) h0).1
 have e1:(un (A:Int) p).2.1=A / 2^tz A:=by unfold un cn;rw[Int.natAbs_natCast,if_neg h0]
 have e2:(un (A:Int) p).2.2=(tz A:Int) - p:=by unfold un cn;rw[Int.natAbs_natCast,if_neg h0];show -(p:Int)+(tz A:Int)=_;omega
 have hx:A / 2^tz A≠0:=by intro h9;rw[h9,Nat.mul_zero] at sp;omega
 have e3:bl A=bl (A / 2^tz A)+tz A:=by
  have:=bl_shlD (x:=A / 2^tz A) (k:=tz A) hx
  rw[Nat.mul_comm,sp] at this
  exact this
 rw[e1,e2] at k
 rw[e3]
 rw[show((bl (A / 2^tz A)+tz A:Nat):Int) - (p:Int)=((bl (A / 2^tz A):Nat):Int)+((tz A:Int) - p) by push_cast;omega]
 exact k
theorem run_neg_gD {R:Nat} (h:R<9218868437227405312) (W:World):(Op.unary UnOp.neg (Value.float .f64 R)).run Tryz.prog W=.ok (.float .f64 (R+9223372036854775808)) W:=by
 have hn:Op.negFloat .f64 R=R+9223372036854775808:=by rw[Fl64.negF R (by omega)];unfold Fl64.ngt Fl64.neg;simp;omega
 rw[←hn];rfl
theorem run_neg_hD {R:Nat} (h:R<9218868437227405312) (W:World):(Op.unary UnOp.neg (Value.float .f64 (R+9223372036854775808))).run Tryz.prog W=.ok (.float .f64 R) W:=by
 have hn:Op.negFloat .f64 (R+9223372036854775808)=R:=by rw[Fl64.negF _ (by omega)];unfold Fl64.ngt Fl64.neg;simp
 have h2:(Op.unary UnOp.neg (Value.float .f64 (R+9223372036854775808))).run Tryz.prog W=.ok (.float .f64 (Op.negFloat .f64 (R+9223372036854775808))) W:=rfl
 rw[h2,hn]
theorem Dprev {a:Nat} (h0:0<a) (h1:a<9218868437227405312) (w:World):Calls Tryz.prog 201 #[.float .f64 a] w fun r w'=>r=.returned (.float .f64 (a - 1))∧w'=w:=by
 have hm:mag (a+9223372036854775808)=a:=by unfold mag;omega
 have k:=nextP_ok (a+9223372036854775808) (by omega) (by rw[hm];exact h1)
 have e:nextP (a+9223372036854775808)=a - 1+9223372036854775808:=by
  unfold nextP
  rw[hm,if_neg (by omega),if_pos (by unfold neg;exact decide_eq_true (by omega))]
  omega
 rw[e] at k
 have n1:=run_neg_gD h1
 have n2:=run_neg_hD (R:=a - 1) (by omega)
 generalize a - 1=c at *
 clear e hm h0 h1
 go_enter Tryz.func201,Tryz.ntmps201
 go_wp2_with (first|(go_at_call 248;refine(k _).mono ?_;rintro r w' ⟨rfl,hw⟩;replace hw:=hw.symm;subst hw))
 go_ret
 exact⟨rfl,rfl⟩
def utF (a:Nat):Nat:=Ie.mk false 1 (Ie.lp a) 2 9221120237041090561
theorem Dunit {a:Nat} (ha:a<18446744073709551616) (hf:mag a<9218868437227405312) (w:World):Calls Tryz.prog 202 #[.float .f64 a] w fun r w'=>r=.returned (.float .f64 (utF a))∧w'=w:=by
 obtain⟨c1,c2,-⟩:=cls_fin hf
 have kC:=fun V=>Ie.c9 a ha V
 have kL:=fun V=>Ie.c47 a ha V
 have kM:=fun V=>Ie.c24 false 1 (Ie.lp a) 2 (by omega) V
 have hc1:(cls a==1)=false:=by rw[beq_eq_false_iff_ne];exact c1
 have hc2:(cls a==2)=false:=by rw[beq_eq_false_iff_ne];exact c2
 unfold utF
 generalize cls a=c at *
 generalize Ie.lp a=L at *
 generalize Ie.mk false 1 L 2 9221120237041090561=F at *
 clear c1 c2 ha hf
 go_enter Tryz.func202,Tryz.ntmps202
 go_wp2_with (first|(go_at_call 74;refine(kC _).mono ?_;rintro r w' ⟨rfl,hw⟩;replace hw:=hw.symm;subst hw)|(go_at_call 107;refine(kL _).mono ?_;rintro r w' ⟨rfl,hw⟩;replace hw:=hw.symm;subst hw)|(go_at_call 122;refine(kM _).mono ?_;rintro r w' ⟨rfl,hw⟩;replace hw:=hw.symm;subst hw))
 go_ret
 exact⟨rfl,rfl⟩
def woX0 (A:Nat):Int:=((bl A:Nat) - (kP:Int) - 1)*1262611 / 4194304
def woX (A:Nat):Int:=if 0<unF (A:Int) (tnO (-woX0 A - 1)) (tnU (-woX0 A - 1))then woX0 A+1 else woX0 A
theorem bl_bU {A:Nat} (h:A<2^bU) (h0:A≠0):1≤bl A∧bl A≤2200:=by
 refine⟨?_,(bl_le A bU).2 h⟩
 rcases Nat.lt_or_ge 0 (bl A)with h1|h1
 ·exact h1
 ·have:=(bl_le A 0).1 h1
  rw[Nat.pow_zero] at this
  omega
theorem woX0_b {A:Nat} (h:A<2^bU) (h0:A≠0) : -400≤woX0 A∧woX0 A≤400:=by
 have hb:=bl_bU h h0
 have hk:=kP_eq
 unfold woX0
 generalize kP=x at *
 omega
theorem woX_b {A:Nat} (h:A<2^bU) (h0:A≠0) : -400≤woX A∧woX A≤401:=by
 have:=woX0_b h h0
 unfold woX
 split <;> omega
theorem Dworth {A:Nat} {X:Value} {w:World} (hT:Tab32 w) (h:A<2^bU) (h0:A≠0) (hX:PN w X (un (A:Int) kP)) :
  Calls Tryz.prog 60 #[X] w fun r w'=>r=.returned (.int .i64 (woX A))∧Bw w w':=by
 obtain⟨s3,ao3,n3,cp3,e3,rfl⟩:=hX.shape
 have hb:=bl_bU h h0
 have hw:=woX0_b h h0
 have hk:=kP_eq
 obtain⟨t1,t2,t3,t4⟩:=tn_lt (pl := -woX0 A - 1) (by omega) (by omega)
 have hF:=unF_lt (Z:=(A:Int)) (k:=bU) (l:=dB) (nabs h) t1 t3
 have k:=Dworth_1 s3 ao3 n3 cp3 e3 ((bl A:Nat) - (kP:Int)) (woX0 A) (if unF (A:Int) (tnO (-woX0 A - 1)) (tnU (-woX0 A - 1))=0 then 0 else if unF (A:Int) (tnO (-woX0 A - 1)) (tnU (-woX0 A - 1))<0 then -1 else 1) (un ((tnO (-woX0 A - 1):Nat):Int) 0) (un ((tnU (-woX0 A - 1):Nat):Int) 0) (un (A:Int) kP) (un (unF (A:Int) (tnO (-woX0 A - 1)) (tnU (-woX0 A - 1))) 0) (unX (A:Int) (tnO (-woX0 A - 1)) (tnU (-woX0 A - 1))) w hX (by omega) (by omega) rfl
  (fun W hW hX=>ptop_un (b:=bU) h h0 (by rw[bU_eq];omega) (by omega) hX)
  (fun W hW=>DtenTo (hT.later hW) (by omega) (by omega) (fun n hn=>klen hn))
  (fun s1 ao1 n1 cp1 e1 s2 ao2 n2 cp2 e2 s3 ao3 n3 cp3 e3 W hW q1 q2 q3=>Dfloor (Z:=(A:Int)) (O:=tnO (-woX0 A - 1)) (U:=tnU (-woX0 A - 1)) (p:=kP) (k:=bU) (l:=dB) (hT.later hW) ⟨_,_,_,_,_,_,_,_,_,_,rfl,q1,q2⟩ q3 (nabs h) t1 t2 t3 dk1)
  (fun W X hW hX=>psgn_un hF (Nat.le_of_lt dk3) (by omega) hX)
  (by show -1≤_∧_≤1;split <;> (try split) <;> omega)
 have e:(if 0<(if unF (A:Int) (tnO (-woX0 A - 1)) (tnU (-woX0 A - 1))=0 then(0:Int)else if unF (A:Int) (tnO (-woX0 A - 1)) (tnU (-woX0 A - 1))<0 then -1 else 1)then woX0 A+1 else woX0 A)=woX A:=by
  unfold woX
  generalize unF (A:Int) (tnO (-woX0 A - 1)) (tnU (-woX0 A - 1))=u
  by_cases c1:u=0
  ·rw[if_pos c1,c1]
  ·rw[if_neg c1]
   by_cases c2:u<0
   ·rw[if_pos c2,if_neg (by decide),if_neg (by omega)]
   ·rw[if_neg c2,if_pos (by decide),if_pos (by omega)]
 rw[e] at k
 exact k
def kQ:Nat:=1075
theorem kQ_eq:(kP:Int) - (-1)=kQ:=rfl
theorem kQ_n:kQ=kP+1:=rfl
def shX (a:Nat):Int:=woX (fU a)
def shO (a:Nat):Nat:=tnO (16 - shX a)
def shU (a:Nat):Nat:=tnU (16 - shX a)
def flQ (Z:Int) (a:Nat):Int:=Z*(shO a:Int) / ((shU a*2^kQ:Nat):Int)
def exq (Z:Int) (a:Nat):Bool:=decide (Z*(shO a:Int) % ((shU a*2^kQ:Nat):Int)=0)
def nrF (Z:Int):Nat:=tfF (un Z kQ).1 true (un Z kQ).2.1 (un Z kQ).2.2 2
def isR (Z:Int) (a:Nat):Bool:=(FloatKind.f64.format.order (nrF Z) a==some Ordering.eq)
def loZ (a:Nat):Int:=sZ (a - 1)+sZ a
def hiZ (a:Nat):Int:=sZ a*2+sZ (utF a)
def shN (a:Nat):Nat:=(flQ (loZ a) a).toNat
def shM (a:Nat):Nat:=(flQ (hiZ a) a).toNat
def shL (a:Nat):Nat:=if exq (loZ a) a&&isR (loZ a) a then shN a else shN a+1
def shH (a:Nat):Nat:=if exq (hiZ a) a && !isR (hiZ a) a then shM a - 1 else shM a
def shTz (a:Nat):Int:=sZ a*(shO a:Int) / ((shU a*2^kP1:Nat):Int)
def shT (a:Nat):Nat:=(shTz a).toNat
def shI (a:Nat):Bool:=decide (sZ a*(shO a:Int) % ((shU a*2^kP1:Nat):Int)=0)
structure ShOk (a:Nat):Prop where
 pos:0<a
 fin:a<9218868437227405312
 ut:utF a<9218868437227405312
 lo:0≤flQ (loZ a) a
 lo2:shN a<2305843009213693952
 hi:0<flQ (hiZ a) a
 hi2:shM a<2305843009213693952
 tw:0≤shTz a
 tw2:shT a<2305843009213693952
theorem mag_small {a:Nat} (h:a<9218868437227405312):mag a<9218868437227405312:=by unfold mag;omega
theorem ShOk.x {a:Nat} (h:ShOk a) : -400≤shX a∧shX a≤401:=by
 refine woX_b (fU_lt a) ?_
 intro h0
 have h1:mag a=a:=by unfold mag;have:=h.fin;omega
 have h2:=Ie.mant_ne (a:=a) (by rw[h1];have:=h.pos;omega)
 unfold fU at h0
 rcases Nat.mul_eq_zero.1 h0 with h3|h3
 ·exact h2 h3
 ·exact absurd h3 (Nat.ne_of_gt (Nat.two_pow_pos _))
theorem loZ_lt (a:Nat):(loZ a).natAbs<2^(bU+1+1):=by
 have h1:=sZ_lt (a - 1)
 have h2:=sZ_lt a
 unfold loZ
 exact pow_grow 1 (abs_add h1 h2)
theorem hiZ_lt (a:Nat):(hiZ a).natAbs<2^(bU+1+1):=by
 have h1:=sZ_lt a
 have h2:=sZ_lt (utF a)
 unfold hiZ
 have h3:(sZ a*2).natAbs<2^(bU+1):=by rw[Nat.pow_succ];omega
 exact abs_add h3 (pow_grow 1 h2)
theorem dk7:bU+1+1+dB+kQ≤60000:=by have h1:=kP_eq;have h2:=bU_eq;have h3:=dB_le;rw[kQ_n];generalize kP=x at *; generalize bU=y at *; generalize dB=z at *; omega
theorem dk8:bU+1+1≤60000:=by have h2:=bU_eq;generalize bU=y at *; omega
theorem dk9:kQ≤60000∧kP≤60000∧kP1≤60000:=by decide
theorem dkA:bU+dB+kP1≤60000:=by have h1:kP1=1073:=rfl;have h2:=bU_eq;have h3:=dB_le;generalize kP1=x at *; generalize bU=y at *; generalize dB=z at *; omega
theorem DisReadAs {Z:Int} {a:Nat} {X:Value} {w:World} (hT:Tab32 w) (hZ:Z.natAbs<2^(bU+1+1)) (hX:PN w X (un Z kQ)) :
  Calls Tryz.prog 203 #[X,.float .f64 a] w fun r w'=>r=.returned (.bool (isR Z a))∧Bw w w':=by
 obtain⟨s3,ao3,n3,cp3,e3,rfl⟩:=hX.shape
 exact DisReadAs_1 s3 ao3 n3 cp3 e3 (un Z kQ) a (nrF Z) (isR Z a) 0 w hX (fun W hW hX=>pround (hT.later hW) (ok_un hZ dk8 dk9.1) hX (by omega)) rfl
theorem DreadAs {a:Nat} {S:Value} {w:World} (hT:Tab32 w) (hI:Ie.Tab w) (ok:ShOk a) (hS:Fv w S (un ((shO a:Nat):Int) 0) (un ((shU a:Nat):Int) 0)) :
  Calls Tryz.prog 139 #[.float .f64 a,S] w fun r w'=>r=.returned (.tuple #[.int .u64 (shL a:Nat),.int .u64 (shH a:Nat)])∧Bw w w':=by
 obtain⟨s1,ao1,n1,cp1,e1,s2,ao2,n2,cp2,e2,rfl,p1,p2⟩:=hS
 have hx:=ok.x
 have hfin:=ok.fin
 have hpos:=ok.pos
 obtain⟨t1,t2,t3,t4⟩:=tn_lt (pl:=16 - shX a) (by omega) (by omega)
 have ha:a<18446744073709551616:=by omega
 have hut:=ok.ut
 have fl:∀ (Z:Int),Z.natAbs<2^(bU+1+1)→∀ W X,Bw w W→PN W (.agg #[.bool s1,.slice ao1 n1 cp1,.int .i64 e1]) (un ((shO a:Nat):Int) 0)→PN W (.agg #[.bool s2,.slice ao2 n2 cp2,.int .i64 e2]) (un ((shU a:Nat):Int) 0)→PN W X (un Z kQ)→Calls Tryz.prog 96 #[.agg #[.bool s1,.slice ao1 n1 cp1,.int .i64 e1,.bool s2,.slice ao2 n2 cp2,.int .i64 e2],X] W fun r w'=>OutFl W (un (flQ Z a) 0) (exq Z a) r w':=by
  intro Z hZ W X hW q1 q2 hX
  exact Dfloor (Z:=Z) (O:=shO a) (U:=shU a) (p:=kQ) (k:=bU+1+1) (l:=dB) (hT.later hW) ⟨_,_,_,_,_,_,_,_,_,_,rfl,q1,q2⟩ hX hZ t1 t2 t3 dk7
 have wd:∀ (Z:Int),0≤flQ Z a→(flQ Z a).toNat<2305843009213693952→∀ W X,PN W X (un (flQ Z a) 0)→Calls Tryz.prog 92 #[X] W fun r w'=>r=.returned (.int .u64 ((flQ Z a).toNat:Nat))∧Bw W w':=by
  intro Z h1 h2 W X hX
  rw[show flQ Z a=(((flQ Z a).toNat:Nat):Int) by omega] at hX
  exact Dword (by omega) hX
 refine DreadAs_1 a (a - 1) (utF a) s1 ao1 n1 cp1 e1 s2 ao2 n2 cp2 e2 _ _ (un (sZ a) kP) (un (sZ (a - 1)) kP) (un (loZ a) kP) (un (loZ a) kQ) (un (sZ (utF a)) kP) (un (sZ (utF a)) kQ) (un (hiZ a) kQ) (un (flQ (loZ a) a) 0) (un (flQ (hiZ a) a) 0) (exq (loZ a) a) (exq (hiZ a) a) (isR (loZ a) a) (isR (hiZ a) a) (shN a) (shM a) (shL a) (shH a) w rfl rfl p1 p2 (by have:=ok.lo2;omega) (by have:=ok.hi2;omega) (by show 0<shM a;have:=ok.hi;unfold shM;omega) ?_ ?_ ?_ ?_ ?_ ?_ ?_ ?_ ?_ (fl _ (loZ_lt a)) ?_ ?_ (fl _ (hiZ_lt a)) ?_ ?_
 ·intro W hW
  exact Dexact (hT.later hW) (Tab.later hI hW) ha (mag_small hfin)
 ·intro W
  refine(Dprev hpos hfin W).mono ?_
  rintro r w' ⟨rfl,rfl⟩
  exact⟨rfl,Below.refl _ _⟩
 ·intro W hW
  exact Dexact (hT.later hW) (Tab.later hI hW) (by omega) (mag_small (by omega))
 ·intro W X Y hW hX hY
  exact Dadded_op (padd_un (p:=kP) (k:=bU) (sZ_lt _) (sZ_lt _) (by rw[bU_eq];omega) dk9.2.1) (hT.later hW) hX hY
 ·intro W X hW hX
  exact Dshifted (b:=bU+1+1) (loZ_lt a) dk8 dk9.2.1 dk9.1 kQ_eq hX
 ·intro W
  refine(Dunit ha (mag_small hfin) W).mono ?_
  rintro r w' ⟨rfl,rfl⟩
  exact⟨rfl,Below.refl _ _⟩
 ·intro W hW
  exact Dexact (hT.later hW) (Tab.later hI hW) (by omega) (mag_small hut)
 ·intro W X hW hX
  exact Dshifted (b:=bU) (sZ_lt _) (by rw[bU_eq];omega) dk9.2.1 dk9.1 kQ_eq hX
 ·intro W X Y hW hX hY
  have e:un (sZ a) kP=un (sZ a*2) kQ:=un_shiftD (sZ a) kP 1
  rw[e] at hX
  exact Dadded_op (padd_un (p:=kQ) (k:=bU+1) (by have:=sZ_lt a;rw[Nat.pow_succ];omega) (pow_grow 1 (sZ_lt _)) (by rw[bU_eq];omega) dk9.1) (hT.later hW) hX hY
 ·intro W X hW hX
  exact wd _ ok.lo ok.lo2 W X hX
 ·intro _ W X hW hX
  exact DisReadAs (hT.later hW) (loZ_lt a) hX
 ·intro W X hW hX
  exact wd _ (Int.le_of_lt ok.hi) ok.hi2 W X hX
 ·intro _ W X hW hX
  exact DisReadAs (hT.later hW) (hiZ_lt a) hX
def fwS (L H T:Nat):Nat→Nat→Nat
 | 0,j=>j
 | n+1,j=>if 1<fwU j∧fwL T j<L∧H<fwL T j+fwU j then fwS L H T n (j+1)else j
theorem fwS_spec (L H T:Nat):∀ n j,n+j=16→(∀ i,i<j→1<fwU i∧fwL T i<L∧H<fwL T i+fwU i) →
  (∀ i,i<fwS L H T n j→1<fwU i∧fwL T i<L∧H<fwL T i+fwU i)∧¬ (1<fwU (fwS L H T n j)∧fwL T (fwS L H T n j)<L∧H<fwL T (fwS L H T n j)+fwU (fwS L H T n j)):=by
 intro n
 induction n with
 | zero =>
  intro j hj h
  obtain rfl:j=16:=by omega
  exact⟨h,fun g=>absurd g.1 (by show ¬ 1<fwU 16;decide)⟩
 | succ n ih =>
  intro j hj h
  unfold fwS
  by_cases c:1<fwU j∧fwL T j<L∧H<fwL T j+fwU j
  ·rw[if_pos c]
   refine ih (j+1) (by omega) (fun i hi=>?_)
   by_cases e:i=j
   ·rw[e];exact c
   ·exact h i (by omega)
  ·rw[if_neg c]
   exact⟨h,c⟩
def shJ (a:Nat):Nat:=fwS (shL a) (shH a) (shT a) 16 0
def shA (a:Nat):Bool:=decide (fwU (shJ a)<shT a - 2*fwL (shT a) (shJ a))||(decide (shT a - 2*fwL (shT a) (shJ a)=fwU (shJ a))&&(!shI a||decide (fwL (shT a) (shJ a) / fwU (shJ a) % 2=1)))
def shF (a:Nat):Nat:=if fwL (shT a) (shJ a)<shL a∨(shA a=true∧fwL (shT a) (shJ a)+fwU (shJ a)≤shH a)then fwL (shT a) (shJ a)+fwU (shJ a)else fwL (shT a) (shJ a)
theorem shF_lt {a:Nat} (ok:ShOk a):shF a<18446744073709551616:=by
 have h1:=fwL_le (shT a) (shJ a)
 have h2:=fwU_le (shJ a)
 have h3:=ok.tw2
 unfold shF
 split <;> omega
theorem shL_lt {a:Nat} (ok:ShOk a):shL a<4611686018427387904∧shH a<4611686018427387904:=by
 have h1:=ok.lo2
 have h2:=ok.hi2
 unfold shL shH
 constructor <;> split <;> omega
theorem Dfewest {a:Nat} {X S:Value} {w:World} (hT:Tab32 w) (hI:Ie.Tab w) (ok:ShOk a) (hX:PN w X (un (sZ a) kP)) (hS:Fv w S (un ((shO a:Nat):Int) 0) (un ((shU a:Nat):Int) 0)) :
  Calls Tryz.prog 76 #[.float .f64 a,X,S] w fun r w'=>r=.returned (.int .u64 (shF a:Nat))∧Bw w w':=by
 obtain⟨s1,ao1,n1,cp1,e1,s2,ao2,n2,cp2,e2,rfl,p1,p2⟩:=hS
 obtain⟨s3,ao3,n3,cp3,e3,rfl⟩:=hX.shape
 have hx:=ok.x
 obtain⟨t1,t2,t3,t4⟩:=tn_lt (pl:=16 - shX a) (by omega) (by omega)
 obtain⟨j1,j2⟩:=fwS_spec (shL a) (shH a) (shT a) 16 0 rfl (fun i hi=>absurd hi (Nat.not_lt_zero _))
 obtain⟨l1,l2⟩:=shL_lt ok
 have htw:=ok.tw
 have htw2:=ok.tw2
 refine Dfewest_1 a s1 ao1 n1 cp1 e1 s2 ao2 n2 cp2 e2 s3 ao3 n3 cp3 e3 _ _ _ (un (sZ a) kP1) (un (shTz a) 0) (un ((10^16:Nat):Int) 0) (shI a) (shA a) (shL a) (shH a) (shT a) (shJ a) (shF a) w p1 p2 hX l1 l2 (by omega) j1 j2 rfl rfl ?_ ?_ ?_ ?_ ?_ ?_
 ·intro W hW q1 q2
  exact DreadAs (hT.later hW) (Tab.later hI hW) ok ⟨_,_,_,_,_,_,_,_,_,_,rfl,q1,q2⟩
 ·intro W X hW hX
  exact Dshifted (b:=bU) (sZ_lt _) (by rw[bU_eq];omega) dk9.2.1 dk9.2.2 kP1_eq hX
 ·intro W X hW q1 q2 hX
  exact Dfloor (Z:=sZ a) (O:=shO a) (U:=shU a) (p:=kP1) (k:=bU) (l:=dB) (hT.later hW) ⟨_,_,_,_,_,_,_,_,_,_,rfl,q1,q2⟩ hX (sZ_lt a) t1 t2 t3 dkA
 ·intro W X hW hX
  rw[show shTz a=((shT a:Nat):Int) by unfold shT;omega] at hX
  exact Dword (by omega) hX
 ·intro W hW
  exact Dpower (bs:=10) (n:=16) (b:=60) (hT.later hW) (by omega) (by omega) (by omega) (by decide) (by omega) (fun V=>c156 16 (by omega) V)
 ·intro W X hW hX
  have e9:fwU 0=10000000000000000:=by decide
  rw[e9]
  have e8:(10:Nat)^16=10000000000000000:=by decide
  rw[e8] at hX
  exact Dword (N:=10000000000000000) (by decide) hX
def shD (a:Nat):List UInt8:=Lib.trimRightB (dcT (shF a)) 48
def shE (a:Nat):Int:=(dcT (shF a)).length - 1 - (16 - shX a)
theorem shF_len {a:Nat} (ok:ShOk a):(dcT (shF a)).length≤36:=by
 have:=dcT_len (N:=shF a) (b:=64) (by rw[show(2:Nat)^64=18446744073709551616 from by decide];exact shF_lt ok)
 omega
theorem trimR_len (L:List UInt8) (c:UInt8):(Lib.trimRightB L c).length≤L.length:=by
 unfold Lib.trimRightB
 rw[List.length_reverse]
 have:=(List.dropWhile_sublist (fun x=>x==c) (l:=L.reverse)).length_le
 rw[List.length_reverse] at this
 exact this
theorem Dshortest {a:Nat} {w:World} (hT:Tab32 w) (hI:Ie.Tab w) (ok:ShOk a) :
  Calls Tryz.prog 24 #[.float .f64 a] w fun r w'=>r=.returned (.tuple #[.string ⟨(shD a).toArray⟩,.int .i64 (shE a)])∧Bw w w':=by
 have hx:=ok.x
 have hfin:=ok.fin
 have hpos:=ok.pos
 have hn:neg a=false:=by unfold neg;exact decide_eq_false (by omega)
 have hz:sZ a=((fU a:Nat):Int):=by unfold sZ;rw[hn];rfl
 have hf0:fU a≠0:=by
  intro h0
  have h1:mag a=a:=by unfold mag;omega
  have h2:=Ie.mant_ne (a:=a) (by rw[h1];omega)
  unfold fU at h0
  rcases Nat.mul_eq_zero.1 h0 with h3|h3
  ·exact h2 h3
  ·exact absurd h3 (Nat.ne_of_gt (Nat.two_pow_pos _))
 have hl:=shF_len ok
 refine Dshortest_1 a (shX a) (shF a) (un (sZ a) kP) (un ((shO a:Nat):Int) 0) (un ((shU a:Nat):Int) 0) (un ((shF a:Nat):Int) 0) (dcT (shF a)) (shD a) w (by omega) (by omega) ?_ ?_ ?_ ?_ ?_ ?_ ?_
 ·intro W hW
  exact Dexact (hT.later hW) (Tab.later hI hW) (by omega) (mag_small hfin)
 ·intro W X hW hX
  rw[hz] at hX
  exact Dworth (hT.later hW) (fU_lt a) hf0 hX
 ·intro W hW
  exact DtenTo (hT.later hW) (by omega) (by omega) (fun n hn=>klen hn)
 ·intro W X S hW hX hS
  exact Dfewest (hT.later hW) (Tab.later hI hW) ok hX hS
 ·intro W hW
  exact DofWord (hT.later hW) (shF_lt ok)
 ·intro W X hW hX
  exact DwholeText (b:=64) (hT.later hW) (by rw[show(2:Nat)^64=18446744073709551616 from by decide];exact shF_lt ok) (by omega) hX
 ·intro W hW
  have:=Tryz.strings_TrimRight_one ⟨(dcT (shF a)).toArray⟩ 48 (by decide) W (by show(dcT (shF a)).length≤_;omega)
  refine this.mono ?_
  rintro r w' ⟨rfl,rfl⟩
  exact⟨rfl,Below.refl _ _⟩
def shS (a:Nat):List UInt8:=if shE a < -5∨20<shE a then exL (shD a) (Lib.itoa (shE a))else ptL (shD a) ((shD a).length - 1 - shE a)
theorem exL_len (d t:List UInt8):(exL d t).length≤d.length+t.length+3:=by
 unfold exL
 rw[List.length_append,List.length_append,List.length_cons,List.length_take]
 by_cases h:1<d.length
 ·rw[if_pos h,List.length_cons,List.length_drop];omega
 ·rw[if_neg h,List.length_nil];omega
theorem shS_len {a:Nat} (hl2:(shD a).length≤36) (hE : -1000≤shE a∧shE a≤1000):(shS a).length≤20000:=by
 have h1:=Lib.itoa_length_le (shE a) (by omega) (by omega)
 have h3:=exL_len (shD a) (Lib.itoa (shE a))
 have h2:=pt_len (d:=shD a) (p:=(shD a).length - 1 - shE a)
 unfold shS
 generalize shD a=D at *
 generalize shE a=E at *
 generalize Lib.itoa E=I at *
 by_cases h:E < -5∨20<E
 ·rw[if_pos h];omega
 ·rw[if_neg h];omega
theorem DShortest {a:Nat} {w:World} (hT:Tab32 w) (hI:Ie.Tab w) (h10:Tab10 w) (ok:ShOk a) (hd:0<(shD a).length) :
  Calls Tryz.prog 7 #[.float .f64 a] w fun r w'=>r=.returned (.string ⟨(shS a).toArray⟩)∧Bw w w':=by
 have hfin:=ok.fin
 have hpos:=ok.pos
 have hx:=ok.x
 have hl:=shF_len ok
 have hl2:(shD a).length≤36:=Nat.le_trans (trimR_len _ _) hl
 have hE : -1000≤shE a∧shE a≤1000:=by unfold shE;omega
 obtain⟨c1,c2,c3⟩:=cls_fin (mag_small hfin)
 have hn:neg a=false:=by unfold neg;exact decide_eq_false (by omega)
 have hlen:(shS a).length≤20000:=shS_len hl2 hE
 have e:sgL (neg a) (shS a)=shS a:=by unfold sgL;rw[hn,if_neg (by decide)]
 rw[←e]
 refine DShortest_1 a _ w ?_
 intro W g1 hW b1
 have kC:=fun V=>Ie.c9 a (by omega) V
 rw[c3] at kC
 refine Dtold_fin a _ _ (neg a) _ _ W c1 c2 hlen kC (enters Tryz.func23 (by kernel_rfl) (by kernel_rfl)) ?_
 refine DShort1_1 a a (shE a) (shD a) (shS a) g1 W b1 ?_ (by omega) (by omega) (fun V=>?_) ?_ ?_ ?_
 ·have q3:=unought (a:=a) (by omega)
  have h1:mag a≠0:=by unfold mag;omega
  rw[decide_eq_false h1] at q3
  have e9:(FloatKind.f64.format.order a 0 != some Ordering.eq) = !(FloatKind.f64.format.order a 0==some Ordering.eq):=rfl
  rw[e9] at q3
  simpa using q3
 ·have h1:mag a=a:=by unfold mag;omega
  have:=c159 a (by omega) V
  rw[h1] at this
  exact this
 ·exact Dshortest (hT.later hW) (Tab.later hI hW) ok
 ·intro hc V hV
  unfold shS
  rw[if_pos hc]
  exact Dexpon_1 (shD a) (Lib.itoa (shE a)) (shE a) V hd (by omega) (by have:=Lib.itoa_length_le (shE a) (by omega) (by omega);show(Lib.itoa (shE a)).length≤100;omega) (fun U hU=>Ditoa (by omega) (((h10.later hW).later hV).later hU))
 ·intro hc V hV
  unfold shS
  rw[if_neg hc]
  exact Dpointed (by omega) (by omega) (knz V)
def rdA (s:List UInt8) (m:Int):Nat×Int :=
 if ¬ (1≤m∧m≤3) then(0,1)else if 1048576<s.length then(0,2)
 else if csD s = [105,110,102] then((if csS s<0 then 18442240474082181120 else 9218868437227405312),0)else if csD s = [110,97,110] then(9221120237041090561,0)
 else if psOk (csD s)=false then(0,3)else if 1100<(psD (csD s)).length then(0,2)
 else(rdFl (decide (csS s<0)) (psb (csD s)) (psD (csD s)) (psH (csD s)) (psX (csD s)) m,0)
theorem exX_le (E:List UInt8) : -6000≤exX E∧exX E≤6000:=by
 unfold exX
 split
 ·have h:=rdE_le (csD E) (csD E).length
  have hsg:csS E=1∨csS E = -1:=by unfold csS;split <;> simp
  rcases hsg with h1|h1 <;> rw[h1] <;> omega
 ·omega
theorem psX_le (L:List UInt8) : -6000≤psX L∧psX L≤6000:=by
 unfold psX
 split
 ·exact exX_le _
 ·omega
theorem psb_or (L:List UInt8):(psb L=((10:Nat):Int)∧True)∨(psb L=((16:Nat):Int)∧True):=by
 unfold psb
 split
 ·exact .inr ⟨rfl,trivial⟩
 ·exact .inl ⟨rfl,trivial⟩
theorem psOk_dg {L:List UInt8} (h:psOk L=true):allDg (psD L) (psb L)=true:=by
 unfold psOk at h
 rw[Bool.and_eq_true] at h
 have h2:=h.2
 unfold dgO at h2
 rw[Bool.and_eq_true] at h2
 exact h2.1
theorem psH_le (L:List UInt8):psH L≤(psD L).length:=by unfold psH psD;rw[List.length_append];omega
theorem DRead {s:List UInt8} {m:Int} {w:World} (hT:Tab32 w) :
  Calls Tryz.prog 14 #[.string ⟨s.toArray⟩,.int .i64 m] w fun r w'=>r=.returned (.tuple #[.float .f64 (rdA s m).1,.int .i64 (rdA s m).2])∧Bw w w':=by
 unfold rdA
 have k0:=DisMode m
 by_cases hm:1≤m∧m≤3
 ·rw[if_neg (not_not_intro hm)]
  rw[decide_eq_true hm] at k0
  by_cases hL:1048576<s.length
  ·rw[if_pos hL]
   exact DRead_long s m w hL k0
  ·rw[if_neg hL]
   have kC:=fun W=>DcutSign s W (by omega)
   have hdl:=csD_len s
   have hsg:csS s=1∨csS s = -1:=by unfold csS;split <;> simp
   by_cases h1:csD s = [105,110,102]
   ·rw[if_pos h1]
    refine DRead_inf s (csD s) m (csS s) _ w (by omega) k0 kC h1 (fun W=>?_)
    rcases hsg with e|e
    ·rw[e,if_neg (by decide)];exact cinf_p W
    ·rw[e,if_pos (by decide)];exact cinf_m W
   ·rw[if_neg h1]
    by_cases h2:csD s = [110,97,110]
    ·rw[if_pos h2]
     exact DRead_nan s (csD s) m (csS s) _ w (by omega) k0 kC h2 (fun W=>Ie.c52 W)
    ·rw[if_neg h2]
     have g1:(csD s == [105,110,102])=false:=by rw[beq_eq_false_iff_ne];exact h1
     have g2:(csD s == [110,97,110])=false:=by rw[beq_eq_false_iff_ne];exact h2
     by_cases h3:psOk (csD s)=false
     ·rw[if_pos h3]
      refine DRead_form s (csD s) m (csS s) w (by omega) k0 kC g1 g2 (fun W hW=>?_)
      refine(Dsplit (csD s) W (by omega)).mono ?_
      rintro r w' ⟨b',D,h,x,rfl,-,hb⟩
      exact⟨b',D,h,x,by rw[h3],hb⟩
     ·rw[if_neg h3]
      have h3':psOk (csD s)=true:=by simpa using h3
      have kS:∀ W,Calls Tryz.prog 55 #[.string ⟨(csD s).toArray⟩] W fun r w'=>r=.returned (.tuple #[.agg #[.int .i64 (psb (csD s)),.string ⟨(psD (csD s)).toArray⟩,.int .i64 (psH (csD s):Int),.int .i64 (psX (csD s))],.bool true])∧Bw W w':=fun W=>by
       refine(Dsplit (csD s) W (by omega)).mono ?_
       rintro r w' ⟨b',D,h,x,rfl,hh,hb⟩
       obtain⟨e1,e2,e3,e4⟩:=hh h3'
       exact⟨by rw[e1,e2,e3,e4,h3'],hb⟩
      by_cases h4:1100<(psD (csD s)).length
      ·rw[if_pos h4]
       exact DRead_digits s (csD s) (psD (csD s)) m (csS s) _ _ _ w (by omega) k0 kC g1 g2 (fun W _=>kS W) h4
      ·rw[if_neg h4]
       refine DRead_ok s (csD s) (psD (csD s)) m (csS s) _ _ _ w (by omega) k0 kC g1 g2 (fun W _=>kS W) _ (by omega) (fun W hW=>?_)
       have hdg:=psOk_dg h3'
       have hx:=psX_le (csD s)
       have hh:=psH_le (csD s)
       rcases psb_or (csD s)with ⟨e,-⟩|⟨e,-⟩
       ·rw[e] at hdg ⊢
        exact Drounded (hT.later hW) (.inl rfl) hdg (by omega) (by omega) hx hm
       ·rw[e] at hdg ⊢
        exact Drounded (hT.later hW) (.inr rfl) hdg (by omega) (by omega) hx hm
 ·rw[if_pos hm]
  rw[decide_eq_false hm] at k0
  exact DRead_mode s m w k0
theorem wk_1:rdA [48,46,49] 2=(4591870180066957722,0):=by decide +kernel
theorem wk_2:rdA [45,49,101,45,52,48,48] 1=(9223372036854775809,0):=by decide +kernel
theorem wk_3:(rdA [49,120] 2).2=3:=by decide +kernel
theorem wk_4:sgL (neg 4612811918334230528) (ptL (dcT (uN 4612811918334230528 0 2)) 0) = [50]:=by decide +kernel
theorem wk_5:sgL (neg 4602678819172646912) (ptL (dcT (uN 4602678819172646912 (exP 4602678819172646912) 2)) (exP 4602678819172646912)) = [48,46,53]:=by decide +kernel
theorem wk_6:sgL (neg 4591870180066957722) (hxT 4591870180066957722) = [48,120,49,46,57,57,57,57,57,57,57,57,57,57,57,57,97,112,45,52]:=by decide +kernel
theorem wk_7:ShOk 4599075939470750515:=⟨by decide,by decide,by decide +kernel,by decide +kernel,by decide +kernel,by decide +kernel,by decide +kernel,by decide +kernel,by decide +kernel⟩
theorem wk_8:ShOk 4921056587992461136:=⟨by decide,by decide,by decide +kernel,by decide +kernel,by decide +kernel,by decide +kernel,by decide +kernel,by decide +kernel,by decide +kernel⟩
theorem wk_9:shS 4599075939470750515 = [48,46,51]∧0<(shD 4599075939470750515).length:=by decide +kernel
theorem wk_A:shS 4921056587992461136 = [49,101,50,49]∧0<(shD 4921056587992461136).length:=by decide +kernel
theorem Dlike (a b:Nat) (ha:a<18446744073709551616) (hb:b<18446744073709551616) (w:World) :
  Calls Tryz.prog 15 #[.float .f64 a,.float .f64 b] w fun r w'=>r=.returned (.bool (same a b))∧w'=w:=by
 have kb:=Ie.run_bits
 have q1:=self_ne a ha
 have q2:=self_ne b hb
 have e:same a b=(((a:Int)==(b:Int))||(isNaN a&&isNaN b)):=rfl
 rw[e]
 clear e
 cases ha':isNaN a
 ·rw[ha'] at q1
  clear q2 ha'
  go_enter Tryz.func15,Tryz.ntmps15
  go_wp2
  go_ret
  exact⟨by simp,rfl⟩
 ·rw[ha'] at q1
  clear ha'
  cases hb':isNaN b
  ·rw[hb'] at q2
   clear hb'
   go_enter Tryz.func15,Tryz.ntmps15
   go_wp2
   go_ret
   exact⟨by simp,rfl⟩
  ·rw[hb'] at q2
   clear hb'
   go_enter Tryz.func15,Tryz.ntmps15
   go_wp2
   go_ret
   exact⟨by simp,rfl⟩
theorem same_selfD (a:Nat):same a a=true:=by unfold same;simp
theorem Dworks_1 (e3:Nat) (w:World)
  (k1:∀ W,Bw w W→Calls Tryz.prog 14 #[.string ⟨#[48,46,49]⟩,.int .i64 2] W fun r w'=>r=.returned (.tuple #[.float .f64 4591870180066957722,.int .i64 0])∧Bw W w')
  (k2:∀ W,Bw w W→Calls Tryz.prog 14 #[.string ⟨#[45,49,101,45,52,48,48]⟩,.int .i64 1] W fun r w'=>r=.returned (.tuple #[.float .f64 9223372036854775809,.int .i64 0])∧Bw W w')
  (k3:∀ W,Bw w W→Calls Tryz.prog 14 #[.string ⟨#[49,120]⟩,.int .i64 2] W fun r w'=>r=.returned (.tuple #[.float .f64 e3,.int .i64 3])∧Bw W w')
  (k4:∀ W,Bw w W→Calls Tryz.prog 50 #[.float .f64 4612811918334230528,.int .i64 0,.int .i64 2] W fun r w'=>r=.returned (.tuple #[.string ⟨#[50]⟩,.int .i64 0])∧Bw W w')
  (k5:∀ W,Bw w W→Calls Tryz.prog 7 #[.float .f64 4599075939470750515] W fun r w'=>r=.returned (.string ⟨#[48,46,51]⟩)∧Bw W w')
  (k6:∀ W,Bw w W→Calls Tryz.prog 7 #[.float .f64 4921056587992461136] W fun r w'=>r=.returned (.string ⟨#[49,101,50,49]⟩)∧Bw W w')
  (k7:∀ W,Bw w W→Calls Tryz.prog 11 #[.float .f64 4591870180066957722] W fun r w'=>r=.returned (.string ⟨#[48,120,49,46,57,57,57,57,57,57,57,57,57,57,57,57,97,112,45,52]⟩)∧Bw W w')
  (k8:∀ W,Bw w W→Calls Tryz.prog 9 #[.float .f64 4602678819172646912] W fun r w'=>r=.returned (.string ⟨#[48,46,53]⟩)∧Bw W w')
  (m1:∀ W,Calls Tryz.prog 15 #[.float .f64 4591870180066957722,.float .f64 4591870180066957722] W fun r w'=>r=.returned (.bool true)∧w'=W)
  (m2:∀ W,Calls Tryz.prog 15 #[.float .f64 9223372036854775809,.float .f64 9223372036854775809] W fun r w'=>r=.returned (.bool true)∧w'=W) :
  Calls Tryz.prog 13 #[] w fun r w'=>r=.returned (.bool true)∧Bw w w':=by
 have q1:=k1 w (Below.refl _ _)
 have K2:Hid _:=k2
 have K3:Hid _:=k3
 have K4:Hid _:=k4
 have K5:Hid _:=k5
 have K6:Hid _:=k6
 have K7:Hid _:=k7
 have K8:Hid _:=k8
 clear k1 k2 k3 k4 k5 k6 k7 k8
 go_enter Tryz.func13,Tryz.ntmps13
 go_wp2_with fail
 refine q1.mono ?_
 rintro r w1 ⟨rfl,b1⟩
 have B1:Hid (Bw w w1):=b1
 have q2:=K2.out w1 b1
 clear q1 b1 K2
 go_wp2_with fail
 refine q2.mono ?_
 rintro r w2 ⟨rfl,b2⟩
 have B2:Hid (Bw w w2):=B1.out.trans (b2.mono B1.out.size)
 have q3:=K3.out w2 B2.out
 clear q2 b2 B1 K3
 go_wp2_with fail
 refine q3.mono ?_
 rintro r w3 ⟨rfl,b3⟩
 have B3:Hid (Bw w w3):=B2.out.trans (b3.mono B2.out.size)
 have q4:=K4.out w3 B3.out
 clear q3 b3 B2 K4
 go_wp2_with fail
 refine q4.mono ?_
 rintro r w4 ⟨rfl,b4⟩
 have B4:Hid (Bw w w4):=B3.out.trans (b4.mono B3.out.size)
 have q5:=K5.out w4 B4.out
 clear q4 b4 B3 K5
 go_wp2_with fail
 refine(m1 _).mono ?_
 rintro r w' ⟨rfl,hw⟩
 replace hw:=hw.symm
 subst hw
 clear m1
 go_wp2_with fail
 refine(m2 _).mono ?_
 rintro r w' ⟨rfl,hw⟩
 replace hw:=hw.symm
 subst hw
 clear m2
 go_wp2_with fail
 refine q5.mono ?_
 rintro r w5 ⟨rfl,b5⟩
 have B5:Hid (Bw w w5):=B4.out.trans (b5.mono B4.out.size)
 have q6:=K6.out w5 B5.out
 clear q5 b5 B4 K6
 go_wp2_with fail
 refine q6.mono ?_
 rintro r w6 ⟨rfl,b6⟩
 have B6:Hid (Bw w w6):=B5.out.trans (b6.mono B5.out.size)
 have q7:=K7.out w6 B6.out
 clear q6 b6 B5 K7
 go_wp2_with fail
 refine q7.mono ?_
 rintro r w7 ⟨rfl,b7⟩
 have B7:Hid (Bw w w7):=B6.out.trans (b7.mono B6.out.size)
 have q8:=K8.out w7 B7.out
 clear q7 b7 B6 K8
 go_wp2_with fail
 refine q8.mono ?_
 rintro r w8 ⟨rfl,b8⟩
 have B8:Hid (Bw w w8):=B7.out.trans (b8.mono B7.out.size)
 clear q8 b8 B7
 go_wp2
 go_ret
 exact⟨rfl,B8.out⟩
theorem Dworks {w:World} (hT:Tab32 w) (hI:Ie.Tab w) (h10:Tab10 w):Calls Tryz.prog 13 #[] w fun r w'=>r=.returned (.bool true)∧Bw w w':=by
 have like:∀ a,a<18446744073709551616→∀ W,Calls Tryz.prog 15 #[.float .f64 a,.float .f64 a] W fun r w'=>r=.returned (.bool true)∧w'=W:=fun a ha W=>by
  have:=Dlike a a ha ha W
  rw[same_selfD] at this
  exact this
 refine Dworks_1 (rdA [49,120] 2).1 w ?_ ?_ ?_ ?_ ?_ ?_ ?_ ?_ (like _ (by decide)) (like _ (by decide))
 ·intro W hW
  have:=DRead (s := [48,46,49]) (m:=2) (hT.later hW)
  rw[wk_1] at this
  exact this
 ·intro W hW
  have:=DRead (s := [45,49,101,45,52,48,48]) (m:=1) (hT.later hW)
  rw[wk_2] at this
  exact this
 ·intro W hW
  have:=DRead (s := [49,120]) (m:=2) (hT.later hW)
  rw[wk_3] at this
  exact this
 ·intro W hW
  have:=DFixed (a:=4612811918334230528) (pl:=0) (m:=2) (hT.later hW) (Tab.later hI hW) (by decide) (by decide) (by decide) (by decide) (by decide)
  rw[wk_4] at this
  exact this
 ·intro W hW
  have:=DShortest (hT.later hW) (Tab.later hI hW) (h10.later hW) wk_7 wk_9.2
  rw[wk_9.1] at this
  exact this
 ·intro W hW
  have:=DShortest (hT.later hW) (Tab.later hI hW) (h10.later hW) wk_8 wk_A.2
  rw[wk_A.1] at this
  exact this
 ·intro W hW
  have:=DHex (a:=4591870180066957722) (Tab.later hI hW) (h10.later hW) (by decide) (by decide)
  rw[wk_6] at this
  exact this
 ·intro W hW
  have:=DExact (a:=4602678819172646912) (hT.later hW) (Tab.later hI hW) (by decide) (by decide)
  rw[wk_5] at this
  exact this
theorem bl_geD {x n:Nat} (h:2^n≤x):n+1≤bl x:=by
 rcases Nat.lt_or_ge n (bl x)with h1|h1
 ·exact h1
 ·have:=(bl_le x n).1 h1
  omega
theorem bl_pow_le {x:Nat} (h:x≠0):2^(bl x - 1)≤x:=by
 rcases Nat.lt_or_ge x (2^(bl x - 1))with h1|h1
 ·have h2:=(bl_le x (bl x - 1)).2 h1
  have h3:bl x=0:=by omega
  have h4:=(bl_le x 0).1 (by omega)
  rw[Nat.pow_zero] at h4
  omega
 ·exact h1
theorem rt_bl {x y k:Nat} (hx:x≠0) (hy:y≠0) (hk:64+bl y≤bl x+k):64≤bl (x*2^k / y):=by
 have h1:=bl_pow_le hx
 have h2:y<2^bl y:=(bl_le y (bl y)).1 (Nat.le_refl _)
 have h0:1≤bl x:=by
  rcases Nat.lt_or_ge 0 (bl x)with h|h
  ·exact h
  ·have h4:=(bl_le x 0).1 (by omega)
   rw[Nat.pow_zero] at h4
   omega
 refine bl_geD (n:=63) ?_
 rw[Nat.le_div_iff_mul_le (by omega)]
 have h3:2^63*y≤2^63*2^bl y:=Nat.mul_le_mul_left _ (by omega)
 have h4:2^(bl x - 1)*2^k≤x*2^k:=Nat.mul_le_mul_right _ h1
 rw[←Nat.pow_add] at h3 h4
 have h5:(2:Nat)^(63+bl y)≤2^(bl x - 1+k):=Nat.pow_le_pow_right (by decide) (by omega)
 omega
theorem tf_one (ex:Bool) (q:Nat) (h:Int) (hq:64≤bl q) (hh : -65535≤h):∃ (x:Nat) (e:Int),-65536≤e∧∀ (s:Bool) (m:Int),1≤m∧m≤3→tfF s ex q h m=sig s (bdy x e (wyN s m)):=by
 cases ex
 ·exact⟨2*q+1,h - 1,by omega,fun s m hm=>by rw[tf_sticky hq,tf_bdy hm]⟩
 ·exact⟨q,h,by omega,fun s m hm=>tf_bdy hm⟩
theorem rt_one {Z:Nat} {P U b c:Nat} (hZ:Z≠0) (hU:U≠0) (hZb:Z<2^b) (hUb:U<2^c) (hP:P+c≤60000):∃ (x:Nat) (e:Int),-65536≤e∧∀ (s:Bool) (m:Int),1≤m∧m≤3→rtF (un (if s then -(Z:Int) else(Z:Int)) P) (un (U:Int) 0) m=sig s (bdy x e (wyN s m)):=by
 have eU:un (U:Int) 0=(false,U / 2^tz U,(tz U:Int)):=by
  unfold un cn
  rw[Int.natAbs_natCast,if_neg hU,decide_eq_false (by omega)]
  simp
 have eZ:∀ s:Bool,un (if s then -(Z:Int) else(Z:Int)) P=(s,Z / 2^tz Z,(tz Z:Int) - (P:Int)):=by
  intro s
  cases s
  ·rw[if_neg (by decide)]
   unfold un cn
   rw[Int.natAbs_natCast,if_neg hZ,decide_eq_false (by omega)]
   simp;omega
  ·rw[if_pos rfl]
   unfold un cn
   rw[Int.natAbs_neg,Int.natAbs_natCast,if_neg hZ,decide_eq_true (by omega)]
   simp;omega
 have sU:=(tz_spec _ _ (Nat.le_refl _) hU).1
 have sZ':=(tz_spec _ _ (Nat.le_refl _) hZ).1
 have hx:Z / 2^tz Z≠0:=by intro h9;rw[h9,Nat.mul_zero] at sZ';omega
 have hy:U / 2^tz U≠0:=by intro h9;rw[h9,Nat.mul_zero] at sU;omega
 have bU':bl U=bl (U / 2^tz U)+tz U:=by
  have:=bl_shlD (x:=U / 2^tz U) (k:=tz U) hy
  rw[Nat.mul_comm,sU] at this
  exact this
 have hbU:bl U≤c:=(bl_le U c).2 hUb
 generalize U / 2^tz U=y at *
 generalize Z / 2^tz Z=x at *
 have hk:64+bl y≤bl x+(max 0 (64+(bl y:Int) - (bl x:Int))).toNat:=by omega
 obtain⟨X,e,h1,h2⟩:=tf_one (decide (x*2^(max 0 (64+(bl y:Int) - (bl x:Int))).toNat % y=0)) (x*2^(max 0 (64+(bl y:Int) - (bl x:Int))).toNat / y) ((tz Z:Int) - (P:Int) - (tz U:Int) - (max 0 (64+(bl y:Int) - (bl x:Int))).toNat) (rt_bl hx hy hk) (by omega)
 refine⟨X,e,h1,fun s m hm=>?_⟩
 rw[eU,eZ s]
 unfold rtF rtK
 rw[←h2 s m hm]
 simp
def RdN (c P Q:Nat):Prop:=((bv (c - 1)+bv c)*Q<P∨((bv (c - 1)+bv c)*Q=P∧c % 2=0))∧(P<(bv c+bv (c+1))*Q∨(P=(bv c+bv (c+1))*Q∧c % 2=0))
theorem rounds_near {A u b c:Nat} (hu:0<u) (h:Rounds A u b 1) (hc:0<c):b=c↔RdN c (2*A) u:=by
 obtain⟨b0,⟨l,g⟩,-,-,w1⟩:=h.fl
 replace w1:=w1 rfl
 unfold RdN
 have m0:bv b0<bv (b0+1):=bv_succ b0
 have m1:bv (c - 1)<bv c:=bv_lt (by omega)
 have m2:bv c<bv (c+1):=bv_succ c
 rcases Nat.lt_trichotomy b0 (c - 1)with h1|h1|h1
 ·have k1:bv (b0+1)≤bv (c - 1):=bv_le (by omega)
  have k2:bv (b0+1)*u≤bv (c - 1)*u:=Nat.mul_le_mul_right _ k1
  have k3:bv (c - 1)*u<bv c*u:=Nat.mul_lt_mul_of_pos_right m1 hu
  have hb:b≤b0+1:=by rw[w1];split;omega;split;omega;omega
  rw[Nat.add_mul (bv (c - 1))]
  constructor
  ·intro e;omega
  ·rintro⟨h2|⟨h2,-⟩,-⟩ <;> omega
 ·obtain rfl:c=b0+1:=by omega
  rw[show b0+1 - 1=b0 by omega] at *
  have k2:bv (b0+1)*u<bv (b0+1+1)*u:=Nat.mul_lt_mul_of_pos_right m2 hu
  rw[w1,Nat.add_mul (bv (b0+1))]
  split
  ·constructor
   ·intro e;omega
   ·rintro⟨h2|⟨h2,-⟩,-⟩ <;> omega
  ·split
   ·constructor
    ·intro e;exact⟨.inr ⟨by omega,by omega⟩,.inl (by omega)⟩
    ·rintro⟨h2|⟨h2,h3⟩,-⟩ <;> omega
   ·constructor
    ·intro e;exact⟨.inl (by omega),.inl (by omega)⟩
    ·intro _;rfl
 ·rcases Nat.lt_or_ge c b0 with h2|h2
  ·have k1:bv (c+1)≤bv b0:=bv_le (by omega)
   have k2:bv (c+1)*u≤bv b0*u:=Nat.mul_le_mul_right _ k1
   have k3:bv c*u<bv (c+1)*u:=Nat.mul_lt_mul_of_pos_right m2 hu
   have hb:b0≤b:=by rw[w1];split;omega;split;omega;omega
   rw[Nat.add_mul (bv c)]
   constructor
   ·intro e;omega
   ·rintro⟨-,h2|⟨h2,-⟩⟩ <;> omega
  ·obtain rfl:c=b0:=by omega
   have k3:bv (c - 1)*u<bv c*u:=Nat.mul_lt_mul_of_pos_right m1 hu
   rw[w1,Nat.add_mul (bv (c - 1))]
   split
   ·constructor
    ·intro _;exact⟨.inl (by omega),.inl (by assumption)⟩
    ·intro _;rfl
   ·split
    ·constructor
     ·intro e;exact⟨.inl (by omega),.inr ⟨by assumption,by omega⟩⟩
     ·rintro⟨-,h2|⟨h2,h3⟩⟩ <;> omega
    ·constructor
     ·intro e;omega
     ·rintro⟨-,h2|⟨h2,h3⟩⟩ <;> omega
theorem RdN.scale {c P Q k:Nat} (hk:0<k):RdN c (P*k) (Q*k)↔RdN c P Q:=by
 have key:∀ L:Nat,(L*(Q*k)<P*k↔L*Q<P)∧(L*(Q*k)=P*k↔L*Q=P)∧(P*k<L*(Q*k)↔P<L*Q)∧(P*k=L*(Q*k)↔P=L*Q):=by
  intro L
  rw[←Nat.mul_assoc]
  refine⟨Nat.mul_lt_mul_right hk,⟨fun h=>Nat.eq_of_mul_eq_mul_right hk h,fun h=>by rw[h]⟩,Nat.mul_lt_mul_right hk,⟨fun h=>Nat.eq_of_mul_eq_mul_right hk h,fun h=>by rw[h]⟩⟩
 unfold RdN
 obtain⟨a1,a2,-,-⟩:=key (bv (c - 1)+bv c)
 obtain⟨-,-,b1,b2⟩:=key (bv c+bv (c+1))
 rw[a1,a2,b1,b2]
theorem bdy_near {K:Nat} (hK:70000≤K) {x:Nat} {e:Int} {c:Nat} (hx:x≠0) (he : -65536≤e) (hc:0<c) (hc2:c<9218868437227405312):bdy x e 1=c↔RdN c (2*VA K x e) (UU K):=by
 rw[←rounds_near (UU_pos K) (VA_rounds hK hx he) hc]
 unfold bdy
 rw[if_neg hx]
 split
 ·exact Iff.rfl
 ·rw[if_neg (by decide)]
  constructor
  ·intro h;omega
  ·intro h;omega
theorem RdN.cross {c P Q P' Q' s t:Nat} (hs:0<s) (ht:0<t) (h1:P*s=P'*t) (h2:Q*s=Q'*t):RdN c P Q↔RdN c P' Q':=by
 rw[←RdN.scale (c:=c) (P:=P) (Q:=Q) hs,←RdN.scale (c:=c) (P:=P') (Q:=Q') ht,h1,h2]
theorem fl_mid {T y G u:Nat} (hy:0<y) (hG:y<G) (hT:G ∣ T) (hu:G ∣ u) (L:Nat):(L*u<T / y↔L*(u*y)<T)∧(L*u=T / y↔L*(u*y)=T)∧(T / y<L*u↔T<L*(u*y))∧(T / y=L*u↔T=L*(u*y)):=by
 obtain⟨T',rfl⟩:=hT
 obtain⟨v,rfl⟩:=hu
 have e1:L*(G*v*y)=G*(L*v*y):=by rw[Nat.mul_assoc G,Nat.mul_left_comm L,Nat.mul_assoc L]
 have e2:L*(G*v)*y=L*(G*v*y):=Nat.mul_assoc ..
 have a3:G*T' / y<L*(G*v)↔G*T'<L*(G*v*y):=by rw[Nat.div_lt_iff_lt_mul hy,e2]
 have a1:L*(G*v)<G*T' / y↔L*(G*v*y)<G*T':=by
  constructor
  ·intro h
   have:=(Nat.le_div_iff_mul_le hy).1 h
   rw[Nat.succ_mul,e2] at this
   omega
  ·intro h
   refine(Nat.le_div_iff_mul_le hy).2 ?_
   rw[Nat.succ_mul,e2]
   rw[e1] at h ⊢
   have h2:L*v*y<T':=Nat.lt_of_mul_lt_mul_left h
   have h3:G*(L*v*y+1)≤G*T':=Nat.mul_le_mul_left G h2
   rw[Nat.mul_add] at h3
   omega
 have a2:L*(G*v)=G*T' / y↔L*(G*v*y)=G*T':=by omega
 exact⟨a1,a2,a3,by omega⟩
theorem RdN.fl {c T y G u:Nat} (hy:0<y) (hG:y<G) (hT:G ∣ T) (hu:G ∣ u):RdN c (T / y) u↔RdN c T (u*y):=by
 obtain⟨a1,a2,-,-⟩:=fl_mid hy hG hT hu (bv (c - 1)+bv c)
 obtain⟨-,-,b1,b2⟩:=fl_mid hy hG hT hu (bv c+bv (c+1))
 unfold RdN
 rw[a1,a2,b1,b2]
theorem twB_pos (n:Nat):0<2^n:=Nat.two_pow_pos n
theorem pe {a b:Nat} (h:a=b):(2:Nat)^a=2^b:=by rw[h]
theorem near_ex {c x y q k P tu tz p K E:Nat} (hq:q*y=x*2^k) (hy:0<y) (hp:p≤K) (hE:E+P+tu+k=tz+K):RdN c (2*(q*2^E)) (2^(K - p))↔RdN c (2*(x*2^tz)*2^p) (y*2^tu*2^P):=by
 refine RdN.cross (s:=y*2^(P+tu)) (t:=2^(K - p)) (Nat.mul_pos hy (twB_pos _)) (twB_pos _) ?_ ?_
 ·have e1:2*(q*2^E)*(y*2^(P+tu))=2*(q*y)*(2^E*2^(P+tu)):=by ac_rfl
  have e2:2*(x*2^tz)*2^p*2^(K - p)=2*x*(2^tz*2^p*2^(K - p)):=by ac_rfl
  rw[e1,hq,e2,←Nat.pow_add,←Nat.pow_add,←Nat.pow_add,←Nat.mul_assoc,Nat.mul_assoc,←Nat.pow_add]
  rw[pe (show k+(E+(P+tu))=tz+p+(K - p) by omega)]
 ·have e1:y*2^tu*2^P*2^(K - p)=2^(K - p)*(y*(2^P*2^tu)):=by ac_rfl
  rw[e1,←Nat.pow_add]
theorem near_in {c x y k D P tu tz p K E b:Nat} (hy:0<y) (hb:y<2^b) (hD:b≤k+D) (hE:E+1+p+b≤K) (hp:p≤K) (he:E+D+P+tu+k=tz+K):RdN c (2*(x*2^(k+D) / y*2^E)) (2^(K - p))↔RdN c (2*(x*2^tz)*2^p) (y*2^tu*2^P):=by
 have e0:2*(x*2^(k+D) / y*2^E)=x*2^(k+D) / y*2^(E+1):=by rw[Nat.pow_succ];ac_rfl
 have e1:2^(K - p)=2^(K - p - (E+1))*2^(E+1):=by rw[←Nat.pow_add];exact pe (by omega)
 rw[e0,e1,RdN.scale (twB_pos _),RdN.fl (G:=2^b) hy hb (Nat.dvd_trans (Nat.pow_dvd_pow 2 hD) (Nat.dvd_mul_left _ _)) (Nat.pow_dvd_pow 2 (by omega))]
 refine RdN.cross (s:=2^(1+p+tz)) (t:=2^(k+D)) (twB_pos _) (twB_pos _) ?_ ?_
 ·have e2:2*(x*2^tz)*2^p*2^(k+D)=x*2^(k+D)*(2^1*2^p*2^tz):=by rw[Nat.pow_one];ac_rfl
  rw[e2,←Nat.pow_add,←Nat.pow_add]
 ·have e3:y*2^tu*2^P*2^(k+D)=(2^tu*2^P*2^(k+D))*y:=by ac_rfl
  have e4:2^(K - p - (E+1))*y*2^(1+p+tz)=2^(K - p - (E+1))*2^(1+p+tz)*y:=by ac_rfl
  rw[e3,e4,←Nat.pow_add,←Nat.pow_add,←Nat.pow_add]
  rw[pe (show K - p - (E+1)+(1+p+tz)=tu+P+(k+D) by omega)]
theorem sig_f (b:Nat):sig false b=b:=rfl
theorem un_partsB (Z P:Nat) (hZ:Z≠0):un (Z:Int) P=(false,Z / 2^tz Z,(tz Z:Int) - (P:Int)):=by
 unfold un cn
 rw[Int.natAbs_natCast,if_neg hZ,decide_eq_false (by omega)]
 simp;omega
theorem rt_near {Z P U b c d:Nat} (hZ:Z≠0) (hU:U≠0) (hZb:Z<2^b) (hUb:U<2^d) (hP:P+2*d≤60000) (hc:0<c) (hc2:c<9218868437227405312):rtF (un (Z:Int) P) (un (U:Int) 0) 2=c↔RdN c (2*Z*2^kP) (U*2^P):=by
 have hkP:=kP_eq
 obtain⟨K,hK⟩:∃ K:Nat,K=300000:=⟨_,rfl⟩
 have sU:=(tz_spec _ _ (Nat.le_refl _) hU).1
 have sZ':=(tz_spec _ _ (Nat.le_refl _) hZ).1
 have hx:Z / 2^tz Z≠0:=by intro h9;rw[h9,Nat.mul_zero] at sZ';omega
 have hy:U / 2^tz U≠0:=by intro h9;rw[h9,Nat.mul_zero] at sU;omega
 have bU':bl U=bl (U / 2^tz U)+tz U:=by
  have:=bl_shlD (x:=U / 2^tz U) (k:=tz U) hy
  rw[Nat.mul_comm,sU] at this
  exact this
 have hbU:bl U≤d:=(bl_le U d).2 hUb
 rw[un_partsB Z P hZ,un_partsB U 0 hU]
 rw[Nat.mul_comm] at sU sZ'
 generalize U / 2^tz U=y at *
 generalize Z / 2^tz Z=x at *
 generalize tz U=tu at *
 generalize tz Z=tZ at *
 have hyb:y<2^bl y:=(bl_le y (bl y)).1 (Nat.le_refl _)
 unfold rtF rtK
 show tfF (false != false) (decide (x*2^(max 0 (64+(bl y:Int) - (bl x:Int))).toNat % y=0)) (x*2^(max 0 (64+(bl y:Int) - (bl x:Int))).toNat / y) ((tZ:Int) - (P:Int) - ((tu:Int) - ((0:Nat):Int)) - ((max 0 (64+(bl y:Int) - (bl x:Int))).toNat:Int)) 2=c↔_
 have hk:64+bl y≤bl x+(max 0 (64+(bl y:Int) - (bl x:Int))).toNat:=by omega
 have hk2:(max 0 (64+(bl y:Int) - (bl x:Int))).toNat≤64+bl y:=by omega
 generalize (max 0 (64+(bl y:Int) - (bl x:Int))).toNat=k at *
 have hq:64≤bl (x*2^k / y):=rt_bl hx hy hk
 have hq0:x*2^k / y≠0:=by intro h9;rw[h9] at hq;exact absurd hq (by decide)
 rw[←sZ',←sU]
 have hf:(false != false)=false:=rfl
 rw[hf]
 by_cases hr:x*2^k % y=0
 ·rw[decide_eq_true hr,tf_bdy (by omega),sig_f]
  show bdy _ _ 1=c↔_
  rw[bdy_near (K:=K) (by omega) hq0 (by omega) hc hc2]
  unfold VA UU
  rw[←hkP]
  refine near_ex (k:=k) ?_ (by omega) (by omega) ?_
  ·exact Nat.div_mul_cancel (Nat.dvd_of_mod_eq_zero hr)
  ·omega
 ·rw[decide_eq_false hr]
  obtain⟨D,hD⟩:∃ D:Nat,D=(max 0 ((tZ:Int) - (P:Int) - ((tu:Int) - ((0:Nat):Int)) - (k:Int)+1075)).toNat+bl y:=⟨_,rfl⟩
  have hr1:x*2^k % y<y:=Nat.mod_lt _ (by omega)
  have hw:x*2^(k+D) / y=x*2^k / y*2^D+x*2^k % y*2^D / y:=by
   have e1:x*2^(k+D)=x*2^k % y*2^D+x*2^k / y*2^D*y:=by
    have e2:=Nat.mod_add_div (x*2^k) y
    rw[Nat.pow_add,←Nat.mul_assoc]
    have e3:x*2^k / y*2^D*y=(y*(x*2^k / y))*2^D:=by ac_rfl
    rw[e3,←Nat.add_mul,e2]
   rw[e1,Nat.add_mul_div_right _ _ (by omega),Nat.add_comm]
  have hD2:2^bl y≤2^D:=Nat.pow_le_pow_right (by decide) (by omega)
  have hr0:x*2^k % y*2^D / y≠0:=by
   have:1*2^D≤x*2^k % y*2^D:=Nat.mul_le_mul_right _ (by omega)
   have:=(Nat.le_div_iff_mul_le (show 0<y by omega)).2 (show 1*y≤x*2^k % y*2^D by omega)
   omega
  have hr2:x*2^k % y*2^D / y<2^D:=by
   rw[Nat.div_lt_iff_lt_mul (by omega),Nat.mul_comm]
   exact Nat.mul_lt_mul_of_pos_left hr1 (twB_pos D)
  rw[tf_fine hq hr0 hr2,←hw,tf_bdy (by omega),sig_f]
  have hw0:x*2^(k+D) / y≠0:=by rw[hw];exact Nat.ne_of_gt (Nat.lt_of_lt_of_le (Nat.pos_of_ne_zero hr0) (Nat.le_add_left _ _))
  show bdy _ _ 1=c↔_
  rw[bdy_near (K:=K) (by omega) hw0 (by omega) hc hc2]
  unfold VA UU
  rw[←hkP]
  exact near_in (k:=k) (b:=bl y) (by omega) hyb (by omega) (by omega) (by omega) (by omega)
def dcF:Nat→Nat→List UInt8
 | 0,_ => []
 | f+1,N=>if N=0 then [] else dcF f (N / 10) ++ [UInt8.ofNat (48+N % 10)]
def dcR (N:Nat):List UInt8:=dcF (N+1) N
theorem dcF_eq:∀ (f g N:Nat),N<10^f→N<10^g→dcF f N=dcF g N
 | 0,g,N,h1,h2=>by
  have:N=0:=by rw[Nat.pow_zero] at h1;omega
  subst this
  cases g <;> simp[dcF]
 | f+1,0,N,h1,h2=>by
  have:N=0:=by rw[Nat.pow_zero] at h2;omega
  subst this
  simp[dcF]
 | f+1,g+1,N,h1,h2=>by
  unfold dcF
  rw[Nat.pow_succ] at h1 h2
  rw[dcF_eq f g (N / 10) (by omega) (by omega)]
theorem lt_ten (N:Nat):N<10^N:=Nat.lt_pow_self (by decide)
theorem dcR_f {f N:Nat} (h:N<10^f):dcF f N=dcR N:=dcF_eq f (N+1) N h (Nat.lt_of_lt_of_le (lt_ten N) (Nat.pow_le_pow_right (by decide) (by omega)))
theorem dcR_0:dcR 0 = []:=rfl
theorem dcR_step {N:Nat} (h:N≠0):dcR N=dcR (N / 10) ++ [UInt8.ofNat (48+N % 10)]:=by
 have h1:N<10^(N+1):=Nat.lt_of_lt_of_le (lt_ten N) (Nat.pow_le_pow_right (by decide) (by omega))
 rw[←dcR_f h1]
 unfold dcF
 rw[if_neg h]
 congr 1
 exact dcR_f (Nat.lt_of_le_of_lt (Nat.div_le_self _ _) (lt_ten N))
theorem ldL_step (N c:Nat):ldL N (c+1)=ldL (N / 10) c ++ [UInt8.ofNat (48+N % 10)]:=by
 unfold ldL
 rw[List.range_succ,List.map_append]
 congr 1
 ·apply List.map_congr_left
  intro j hj
  have hj':=List.mem_range.1 hj
  unfold ldB
  rw[show c+1 - 1 - j=(c - 1 - j)+1 by omega,Nat.pow_succ',←Nat.div_div_eq_div_mul]
 ·simp[ldB]
theorem trim_snoc (A:List UInt8) (x:UInt8):Lib.trimLeftB (A ++ [x]) 48=if Lib.trimLeftB A 48 = [] then(if x=48 then [] else [x])else Lib.trimLeftB A 48 ++ [x]:=by
 induction A with
 | nil =>
  unfold Lib.trimLeftB
  by_cases h:x=48
  ·simp[h]
  ·simp[h]
 | cons a A ih =>
  by_cases h:a=48
  ·have e1:Lib.trimLeftB (a :: A ++ [x]) 48=Lib.trimLeftB (A ++ [x]) 48:=by unfold Lib.trimLeftB;simp[h]
   have e2:Lib.trimLeftB (a :: A) 48=Lib.trimLeftB A 48:=by unfold Lib.trimLeftB;simp[h]
   rw[e1,e2,ih]
  ·have e1:Lib.trimLeftB (a :: A ++ [x]) 48=a :: A ++ [x]:=by unfold Lib.trimLeftB;simp[h]
   have e2:Lib.trimLeftB (a :: A) 48=a :: A:=by unfold Lib.trimLeftB;simp[h]
   rw[e1,e2,if_neg (by simp)]
theorem dcR_nil {N:Nat}:dcR N = []↔N=0:=by
 constructor
 ·intro h
  apply Classical.byContradiction
  intro h0
  rw[dcR_step h0] at h
  simp at h
 ·intro h;rw[h];rfl
theorem trim_ldL:∀ (c N:Nat),N<10^c→Lib.trimLeftB (ldL N c) 48=dcR N
 | 0,N,h=>by
  have:N=0:=by rw[Nat.pow_zero] at h;omega
  subst this
  rfl
 | c+1,N,h=>by
  rw[Nat.pow_succ] at h
  rw[ldL_step,trim_snoc,trim_ldL c (N / 10) (by omega)]
  by_cases h0:N=0
  ·subst h0
   rw[if_pos (dcR_nil.2 (by omega))]
   rfl
  ·rw[dcR_step h0]
   by_cases h1:N / 10=0
   ·rw[if_pos (dcR_nil.2 h1),h1,dcR_0,List.nil_append,if_neg]
    intro h9
    have h8:=congrArg UInt8.toNat h9
    rw[UInt8.toNat_ofNat_of_lt' (show 48+N % 10<256 by omega)] at h8
    have:N % 10=0:=by simpa using h8
    omega
   ·rw[if_neg (fun h9=>h1 (dcR_nil.1 h9))]
theorem ldL_app (N a b:Nat):ldL (N / 10^b) a++ldL N b=ldL N (a+b):=by
 induction b generalizing N with
 | zero =>
  have:ldL N 0 = []:=rfl
  rw[this,List.append_nil,Nat.pow_zero,Nat.div_one,Nat.add_zero]
 | succ b ih =>
  rw[ldL_step,←List.append_assoc,show a+(b+1)=(a+b)+1 by omega,ldL_step,←ih (N / 10)]
  congr 3
  rw[Nat.div_div_eq_div_mul,Nat.pow_succ']
theorem ldL_mod {N c d:Nat} (h:c≤d):ldL (N % 10^d) c=ldL N c:=by
 unfold ldL
 apply List.map_congr_left
 intro j hj
 have hj':=List.mem_range.1 hj
 unfold ldB
 congr 2
 have h2:10^(c - 1 - j)*10 ∣ 10^d:=by
  rw[←Nat.pow_succ]
  exact Nat.pow_dvd_pow 10 (by omega)
 rw[←Nat.mod_mul_right_div_self,←Nat.mod_mul_right_div_self,Nat.mod_mod_of_dvd _ h2]
theorem wtL_ldL (N:Nat):∀ k,wtL N k=ldL N (18*k)
 | 0=>rfl
 | k+1=>by
  unfold wtL
  rw[wtL_ldL N k,ldL_mod (Nat.le_refl 18),show 18*(k+1)=18+18*k by omega]
  exact ldL_app N 18 (18*k)
theorem dcT_eq (N:Nat):dcT N=dcR N:=by
 unfold dcT
 rw[wtL_ldL]
 exact trim_ldL _ N (eiF_spec N N (Nat.le_refl _)).1
theorem stp_pos {a:Nat} (h:a≤9218868437227405312):stp a=(a:Int):=by
 have h1:neg a=false:=by unfold neg;exact decide_eq_false (by omega)
 have h2:mag a=a:=by unfold mag;omega
 unfold stp sgn
 rw[h1,h2];rfl
theorem lt_pos {a b:Nat} (ha:a≤9218868437227405312) (hb:b≤9218868437227405312):lt a b=decide (a<b):=by
 have h1:isNaN a=false:=by unfold isNaN mag;exact decide_eq_false (by omega)
 have h2:isNaN b=false:=by unfold isNaN mag;exact decide_eq_false (by omega)
 have e1:=stp_pos ha
 have e2:=stp_pos hb
 unfold lt
 rw[h1,h2,e1,e2]
 by_cases h:a<b
 ·rw[decide_eq_true h,decide_eq_true (by omega)];rfl
 ·rw[decide_eq_false h,decide_eq_false (by omega)];rfl
theorem eq_pos {a b:Nat} (ha:a≤9218868437227405312) (hb:b≤9218868437227405312):eq a b=decide (a=b):=by
 have h1:isNaN a=false:=by unfold isNaN mag;exact decide_eq_false (by omega)
 have h2:isNaN b=false:=by unfold isNaN mag;exact decide_eq_false (by omega)
 have e1:=stp_pos ha
 have e2:=stp_pos hb
 unfold eq
 rw[h1,h2,e1,e2]
 by_cases h:a=b
 ·rw[decide_eq_true h,decide_eq_true (by omega)];rfl
 ·rw[decide_eq_false h,decide_eq_false (by omega)];rfl
end Go.Proofs.YtfkaogdmlcdceaaGreatDoor
namespace Go.Proofs.YtfkaogdmlcdceaaGreatDoor
open Go.RowKit Go.Fl64
end Go.Proofs.YtfkaogdmlcdceaaGreatDoor
namespace Go.Proofs.YtfkaogdmlcdceaaGreatDoor
open Go Go.RowKit Go.Fl64
theorem eval_cst (a:Act) (v:Value):a.eval (.const v)=v:=rfl
def rvD (N:Nat):List UInt8:=(dcR N).reverse
theorem rvD_len {N b:Nat} (h:N<10^b):(rvD N).length≤b:=by
 unfold rvD
 rw[List.length_reverse,←dcR_f h]
 clear h
 induction b generalizing N with
 | zero=>simp[dcF]
 | succ b ih =>
  unfold dcF
  split
  ·simp
  ·rw[List.length_append,List.length_singleton]
   have:=ih (N:=N / 10)
   omega
def dcD (N:Nat):List UInt8:=if N=0 then [48] else dcR N
theorem ten_ltQ (a:Nat):(((10^a:Nat):Int)).natAbs<2^(4*a+1):=by
 rw[Int.natAbs_natCast]
 have h:10^a≤2^(4*a):=by rw[Nat.pow_mul];exact Nat.pow_le_pow_left (by decide) _
 rw[Nat.pow_succ]
 have:=Nat.two_pow_pos (4*a)
 omega
def scF (A:Nat) (k:Int):Nat:=A*tnO k / (tnU k*kU)
def scE (A:Nat) (k:Int):Bool:=decide (A*tnO k % (tnU k*kU)=0)
end Go.Proofs.YtfkaogdmlcdceaaGreatDoor
namespace Go.Proofs.YtfkaogdmlcdceaaGreatDoor
open Go.RowKit Go.Fl64
end Go.Proofs.YtfkaogdmlcdceaaGreatDoor
namespace Go.Proofs.YtfkaogdmlcdceaaGreatDoor
open Go Go.RowKit Go.Fl64
theorem nat_lt {A b:Nat} (h:A<2^b):(((A:Nat):Int)).natAbs<2^b:=by rw[Int.natAbs_natCast];exact h
theorem ten_ltN (n:Nat):10^n<2^(4*n+1):=by have:=ten_ltQ n;rw[Int.natAbs_natCast] at this;exact this
theorem mulN {a b k l:Nat} (h1:a<2^k) (h2:b<2^l):a*b<2^(k+l):=by
 have:=abs_mul (nat_lt h1) (nat_lt h2)
 rw[←Int.natCast_mul,Int.natAbs_natCast] at this
 exact this
def scR (A:Nat) (k:Int):Nat:=A*tnO k % (tnU k*kU)
def rdU (A:Nat) (k:Int) (neg:Bool) (m:Int):Bool :=
 if m=2 then decide (tnU k*kU<2*scR A k)||(decide (2*scR A k=tnU k*kU)&&decide (scF A k % 2=1))else if m=3 then !neg else neg
def rdN (A:Nat) (k:Int) (neg:Bool) (m:Int):Nat:=if scE A k then scF A k else if rdU A k neg m then scF A k+1 else scF A k
theorem tnU_pos (k:Int):0<tnU k*kU:=Nat.mul_pos (Nat.pow_pos (by decide)) kU_pos
theorem sc_eq (A:Nat) (k:Int):A*tnO k=tnU k*kU*scF A k+scR A k∧scR A k<tnU k*kU:=⟨(Nat.div_add_mod _ _).symm,Nat.mod_lt _ (tnU_pos k)⟩
def hT8:Nat:=8001
theorem hT8_eq:hT8=8001:=rfl
theorem tnO_lt {k:Int} (hk : -2000≤k∧k≤2000):tnO k<2^hT8∧tnU k<2^hT8:=by
 have key:∀ n:Nat,n≤2000→10^n<2^hT8:=fun n hn=>Nat.lt_of_lt_of_le (ten_ltN n) (Nat.pow_le_pow_right (by decide) (by rw[hT8_eq];omega))
 exact⟨key _ (by omega),key _ (by omega)⟩
theorem scF_lt {A:Nat} {k:Int} (hA:A<2^bU) (hk : -2000≤k∧k≤2000):scF A k<2^(bU+hT8)∧scF A k+1<2^(bU+hT8+1)∧tnU k*kU<2^(hT8+bU):=by
 have h1:=mulN hA (tnO_lt hk).1
 have h2:scF A k≤A*tnO k:=Nat.div_le_self _ _
 have h3:=mulN (tnO_lt hk).2 kU_lt
 refine⟨by omega,?_,h3⟩
 rw[Nat.pow_succ]
 have:=Nat.one_le_two_pow (n:=bU+hT8)
 omega
theorem kU_kP:(2:Nat)^kP=kU:=by
 have h:kU=pU kP:=by unfold kU;rw[kP_eq]
 rw[h]
 unfold pU
 exact Eq.refl _
theorem kP1_half:kU=2*2^kP1:=by
 rw[←kU_kP,show kP=kP1+1 by rw[kP_eq];rfl,Nat.pow_succ,Nat.mul_comm]
theorem uN_rd {a:Nat} {k m:Int} (hm:1≤m∧m≤3):uN a k m=rdN (fU a) k (neg a) m:=by
 obtain⟨e1,e2⟩:=sc_eq (fU a) k
 have hQ:=tnU_pos k
 obtain⟨h,hh⟩:∃ h,h=tnU k*2^kP1:=⟨_,rfl⟩
 have hQh:tnU k*kU=2*h:=by rw[kP1_half,hh,←Nat.mul_assoc,Nat.mul_comm (tnU k) 2,Nat.mul_assoc]
 obtain⟨low,hlow⟩:∃ low,low=scF (fU a) k:=⟨_,rfl⟩
 obtain⟨r,hr⟩:∃ r,r=scR (fU a) k:=⟨_,rfl⟩
 obtain⟨P,hP⟩:∃ P,P=fU a*tnO k:=⟨_,rfl⟩
 obtain⟨T,hT⟩:∃ T,T=h*low:=⟨_,rfl⟩
 have eP:P=2*T+r:=by rw[hP,e1,hQh,←hlow,←hr,hT,Nat.mul_assoc]
 have hX:∀ Z:Int,unX Z (tnO k) (tnU k)=decide (Z*(tnO k:Int) % ((2*h:Nat):Int)=0):=fun Z=>by unfold unX;rw[kU_kP,hQh]
 have hF:∀ Z:Int,unF Z (tnO k) (tnU k)=Z*(tnO k:Int) / ((2*h:Nat):Int):=fun Z=>by unfold unF;rw[kU_kP,hQh]
 have hA:∀ (Z:Int) (F:Int),unF Z (tnO k) (tnU k)=F→unA Z (tnO k) (tnU k)=(decide ((F*2+1)*(h:Int)<Z*(tnO k:Int))||(decide ((F*2+1)*(h:Int)=Z*(tnO k:Int))&&decide (F % 2=1))):=fun Z F e=>by
  unfold unA
  rw[e,Int.mul_assoc,←Int.natCast_mul,←hh]
 have hE:scE (fU a) k=decide (r=0):=by unfold scE;rw[hr];rfl
 have hU:rdU (fU a) k (neg a) m=if m=2 then decide (2*h<2*r)||(decide (2*r=2*h)&&decide (low % 2=1))else if m=3 then !(neg a)else neg a:=by unfold rdU;rw[hQh,←hr,←hlow]
 unfold rdN
 rw[hE,hU,←hlow]
 rw[←hr,hQh] at e2
 have hdm:P / (2*h)=low∧P % (2*h)=r:=by
  have h1:P=2*h*low+r:=by rw[eP,hT,Nat.mul_assoc]
  exact⟨by rw[h1,Nat.mul_add_div (by omega),Nat.div_eq_of_lt e2,Nat.add_zero],by rw[h1,Nat.mul_add_mod,Nat.mod_eq_of_lt e2]⟩
 have eT:((low:Int)*2+1)*(h:Int)=((2*T+h:Nat):Int):=by
  rw[hT]
  push_cast
  grind
 have hlo:((h*low:Nat):Int)=(h:Int)*(low:Int):=by push_cast;rfl
 unfold uN unR unP
 cases hn:neg a
 ·have eZ:sZ a*(tnO k:Int)=(P:Int):=by unfold sZ;rw[hn,if_neg (by decide),hP,Int.natCast_mul]
  have eF:unF (sZ a) (tnO k) (tnU k)=(low:Int):=by rw[hF,eZ,←Int.natCast_ediv,hdm.1]
  have eX:unX (sZ a) (tnO k) (tnU k)=decide (r=0):=by
   rw[hX,eZ]
   have:((P:Int) % ((2*h:Nat):Int))=(r:Int):=by rw[←Int.natCast_emod,hdm.2]
   rw[this]
   by_cases h0:r=0
   ·rw[decide_eq_true h0,decide_eq_true (by omega)]
   ·rw[decide_eq_false h0,decide_eq_false (by omega)]
  rw[eX,hA _ _ eF,eF,eZ,eT]
  by_cases h0:r=0
  ·rw[decide_eq_true h0]
   simp
  ·rw[decide_eq_false h0]
   rcases(by omega:m=1∨m=2∨m=3)with rfl|rfl|rfl
   ·simp
   ·have c1:decide (((2*T+h:Nat):Int)<(P:Int))=decide (2*h<2*r):=by
     by_cases c:h<r
     ·rw[decide_eq_true (by omega),decide_eq_true (by omega)]
     ·rw[decide_eq_false (by omega),decide_eq_false (by omega)]
    have c2:decide (((2*T+h:Nat):Int)=(P:Int))=decide (2*r=2*h):=by
     by_cases c:r=h
     ·rw[decide_eq_true (by omega),decide_eq_true (by omega)]
     ·rw[decide_eq_false (by omega),decide_eq_false (by omega)]
    have c3:decide ((low:Int) % 2=1)=decide (low % 2=1):=by
     by_cases c:low % 2=1
     ·rw[decide_eq_true c,decide_eq_true (by omega)]
     ·rw[decide_eq_false c,decide_eq_false (by omega)]
    rw[c1,c2,c3]
    simp only[Bool.not_false,Bool.true_and,show((2:Int)=3)=False by simp,decide_false,Bool.false_or,decide_true,if_true,Bool.false_eq_true,if_false]
    split <;> omega
   ·simp
    omega
 ·have eZ:sZ a*(tnO k:Int) = -(P:Int):=by unfold sZ;rw[hn,if_pos rfl,hP,Int.natCast_mul,Int.neg_mul]
  by_cases h0:r=0
  ·have eF:unF (sZ a) (tnO k) (tnU k) = -(low:Int):=by
    rw[hF,eZ]
    refine Int.ediv_eq_of_eq_mul_right (by omega) ?_
    have:P=2*h*low:=by rw[eP,h0,hT,Nat.mul_assoc];rfl
    rw[this]
    push_cast
    grind
   have eX:unX (sZ a) (tnO k) (tnU k)=true:=by
    rw[hX,eZ]
    refine decide_eq_true ?_
    have:P=2*h*low:=by rw[eP,h0,hT,Nat.mul_assoc];rfl
    rw[this]
    refine Int.emod_eq_zero_of_dvd ⟨-(low:Int),?_⟩
    push_cast
    grind
   rw[eX,eF,decide_eq_true h0]
   simp
  ·have eF:unF (sZ a) (tnO k) (tnU k) = -((low:Int)+1):=by
    rw[hF,eZ]
    have h7 : -(P:Int)=((2*h:Nat):Int)*(-((low:Int)+1))+((2*h - r:Nat):Int):=by
     have h8:((2*h - r:Nat):Int)=2*(h:Int) - (r:Int):=by omega
     rw[h8,eP,hT]
     push_cast
     grind
    rw[h7,Int.mul_add_ediv_left _ _ (by omega),Int.ediv_eq_zero_of_lt (by omega) (by omega),Int.add_zero]
   have eX:unX (sZ a) (tnO k) (tnU k)=false:=by
    rw[hX,eZ]
    refine decide_eq_false fun h9=>?_
    have h10:=Int.dvd_of_emod_eq_zero h9
    rw[Int.dvd_neg,Int.natCast_dvd_natCast] at h10
    have:=Nat.mod_eq_zero_of_dvd h10
    omega
   have eT2:(-((low:Int)+1)*2+1)*(h:Int) = -((2*T+h:Nat):Int):=by
    rw[←eT]
    grind
   rw[eX,hA _ _ eF,eF,eZ,eT2,decide_eq_false h0]
   rcases(by omega:m=1∨m=2∨m=3)with rfl|rfl|rfl
   ·simp
    omega
   ·have c1:decide (-((2*T+h:Nat):Int) < -(P:Int))=decide (r<h):=by
     by_cases c:r<h
     ·rw[decide_eq_true c,decide_eq_true (by omega)]
     ·rw[decide_eq_false c,decide_eq_false (by omega)]
    have c2:decide (-((2*T+h:Nat):Int) = -(P:Int))=decide (r=h):=by
     by_cases c:r=h
     ·rw[decide_eq_true c,decide_eq_true (by omega)]
     ·rw[decide_eq_false c,decide_eq_false (by omega)]
    have c3:decide (-((low:Int)+1) % 2=1) = !decide (low % 2=1):=by
     by_cases c:low % 2=1
     ·rw[decide_eq_true c,decide_eq_false (by omega)];rfl
     ·rw[decide_eq_false c,decide_eq_true (by omega)];rfl
    rw[c1,c2,c3]
    simp only[Bool.not_false,Bool.true_and,show((2:Int)=3)=False by simp,decide_false,Bool.false_or,decide_true,if_true,Bool.false_eq_true,if_false]
    rcases(by omega:r<h∨r=h∨h<r)with c|c|c
    ·rw[decide_eq_true c,decide_eq_false (show ¬ 2*h<2*r by omega),decide_eq_false (show ¬ 2*r=2*h by omega)]
     simp
     omega
    ·rw[decide_eq_false (show ¬ r<h by omega),decide_eq_true c,decide_eq_false (show ¬ 2*h<2*r by omega),decide_eq_true (show 2*r=2*h by omega)]
     by_cases c4:low % 2=1
     ·rw[decide_eq_true c4];simp;omega
     ·rw[decide_eq_false c4];simp;omega
    ·rw[decide_eq_false (show ¬ r<h by omega),decide_eq_false (show ¬ r=h by omega),decide_eq_true (show 2*h<2*r by omega)]
     simp
     omega
   ·simp
    omega
theorem cls_nan {a:Nat} (hf:9218868437227405312<mag a):cls a=1:=by
 unfold cls
 rw[if_pos (by omega)]
theorem cls_inf {a:Nat} (hf:mag a=9218868437227405312):cls a=2∧cneg a=neg a:=by
 have h1:¬ (9218868437227405312:Int)<(mag a:Int):=by omega
 unfold cls cneg
 rw[if_neg h1,if_neg h1]
 have h2:((mag a:Int)==9218868437227405312)=true:=by rw[beq_iff_eq];omega
 rw[h2]
 exact⟨by simp,rfl⟩
theorem dcD_len {N b:Nat} (h:N<2^b):(dcD N).length≤18*(b / 59+1)∧1≤(dcD N).length:=by
 unfold dcD
 by_cases h0:N=0
 ·rw[if_pos h0];simp;omega
 ·rw[if_neg h0]
  have h1:=dcT_len h
  rw[dcT_eq] at h1
  refine⟨h1,?_⟩
  rcases Nat.lt_or_ge 0 (dcR N).length with h2|h2
  ·exact h2
  ·exact absurd (dcR_nil.1 (List.length_eq_zero_iff.1 (by omega))) h0
theorem scF_step (A:Nat) (k:Int):scF A k=scF A (k+1) / 10:=by
 unfold scF
 rw[Nat.div_div_eq_div_mul]
 rcases Int.lt_or_le k 0 with h|h
 ·have e1:tnO k=tnO (k+1):=by unfold tnO;rw[show k.toNat=0 by omega,show(k+1).toNat=0 by omega]
  have e2:tnU k=tnU (k+1)*10:=by unfold tnU;rw[show(-k).toNat=(-(k+1)).toNat+1 by omega,Nat.pow_succ]
  rw[e1,e2]
  generalize kU=K
  rw[Nat.mul_right_comm]
 ·have e1:tnO (k+1)=tnO k*10:=by unfold tnO;rw[show(k+1).toNat=k.toNat+1 by omega,Nat.pow_succ]
  have e2:tnU (k+1)=tnU k:=by unfold tnU;rw[show(-k).toNat=0 by omega,show(-(k+1)).toNat=0 by omega]
  rw[e1,e2]
  generalize kU=K
  rw[←Nat.mul_assoc,Nat.mul_div_mul_right _ _ (by decide)]
theorem scF_down (A:Nat) (k:Int):∀ j:Nat,scF A (k - (j:Int))=scF A k / 10^j
 | 0=>by simp
 | j+1=>by
  have h:=scF_step A (k - ((j+1:Nat):Int))
  rw[show k - ((j+1:Nat):Int)+1=k - (j:Int) by omega,scF_down A k j,Nat.div_div_eq_div_mul] at h
  rw[h,Nat.pow_succ]
def woZ (b:Nat):Int:=((b:Nat) - (kP:Int) - 1)*1262611 / 4194304
def woC (b:Nat):Bool:=Nat.ble (tnU (-woZ b)*kU) (2^(b - 1)*tnO (-woZ b))&&Nat.ble (2^b*tnO (-woZ b - 2)) (tnU (-woZ b - 2)*kU)
theorem wo_all:(List.range 2200).all (fun i=>woC (i+1))=true:=by decide +kernel
theorem wo_b {b:Nat} (h1:1≤b) (h2:b≤2200):tnU (-woZ b)*kU≤2^(b - 1)*tnO (-woZ b)∧2^b*tnO (-woZ b - 2)≤tnU (-woZ b - 2)*kU:=by
 have h:=List.all_eq_true.1 wo_all (b - 1) (List.mem_range.2 (by omega))
 rw[show b - 1+1=b by omega] at h
 unfold woC at h
 obtain⟨h3,h4⟩:=Bool.and_eq_true_iff.1 h
 exact⟨Nat.le_of_ble_eq_true h3,Nat.le_of_ble_eq_true h4⟩
theorem unF_sc (A:Nat) (k:Int):unF (A:Int) (tnO k) (tnU k)=((scF A k:Nat):Int):=by
 unfold unF scF
 rw[kU_kP,←Int.natCast_mul,←Int.natCast_ediv]
theorem bl_twoP {A:Nat} (h0:A≠0):2^(bl A - 1)≤A∧A<2^bl A:=by
 have h1:=(bl_le A (bl A)).1 (Nat.le_refl _)
 refine⟨?_,h1⟩
 rcases Nat.lt_or_ge A (2^(bl A - 1))with h|h
 ·have h2:=(bl_le A (bl A - 1)).2 h
  have h3:bl A=0:=by omega
  rw[h3] at h1
  simp at h1
  omega
 ·exact h
theorem woX_spec {A:Nat} (hA:A<2^bU) (h0:A≠0):10≤scF A (1 - woX A)∧scF A (1 - woX A)≤99 ∧ -400≤woX A∧woX A≤400:=by
 obtain⟨b1,b2⟩:=bl_bU hA h0
 obtain⟨w1,w2⟩:=wo_b b1 b2
 obtain⟨t1,t2⟩:=bl_twoP h0
 have hZ:woX0 A=woZ (bl A):=rfl
 have hx : -399≤woX0 A∧woX0 A≤399:=by
  have hk:=kP_eq
  unfold woX0
  generalize kP=x at *
  omega
 have g1:1≤scF A (-woX0 A):=by
  unfold scF
  rw[Nat.one_le_div_iff (tnU_pos _)]
  rw[hZ]
  exact Nat.le_trans w1 (Nat.mul_le_mul_right _ t1)
 have g2:scF A (-woX0 A - 2)=0:=by
  unfold scF
  refine Nat.div_eq_of_lt ?_
  rw[hZ]
  refine Nat.lt_of_lt_of_le (Nat.mul_lt_mul_of_pos_right t2 (Nat.pow_pos (by decide))) w2
 have g3:=scF_step A (-woX0 A - 2)
 rw[show -woX0 A - 2+1 = -woX0 A - 1 by omega] at g3
 have g4:=scF_step A (-woX0 A - 1)
 rw[show -woX0 A - 1+1 = -woX0 A by omega] at g4
 have hF:=unF_sc A (-woX0 A - 1)
 have key:∀ X:Int,1≤scF A (-X)→scF A (-X)≤9→10≤scF A (1 - X)∧scF A (1 - X)≤99:=by
  intro X k1 k2
  have k3:=scF_step A (-X)
  rw[show -X+1=1 - X by omega] at k3
  omega
 unfold woX
 rw[hF]
 by_cases h:0<((scF A (-woX0 A - 1):Nat):Int)
 ·rw[if_pos h]
  have:=key (woX0 A+1) (by rw[show -(woX0 A+1) = -woX0 A - 1 by omega];omega) (by rw[show -(woX0 A+1) = -woX0 A - 1 by omega];omega)
  exact⟨this.1,this.2,by omega,by omega⟩
 ·rw[if_neg h]
  have:=key (woX0 A) g1 (by omega)
  exact⟨this.1,this.2,by omega,by omega⟩
theorem bv_gapS (b:Nat):bv (b+1)=bv b+2^(max 1 (b / 4503599627370496) - 1):=by
 by_cases h:b<4503599627370496
 ·have e0:=bv_at (j:=0) (q:=b) (.inl ⟨rfl,by omega⟩)
  have e1:=bv_at (j:=0) (q:=b+1) (.inl ⟨rfl,by omega⟩)
  rw[show max 1 (b / 4503599627370496) - 1=0 by omega]
  simp at e0 e1 ⊢
  rw[e0,e1]
 ·have e0:=bv_at (j:=b / 4503599627370496 - 1) (q:=4503599627370496+b % 4503599627370496) (.inr ⟨by omega,by omega⟩)
  have e1:=bv_at (j:=b / 4503599627370496 - 1) (q:=4503599627370496+b % 4503599627370496+1) (.inr ⟨by omega,by omega⟩)
  rw[show(b / 4503599627370496 - 1)*4503599627370496+(4503599627370496+b % 4503599627370496)=b by omega] at e0
  rw[show(b / 4503599627370496 - 1)*4503599627370496+(4503599627370496+b % 4503599627370496+1)=b+1 by omega] at e1
  rw[e0,e1,show max 1 (b / 4503599627370496) - 1=b / 4503599627370496 - 1 by omega,Nat.add_mul _ 1,Nat.one_mul]
theorem fU_bv {a:Nat} (h:a<9223372036854775808):fU a=bv a:=by
 have hm:mag a=a:=by unfold mag;omega
 unfold fU Ie.mant Ie.lp
 rw[hm]
 by_cases c:a<4503599627370496
 ·rw[if_pos c,show(-1075+max 1 ((a / 4503599627370496:Nat):Int)+1074).toNat=0 by omega]
  have:=bv_at (j:=0) (q:=a) (.inl ⟨rfl,by omega⟩)
  simpa using this.symm
 ·rw[if_neg c,show(-1075+max 1 ((a / 4503599627370496:Nat):Int)+1074).toNat=a / 4503599627370496 - 1 by omega]
  have:=bv_at (j:=a / 4503599627370496 - 1) (q:=4503599627370496+a % 4503599627370496) (.inr ⟨by omega,by omega⟩)
  rw[show(a / 4503599627370496 - 1)*4503599627370496+(4503599627370496+a % 4503599627370496)=a by omega] at this
  exact this.symm
theorem sZ_bv {a:Nat} (h:a<9223372036854775808):sZ a=((bv a:Nat):Int):=by
 unfold sZ
 rw[fU_bv h,show neg a=false by unfold neg;exact decide_eq_false (by omega)]
 exact if_neg (by decide)
def utC (i:Nat):Bool:=Nat.beq (bv (Ie.mk false 1 ((i:Int) - 1074) 2 9221120237041090561)) (2^i)&&Nat.blt (Ie.mk false 1 ((i:Int) - 1074) 2 9221120237041090561) 9218868437227405312
theorem ut_all:(List.range 2046).all utC=true:=by decide +kernel
theorem ut_ok {a:Nat} (h:a<9218868437227405312):utF a<9218868437227405312∧bv (a+1)=bv a+bv (utF a):=by
 have hg:=bv_gapS a
 have hm:mag a=a:=by unfold mag;omega
 have h1:=List.all_eq_true.1 ut_all (max 1 (a / 4503599627370496) - 1) (List.mem_range.2 (by omega))
 unfold utC at h1
 obtain⟨h2,h3⟩:=Bool.and_eq_true_iff.1 h1
 have e:(((max 1 (a / 4503599627370496) - 1:Nat):Int) - 1074)=Ie.lp a:=by unfold Ie.lp;rw[hm];omega
 rw[e] at h2 h3
 have h4:=Nat.eq_of_beq_eq_true h2
 refine⟨?_,?_⟩
 ·unfold utF;exact Nat.le_of_ble_eq_true h3
 ·rw[hg,←h4];rfl
theorem bv_two {a:Nat} (h:0<a):bv (a+1)≤2*bv a:=by
 obtain⟨j,q,e,e1,e2⟩:=bv_form a
 have h1:bv 0<bv a:=bv_lt h
 rw[e1] at h1
 have hq:q≠0:=by intro h0;rw[h0,Nat.zero_mul] at h1;omega
 rw[e1,e2,←Nat.mul_assoc]
 exact Nat.mul_le_mul_right _ (by omega)
theorem loZ_bv {a:Nat} (h0:0<a) (h:a<9218868437227405312):loZ a=((bv (a - 1)+bv a:Nat):Int):=by
 unfold loZ
 rw[sZ_bv (by omega),sZ_bv (by omega),Int.natCast_add]
theorem hiZ_bv {a:Nat} (h:a<9218868437227405312):hiZ a=((bv a+bv (a+1):Nat):Int):=by
 obtain⟨u1,u2⟩:=ut_ok h
 unfold hiZ
 rw[sZ_bv (by omega),sZ_bv (by omega),u2]
 omega
theorem flQ_nat (Z a:Nat):flQ (Z:Int) a=((Z*shO a / (shU a*2^kQ):Nat):Int):=by
 unfold flQ
 rw[←Int.natCast_mul,←Int.natCast_ediv]
theorem kQ_q (U:Nat):U*2^kQ=2*(U*2^kP):=by rw[kQ_n,Nat.pow_succ,←Nat.mul_assoc,Nat.mul_comm]
theorem kP_q (U:Nat):U*2^kP=2*(U*2^kP1):=by rw[kU_kP,kP1_half,Nat.mul_left_comm]
def shG (a:Nat):Nat:=bv a*shO a / (shU a*2^kP)
theorem shG_b {a:Nat} (h0:0<a) (h:a<9218868437227405312):10000000000000000≤shG a∧shG a<100000000000000000:=by
 have hA:fU a≠0:=by
  rw[fU_bv (by omega)]
  have h1:bv 0<bv a:=bv_lt h0
  rw[bv_zero] at h1
  omega
 obtain⟨w1,w2,-,-⟩:=woX_spec (fU_lt a) hA
 have h1:=scF_down (fU a) (16 - shX a) 15
 have e1:16 - shX a - ((15:Nat):Int)=1 - woX (fU a):=by unfold shX;omega
 rw[e1] at h1
 have e2:scF (fU a) (16 - shX a)=shG a:=by
  unfold scF shG shO shU
  rw[←kU_kP,fU_bv (by omega)]
 rw[e2] at h1
 rw[h1] at w1 w2
 have e3:(10:Nat)^15=1000000000000000:=by decide
 rw[e3] at w1 w2
 omega
theorem sh_div {N q Z:Nat} (h:Z≤2*N):Z / (2*q)≤N / q:=by
 have h1:Z / (2*q)≤2*N / (2*q):=Nat.div_le_div_right h
 rwa [Nat.mul_div_mul_left _ _ (by decide)] at h1
theorem sh_div2 {N q Z:Nat} (h:2*N≤Z):N / q≤Z / (2*q):=by
 have h1:2*N / (2*q)≤Z / (2*q):=Nat.div_le_div_right h
 rwa [Nat.mul_div_mul_left _ _ (by decide)] at h1
theorem sh_half (N q:Nat):N / (2*q)=N / q / 2:=by rw[Nat.div_div_eq_div_mul,Nat.mul_comm]
theorem shOk {a:Nat} (h0:0<a) (h:a<9218868437227405312):ShOk a:=by
 obtain⟨g1,g2⟩:=shG_b h0 h
 have hlo:(bv (a - 1)+bv a)*shO a / (shU a*2^kQ)≤shG a:=by
  rw[kQ_q]
  refine sh_div ?_
  have:bv (a - 1)≤bv a:=bv_le (by omega)
  rw[←Nat.mul_assoc]
  exact Nat.mul_le_mul_right _ (by omega)
 have hhi:shG a≤(bv a+bv (a+1))*shO a / (shU a*2^kQ):=by
  rw[kQ_q]
  refine sh_div2 ?_
  have:bv a≤bv (a+1):=bv_le (by omega)
  rw[←Nat.mul_assoc]
  exact Nat.mul_le_mul_right _ (by omega)
 have htw:bv a*shO a / (shU a*2^kP1) / 2=shG a:=by
  unfold shG
  rw[kP_q,sh_half]
 have hhi2:(bv a+bv (a+1))*shO a / (shU a*2^kQ)≤bv a*shO a / (shU a*2^kP1):=by
  rw[kQ_q,kP_q]
  refine Nat.le_trans (sh_div (N:=2*(bv a*shO a)) ?_) (sh_div (N:=bv a*shO a) (Nat.le_refl _))
  have:=bv_two h0
  rw[←Nat.mul_assoc,←Nat.mul_assoc]
  exact Nat.mul_le_mul_right _ (by omega)
 have eL:=loZ_bv h0 h
 have eH:=hiZ_bv h
 have eT:shTz a=((bv a*shO a / (shU a*2^kP1):Nat):Int):=by
  unfold shTz
  rw[sZ_bv (by omega),←Int.natCast_mul,←Int.natCast_ediv]
 have fL:=flQ_nat (bv (a - 1)+bv a) a
 have fH:=flQ_nat (bv a+bv (a+1)) a
 rw[←eL] at fL
 rw[←eH] at fH
 generalize (bv (a - 1)+bv a)*shO a / (shU a*2^kQ)=l at *
 generalize (bv a+bv (a+1))*shO a / (shU a*2^kQ)=r at *
 generalize bv a*shO a / (shU a*2^kP1)=t at *
 exact⟨h0,h,(ut_ok h).1,by omega,by unfold shN;omega,by omega,by unfold shM;omega,by omega,by unfold shT;omega⟩
end Go.Proofs.YtfkaogdmlcdceaaGreatDoor
