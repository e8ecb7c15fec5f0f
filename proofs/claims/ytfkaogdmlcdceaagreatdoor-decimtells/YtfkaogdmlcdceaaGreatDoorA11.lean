/- Own work: contracts of the program's functions, part 11: RT0 RT1 RT3 RT7 RY1 RY2 RY3 RY4 FM6 FM7 FM8 RY5 SA7 SA8 SA9 UA1 UA2 UA3 UA4 UA5 UA6 UA7. -/
import Derived.Test.YtfkaogdmlcdceaaGreatDoorA10
import Derived.Test.YtfkaogdmlcdceaaGreatDoorA7
import Derived.Test.YtfkaogdmlcdceaaGreatDoorA9
import Derived.Deep.CutBlock
import Derived.Test.YtfkaogdmlcdceaaGreatDoorA8
import Derived.RangeFuncNested
import Derived.RangeFuncBound
import Derived.RangeFuncCalls
import Derived.RangeFuncLeaves
import Derived.Test.YtfkaogdmlcdceaaGreatDoorA2
import Derived.Shelf.Abstract
import Derived.Shelf.RegionOpen
import Derived.WalkKit
import Derived.OwnWalkIn
import Derived.TacticsInMore
import Derived.LoopNIn
import Derived.LoopIn

set_option maxHeartbeats 16000000
set_option maxRecDepth 200000
set_option linter.unusedVariables false
set_option linter.unusedSimpArgs false
namespace Go.Proofs.YtfkaogdmlcdceaaGreatDoor
open Go.RowKit Go.Fl64
open Ie
theorem rnd_k0 (X way:Nat) (hw:way=0∨way=1∨way=2):rnd X 0 (way:Int)=X:=by
 rcases hw with rfl|rfl|rfl
 ·rw[rnd0,Nat.pow_zero,Nat.div_one]
 ·rw[rnd1,Nat.pow_zero,Nat.div_one,Nat.mod_one,if_pos (by omega)]
 ·rw[rnd2,Nat.pow_zero,Nat.div_one,Nat.mod_one,if_pos rfl]
def tE (x:Nat) (E:Int):Int:=if(bl x:Int)+E - 53 < -1074 then -1074 else(bl x:Int)+E - 53
theorem bl_ne {x:Nat} (h0:x≠0):1≤bl x:=by unfold bl;rw[if_neg h0];omega
theorem bdy_big {x:Nat} {E:Int} (h0:x≠0) (ht:1024<(bl x:Int)+E) {way:Nat} (hw:way=0∨way=1∨way=2):bdy x E way=if way=0 then 9218868437227405311 else 9218868437227405312:=by
 unfold bdy
 rw[if_neg h0,if_neg (by have:=rwb_big (e:=E) h0 ht hw;omega)]
theorem up_lt {x k:Nat} (h0:x≠0) (h:bl x+k≤53):x*2^k<9007199254740992:=by
 have h1:=lt_bl x
 have h2:x*2^k<2^bl x*2^k:=Nat.mul_lt_mul_of_pos_right h1 (Nat.two_pow_pos _)
 rw[←Nat.pow_add] at h2
 exact Nat.lt_of_lt_of_le h2 (Nat.pow_le_pow_right (by omega) h:_≤2^53)
theorem up_ge {x k:Nat} (h0:x≠0) (h:bl x+k=53):4503599627370496≤x*2^k:=by
 have h1:=le_bl h0
 have hb:=bl_ne h0
 have h2:2^(bl x - 1)*2^k≤x*2^k:=Nat.mul_le_mul_right _ h1
 rw[←Nat.pow_add,show bl x - 1+k=52 by omega] at h2
 exact h2
theorem dn_lt {x k:Nat} (h:bl x≤k+53):x / 2^k<9007199254740992:=by
 have h1:=lt_bl x
 refine(Nat.div_lt_iff_lt_mul (Nat.two_pow_pos _)).2 (Nat.lt_of_lt_of_le h1 ?_)
 rw[show(9007199254740992:Nat)=2^53 by rfl,←Nat.pow_add]
 exact Nat.pow_le_pow_right (by omega) (by omega)
theorem dn_ge {x k:Nat} (h0:x≠0) (h:bl x=k+53):4503599627370496≤x / 2^k:=by
 have h1:=le_bl h0
 refine(Nat.le_div_iff_mul_le (Nat.two_pow_pos _)).2 (Nat.le_trans (Nat.le_of_eq ?_) h1)
 rw[show(4503599627370496:Nat)=2^52 by rfl,←Nat.pow_add,show 52+k=bl x - 1 by omega]
theorem tE_bounds {x:Nat} {E:Int} (ht:(bl x:Int)+E≤1024) : -1074≤tE x E∧tE x E≤971:=by unfold tE;split <;> omega
theorem body_eq {e':Int} {q n:Nat} (h1 : -1074≤e') (h2:e'≤971) (hq:q<9007199254740992) (hge:e' = -1074∨4503599627370496≤q):(e'+1074).toNat*4503599627370496+q<9218868437227405312:=by omega
theorem bdy_up {x:Nat} {E:Int} (h0:x≠0) (ht:(bl x:Int)+E≤1024) (hE:tE x E≤E) {way:Nat} (hw:way=0∨way=1∨way=2) :
  bdy x E way=(tE x E+1074).toNat*4503599627370496+x*2^(E - tE x E).toNat∧x*2^(E - tE x E).toNat<9007199254740992∧(tE x E = -1074∨4503599627370496≤x*2^(E - tE x E).toNat):=by
 have hb:=tE_bounds ht
 have hlt:x*2^(E - tE x E).toNat<9007199254740992:=up_lt h0 (by unfold tE at hE ⊢; split at hE <;> omega)
 have hge:tE x E = -1074∨4503599627370496≤x*2^(E - tE x E).toNat:=by
  by_cases h:tE x E = -1074
  ·exact .inl h
  ·exact .inr (up_ge h0 (by unfold tE at h hE ⊢; split at h <;> omega))
 refine⟨?_,hlt,hge⟩
 have hR:=isR_up (x:=x) hE hb.1 hlt hge
 have hr:=hR.rwb h0 hw
 rw[rnd_k0 _ _ hw] at hr
 unfold bdy
 rw[if_neg h0,hr,if_pos (body_eq hb.1 hb.2 hlt hge (n:=0))]
theorem bdy_tiny {x:Nat} {E:Int} (h0:x≠0) (ht:(bl x:Int)+E < -1075) {way:Nat} (hw:way=0∨way=1∨way=2):bdy x E way=if way=2 then 1 else 0:=by
 have hb:=bl_ne h0
 have hx:=lt_bl x
 have hx2:2*x<2^(-1074 - E).toNat:=by
  have:2^(bl x+1)≤2^(-1074 - E).toNat:=Nat.pow_le_pow_right (by omega) (by omega)
  rw[Nat.pow_succ] at this;omega
 have hq:x / 2^(-1074 - E).toNat=0:=Nat.div_eq_of_lt (by omega)
 have hm:x % 2^(-1074 - E).toNat=x:=Nat.mod_eq_of_lt (by omega)
 have hR:=isR_down (x:=x) (E:=E) (e' := -1074) (by omega) (by omega) (by rw[hq];omega) (.inl rfl)
 have hr:=hR.rwb h0 hw
 have h2:rwb x E way=if way=2 then 1 else 0:=by
  rw[hr]
  rcases hw with rfl|rfl|rfl
  ·rw[rnd0,hq,if_neg (by decide)];rfl
  ·rw[rnd1,hq,hm,if_pos hx2,if_neg (by decide)];rfl
  ·rw[rnd2,hq,hm,if_neg h0,if_pos rfl];rfl
 unfold bdy
 rw[if_neg h0,h2,if_pos (by split <;> omega)]
def dnU (x k way:Nat):Bool:=(way==2)||((way==1)&&((x / 2^(k - 1) % 2==1)&&(!(x % 2^(k - 1)==0)||(x / 2^k % 2==1))))
theorem rnd_dn {x k way:Nat} (hk:1≤k) (hx:x % 2=1) (hw:way=0∨way=1∨way=2):rnd x k (way:Int)=if dnU x k way then x / 2^k+1 else x / 2^k:=by
 obtain⟨n,rfl⟩:∃ n,k=n+1:=⟨k - 1,by omega⟩
 have hodd:x % 2^(n+1)≠0:=fun h=>by
  have:=Nat.dvd_of_mod_eq_zero h
  have h2:2 ∣ x:=Nat.dvd_trans ⟨2^n,by rw[Nat.pow_succ,Nat.mul_comm]⟩ this
  omega
 have hpos:0<2^n:=Nat.two_pow_pos n
 have hsplit:x % 2^(n+1)=x % 2^n+2^n*(x / 2^n % 2):=by rw[Nat.pow_succ,Nat.mod_mul]
 have hpw:2^(n+1)=2*2^n:=by rw[Nat.pow_succ,Nat.mul_comm]
 have hlt:x % 2^n<2^n:=Nat.mod_lt _ hpos
 have hb2:x / 2^n % 2=0∨x / 2^n % 2=1:=by omega
 unfold dnU
 rw[Nat.add_sub_cancel]
 rcases hw with rfl|rfl|rfl
 ·rw[rnd0];simp
 ·rw[rnd1]
  simp only[show((1:Nat)==2)=false by rfl,show((1:Nat)==1)=true by rfl,Bool.false_or,Bool.true_and]
  rw[hsplit,hpw]
  rcases hb2 with hb|hb
  ·rw[hb,Nat.mul_zero,Nat.add_zero,if_pos (by omega)];simp
  ·rw[hb,Nat.mul_one,if_neg (by omega)]
   by_cases hz:x % 2^n=0
   ·rw[hz,if_pos (by omega)]
    rcases Nat.mod_two_eq_zero_or_one (x / (2*2^n))with h|h <;> rw[h] <;> simp
   ·rw[if_neg (by omega)]
    have:(x % 2^n==0)=false:=by simpa using hz
    rw[this];simp
 ·rw[rnd2,if_neg hodd];simp
theorem bdy_dn {x:Nat} {E:Int} (h0:x % 2=1) (ht:(bl x:Int)+E≤1024) (hE:E<tE x E) {way:Nat} (hw:way=0∨way=1∨way=2) {n:Nat}
  (hn:n=if dnU x (tE x E - E).toNat way then x / 2^(tE x E - E).toNat+1 else x / 2^(tE x E - E).toNat) :
  n≤9007199254740992∧(tE x E = -1074∨4503599627370496≤n)∧bdy x E way=(tE x E+1074).toNat*4503599627370496+n∧x / 2^(tE x E - E).toNat<9007199254740992:=by
 have hx0:x≠0:=by omega
 have hb:=tE_bounds ht
 have hlt:x / 2^(tE x E - E).toNat<9007199254740992:=dn_lt (by unfold tE at hE ⊢; split at hE <;> omega)
 have hge:tE x E = -1074∨4503599627370496≤x / 2^(tE x E - E).toNat:=by
  by_cases h:tE x E = -1074
  ·exact .inl h
  ·exact .inr (dn_ge hx0 (by unfold tE at h hE ⊢; split at h <;> omega))
 have hR:=isR_down (x:=x) (E:=E) (by omega) hb.1 hlt hge
 have hr:=hR.rwb hx0 hw
 rw[rnd_dn (by omega) h0 hw,←hn] at hr
 have hn1:n≤9007199254740992:=by rw[hn];split <;> omega
 have hn2:tE x E = -1074∨4503599627370496≤n:=by
  rcases hge with h|h
  ·exact .inl h
  ·right;rw[hn];split <;> omega
 refine⟨hn1,hn2,?_,hlt⟩
 unfold bdy
 rw[if_neg hx0,hr]
 by_cases h1:(tE x E+1074).toNat*4503599627370496+n<9218868437227405312
 ·rw[if_pos h1]
 ·rw[if_neg h1]
  have h2:(tE x E+1074).toNat*4503599627370496+n=9218868437227405312:=by omega
  have h3:n≠x / 2^(tE x E - E).toNat:=by
   intro h;rw[←h] at hlt;omega
  have h4:way≠0:=by
   intro h;subst h
   apply h3;rw[hn];simp[dnU]
  rw[if_neg h4,h2]
theorem rsignb (s:Bool) (w:World):Calls Tryz.prog 209 #[.bool s] w fun r w'=>r=.returned (.int .i64 (if s then 1 else 0))∧w'=w:=by
 cases s
 ·go_enter Tryz.func209,Tryz.ntmps209
  go_wp2
  go_ret
  exact⟨rfl,rfl⟩
 ·go_enter Tryz.func209,Tryz.ntmps209
  go_wp2
  go_ret
  exact⟨rfl,rfl⟩
theorem cinf_m (w:World):Calls Tryz.prog 53 #[.int .i64 (-1)] w fun r w'=>r=.returned (.float .f64 18442240474082181120)∧w'=w:=by
 have hb:=Ie.run_frombits
 go_enter Tryz.func53,Tryz.ntmps53
 go_wp2
 go_ret
 exact⟨rfl,rfl⟩
theorem bd_or {E M:Nat} (hE:E≤2046) (h1:4503599627370496≤M) (h2:M<9007199254740992):bits BinOp.or IntKind.u64 ((E:Int)*4503599627370496) (bits BinOp.and IntKind.u64 (M:Int) 4503599627370495)=((E*4503599627370496+(M - 4503599627370496):Nat):Int):=by
 have e:=Nat.two_pow_add_eq_or_of_lt (i:=52) (b:=M - 4503599627370496) (by rw[show(2^52:Nat)=4503599627370496 from rfl];omega) E
 rw[show(2^52:Nat)=4503599627370496 from rfl] at e
 rw[and_mant M (by omega),show M % 4503599627370496=M - 4503599627370496 by omega,show(E:Int)*4503599627370496=((4503599627370496*E:Nat):Int) by omega,u64_or_nat _ _ (by omega) (by omega),←e,Nat.mul_comm]
theorem sg_or {b:Nat} (h:b<9223372036854775808):bits BinOp.or IntKind.u64 (b:Int) 9223372036854775808=((b+9223372036854775808:Nat):Int):=by
 have e:=u64_or_nat b 9223372036854775808 (by omega) (by decide)
 rw[show((9223372036854775808:Nat):Int)=9223372036854775808 from rfl] at e
 rw[e,Nat.or_comm,Nat.add_comm]
 congr 1
 have:=Nat.two_pow_add_eq_or_of_lt (i:=63) (b:=b) (by rw[show(2^63:Nat)=9223372036854775808 from rfl];exact h) 1
 rw[←(show 2^63*1=9223372036854775808 from rfl),←this]
theorem rbuild_1 (s:Bool) (M E:Nat) (w:World) (hm:4503599627370496≤M) (hm2:M<9007199254740992) (hE:1≤E) (hE2:E≤2046):Calls Tryz.prog 210 #[.bool s,.int .u64 (M:Nat),.int .i64 ((E:Int) - 1075)] w fun r w'=>r=.returned (.float .f64 (sig s ((E - 1)*4503599627370496+M)))∧w'=w:=by
 have hb:=Ie.run_frombits
 have hm':(4503599627370496:Int)≤(M:Int):=by omega
 have e1:=bd_or hE2 hm hm2
 have hlt:E*4503599627370496+(M - 4503599627370496)<9223372036854775808:=by omega
 have e2:=sg_or hlt
 obtain⟨bd,hbd⟩:∃ bd:Nat,bd=E*4503599627370496+(M - 4503599627370496):=⟨_,rfl⟩
 rw[←hbd] at e1 e2
 obtain⟨b2,hb2⟩:∃ b2:Nat,b2=(E - 1)*4503599627370496+M:=⟨_,rfl⟩
 have hR:bd=b2:=by omega
 have HR:Hid (bd=b2):=hR
 rw[←hb2]
 clear hR hb2 hlt
 clear hbd
 have hE3:(E:Int) - 1075+1075=E:=by omega
 cases s
 ·go_enter Tryz.func210,Tryz.ntmps210
  go_wp2
  go_ret
  refine⟨congrArg Ending.returned (congrArg (Value.float .f64) ?_),rfl⟩
  try simp only[hE3,e1]
  try rw[Int.toNat_natCast]
  rw[HR.out];rfl
 ·go_enter Tryz.func210,Tryz.ntmps210
  go_wp2
  go_ret
  refine⟨congrArg Ending.returned (congrArg (Value.float .f64) ?_),rfl⟩
  try simp only[hE3,e1,e2]
  try rw[Int.toNat_natCast]
  try rw[HR.out]
  try rfl
theorem rbuild_0 (s:Bool) (M:Nat) (e:Int) (w:World) (hm2:M<4503599627370496):Calls Tryz.prog 210 #[.bool s,.int .u64 (M:Nat),.int .i64 e] w fun r w'=>r=.returned (.float .f64 (sig s M))∧w'=w:=by
 have hb:=Ie.run_frombits
 have hm3:¬ (4503599627370496:Int)≤(M:Int):=by omega
 have e2:=sg_or (b:=M) (by omega)
 cases s
 ·go_enter Tryz.func210,Tryz.ntmps210
  go_wp2
  go_ret
  exact⟨rfl,rfl⟩
 ·go_enter Tryz.func210,Tryz.ntmps210
  go_wp2
  go_ret
  refine⟨congrArg Ending.returned (congrArg (Value.float .f64) ?_),rfl⟩
  try simp only[e2]
  try rfl
theorem rbuild {s:Bool} {M:Nat} {e:Int} {w:World} (hM:M<9007199254740992) (he : -1074≤e) (he2:e≤971) (hge:e = -1074∨4503599627370496≤M):Calls Tryz.prog 210 #[.bool s,.int .u64 (M:Nat),.int .i64 e] w fun r w'=>r=.returned (.float .f64 (sig s ((e+1074).toNat*4503599627370496+M)))∧w'=w:=by
 by_cases h:4503599627370496≤M
 ·obtain⟨E,hE⟩:∃ E:Nat,e=(E:Int) - 1075:=⟨(e+1075).toNat,by omega⟩
  subst hE
  rw[show((E:Int) - 1075+1074).toNat=E - 1 by omega]
  exact rbuild_1 s M E w h hM (by omega) (by omega)
 ·obtain rfl:e = -1074:=by omega
  rw[show((-1074:Int)+1074).toNat*4503599627370496+M=M by omega]
  exact rbuild_0 s M _ w (by omega)
theorem sm_two {d d1:Nat} (h0:d<B) (h1:d1<B):bits BinOp.or IntKind.u64 (IntKind.u64.wrap (IntKind.u64.wrap (d1:Int)*4294967296)) (IntKind.u64.wrap (d:Int))=((d+d1*B:Nat):Int):=by
 have e:IntKind.u64.wrap (IntKind.u64.wrap (d1:Int)*4294967296)=((d1*B:Nat):Int):=by
  rw[wrap_d h1,IntKind.wrap_u64];unfold B at *; omega
 rw[wrap_d h0,e,u64_or_nat _ _ (by unfold B at *; omega) (by unfold B at *; omega),or_add (p:=32) (by rw[←B_two];exact Nat.mul_mod_left ..) h0,Nat.add_comm]
theorem rsmall {v:Value} {X:Nat} {w:World} (h:Ir w v X) (hX:X<9007199254740992):Calls Tryz.prog 211 #[v] w fun r w'=>r=.returned (.int .u64 (X:Nat))∧w'=w:=by
 obtain⟨ao,cap,rfl,hc,b,o,hb,hcell⟩:=h
 have hl:dlen X≤2:=(dlen_le 2 X).2 (by unfold B;omega)
 have hX2:X=dg X 0+dg X 1*B:=by
  unfold dg B;omega
 have h0:=dg_lt X 0
 have h1:=dg_lt X 1
 by_cases e0:dlen X=0
 ·obtain rfl:=dlen_eq_zero.1 e0
  rw[dlen_zero] at *
  clear hcell hb h0 h1 hX2 hl e0
  go_enter Tryz.func211,Tryz.ntmps211
  go_wp2
  go_ret
  exact⟨rfl,rfl⟩
 ·obtain rfl:=hb (by omega)
  have g0:=hcell 0 (by omega)
  rw[Nat.add_zero] at g0
  by_cases e1:dlen X=1
  ·have hz:dg X 1=0:=dg_past (by omega)
   have HE:Hid (dg X 0=X):=(by rw[hz] at hX2;omega:dg X 0=X)
   rw[e1] at *
   generalize dg X 0=d at *
   have HD:Hid (d<B):=h0
   clear hcell hb h0 h1 hX2 hl e0 e1 hz
   go_enter Tryz.func211,Tryz.ntmps211
   go_wp2
   go_ret
   refine⟨congrArg Ending.returned (congrArg (Value.int .u64) ?_),rfl⟩
   have hd:=HD.out
   have e:=u64_or_nat 0 d (by decide) (by unfold B at hd;omega)
   show bits BinOp.or IntKind.u64 0 (IntKind.u64.wrap (d:Int))=_
   rw[wrap_d hd]
   refine e.trans ?_
   rw[Nat.zero_or,HE.out]
  ·have e2:dlen X=2:=by omega
   have g1:=hcell 1 (by omega)
   have HE:Hid (X=dg X 0+dg X 1*B):=hX2
   rw[e2] at *
   generalize dg X 0=d at *
   generalize dg X 1=d1 at *
   have HD:Hid (d<B∧d1<B):=⟨h0,h1⟩
   clear hcell hb h0 h1 hX2 hl e0 e1 e2
   go_enter Tryz.func211,Tryz.ntmps211
   go_wp2
   go_ret
   refine⟨congrArg Ending.returned (congrArg (Value.int .u64) ?_),rfl⟩
   rw[HE.out]
   exact sm_two HD.out.1 HD.out.2
theorem below_drewN {g:Nat} {a b:World} (h:Below g a b) (n:Nat):Below g a (b.drewN n):=h.trans ⟨rfl,rfl,rfl,Nat.le_refl _,fun _ _=>rfl⟩
theorem and1_32 {d X:Nat} (h:d=X % B):(bits BinOp.and IntKind.u32 (d:Int) 1==1)=(X % 2==1):=by
 have hB:B=4294967296:=rfl
 have h2:=u32_and_nat d 1 (by rw[h,hB];omega) (by decide)
 rw[show((1:Nat):Int)=1 from rfl] at h2
 rw[h2,Nat.and_one_is_mod,h,show X % B % 2=X % 2 by rw[hB];omega]
 rcases Nat.mod_two_eq_zero_or_one X with h|h <;> rw[h] <;> rfl
theorem and1_64 {X:Nat} (h:X<9007199254740992):(bits BinOp.and IntKind.u64 (X:Int) 1==1)=(X % 2==1):=by
 have h2:=u64_and_nat X 1 (by omega) (by decide)
 rw[show((1:Nat):Int)=1 from rfl] at h2
 rw[h2,Nat.and_one_is_mod]
 rcases Nat.mod_two_eq_zero_or_one X with h|h <;> rw[h] <;> rfl
theorem q53 {e:Int} (h : -1074≤e):Hid ((e+1+1074).toNat*4503599627370496+4503599627370496=(e+1074).toNat*4503599627370496+(9007199254740991+1)):=by
 have h1:(e+1+1074).toNat=(e+1074).toNat+1:=by omega
 show _=_
 rw[h1];omega
theorem neq53 {n:Nat} (h:n≠9007199254740992):((n:Int)==9007199254740992)=false:=by
 have:((n:Nat):Int)≠9007199254740992:=by omega
 simpa using this
theorem tE_max (x:Nat) (E:Int):max ((bl x:Int)+E - 53) (-1074)=tE x E:=by unfold tE;split <;> omega
theorem kdn {w:World} {ua:Option Addr} {uc x:Nat} (h:At w ua (dlen x) x) (hc:dlen x≤uc) (hl:dlen x≤100000) {i:Int} {k:Nat} (hi:i=(k:Int)) (hk:k≤10000000) :
  ∀ W,Bw w W→Calls Tryz.prog 112 #[.slice ua (dlen x) uc,.int .i64 i] W fun r w'=>∃ ao n cap,r=.returned (.tuple #[.slice ao n cap,.bool (decide (x % 2^k=0))])∧Ir w' (.slice ao n cap) (x / 2^k)∧Bw W w':=by
 intro W hW
 subst hi
 refine(rdown (v:=.slice ua (dlen x) uc) (⟨ua,uc,rfl,hc,h.later hW⟩:Ir W _ x) k (by omega) (by omega)).mono ?_
 rintro r w' ⟨ao,cap',rfl,hA,hc',hB⟩
 exact⟨_,_,_,rfl,⟨ao,cap',rfl,hc',hA⟩,hB⟩
theorem rto {neg:Bool} {ua:Option Addr} {uc x:Nat} {ea m:Int} {w:World} (h:At w ua (dlen x) x) (hc:dlen x≤uc) (hodd:x % 2=1) (hl:dlen x≤100000) (he1 : -4000000≤ea) (he2:ea≤4000000) (hm:1≤m∧m≤3) :
  Calls Tryz.prog 151 #[.agg #[.bool neg,.slice ua (dlen x) uc,.int .i64 ea],.int .i64 m] w fun r w'=>r=.returned (.float .f64 (sig neg (bdy x ea (wyN neg m))))∧Bw w w':=by
 have h0:x≠0:=by omega
 have hn0:((dlen x:Int)==0)=false:=len_ne (n:=0) h0
 have hbl:bl x≤32*dlen x:=bl_le_dlen x
 have hb1:=bl_ne h0
 obtain⟨ow,how⟩:∃ ow:Bool,(m==3 && !neg||m==1&&neg)=ow:=⟨_,rfl⟩
 obtain⟨nr,hnr⟩:∃ nr:Bool,(m==2)=nr:=⟨_,rfl⟩
 obtain⟨wy,hwy⟩:∃ y,wyN neg m=y:=⟨_,rfl⟩
 have hm3:m=1∨m=2∨m=3:=by omega
 have hY:wy=0∧nr=false∧ow=false∨wy=1∧nr=true∧ow=false∨wy=2∧nr=false∧ow=true:=by
  rcases hm3 with rfl|rfl|rfl <;> cases neg <;> subst how hnr hwy <;> simp[wyN]
 rw[hwy]
 have hw:wy=0∨wy=1∨wy=2:=by omega
 obtain⟨F,hF⟩:∃ F,F=sig neg (bdy x ea wy):=⟨_,rfl⟩
 rw[←hF]
 obtain⟨t,ht⟩:∃ t:Int,t=(bl x:Int)+ea:=⟨_,rfl⟩
 have ht3 : -4000000≤t:=by omega
 have ht4:t≤7200000:=by omega
 have kH:∀ W,Bw w W→Calls Tryz.prog 44 #[.agg #[.bool neg,.slice ua (dlen x) uc,.int .i64 ea]] W fun r w'=>r=.returned (.int .i64 t)∧Bw W w':=fun W hW=>by rw[ht];exact rhigh (h.later hW) h0 (by omega) ⟨he1,he2⟩
 have HN:Hid (At w ua (dlen x) x∧dlen x≤uc∧dlen x≤100000):=⟨h,hc,hl⟩
 have HT:Hid (t=(bl x:Int)+ea∧x % 2=1∧F=sig neg (bdy x ea wy)∧(wy=0∨wy=1∨wy=2)):=⟨ht,hodd,hF,hw⟩
 have HY:Hid (wy=0∧nr=false∧ow=false∨wy=1∧nr=true∧ow=false∨wy=2∧nr=false∧ow=true):=hY
 have HO:Hid ((m==3 && !neg||m==1&&neg)=ow):=how
 have HM:Hid (m=1∨m=2∨m=3):=hm3
 clear h hc hodd hl hwy hm hm3 hbl hb1 hF ht hw hY how h0
 obtain⟨un,hun⟩:∃ n,n=dlen x:=⟨_,rfl⟩
 rw[←hun] at hn0 kH HN ⊢
 have HU:Hid (un=dlen x):=hun
 clear hun
 obtain⟨W,hW⟩:∃ W,W=w.alloc (.cells #[.bool neg,.slice ua un uc,.int .i64 ea] 54):=⟨_,rfl⟩
 have hBW:Bw w W:=by rw[hW];exact(Below.refl _ _).alloc (Nat.le_refl _) _
 have hA:W.heap[w.heap.size]?=some (.cells #[.bool neg,.slice ua un uc,.int .i64 ea] 54 (0,0)):=by rw[hW];exact heap_alloc_new _ _
 have hsz:W.heap.size=w.heap.size+1:=by rw[hW];simp
 have HX:Hid (Bw w W):=hBW
 have HK:Hid (∀ w',Bw W w'→w'.cell? ⟨w.heap.size,0,none⟩=some (.bool neg)∧w'.cell? ⟨w.heap.size,1,none⟩=some (.slice ua un uc)∧w'.cell? ⟨w.heap.size,2,none⟩=some (.int .i64 ea)):=fun w' hb=>(box_cells29 (box_later hA hb (by omega))).1
 have k:=kH W hBW
 obtain⟨a0,a1,a2⟩:=HK.out W (Below.refl _ _)
 clear kH hA hsz hBW
 go_enter Tryz.func151,Tryz.ntmps151
 go_upto_region 4 with fail
 rw[←hW]
 clear hW
 go_cut [6] from 22 to 36 (fun v wx=>v=.bool ow∧wx=W)
 case first =>
  have hO:=HO.out
  rcases HM.out with rfl|rfl|rfl <;> cases neg <;> go_wp2 <;> go_meet <;> exact⟨by rw[←hO];rfl,rfl⟩
 case rest =>
  obtain⟨rfl,rfl⟩:=hcut
  clear HO HM
  go_wp2_with fail
  refine k.mono ?_
  rintro r w1 ⟨rfl,hb1⟩
  have HB1:Hid (Bw wc w1):=hb1
  clear k a0 a1 a2
  obtain⟨a0,a1,a2⟩:=HK.out w1 hb1
  clear hb1
  have kS0:∀ W,Calls Tryz.prog 209 #[.bool false] W fun r w'=>r=.returned (.int .i64 0)∧w'=W:=fun W=>rsignb false W
  have kS1:∀ W,Calls Tryz.prog 209 #[.bool true] W fun r w'=>r=.returned (.int .i64 1)∧w'=W:=fun W=>rsignb true W
  have kI0:=c61
  have kI1:=cinf_m
  by_cases hbig:1024<t
  ·obtain⟨e1,e2,e3,e4⟩:=HT.out
   rw[bdy_big (by omega) (by omega) e4] at e3
   have HF:Hid (F=sig neg (if wy=0 then 9218868437227405311 else 9218868437227405312)):=e3
   have kB:∀ W,Calls Tryz.prog 210 #[.bool neg,.int .u64 9007199254740991,.int .i64 971] W fun r w'=>r=.returned (.float .f64 (sig neg 9218868437227405311))∧w'=W:=fun W=>rbuild (M:=9007199254740991) (e:=971) (by omega) (by omega) (by omega) (.inr (by omega))
   clear e1 e2 e3 e4 HT
   cases neg <;> rcases HY.out with ⟨rfl,rfl,rfl⟩|⟨rfl,rfl,rfl⟩|⟨rfl,rfl,rfl⟩
   all_goals go_wp2_with (first|(go_at_call 209;(first|(with_reducible refine(kS0 _).mono ?_)|(with_reducible refine(kS1 _).mono ?_));rintro r w2 ⟨rfl,rfl⟩)|(go_at_call 53;(first|(with_reducible refine(kI0 _).mono ?_)|(with_reducible refine(kI1 _).mono ?_));rintro r w2 ⟨rfl,rfl⟩)|(go_at_call 210;refine(kB _).mono ?_;rintro r w2 ⟨rfl,rfl⟩))
   all_goals go_ret
   all_goals exact⟨by rw[HF.out];rfl,HX.out.trans (HB1.out.mono HX.out.size)⟩
  ·obtain⟨e2,he⟩:∃ e2,e2=tE x ea:=⟨_,rfl⟩
   have hmx:max (t - 53) (-1074)=e2:=by rw[HT.out.1,he];exact tE_max x ea
   have htb:(bl x:Int)+ea≤1024:=by have:=HT.out.1;omega
   obtain⟨h21,h22⟩:=tE_bounds htb
   rw[←he] at h21 h22
   have HE:Hid (e2=tE x ea∧(bl x:Int)+ea≤1024):=⟨he,htb⟩
   clear he htb
   by_cases hge:e2≤ea
   ·obtain⟨k,hk⟩:∃ k:Nat,k=(ea - e2).toNat:=⟨_,rfl⟩
    obtain⟨hb,hlt,hg⟩:=bdy_up (by have:=HT.out.2.1;omega) HE.out.2 (by rw[←HE.out.1];exact hge) HT.out.2.2.2
    rw[←HE.out.1,←hk] at hb hlt hg
    obtain⟨X,hX⟩:∃ X,X=x*2^k:=⟨_,rfl⟩
    rw[←hX] at hb hlt hg
    have HF:Hid (F=sig neg ((e2+1074).toNat*4503599627370496+X)):=by have:=HT.out.2.2.1;rw[hb] at this;exact this
    have kU:Calls Tryz.prog 101 #[.slice ua un uc,.int .i64 (ea - e2)] w1 fun r w'=>∃ v,r=.returned v∧Ir w' v X∧Bw w1 w':=by
     rw[show ea - e2=(k:Int) by omega,hX]
     have hu:=HU.out
     obtain⟨q1,q2,q3⟩:=HN.out
     subst hu
     exact rup ⟨ua,uc,rfl,q2,q1.later (HX.out.trans (HB1.out.mono HX.out.size))⟩ k (by omega) (by omega)
    have kB:∀ W,Calls Tryz.prog 210 #[.bool neg,.int .u64 (X:Nat),.int .i64 e2] W fun r w'=>r=.returned (.float .f64 (sig neg ((e2+1074).toNat*4503599627370496+X)))∧w'=W:=fun W=>rbuild hlt h21 h22 hg
    have HL:Hid (X<9007199254740992):=hlt
    clear hb hlt hg hX hk HT
    go_wp2_with (first|(go_at_call 101;refine kU.mono ?_;rintro r w2 ⟨v,rfl,hv,hb2⟩))
    have HB2:Hid (Bw wc w2):=HB1.out.trans (hb2.mono HB1.out.size)
    obtain⟨a0,a1,a2⟩:=HK.out w2 HB2.out
    have kS:∀ d,Calls Tryz.prog 211 #[v] (w2.drewN d) fun r w'=>r=.returned (.int .u64 X)∧w'=w2.drewN d:=fun d=>rsmall (hv.later ⟨rfl,rfl,rfl,Nat.le_refl _,fun _ _=>rfl⟩) HL.out
    clear kU hb2 hv
    go_quiet (first|(go_at_call 211;refine Calls.quiet_of_same (kS _))|(go_at_call 210;refine Calls.quiet_of_same (kB _)))
    go_wp2
    go_ret
    exact⟨by rw[HF.out];rfl,HX.out.trans ((below_drewN HB2.out _).mono HX.out.size)⟩
   ·by_cases ht2:t < -1075
    ·obtain⟨e1,e2',e3,e4⟩:=HT.out
     rw[bdy_tiny (by omega) (by omega) e4] at e3
     have HF:Hid (F=sig neg (if wy=2 then 1 else 0)):=e3
     have kB0:∀ W,Calls Tryz.prog 210 #[.bool neg,.int .u64 0,.int .i64 (-1074)] W fun r w'=>r=.returned (.float .f64 (sig neg 0))∧w'=W:=fun W=>rbuild_0 neg 0 (-1074) W (by omega)
     have kB1:∀ W,Calls Tryz.prog 210 #[.bool neg,.int .u64 1,.int .i64 (-1074)] W fun r w'=>r=.returned (.float .f64 (sig neg 1))∧w'=W:=fun W=>rbuild_0 neg 1 (-1074) W (by omega)
     clear e1 e2' e3 e4 HT
     rcases HY.out with ⟨rfl,rfl,rfl⟩|⟨rfl,rfl,rfl⟩|⟨rfl,rfl,rfl⟩
     all_goals go_wp2_with (first|(go_at_call 210;(first|(with_reducible refine(kB0 _).mono ?_)|(with_reducible refine(kB1 _).mono ?_));rintro r w2 ⟨rfl,rfl⟩))
     all_goals go_ret
     all_goals exact⟨by rw[HF.out];rfl,HX.out.trans (HB1.out.mono HX.out.size)⟩
    ·obtain⟨k,hk⟩:∃ k:Nat,k=(e2 - ea).toNat:=⟨_,rfl⟩
     have hi:e2 - ea=(k:Int):=by omega
     have hi2:e2 - ea - 1=((k - 1:Nat):Int):=by omega
     have hkb:k≤10000000:=by omega
     obtain⟨N,hN⟩:∃ n,n=if dnU x (tE x ea - ea).toNat wy then x / 2^(tE x ea - ea).toNat+1 else x / 2^(tE x ea - ea).toNat:=⟨_,rfl⟩
     obtain⟨hn1,hn2,hb,hX⟩:=bdy_dn HT.out.2.1 HE.out.2 (by rw[←HE.out.1];omega) HT.out.2.2.2 hN
     rw[←HE.out.1,←hk] at hN hX
     rw[←HE.out.1] at hb hn2
     have HF:Hid (F=sig neg ((e2+1074).toNat*4503599627370496+N)):=by have:=HT.out.2.2.1;rw[hb] at this;exact this
     have hu:=HU.out
     obtain⟨q1,q2,q3⟩:=HN.out
     subst hu
     have q3':=q3
     have HD1:Hid (∀ V,Bw w V→Calls Tryz.prog 112 #[.slice ua (dlen x) uc,.int .i64 (e2 - ea)] V fun r w'=>∃ ao n cap,r=.returned (.tuple #[.slice ao n cap,.bool (decide (x % 2^k=0))])∧Ir w' (.slice ao n cap) (x / 2^k)∧Bw V w'):=kdn q1 q2 q3 hi hkb
     have HD2:Hid (∀ V,Bw w V→Calls Tryz.prog 112 #[.slice ua (dlen x) uc,.int .i64 (e2 - ea - 1)] V fun r w'=>∃ ao n cap,r=.returned (.tuple #[.slice ao n cap,.bool (decide (x % 2^(k - 1)=0))])∧Ir w' (.slice ao n cap) (x / 2^(k - 1))∧Bw V w'):=kdn q1 q2 q3 hi2 (by omega)
     have hod:=and1_64 hX
     have HG:Hid (N≤9007199254740992∧(e2 = -1074∨4503599627370496≤N)∧N=if dnU x k wy then x / 2^k+1 else x / 2^k):=⟨hn1,hn2,hN⟩
     clear HT HN HU q1 q2 q3 hi hi2 hn1 hn2 hb hN hk hkb
     unfold dnU at HG
     obtain⟨X,hXe⟩:∃ X,X=x / 2^k:=⟨_,rfl⟩
     obtain⟨Y,hYe⟩:∃ X,X=x / 2^(k - 1):=⟨_,rfl⟩
     obtain⟨hf,hfe⟩:∃ b:Bool,b=(Y % 2==1):=⟨_,rfl⟩
     obtain⟨od,hode⟩:∃ b:Bool,b=(X % 2==1):=⟨_,rfl⟩
     obtain⟨ex,hex⟩:∃ b:Bool,b=decide (x % 2^(k - 1)=0):=⟨_,rfl⟩
     rw[show(x % 2^(k - 1)==0)=decide (x % 2^(k - 1)=0)from rfl,←hex,←hXe,←hYe,←hfe,←hode] at HG
     rw[←hXe] at hX hod HD1
     rw[←hode] at hod
     rw[←hex,←hYe] at HD2
     have HFE:Hid (hf=(Y % 2==1)∧dlen Y≤100000):=⟨hfe,by rw[hYe];exact Nat.le_trans (dlen_mono (Nat.div_le_self _ _)) q3'⟩
     clear q3'
     generalize dlen x=un at *
     generalize decide (x % 2^k=0)=ex0 at HD1
     clear hXe hYe hfe hode hex
     have kD1:=HD1.out w1 (HX.out.trans (HB1.out.mono HX.out.size))
     go_wp2_with fail
     refine kD1.mono ?_
     rintro r w2 ⟨ao1,n1,c1,rfl,hv,hb2⟩
     have HB2:Hid (Bw wc w2):=HB1.out.trans (hb2.mono HB1.out.size)
     clear a0 a1 a2 kD1
     obtain⟨a0,a1,a2⟩:=HK.out w2 HB2.out
     have kS:=rsmall hv hX
     have kD2:=HD2.out w2 (HX.out.trans (HB2.out.mono HX.out.size))
     clear hv hb2 HD1 HD2 HB1
     go_wp2_with fail
     refine kS.mono ?_
     rintro r w3 ⟨rfl,rfl⟩
     clear kS
     go_wp2_with fail
     refine kD2.mono ?_
     rintro r w4 ⟨ao2,n2,c2,rfl,hv,hb4⟩
     have HB4:Hid (Bw wc w4):=HB2.out.trans (hb4.mono HB2.out.size)
     clear a0 a1 a2 kD2 hb4 HB2
     obtain⟨a0,a1,a2⟩:=HK.out w4 HB4.out
     have HV:Hid (Ir w4 (.slice ao2 n2 c2) Y):=hv
     clear hv
     go_upto_region 21 with fail
     go_cut [15] from 106 to 115 (fun v wx=>v=.bool hf∧wx=w4)
     case first =>
      obtain⟨ao,cap,hve,hcap,b,o,hb,hcell⟩:=HV.out
      injection hve with e1 e2 e3
      subst e1 e3
      obtain⟨hf',hly⟩:=HFE.out
      by_cases hz:0<dlen Y
      ·obtain rfl:=hb hz
       have c0:=hcell 0 hz
       rw[Nat.add_zero] at c0
       have hdd:=and1_32 (d:=dg Y 0) (X:=Y) (dg_zero _)
       have hpos:(0:Int)<(n2:Int):=by omega
       have hcp:n2≤1000000000:=by omega
       generalize dg Y 0=dd at *
       clear hcell HV HFE hb hz e2 hcap
       go_wp2
       go_meet
       exact⟨by rw[hf'],rfl⟩
      ·have hy:Y=0:=dlen_eq_zero.1 (by omega)
       have hneg:¬ (0:Int)<(n2:Int):=by omega
       have hf0:hf=false:=by rw[hf',hy];rfl
       subst hf0
       clear hcell HV HFE hb hz e2 hcap
       go_wp2
       go_meet
       exact⟨rfl,rfl⟩
     case rest =>
      obtain⟨rfl,rfl⟩:=hcut
      clear HV HFE
      obtain⟨up,hup⟩:∃ b:Bool,b=(wy==2||wy==1&&(hf&&(!ex||od))):=⟨_,rfl⟩
      rw[←hup] at HG
      have HU:Hid (up=(wy==2||wy==1&&(hf&&(!ex||od)))):=hup
      clear hup
      go_upto_region 22 with fail
      go_cut [131] from 116 to 131 (fun v wx=>v=.bool up∧wx=wc)
      case first =>
       have g3:=HU.out
       clear HG
       rcases HY.out with ⟨rfl,rfl,rfl⟩|⟨rfl,rfl,rfl⟩|⟨rfl,rfl,rfl⟩
       ·go_wp2
        go_meet
        exact⟨by rw[g3];rfl,rfl⟩
       ·cases hf <;> cases ex <;> cases od <;> go_wp2 <;> go_meet <;> exact⟨by rw[g3];rfl,rfl⟩
       ·go_wp2
        go_meet
        exact⟨by rw[g3];rfl,rfl⟩
      case rest =>
       obtain⟨rfl,rfl⟩:=hcut
       clear HU HY hod
       obtain⟨g1,g2,g3⟩:=HG.out
       clear HG
       cases up
       ·have hN:N=X:=g3
        rw[hN] at g2 HF
        have kB:∀ W,Calls Tryz.prog 210 #[.bool neg,.int .u64 (X:Nat),.int .i64 e2] W fun r w'=>r=.returned (.float .f64 (sig neg ((e2+1074).toNat*4503599627370496+X)))∧w'=W:=fun W=>rbuild hX h21 h22 g2
        have hne:=neq53 (n:=X) (by omega)
        clear g1 g2 g3 hN
        go_wp2_with (first|(go_at_call 210;refine(kB _).mono ?_;rintro r w5 ⟨rfl,rfl⟩))
        go_ret
        exact⟨by rw[HF.out];rfl,HX.out.trans (HB4.out.mono HX.out.size)⟩
       ·have hN:N=X+1:=g3
        rw[hN] at g1 g2 HF
        clear g3
        by_cases h53:X+1=9007199254740992
        ·obtain rfl:X=9007199254740991:=by omega
         by_cases h971:e2=971
         ·subst h971
          clear g1 g2 hN
          cases neg
          all_goals go_wp2_with (first|(go_at_call 209;(first|(with_reducible refine(kS0 _).mono ?_)|(with_reducible refine(kS1 _).mono ?_));rintro r w5 ⟨rfl,rfl⟩)|(go_at_call 53;(first|(with_reducible refine(kI0 _).mono ?_)|(with_reducible refine(kI1 _).mono ?_));rintro r w5 ⟨rfl,rfl⟩))
          all_goals go_ret
          all_goals exact⟨by rw[HF.out];rfl,HX.out.trans (HB4.out.mono HX.out.size)⟩
         ·have h970:e2+1≤971:=by omega
          have kB:∀ W,Calls Tryz.prog 210 #[.bool neg,.int .u64 4503599627370496,.int .i64 (e2+1)] W fun r w'=>r=.returned (.float .f64 (sig neg ((e2+1+1074).toNat*4503599627370496+4503599627370496)))∧w'=W:=fun W=>rbuild (M:=4503599627370496) (by omega) (by omega) h970 (.inr (Nat.le_refl _))
          have HQ:=q53 h21
          clear g1 g2 hN h971
          go_wp2_with (first|(go_at_call 210;refine(kB _).mono ?_;rintro r w5 ⟨rfl,rfl⟩))
          go_ret
          exact⟨by rw[HF.out,←HQ.out];rfl,HX.out.trans (HB4.out.mono HX.out.size)⟩
        ·have kB:∀ W,Calls Tryz.prog 210 #[.bool neg,.int .u64 ((X:Int)+1),.int .i64 e2] W fun r w'=>r=.returned (.float .f64 (sig neg ((e2+1074).toNat*4503599627370496+(X+1))))∧w'=W:=fun W=>rbuild (M:=X+1) (by omega) h21 h22 g2
         have hne:((X:Int)+1==9007199254740992)=false:=neq53 (n:=X+1) h53
         clear g1 g2 hN h53
         go_wp2_with (first|(go_at_call 210;refine(kB _).mono ?_;rintro r w5 ⟨rfl,rfl⟩))
         go_ret
         exact⟨by rw[HF.out];rfl,HX.out.trans (HB4.out.mono HX.out.size)⟩
end Go.Proofs.YtfkaogdmlcdceaaGreatDoor
namespace Go.Proofs.YtfkaogdmlcdceaaGreatDoor
end Go.Proofs.YtfkaogdmlcdceaaGreatDoor
namespace Go.Proofs.YtfkaogdmlcdceaaGreatDoor
open Go.RowKit Go.Fl64
open Ie
theorem rto_0 (na:Bool) (ua:Option Addr) (uc:Nat) (ea m:Int) (w:World):Calls Tryz.prog 151 #[.agg #[.bool na,.slice ua 0 uc,.int .i64 ea],.int .i64 m] w fun r w'=>r=.returned (.float .f64 0)∧Bw w w':=by
 obtain⟨W,hW⟩:∃ W,W=w.alloc (.cells #[.bool na,.slice ua 0 uc,.int .i64 ea] 54):=⟨_,rfl⟩
 have HB:Hid (Bw w W):=(by rw[hW];exact(Below.refl _ _).alloc (Nat.le_refl _) _:Bw w W)
 go_enter Tryz.func151,Tryz.ntmps151
 go_wp2
 go_ret
 exact⟨rfl,hW ▸ HB.out⟩
end Go.Proofs.YtfkaogdmlcdceaaGreatDoor
namespace Go.Proofs.YtfkaogdmlcdceaaGreatDoor
open Go.RowKit
theorem rbet_e (s:Bool) (ao:Option Addr) (n cap F:Nat) (e place m:Int) (w:World) (kT:∀ W,Bw w W→Calls Tryz.prog 151 #[.agg #[.bool s,.slice ao n cap,.int .i64 e],.int .i64 m] W fun r w'=>r=.returned (.float .f64 F)∧Bw W w') :
  Calls Tryz.prog 212 #[.agg #[.bool s,.slice ao n cap,.int .i64 e],.bool true,.int .i64 place,.int .i64 m] w fun r w'=>r=.returned (.float .f64 F)∧Bw w w':=by
 obtain⟨W,hW⟩:∃ W,W=w.alloc (.cells #[.bool s,.slice ao n cap,.int .i64 e] 54):=⟨_,rfl⟩
 have hBW:Bw w W:=by rw[hW];exact(Below.refl _ _).alloc (Nat.le_refl _) _
 have HX:Hid (Bw w W):=hBW
 have k:=kT W hBW
 clear kT hBW
 go_enter Tryz.func212,Tryz.ntmps212
 go_wp2_with fail
 rw[←hW]
 clear hW
 refine k.mono ?_
 rintro r w1 ⟨rfl,hb1⟩
 have HB1:Hid (Bw W w1):=hb1
 clear k hb1
 go_wp2
 go_ret
 exact⟨rfl,HX.out.trans (HB1.out.mono HX.out.size)⟩
theorem rbet_r (s:Bool) (ao:Option Addr) (n cap F:Nat) (e place m:Int) (s':Bool) (z':Nat) (e':Int) (w:World) (hp1 : -1000000≤place) (hp2:place≤1000000)
  (kP:∀ g W,Bw w W→At W (some ⟨g,0,none⟩) 1 1→Calls Tryz.prog 83 #[.agg #[.bool s,.slice ao n cap,.int .i64 e],.agg #[.bool false,.slice (some ⟨g,0,none⟩) 1 1,.int .i64 (-(place+1))]] W fun r w'=>∃ a,r=.returned a∧NC w' W.heap.size a s' z' e'∧Bw W w')
  (kT:∀ W A,Bw w W→NC W w.heap.size A s' z' e'→Calls Tryz.prog 151 #[A,.int .i64 m] W fun r w'=>r=.returned (.float .f64 F)∧Bw W w') :
  Calls Tryz.prog 212 #[.agg #[.bool s,.slice ao n cap,.int .i64 e],.bool false,.int .i64 place,.int .i64 m] w fun r w'=>r=.returned (.float .f64 F)∧Bw w w':=by
 obtain⟨W,hW⟩:∃ W,W=w.alloc (.cells #[.bool s,.slice ao n cap,.int .i64 e] 54):=⟨_,rfl⟩
 have hBW:Bw w W:=by rw[hW];exact(Below.refl _ _).alloc (Nat.le_refl _) _
 have hA:W.heap[w.heap.size]?=some (.cells #[.bool s,.slice ao n cap,.int .i64 e] 54 (0,0)):=by rw[hW];exact heap_alloc_new _ _
 have hsz:W.heap.size=w.heap.size+1:=by rw[hW];simp
 have HX:Hid (Bw w W∧W.heap.size=w.heap.size+1∧W.heap[w.heap.size]?=some (.cells #[.bool s,.slice ao n cap,.int .i64 e] 54 (0,0))):=⟨hBW,hsz,hA⟩
 have HKT:Hid _:=kT
 have HK:Hid (∀ w',Bw W w'→(w'.cell? ⟨w.heap.size,0,none⟩=some (.bool s)∧w'.cell? ⟨w.heap.size,1,none⟩=some (.slice ao n cap)∧w'.cell? ⟨w.heap.size,2,none⟩=some (.int .i64 e))):=fun w' hb=>(box_cells29 (box_later HX.out.2.2 hb (by have:=HX.out.2.1;omega))).1
 have kO:∀ w8,Bw W w8→Calls Tryz.prog 113 #[.int .i64 (place+1)] w8 fun r w'=>∃ g,r=.returned (.agg #[.bool false,.slice (some ⟨g,0,none⟩) 1 1,.int .i64 (-(place+1))])∧Hid (At w' (some ⟨g,0,none⟩) 1 1)∧Bw W w'∧(w'.cell? ⟨w.heap.size,0,none⟩=some (.bool s)∧w'.cell? ⟨w.heap.size,1,none⟩=some (.slice ao n cap)∧w'.cell? ⟨w.heap.size,2,none⟩=some (.int .i64 e)):=fun w8 hb=>(rone (place+1) w8 (by omega) (by omega)).mono fun r w' ⟨g,e1,e2,e3,e4⟩=>⟨g,e1,e3,hb.trans (e4.mono hb.size),HK.out w' (hb.trans (e4.mono hb.size))⟩
 have kL:∀ g w9,Hid (At w9 (some ⟨g,0,none⟩) 1 1)→Bw W w9→Calls Tryz.prog 83 #[.agg #[.bool s,.slice ao n cap,.int .i64 e],.agg #[.bool false,.slice (some ⟨g,0,none⟩) 1 1,.int .i64 (-(place+1))]] w9 fun r w'=>∃ s9 ao9 n9 cap9 ex9,r=.returned (.agg #[.bool s9,.slice ao9 n9 cap9,.int .i64 ex9])∧Hid (NC w' W.heap.size (.agg #[.bool s9,.slice ao9 n9 cap9,.int .i64 ex9]) s' z' e')∧Bw W w'∧Hid (w'.heap[w.heap.size]?=some (.cells #[.bool s,.slice ao n cap,.int .i64 e] 54 (0,0)))∧(w'.cell? ⟨w.heap.size,0,none⟩=some (.bool s)∧w'.cell? ⟨w.heap.size,1,none⟩=some (.slice ao n cap)∧w'.cell? ⟨w.heap.size,2,none⟩=some (.int .i64 e))∧(w'.frozen? ⟨w.heap.size,0,none⟩=false∧w'.frozen? ⟨w.heap.size,1,none⟩=false∧w'.frozen? ⟨w.heap.size,2,none⟩=false):=by
  intro g w9 hA hb
  refine(kP g w9 (HX.out.1.trans (hb.mono HX.out.1.size)) hA.out).mono ?_
  rintro r w10 ⟨A,rfl,hN,hb10⟩
  obtain⟨s9,ao9,n9,cap9,ex9,rfl⟩:=hN.shape
  have hbb:=hb.trans (hb10.mono hb.size)
  have hblk:=box_later HX.out.2.2 hbb (by have:=HX.out.2.1;omega)
  obtain⟨f1,f2⟩:=box_cells29 hblk
  exact⟨s9,ao9,n9,cap9,ex9,rfl,hN.mono hb.size,hbb,hblk,f1,f2⟩
 obtain⟨d0,d1,d2⟩:=HK.out W (Below.refl _ _)
 have hBR:Bw W W.drew:=(Below.refl _ _).drew
 have hpw:IntKind.i64.wrap (place+1)=place+1:=by rw[IntKind.wrap_i64];omega
 clear kT hA hsz hBW
 go_enter Tryz.func212,Tryz.ntmps212
 go_upto_region 2 with fail
 rw[←hW]
 clear hW
 go_cut [15] from 11 to 15 (fun v wx=>∃ s9 ao9 n9 cap9 ex9,v=.agg #[.bool s9,.slice ao9 n9 cap9,.int .i64 ex9]∧Hid (NC wx W.heap.size (.agg #[.bool s9,.slice ao9 n9 cap9,.int .i64 ex9]) s' z' e')∧Hid (wx.heap[w.heap.size]?=some (.cells #[.bool s9,.slice ao9 n9 cap9,.int .i64 ex9] 54 (0,0)))∧Hid (Below w.heap.size W wx))
 case first =>
  go_region_with (first|(go_at_call 113;refine(kO _ (by first|(with_reducible assumption)|exact hBR|exact Below.refl _ _)).mono ?_;rintro r w8 ⟨g8,rfl,hA8,hb8,⟨y1,y2,y3⟩⟩)|(go_at_call 83;refine(kL _ _ hA8 (by with_reducible assumption)).mono ?_;rintro r w9 ⟨s9,ao9,n9,cap9,ex9,rfl,hN9,hb9,hblk9,⟨x1,x2,x3⟩,x4,x5,x6⟩))
  all_goals go_wp2_with fail
  all_goals go_meet
  all_goals exact⟨s9,ao9,n9,cap9,ex9,rfl,hN9.out.store (by have:=HX.out.2.1;omega) _ _ _,store3_29 _ _ _ hblk9.out,below_store3 (hb9.mono HX.out.1.size) (Nat.le_refl _) _ _ _⟩
 case rest =>
  obtain⟨s9,ao9,n9,cap9,ex9,rfl,hN9,hB9,hL9⟩:=hcut
  obtain⟨wx,rfl⟩:∃ wx:World,wx=wc:=⟨_,rfl⟩
  have HBx:Hid (Bw w wx):=HX.out.1.trans hL9.out
  clear d0 d1 d2
  obtain⟨⟨d0,d1,d2⟩,-⟩:=box_cells29 hB9.out
  have kt:=HKT.out wx _ HBx.out (hN9.out.mono HX.out.1.size)
  clear kO kL hBR
  go_wp2_with fail
  refine kt.mono ?_
  rintro r w11 ⟨rfl,hb11⟩
  have HB11:Hid (Bw w w11):=HBx.out.trans (hb11.mono HBx.out.size)
  clear kt hb11
  go_wp2
  go_ret
  exact⟨rfl,HB11.out⟩
theorem rratioto_f (na nb:Bool) (ua va:Option Addr) (un uc vn vc F:Nat) (ea eb m ta tb pl:Int) (sg:Bool) (w:World) (hsg:(!(na==nb))=sg) (hn0:((un:Int)==0)=false) (hta1 : -200000≤ta) (hta2:ta≤200000) (htb1 : -200000≤tb) (htb2:tb≤200000) (hpl:min (max (60 - ta+tb) (-1100)) 1100=pl) (hpl1 : -1100≤pl) (hpl2:pl≤1100) (EX:Int) (hEX:(1100<ta - tb∧EX=1100)∨(ta - tb < -1200∧EX = -1200)) (kHa:∀ W,Bw w W→Calls Tryz.prog 44 #[.agg #[.bool na,.slice ua un uc,.int .i64 ea]] W fun r w'=>r=.returned (.int .i64 ta)∧Bw W w') (kHb:∀ W,Bw w W→Calls Tryz.prog 44 #[.agg #[.bool nb,.slice va vn vc,.int .i64 eb]] W fun r w'=>r=.returned (.int .i64 tb)∧Bw W w')
  (kT:∀ g W,Bw w W→At W (some ⟨g,0,none⟩) 1 1→Calls Tryz.prog 151 #[.agg #[.bool sg,.slice (some ⟨g,0,none⟩) 1 1,.int .i64 EX],.int .i64 m] W fun r w'=>r=.returned (.float .f64 F)∧Bw W w') :
  Calls Tryz.prog 152 #[.agg #[.bool na,.slice ua un uc,.int .i64 ea],.agg #[.bool nb,.slice va vn vc,.int .i64 eb],.int .i64 m] w fun r w'=>r=.returned (.float .f64 F)∧Bw w w':=by
 rcases hEX with ⟨ht,rfl⟩|⟨ht,rfl⟩
 all_goals (
  try have htn:¬ 1100<ta - tb:=by omega
  obtain⟨W,hW⟩:∃ W,W=(w.alloc (.cells #[.bool na,.slice ua un uc,.int .i64 ea] 54)).alloc (.cells #[.bool nb,.slice va vn vc,.int .i64 eb] 54):=⟨_,rfl⟩
  obtain⟨hA,hBb,hsz,hBW⟩:=two29 _ _ hW
  have HX:Hid (Bw w W∧W.heap.size=w.heap.size+1+1∧W.heap[w.heap.size]?=some (.cells #[.bool na,.slice ua un uc,.int .i64 ea] 54 (0,0))∧W.heap[w.heap.size+1]?=some (.cells #[.bool nb,.slice va vn vc,.int .i64 eb] 54 (0,0))):=⟨hBW,hsz,hA,hBb⟩
  have HKW:Hid (∀ w',Bw W w'→((w'.cell? ⟨w.heap.size,0,none⟩=some (.bool na)∧w'.cell? ⟨w.heap.size,1,none⟩=some (.slice ua un uc)∧w'.cell? ⟨w.heap.size,2,none⟩=some (.int .i64 ea))∧(w'.cell? ⟨w.heap.size+1,0,none⟩=some (.bool nb)∧w'.cell? ⟨w.heap.size+1,1,none⟩=some (.slice va vn vc)∧w'.cell? ⟨w.heap.size+1,2,none⟩=some (.int .i64 eb)))):=fun w' hb=>⟨(box_cells29 (box_later HX.out.2.2.1 hb (by have:=HX.out.2.1;omega))).1,(box_cells29 (box_later HX.out.2.2.2 hb (by have:=HX.out.2.1;omega))).1⟩
  have HKA:Hid _:=kHa
  have HKB:Hid _:=kHb
  have HBW0:Hid (Bw W W):=Below.refl _ _
  have hw1:IntKind.i64.wrap (60 - ta)=60 - ta:=by rw[IntKind.wrap_i64];omega
  have hw2:IntKind.i64.wrap (60 - ta+tb)=60 - ta+tb:=by rw[IntKind.wrap_i64];omega
  have hw3:IntKind.i64.wrap (ta - tb)=ta - tb:=by rw[IntKind.wrap_i64];omega
  have HKT:Hid _:=kT
  clear kT
  clear hA hBb hsz hBW kHa kHb
  go_enter Tryz.func152,Tryz.ntmps152
  have HK0:Hid (∀ w',Bw W w'→((w'.cell? ⟨w.heap.size,0,none⟩=some (.bool na)∧w'.cell? ⟨w.heap.size,1,none⟩=some (.slice ua un uc)∧w'.cell? ⟨w.heap.size,2,none⟩=some (.int .i64 ea))∧(w'.cell? ⟨w.heap.size+1,0,none⟩=some (.bool nb)∧w'.cell? ⟨w.heap.size+1,1,none⟩=some (.slice va vn vc)∧w'.cell? ⟨w.heap.size+1,2,none⟩=some (.int .i64 eb)))):=fun w' hb=>HKW.out w' (HBW0.out.trans (hb.mono HBW0.out.size))
  obtain⟨⟨a0,a1,a2⟩,b0,b1,b2⟩:=HK0.out W (Below.refl _ _)
  have hBR:Bw W W.drew:=(Below.refl _ _).drew
  have kA':∀ w4,Bw W w4→Calls Tryz.prog 44 #[.agg #[.bool na,.slice ua un uc,.int .i64 ea]] w4 fun r w'=>r=.returned (.int .i64 ta)∧Bw W w':=fun w4 hb=>(HKA.out w4 (HX.out.1.trans ((HBW0.out.trans (hb.mono HBW0.out.size)).mono HX.out.1.size))).mono fun r w' ⟨e1,o2⟩=>⟨e1,hb.trans (o2.mono hb.size)⟩
  have kB':∀ w4,Bw W w4→Calls Tryz.prog 44 #[.agg #[.bool nb,.slice va vn vc,.int .i64 eb]] w4 fun r w'=>r=.returned (.int .i64 tb)∧Bw W w':=fun w4 hb=>(HKB.out w4 (HX.out.1.trans ((HBW0.out.trans (hb.mono HBW0.out.size)).mono HX.out.1.size))).mono fun r w' ⟨e1,o2⟩=>⟨e1,hb.trans (o2.mono hb.size)⟩
  go_upto_region 3 with fail
  rw[←hW]
  clear hW
  go_cut [7] from 15 to 22 (fun v wx=>v=.int .i64 pl∧Hid (Bw W wx))
  case first =>
   go_region_held3 (fun w'=>((w'.cell? ⟨w.heap.size,0,none⟩=some (.bool na)∧w'.cell? ⟨w.heap.size,1,none⟩=some (.slice ua un uc)∧w'.cell? ⟨w.heap.size,2,none⟩=some (.int .i64 ea))∧(w'.cell? ⟨w.heap.size+1,0,none⟩=some (.bool nb)∧w'.cell? ⟨w.heap.size+1,1,none⟩=some (.slice va vn vc)∧w'.cell? ⟨w.heap.size+1,2,none⟩=some (.int .i64 eb)))) (first|(with_reducible assumption)|exact⟨⟨a0,a1,a2⟩,b0,b1,b2⟩|(refine HK0.out _ ?_;with_reducible assumption)|go_keep)
    (first|(go_at_call 44;first|(with_reducible refine(kA' _ (by first|(with_reducible assumption)|exact hBR)).mono ?_;rintro r w5 ⟨rfl,hb5⟩)|(with_reducible refine(kB' _ (by first|(with_reducible assumption)|exact hBR)).mono ?_;rintro r w6 ⟨rfl,hb6⟩)))
   all_goals go_wp2_with fail
   all_goals go_meet
   all_goals first|exact⟨rfl,hb6⟩|exact⟨rfl,hb5⟩
  case rest =>
  obtain⟨rfl,hcx⟩:=hcut
  obtain⟨w2,rfl⟩:∃ w2:World,w2=wc:=⟨_,rfl⟩
  have HBW1:Hid (Bw W w2):=HBW0.out.trans (hcx.out.mono HBW0.out.size)
  clear hcx a0 a1 a2 b0 b1 b2 kA' kB' hBR HK0
  have HK1:Hid (∀ w',Bw w2 w'→((w'.cell? ⟨w.heap.size,0,none⟩=some (.bool na)∧w'.cell? ⟨w.heap.size,1,none⟩=some (.slice ua un uc)∧w'.cell? ⟨w.heap.size,2,none⟩=some (.int .i64 ea))∧(w'.cell? ⟨w.heap.size+1,0,none⟩=some (.bool nb)∧w'.cell? ⟨w.heap.size+1,1,none⟩=some (.slice va vn vc)∧w'.cell? ⟨w.heap.size+1,2,none⟩=some (.int .i64 eb)))):=fun w' hb=>HKW.out w' (HBW1.out.trans (hb.mono HBW1.out.size))
  obtain⟨⟨a0,a1,a2⟩,b0,b1,b2⟩:=HK1.out w2 (Below.refl _ _)
  have hBR:Bw w2 w2.drew:=(Below.refl _ _).drew
  have kA':∀ w4,Bw w2 w4→Calls Tryz.prog 44 #[.agg #[.bool na,.slice ua un uc,.int .i64 ea]] w4 fun r w'=>r=.returned (.int .i64 ta)∧Bw w2 w':=fun w4 hb=>(HKA.out w4 (HX.out.1.trans ((HBW1.out.trans (hb.mono HBW1.out.size)).mono HX.out.1.size))).mono fun r w' ⟨e1,o2⟩=>⟨e1,hb.trans (o2.mono hb.size)⟩
  have kB':∀ w4,Bw w2 w4→Calls Tryz.prog 44 #[.agg #[.bool nb,.slice va vn vc,.int .i64 eb]] w4 fun r w'=>r=.returned (.int .i64 tb)∧Bw w2 w':=fun w4 hb=>(HKB.out w4 (HX.out.1.trans ((HBW1.out.trans (hb.mono HBW1.out.size)).mono HX.out.1.size))).mono fun r w' ⟨e1,o2⟩=>⟨e1,hb.trans (o2.mono hb.size)⟩
  go_upto_region 4 with fail
  go_cut [8] from 23 to 27 (fun v wx=>v=.int .i64 (ta - tb)∧Hid (Bw w2 wx))
  case first =>
   go_region_held3 (fun w'=>((w'.cell? ⟨w.heap.size,0,none⟩=some (.bool na)∧w'.cell? ⟨w.heap.size,1,none⟩=some (.slice ua un uc)∧w'.cell? ⟨w.heap.size,2,none⟩=some (.int .i64 ea))∧(w'.cell? ⟨w.heap.size+1,0,none⟩=some (.bool nb)∧w'.cell? ⟨w.heap.size+1,1,none⟩=some (.slice va vn vc)∧w'.cell? ⟨w.heap.size+1,2,none⟩=some (.int .i64 eb)))) (first|(with_reducible assumption)|exact⟨⟨a0,a1,a2⟩,b0,b1,b2⟩|(refine HK1.out _ ?_;with_reducible assumption)|go_keep)
    (first|(go_at_call 44;first|(with_reducible refine(kA' _ (by first|(with_reducible assumption)|exact hBR)).mono ?_;rintro r w5 ⟨rfl,hb5⟩)|(with_reducible refine(kB' _ (by first|(with_reducible assumption)|exact hBR)).mono ?_;rintro r w6 ⟨rfl,hb6⟩)))
   all_goals go_wp2_with fail
   all_goals go_meet
   all_goals first|exact⟨rfl,hb6⟩|exact⟨rfl,hb5⟩
  case rest =>
  obtain⟨rfl,hcx⟩:=hcut
  obtain⟨w3,rfl⟩:∃ w3:World,w3=wc:=⟨_,rfl⟩
  have HBW2:Hid (Bw W w3):=HBW1.out.trans (hcx.out.mono HBW1.out.size)
  clear hcx a0 a1 a2 b0 b1 b2 kA' kB' hBR HK1
  obtain⟨⟨a0,a1,a2⟩,b0,b1,b2⟩:=HKW.out w3 HBW2.out
  obtain⟨w4,hw4⟩:∃ w4,w4=w3.alloc (.cells #[.int .u32 1] 96):=⟨_,rfl⟩
  have hB34:Bw w3 w4:=by rw[hw4];exact(Below.refl _ _).alloc (Nat.le_refl _) _
  have HW3:Hid (Bw w w3):=HX.out.1.trans (HBW2.out.mono HX.out.1.size)
  have HB4:Hid (Bw w w4):=HW3.out.trans (hB34.mono HW3.out.size)
  have hA1:At w4 (some ⟨w3.heap.size,0,none⟩) 1 1:=⟨w3.heap.size,0,fun _=>rfl,fun i hi=>by
   obtain rfl:i=0:=by omega
   rw[hw4,dg_zero,show 1 % B=1 by rfl]
   exact cell_new1 w3 _⟩
  have kt:=HKT.out w3.heap.size w4 HB4.out hA1
  clear hB34 hA1
  go_wp2_with fail
  rw[←hw4]
  clear hw4
  refine kt.mono ?_
  rintro r w5 ⟨rfl,hb5⟩
  have HB5:Hid (Bw w w5):=HB4.out.trans (hb5.mono HB4.out.size)
  clear kt hb5
  go_wp2
  go_ret
  exact⟨rfl,HB5.out⟩)
theorem rratioto_m (na nb:Bool) (ua va:Option Addr) (un uc vn vc F:Nat) (ea eb m ta tb pl:Int) (s:Bool) (z:Nat) (bx:Bool) (w:World) (hn0:((un:Int)==0)=false) (hta1 : -200000≤ta) (hta2:ta≤200000) (htb1 : -200000≤tb) (htb2:tb≤200000) (hpl:min (max (60 - ta+tb) (-1100)) 1100=pl) (hpl1 : -1100≤pl) (hpl2:pl≤1100) (ht1:ta - tb≤1100) (ht2 : -1200≤ta - tb) (kHa:∀ W,Bw w W→Calls Tryz.prog 44 #[.agg #[.bool na,.slice ua un uc,.int .i64 ea]] W fun r w'=>r=.returned (.int .i64 ta)∧Bw W w') (kHb:∀ W,Bw w W→Calls Tryz.prog 44 #[.agg #[.bool nb,.slice va vn vc,.int .i64 eb]] W fun r w'=>r=.returned (.int .i64 tb)∧Bw W w')
  (kO:∀ W,Bw w W→Calls Tryz.prog 146 #[.agg #[.bool na,.slice ua un uc,.int .i64 ea],.agg #[.bool nb,.slice va vn vc,.int .i64 eb],.int .i64 (pl+60)] W fun r w'=>∃ A,r=.returned (.tuple #[A,.bool bx])∧NC w' W.heap.size A s z (-(pl+60))∧Bw W w')
  (kB:∀ W A,Bw w W→NC W w.heap.size A s z (-(pl+60))→Calls Tryz.prog 212 #[A,.bool bx,.int .i64 (pl+60),.int .i64 m] W fun r w'=>r=.returned (.float .f64 F)∧Bw W w') :
  Calls Tryz.prog 152 #[.agg #[.bool na,.slice ua un uc,.int .i64 ea],.agg #[.bool nb,.slice va vn vc,.int .i64 eb],.int .i64 m] w fun r w'=>r=.returned (.float .f64 F)∧Bw w w':=by
 have htn:¬ 1100<ta - tb:=by omega
 have htm:¬ ta - tb < -1200:=by omega
 obtain⟨W,hW⟩:∃ W,W=(w.alloc (.cells #[.bool na,.slice ua un uc,.int .i64 ea] 54)).alloc (.cells #[.bool nb,.slice va vn vc,.int .i64 eb] 54):=⟨_,rfl⟩
 obtain⟨hA,hBb,hsz,hBW⟩:=two29 _ _ hW
 have HX:Hid (Bw w W∧W.heap.size=w.heap.size+1+1∧W.heap[w.heap.size]?=some (.cells #[.bool na,.slice ua un uc,.int .i64 ea] 54 (0,0))∧W.heap[w.heap.size+1]?=some (.cells #[.bool nb,.slice va vn vc,.int .i64 eb] 54 (0,0))):=⟨hBW,hsz,hA,hBb⟩
 have HKW:Hid (∀ w',Bw W w'→((w'.cell? ⟨w.heap.size,0,none⟩=some (.bool na)∧w'.cell? ⟨w.heap.size,1,none⟩=some (.slice ua un uc)∧w'.cell? ⟨w.heap.size,2,none⟩=some (.int .i64 ea))∧(w'.cell? ⟨w.heap.size+1,0,none⟩=some (.bool nb)∧w'.cell? ⟨w.heap.size+1,1,none⟩=some (.slice va vn vc)∧w'.cell? ⟨w.heap.size+1,2,none⟩=some (.int .i64 eb)))):=fun w' hb=>⟨(box_cells29 (box_later HX.out.2.2.1 hb (by have:=HX.out.2.1;omega))).1,(box_cells29 (box_later HX.out.2.2.2 hb (by have:=HX.out.2.1;omega))).1⟩
 have HKA:Hid _:=kHa
 have HKB:Hid _:=kHb
 have HBW0:Hid (Bw W W):=Below.refl _ _
 have hw1:IntKind.i64.wrap (60 - ta)=60 - ta:=by rw[IntKind.wrap_i64];omega
 have hw2:IntKind.i64.wrap (60 - ta+tb)=60 - ta+tb:=by rw[IntKind.wrap_i64];omega
 have hw3:IntKind.i64.wrap (ta - tb)=ta - tb:=by rw[IntKind.wrap_i64];omega
 have HKO:Hid _:=kO
 have HKBt:Hid _:=kB
 clear kO kB
 clear hA hBb hsz hBW kHa kHb
 go_enter Tryz.func152,Tryz.ntmps152
 have HK0:Hid (∀ w',Bw W w'→((w'.cell? ⟨w.heap.size,0,none⟩=some (.bool na)∧w'.cell? ⟨w.heap.size,1,none⟩=some (.slice ua un uc)∧w'.cell? ⟨w.heap.size,2,none⟩=some (.int .i64 ea))∧(w'.cell? ⟨w.heap.size+1,0,none⟩=some (.bool nb)∧w'.cell? ⟨w.heap.size+1,1,none⟩=some (.slice va vn vc)∧w'.cell? ⟨w.heap.size+1,2,none⟩=some (.int .i64 eb)))):=fun w' hb=>HKW.out w' (HBW0.out.trans (hb.mono HBW0.out.size))
 obtain⟨⟨a0,a1,a2⟩,b0,b1,b2⟩:=HK0.out W (Below.refl _ _)
 have hBR:Bw W W.drew:=(Below.refl _ _).drew
 have kA':∀ w4,Bw W w4→Calls Tryz.prog 44 #[.agg #[.bool na,.slice ua un uc,.int .i64 ea]] w4 fun r w'=>r=.returned (.int .i64 ta)∧Bw W w':=fun w4 hb=>(HKA.out w4 (HX.out.1.trans ((HBW0.out.trans (hb.mono HBW0.out.size)).mono HX.out.1.size))).mono fun r w' ⟨e1,o2⟩=>⟨e1,hb.trans (o2.mono hb.size)⟩
 have kB':∀ w4,Bw W w4→Calls Tryz.prog 44 #[.agg #[.bool nb,.slice va vn vc,.int .i64 eb]] w4 fun r w'=>r=.returned (.int .i64 tb)∧Bw W w':=fun w4 hb=>(HKB.out w4 (HX.out.1.trans ((HBW0.out.trans (hb.mono HBW0.out.size)).mono HX.out.1.size))).mono fun r w' ⟨e1,o2⟩=>⟨e1,hb.trans (o2.mono hb.size)⟩
 go_upto_region 3 with fail
 rw[←hW]
 clear hW
 go_cut [7] from 15 to 22 (fun v wx=>v=.int .i64 pl∧Hid (Bw W wx))
 case first =>
  go_region_held3 (fun w'=>((w'.cell? ⟨w.heap.size,0,none⟩=some (.bool na)∧w'.cell? ⟨w.heap.size,1,none⟩=some (.slice ua un uc)∧w'.cell? ⟨w.heap.size,2,none⟩=some (.int .i64 ea))∧(w'.cell? ⟨w.heap.size+1,0,none⟩=some (.bool nb)∧w'.cell? ⟨w.heap.size+1,1,none⟩=some (.slice va vn vc)∧w'.cell? ⟨w.heap.size+1,2,none⟩=some (.int .i64 eb)))) (first|(with_reducible assumption)|exact⟨⟨a0,a1,a2⟩,b0,b1,b2⟩|(refine HK0.out _ ?_;with_reducible assumption)|go_keep)
   (first|(go_at_call 44;first|(with_reducible refine(kA' _ (by first|(with_reducible assumption)|exact hBR)).mono ?_;rintro r w5 ⟨rfl,hb5⟩)|(with_reducible refine(kB' _ (by first|(with_reducible assumption)|exact hBR)).mono ?_;rintro r w6 ⟨rfl,hb6⟩)))
  all_goals go_wp2_with fail
  all_goals go_meet
  all_goals first|exact⟨rfl,hb6⟩|exact⟨rfl,hb5⟩
 case rest =>
 obtain⟨rfl,hcx⟩:=hcut
 obtain⟨w2,rfl⟩:∃ w2:World,w2=wc:=⟨_,rfl⟩
 have HBW1:Hid (Bw W w2):=HBW0.out.trans (hcx.out.mono HBW0.out.size)
 clear hcx a0 a1 a2 b0 b1 b2 kA' kB' hBR HK0
 have HK1:Hid (∀ w',Bw w2 w'→((w'.cell? ⟨w.heap.size,0,none⟩=some (.bool na)∧w'.cell? ⟨w.heap.size,1,none⟩=some (.slice ua un uc)∧w'.cell? ⟨w.heap.size,2,none⟩=some (.int .i64 ea))∧(w'.cell? ⟨w.heap.size+1,0,none⟩=some (.bool nb)∧w'.cell? ⟨w.heap.size+1,1,none⟩=some (.slice va vn vc)∧w'.cell? ⟨w.heap.size+1,2,none⟩=some (.int .i64 eb)))):=fun w' hb=>HKW.out w' (HBW1.out.trans (hb.mono HBW1.out.size))
 obtain⟨⟨a0,a1,a2⟩,b0,b1,b2⟩:=HK1.out w2 (Below.refl _ _)
 have hBR:Bw w2 w2.drew:=(Below.refl _ _).drew
 have kA':∀ w4,Bw w2 w4→Calls Tryz.prog 44 #[.agg #[.bool na,.slice ua un uc,.int .i64 ea]] w4 fun r w'=>r=.returned (.int .i64 ta)∧Bw w2 w':=fun w4 hb=>(HKA.out w4 (HX.out.1.trans ((HBW1.out.trans (hb.mono HBW1.out.size)).mono HX.out.1.size))).mono fun r w' ⟨e1,o2⟩=>⟨e1,hb.trans (o2.mono hb.size)⟩
 have kB':∀ w4,Bw w2 w4→Calls Tryz.prog 44 #[.agg #[.bool nb,.slice va vn vc,.int .i64 eb]] w4 fun r w'=>r=.returned (.int .i64 tb)∧Bw w2 w':=fun w4 hb=>(HKB.out w4 (HX.out.1.trans ((HBW1.out.trans (hb.mono HBW1.out.size)).mono HX.out.1.size))).mono fun r w' ⟨e1,o2⟩=>⟨e1,hb.trans (o2.mono hb.size)⟩
 go_upto_region 4 with fail
 go_cut [8] from 23 to 27 (fun v wx=>v=.int .i64 (ta - tb)∧Hid (Bw w2 wx))
 case first =>
  go_region_held3 (fun w'=>((w'.cell? ⟨w.heap.size,0,none⟩=some (.bool na)∧w'.cell? ⟨w.heap.size,1,none⟩=some (.slice ua un uc)∧w'.cell? ⟨w.heap.size,2,none⟩=some (.int .i64 ea))∧(w'.cell? ⟨w.heap.size+1,0,none⟩=some (.bool nb)∧w'.cell? ⟨w.heap.size+1,1,none⟩=some (.slice va vn vc)∧w'.cell? ⟨w.heap.size+1,2,none⟩=some (.int .i64 eb)))) (first|(with_reducible assumption)|exact⟨⟨a0,a1,a2⟩,b0,b1,b2⟩|(refine HK1.out _ ?_;with_reducible assumption)|go_keep)
   (first|(go_at_call 44;first|(with_reducible refine(kA' _ (by first|(with_reducible assumption)|exact hBR)).mono ?_;rintro r w5 ⟨rfl,hb5⟩)|(with_reducible refine(kB' _ (by first|(with_reducible assumption)|exact hBR)).mono ?_;rintro r w6 ⟨rfl,hb6⟩)))
  all_goals go_wp2_with fail
  all_goals go_meet
  all_goals first|exact⟨rfl,hb6⟩|exact⟨rfl,hb5⟩
 case rest =>
 obtain⟨rfl,hcx⟩:=hcut
 obtain⟨w3,rfl⟩:∃ w3:World,w3=wc:=⟨_,rfl⟩
 have HBW2:Hid (Bw W w3):=HBW1.out.trans (hcx.out.mono HBW1.out.size)
 clear hcx a0 a1 a2 b0 b1 b2 kA' kB' hBR HK1
 obtain⟨⟨a0,a1,a2⟩,b0,b1,b2⟩:=HKW.out w3 HBW2.out
 have HW3:Hid (Bw w w3):=HX.out.1.trans (HBW2.out.mono HX.out.1.size)
 have ko:=HKO.out w3 HW3.out
 go_wp2_with fail
 refine ko.mono ?_
 rintro r w4 ⟨A,rfl,hN,hb4⟩
 have HB4:Hid (Bw w w4):=HW3.out.trans (hb4.mono HW3.out.size)
 obtain⟨s3,ao3,n3,cap3,e3,rfl⟩:=hN.shape
 obtain⟨w5,hw5⟩:∃ w5,w5=w4.alloc (.cells #[.bool s3,.slice ao3 n3 cap3,.int .i64 e3] 54):=⟨_,rfl⟩
 have hB45:Bw w4 w5:=by rw[hw5];exact(Below.refl _ _).alloc (Nat.le_refl _) _
 have HB5:Hid (Bw w w5):=HB4.out.trans (hB45.mono HB4.out.size)
 have kb:=HKBt.out w5 _ HB5.out ((hN.later hB45).mono HW3.out.size)
 clear ko hN hb4 hB45 a0 a1 a2 b0 b1 b2
 go_wp2_with fail
 rw[←hw5]
 clear hw5
 refine kb.mono ?_
 rintro r w6 ⟨rfl,hb6⟩
 have HB6:Hid (Bw w w6):=HB5.out.trans (hb6.mono HB5.out.size)
 clear kb hb6
 go_wp2
 go_ret
 exact⟨rfl,HB6.out⟩
end Go.Proofs.YtfkaogdmlcdceaaGreatDoor
namespace Go.Proofs.YtfkaogdmlcdceaaGreatDoor
open Go.RowKit Go.Fl64
open Ie
theorem bl_ge {x n:Nat}:n+1≤bl x↔2^n≤x:=by
 have:=bl_le x n
 omega
theorem bl_div {x n:Nat} (h:n<bl x):bl (x / 2^n)=bl x - n:=by
 have hx0:x≠0:=fun e=>by rw[e] at h;simp[bl] at h
 have h1:=lt_bl x
 have h2:=le_bl hx0
 have a:bl (x / 2^n)≤bl x - n:=(bl_le _ _).2 ((Nat.div_lt_iff_lt_mul (Nat.two_pow_pos n)).2 (by rw[←Nat.pow_add,show bl x - n+n=bl x by omega];exact h1))
 have b:bl x - n - 1+1≤bl (x / 2^n):=bl_ge.2 ((Nat.le_div_iff_mul_le (Nat.two_pow_pos n)).2 (by rw[←Nat.pow_add,show bl x - n - 1+n=bl x - 1 by omega];exact h2))
 omega
theorem bl_two {x:Nat} (h:x≠0):bl (2*x+1)=bl x+1:=by
 have h1:=lt_bl x
 have h2:=le_bl h
 have hb:=bl_ne h
 have a:bl (2*x+1)≤bl x+1:=(bl_le _ _).2 (by rw[Nat.pow_succ];omega)
 have b:bl x+1≤bl (2*x+1):=bl_ge.2 (by
  have:2^bl x=2*2^(bl x - 1):=by rw[←Nat.pow_succ'];congr 1;omega
  omega)
 omega
theorem two_div {x t:Nat} (h:1≤t):(2*x+1) / 2^t=x / 2^(t - 1):=by
 obtain⟨n,rfl⟩:∃ n,t=n+1:=⟨t - 1,by omega⟩
 rw[Nat.add_sub_cancel,Nat.pow_succ',←Nat.div_div_eq_div_mul,show(2*x+1) / 2=x by omega]
theorem tf_sticky {s:Bool} {x:Nat} {e m:Int} (h:64≤bl x):tfF s false x e m=tfF s true (2*x+1) (e - 1) m:=by
 have hx0:x≠0:=fun e=>by rw[e] at h;simp[bl] at h
 have hb:=bl_two hx0
 have hd:tfD (2*x+1)=tfD x+1:=by unfold tfD;omega
 unfold tfF
 have hM:tfM true (2*x+1)=tfM false x:=by
  unfold tfM
  rw[hd,two_div (by omega),Nat.add_sub_cancel,tz_odd (show(2*x+1) % 2=1 by omega),decide_eq_true (show 0<tfD x+1 by omega)]
  simp
 rw[hM,hd,show e - 1+((tfD x+1:Nat):Int)=e+(tfD x:Int) by omega]
theorem tf_cut {s:Bool} {Z n:Nat} {E m:Int} (h:64≤bl (Z / 2^n)) (hr:Z % 2^n≠0):tfF s true Z E m=tfF s false (Z / 2^n) (E+n) m:=by
 have hn:0<n:=by
  rcases Nat.eq_zero_or_pos n with h0|h0
  ·rw[h0,Nat.pow_zero,Nat.mod_one] at hr;omega
  ·exact h0
 have hlt:n<bl Z:=Nat.lt_of_not_le fun hle=>by
  have:Z / 2^n=0:=Nat.div_eq_of_lt ((bl_le _ _).1 hle)
  rw[this] at h;simp[bl] at h
 have hb:=bl_div hlt
 have hZ0:Z≠0:=fun e=>by rw[e] at hlt;simp[bl] at hlt
 have hd:tfD Z=tfD (Z / 2^n)+n:=by unfold tfD;omega
 have hst:tz Z<tfD Z:=by
  refine(tz_iff hZ0).2 fun e=>hr ?_
  have h1:2^n ∣ 2^tfD Z:=Nat.pow_dvd_pow 2 (by omega)
  exact Nat.mod_eq_zero_of_dvd (Nat.dvd_trans h1 (Nat.dvd_of_mod_eq_zero e))
 unfold tfF
 have hM:tfM true Z=tfM false (Z / 2^n):=by
  unfold tfM
  rw[decide_eq_true hst,hd,Nat.div_div_eq_div_mul,←Nat.pow_add,Nat.add_comm n]
  simp
 rw[hM,hd,show E+((tfD (Z / 2^n)+n:Nat):Int)=E+(n:Int)+(tfD (Z / 2^n):Int) by omega]
theorem bdy_shl {x n:Nat} {e:Int} {way:Nat} (hw:way=0∨way=1∨way=2):bdy (x*2^n) e way=bdy x (e+n) way:=by
 by_cases h0:x=0
 ·subst h0;rw[Nat.zero_mul];unfold bdy;rw[if_pos rfl,if_pos rfl]
 have h1:x*2^n≠0:=Nat.mul_ne_zero h0 (by have:=Nat.two_pow_pos n;omega)
 obtain⟨K,hK⟩:∃ K:Nat,K=1200+(64 - e).toNat+n:=⟨_,rfl⟩
 have a:=rwb_rounds (e:=e) h1 (K:=K) (by omega) (by omega) (way:=way)
 have b:=rwb_rounds (e:=e+n) h0 (K:=K) (by omega) (by omega) (way:=way)
 have hv:x*2^n*2^(e+(K:Int)).toNat=x*2^(e+(n:Int)+(K:Int)).toNat:=by
  rw[Nat.mul_assoc,←Nat.pow_add,show n+(e+(K:Int)).toNat=(e+(n:Int)+(K:Int)).toNat by omega]
 have h2:=Rounds.mono hw a b (Nat.le_of_eq hv)
 have h3:=Rounds.mono hw b a (Nat.le_of_eq hv.symm)
 have h4:rwb (x*2^n) e way=rwb x (e+n) way:=Nat.le_antisymm h2 h3
 unfold bdy
 rw[if_neg h0,if_neg h1,h4]
theorem tf_shl {s:Bool} {x n:Nat} {e m:Int} (hm:1≤m∧m≤3):tfF s true (x*2^n) e m=tfF s true x (e+n) m:=by
 rw[tf_bdy hm,tf_bdy hm,bdy_shl (wyN_ways s m)]
theorem tf_coarse {s xf xc:Bool} {Qf Qc D:Nat} {E m:Int} (hm:1≤m∧m≤3) (hq:Qc=Qf / 2^D) (hx:xc=(xf&&decide (Qf % 2^D=0))) (h:64≤bl Qc):tfF s xf Qf E m=tfF s xc Qc (E+D) m:=by
 subst hq
 cases xf
 ·rw[Bool.false_and] at hx
  subst hx
  have hle:bl (Qf / 2^D)≤bl Qf:=by
   have:=(bl_le (Qf / 2^D) (bl Qf)).2 (Nat.lt_of_le_of_lt (Nat.div_le_self _ _) (lt_bl Qf))
   exact this
  rw[tf_sticky (by omega)]
  have e1:(2*Qf+1) / 2^(D+1)=Qf / 2^D:=by rw[two_div (by omega),Nat.add_sub_cancel]
  have:=tf_cut (s:=s) (Z:=2*Qf+1) (n:=D+1) (E:=E - 1) (m:=m) (by rw[e1];exact h) (fun h0=>by
   have h1:2 ∣ 2^(D+1):=⟨2^D,by rw[Nat.pow_succ,Nat.mul_comm]⟩
   have:=Nat.dvd_trans h1 (Nat.dvd_of_mod_eq_zero h0)
   omega)
  rw[this,e1,show E - 1+((D+1:Nat):Int)=E+D by omega]
 ·rw[Bool.true_and] at hx
  subst hx
  by_cases h0:Qf % 2^D=0
  ·rw[decide_eq_true h0]
   have e1:Qf=Qf / 2^D*2^D:=by
    have:=Nat.div_add_mod Qf (2^D)
    rw[h0,Nat.add_zero,Nat.mul_comm] at this
    exact this.symm
   conv=>lhs;rw[e1]
   exact tf_shl hm
  ·rw[decide_eq_false h0]
   exact tf_cut h h0
theorem frac_fine {N y D:Nat} (hy:y≠0):N / y=N*2^D / y / 2^D∧decide (N % y=0)=(decide (N*2^D % y=0)&&decide (N*2^D / y % 2^D=0)):=by
 have hp:0<2^D:=Nat.two_pow_pos D
 refine⟨by rw[Nat.div_div_eq_div_mul,Nat.mul_div_mul_right _ _ hp],?_⟩
 by_cases h:N % y=0
 ·obtain⟨c,hc⟩:=Nat.dvd_of_mod_eq_zero h
  have e1:N*2^D=y*(c*2^D):=by rw[hc,Nat.mul_assoc]
  rw[decide_eq_true h,e1,Nat.mul_mod_right,Nat.mul_div_cancel_left _ (Nat.pos_of_ne_zero hy),Nat.mul_mod_left]
  rfl
 ·rw[decide_eq_false h]
  by_cases h1:N*2^D % y=0
  ·by_cases h2:N*2^D / y % 2^D=0
   ·exfalso
    obtain⟨c,hc⟩:=Nat.dvd_of_mod_eq_zero h1
    rw[hc,Nat.mul_div_cancel_left _ (Nat.pos_of_ne_zero hy)] at h2
    obtain⟨d,hd⟩:=Nat.dvd_of_mod_eq_zero h2
    have e1:N*2^D=y*d*2^D:=by rw[hc,hd,Nat.mul_assoc,Nat.mul_comm d]
    have e2:N=y*d:=Nat.eq_of_mul_eq_mul_right hp e1
    exact h (by rw[e2,Nat.mul_mod_right])
   ·rw[decide_eq_false h2,Bool.and_false]
  ·rw[decide_eq_false h1,Bool.false_and]
theorem frac_mul {x y k j:Nat} (hy:y≠0):x*2^(k+j) / (y*2^j)=x*2^k / y∧decide (x*2^(k+j) % (y*2^j)=0)=decide (x*2^k % y=0):=by
 have hp:0<2^j:=Nat.two_pow_pos j
 rw[Nat.pow_add,←Nat.mul_assoc]
 refine⟨Nat.mul_div_mul_right _ _ hp,?_⟩
 rw[Nat.mul_mod_mul_right]
 refine decide_eq_decide.2 ?_
 constructor
 ·intro h
  rcases Nat.mul_eq_zero.1 h with h|h
  ·exact h
  ·omega
 ·intro h;rw[h,Nat.zero_mul]
theorem ratio_eq {s:Bool} {x y k:Nat} {ea eb P m:Int} (hm:1≤m∧m≤3) (hy:y≠0) (h1:64≤bl (x*2^k / y)) (h2:64≤bl (ovX x ea eb P / ovY y ea eb P)) :
  tfF s (decide (x*2^k % y=0)) (x*2^k / y) (ea - eb - k) m=tfF s (decide (ovX x ea eb P % ovY y ea eb P=0)) (ovX x ea eb P / ovY y ea eb P) (-P) m:=by
 by_cases hc:(k:Int)≤ea - eb+P
 ·obtain⟨D,hD⟩:∃ D:Nat,ea - eb+P=(k:Int)+D:=⟨(ea - eb+P - k).toNat,by omega⟩
  have hX:ovX x ea eb P=x*2^k*2^D:=by unfold ovX;rw[Nat.mul_assoc,←Nat.pow_add,show(ea+P - min (ea+P) eb).toNat=k+D by omega]
  have hY:ovY y ea eb P=y:=by unfold ovY;rw[show(eb - min (ea+P) eb).toNat=0 by omega,Nat.pow_zero,Nat.mul_one]
  rw[hX,hY]
  have hf:=frac_fine (N:=x*2^k) (y:=y) (D:=D) hy
  have:=tf_coarse (s:=s) (E := -P) hm hf.1 hf.2 h1
  rw[this,show -P+(D:Int)=ea - eb - k by omega]
 ·by_cases hn:0≤ea - eb+P
  ·obtain⟨n0,hn0⟩:∃ n0:Nat,ea - eb+P=(n0:Int):=⟨(ea - eb+P).toNat,by omega⟩
   obtain⟨D,hD⟩:∃ D:Nat,k=n0+D:=⟨k - n0,by omega⟩
   have hX:ovX x ea eb P=x*2^n0:=by unfold ovX;rw[show(ea+P - min (ea+P) eb).toNat=n0 by omega]
   have hY:ovY y ea eb P=y:=by unfold ovY;rw[show(eb - min (ea+P) eb).toNat=0 by omega,Nat.pow_zero,Nat.mul_one]
   rw[hX,hY] at h2 ⊢
   have hN:x*2^k=x*2^n0*2^D:=by rw[hD,Nat.pow_add,Nat.mul_assoc]
   rw[hN] at h1 ⊢
   have hf:=frac_fine (N:=x*2^n0) (y:=y) (D:=D) hy
   have:=tf_coarse (s:=s) (E:=ea - eb - k) hm hf.1 hf.2 h2
   rw[this,show ea - eb - (k:Int)+(D:Int) = -P by omega]
  ·obtain⟨j,hj⟩:∃ j:Nat,ea - eb+P = -(j:Int):=⟨(-(ea - eb+P)).toNat,by omega⟩
   have hX:ovX x ea eb P=x:=by unfold ovX;rw[show(ea+P - min (ea+P) eb).toNat=0 by omega,Nat.pow_zero,Nat.mul_one]
   have hY:ovY y ea eb P=y*2^j:=by unfold ovY;rw[show(eb - min (ea+P) eb).toNat=j by omega]
   rw[hX,hY] at h2 ⊢
   have hyj:y*2^j≠0:=Nat.mul_ne_zero hy (by have:=Nat.two_pow_pos j;omega)
   have hf:=frac_fine (N:=x) (y:=y*2^j) (D:=k+j) hyj
   have hg:=frac_mul (x:=x) (y:=y) (k:=k) (j:=j) hy
   rw[hg.1,hg.2] at hf
   have:=tf_coarse (s:=s) (E:=ea - eb - k) hm hf.1 hf.2 h2
   rw[this,show ea - eb - (k:Int)+((k+j:Nat):Int) = -P by omega]
theorem tf_big {s xe:Bool} {x y:Nat} {e f m:Int} (hm:1≤m∧m≤3) (hx:64≤bl x∨(xe=true∧x≠0)) (hy:y≠0) (h1:1024<(bl x:Int)+e) (h2:1024<(bl y:Int)+f):tfF s xe x e m=tfF s true y f m:=by
 have key:∀ z (g:Int),z≠0→1024<(bl z:Int)+g→tfF s true z g m=sig s (if wyN s m=0 then 9218868437227405311 else 9218868437227405312):=fun z g hz hg=>by rw[tf_bdy hm,bdy_big hz hg (wyN_ways s m)]
 rw[key y f hy h2]
 cases xe
 ·have hb:64≤bl x:=hx.resolve_right (fun h=>by cases h.1)
  have hx0:x≠0:=fun e=>by rw[e] at hb;simp[bl] at hb
  rw[tf_sticky hb]
  exact key _ _ (by omega) (by rw[bl_two hx0];omega)
 ·rcases hx with hb|⟨-,hx0⟩
  ·exact key x e (fun e=>by rw[e] at hb;simp[bl] at hb) h1
  ·exact key x e hx0 h1
theorem tf_tiny {s xe:Bool} {x y:Nat} {e f m:Int} (hm:1≤m∧m≤3) (hx:64≤bl x∨(xe=true∧x≠0)) (hy:y≠0) (h1:(bl x:Int)+e < -1075) (h2:(bl y:Int)+f < -1075):tfF s xe x e m=tfF s true y f m:=by
 have key:∀ z (g:Int),z≠0→(bl z:Int)+g < -1075→tfF s true z g m=sig s (if wyN s m=2 then 1 else 0):=fun z g hz hg=>by rw[tf_bdy hm,bdy_tiny hz hg (wyN_ways s m)]
 rw[key y f hy h2]
 cases xe
 ·have hb:64≤bl x:=hx.resolve_right (fun h=>by cases h.1)
  have hx0:x≠0:=fun e=>by rw[e] at hb;simp[bl] at hb
  rw[tf_sticky hb]
  exact key _ _ (by omega) (by rw[bl_two hx0];omega)
 ·rcases hx with hb|⟨-,hx0⟩
  ·exact key x e (fun e=>by rw[e] at hb;simp[bl] at hb) h1
  ·exact key x e hx0 h1
theorem rto_nc {W:World} {base:Nat} {A:Value} {s:Bool} {z:Nat} {e m:Int} (h:NC W base A s z e) (hz:z≠0) (hl:dlen z≤30000) (he1 : -2000000≤e) (he2:e≤2000000) (hm:1≤m∧m≤3) :
  Calls Tryz.prog 151 #[A,.int .i64 m] W fun r w'=>r=.returned (.float .f64 (tfF s true z e m))∧Bw W w':=by
 obtain⟨ao,cap,rfl,hA,-⟩:=h
 have hc:cn s z e=(s,z / 2^tz z,e+tz z):=by unfold cn;rw[if_neg hz]
 rw[hc] at hA ⊢
 simp only at hA ⊢
 have hs:=tz_spec z z (Nat.le_refl _) hz
 have htz:tz z<bl z:=by
  have h3:2^tz z≤z:=by
   have h4:0<z / 2^tz z:=Nat.pos_of_ne_zero fun e=>by have:=hs.2;rw[e] at this;omega
   exact Nat.le_trans (Nat.le_mul_of_pos_right _ h4) (Nat.le_of_eq hs.1)
  exact(Nat.pow_lt_pow_iff_right (by omega)).1 (Nat.lt_of_le_of_lt h3 (lt_bl z))
 have hbl:=bl_le_dlen z
 have hdl:dlen (z / 2^tz z)≤dlen z:=dlen_mono (Nat.div_le_self _ _)
 have:=rto (neg:=s) (ea:=e+tz z) (m:=m) hA.at_ hA.le hs.2 (by omega) (by omega) (by omega) hm
 rw[←tf_bdy hm] at this
 have e1:tfF s true (z / 2^tz z) (e+tz z) m=tfF s true z e m:=by
  rw[←tf_shl (x:=z / 2^tz z) (n:=tz z) (e:=e) hm,Nat.mul_comm,hs.1]
 rw[e1] at this
 exact this
theorem half_sum {s:Bool} {z:Nat} {P:Int} (hz:s=true→z≠0):sumN (cn s z (-P)).1 (cn s z (-P)).2.1 (cn s z (-P)).2.2 false 1 (-(P+1))=(if z=0 then false else s,if s then 2*z - 1 else 2*z+1,-(P+1)):=by
 by_cases h0:z=0
 ·have hs:s=false:=by cases s with
   | false=>rfl
   | true=>exact absurd h0 (hz rfl)
  subst hs;subst h0
  unfold cn;rw[if_pos rfl];unfold sumN;rw[if_pos rfl];simp
 ·have h2:=tz_spec z z (Nat.le_refl _) h0
  have e1:cn s z (-P)=(s,z / 2^tz z,-P+tz z):=by unfold cn;rw[if_neg h0]
  have h3:z / 2^tz z≠0:=fun e=>by have:=h2.2;rw[e] at this;omega
  have hz2:z / 2^tz z*2^(tz z+1)=2*z:=by rw[Nat.pow_succ,←Nat.mul_assoc,Nat.mul_comm (z / 2^tz z),h2.1,Nat.mul_comm]
  rw[e1]
  unfold sumN
  simp only
  rw[if_neg h3,if_neg (by omega),show min (-P+(tz z:Int)) (-(P+1)) = -(P+1) by omega,show(-P+(tz z:Int) - -(P+1)).toNat=tz z+1 by omega,show(-(P+1) - -(P+1)).toNat=0 by omega,Nat.pow_zero,Nat.mul_one,hz2,if_neg h0]
  cases s
  ·rw[if_pos rfl,if_neg (by decide)]
  ·rw[if_neg (by decide),if_neg (by omega),if_pos rfl]
theorem rbetween {W:World} {base:Nat} {A:Value} {s:Bool} {q:Nat} {P m:Int} {bx:Bool} (h:NC W base A s (if s && !bx then q+1 else q) (-P)) (hq:bx=true→q≠0) (hl:dlen q≤20000) (hP1 : -100000≤P) (hP2:P≤100000) (hm:1≤m∧m≤3) :
  Calls Tryz.prog 212 #[A,.bool bx,.int .i64 P,.int .i64 m] W fun r w'=>r=.returned (.float .f64 (if bx then tfF s true q (-P) m else tfF s true (2*q+1) (-(P+1)) m))∧Bw W w':=by
 obtain⟨s0,ao0,n0,cap0,e0,rfl⟩:=h.shape
 cases bx
 ·rw[Bool.not_false,Bool.and_true] at h
  rw[if_neg (by decide)]
  have hzl:dlen (if s then q+1 else q)≤20001:=by
   split
   ·exact Nat.le_trans (dlen_succ_le _) (by omega)
   ·omega
  refine rbet_r s0 ao0 n0 cap0 _ e0 P m s (2*q+1) (-(P+1)) W (by omega) (by omega) (fun g W' hW' hA1=>?_) (fun W' A' hW' hN=>?_)
  ·obtain⟨ao,cap,e1,hA,-⟩:=h.later hW'
   rw[e1]
   obtain⟨z,hz⟩:∃ z,z=if s then q+1 else q:=⟨_,rfl⟩
   rw[←hz] at hA hzl ⊢
   have hcn:cn (cn s z (-P)).1 (cn s z (-P)).2.1 (cn s z (-P)).2.2=(cn s z (-P)):=by
    by_cases h0:z=0
    ·unfold cn;rw[if_pos h0,if_pos rfl]
    ·have h2:=(tz_spec z z (Nat.le_refl _) h0).2
     have:cn s z (-P)=(s,z / 2^tz z,-P+tz z):=by unfold cn;rw[if_neg h0]
     rw[this]
     exact cn_odd h2
   have hbnd : -2000000≤(cn s z (-P)).2.2∧(cn s z (-P)).2.2≤2000000:=by
    by_cases h0:z=0
    ·unfold cn;rw[if_pos h0];exact⟨by decide,by decide⟩
    ·have hs:=tz_spec z z (Nat.le_refl _) h0
     have htz:tz z<bl z:=by
      have h3:2^tz z≤z:=Nat.le_trans (Nat.le_mul_of_pos_right _ (Nat.pos_of_ne_zero fun e=>by have:=hs.2;rw[e] at this;omega)) (Nat.le_of_eq hs.1)
      exact(Nat.pow_lt_pow_iff_right (by omega)).1 (Nat.lt_of_le_of_lt h3 (lt_bl z))
     have hbl:=bl_le_dlen z
     unfold cn;rw[if_neg h0];exact⟨by simp only;omega,by simp only;omega⟩
   have hone:Arg W' (some ⟨g,0,none⟩) (dlen 1) 1 1:=⟨fun h=>by rw[dlen_one] at h;omega,by rw[dlen_one];exact hA1,by rw[dlen_one];exact Nat.le_refl _,by rw[dlen_one];omega⟩
   have:=rplusG (na:=(cn s z (-P)).1) (nb:=false) (ea:=(cn s z (-P)).2.2) (eb := -(P+1)) hA hone hcn (cn_odd rfl) hbnd.1 hbnd.2 (by omega) (by omega) (Nat.le_trans cn_dlen (by omega)) (by rw[dlen_one];omega)
   have hzs:s=true→z≠0:=fun e=>by rw[hz,e,if_pos rfl];omega
   rw[half_sum hzs,dlen_one] at this
   refine this.mono ?_
   rintro r w' ⟨a,rfl,hN,hb⟩
   refine⟨a,rfl,?_,hb⟩
   have e2:(if s then 2*z - 1 else 2*z+1)=2*q+1:=by
    rw[hz];cases s
    ·rw[if_neg (by decide),if_neg (by decide)]
    ·rw[if_pos rfl,if_pos rfl];omega
   rw[e2] at hN
   by_cases h0:z=0
   ·rw[if_pos h0] at hN
    have hs:s=false:=by cases s with
     | false=>rfl
     | true=>exact absurd h0 (hzs rfl)
    rw[hs];exact hN
   ·rw[if_neg h0] at hN;exact hN
  ·refine rto_nc hN (by omega) ?_ (by omega) (by omega) hm
   have h1:=dlen_add_le q q
   have h2:=dlen_succ_le (q+q)
   rw[show 2*q+1=q+q+1 by omega]
   omega
 ·rw[Bool.not_true,Bool.and_false,if_neg (by decide)] at h
  rw[if_pos rfl]
  exact rbet_e s0 ao0 n0 cap0 _ e0 P m W (fun W' hW'=>rto_nc (h.later hW') (hq rfl) (by omega) (by omega) (by omega) hm)
end Go.Proofs.YtfkaogdmlcdceaaGreatDoor
namespace Go.Proofs.YtfkaogdmlcdceaaGreatDoor
open Go.RowKit Go.Fl64
theorem cn_parts (a m:Nat) (ha:a<18446744073709551616) (hf:mag a<9218868437227405312) (hm:Ie.sM a=(m:Int)):cn (neg a) m (Ie.sE a)=tF a:=by
 unfold tF cn
 rcases of_parts a m ha hf hm with ⟨h1,h2⟩|⟨h1,h2,-,h3,h4⟩
 ·rw[if_pos h1,if_pos h2]
 ·rw[if_neg h1,if_neg h2,h3,h4]
theorem psign {t:Bool×Nat×Int} {A:Value} {w:World} (ok:Ok t) (h:PN w A t):Calls Tryz.prog 89 #[A] w fun r w'=>r=.returned (.int .i64 (sgI t.1 (dlen t.2.1)))∧Bw w w':=by
 obtain⟨ao,cap,rfl,h1⟩:=h
 obtain⟨f1,-,-,-,-⟩:=ok.facts
 exact sign_ok h1 (by omega) ok
end Go.Proofs.YtfkaogdmlcdceaaGreatDoor
namespace Go.Proofs.YtfkaogdmlcdceaaGreatDoor
open Go Go.RowKit
end Go.Proofs.YtfkaogdmlcdceaaGreatDoor
namespace Go.Proofs.YtfkaogdmlcdceaaGreatDoor
open Go.RowKit Go.Fl64
end Go.Proofs.YtfkaogdmlcdceaaGreatDoor
namespace Go.Proofs.YtfkaogdmlcdceaaGreatDoor
open Go Go.RowKit Go.Fl64 Go.Shelf
attribute [local go_sem] Oper.semAt_some
attribute [local go_sem] Oper.semAt_some
end Go.Proofs.YtfkaogdmlcdceaaGreatDoor
namespace Go.Proofs.YtfkaogdmlcdceaaGreatDoor
open Go.RowKit Go.Fl64
end Go.Proofs.YtfkaogdmlcdceaaGreatDoor
