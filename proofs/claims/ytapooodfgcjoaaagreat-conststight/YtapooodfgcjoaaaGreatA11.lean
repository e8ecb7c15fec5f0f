/- Own work: contracts of the program's functions, part 11: FM5 RT0 FM6 RT1 RT3 SNP PX DL2 PQ PW PW2 PQ2 PZ PZ2. -/
import Derived.Test.YtapooodfgcjoaaaGreatA10
import Derived.Test.YtapooodfgcjoaaaGreatA6
import Derived.Test.YtapooodfgcjoaaaGreatA7
import Derived.Deep.CutBlock

set_option maxHeartbeats 16000000
set_option maxRecDepth 200000
set_option linter.unusedVariables false
set_option linter.unusedSimpArgs false
namespace Go.Proofs.YtapooodfgcjoaaaGreat
open Go.RowKit Go.Fl64
open Ie
theorem rnd_rounds {x:Nat} {e:Int} {j X k:Nat} (hR:IsR x e j X k) {K:Nat} (hK:1074≤K) (h1:0≤e+K) (h2:0≤(j:Int) - 1074 - k+K) (way:Nat):Rounds (x*2^(e+K).toNat) (2^(K - 1074)) (j*4503599627370496+rnd X k (way:Int)) way:=by
 have L:=hR.lies hK h1 h2
 refine⟨⟨j*4503599627370496+X / 2^k,⟨L.lo,L.hi⟩,?_,?_,?_⟩⟩
 ·intro h;subst h
  rw[rnd0]
 ·intro h;subst h
  rw[rnd2]
  by_cases hx:X % 2^k=0
  ·rw[if_pos hx,if_pos (L.ex.1 hx)]
  ·rw[if_neg hx,if_neg (fun h=>hx (L.ex.2 h)),Nat.add_assoc]
 ·intro h;subst h
  rw[rnd1]
  have hpar:(j*4503599627370496+X / 2^k) % 2=X / 2^k % 2:=by omega
  by_cases h1:2*(X % 2^k)<2^k
  ·rw[if_pos h1,if_pos (L.half_lt.1 h1)]
  ·rw[if_neg h1,if_neg (fun h=>h1 (L.half_lt.2 h))]
   by_cases h2:2*(X % 2^k)=2^k
   ·rw[if_pos h2,if_pos (L.half_eq.1 h2),hpar,Nat.add_assoc]
   ·rw[if_neg h2,if_neg (fun h=>h2 (L.half_eq.2 h)),Nat.add_assoc]
theorem IsR.rwb {x:Nat} {e:Int} {j X k:Nat} (hR:IsR x e j X k) (h0:x≠0) {way:Nat} (hw:way=0∨way=1∨way=2):rwb x e way=j*4503599627370496+rnd X k (way:Int):=by
 obtain⟨K,hK⟩:∃ K:Nat,K=1200+(64 - e).toNat+(1074+k):=⟨_,rfl⟩
 have a:=rwb_rounds (e:=e) h0 (K:=K) (by omega) (by omega) (way:=way)
 have b:=rnd_rounds hR (K:=K) (by omega) (by omega) (by omega) way
 have h1:=Rounds.mono hw a b (Nat.le_refl _)
 have h2:=Rounds.mono hw b a (Nat.le_refl _)
 omega
theorem rwb_big {x:Nat} {e:Int} (h0:x≠0) (ht:1024<(bl x:Int)+e) {way:Nat} (hw:way=0∨way=1∨way=2):9218868437227405312≤rwb x e way:=by
 obtain⟨K,hK⟩:∃ K:Nat,K=1200+(64 - e).toNat:=⟨_,rfl⟩
 have a:=rwb_rounds (e:=e) h0 (K:=K) (by omega) (by omega) (way:=way)
 obtain⟨b0,⟨l,g⟩,w0,w2,w1⟩:=a.fl
 have hv:bv 9218868437227405312*2^(K - 1074)≤x*2^(e+K).toNat:=by
  obtain⟨j,hj⟩:∃ j:Nat,j=2046:=⟨_,rfl⟩
  have e1:bv 9218868437227405312=4503599627370496*2^j:=by
   have:=bv_at (j:=j) (q:=4503599627370496) (.inr ⟨by omega,by omega⟩)
   rw[show j*4503599627370496+4503599627370496=9218868437227405312 by omega] at this
   exact this
  have e2:(4503599627370496:Nat)=2^52:=by rfl
  rw[e1,e2,←Nat.pow_add,←Nat.pow_add]
  have h1:=le_bl h0
  have hb:bl x≠0:=by unfold bl;rw[if_neg h0];omega
  refine Nat.le_trans (Nat.pow_le_pow_right (by omega) (show 52+j+(K - 1074)≤bl x - 1+(e+K).toNat by omega)) ?_
  rw[Nat.pow_add]
  exact Nat.mul_le_mul_right _ h1
 have hb:=floor_mono (Nat.le_refl (x*2^(e+K).toNat)) hv g
 rcases hw with hw|hw|hw
 ·rw[w0 hw];exact hb
 ·rw[w1 hw]
  split
  ·exact hb
  ·split <;> omega
 ·rw[w2 hw];split <;> omega
theorem isR_up {x:Nat} {E e':Int} (h1:e'≤E) (hj : -1074≤e') (hlt:x*2^(E - e').toNat<9007199254740992) (hge:e' = -1074∨4503599627370496≤x*2^(E - e').toNat):IsR x E (e'+1074).toNat (x*2^(E - e').toNat) 0:=by
 refine⟨fun K a b=>?_,by rw[Nat.pow_zero,Nat.div_one];exact hlt,?_⟩
 ·rw[Nat.mul_assoc,←Nat.pow_add,show(E - e').toNat+(((e'+1074).toNat:Int) - 1074 - ((0:Nat):Int)+K).toNat=(E+K).toNat by omega]
 ·rw[Nat.pow_zero,Nat.div_one]
  rcases hge with h|h
  ·exact .inl (by omega)
  ·exact .inr h
theorem isR_down {x:Nat} {E e':Int} (h1:E≤e') (hj : -1074≤e') (hlt:x / 2^(e' - E).toNat<9007199254740992) (hge:e' = -1074∨4503599627370496≤x / 2^(e' - E).toNat):IsR x E (e'+1074).toNat x (e' - E).toNat:=by
 refine⟨fun K a b=>?_,hlt,?_⟩
 ·rw[show(((e'+1074).toNat:Int) - 1074 - ((e' - E).toNat:Int)+K).toNat=(E+K).toNat by omega]
 ·rcases hge with h|h
  ·exact .inl (by omega)
  ·exact .inr h
theorem rnd_k0 (X way:Nat) (hw:way=0∨way=1∨way=2):rnd X 0 (way:Int)=X:=by
 rcases hw with rfl|rfl|rfl
 ·rw[rnd0,Nat.pow_zero,Nat.div_one]
 ·rw[rnd1,Nat.pow_zero,Nat.div_one,Nat.mod_one,if_pos (by omega)]
 ·rw[rnd2,Nat.pow_zero,Nat.div_one,Nat.mod_one,if_pos rfl]
def tE (x:Nat) (E:Int):Int:=if(bl x:Int)+E - 53 < -1074 then -1074 else(bl x:Int)+E - 53
theorem bl_ne {x:Nat} (h0:x≠0):1≤bl x:=by unfold bl;rw[if_neg h0];omega
theorem bdy_big {x:Nat} {E:Int} (h0:x≠0) (ht:1024<(bl x:Int)+E) {way:Nat} (hw:way=0∨way=1∨way=2):bdy x E way=if way=0 then 9218868437227405311 else 9218868437227405312:=by
 unfold bdy
 rw[if_neg h0,if_neg (by have:=rwb_big (e:=E) h0 ht hw;omega)]
theorem up_lt {x k:Nat} (h0:x≠0) (h:bl x+k≤53):x*2^k<9007199254740992:=by
 have h1:=lt_bl x
 have h2:x*2^k<2^bl x*2^k:=Nat.mul_lt_mul_of_pos_right h1 (Nat.two_pow_pos _)
 rw[←Nat.pow_add] at h2
 exact Nat.lt_of_lt_of_le h2 (Nat.pow_le_pow_right (by omega) h:_≤2^53)
theorem up_ge {x k:Nat} (h0:x≠0) (h:bl x+k=53):4503599627370496≤x*2^k:=by
 have h1:=le_bl h0
 have hb:=bl_ne h0
 have h2:2^(bl x - 1)*2^k≤x*2^k:=Nat.mul_le_mul_right _ h1
 rw[←Nat.pow_add,show bl x - 1+k=52 by omega] at h2
 exact h2
theorem dn_lt {x k:Nat} (h:bl x≤k+53):x / 2^k<9007199254740992:=by
 have h1:=lt_bl x
 refine(Nat.div_lt_iff_lt_mul (Nat.two_pow_pos _)).2 (Nat.lt_of_lt_of_le h1 ?_)
 rw[show(9007199254740992:Nat)=2^53 by rfl,←Nat.pow_add]
 exact Nat.pow_le_pow_right (by omega) (by omega)
theorem dn_ge {x k:Nat} (h0:x≠0) (h:bl x=k+53):4503599627370496≤x / 2^k:=by
 have h1:=le_bl h0
 refine(Nat.le_div_iff_mul_le (Nat.two_pow_pos _)).2 (Nat.le_trans (Nat.le_of_eq ?_) h1)
 rw[show(4503599627370496:Nat)=2^52 by rfl,←Nat.pow_add,show 52+k=bl x - 1 by omega]
theorem tE_bounds {x:Nat} {E:Int} (ht:(bl x:Int)+E≤1024) : -1074≤tE x E∧tE x E≤971:=by unfold tE;split <;> omega
theorem body_eq {e':Int} {q n:Nat} (h1 : -1074≤e') (h2:e'≤971) (hq:q<9007199254740992) (hge:e' = -1074∨4503599627370496≤q):(e'+1074).toNat*4503599627370496+q<9218868437227405312:=by omega
theorem bdy_up {x:Nat} {E:Int} (h0:x≠0) (ht:(bl x:Int)+E≤1024) (hE:tE x E≤E) {way:Nat} (hw:way=0∨way=1∨way=2) :
  bdy x E way=(tE x E+1074).toNat*4503599627370496+x*2^(E - tE x E).toNat∧x*2^(E - tE x E).toNat<9007199254740992∧(tE x E = -1074∨4503599627370496≤x*2^(E - tE x E).toNat):=by
 have hb:=tE_bounds ht
 have hlt:x*2^(E - tE x E).toNat<9007199254740992:=up_lt h0 (by unfold tE at hE ⊢; split at hE <;> omega)
 have hge:tE x E = -1074∨4503599627370496≤x*2^(E - tE x E).toNat:=by
  by_cases h:tE x E = -1074
  ·exact .inl h
  ·exact .inr (up_ge h0 (by unfold tE at h hE ⊢; split at h <;> omega))
 refine⟨?_,hlt,hge⟩
 have hR:=isR_up (x:=x) hE hb.1 hlt hge
 have hr:=hR.rwb h0 hw
 rw[rnd_k0 _ _ hw] at hr
 unfold bdy
 rw[if_neg h0,hr,if_pos (body_eq hb.1 hb.2 hlt hge (n:=0))]
theorem bdy_tiny {x:Nat} {E:Int} (h0:x≠0) (ht:(bl x:Int)+E < -1075) {way:Nat} (hw:way=0∨way=1∨way=2):bdy x E way=if way=2 then 1 else 0:=by
 have hb:=bl_ne h0
 have hx:=lt_bl x
 have hx2:2*x<2^(-1074 - E).toNat:=by
  have:2^(bl x+1)≤2^(-1074 - E).toNat:=Nat.pow_le_pow_right (by omega) (by omega)
  rw[Nat.pow_succ] at this;omega
 have hq:x / 2^(-1074 - E).toNat=0:=Nat.div_eq_of_lt (by omega)
 have hm:x % 2^(-1074 - E).toNat=x:=Nat.mod_eq_of_lt (by omega)
 have hR:=isR_down (x:=x) (E:=E) (e' := -1074) (by omega) (by omega) (by rw[hq];omega) (.inl rfl)
 have hr:=hR.rwb h0 hw
 have h2:rwb x E way=if way=2 then 1 else 0:=by
  rw[hr]
  rcases hw with rfl|rfl|rfl
  ·rw[rnd0,hq,if_neg (by decide)];rfl
  ·rw[rnd1,hq,hm,if_pos hx2,if_neg (by decide)];rfl
  ·rw[rnd2,hq,hm,if_neg h0,if_pos rfl];rfl
 unfold bdy
 rw[if_neg h0,h2,if_pos (by split <;> omega)]
def dnU (x k way:Nat):Bool:=(way==2)||((way==1)&&((x / 2^(k - 1) % 2==1)&&(!(x % 2^(k - 1)==0)||(x / 2^k % 2==1))))
theorem rnd_dn {x k way:Nat} (hk:1≤k) (hx:x % 2=1) (hw:way=0∨way=1∨way=2):rnd x k (way:Int)=if dnU x k way then x / 2^k+1 else x / 2^k:=by
 obtain⟨n,rfl⟩:∃ n,k=n+1:=⟨k - 1,by omega⟩
 have hodd:x % 2^(n+1)≠0:=fun h=>by
  have:=Nat.dvd_of_mod_eq_zero h
  have h2:2 ∣ x:=Nat.dvd_trans ⟨2^n,by rw[Nat.pow_succ,Nat.mul_comm]⟩ this
  omega
 have hpos:0<2^n:=Nat.two_pow_pos n
 have hsplit:x % 2^(n+1)=x % 2^n+2^n*(x / 2^n % 2):=by rw[Nat.pow_succ,Nat.mod_mul]
 have hpw:2^(n+1)=2*2^n:=by rw[Nat.pow_succ,Nat.mul_comm]
 have hlt:x % 2^n<2^n:=Nat.mod_lt _ hpos
 have hb2:x / 2^n % 2=0∨x / 2^n % 2=1:=by omega
 unfold dnU
 rw[Nat.add_sub_cancel]
 rcases hw with rfl|rfl|rfl
 ·rw[rnd0];simp
 ·rw[rnd1]
  simp only[show((1:Nat)==2)=false by rfl,show((1:Nat)==1)=true by rfl,Bool.false_or,Bool.true_and]
  rw[hsplit,hpw]
  rcases hb2 with hb|hb
  ·rw[hb,Nat.mul_zero,Nat.add_zero,if_pos (by omega)];simp
  ·rw[hb,Nat.mul_one,if_neg (by omega)]
   by_cases hz:x % 2^n=0
   ·rw[hz,if_pos (by omega)]
    rcases Nat.mod_two_eq_zero_or_one (x / (2*2^n))with h|h <;> rw[h] <;> simp
   ·rw[if_neg (by omega)]
    have:(x % 2^n==0)=false:=by simpa using hz
    rw[this];simp
 ·rw[rnd2,if_neg hodd];simp
theorem bdy_dn {x:Nat} {E:Int} (h0:x % 2=1) (ht:(bl x:Int)+E≤1024) (hE:E<tE x E) {way:Nat} (hw:way=0∨way=1∨way=2) {n:Nat}
  (hn:n=if dnU x (tE x E - E).toNat way then x / 2^(tE x E - E).toNat+1 else x / 2^(tE x E - E).toNat) :
  n≤9007199254740992∧(tE x E = -1074∨4503599627370496≤n)∧bdy x E way=(tE x E+1074).toNat*4503599627370496+n∧x / 2^(tE x E - E).toNat<9007199254740992:=by
 have hx0:x≠0:=by omega
 have hb:=tE_bounds ht
 have hlt:x / 2^(tE x E - E).toNat<9007199254740992:=dn_lt (by unfold tE at hE ⊢; split at hE <;> omega)
 have hge:tE x E = -1074∨4503599627370496≤x / 2^(tE x E - E).toNat:=by
  by_cases h:tE x E = -1074
  ·exact .inl h
  ·exact .inr (dn_ge hx0 (by unfold tE at h hE ⊢; split at h <;> omega))
 have hR:=isR_down (x:=x) (E:=E) (by omega) hb.1 hlt hge
 have hr:=hR.rwb hx0 hw
 rw[rnd_dn (by omega) h0 hw,←hn] at hr
 have hn1:n≤9007199254740992:=by rw[hn];split <;> omega
 have hn2:tE x E = -1074∨4503599627370496≤n:=by
  rcases hge with h|h
  ·exact .inl h
  ·right;rw[hn];split <;> omega
 refine⟨hn1,hn2,?_,hlt⟩
 unfold bdy
 rw[if_neg hx0,hr]
 by_cases h1:(tE x E+1074).toNat*4503599627370496+n<9218868437227405312
 ·rw[if_pos h1]
 ·rw[if_neg h1]
  have h2:(tE x E+1074).toNat*4503599627370496+n=9218868437227405312:=by omega
  have h3:n≠x / 2^(tE x E - E).toNat:=by
   intro h;rw[←h] at hlt;omega
  have h4:way≠0:=by
   intro h;subst h
   apply h3;rw[hn];simp[dnU]
  rw[if_neg h4,h2]
theorem bdy_shl {x n:Nat} {e:Int} {way:Nat} (hw:way=0∨way=1∨way=2):bdy (x*2^n) e way=bdy x (e+n) way:=by
 by_cases h0:x=0
 ·subst h0;rw[Nat.zero_mul];unfold bdy;rw[if_pos rfl,if_pos rfl]
 have h1:x*2^n≠0:=Nat.mul_ne_zero h0 (by have:=Nat.two_pow_pos n;omega)
 obtain⟨K,hK⟩:∃ K:Nat,K=1200+(64 - e).toNat+n:=⟨_,rfl⟩
 have a:=rwb_rounds (e:=e) h1 (K:=K) (by omega) (by omega) (way:=way)
 have b:=rwb_rounds (e:=e+n) h0 (K:=K) (by omega) (by omega) (way:=way)
 have hv:x*2^n*2^(e+(K:Int)).toNat=x*2^(e+(n:Int)+(K:Int)).toNat:=by
  rw[Nat.mul_assoc,←Nat.pow_add,show n+(e+(K:Int)).toNat=(e+(n:Int)+(K:Int)).toNat by omega]
 have h2:=Rounds.mono hw a b (Nat.le_of_eq hv)
 have h3:=Rounds.mono hw b a (Nat.le_of_eq hv.symm)
 have h4:rwb (x*2^n) e way=rwb x (e+n) way:=Nat.le_antisymm h2 h3
 unfold bdy
 rw[if_neg h0,if_neg h1,h4]
theorem tf_shl {s:Bool} {x n:Nat} {e m:Int} (hm:1≤m∧m≤3):tfF s true (x*2^n) e m=tfF s true x (e+n) m:=by
 rw[tf_bdy hm,tf_bdy hm,bdy_shl (wyN_ways s m)]
theorem rsignb (s:Bool) (w:World):Calls Tryz.prog 108 #[.bool s] w fun r w'=>r=.returned (.int .i64 (if s then 1 else 0))∧w'=w:=by
 cases s
 ·go_enter Tryz.func108,Tryz.ntmps108
  go_wp2
  go_ret
  exact⟨rfl,rfl⟩
 ·go_enter Tryz.func108,Tryz.ntmps108
  go_wp2
  go_ret
  exact⟨rfl,rfl⟩
theorem cinf_m (w:World):Calls Tryz.prog 107 #[.int .i64 (-1)] w fun r w'=>r=.returned (.float .f64 18442240474082181120)∧w'=w:=by
 have hb:=Ie.run_frombits
 go_enter Tryz.func107,Tryz.ntmps107
 go_wp2
 go_ret
 exact⟨rfl,rfl⟩
theorem bd_or {E M:Nat} (hE:E≤2046) (h1:4503599627370496≤M) (h2:M<9007199254740992):bits BinOp.or IntKind.u64 ((E:Int)*4503599627370496) (bits BinOp.and IntKind.u64 (M:Int) 4503599627370495)=((E*4503599627370496+(M - 4503599627370496):Nat):Int):=by
 have e:=Nat.two_pow_add_eq_or_of_lt (i:=52) (b:=M - 4503599627370496) (by rw[show(2^52:Nat)=4503599627370496 from rfl];omega) E
 rw[show(2^52:Nat)=4503599627370496 from rfl] at e
 rw[and_mant M (by omega),show M % 4503599627370496=M - 4503599627370496 by omega,show(E:Int)*4503599627370496=((4503599627370496*E:Nat):Int) by omega,u64_or_nat _ _ (by omega) (by omega),←e,Nat.mul_comm]
theorem sg_or {b:Nat} (h:b<9223372036854775808):bits BinOp.or IntKind.u64 (b:Int) 9223372036854775808=((b+9223372036854775808:Nat):Int):=by
 have e:=u64_or_nat b 9223372036854775808 (by omega) (by decide)
 rw[show((9223372036854775808:Nat):Int)=9223372036854775808 from rfl] at e
 rw[e,Nat.or_comm,Nat.add_comm]
 congr 1
 have:=Nat.two_pow_add_eq_or_of_lt (i:=63) (b:=b) (by rw[show(2^63:Nat)=9223372036854775808 from rfl];exact h) 1
 rw[←(show 2^63*1=9223372036854775808 from rfl),←this]
theorem rbuild_1 (s:Bool) (M E:Nat) (w:World) (hm:4503599627370496≤M) (hm2:M<9007199254740992) (hE:1≤E) (hE2:E≤2046):Calls Tryz.prog 109 #[.bool s,.int .u64 (M:Nat),.int .i64 ((E:Int) - 1075)] w fun r w'=>r=.returned (.float .f64 (sig s ((E - 1)*4503599627370496+M)))∧w'=w:=by
 have hb:=Ie.run_frombits
 have hm':(4503599627370496:Int)≤(M:Int):=by omega
 have e1:=bd_or hE2 hm hm2
 have hlt:E*4503599627370496+(M - 4503599627370496)<9223372036854775808:=by omega
 have e2:=sg_or hlt
 obtain⟨bd,hbd⟩:∃ bd:Nat,bd=E*4503599627370496+(M - 4503599627370496):=⟨_,rfl⟩
 rw[←hbd] at e1 e2
 obtain⟨b2,hb2⟩:∃ b2:Nat,b2=(E - 1)*4503599627370496+M:=⟨_,rfl⟩
 have hR:bd=b2:=by omega
 have HR:Hid (bd=b2):=hR
 rw[←hb2]
 clear hR hb2 hlt
 clear hbd
 have hE3:(E:Int) - 1075+1075=E:=by omega
 cases s
 ·go_enter Tryz.func109,Tryz.ntmps109
  go_wp2
  go_ret
  refine⟨congrArg Ending.returned (congrArg (Value.float .f64) ?_),rfl⟩
  try simp only[hE3,e1]
  try rw[Int.toNat_natCast]
  rw[HR.out];rfl
 ·go_enter Tryz.func109,Tryz.ntmps109
  go_wp2
  go_ret
  refine⟨congrArg Ending.returned (congrArg (Value.float .f64) ?_),rfl⟩
  try simp only[hE3,e1,e2]
  try rw[Int.toNat_natCast]
  try rw[HR.out]
  try rfl
theorem rbuild_0 (s:Bool) (M:Nat) (e:Int) (w:World) (hm2:M<4503599627370496):Calls Tryz.prog 109 #[.bool s,.int .u64 (M:Nat),.int .i64 e] w fun r w'=>r=.returned (.float .f64 (sig s M))∧w'=w:=by
 have hb:=Ie.run_frombits
 have hm3:¬ (4503599627370496:Int)≤(M:Int):=by omega
 have e2:=sg_or (b:=M) (by omega)
 cases s
 ·go_enter Tryz.func109,Tryz.ntmps109
  go_wp2
  go_ret
  exact⟨rfl,rfl⟩
 ·go_enter Tryz.func109,Tryz.ntmps109
  go_wp2
  go_ret
  refine⟨congrArg Ending.returned (congrArg (Value.float .f64) ?_),rfl⟩
  try simp only[e2]
  try rfl
theorem rbuild {s:Bool} {M:Nat} {e:Int} {w:World} (hM:M<9007199254740992) (he : -1074≤e) (he2:e≤971) (hge:e = -1074∨4503599627370496≤M):Calls Tryz.prog 109 #[.bool s,.int .u64 (M:Nat),.int .i64 e] w fun r w'=>r=.returned (.float .f64 (sig s ((e+1074).toNat*4503599627370496+M)))∧w'=w:=by
 by_cases h:4503599627370496≤M
 ·obtain⟨E,hE⟩:∃ E:Nat,e=(E:Int) - 1075:=⟨(e+1075).toNat,by omega⟩
  subst hE
  rw[show((E:Int) - 1075+1074).toNat=E - 1 by omega]
  exact rbuild_1 s M E w h hM (by omega) (by omega)
 ·obtain rfl:e = -1074:=by omega
  rw[show((-1074:Int)+1074).toNat*4503599627370496+M=M by omega]
  exact rbuild_0 s M _ w (by omega)
theorem sm_two {d d1:Nat} (h0:d<B) (h1:d1<B):bits BinOp.or IntKind.u64 (IntKind.u64.wrap (IntKind.u64.wrap (d1:Int)*4294967296)) (IntKind.u64.wrap (d:Int))=((d+d1*B:Nat):Int):=by
 have e:IntKind.u64.wrap (IntKind.u64.wrap (d1:Int)*4294967296)=((d1*B:Nat):Int):=by
  rw[wrap_d h1,IntKind.wrap_u64];unfold B at *; omega
 rw[wrap_d h0,e,u64_or_nat _ _ (by unfold B at *; omega) (by unfold B at *; omega),or_add (p:=32) (by rw[←B_two];exact Nat.mul_mod_left ..) h0,Nat.add_comm]
theorem rsmall {v:Value} {X:Nat} {w:World} (h:Ir w v X) (hX:X<9007199254740992):Calls Tryz.prog 110 #[v] w fun r w'=>r=.returned (.int .u64 (X:Nat))∧w'=w:=by
 obtain⟨ao,cap,rfl,hc,b,o,hb,hcell⟩:=h
 have hl:dlen X≤2:=(dlen_le 2 X).2 (by unfold B;omega)
 have hX2:X=dg X 0+dg X 1*B:=by
  unfold dg B;omega
 have h0:=dg_lt X 0
 have h1:=dg_lt X 1
 by_cases e0:dlen X=0
 ·obtain rfl:=dlen_eq_zero.1 e0
  rw[dlen_zero] at *
  clear hcell hb h0 h1 hX2 hl e0
  go_enter Tryz.func110,Tryz.ntmps110
  go_wp2
  go_ret
  exact⟨rfl,rfl⟩
 ·obtain rfl:=hb (by omega)
  have g0:=hcell 0 (by omega)
  rw[Nat.add_zero] at g0
  by_cases e1:dlen X=1
  ·have hz:dg X 1=0:=dg_past (by omega)
   have HE:Hid (dg X 0=X):=(by rw[hz] at hX2;omega:dg X 0=X)
   rw[e1] at *
   generalize dg X 0=d at *
   have HD:Hid (d<B):=h0
   clear hcell hb h0 h1 hX2 hl e0 e1 hz
   go_enter Tryz.func110,Tryz.ntmps110
   go_wp2
   go_ret
   refine⟨congrArg Ending.returned (congrArg (Value.int .u64) ?_),rfl⟩
   have hd:=HD.out
   have e:=u64_or_nat 0 d (by decide) (by unfold B at hd;omega)
   show bits BinOp.or IntKind.u64 0 (IntKind.u64.wrap (d:Int))=_
   rw[wrap_d hd]
   refine e.trans ?_
   rw[Nat.zero_or,HE.out]
  ·have e2:dlen X=2:=by omega
   have g1:=hcell 1 (by omega)
   have HE:Hid (X=dg X 0+dg X 1*B):=hX2
   rw[e2] at *
   generalize dg X 0=d at *
   generalize dg X 1=d1 at *
   have HD:Hid (d<B∧d1<B):=⟨h0,h1⟩
   clear hcell hb h0 h1 hX2 hl e0 e1 e2
   go_enter Tryz.func110,Tryz.ntmps110
   go_wp2
   go_ret
   refine⟨congrArg Ending.returned (congrArg (Value.int .u64) ?_),rfl⟩
   rw[HE.out]
   exact sm_two HD.out.1 HD.out.2
theorem below_drewN3 {g:Nat} {a b:World} (h:Below g a b) (n:Nat):Below g a (b.drewN n):=h.trans ⟨rfl,rfl,rfl,Nat.le_refl _,fun _ _=>rfl⟩
theorem and1_32 {d X:Nat} (h:d=X % B):(bits BinOp.and IntKind.u32 (d:Int) 1==1)=(X % 2==1):=by
 have hB:B=4294967296:=rfl
 have h2:=u32_and_nat d 1 (by rw[h,hB];omega) (by decide)
 rw[show((1:Nat):Int)=1 from rfl] at h2
 rw[h2,Nat.and_one_is_mod,h,show X % B % 2=X % 2 by rw[hB];omega]
 rcases Nat.mod_two_eq_zero_or_one X with h|h <;> rw[h] <;> rfl
theorem and1_64 {X:Nat} (h:X<9007199254740992):(bits BinOp.and IntKind.u64 (X:Int) 1==1)=(X % 2==1):=by
 have h2:=u64_and_nat X 1 (by omega) (by decide)
 rw[show((1:Nat):Int)=1 from rfl] at h2
 rw[h2,Nat.and_one_is_mod]
 rcases Nat.mod_two_eq_zero_or_one X with h|h <;> rw[h] <;> rfl
theorem q53 {e:Int} (h : -1074≤e):Hid ((e+1+1074).toNat*4503599627370496+4503599627370496=(e+1074).toNat*4503599627370496+(9007199254740991+1)):=by
 have h1:(e+1+1074).toNat=(e+1074).toNat+1:=by omega
 show _=_
 rw[h1];omega
theorem neq53 {n:Nat} (h:n≠9007199254740992):((n:Int)==9007199254740992)=false:=by
 have:((n:Nat):Int)≠9007199254740992:=by omega
 simpa using this
theorem tE_max (x:Nat) (E:Int):max ((bl x:Int)+E - 53) (-1074)=tE x E:=by unfold tE;split <;> omega
theorem kdn {w:World} {ua:Option Addr} {uc x:Nat} (h:At w ua (dlen x) x) (hc:dlen x≤uc) (hl:dlen x≤100000) {i:Int} {k:Nat} (hi:i=(k:Int)) (hk:k≤10000000) :
  ∀ W,Bw w W→Calls Tryz.prog 97 #[.slice ua (dlen x) uc,.int .i64 i] W fun r w'=>∃ ao n cap,r=.returned (.tuple #[.slice ao n cap,.bool (decide (x % 2^k=0))])∧Ir w' (.slice ao n cap) (x / 2^k)∧Bw W w':=by
 intro W hW
 subst hi
 refine(rdown (v:=.slice ua (dlen x) uc) (⟨ua,uc,rfl,hc,h.later hW⟩:Ir W _ x) k (by omega) (by omega)).mono ?_
 rintro r w' ⟨ao,cap',rfl,hA,hc',hB⟩
 exact⟨_,_,_,rfl,⟨ao,cap',rfl,hc',hA⟩,hB⟩
theorem rto {neg:Bool} {ua:Option Addr} {uc x:Nat} {ea m:Int} {w:World} (h:At w ua (dlen x) x) (hc:dlen x≤uc) (hodd:x % 2=1) (hl:dlen x≤100000) (he1 : -4000000≤ea) (he2:ea≤4000000) (hm:1≤m∧m≤3) :
  Calls Tryz.prog 63 #[.agg #[.bool neg,.slice ua (dlen x) uc,.int .i64 ea],.int .i64 m] w fun r w'=>r=.returned (.float .f64 (sig neg (bdy x ea (wyN neg m))))∧Bw w w':=by
 have h0:x≠0:=by omega
 have hn0:((dlen x:Int)==0)=false:=len_ne (n:=0) h0
 have hbl:bl x≤32*dlen x:=bl_le_dlen x
 have hb1:=bl_ne h0
 obtain⟨ow,how⟩:∃ ow:Bool,(m==3 && !neg||m==1&&neg)=ow:=⟨_,rfl⟩
 obtain⟨nr,hnr⟩:∃ nr:Bool,(m==2)=nr:=⟨_,rfl⟩
 obtain⟨wy,hwy⟩:∃ y,wyN neg m=y:=⟨_,rfl⟩
 have hm3:m=1∨m=2∨m=3:=by omega
 have hY:wy=0∧nr=false∧ow=false∨wy=1∧nr=true∧ow=false∨wy=2∧nr=false∧ow=true:=by
  rcases hm3 with rfl|rfl|rfl <;> cases neg <;> subst how hnr hwy <;> simp[wyN]
 rw[hwy]
 have hw:wy=0∨wy=1∨wy=2:=by omega
 obtain⟨F,hF⟩:∃ F,F=sig neg (bdy x ea wy):=⟨_,rfl⟩
 rw[←hF]
 obtain⟨t,ht⟩:∃ t:Int,t=(bl x:Int)+ea:=⟨_,rfl⟩
 have ht3 : -4000000≤t:=by omega
 have ht4:t≤7200000:=by omega
 have kH:∀ W,Bw w W→Calls Tryz.prog 95 #[.agg #[.bool neg,.slice ua (dlen x) uc,.int .i64 ea]] W fun r w'=>r=.returned (.int .i64 t)∧Bw W w':=fun W hW=>by rw[ht];exact rhigh (h.later hW) h0 (by omega) ⟨he1,he2⟩
 have HN:Hid (At w ua (dlen x) x∧dlen x≤uc∧dlen x≤100000):=⟨h,hc,hl⟩
 have HT:Hid (t=(bl x:Int)+ea∧x % 2=1∧F=sig neg (bdy x ea wy)∧(wy=0∨wy=1∨wy=2)):=⟨ht,hodd,hF,hw⟩
 have HY:Hid (wy=0∧nr=false∧ow=false∨wy=1∧nr=true∧ow=false∨wy=2∧nr=false∧ow=true):=hY
 have HO:Hid ((m==3 && !neg||m==1&&neg)=ow):=how
 have HM:Hid (m=1∨m=2∨m=3):=hm3
 clear h hc hodd hl hwy hm hm3 hbl hb1 hF ht hw hY how h0
 obtain⟨un,hun⟩:∃ n,n=dlen x:=⟨_,rfl⟩
 rw[←hun] at hn0 kH HN ⊢
 have HU:Hid (un=dlen x):=hun
 clear hun
 obtain⟨W,hW⟩:∃ W,W=w.alloc (.cells #[.bool neg,.slice ua un uc,.int .i64 ea] 45):=⟨_,rfl⟩
 have hBW:Bw w W:=by rw[hW];exact(Below.refl _ _).alloc (Nat.le_refl _) _
 have hA:W.heap[w.heap.size]?=some (.cells #[.bool neg,.slice ua un uc,.int .i64 ea] 45 (0,0)):=by rw[hW];exact heap_alloc_new _ _
 have hsz:W.heap.size=w.heap.size+1:=by rw[hW];simp
 have HX:Hid (Bw w W):=hBW
 have HK:Hid (∀ w',Bw W w'→w'.cell? ⟨w.heap.size,0,none⟩=some (.bool neg)∧w'.cell? ⟨w.heap.size,1,none⟩=some (.slice ua un uc)∧w'.cell? ⟨w.heap.size,2,none⟩=some (.int .i64 ea)):=fun w' hb=>(box_cells29 (box_later hA hb (by omega))).1
 have k:=kH W hBW
 obtain⟨a0,a1,a2⟩:=HK.out W (Below.refl _ _)
 clear kH hA hsz hBW
 go_enter Tryz.func63,Tryz.ntmps63
 go_upto_region 4 with fail
 rw[←hW]
 clear hW
 go_cut [6] from 22 to 36 (fun v wx=>v=.bool ow∧wx=W)
 case first =>
  have hO:=HO.out
  rcases HM.out with rfl|rfl|rfl <;> cases neg <;> go_wp2 <;> go_meet <;> exact⟨by rw[←hO];rfl,rfl⟩
 case rest =>
  obtain⟨rfl,rfl⟩:=hcut
  clear HO HM
  go_wp2_with fail
  refine k.mono ?_
  rintro r w1 ⟨rfl,hb1⟩
  have HB1:Hid (Bw wc w1):=hb1
  clear k a0 a1 a2
  obtain⟨a0,a1,a2⟩:=HK.out w1 hb1
  clear hb1
  have kS0:∀ W,Calls Tryz.prog 108 #[.bool false] W fun r w'=>r=.returned (.int .i64 0)∧w'=W:=fun W=>rsignb false W
  have kS1:∀ W,Calls Tryz.prog 108 #[.bool true] W fun r w'=>r=.returned (.int .i64 1)∧w'=W:=fun W=>rsignb true W
  have kI0:=c61
  have kI1:=cinf_m
  by_cases hbig:1024<t
  ·obtain⟨e1,e2,e3,e4⟩:=HT.out
   rw[bdy_big (by omega) (by omega) e4] at e3
   have HF:Hid (F=sig neg (if wy=0 then 9218868437227405311 else 9218868437227405312)):=e3
   have kB:∀ W,Calls Tryz.prog 109 #[.bool neg,.int .u64 9007199254740991,.int .i64 971] W fun r w'=>r=.returned (.float .f64 (sig neg 9218868437227405311))∧w'=W:=fun W=>rbuild (M:=9007199254740991) (e:=971) (by omega) (by omega) (by omega) (.inr (by omega))
   clear e1 e2 e3 e4 HT
   cases neg <;> rcases HY.out with ⟨rfl,rfl,rfl⟩|⟨rfl,rfl,rfl⟩|⟨rfl,rfl,rfl⟩
   all_goals go_wp2_with (first|(go_at_call 108;(first|(with_reducible refine(kS0 _).mono ?_)|(with_reducible refine(kS1 _).mono ?_));rintro r w2 ⟨rfl,rfl⟩)|(go_at_call 107;(first|(with_reducible refine(kI0 _).mono ?_)|(with_reducible refine(kI1 _).mono ?_));rintro r w2 ⟨rfl,rfl⟩)|(go_at_call 109;refine(kB _).mono ?_;rintro r w2 ⟨rfl,rfl⟩))
   all_goals go_ret
   all_goals exact⟨by rw[HF.out];rfl,HX.out.trans (HB1.out.mono HX.out.size)⟩
  ·obtain⟨e2,he⟩:∃ e2,e2=tE x ea:=⟨_,rfl⟩
   have hmx:max (t - 53) (-1074)=e2:=by rw[HT.out.1,he];exact tE_max x ea
   have htb:(bl x:Int)+ea≤1024:=by have:=HT.out.1;omega
   obtain⟨h21,h22⟩:=tE_bounds htb
   rw[←he] at h21 h22
   have HE:Hid (e2=tE x ea∧(bl x:Int)+ea≤1024):=⟨he,htb⟩
   clear he htb
   by_cases hge:e2≤ea
   ·obtain⟨k,hk⟩:∃ k:Nat,k=(ea - e2).toNat:=⟨_,rfl⟩
    obtain⟨hb,hlt,hg⟩:=bdy_up (by have:=HT.out.2.1;omega) HE.out.2 (by rw[←HE.out.1];exact hge) HT.out.2.2.2
    rw[←HE.out.1,←hk] at hb hlt hg
    obtain⟨X,hX⟩:∃ X,X=x*2^k:=⟨_,rfl⟩
    rw[←hX] at hb hlt hg
    have HF:Hid (F=sig neg ((e2+1074).toNat*4503599627370496+X)):=by have:=HT.out.2.2.1;rw[hb] at this;exact this
    have kU:Calls Tryz.prog 82 #[.slice ua un uc,.int .i64 (ea - e2)] w1 fun r w'=>∃ v,r=.returned v∧Ir w' v X∧Bw w1 w':=by
     rw[show ea - e2=(k:Int) by omega,hX]
     have hu:=HU.out
     obtain⟨q1,q2,q3⟩:=HN.out
     subst hu
     exact rup ⟨ua,uc,rfl,q2,q1.later (HX.out.trans (HB1.out.mono HX.out.size))⟩ k (by omega) (by omega)
    have kB:∀ W,Calls Tryz.prog 109 #[.bool neg,.int .u64 (X:Nat),.int .i64 e2] W fun r w'=>r=.returned (.float .f64 (sig neg ((e2+1074).toNat*4503599627370496+X)))∧w'=W:=fun W=>rbuild hlt h21 h22 hg
    have HL:Hid (X<9007199254740992):=hlt
    clear hb hlt hg hX hk HT
    go_wp2_with (first|(go_at_call 82;refine kU.mono ?_;rintro r w2 ⟨v,rfl,hv,hb2⟩))
    have HB2:Hid (Bw wc w2):=HB1.out.trans (hb2.mono HB1.out.size)
    obtain⟨a0,a1,a2⟩:=HK.out w2 HB2.out
    have kS:∀ d,Calls Tryz.prog 110 #[v] (w2.drewN d) fun r w'=>r=.returned (.int .u64 X)∧w'=w2.drewN d:=fun d=>rsmall (hv.later ⟨rfl,rfl,rfl,Nat.le_refl _,fun _ _=>rfl⟩) HL.out
    clear kU hb2 hv
    go_quiet (first|(go_at_call 110;refine Calls.quiet_of_same (kS _))|(go_at_call 109;refine Calls.quiet_of_same (kB _)))
    go_wp2
    go_ret
    exact⟨by rw[HF.out];rfl,HX.out.trans ((below_drewN3 HB2.out _).mono HX.out.size)⟩
   ·by_cases ht2:t < -1075
    ·obtain⟨e1,e2',e3,e4⟩:=HT.out
     rw[bdy_tiny (by omega) (by omega) e4] at e3
     have HF:Hid (F=sig neg (if wy=2 then 1 else 0)):=e3
     have kB0:∀ W,Calls Tryz.prog 109 #[.bool neg,.int .u64 0,.int .i64 (-1074)] W fun r w'=>r=.returned (.float .f64 (sig neg 0))∧w'=W:=fun W=>rbuild_0 neg 0 (-1074) W (by omega)
     have kB1:∀ W,Calls Tryz.prog 109 #[.bool neg,.int .u64 1,.int .i64 (-1074)] W fun r w'=>r=.returned (.float .f64 (sig neg 1))∧w'=W:=fun W=>rbuild_0 neg 1 (-1074) W (by omega)
     clear e1 e2' e3 e4 HT
     rcases HY.out with ⟨rfl,rfl,rfl⟩|⟨rfl,rfl,rfl⟩|⟨rfl,rfl,rfl⟩
     all_goals go_wp2_with (first|(go_at_call 109;(first|(with_reducible refine(kB0 _).mono ?_)|(with_reducible refine(kB1 _).mono ?_));rintro r w2 ⟨rfl,rfl⟩))
     all_goals go_ret
     all_goals exact⟨by rw[HF.out];rfl,HX.out.trans (HB1.out.mono HX.out.size)⟩
    ·obtain⟨k,hk⟩:∃ k:Nat,k=(e2 - ea).toNat:=⟨_,rfl⟩
     have hi:e2 - ea=(k:Int):=by omega
     have hi2:e2 - ea - 1=((k - 1:Nat):Int):=by omega
     have hkb:k≤10000000:=by omega
     obtain⟨N,hN⟩:∃ n,n=if dnU x (tE x ea - ea).toNat wy then x / 2^(tE x ea - ea).toNat+1 else x / 2^(tE x ea - ea).toNat:=⟨_,rfl⟩
     obtain⟨hn1,hn2,hb,hX⟩:=bdy_dn HT.out.2.1 HE.out.2 (by rw[←HE.out.1];omega) HT.out.2.2.2 hN
     rw[←HE.out.1,←hk] at hN hX
     rw[←HE.out.1] at hb hn2
     have HF:Hid (F=sig neg ((e2+1074).toNat*4503599627370496+N)):=by have:=HT.out.2.2.1;rw[hb] at this;exact this
     have hu:=HU.out
     obtain⟨q1,q2,q3⟩:=HN.out
     subst hu
     have q3':=q3
     have HD1:Hid (∀ V,Bw w V→Calls Tryz.prog 97 #[.slice ua (dlen x) uc,.int .i64 (e2 - ea)] V fun r w'=>∃ ao n cap,r=.returned (.tuple #[.slice ao n cap,.bool (decide (x % 2^k=0))])∧Ir w' (.slice ao n cap) (x / 2^k)∧Bw V w'):=kdn q1 q2 q3 hi hkb
     have HD2:Hid (∀ V,Bw w V→Calls Tryz.prog 97 #[.slice ua (dlen x) uc,.int .i64 (e2 - ea - 1)] V fun r w'=>∃ ao n cap,r=.returned (.tuple #[.slice ao n cap,.bool (decide (x % 2^(k - 1)=0))])∧Ir w' (.slice ao n cap) (x / 2^(k - 1))∧Bw V w'):=kdn q1 q2 q3 hi2 (by omega)
     have hod:=and1_64 hX
     have HG:Hid (N≤9007199254740992∧(e2 = -1074∨4503599627370496≤N)∧N=if dnU x k wy then x / 2^k+1 else x / 2^k):=⟨hn1,hn2,hN⟩
     clear HT HN HU q1 q2 q3 hi hi2 hn1 hn2 hb hN hk hkb
     unfold dnU at HG
     obtain⟨X,hXe⟩:∃ X,X=x / 2^k:=⟨_,rfl⟩
     obtain⟨Y,hYe⟩:∃ X,X=x / 2^(k - 1):=⟨_,rfl⟩
     obtain⟨hf,hfe⟩:∃ b:Bool,b=(Y % 2==1):=⟨_,rfl⟩
     obtain⟨od,hode⟩:∃ b:Bool,b=(X % 2==1):=⟨_,rfl⟩
     obtain⟨ex,hex⟩:∃ b:Bool,b=decide (x % 2^(k - 1)=0):=⟨_,rfl⟩
     rw[show(x % 2^(k - 1)==0)=decide (x % 2^(k - 1)=0)from rfl,←hex,←hXe,←hYe,←hfe,←hode] at HG
     rw[←hXe] at hX hod HD1
     rw[←hode] at hod
     rw[←hex,←hYe] at HD2
     have HFE:Hid (hf=(Y % 2==1)∧dlen Y≤100000):=⟨hfe,by rw[hYe];exact Nat.le_trans (dlen_mono (Nat.div_le_self _ _)) q3'⟩
     clear q3'
     generalize dlen x=un at *
     generalize decide (x % 2^k=0)=ex0 at HD1
     clear hXe hYe hfe hode hex
     have kD1:=HD1.out w1 (HX.out.trans (HB1.out.mono HX.out.size))
     go_wp2_with fail
     refine kD1.mono ?_
     rintro r w2 ⟨ao1,n1,c1,rfl,hv,hb2⟩
     have HB2:Hid (Bw wc w2):=HB1.out.trans (hb2.mono HB1.out.size)
     clear a0 a1 a2 kD1
     obtain⟨a0,a1,a2⟩:=HK.out w2 HB2.out
     have kS:=rsmall hv hX
     have kD2:=HD2.out w2 (HX.out.trans (HB2.out.mono HX.out.size))
     clear hv hb2 HD1 HD2 HB1
     go_wp2_with fail
     refine kS.mono ?_
     rintro r w3 ⟨rfl,rfl⟩
     clear kS
     go_wp2_with fail
     refine kD2.mono ?_
     rintro r w4 ⟨ao2,n2,c2,rfl,hv,hb4⟩
     have HB4:Hid (Bw wc w4):=HB2.out.trans (hb4.mono HB2.out.size)
     clear a0 a1 a2 kD2 hb4 HB2
     obtain⟨a0,a1,a2⟩:=HK.out w4 HB4.out
     have HV:Hid (Ir w4 (.slice ao2 n2 c2) Y):=hv
     clear hv
     go_upto_region 21 with fail
     go_cut [15] from 106 to 115 (fun v wx=>v=.bool hf∧wx=w4)
     case first =>
      obtain⟨ao,cap,hve,hcap,b,o,hb,hcell⟩:=HV.out
      injection hve with e1 e2 e3
      subst e1 e3
      obtain⟨hf',hly⟩:=HFE.out
      by_cases hz:0<dlen Y
      ·obtain rfl:=hb hz
       have c0:=hcell 0 hz
       rw[Nat.add_zero] at c0
       have hdd:=and1_32 (d:=dg Y 0) (X:=Y) (dg_zero _)
       have hpos:(0:Int)<(n2:Int):=by omega
       have hcp:n2≤1000000000:=by omega
       generalize dg Y 0=dd at *
       clear hcell HV HFE hb hz e2 hcap
       go_wp2
       go_meet
       exact⟨by rw[hf'],rfl⟩
      ·have hy:Y=0:=dlen_eq_zero.1 (by omega)
       have hneg:¬ (0:Int)<(n2:Int):=by omega
       have hf0:hf=false:=by rw[hf',hy];rfl
       subst hf0
       clear hcell HV HFE hb hz e2 hcap
       go_wp2
       go_meet
       exact⟨rfl,rfl⟩
     case rest =>
      obtain⟨rfl,rfl⟩:=hcut
      clear HV HFE
      obtain⟨up,hup⟩:∃ b:Bool,b=(wy==2||wy==1&&(hf&&(!ex||od))):=⟨_,rfl⟩
      rw[←hup] at HG
      have HU:Hid (up=(wy==2||wy==1&&(hf&&(!ex||od)))):=hup
      clear hup
      go_upto_region 22 with fail
      go_cut [131] from 116 to 131 (fun v wx=>v=.bool up∧wx=wc)
      case first =>
       have g3:=HU.out
       clear HG
       rcases HY.out with ⟨rfl,rfl,rfl⟩|⟨rfl,rfl,rfl⟩|⟨rfl,rfl,rfl⟩
       ·go_wp2
        go_meet
        exact⟨by rw[g3];rfl,rfl⟩
       ·cases hf <;> cases ex <;> cases od <;> go_wp2 <;> go_meet <;> exact⟨by rw[g3];rfl,rfl⟩
       ·go_wp2
        go_meet
        exact⟨by rw[g3];rfl,rfl⟩
      case rest =>
       obtain⟨rfl,rfl⟩:=hcut
       clear HU HY hod
       obtain⟨g1,g2,g3⟩:=HG.out
       clear HG
       cases up
       ·have hN:N=X:=g3
        rw[hN] at g2 HF
        have kB:∀ W,Calls Tryz.prog 109 #[.bool neg,.int .u64 (X:Nat),.int .i64 e2] W fun r w'=>r=.returned (.float .f64 (sig neg ((e2+1074).toNat*4503599627370496+X)))∧w'=W:=fun W=>rbuild hX h21 h22 g2
        have hne:=neq53 (n:=X) (by omega)
        clear g1 g2 g3 hN
        go_wp2_with (first|(go_at_call 109;refine(kB _).mono ?_;rintro r w5 ⟨rfl,rfl⟩))
        go_ret
        exact⟨by rw[HF.out];rfl,HX.out.trans (HB4.out.mono HX.out.size)⟩
       ·have hN:N=X+1:=g3
        rw[hN] at g1 g2 HF
        clear g3
        by_cases h53:X+1=9007199254740992
        ·obtain rfl:X=9007199254740991:=by omega
         by_cases h971:e2=971
         ·subst h971
          clear g1 g2 hN
          cases neg
          all_goals go_wp2_with (first|(go_at_call 108;(first|(with_reducible refine(kS0 _).mono ?_)|(with_reducible refine(kS1 _).mono ?_));rintro r w5 ⟨rfl,rfl⟩)|(go_at_call 107;(first|(with_reducible refine(kI0 _).mono ?_)|(with_reducible refine(kI1 _).mono ?_));rintro r w5 ⟨rfl,rfl⟩))
          all_goals go_ret
          all_goals exact⟨by rw[HF.out];rfl,HX.out.trans (HB4.out.mono HX.out.size)⟩
         ·have h970:e2+1≤971:=by omega
          have kB:∀ W,Calls Tryz.prog 109 #[.bool neg,.int .u64 4503599627370496,.int .i64 (e2+1)] W fun r w'=>r=.returned (.float .f64 (sig neg ((e2+1+1074).toNat*4503599627370496+4503599627370496)))∧w'=W:=fun W=>rbuild (M:=4503599627370496) (by omega) (by omega) h970 (.inr (Nat.le_refl _))
          have HQ:=q53 h21
          clear g1 g2 hN h971
          go_wp2_with (first|(go_at_call 109;refine(kB _).mono ?_;rintro r w5 ⟨rfl,rfl⟩))
          go_ret
          exact⟨by rw[HF.out,←HQ.out];rfl,HX.out.trans (HB4.out.mono HX.out.size)⟩
        ·have kB:∀ W,Calls Tryz.prog 109 #[.bool neg,.int .u64 ((X:Int)+1),.int .i64 e2] W fun r w'=>r=.returned (.float .f64 (sig neg ((e2+1074).toNat*4503599627370496+(X+1))))∧w'=W:=fun W=>rbuild (M:=X+1) (by omega) h21 h22 g2
         have hne:((X:Int)+1==9007199254740992)=false:=neq53 (n:=X+1) h53
         clear g1 g2 hN h53
         go_wp2_with (first|(go_at_call 109;refine(kB _).mono ?_;rintro r w5 ⟨rfl,rfl⟩))
         go_ret
         exact⟨by rw[HF.out];rfl,HX.out.trans (HB4.out.mono HX.out.size)⟩
end Go.Proofs.YtapooodfgcjoaaaGreat
namespace Go.Proofs.YtapooodfgcjoaaaGreat
open Go.RowKit
structure ParZ (W0:World) (a0:Act) (m n:Nat) (slot bx:Nat→Tmp) (vs:Nat→Nat) (T:TypeId) (zs:Array Value) (V:Nat→World→Value→Prop) (listed:Array Bool) (a:Act) (w:World):Prop where
 below:Bw W0 w
 size:a.tmps.size=a0.tmps.size
 defers:a.defers=a0.defers
 other:∀ s,(∀ j,j<m→s≠slot j)→(∀ k,k<n→s≠bx k)→a.tmps[s]?=a0.tmps[s]?
 val:∀ j,j<m→listed.getD j false=true→∃ u,a.tmps[slot j]?=some u∧V j w u
 box:∀ k,k<n→listed.getD (m+k) false=true→∃ g cs,a.tmps[bx k]?=some (.pointer (some ⟨g,0,none⟩))∧W0.heap.size≤g∧w.heap[g]?=some (.cells cs T (0,0))∧cs.size=zs.size ∧
  (listed.getD (m+n+k) false=true→a.tmps[slot (vs k)]?=some (.agg cs))∧(listed.getD (m+n+k) false=false→cs=zs)
 apart:∀ k k',k<n→k'<n→k≠k'→listed.getD (m+k) false=true→listed.getD (m+k') false=true→a.tmps[bx k]?≠a.tmps[bx k']?
 stored:∀ k,k<n→listed.getD (m+n+k) false=true→listed.getD (m+k) false=true∧listed.getD (vs k) false=true
theorem parz_region {P:Program} {ops:Array Oper} {Q:Exit→Act→World→Prop} {id:Nat} (hm:P.follows .mixedOrders=true) (m n:Nat) (slot bx:Nat→Tmp) (vs:Nat→Nat) (dep:Nat→List Nat) (T:TypeId) (zs:Array Value)
  (W0:World) (a0:Act) (V:Nat→World→Value→Prop) (hsz:ops.size=m+n+n)
  (hord:∀ (i:Nat) (o:Oper),ops[i]?=some o→∀ e ∈ o.after,e.on<i)
  (hV1:∀ j w w' u,Bw w w'→V j w u→V j w' u)
  (hV2:∀ j w u g cs',w.heap[g]?=some (.cells zs T (0,0))→V j w u→V j (w.setRow g cs') u)
  (hVs:∀ k,k<n→∀ w u,V (vs k) w u→∃ cs:Array Value,u=.agg cs∧cs.size=zs.size∧cs.all (·.oneCell')=true)
  (hdep:∀ j,j<m→∀ j' ∈ dep j,j'<m∧∀ o,ops[j]?=some o→∃ e ∈ o.after,e.on=j'∧Region.binds .any e=true)
  (hA:∀ j,j<m→∀ (a:Act) (w:World),Bw W0 w→(∀ s,(∀ j,j<m→s≠slot j)→(∀ k,k<n→s≠bx k)→a.tmps[s]?=a0.tmps[s]?) →
   (∀ j' ∈ dep j,∃ u,a.tmps[slot j']?=some u∧V j' w u)→wpOp P ops Q j (fun a' w'=>∃ u,a'=a.put (some (slot j)) u∧V j w' u∧Bw w w') a w)
  (hal:∀ k,k<n→∃ o,ops[m+k]?=some o∧o.guard=none∧o.op=.alloc T∧o.dst=some (bx k))
  (hz:∀ w,(zeroValue T).run P w=.ok (.agg zs) w) (hi:(P.info? T).map (·.size)=some zs.size)
  (hst:∀ k,k<n→vs k<m∧∃ o,ops[m+n+k]?=some o∧o.guard=none∧o.op=.store T (.tmp (bx k)) (.tmp (slot (vs k)))∧o.dst=none∧(∃ e ∈ o.after,e.on=m+k∧Region.binds .any e=true)∧(∃ e ∈ o.after,e.on=vs k∧Region.binds .any e=true))
  (hin:∀ j,j<m→slot j<a0.tmps.size) (hbin:∀ k,k<n→bx k<a0.tmps.size)
  (hinj:∀ j j',j<m→j'<m→slot j=slot j'→j=j') (hbinj:∀ k k',k<n→k'<n→bx k=bx k'→k=k') (hsb:∀ j k,j<m→k<n→slot j≠bx k)
  (hQ:∀ (u:Nat→Value) (g:Nat→Nat) (a:Act) (w:World),Bw W0 w→(∀ j,j<m→a.tmps[slot j]?=some (u j)∧V j w (u j)) →
   (∀ k,k<n→a.tmps[bx k]?=some (.pointer (some ⟨g k,0,none⟩))∧W0.heap.size≤g k∧∃ cs,u (vs k)=.agg cs∧w.heap[g k]?=some (.cells cs T (0,0))) →
   a.tmps.size=a0.tmps.size→a.defers=a0.defers→(∀ s,(∀ j,j<m→s≠slot j)→(∀ k,k<n→s≠bx k)→a.tmps[s]?=a0.tmps[s]?)→Q .normal a w) :
  (Code.region id ops true).wp P Q a0 W0:=by
 refine wp_region_any hm ?_
 refine wpAny_inv (ParZ W0 a0 m n slot bx vs T zs V) ?_ ?_ ops.size _ a0 _ (by simp) ?_ (by simp)
 ·-- a step
  intro listed a w i hl hI hr
  obtain⟨hun,o,ho,hall⟩:=mem_ready.1 hr
  have hunf:=not_listed hun
  have hio:i<ops.size:=(Array.getElem?_eq_some_iff.1 ho).1
  have hil:i<listed.size:=by omega
  have hset:=listed_set hil
  have hne:∀ x,x≠i→(listed.setIfInBounds i true).getD x false=listed.getD x false:=fun x hx=>getD_set_ne false (Ne.symm hx)
  have hpart:i<m∨(∃ k,k<n∧i=m+k)∨∃ k,k<n∧i=m+n+k:=by
   by_cases h1:i<m
   ·exact .inl h1
   ·by_cases h2:i<m+n
    ·exact .inr (.inl ⟨i - m,by omega,by omega⟩)
    ·exact .inr (.inr ⟨i - m - n,by omega,by omega⟩)
  rcases hpart with him|⟨k,hk,rfl⟩|⟨k,hk,rfl⟩
  ·refine wpOp_mono ?_ (hA i him a w hI.below hI.other fun j' hj'=>?_)
   ·rintro a' w' ⟨u,rfl,hu,hb⟩
    have hlt:slot i<a.tmps.size:=by rw[hI.size];exact hin i him
    refine⟨hI.below.trans (hb.mono hI.below.size),by rw[put_size];exact hI.size,by rw[put_defers];exact hI.defers,fun s h1 h2=>?_,fun j hj h1=>?_,fun k hk h1=>?_,fun k k' hk hk' hkk h1 h2=>?_,fun k hk h1=>?_⟩
    ·rw[put_get_ne (h1 i him)];exact hI.other s h1 h2
    ·by_cases e:j=i
     ·subst e;exact⟨u,put_get hlt,hu⟩
     ·rw[hne j e] at h1
      obtain⟨u',g1,g2⟩:=hI.val j hj h1
      exact⟨u',by rw[put_get_ne (fun e2=>e (hinj j i hj him e2))];exact g1,hV1 _ _ _ _ hb g2⟩
    ·rw[hne _ (by omega)] at h1
     obtain⟨g,cs,g1,g2,g3,g4,g5,g6⟩:=hI.box k hk h1
     refine⟨g,cs,by rw[put_get_ne (Ne.symm (hsb i k him hk))];exact g1,g2,(hb.block g (Array.getElem?_eq_some_iff.1 g3).1).trans g3,g4,fun h2=>?_,fun h2=>g6 (by rw[←hne (m+n+k) (by omega)];exact h2)⟩
     rw[hne _ (by omega)] at h2
     have h3:=(hI.stored k hk h2).2
     have h4:vs k≠i:=fun e=>by rw[e,hunf] at h3;cases h3
     rw[put_get_ne (fun e2=>h4 (hinj _ _ (hst k hk).1 him e2))]
     exact g5 h2
    ·rw[hne _ (by omega)] at h1 h2
     rw[put_get_ne (Ne.symm (hsb i k him hk)),put_get_ne (Ne.symm (hsb i k' him hk'))]
     exact hI.apart k k' hk hk' hkk h1 h2
    ·rw[hne _ (by omega)] at h1
     obtain⟨h2,h3⟩:=hI.stored k hk h1
     exact⟨by rw[hne _ (by omega)];exact h2,getD_set_true h3⟩
   ·obtain⟨h1,h2⟩:=hdep i him j' hj'
    obtain⟨e,he,rfl,hbd⟩:=h2 o ho
    exact hI.val _ h1 (hall e he hbd)
  ·obtain⟨o',ho',hg,hop,hd⟩:=hal k hk
   refine step_alloc ho' hg hop hz ?_
   rw[hd]
   have hlt:bx k<a.tmps.size:=by rw[hI.size];exact hbin k hk
   have hbw:Below w.heap.size w (w.alloc (.cells zs T)):=(Below.refl _ _).alloc (Nat.le_refl _) _
   refine⟨hI.below.trans (hbw.mono hI.below.size),by rw[put_size];exact hI.size,by rw[put_defers];exact hI.defers,fun s h1 h2=>?_,fun j hj h1=>?_,fun k1 hk1 h1=>?_,fun k1 k2 hk1 hk2 hkk h1 h2=>?_,fun k1 hk1 h1=>?_⟩
   ·rw[put_get_ne (h2 k hk)];exact hI.other s h1 h2
   ·rw[hne j (by omega)] at h1
    obtain⟨u',g1,g2⟩:=hI.val j hj h1
    exact⟨u',by rw[put_get_ne (hsb j k hj hk)];exact g1,hV1 _ _ _ _ hbw g2⟩
   ·by_cases e:k1=k
    ·subst e
     refine⟨w.heap.size,zs,put_get hlt,hI.below.size,heap_alloc_new _ _,rfl,fun h2=>?_,fun _=>rfl⟩
     rw[hne _ (by omega)] at h2
     have:=(hI.stored k1 hk h2).1
     rw[hunf] at this
     cases this
    ·rw[hne _ (by omega)] at h1
     obtain⟨g,cs,g1,g2,g3,g4,g5,g6⟩:=hI.box k1 hk1 h1
     refine⟨g,cs,by rw[put_get_ne (fun e2=>e (hbinj _ _ hk1 hk e2))];exact g1,g2,(hbw.block g (Array.getElem?_eq_some_iff.1 g3).1).trans g3,g4,fun h2=>?_,fun h2=>g6 (by rw[←hne (m+n+k1) (by omega)];exact h2)⟩
     rw[hne _ (by omega)] at h2
     rw[put_get_ne (hsb _ k (hst k1 hk1).1 hk)]
     exact g5 h2
   ·have old:∀ k1,k1<n→k1≠k→listed.getD (m+k1) false=true→a.tmps[bx k1]?≠some (.pointer (some ⟨w.heap.size,0,none⟩)):=fun k1 hk1 e h1 h2=>by
     obtain⟨g,cs,g1,g2,g3,g4,g5,g6⟩:=hI.box k1 hk1 h1
     have hlt:=(Array.getElem?_eq_some_iff.1 g3).1
     rw[g1] at h2
     simp only[Option.some.injEq,Value.pointer.injEq,Addr.mk.injEq] at h2
     omega
    by_cases e1:k1=k
    ·subst e1
     rw[hne _ (by omega)] at h2
     rw[put_get hlt,put_get_ne (fun e2=>hkk (hbinj _ _ hk hk2 e2.symm))]
     exact Ne.symm (old k2 hk2 (Ne.symm hkk) h2)
    ·rw[hne _ (by omega)] at h1
     by_cases e2:k2=k
     ·subst e2
      rw[put_get hlt,put_get_ne (fun e2=>e1 (hbinj _ _ hk1 hk e2))]
      exact old k1 hk1 e1 h1
     ·rw[hne _ (by omega)] at h2
      rw[put_get_ne (fun e3=>e1 (hbinj _ _ hk1 hk e3)),put_get_ne (fun e3=>e2 (hbinj _ _ hk2 hk e3))]
      exact hI.apart k1 k2 hk1 hk2 hkk h1 h2
   ·rw[hne _ (by omega)] at h1
    obtain⟨h2,h3⟩:=hI.stored k1 hk1 h1
    exact⟨getD_set_true h2,getD_set_true h3⟩
  ·obtain⟨hvm,o',ho',hg,hop,hd,⟨e1,he1,hon1,hb1⟩,e2,he2,hon2,hb2⟩:=hst k hk
   obtain rfl:o'=o:=Option.some.inj (ho'.symm.trans ho)
   have l1:=hall e1 he1 hb1
   have l2:=hall e2 he2 hb2
   rw[hon1] at l1
   rw[hon2] at l2
   obtain⟨u,hu1,hu2⟩:=hI.val _ hvm l2
   obtain⟨cs,rfl,hc1,hc2⟩:=hVs k hk w u hu2
   obtain⟨g,old,g1,g2,g3,g4,g5,g6⟩:=hI.box k hk l1
   rw[g6 hunf] at g3 g4
   refine step_store ho' hg hop g1 hu1 g3 (by rw[hc1];exact hi) (by omega) hc2 ?_
   rw[hd]
   show ParZ W0 a0 m n slot bx vs T zs V _ a _
   refine⟨below_row hI.below g2 _,hI.size,hI.defers,hI.other,fun j hj h1=>?_,fun k1 hk1 h1=>?_,fun k1 k2 hk1 hk2 hkk h1 h2=>?_,fun k1 hk1 h1=>?_⟩
   ·rw[hne j (by omega)] at h1
    obtain⟨u',q1,q2⟩:=hI.val j hj h1
    exact⟨u',q1,hV2 _ _ _ _ _ g3 q2⟩
   ·rw[hne _ (by omega)] at h1
    by_cases e:k1=k
    ·subst e
     exact⟨g,cs,g1,g2,setRow_heap w g _ cs T _ g3,hc1,fun _=>hu1,fun h2=>by rw[hset] at h2;cases h2⟩
    ·obtain⟨g',cs',q1,q2,q3,q4,q5,q6⟩:=hI.box k1 hk1 h1
     have hgg:g'≠g:=fun e2=>by
      subst e2
      exact hI.apart k1 k hk1 hk e h1 l1 (q1.trans g1.symm)
     refine⟨g',cs',q1,q2,(setRow_other w g g' cs hgg).trans q3,q4,fun h2=>?_,fun h2=>q6 (by rw[←hne (m+n+k1) (by omega)];exact h2)⟩
     rw[hne _ (by omega)] at h2
     exact q5 h2
   ·rw[hne _ (by omega)] at h1 h2
    exact hI.apart k1 k2 hk1 hk2 hkk h1 h2
   ·by_cases e:k1=k
    ·subst e
     exact⟨getD_set_true l1,getD_set_true l2⟩
    ·rw[hne _ (by omega)] at h1
     obtain⟨h2,h3⟩:=hI.stored k1 hk1 h1
     exact⟨getD_set_true h2,getD_set_true h3⟩
 ·-- the end: all have come up
  intro listed a w hl hI hr
  have hfull:∀ i,i<ops.size→listed.getD i false=true:=by
   intro i
   induction i using Nat.strongRecOn with
   | _ i ih =>
    intro hi
    cases hx:listed.getD i false with
    | true=>rfl
    | false =>
     exfalso
     have ho:ops[i]?=some ops[i]:=Array.getElem?_eq_getElem hi
     have:i ∈ Region.ready .any ops listed:=by
      refine mem_ready.2 ⟨?_,ops[i],ho,fun e he _=>ih e.on (hord i _ ho e he) (Nat.lt_trans (hord i _ ho e he) hi)⟩
      have hil:i<listed.size:=by omega
      simp only[Array.getD_eq_getD_getElem?,Array.getElem?_eq_getElem hil,Option.getD_some] at hx ⊢
      exact hx
     rw[hr] at this
     cases this
  have hval:∀ j,∃ u,j<m→a.tmps[slot j]?=some u∧V j w u:=fun j=>by
   by_cases hj:j<m
   ·obtain⟨u,h1,h2⟩:=hI.val j hj (hfull j (by omega))
    exact⟨u,fun _=>⟨h1,h2⟩⟩
   ·exact⟨undef,fun h=>absurd h hj⟩
  obtain⟨u,hu⟩:=Classical.axiomOfChoice hval
  have hbox:∀ k,∃ g,k<n→a.tmps[bx k]?=some (.pointer (some ⟨g,0,none⟩))∧W0.heap.size≤g∧∃ cs,u (vs k)=.agg cs∧w.heap[g]?=some (.cells cs T (0,0)):=fun k=>by
   by_cases hk:k<n
   ·obtain⟨g,cs,h1,h2,h3,h4,h5,-⟩:=hI.box k hk (hfull _ (by omega))
    refine⟨g,fun _=>⟨h1,h2,cs,?_,h3⟩⟩
    have h6:=h5 (hfull _ (by omega))
    rw[(hu _ (hst k hk).1).1] at h6
    exact Option.some.inj h6
   ·exact⟨0,fun h=>absurd h hk⟩
  obtain⟨g,hg⟩:=Classical.axiomOfChoice hbox
  exact hQ u g a w hI.below hu hg hI.size hI.defers hI.other
 ·-- the start
  have h0:∀ x,(Array.replicate ops.size false).getD x false=true→False:=fun x h=>by
   simp[Array.getD_eq_getD_getElem?,Array.getElem?_replicate] at h
   split at h <;> simp at h
  exact⟨(Below.refl _ _).drew,rfl,rfl,fun _ _ _=>rfl,fun j _ h=>(h0 _ h).elim,fun k _ h=>(h0 _ h).elim,fun k k' _ _ _ h=>(h0 _ h).elim,fun k _ h=>(h0 _ h).elim⟩
structure ParX (pv pa ps:Nat→Nat) (W0:World) (a0:Act) (m n:Nat) (slot bx:Nat→Tmp) (vs:Nat→Nat) (T:TypeId) (zs:Array Value) (V:Nat→World→Value→Prop) (listed:Array Bool) (a:Act) (w:World):Prop where
 below:Bw W0 w
 size:a.tmps.size=a0.tmps.size
 defers:a.defers=a0.defers
 other:∀ s,(∀ j,j<m→s≠slot j)→(∀ k,k<n→s≠bx k)→a.tmps[s]?=a0.tmps[s]?
 val:∀ j,j<m→listed.getD (pv j) false=true→∃ u,a.tmps[slot j]?=some u∧V j w u
 box:∀ k,k<n→listed.getD (pa k) false=true→∃ g cs,a.tmps[bx k]?=some (.pointer (some ⟨g,0,none⟩))∧W0.heap.size≤g∧w.heap[g]?=some (.cells cs T (0,0))∧cs.size=zs.size ∧
  (listed.getD (ps k) false=true→a.tmps[slot (vs k)]?=some (.agg cs))∧(listed.getD (ps k) false=false→cs=zs)
 apart:∀ k k',k<n→k'<n→k≠k'→listed.getD (pa k) false=true→listed.getD (pa k') false=true→a.tmps[bx k]?≠a.tmps[bx k']?
 stored:∀ k,k<n→listed.getD (ps k) false=true→listed.getD (pa k) false=true∧listed.getD (pv (vs k)) false=true
theorem parx_region {P:Program} {ops:Array Oper} {Q:Exit→Act→World→Prop} {id:Nat} (hm:P.follows .mixedOrders=true) (pv pa ps:Nat→Nat) (m n:Nat) (slot bx:Nat→Tmp) (vs:Nat→Nat) (dep:Nat→List Nat) (T:TypeId) (zs:Array Value)
  (W0:World) (a0:Act) (V:Nat→World→Value→Prop) (hall0:∀ i,i<ops.size→(∃ j,j<m∧i=pv j)∨(∃ k,k<n∧i=pa k)∨∃ k,k<n∧i=ps k)
  (hpv:∀ j,j<m→pv j<ops.size) (hpa:∀ k,k<n→pa k<ops.size) (hps:∀ k,k<n→ps k<ops.size)
  (hvv:∀ j j',j<m→j'<m→pv j=pv j'→j=j') (haa:∀ k k',k<n→k'<n→pa k=pa k'→k=k') (hss:∀ k k',k<n→k'<n→ps k=ps k'→k=k')
  (hva:∀ j k,j<m→k<n→pv j≠pa k) (hvs:∀ j k,j<m→k<n→pv j≠ps k) (has:∀ k k',k<n→k'<n→pa k≠ps k')
  (hord:∀ (i:Nat) (o:Oper),ops[i]?=some o→∀ e ∈ o.after,Region.binds .any e=true→e.on<i)
  (hV1:∀ j w w' u,Bw w w'→V j w u→V j w' u)
  (hV2:∀ j w u g cs',w.heap[g]?=some (.cells zs T (0,0))→V j w u→V j (w.setRow g cs') u)
  (hVs:∀ k,k<n→∀ w u,V (vs k) w u→∃ cs:Array Value,u=.agg cs∧cs.size=zs.size∧cs.all (·.oneCell')=true)
  (hdep:∀ j,j<m→∀ j' ∈ dep j,j'<m∧∀ o,ops[pv j]?=some o→∃ e ∈ o.after,e.on=pv j'∧Region.binds .any e=true)
  (hA:∀ j,j<m→∀ (a:Act) (w:World),Bw W0 w→(∀ s,(∀ j,j<m→s≠slot j)→(∀ k,k<n→s≠bx k)→a.tmps[s]?=a0.tmps[s]?) →
   (∀ j' ∈ dep j,∃ u,a.tmps[slot j']?=some u∧V j' w u)→wpOp P ops Q (pv j) (fun a' w'=>∃ u,a'=a.put (some (slot j)) u∧V j w' u∧Bw w w') a w)
  (hal:∀ k,k<n→∃ o,ops[pa k]?=some o∧o.guard=none∧o.op=.alloc T∧o.dst=some (bx k))
  (hz:∀ w,(zeroValue T).run P w=.ok (.agg zs) w) (hi:(P.info? T).map (·.size)=some zs.size)
  (hst:∀ k,k<n→vs k<m∧∃ o,ops[ps k]?=some o∧o.guard=none∧o.op=.store T (.tmp (bx k)) (.tmp (slot (vs k)))∧o.dst=none∧(∃ e ∈ o.after,e.on=pa k∧Region.binds .any e=true)∧(∃ e ∈ o.after,e.on=pv (vs k)∧Region.binds .any e=true))
  (hin:∀ j,j<m→slot j<a0.tmps.size) (hbin:∀ k,k<n→bx k<a0.tmps.size)
  (hinj:∀ j j',j<m→j'<m→slot j=slot j'→j=j') (hbinj:∀ k k',k<n→k'<n→bx k=bx k'→k=k') (hsb:∀ j k,j<m→k<n→slot j≠bx k)
  (hQ:∀ (u:Nat→Value) (g:Nat→Nat) (a:Act) (w:World),Bw W0 w→(∀ j,j<m→a.tmps[slot j]?=some (u j)∧V j w (u j)) →
   (∀ k,k<n→a.tmps[bx k]?=some (.pointer (some ⟨g k,0,none⟩))∧W0.heap.size≤g k∧∃ cs,u (vs k)=.agg cs∧w.heap[g k]?=some (.cells cs T (0,0))) →
   (∀ k k',k<n→k'<n→k≠k'→g k≠g k')→a.tmps.size=a0.tmps.size→a.defers=a0.defers→(∀ s,(∀ j,j<m→s≠slot j)→(∀ k,k<n→s≠bx k)→a.tmps[s]?=a0.tmps[s]?)→Q .normal a w) :
  (Code.region id ops true).wp P Q a0 W0:=by
 refine wp_region_any hm ?_
 refine wpAny_inv (ParX pv pa ps W0 a0 m n slot bx vs T zs V) ?_ ?_ ops.size _ a0 _ (by simp) ?_ (by simp)
 ·-- a step
  intro listed a w i hl hI hr
  obtain⟨hun,o,ho,hall⟩:=mem_ready.1 hr
  have hunf:=not_listed hun
  have hio:i<ops.size:=(Array.getElem?_eq_some_iff.1 ho).1
  have hil:i<listed.size:=by omega
  have hset:=listed_set hil
  have hne:∀ x,x≠i→(listed.setIfInBounds i true).getD x false=listed.getD x false:=fun x hx=>getD_set_ne false (Ne.symm hx)
  rcases hall0 i hio with ⟨i,him,rfl⟩|⟨k,hk,rfl⟩|⟨k,hk,rfl⟩
  ·have nv:∀ j,j<m→j≠i→pv j≠pv i:=fun j hj e e2=>e (hvv j i hj him e2)
   have na:∀ k,k<n→pa k≠pv i:=fun k hk e=>hva i k him hk e.symm
   have ns:∀ k,k<n→ps k≠pv i:=fun k hk e=>hvs i k him hk e.symm
   refine wpOp_mono ?_ (hA i him a w hI.below hI.other fun j' hj'=>?_)
   ·rintro a' w' ⟨u,rfl,hu,hb⟩
    have hlt:slot i<a.tmps.size:=by rw[hI.size];exact hin i him
    refine⟨hI.below.trans (hb.mono hI.below.size),by rw[put_size];exact hI.size,by rw[put_defers];exact hI.defers,fun s h1 h2=>?_,fun j hj h1=>?_,fun k hk h1=>?_,fun k k' hk hk' hkk h1 h2=>?_,fun k hk h1=>?_⟩
    ·rw[put_get_ne (h1 i him)];exact hI.other s h1 h2
    ·by_cases e:j=i
     ·subst e;exact⟨u,put_get hlt,hu⟩
     ·rw[hne _ (nv j hj e)] at h1
      obtain⟨u',g1,g2⟩:=hI.val j hj h1
      exact⟨u',by rw[put_get_ne (fun e2=>e (hinj j i hj him e2))];exact g1,hV1 _ _ _ _ hb g2⟩
    ·rw[hne _ (na k hk)] at h1
     obtain⟨g,cs,g1,g2,g3,g4,g5,g6⟩:=hI.box k hk h1
     refine⟨g,cs,by rw[put_get_ne (Ne.symm (hsb i k him hk))];exact g1,g2,(hb.block g (Array.getElem?_eq_some_iff.1 g3).1).trans g3,g4,fun h2=>?_,fun h2=>g6 (by rw[←hne (ps k) (ns k hk)];exact h2)⟩
     rw[hne _ (ns k hk)] at h2
     have h3:=(hI.stored k hk h2).2
     have h4:vs k≠i:=fun e=>by rw[e,hunf] at h3;cases h3
     rw[put_get_ne (fun e2=>h4 (hinj _ _ (hst k hk).1 him e2))]
     exact g5 h2
    ·rw[hne _ (na k hk)] at h1
     rw[hne _ (na k' hk')] at h2
     rw[put_get_ne (Ne.symm (hsb i k him hk)),put_get_ne (Ne.symm (hsb i k' him hk'))]
     exact hI.apart k k' hk hk' hkk h1 h2
    ·rw[hne _ (ns k hk)] at h1
     obtain⟨h2,h3⟩:=hI.stored k hk h1
     exact⟨getD_set_true h2,getD_set_true h3⟩
   ·obtain⟨h1,h2⟩:=hdep i him j' hj'
    obtain⟨e,he,h3,hbd⟩:=h2 o ho
    exact hI.val _ h1 (by rw[←h3];exact hall e he hbd)
  ·have nv:∀ j,j<m→pv j≠pa k:=fun j hj=>hva j k hj hk
   have na:∀ k1,k1<n→k1≠k→pa k1≠pa k:=fun k1 hk1 e e2=>e (haa k1 k hk1 hk e2)
   have ns:∀ k1,k1<n→ps k1≠pa k:=fun k1 hk1 e=>has k k1 hk hk1 e.symm
   obtain⟨o',ho',hg,hop,hd⟩:=hal k hk
   refine step_alloc ho' hg hop hz ?_
   rw[hd]
   have hlt:bx k<a.tmps.size:=by rw[hI.size];exact hbin k hk
   have hbw:Below w.heap.size w (w.alloc (.cells zs T)):=(Below.refl _ _).alloc (Nat.le_refl _) _
   refine⟨hI.below.trans (hbw.mono hI.below.size),by rw[put_size];exact hI.size,by rw[put_defers];exact hI.defers,fun s h1 h2=>?_,fun j hj h1=>?_,fun k1 hk1 h1=>?_,fun k1 k2 hk1 hk2 hkk h1 h2=>?_,fun k1 hk1 h1=>?_⟩
   ·rw[put_get_ne (h2 k hk)];exact hI.other s h1 h2
   ·rw[hne _ (nv j hj)] at h1
    obtain⟨u',g1,g2⟩:=hI.val j hj h1
    exact⟨u',by rw[put_get_ne (hsb j k hj hk)];exact g1,hV1 _ _ _ _ hbw g2⟩
   ·by_cases e:k1=k
    ·subst e
     refine⟨w.heap.size,zs,put_get hlt,hI.below.size,heap_alloc_new _ _,rfl,fun h2=>?_,fun _=>rfl⟩
     rw[hne _ (ns k1 hk)] at h2
     have:=(hI.stored k1 hk h2).1
     rw[hunf] at this
     cases this
    ·rw[hne _ (na k1 hk1 e)] at h1
     obtain⟨g,cs,g1,g2,g3,g4,g5,g6⟩:=hI.box k1 hk1 h1
     refine⟨g,cs,by rw[put_get_ne (fun e2=>e (hbinj _ _ hk1 hk e2))];exact g1,g2,(hbw.block g (Array.getElem?_eq_some_iff.1 g3).1).trans g3,g4,fun h2=>?_,fun h2=>g6 (by rw[←hne (ps k1) (ns k1 hk1)];exact h2)⟩
     rw[hne _ (ns k1 hk1)] at h2
     rw[put_get_ne (hsb _ k (hst k1 hk1).1 hk)]
     exact g5 h2
   ·have old:∀ k1,k1<n→k1≠k→listed.getD (pa k1) false=true→a.tmps[bx k1]?≠some (.pointer (some ⟨w.heap.size,0,none⟩)):=fun k1 hk1 e h1 h2=>by
     obtain⟨g,cs,g1,g2,g3,g4,g5,g6⟩:=hI.box k1 hk1 h1
     have hlt:=(Array.getElem?_eq_some_iff.1 g3).1
     rw[g1] at h2
     simp only[Option.some.injEq,Value.pointer.injEq,Addr.mk.injEq] at h2
     omega
    by_cases e1:k1=k
    ·subst e1
     rw[hne _ (na k2 hk2 (Ne.symm hkk))] at h2
     rw[put_get hlt,put_get_ne (fun e2=>hkk (hbinj _ _ hk hk2 e2.symm))]
     exact Ne.symm (old k2 hk2 (Ne.symm hkk) h2)
    ·rw[hne _ (na k1 hk1 e1)] at h1
     by_cases e2:k2=k
     ·subst e2
      rw[put_get hlt,put_get_ne (fun e2=>e1 (hbinj _ _ hk1 hk e2))]
      exact old k1 hk1 e1 h1
     ·rw[hne _ (na k2 hk2 e2)] at h2
      rw[put_get_ne (fun e3=>e1 (hbinj _ _ hk1 hk e3)),put_get_ne (fun e3=>e2 (hbinj _ _ hk2 hk e3))]
      exact hI.apart k1 k2 hk1 hk2 hkk h1 h2
   ·rw[hne _ (ns k1 hk1)] at h1
    obtain⟨h2,h3⟩:=hI.stored k1 hk1 h1
    exact⟨getD_set_true h2,getD_set_true h3⟩
  ·have nv:∀ j,j<m→pv j≠ps k:=fun j hj=>hvs j k hj hk
   have na:∀ k1,k1<n→pa k1≠ps k:=fun k1 hk1=>has k1 k hk1 hk
   have ns:∀ k1,k1<n→k1≠k→ps k1≠ps k:=fun k1 hk1 e e2=>e (hss k1 k hk1 hk e2)
   obtain⟨hvm,o',ho',hg,hop,hd,⟨e1,he1,hon1,hb1⟩,e2,he2,hon2,hb2⟩:=hst k hk
   obtain rfl:o'=o:=Option.some.inj (ho'.symm.trans ho)
   have l1:=hall e1 he1 hb1
   have l2:=hall e2 he2 hb2
   rw[hon1] at l1
   rw[hon2] at l2
   obtain⟨u,hu1,hu2⟩:=hI.val _ hvm l2
   obtain⟨cs,rfl,hc1,hc2⟩:=hVs k hk w u hu2
   obtain⟨g,old,g1,g2,g3,g4,g5,g6⟩:=hI.box k hk l1
   rw[g6 hunf] at g3 g4
   refine step_store ho' hg hop g1 hu1 g3 (by rw[hc1];exact hi) (by omega) hc2 ?_
   rw[hd]
   show ParX pv pa ps W0 a0 m n slot bx vs T zs V _ a _
   refine⟨below_row hI.below g2 _,hI.size,hI.defers,hI.other,fun j hj h1=>?_,fun k1 hk1 h1=>?_,fun k1 k2 hk1 hk2 hkk h1 h2=>?_,fun k1 hk1 h1=>?_⟩
   ·rw[hne _ (nv j hj)] at h1
    obtain⟨u',q1,q2⟩:=hI.val j hj h1
    exact⟨u',q1,hV2 _ _ _ _ _ g3 q2⟩
   ·rw[hne _ (na k1 hk1)] at h1
    by_cases e:k1=k
    ·subst e
     exact⟨g,cs,g1,g2,setRow_heap w g _ cs T _ g3,hc1,fun _=>hu1,fun h2=>by rw[hset] at h2;cases h2⟩
    ·obtain⟨g',cs',q1,q2,q3,q4,q5,q6⟩:=hI.box k1 hk1 h1
     have hgg:g'≠g:=fun e2=>by
      subst e2
      exact hI.apart k1 k hk1 hk e h1 l1 (q1.trans g1.symm)
     refine⟨g',cs',q1,q2,(setRow_other w g g' cs hgg).trans q3,q4,fun h2=>?_,fun h2=>q6 (by rw[←hne (ps k1) (ns k1 hk1 e)];exact h2)⟩
     rw[hne _ (ns k1 hk1 e)] at h2
     exact q5 h2
   ·rw[hne _ (na k1 hk1)] at h1
    rw[hne _ (na k2 hk2)] at h2
    exact hI.apart k1 k2 hk1 hk2 hkk h1 h2
   ·by_cases e:k1=k
    ·subst e
     exact⟨getD_set_true l1,getD_set_true l2⟩
    ·rw[hne _ (ns k1 hk1 e)] at h1
     obtain⟨h2,h3⟩:=hI.stored k1 hk1 h1
     exact⟨getD_set_true h2,getD_set_true h3⟩
 ·-- the end: all have come up
  intro listed a w hl hI hr
  have hfull:∀ i,i<ops.size→listed.getD i false=true:=by
   intro i
   induction i using Nat.strongRecOn with
   | _ i ih =>
    intro hi
    cases hx:listed.getD i false with
    | true=>rfl
    | false =>
     exfalso
     have ho:ops[i]?=some ops[i]:=Array.getElem?_eq_getElem hi
     have:i ∈ Region.ready .any ops listed:=by
      refine mem_ready.2 ⟨?_,ops[i],ho,fun e he hbe=>ih e.on (hord i _ ho e he hbe) (Nat.lt_trans (hord i _ ho e he hbe) hi)⟩
      have hil:i<listed.size:=by omega
      simp only[Array.getD_eq_getD_getElem?,Array.getElem?_eq_getElem hil,Option.getD_some] at hx ⊢
      exact hx
     rw[hr] at this
     cases this
  have hval:∀ j,∃ u,j<m→a.tmps[slot j]?=some u∧V j w u:=fun j=>by
   by_cases hj:j<m
   ·obtain⟨u,h1,h2⟩:=hI.val j hj (hfull _ (hpv j hj))
    exact⟨u,fun _=>⟨h1,h2⟩⟩
   ·exact⟨undef,fun h=>absurd h hj⟩
  obtain⟨u,hu⟩:=Classical.axiomOfChoice hval
  have hbox:∀ k,∃ g,k<n→a.tmps[bx k]?=some (.pointer (some ⟨g,0,none⟩))∧W0.heap.size≤g∧∃ cs,u (vs k)=.agg cs∧w.heap[g]?=some (.cells cs T (0,0)):=fun k=>by
   by_cases hk:k<n
   ·obtain⟨g,cs,h1,h2,h3,h4,h5,-⟩:=hI.box k hk (hfull _ (hpa k hk))
    refine⟨g,fun _=>⟨h1,h2,cs,?_,h3⟩⟩
    have h6:=h5 (hfull _ (hps k hk))
    rw[(hu _ (hst k hk).1).1] at h6
    exact Option.some.inj h6
   ·exact⟨0,fun h=>absurd h hk⟩
  obtain⟨g,hg⟩:=Classical.axiomOfChoice hbox
  exact hQ u g a w hI.below hu hg (fun k k' hk hk' hkk e=>hI.apart k k' hk hk' hkk (hfull _ (hpa k hk)) (hfull _ (hpa k' hk')) (by rw[(hg k hk).1,(hg k' hk').1,e])) hI.size hI.defers hI.other
 ·-- the start
  have h0:∀ x,(Array.replicate ops.size false).getD x false=true→False:=fun x h=>by
   simp[Array.getD_eq_getD_getElem?,Array.getElem?_replicate] at h
   split at h <;> simp at h
  exact⟨(Below.refl _ _).drew,rfl,rfl,fun _ _ _=>rfl,fun j _ h=>(h0 _ h).elim,fun k _ h=>(h0 _ h).elim,fun k k' _ _ _ h=>(h0 _ h).elim,fun k _ h=>(h0 _ h).elim⟩
structure KeepB (n:Nat) (gs:Nat→Nat) (B:Nat) (W0 w:World):Prop where
 below:Below B W0 w
 size:W0.heap.size≤w.heap.size
 keep:∀ b,b<W0.heap.size→(∀ k,k<n→b≠gs k)→w.heap[b]?=W0.heap[b]?
theorem KeepB.step {n:Nat} {gs:Nat→Nat} {B:Nat} {W0 w w':World} (h:KeepB n gs B W0 w) (hB:B≤W0.heap.size) (hb:Bw w w'):KeepB n gs B W0 w' :=
 ⟨h.below.trans (hb.mono (Nat.le_trans hB h.size)),Nat.le_trans h.size hb.size,fun b h1 h2=>(hb.block b (Nat.lt_of_lt_of_le h1 h.size)).trans (h.keep b h1 h2)⟩
theorem KeepB.row {n:Nat} {gs:Nat→Nat} {B:Nat} {W0 w:World} (h:KeepB n gs B W0 w) {k:Nat} (hk:k<n) (hB:B≤gs k) (cs:Array Value):KeepB n gs B W0 (w.setRow (gs k) cs) :=
 ⟨below_row h.below hB _,by simpa using h.size,fun b h1 h2=>(setRow_other w (gs k) b cs (h2 k hk)).trans (h.keep b h1 h2)⟩
structure ParQ (pv ps:Nat→Nat) (rd:Nat→List Nat) (W0:World) (a0:Act) (m n:Nat) (slot:Nat→Tmp) (vs gs:Nat→Nat) (B:Nat) (T:TypeId) (C:Array Value→Prop) (z:Nat) (V:Nat→World→Value→Prop) (listed:Array Bool) (a:Act) (w:World):Prop where
 kept:KeepB n gs B W0 w
 size:a.tmps.size=a0.tmps.size
 defers:a.defers=a0.defers
 other:∀ s,(∀ j,j<m→s≠slot j)→a.tmps[s]?=a0.tmps[s]?
 val:∀ j,j<m→listed.getD (pv j) false=true→∃ u,a.tmps[slot j]?=some u∧V j w u
 box:∀ k,k<n→∃ cs,w.heap[gs k]?=some (.cells cs T (0,0))∧cs.size=z∧C cs∧(listed.getD (ps k) false=true→a.tmps[slot (vs k)]?=some (.agg cs))∧(listed.getD (ps k) false=false→w.heap[gs k]?=W0.heap[gs k]?)
 stored:∀ k,k<n→listed.getD (ps k) false=true→∀ j ∈ rd k,listed.getD (pv j) false=true
theorem parq_region {P:Program} {ops:Array Oper} {Q:Exit→Act→World→Prop} {id:Nat} (hm:P.follows .mixedOrders=true) (pv ps:Nat→Nat) (m n:Nat) (slot bx:Nat→Tmp) (vs gs:Nat→Nat) (B:Nat) (dep rd:Nat→List Nat) (T:TypeId) (C:Array Value→Prop) (z:Nat)
  (W0:World) (a0:Act) (V:Nat→World→Value→Prop) (hcov:∀ i,i<ops.size→(∃ j,j<m∧i=pv j)∨∃ k,k<n∧i=ps k) (hpv:∀ j,j<m→pv j<ops.size) (hps:∀ k,k<n→ps k<ops.size) (dvs:∀ j k,j<m→k<n→pv j≠ps k) (ivv:∀ j j',j<m→j'<m→pv j=pv j'→j=j') (iss:∀ k k',k<n→k'<n→ps k=ps k'→k=k')
  (hord:∀ (i:Nat) (o:Oper),ops[i]?=some o→∀ e ∈ o.after,Region.binds .any e=true→e.on<i)
  (hV1:∀ j w w' u,Bw w w'→V j w u→V j w' u)
  (hV2:∀ j w u g cs cs',w.heap[g]?=some (.cells cs T (0,0))→C cs→V j w u→V j (w.setRow g cs') u)
  (hVs:∀ k,k<n→∀ w u,V (vs k) w u→∃ cs:Array Value,u=.agg cs∧cs.size=z∧C cs∧cs.all (·.oneCell')=true)
  (hdep:∀ j,j<m→∀ j' ∈ dep j,j'<m∧∀ o,ops[pv j]?=some o→∃ e ∈ o.after,e.on=pv j'∧Region.binds .any e=true)
  (hA:∀ j,j<m→∀ (a:Act) (w:World),KeepB n gs B W0 w→(∀ s,(∀ j,j<m→s≠slot j)→a.tmps[s]?=a0.tmps[s]?) →
   (∀ j' ∈ dep j,∃ u,a.tmps[slot j']?=some u∧V j' w u)→(∀ k,k<n→j ∈ rd k→w.heap[gs k]?=W0.heap[gs k]?)→wpOp P ops Q (pv j) (fun a' w'=>∃ u,a'=a.put (some (slot j)) u∧V j w' u∧Bw w w') a w)
  (hi:(P.info? T).map (·.size)=some z)
  (hst:∀ k,k<n→vs k<m∧∃ o,ops[ps k]?=some o∧o.guard=none∧o.op=.store T (.tmp (bx k)) (.tmp (slot (vs k)))∧o.dst=none∧vs k ∈ rd k∧∀ j ∈ rd k,j<m∧∃ e ∈ o.after,e.on=pv j∧Region.binds .any e=true)
  (hbx:∀ k,k<n→a0.tmps[bx k]?=some (.pointer (some ⟨gs k,0,none⟩))∧∀ j,j<m→bx k≠slot j)
  (hbox:∀ k,k<n→B≤gs k∧∃ cs,W0.heap[gs k]?=some (.cells cs T (0,0))∧cs.size=z∧C cs)
  (hgs:∀ k k',k<n→k'<n→gs k=gs k'→k=k') (hB:B≤W0.heap.size)
  (hin:∀ j,j<m→slot j<a0.tmps.size)
  (hinj:∀ j j',j<m→j'<m→slot j=slot j'→j=j')
  (hQ:∀ (u:Nat→Value) (a:Act) (w:World),KeepB n gs B W0 w→(∀ j,j<m→a.tmps[slot j]?=some (u j)∧V j w (u j)) →
   (∀ k,k<n→∃ cs,u (vs k)=.agg cs∧w.heap[gs k]?=some (.cells cs T (0,0))) →
   a.tmps.size=a0.tmps.size→a.defers=a0.defers→(∀ s,(∀ j,j<m→s≠slot j)→a.tmps[s]?=a0.tmps[s]?)→Q .normal a w) :
  (Code.region id ops true).wp P Q a0 W0:=by
 have hvrd:∀ k,k<n→vs k ∈ rd k:=fun k hk=>by
  obtain⟨_,_,_,_,_,_,h,_⟩:=hst k hk
  exact h
 refine wp_region_any hm ?_
 refine wpAny_inv (ParQ pv ps rd W0 a0 m n slot vs gs B T C z V) ?_ ?_ ops.size _ a0 _ (by simp) ?_ (by simp)
 ·-- a step
  intro listed a w i hl hI hr
  obtain⟨hun,o,ho,hall⟩:=mem_ready.1 hr
  have hunf:=not_listed hun
  have hio:i<ops.size:=(Array.getElem?_eq_some_iff.1 ho).1
  have hil:i<listed.size:=by omega
  have hset:=listed_set hil
  have hne:∀ x,x≠i→(listed.setIfInBounds i true).getD x false=listed.getD x false:=fun x hx=>getD_set_ne false (Ne.symm hx)
  rcases hcov i hio with ⟨i,him,rfl⟩|⟨k,hk,rfl⟩
  ·refine wpOp_mono ?_ (hA i him a w hI.kept hI.other (fun j' hj'=>?_) (fun k hk hjk=>?_))
   ·rintro a' w' ⟨u,rfl,hu,hb⟩
    have hlt:slot i<a.tmps.size:=by rw[hI.size];exact hin i him
    refine⟨hI.kept.step hB hb,by rw[put_size];exact hI.size,by rw[put_defers];exact hI.defers,fun s h1=>?_,fun j hj h1=>?_,fun k hk=>?_,fun k hk h1 jr hjr=>?_⟩
    ·rw[put_get_ne (h1 i him)];exact hI.other s h1
    ·by_cases e:j=i
     ·subst e;exact⟨u,put_get hlt,hu⟩
     ·rw[hne (pv j) (fun e2=>e (ivv j i hj him e2))] at h1
      obtain⟨u',g1,g2⟩:=hI.val j hj h1
      exact⟨u',by rw[put_get_ne (fun e2=>e (hinj j i hj him e2))];exact g1,hV1 _ _ _ _ hb g2⟩
    ·obtain⟨cs,g3,g4,g5,g6,g7⟩:=hI.box k hk
     refine⟨cs,(hb.block _ (Array.getElem?_eq_some_iff.1 g3).1).trans g3,g4,g5,fun h2=>?_,fun h2=>(hb.block _ (Array.getElem?_eq_some_iff.1 g3).1).trans (g7 (by rw[←hne (ps k) (Ne.symm (dvs i k him hk))];exact h2))⟩
     rw[hne _ (Ne.symm (dvs i k him hk))] at h2
     have h3:=hI.stored k hk h2 (vs k) (hvrd k hk)
     have h4:vs k≠i:=fun e=>by rw[e,hunf] at h3;cases h3
     rw[put_get_ne (fun e2=>h4 (hinj _ _ (hst k hk).1 him e2))]
     exact g6 h2
    ·rw[hne _ (Ne.symm (dvs i k him hk))] at h1
     exact getD_set_true (hI.stored k hk h1 jr hjr)
   ·obtain⟨h1,h2⟩:=hdep i him j' hj'
    obtain⟨e,he,hon,hbd⟩:=h2 o ho
    exact hI.val _ h1 (by rw[←hon];exact hall e he hbd)
   ·obtain⟨cs,g3,g4,g5,g6,g7⟩:=hI.box k hk
    refine g7 ?_
    cases hs:listed.getD (ps k) false
    ·rfl
    ·have h3:=hI.stored k hk hs i hjk
     rw[hunf] at h3;cases h3
  ·obtain⟨hvm,o',ho',hg,hop,hd,hvr,hrd⟩:=hst k hk
   obtain rfl:o'=o:=Option.some.inj (ho'.symm.trans ho)
   have lr:∀ j ∈ rd k,listed.getD (pv j) false=true:=fun j hj=>by
    obtain⟨-,e2,he2,hon2,hb2⟩:=hrd j hj
    rw[←hon2]
    exact hall e2 he2 hb2
   have l2:=lr _ hvr
   obtain⟨u,hu1,hu2⟩:=hI.val _ hvm l2
   obtain⟨cs,rfl,hc1,hcC,hc2⟩:=hVs k hk w u hu2
   obtain⟨old,g3,g4,g5,g6,-⟩:=hI.box k hk
   have hbk:a.tmps[bx k]?=some (.pointer (some ⟨gs k,0,none⟩)):=by rw[hI.other _ (hbx k hk).2];exact(hbx k hk).1
   refine step_store ho' hg hop hbk hu1 g3 (by rw[hc1];exact hi) (by omega) hc2 ?_
   rw[hd]
   show ParQ pv ps rd W0 a0 m n slot vs gs B T C z V _ a _
   refine⟨hI.kept.row hk (hbox k hk).1 _,hI.size,hI.defers,hI.other,fun j hj h1=>?_,fun k1 hk1=>?_,fun k1 hk1 h1 jr hjr=>?_⟩
   ·rw[hne (pv j) (dvs j k hj hk)] at h1
    obtain⟨u',q1,q2⟩:=hI.val j hj h1
    exact⟨u',q1,hV2 _ _ _ _ _ _ g3 g5 q2⟩
   ·by_cases e:k1=k
    ·subst e
     exact⟨cs,setRow_heap w (gs k1) old cs T _ g3,hc1,hcC,fun _=>hu1,fun h2=>by rw[hset] at h2;cases h2⟩
    ·obtain⟨cs',q3,q4,q5,q6,q7⟩:=hI.box k1 hk1
     have hgg:gs k1≠gs k:=fun e2=>e (hgs k1 k hk1 hk e2)
     refine⟨cs',(setRow_other w (gs k) (gs k1) cs hgg).trans q3,q4,q5,fun h2=>?_,fun h2=>(setRow_other w (gs k) (gs k1) cs hgg).trans (q7 (by rw[←hne (ps k1) (fun e2=>e (iss k1 k hk1 hk e2))];exact h2))⟩
     rw[hne _ (fun e2=>e (iss k1 k hk1 hk e2))] at h2
     exact q6 h2
   ·by_cases e:k1=k
    ·subst e
     exact getD_set_true (lr jr hjr)
    ·rw[hne _ (fun e2=>e (iss k1 k hk1 hk e2))] at h1
     exact getD_set_true (hI.stored k1 hk1 h1 jr hjr)
 ·-- the end: all have come up
  intro listed a w hl hI hr
  have hfull:∀ i,i<ops.size→listed.getD i false=true:=by
   intro i
   induction i using Nat.strongRecOn with
   | _ i ih =>
    intro hi
    cases hx:listed.getD i false with
    | true=>rfl
    | false =>
     exfalso
     have ho:ops[i]?=some ops[i]:=Array.getElem?_eq_getElem hi
     have:i ∈ Region.ready .any ops listed:=by
      refine mem_ready.2 ⟨?_,ops[i],ho,fun e he hbe=>ih e.on (hord i _ ho e he hbe) (Nat.lt_trans (hord i _ ho e he hbe) hi)⟩
      have hil:i<listed.size:=by omega
      simp only[Array.getD_eq_getD_getElem?,Array.getElem?_eq_getElem hil,Option.getD_some] at hx ⊢
      exact hx
     rw[hr] at this
     cases this
  have hval:∀ j,∃ u,j<m→a.tmps[slot j]?=some u∧V j w u:=fun j=>by
   by_cases hj:j<m
   ·obtain⟨u,h1,h2⟩:=hI.val j hj (hfull (pv j) (hpv j hj))
    exact⟨u,fun _=>⟨h1,h2⟩⟩
   ·exact⟨undef,fun h=>absurd h hj⟩
  obtain⟨u,hu⟩:=Classical.axiomOfChoice hval
  refine hQ u a w hI.kept hu (fun k hk=>?_) hI.size hI.defers hI.other
  obtain⟨cs,h3,h4,h5,h6,-⟩:=hI.box k hk
  have h7:=h6 (hfull _ (hps k hk))
  rw[(hu _ (hst k hk).1).1] at h7
  exact⟨cs,Option.some.inj h7,h3⟩
 ·-- the start
  have h0:∀ x,(Array.replicate ops.size false).getD x false=true→False:=fun x h=>by
   simp[Array.getD_eq_getD_getElem?,Array.getElem?_replicate] at h
   split at h <;> simp at h
  refine⟨⟨(Below.refl _ _).drew,Nat.le_refl _,fun _ _ _=>rfl⟩,rfl,rfl,fun _ _=>rfl,fun j _ h=>(h0 _ h).elim,fun k hk=>?_,fun k _ h=>(h0 _ h).elim⟩
  obtain⟨-,cs,h1,h2,h3⟩:=hbox k hk
  exact⟨cs,h1,h2,h3,fun h=>(h0 _ h).elim,fun _=>rfl⟩
def RowsAll (T:TypeId) (C:Array Value→Prop):List (World→Value→Prop)→Prop
 | []=>True
 | P :: r=>(∀ w u g cs cs',w.heap[g]?=some (.cells cs T (0,0))→C cs→P w u→P (w.setRow g cs') u)∧RowsAll T C r
theorem vL_rows {T:TypeId} {C:Array Value→Prop}:∀ {L:List (World→Value→Prop)},RowsAll T C L→∀ j w u g cs cs',w.heap[g]?=some (.cells cs T (0,0))→C cs→vL L j w u→vL L j (w.setRow g cs') u
 | [],_,j=>fun w u g cs cs' _ _ h=>by simp[vL] at h
 | P :: r,hL,0=>hL.1
 | P :: r,hL,j+1=>fun w u g cs cs' h1 h2 h=>vL_rows hL.2 j w u g cs cs' h1 h2 h
theorem isV_rows (x:Value) (T:TypeId) (C:Array Value→Prop):∀ w u g cs cs',w.heap[g]?=some (.cells cs T (0,0))→C cs→isV x w u→isV x (w.setRow g cs') u:=fun _ _ _ _ _ _ _ h=>h
def qrow (PVL PSL SL:List Nat) (D rd:List (List Nat)) (vs:List Nat) (i:Nat) (o:Oper):Bool :=
 o.after.all (fun e => !(Region.binds .any e)||decide (e.on<i))&&(PVL.contains i||PSL.contains i)
def qval (ops:Array Oper) (PVL SL:List Nat) (D:List (List Nat)) (j:Nat):Bool :=
 match ops[PVL.getD j 0]? with
 | some o=>o.dst==some (SL.getD j 0)&&(dL D j).all (fun j'=>decide (j'<PVL.length)&&vhas o (PVL.getD j' 0))
 | none=>false
def qsto (ops:Array Oper) (PVL PSL:List Nat) (rd:List (List Nat)) (vs:List Nat) (k:Nat):Bool :=
 match ops[PSL.getD k 0]? with
 | some o=>o.dst==none&&o.guard.isNone&&decide (vs.getD k 0<PVL.length)&&(dL rd k).contains (vs.getD k 0)&&(dL rd k).all (fun j=>decide (j<PVL.length)&&vhas o (PVL.getD j 0))
 | none=>false
def qchk (ops:Array Oper) (PVL PSL SL:List Nat) (D rd:List (List Nat)) (vs:List Nat):Bool :=
 ((List.range ops.size).all fun i=>match ops[i]? with|some o=>qrow PVL PSL SL D rd vs i o|none=>false)&&(List.range PVL.length).all (qval ops PVL SL D)&&(List.range PSL.length).all (qsto ops PVL PSL rd vs)&&decide (PVL++PSL).Nodup&&decide SL.Nodup&&decide (SL.length=PVL.length)
theorem getD_mem {l:List Nat} {j:Nat} (h:j<l.length):l.getD j 0 ∈ l:=by
 rw[List.getD_eq_getElem?_getD,List.getElem?_eq_getElem h]
 exact List.getElem_mem h
theorem getD_inj {l:List Nat} (hn:l.Nodup) {i j:Nat} (hi:i<l.length) (hj:j<l.length) (h:l.getD i 0=l.getD j 0):i=j:=by
 rw[List.getD_eq_getElem?_getD,List.getD_eq_getElem?_getD,List.getElem?_eq_getElem hi,List.getElem?_eq_getElem hj] at h
 exact(List.getElem_inj hn).1 h
theorem mem_getD {l:List Nat} {x:Nat} (h:x ∈ l):∃ j,j<l.length∧x=l.getD j 0:=by
 obtain⟨j,hj,e⟩:=List.mem_iff_getElem.1 h
 exact⟨j,hj,by rw[List.getD_eq_getElem?_getD,List.getElem?_eq_getElem hj];exact e.symm⟩
theorem q_region {P:Program} {ops:Array Oper} {Q:Exit→Act→World→Prop} {id:Nat} (hm:P.follows .mixedOrders=true) (PVL PSL SL:List Nat) (D rd:List (List Nat)) (vs:List Nat) (bx gs:Nat→Nat) (B:Nat) (T:TypeId) (C:Array Value→Prop) (z:Nat)
  (W0:World) (a0:Act) (L:List (World→Value→Prop)) (hchk:qchk ops PVL PSL SL D rd vs=true)
  (hV1:StaysAll L) (hV2:RowsAll T C L) (hsl:∀ s ∈ SL,s<a0.tmps.size)
  (hVs:∀ k,k<PSL.length→∀ w u,vL L (vs.getD k 0) w u→∃ cs:Array Value,u=.agg cs∧cs.size=z∧C cs∧cs.all (·.oneCell')=true)
  (hA:∀ j,j<PVL.length→∀ o,ops[PVL.getD j 0]?=some o→∀ (a:Act) (w:World),KeepB PSL.length gs B W0 w→(∀ s:Nat,SL.contains s=false→a.tmps[s]?=a0.tmps[s]?) →
   (∀ j' ∈ dL D j,∃ u,a.tmps[SL.getD j' 0]?=some u∧vL L j' w u)→(∀ k,k<PSL.length→j ∈ dL rd k→w.heap[gs k]?=W0.heap[gs k]?) →
   (o.guard=none∧o.wp P a w (fun a' w'=>∃ u,a'=a.put o.dst u∧vL L j w' u∧Bw w w') Q)∨wpOp P ops Q (PVL.getD j 0) (fun a' w'=>∃ u,a'=a.put o.dst u∧vL L j w' u∧Bw w w') a w)
  (hi:(P.info? T).map (·.size)=some z)
  (hst:∀ k,k<PSL.length→∃ o,ops[PSL.getD k 0]?=some o∧o.op=.store T (.tmp (bx k)) (.tmp (SL.getD (vs.getD k 0) 0)))
  (hbx:∀ k,k<PSL.length→a0.tmps[bx k]?=some (.pointer (some ⟨gs k,0,none⟩))∧SL.contains (bx k)=false)
  (hbox:∀ k,k<PSL.length→B≤gs k∧∃ cs,W0.heap[gs k]?=some (.cells cs T (0,0))∧cs.size=z∧C cs)
  (hgs:∀ k k',k<PSL.length→k'<PSL.length→gs k=gs k'→k=k') (hB:B≤W0.heap.size)
  (hQ:∀ (u:Nat→Value) (w:World),KeepB PSL.length gs B W0 w→(∀ j,j<PVL.length→vL L j w (u j)) →
   (∀ k,k<PSL.length→∃ cs,u (vs.getD k 0)=.agg cs∧w.heap[gs k]?=some (.cells cs T (0,0)))→Q .normal (putL a0 ((List.range PVL.length).map (fun j=>(SL.getD j 0,u j)))) w) :
  (Code.region id ops true).wp P Q a0 W0:=by
 unfold qchk at hchk
 simp only[Bool.and_eq_true,decide_eq_true_eq] at hchk
 obtain⟨⟨⟨⟨⟨h1,h2⟩,h3⟩,h4⟩,h5⟩,h6⟩:=hchk
 obtain⟨n1,n2,n3⟩:=List.nodup_append.1 h4
 have row:∀ {i o},ops[i]?=some o→qrow PVL PSL SL D rd vs i o=true:=fun {i o} ho=>by
  have:=List.all_eq_true.1 h1 i (List.mem_range.2 (Array.getElem?_eq_some_iff.1 ho).1)
  simp only[ho] at this
  exact this
 have val:∀ j,j<PVL.length→∃ o,ops[PVL.getD j 0]?=some o∧o.dst=some (SL.getD j 0)∧∀ j' ∈ dL D j,j'<PVL.length∧∃ e ∈ o.after,e.on=PVL.getD j' 0∧Region.binds .any e=true:=fun j hj=>by
  have:=List.all_eq_true.1 h2 j (List.mem_range.2 hj)
  unfold qval at this
  cases ho:ops[PVL.getD j 0]? with
  | none=>rw[ho] at this;cases this
  | some o =>
   rw[ho] at this
   simp only[Bool.and_eq_true] at this
   refine⟨o,rfl,by simpa using this.1,fun j' hj'=>?_⟩
   have:=List.all_eq_true.1 this.2 j' hj'
   rw[Bool.and_eq_true] at this
   exact⟨of_decide_eq_true this.1,vhas_ex this.2⟩
 have sto:∀ k,k<PSL.length→∃ o,ops[PSL.getD k 0]?=some o∧o.dst=none∧o.guard=none∧vs.getD k 0<PVL.length∧vs.getD k 0 ∈ dL rd k∧∀ j ∈ dL rd k,j<PVL.length∧∃ e ∈ o.after,e.on=PVL.getD j 0∧Region.binds .any e=true:=fun k hk=>by
  have:=List.all_eq_true.1 h3 k (List.mem_range.2 hk)
  unfold qsto at this
  cases ho:ops[PSL.getD k 0]? with
  | none=>rw[ho] at this;cases this
  | some o =>
   rw[ho] at this
   simp only[Bool.and_eq_true] at this
   obtain⟨⟨⟨⟨x1,x2⟩,x3⟩,x4⟩,x5⟩:=this
   refine⟨o,rfl,by simpa using x1,Option.isNone_iff_eq_none.1 x2,of_decide_eq_true x3,by simpa using x4,fun j hj=>?_⟩
   have:=List.all_eq_true.1 x5 j hj
   rw[Bool.and_eq_true] at this
   exact⟨of_decide_eq_true this.1,vhas_ex this.2⟩
 have hoth:∀ {s:Nat},SL.contains s=false→∀ j,j<PVL.length→s≠SL.getD j 0:=fun {s} h j hj e=>by
  have h7:=getD_mem (l:=SL) (j:=j) (by omega)
  rw[←e] at h7
  have:SL.contains s=true:=by simpa using h7
  rw[h] at this;cases this
 refine parq_region hm (fun j=>PVL.getD j 0) (fun k=>PSL.getD k 0) PVL.length PSL.length (fun j=>SL.getD j 0) bx (fun k=>vs.getD k 0) gs B (dL D) (dL rd) T C z W0 a0 (vL L) ?_ ?_ ?_ ?_ (fun j j' hj hj' e=>getD_inj n1 hj hj' e) (fun k k' hk hk' e=>getD_inj n2 hk hk' e) ?_ (fun j w w' u hb h=>vL_stays hV1 j w w' u hb h) (fun j w u g cs cs' y1 y2 h=>vL_rows hV2 j w u g cs cs' y1 y2 h) hVs ?_ ?_ hi ?_ ?_ hbox hgs hB (fun j hj=>hsl _ (getD_mem (by omega))) (fun j j' hj hj' e=>getD_inj h5 (by omega) (by omega) e) ?_
 ·intro i hi'
  have ho:ops[i]?=some ops[i]:=Array.getElem?_eq_getElem hi'
  have:=row ho
  unfold qrow at this
  rw[Bool.and_eq_true,Bool.or_eq_true] at this
  rcases this.2 with h|h
  ·exact .inl (mem_getD (by simpa using h))
  ·exact .inr (mem_getD (by simpa using h))
 ·intro j hj
  obtain⟨o,ho,-⟩:=val j hj
  exact(Array.getElem?_eq_some_iff.1 ho).1
 ·intro k hk
  obtain⟨o,ho,-⟩:=sto k hk
  exact(Array.getElem?_eq_some_iff.1 ho).1
 ·intro j k hj hk
  exact n3 _ (getD_mem hj) _ (getD_mem hk)
 ·intro i o ho e he hb
  have:=row ho
  unfold qrow at this
  rw[Bool.and_eq_true] at this
  have h7:=Array.all_eq_true_iff_forall_mem.1 this.1 e he
  rw[hb] at h7
  exact of_decide_eq_true (by simpa using h7)
 ·intro j hj j' hj'
  obtain⟨o,ho,-,hd⟩:=val j hj
  obtain⟨x1,x2⟩:=hd j' hj'
  refine⟨x1,fun o' ho'=>?_⟩
  obtain rfl:o=o':=Option.some.inj (ho.symm.trans ho')
  exact x2
 ·intro j hj a w hk ho1 hd hrd
  obtain⟨o,ho,hds,-⟩:=val j hj
  have h7:=hA j hj o ho a w hk (fun s hs=>ho1 s (hoth hs)) hd hrd
  rw[hds] at h7
  rcases h7 with ⟨hg,h7⟩|h7
  ·exact step_wanted ho hg h7
  ·exact h7
 ·intro k hk
  obtain⟨o,ho,hop⟩:=hst k hk
  obtain⟨o',ho',x1,x2,x3,x4,x5⟩:=sto k hk
  obtain rfl:o'=o:=Option.some.inj (ho'.symm.trans ho)
  exact⟨x3,o',ho,x2,hop,x1,x4,x5⟩
 ·intro k hk
  exact⟨(hbx k hk).1,hoth (hbx k hk).2⟩
 ·intro u a w hk hu hcs hs hd ho1
  have q1:((List.range PVL.length).map (fun j=>((SL.getD j 0,u j):Tmp×Value))).map (fun p:Tmp×Value=>p.1)=(List.range PVL.length).map (fun j=>SL.getD j 0):=by simp[Function.comp_def]
  have ha:=act_putL (a:=a) (a0:=a0) (l:=(List.range PVL.length).map (fun j=>((SL.getD j 0,u j):Tmp×Value))) (by
    rw[q1]
    refine List.pairwise_map.2 ((List.nodup_range (n:=PVL.length)).imp_of_mem ?_)
    intro x y hx hy hne he
    have:=List.mem_range.1 hx
    have:=List.mem_range.1 hy
    exact hne (getD_inj h5 (by omega) (by omega) he)) hs hd (by
    intro p hp
    obtain⟨i,hi,rfl⟩:=List.mem_map.1 hp
    exact(hu i (List.mem_range.1 hi)).1) (fun s hsn=>ho1 s (fun i hi he=>hsn (List.mem_map.2 ⟨_,List.mem_map.2 ⟨i,List.mem_range.2 hi,rfl⟩,he.symm⟩)))
  rw[ha]
  exact hQ u w hk (fun j hj=>(hu j hj).2) hcs
def ZRowsAll (T:TypeId) (zs:Array Value):List (World→Value→Prop)→Prop
 | []=>True
 | P :: r=>(∀ w u g cs',w.heap[g]?=some (.cells zs T (0,0))→P w u→P (w.setRow g cs') u)∧ZRowsAll T zs r
theorem vL_zrows {T:TypeId} {zs:Array Value}:∀ {L:List (World→Value→Prop)},ZRowsAll T zs L→∀ j w u g cs',w.heap[g]?=some (.cells zs T (0,0))→vL L j w u→vL L j (w.setRow g cs') u
 | [],_,j=>fun w u g cs' _ h=>by simp[vL] at h
 | P :: r,hL,0=>hL.1
 | P :: r,hL,j+1=>fun w u g cs' h1 h=>vL_zrows hL.2 j w u g cs' h1 h
end Go.Proofs.YtapooodfgcjoaaaGreat
