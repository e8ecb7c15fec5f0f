/- Own work: contracts of the program's functions, part 20: DRL DRJ DRN DRO DRP DRQ DRR PTA PTB. -/
import Derived.Test.YtbanebginnakhaaGreatDoorA19

set_option maxHeartbeats 16000000
set_option maxRecDepth 200000
set_option linter.unusedVariables false
set_option linter.unusedSimpArgs false
namespace Go.Proofs.YtbanebginnakhaaGreatDoor
open Go Go.RowKit Go.Fl64
theorem zJ5 (neg hx:Bool) (R:ByteArray) (be ex m:Int) (w:World):Calls Tryz.prog 30 #[.agg #[.bool neg,.string ⟨#[110,97,110]⟩,.bool hx,.string R,.int .i64 be,.int .i64 ex],.int .i64 m] w fun r w'=>r=.returned (.float .f64 9221120237041090561)∧Bw w w':=by
 obtain⟨W,hW⟩:∃ W,W=w.alloc (.cells #[.bool neg,.string ⟨#[110,97,110]⟩,.bool hx,.string R,.int .i64 be,.int .i64 ex] 64):=⟨_,rfl⟩;have HW:Hid (Bw w W∧W.heap[w.heap.size]?=some (.cells #[.bool neg,.string ⟨#[110,97,110]⟩,.bool hx,.string R,.int .i64 be,.int .i64 ex] 64 (0,0))):=⟨by rw[hW];exact(xL1 _ _).alloc (xL0 _) _,by rw[hW];exact xW8 _ _⟩
 obtain⟨c0,c1,c2,c3,c4,c5⟩:=qX6 HW.out.2
 go_enter Tryz.func30,Tryz.ntmps30
 go_upto_region 1 with fail;rw[←hW];clear hW;have kN:=Ie.c52 W
 go_wp2_with (refine kN.mono ?_;rintro r w' ⟨rfl,hw⟩;replace hw:=hw.symm;subst hw)
 go_ret;exact⟨rfl,HW.out.1⟩
theorem zJ6 (neg hx:Bool) (R:ByteArray) (be ex m:Int) (w:World):Calls Tryz.prog 30 #[.agg #[.bool neg,.string ⟨#[105,110,102]⟩,.bool hx,.string R,.int .i64 be,.int .i64 ex],.int .i64 m] w fun r w'=>r=.returned (.float .f64 (if neg then 18442240474082181120 else 9218868437227405312))∧Bw w w':=by
 obtain⟨W,hW⟩:∃ W,W=w.alloc (.cells #[.bool neg,.string ⟨#[105,110,102]⟩,.bool hx,.string R,.int .i64 be,.int .i64 ex] 64):=⟨_,rfl⟩;have HW:Hid (Bw w W∧W.heap[w.heap.size]?=some (.cells #[.bool neg,.string ⟨#[105,110,102]⟩,.bool hx,.string R,.int .i64 be,.int .i64 ex] 64 (0,0))):=⟨by rw[hW];exact(xL1 _ _).alloc (xL0 _) _,by rw[hW];exact xW8 _ _⟩
 obtain⟨c0,c1,c2,c3,c4,c5⟩:=qX6 HW.out.2
 go_enter Tryz.func30,Tryz.ntmps30
 go_upto_region 1 with fail;rw[←hW];clear hW;have kS:=xM7 neg W;have kP:=yR8 W;have kM:=yX W;cases neg
 ·go_wp2_with (first|(go_at_call 55;refine kS.mono ?_;rintro r w' ⟨rfl,hw⟩;replace hw:=hw.symm;subst hw)|(go_at_call 19;refine kP.mono ?_;rintro r w' ⟨rfl,hw⟩;replace hw:=hw.symm;subst hw))
  go_ret;exact⟨rfl,HW.out.1⟩
 ·go_wp2_with (first|(go_at_call 55;refine kS.mono ?_;rintro r w' ⟨rfl,hw⟩;replace hw:=hw.symm;subst hw)|(go_at_call 19;refine kM.mono ?_;rintro r w' ⟨rfl,hw⟩;replace hw:=hw.symm;subst hw))
  go_ret;exact⟨rfl,HW.out.1⟩
theorem qH2 (neg hx:Bool) (R:ByteArray) (be ex m:Int) (F0 F:Nat) (z:Bool) (w:World) (hz:(FloatKind.f64.format.order F0 0==some Ordering.eq)=z) (hF:(if z&&neg then 9223372036854775808 else F0)=F)
  (kV:∀ W,Bw w W→Calls Tryz.prog 56 #[.agg #[.bool neg,.string ⟨#[]⟩,.bool hx,.string R,.int .i64 be,.int .i64 ex],.int .i64 m] W fun r w'=>r=.returned (.float .f64 F0)∧Bw W w') :
  Calls Tryz.prog 30 #[.agg #[.bool neg,.string ⟨#[]⟩,.bool hx,.string R,.int .i64 be,.int .i64 ex],.int .i64 m] w fun r w'=>r=.returned (.float .f64 F)∧Bw w w':=by
 obtain⟨W,hW⟩:∃ W,W=w.alloc (.cells #[.bool neg,.string ⟨#[]⟩,.bool hx,.string R,.int .i64 be,.int .i64 ex] 64):=⟨_,rfl⟩;have HW:Hid (Bw w W∧W.heap[w.heap.size]?=some (.cells #[.bool neg,.string ⟨#[]⟩,.bool hx,.string R,.int .i64 be,.int .i64 ex] 64 (0,0))):=⟨by rw[hW];exact(xL1 _ _).alloc (xL0 _) _,by rw[hW];exact xW8 _ _⟩
 obtain⟨c0,c1,c2,c3,c4,c5⟩:=qX6 HW.out.2
 go_enter Tryz.func30,Tryz.ntmps30
 go_upto_region 1 with fail;rw[←hW];clear hW;have kv:=kV W HW.out.1;clear kV
 go_wp2_with fail;refine kv.mono ?_;rintro r w2 ⟨rfl,hb2⟩;have HB:Hid (Bw w w2):=HW.out.1.trans (hb2.mono HW.out.1.size);clear c0 c1 c2 c3 c4 c5 kv;obtain⟨c0,c1,c2,c3,c4,c5⟩:=qX6 (qQ HW.out.2 hb2 (qQ6 HW.out.2));clear hb2 HW;have kC:=zC9 0 13830554455654793216 (by decide) (by decide) w2
 rw[show sig (Go.Fl64.neg 13830554455654793216) (mag 0)=9223372036854775808 by decide] at kC
 cases z
 ·simp at hF
  subst hF
  go_wp2_with fail
  go_ret;exact⟨rfl,HB.out⟩
 ·cases neg
  ·simp at hF
   subst hF
   go_wp2_with fail
   go_ret;exact⟨rfl,HB.out⟩
  ·simp at hF
   subst hF
   go_wp2_with (refine kC.mono ?_;rintro r w' ⟨rfl,hw⟩;replace hw:=hw.symm;subst hw)
   go_ret;exact⟨rfl,HB.out⟩
def RdO (F:Nat) (E:Int) (w:World) (r:Ending) (w':World):Prop:=r=.returned (.tuple #[.float .f64 F,.int .i64 E])∧Bw w w'
theorem zJ3 (R:ByteArray) (m:Int) (w:World) (h:¬ (1≤m∧m≤3)):Calls Tryz.prog 12 #[.string R,.int .i64 m] w fun r w'=>RdO 0 1 w r w':=by
 have k0:=yZ0 m w;rw[xL3 h] at k0
 go_enter Tryz.func12,Tryz.ntmps12
 go_wp2_with (refine k0.mono ?_;rintro r w' ⟨rfl,hw⟩;replace hw:=hw.symm;subst hw)
 refine xW9 (xE3 rfl _ _ _) rfl ?_;exact⟨rfl,xL1 _ _⟩
theorem zJ4 (R:ByteArray) (m:Int) (w:World) (h:1≤m∧m≤3) (hL:(1048576:Int)<(R.size:Int)):Calls Tryz.prog 12 #[.string R,.int .i64 m] w fun r w'=>RdO 0 2 w r w':=by
 have k0:=yZ0 m w;rw[xL4 h] at k0
 go_enter Tryz.func12,Tryz.ntmps12
 go_wp2_with (refine k0.mono ?_;rintro r w' ⟨rfl,hw⟩;replace hw:=hw.symm;subst hw)
 refine xW9 (xE3 rfl _ _ _) rfl ?_;exact⟨rfl,xL1 _ _⟩
theorem qD2 (s:ByteArray) (m:Int) (w:World) (n l:Nat) (t0 t2:Bool) (t1 t3:ByteArray) (t4 t5 k:Int) (F:Nat) (E:Int) (h:1≤m∧m≤3) (hn:s.size=n) (hL:n≤1048576)
  (kT:∀ W,Calls Tryz.prog 28 #[.string s] W fun r w'=>r=.returned (.tuple #[.agg #[.bool t0,.string t1,.bool t2,.string t3,.int .i64 t4,.int .i64 t5],.int .i64 k])∧Bw W w')
  (h3:t3.size=l) (hc:Hid (((k=0∨k≠n)∧F=0∧E=3)∨(k≠0∧k=n∧1100<l∧F=0∧E=2)∨(k≠0∧k=n∧l≤1100∧E=0)))
  (kF:Hid (k≠0→k=n→l≤1100→∀ W,Calls Tryz.prog 30 #[.agg #[.bool t0,.string t1,.bool t2,.string t3,.int .i64 t4,.int .i64 t5],.int .i64 m] W fun r w'=>r=.returned (.float .f64 F)∧Bw W w')) :
  Calls Tryz.prog 12 #[.string s,.int .i64 m] w fun r w'=>RdO F E w r w':=by
 have k0:=yZ0 m w;rw[xL4 h] at k0;have hle:¬ (1048576:Int)<(n:Int):=by omega
 have kt:=kT w;clear kT
 go_enter Tryz.func12,Tryz.ntmps12
 go_wp2_with (go_at_call 29;refine k0.mono ?_;rintro r w' ⟨rfl,hw⟩;replace hw:=hw.symm;subst hw)
 refine kt.mono ?_;rintro r w2 ⟨rfl,hb2⟩;clear kt;obtain⟨V,hV⟩:∃ V,V=w2.alloc (.cells #[.bool t0,.string t1,.bool t2,.string t3,.int .i64 t4,.int .i64 t5] 64):=⟨_,rfl⟩;obtain⟨g,hg⟩:∃ g,g=w2.heap.size:=⟨_,rfl⟩;have HV:Hid (V.heap[g]?=some (.cells #[.bool t0,.string t1,.bool t2,.string t3,.int .i64 t4,.int .i64 t5] 64 (0,0))∧Bw w V):=by
  have hbV:Bw w2 V:=by rw[hV];exact(xL1 _ _).alloc (xL0 _) _
  exact⟨by rw[hV,hg];exact xW8 _ _,hb2.trans (hbV.mono hb2.size)⟩
 go_upto_region 6 with fail;rw[←hV,←hg];clear hV hg hb2;obtain⟨c0,c1,c2,c3,c4,c5⟩:=qX6 HV.out.1;rcases hc.out with ⟨hk,rfl,rfl⟩|⟨hk0,hkn,hl,rfl,rfl⟩|⟨hk0,hkn,hl,rfl⟩
 ·by_cases hk0:k=0
  ·subst hk0;clear hk
   go_wp2_with fail;refine xW9 (xE3 rfl _ _ _) rfl ?_;exact⟨rfl,HV.out.2⟩
  ·have hk1:¬ k=(n:Int):=hk.resolve_left hk0;have hk2:(k != (n:Int))=true:=by rw[bne_iff_ne];exact hk1
   have hk3:(k==0)=false:=by rw[xC2];exact hk0
   clear hk hk1 hc kF
   go_wp2_with fail;refine xW9 (xE3 rfl _ _ _) rfl ?_;exact⟨rfl,HV.out.2⟩
 ·subst hkn;have hl1:(1100:Int)<(l:Int):=by omega
  clear hl
  go_wp2_with fail;refine xW9 (xE3 rfl _ _ _) rfl ?_;exact⟨rfl,HV.out.2⟩
 ·have kf:=kF.out hk0 hkn hl V;subst hkn;have hl1:¬ (1100:Int)<(l:Int):=by omega
  clear hl kF
  go_wp2_with fail;refine kf.mono ?_;rintro r w3 ⟨rfl,hb3⟩;have HB:Hid (Bw w w3):=HV.out.2.trans (hb3.mono HV.out.2.size);clear kf hb3
  go_wp2_with fail;refine xW9 (xE3 rfl _ _ _) rfl ?_;exact⟨rfl,HB.out⟩
theorem qA3 {c:Nat} {b:Int} (hb:b=10∨b=16):(0≤dgF c∧dgF c<b)↔isDg c b=true:=by
 unfold dgF isDg;rcases hb with rfl|rfl
 ·simp only[Bool.or_eq_true,xC,decide_eq_true_eq,beq_iff_eq];constructor
  ·intro h;split at h
   ·left;omega
   ·split at h
    ·omega
    ·split at h <;> omega
  ·intro h;rcases h with h|h
   ·rw[if_pos h];omega
   ·omega
 ·simp only[Bool.or_eq_true,xC,decide_eq_true_eq,beq_iff_eq];constructor
  ·intro h;split at h
   ·left;omega
   ·split at h
    ·exact .inr ⟨.inl (by omega),trivial⟩
    ·split at h
     ·exact .inr ⟨.inr (by omega),trivial⟩
     ·omega
  ·intro h;split
   ·omega
   ·split
    ·omega
    ·split
     ·omega
     ·omega
theorem zB9 {b:Int}:isDg 46 b=false:=by unfold isDg;simp
def qH4 (b:Int) (dt:Bool) (R:List UInt8):Prop:=R = []∨∃ c R',R=c :: R'∧isDg c.toNat b=false∧(dt=false→c≠46)
theorem sp2 {b:Int} (hb:b=10∨b=16):∀ (T out:List UInt8) (dot:Int) (k:Nat),0≤dot→∃ B R,T=B++R∧qZ8 B b=true∧qH4 b true R∧spG b out dot T k=(out++B,dot,k+B.length)
 | [],out,dot,k,h=>⟨[],[],rfl,rfl,.inl rfl,by simp[spG]⟩
 | c :: T,out,dot,k,h=>by
  by_cases hd:isDg c.toNat b=true
  ·obtain⟨B,R,h1,h2,h3,h4⟩:=sp2 hb T (out ++ [c]) dot (k+1) h;refine⟨c :: B,R,by rw[h1];rfl,?_,h3,?_⟩
   ·unfold qZ8 at h2 ⊢;rw[List.all_cons,xC];exact⟨hd,h2⟩
   ·unfold spG;rw[if_neg (by omega),if_pos ((qA3 hb).2 hd),h4]
    simp;omega
  ·refine⟨[],c :: T,rfl,rfl,.inr ⟨c,T,rfl,by simpa using hd,fun h=>by cases h⟩,?_⟩
   unfold spG;rw[if_neg (by omega),if_neg (fun h=>hd ((qA3 hb).1 h))]
   simp
def dtL (dt:Bool) (B:List UInt8):List UInt8:=if dt then 46 :: B else []
theorem sp1 {b:Int} (hb:b=10∨b=16):∀ (T out:List UInt8) (k:Nat),∃ A B dt R,T=A++dtL dt B++R∧qZ8 A b=true∧qZ8 B b=true∧(dt=false→B = [])∧qH4 b dt R ∧
  spG b out (-1) T k=(out++A++B,(if dt then((out.length+A.length:Nat):Int)else -1),k+(A++dtL dt B).length)
 | [],out,k=>⟨[],[],false,[],rfl,rfl,rfl,fun _=>rfl,.inl rfl,by simp[spG,dtL]⟩
 | c :: T,out,k=>by
  by_cases h46:c=46
  ·subst h46;obtain⟨B,R,h1,h2,h3,h4⟩:=sp2 hb T out out.length (k+1) (by omega)
   refine⟨[],B,true,R,by rw[h1];rfl,rfl,h2,(fun h=>by cases h),h3,?_⟩
   unfold spG;rw[if_pos ⟨rfl,by decide⟩,h4]
   simp[dtL];omega
  ·by_cases hd:isDg c.toNat b=true
   ·obtain⟨A,B,dt,R,h1,h2,h3,h4,h5,h6⟩:=sp1 hb T (out ++ [c]) (k+1);refine⟨c :: A,B,dt,R,by rw[h1];rfl,?_,h3,h4,h5,?_⟩
    ·unfold qZ8 at h2 ⊢;rw[List.all_cons,xC];exact⟨hd,h2⟩
    ·unfold spG;rw[if_neg (fun h=>h46 h.1),if_pos ((qA3 hb).2 hd),h6];simp
     refine⟨?_,by omega⟩
     split <;> omega
   ·refine⟨[],[],false,c :: T,rfl,rfl,rfl,fun _=>rfl,.inr ⟨c,T,rfl,by simpa using hd,fun _=>h46⟩,?_⟩
    unfold spG;rw[if_neg (fun h=>h46 h.1),if_neg (fun h=>hd ((qA3 hb).1 h))];simp[dtL]
theorem bh_dt {A B:List UInt8} {dt:Bool} (h:dt=false→B = []):bhN (A++B).length (if dt then((0+A.length:Nat):Int)else -1)=(B.length:Nat):=by
 unfold bhN;cases dt
 ·rw[h rfl];simp
 ·simp;omega
theorem qH {b:Int}:∀ {P A:List UInt8} {u v:UInt8} {U V:List UInt8},qZ8 P b=true→qZ8 A b=true→isDg u.toNat b=false→isDg v.toNat b=false→P++u :: U=A++v :: V→P=A∧u=v∧U=V
 | [],[],u,v,U,V,_,_,_,_,h=>by
  simp at h
  exact⟨rfl,h.1,h.2⟩
 | [],a :: A,u,v,U,V,_,hA,hu,_,h=>by
  simp at h
  unfold qZ8 at hA;rw[List.all_cons,xC] at hA;rw[h.1] at hu;rw[hA.1] at hu;cases hu
 | p :: P,[],u,v,U,V,hP,_,_,hv,h=>by
  simp at h
  unfold qZ8 at hP;rw[List.all_cons,xC] at hP;rw[←h.1] at hv;rw[hP.1] at hv;cases hv
 | p :: P,a :: A,u,v,U,V,hP,hA,hu,hv,h=>by
  simp at h
  unfold qZ8 at hP hA;rw[List.all_cons,xC] at hP hA;obtain⟨h1,h2,h3⟩:=qH (b:=b) (P:=P) (A:=A) (by unfold qZ8;exact hP.2) (by unfold qZ8;exact hA.2) hu hv h.2
  exact⟨by rw[h.1,h1],h2,h3⟩
theorem zX2 {A B:List UInt8} {b:Int}:qZ8 (A++B) b=(qZ8 A b&&qZ8 B b):=by unfold qZ8;rw[List.all_append]
theorem qY7 {A:List UInt8} {b:Int} (h:qZ8 A b=true):∀ c ∈ A,isDg c.toNat b=true:=by
 unfold qZ8 at h;exact List.all_eq_true.1 h
theorem zA3 {c:UInt8}:∀ {A T:List UInt8},(∀ x ∈ A,x≠c)→Lib.indexByte (A++c :: T) c=(A.length:Nat)
 | [],T,_=>by simp[Lib.indexByte]
 | a :: A,T,h=>by
  have h1:=zA3 (A:=A) (T:=T) (fun x hx=>h x (List.mem_cons_of_mem _ hx));have h2:(a==c)=false:=by rw[xC2];exact h a (List.mem_cons_self ..)
  rw[List.cons_append];unfold Lib.indexByte;rw[h2,h1];simp
theorem zF6 {c:UInt8}:∀ {A:List UInt8},(∀ x ∈ A,x≠c)→Lib.indexByte A c = -1
 | [],_=>rfl
 | a :: A,h=>by
  have h1:=zF6 (A:=A) (fun x hx=>h x (List.mem_cons_of_mem _ hx));have h2:(a==c)=false:=by rw[xC2];exact h a (List.mem_cons_self ..)
  unfold Lib.indexByte;rw[h2,h1];simp
theorem zA4 {M:List UInt8} {c:UInt8} (hc:M.contains c=true):∀ {A T:List UInt8},(∀ x ∈ A,M.contains x=false)→Lib.indexAny (A++c :: T) M=(A.length:Nat)
 | [],T,_=>by rw[List.nil_append];unfold Lib.indexAny;rw[if_pos hc];rfl
 | a :: A,T,h=>by
  have h1:=zA4 hc (A:=A) (T:=T) (fun x hx=>h x (List.mem_cons_of_mem _ hx));have h2:=h a (List.mem_cons_self ..);rw[List.cons_append];unfold Lib.indexAny;rw[h2,h1];simp
theorem zF7 {M:List UInt8}:∀ {A:List UInt8},(∀ x ∈ A,M.contains x=false)→Lib.indexAny A M = -1
 | [],_=>rfl
 | a :: A,h=>by
  have h1:=zF7 (A:=A) (fun x hx=>h x (List.mem_cons_of_mem _ hx));have h2:=h a (List.mem_cons_self ..);unfold Lib.indexAny;rw[h2,h1];simp
theorem zN0 {A:List UInt8} {b:Int} (h:qZ8 A b=true):∀ x ∈ A,x≠(46:UInt8):=fun x hx e=>by
 have:=qY7 h x hx
 rw[e] at this;rw[show((46:UInt8).toNat)=46 from rfl,zB9] at this;cases this
theorem cu_dt {A B:List UInt8} {dt:Bool} {b:Int} (hA:qZ8 A b=true) (hB:dt=false→B = []):cuA (A++dtL dt B)=A∧cuB (A++dtL dt B)=B:=by
 cases dt
 ·rw[hB rfl];have e:A++dtL false ([]:List UInt8)=A:=by simp[dtL]
  rw[e];unfold cuA cuB;rw[zF6 (zN0 hA),if_pos (by decide),if_pos (by decide)]
  exact⟨rfl,rfl⟩
 ·have e:A++dtL true B=A++46 :: B:=rfl;rw[e];unfold cuA cuB;rw[zA3 (zN0 hA),if_neg (by omega),if_neg (by omega),xC9]
  constructor
  ·simp
  ·rw[List.drop_append,List.drop_eq_nil_of_le (by omega)]
   simp
theorem xP0 {A B R:List UInt8} {dt:Bool} {b:Int} {c:UInt8} (hA:qZ8 A b=true) (hB:qZ8 B b=true) (hdt:dt=false→B = []) (hc:isDg c.toNat b=false) (h46:dt=false→c≠46) :
  dgO b (cuA (A++dtL dt B++c :: R)++cuB (A++dtL dt B++c :: R))=false:=by
 cases hq:dgO b (cuA (A++dtL dt B++c :: R)++cuB (A++dtL dt B++c :: R)) with
 | false=>rfl
 | true =>
  exfalso;unfold dgO at hq;rw[xC,zX2,xC] at hq;obtain⟨⟨h1,h2⟩,-⟩:=hq;have hdn:isDg (46:UInt8).toNat b=false:=zB9;rcases yZ3 (A++dtL dt B++c :: R)with ⟨-,h3,-⟩|h3
  ·rw[h3] at h1;have:=qY7 h1 c (by simp)
   rw[hc] at this;cases this
  ·cases dt
   ·have e:A++dtL false B++c :: R=A++c :: R:=by simp[dtL]
    rw[e] at h1 h2 h3;obtain⟨-,h5,-⟩:=qH hA h1 hc hdn h3;exact h46 rfl h5
   ·have e:A++dtL true B++c :: R=A++46 :: (B++c :: R):=by simp[dtL]
    rw[e] at h1 h2 h3;obtain⟨-,-,h5⟩:=qH hA h1 hdn hdn h3;rw[←h5] at h2;have:=qY7 h2 c (by simp)
    rw[hc] at this;cases this
theorem qV1 (L:List UInt8) (a k:Nat):bL (L.drop a) k=bL L (a+k):=by unfold bL;rw[List.getElem?_drop]
theorem yY5 {A R:List UInt8} {k:Nat} (h:k<A.length):bL (A++R) k=bL A k:=by unfold bL;rw[List.getElem?_append_left h]
theorem xR3 {A R:List UInt8} {c:UInt8}:bL (A++c :: R) A.length=c.toNat:=by
 unfold bL;rw[List.getElem?_append_right (xL0 _),Nat.sub_self];rfl
theorem yE {L G:List UInt8} {a:Nat} (hG:G=L.drop a):∀ k,rdE G k=min (rdX L a k) 6000
 | 0=>rfl
 | k+1=>by
  have h1:=yE hG k;have h2:bL G k=bL L (a+k):=by rw[hG,qV1]
  show min (10*rdE G k+(bL G k - 48)) 6000=min (min (10*rdX L a k+(bL L (a+k) - 48)) 1000000000) 6000
  rw[h1,h2];omega
def ExA (L:List UInt8) (n p:Nat) (val:Int) (e:Nat) (ok:Bool):Prop :=
 (∀ w,Calls Tryz.prog 54 #[.string ⟨L.toArray⟩,.int .i64 p] w fun r w'=>r=.returned (.tuple #[.int .i64 val,.int .i64 e,.bool ok])∧w'=w)∧e≤n∧(-1000000000≤val∧val≤1000000000) ∧
 (exO (L.drop p)=true→ok=true∧e=n∧exX (L.drop p)=max (-6000) (min 6000 val))∧(exO (L.drop p)=false→ok=false∨e≠n)
theorem zB5 {L:List UInt8} {n p a:Nat} {sg:Int} (hn:n=L.length) (hL:n≤2000000) (hap:p≤a) (han:a≤n) (hG:csD (L.drop p)=L.drop a) (hS:csS (L.drop p)=sg) (hsg:sg=1∨sg = -1)
  (k:∀ e w,a≤e→e≤n→(∀ k,a≤k→k<e→48≤bL L k∧bL L k≤57)→(e<n→bL L e<48∨57<bL L e)→Calls Tryz.prog 54 #[.string ⟨L.toArray⟩,.int .i64 p] w fun r w'=>r=.returned (.tuple #[.int .i64 (sg*(rdX L a (e - a):Nat)),.int .i64 e,.bool (decide (a<e))])∧w'=w) :
  ∃ val e ok,ExA L n p val e ok:=by
 obtain⟨A,R,hAR,hA,hR,-⟩:=sp2 (b:=10) (.inl rfl) (L.drop a) [] 0 0 (by omega)
 have hlen:A.length+R.length=n - a:=by
  have:=congrArg List.length hAR
  rw[List.length_drop,xE0] at this;omega
 have hdig:∀ k,a≤k→k<a+A.length→48≤bL L k∧bL L k≤57:=by
  intro k h1 h2;have e1:bL L k=bL A (k - a):=by
   rw[←yY5 (R:=R) (show k - a<A.length by omega),←hAR,qV1]
   congr 1
   omega
  rw[e1];exact qR8 ((qU1 _ _).1 hA (k - a) (by omega))
 have hstop:a+A.length<n→bL L (a+A.length)<48∨57<bL L (a+A.length):=by
  intro h;rcases hR with h0|⟨c,R',h1,h2,-⟩
  ·rw[h0,List.length_nil] at hlen;omega
  ·have e1:bL L (a+A.length)=c.toNat:=by rw[←qV1,hAR,h1,xR3]
   rw[e1];unfold isDg at h2;simp at h2
   omega
 have hX:=zC1 L a A.length;refine⟨sg*(rdX L a (a+A.length - a):Nat),a+A.length,decide (a<a+A.length),fun w=>k (a+A.length) w (by omega) (by omega) hdig hstop,by omega,?_,?_,?_⟩
 ·rw[Nat.add_sub_cancel_left];rcases hsg with rfl|rfl <;> omega
 ·intro h;unfold exO dgO at h;rw[hG,xC] at h;have hR0:R = []:=by
   rcases hR with h0|⟨c,R',h1,h2,-⟩
   ·exact h0
   ·have h3:=qY7 h.1 c (by rw[hAR,h1];simp)
    rw[h2] at h3;cases h3
  have hne:L.drop a ≠ []:=of_decide_eq_true h.2;have hA0:A.length≠0:=by
   intro h9;rw[hR0,List.append_nil] at hAR;exact hne (by rw[hAR];exact List.length_eq_zero_iff.1 h9)
  rw[hR0,List.length_nil] at hlen;refine⟨xL4 (by omega),by omega,?_⟩
  unfold exX;have hexo:exO (L.drop p)=true:=by
   unfold exO dgO;rw[hG,xC];exact h
  rw[if_pos hexo,hS,hG,yE (a:=a) rfl,List.length_drop,Nat.add_sub_cancel_left];have e2:L.length - a=A.length:=by omega
  rw[e2];rcases hsg with rfl|rfl <;> omega
 ·intro h;rcases hR with h0|⟨c,R',h1,h2,-⟩
  ·left
   unfold exO dgO at h;rw[hG] at h;rw[h0,List.append_nil] at hAR;rw[hAR,hA,Bool.true_and] at h;have h3:=of_decide_eq_false h;have h4:A = []:=Classical.not_not.1 h3;rw[h4];exact xL3 (by simp)
  ·right
   rw[h1,List.length_cons] at hlen;omega
theorem yZ2 (L:List UInt8) (n p:Nat) (hn:n=L.length) (hL:n≤2000000) (hp:p≤n):∃ val e ok,ExA L n p val e ok:=by
 have kP:∀ a e w,a≤e→e≤n→(∀ k,a≤k→k<e→48≤bL L k∧bL L k≤57)→(e<n→bL L e<48∨57<bL L e)→((p=n∧a=p)∨(p<n∧bL L p=43∧a=p+1)∨(p<n∧(bL L p≠45∧bL L p≠43)∧a=p))→Calls Tryz.prog 54 #[.string ⟨L.toArray⟩,.int .i64 p] w fun r w'=>r=.returned (.tuple #[.int .i64 (1*(rdX L a (e - a):Nat)),.int .i64 e,.bool (decide (a<e))])∧w'=w:=by
  intro a e w h1 h2 h3 h4 h5;have h9:=qA9 L n p a e false w hn hL (by omega) h1 h2 (by rcases h5 with h|h|h;exact .inl ⟨h.1,h.2,rfl⟩;exact .inr (.inr (.inl ⟨h.1,h.2.1,h.2.2,rfl⟩));exact .inr (.inr (.inr ⟨h.1,h.2.1,h.2.2,rfl⟩))) h3 h4
  rw[if_neg (by decide)] at h9
  rw[Int.one_mul];exact h9
 by_cases hpn:p=n
 ·refine zB5 (a:=p) (sg:=1) hn hL (xL0 _) hp ?_ ?_ (.inl rfl) (fun e w h1 h2 h3 h4=>kP p e w h1 h2 h3 h4 (.inl ⟨hpn,rfl⟩))
  ·rw[List.drop_eq_nil_of_le (by omega)];rfl
  ·rw[List.drop_eq_nil_of_le (by omega)];rfl
 ·obtain⟨c,hc,hcb⟩:=zK8 (L:=L) (k:=p) (by omega)
  by_cases h45:c=45
  ·refine zB5 (a:=p+1) (sg := -1) hn hL (by omega) (by omega) ?_ ?_ (.inr rfl) (fun e w h1 h2 h3 h4=>?_)
   ·rw[hc,h45];rfl
   ·rw[hc,h45];rfl
   ·have h9:=qA9 L n p (p+1) e true w hn hL (by omega) h1 h2 (.inr (.inl ⟨by omega,by rw[←hcb,h45];rfl,rfl,rfl⟩)) h3 h4
    rw[if_pos rfl] at h9;rw[Int.neg_one_mul];exact h9
  ·by_cases h43:c=43
   ·refine zB5 (a:=p+1) (sg:=1) hn hL (by omega) (by omega) ?_ ?_ (.inl rfl) (fun e w h1 h2 h3 h4=>kP (p+1) e w h1 h2 h3 h4 (.inr (.inl ⟨by omega,by rw[←hcb,h43];rfl,rfl⟩)))
    ·rw[hc,h43];rfl
    ·rw[hc,h43];rfl
   ·have hh:¬ ((L.drop p).head?=some 45)∧¬ ((L.drop p).head?=some 43):=by
     rw[hc];exact⟨fun h=>h45 (xL2 h),fun h=>h43 (xL2 h)⟩
    refine zB5 (a:=p) (sg:=1) hn hL (xL0 _) hp ?_ ?_ (.inl rfl) (fun e w h1 h2 h3 h4=>kP p e w h1 h2 h3 h4 (.inr (.inr ⟨by omega,⟨fun h=>h45 (UInt8.toNat_inj.1 (by rw[hcb,h];rfl)),fun h=>h43 (UInt8.toNat_inj.1 (by rw[hcb,h];rfl))⟩,rfl⟩)))
    ·unfold csD;rw[if_neg (fun h=>h.elim hh.1 hh.2)]
    ·unfold csS;rw[if_neg hh.1]
theorem qB6 {W:World} {g:Nat} {a b c d e f:Value} {T:TypeId} (h:W.heap[g]?=some (.cells #[a,b,c,d,e,f] T (0,0))):W.frozen? ⟨g,0,none⟩=false∧W.frozen? ⟨g,1,none⟩=false∧W.frozen? ⟨g,2,none⟩=false∧W.frozen? ⟨g,3,none⟩=false∧W.frozen? ⟨g,4,none⟩=false∧W.frozen? ⟨g,5,none⟩=false:=by
 simp[World.frozen?,h]
def TkB (w wx:World) (C:Array Value):Prop:=wx.heap[w.heap.size]?=some (.cells #[.bool false,.string ⟨#[]⟩,.bool false,.string ⟨#[]⟩,.int .i64 0,.int .i64 0] 64 (0,0))∧wx.heap[w.heap.size+1]?=some (.cells C 64 (0,0))∧Bw w wx
theorem TkB.later {w wx w':World} {C:Array Value} (h:TkB w wx C) (hb:Bw wx w'):TkB w w' C:=⟨qQ h.1 hb (qQ6 h.1),qQ h.2.1 hb (qQ6 h.2.1),h.2.2.trans (hb.mono h.2.2.size)⟩
theorem TkB.put0 {w wx:World} {a b c d e f:Value} (h:TkB w wx #[a,b,c,d,e,f]) (x:Value):TkB w (wx.setCell ⟨w.heap.size+1,0,none⟩ x) #[x,b,c,d,e,f]:=by
 obtain⟨h1,h2,h3⟩:=h;refine⟨?_,?_,h3.setCell (show w.heap.size≤w.heap.size+1 by omega) _⟩
 ·simp[World.setCell,Array.getElem?_modify,h1]
 ·simp[World.setCell,Array.getElem?_modify,h2]
theorem TkB.put1 {w wx:World} {a b c d e f:Value} (h:TkB w wx #[a,b,c,d,e,f]) (x:Value):TkB w (wx.setCell ⟨w.heap.size+1,1,none⟩ x) #[a,x,c,d,e,f]:=by
 obtain⟨h1,h2,h3⟩:=h;refine⟨?_,?_,h3.setCell (show w.heap.size≤w.heap.size+1 by omega) _⟩
 ·simp[World.setCell,Array.getElem?_modify,h1]
 ·simp[World.setCell,Array.getElem?_modify,h2]
theorem TkB.put2 {w wx:World} {a b c d e f:Value} (h:TkB w wx #[a,b,c,d,e,f]) (x:Value):TkB w (wx.setCell ⟨w.heap.size+1,2,none⟩ x) #[a,b,x,d,e,f]:=by
 obtain⟨h1,h2,h3⟩:=h;refine⟨?_,?_,h3.setCell (show w.heap.size≤w.heap.size+1 by omega) _⟩
 ·simp[World.setCell,Array.getElem?_modify,h1]
 ·simp[World.setCell,Array.getElem?_modify,h2]
theorem TkB.put3 {w wx:World} {a b c d e f:Value} (h:TkB w wx #[a,b,c,d,e,f]) (x:Value):TkB w (wx.setCell ⟨w.heap.size+1,3,none⟩ x) #[a,b,c,x,e,f]:=by
 obtain⟨h1,h2,h3⟩:=h;refine⟨?_,?_,h3.setCell (show w.heap.size≤w.heap.size+1 by omega) _⟩
 ·simp[World.setCell,Array.getElem?_modify,h1]
 ·simp[World.setCell,Array.getElem?_modify,h2]
theorem TkB.put4 {w wx:World} {a b c d e f:Value} (h:TkB w wx #[a,b,c,d,e,f]) (x:Value):TkB w (wx.setCell ⟨w.heap.size+1,4,none⟩ x) #[a,b,c,d,x,f]:=by
 obtain⟨h1,h2,h3⟩:=h;refine⟨?_,?_,h3.setCell (show w.heap.size≤w.heap.size+1 by omega) _⟩
 ·simp[World.setCell,Array.getElem?_modify,h1]
 ·simp[World.setCell,Array.getElem?_modify,h2]
theorem TkB.put5 {w wx:World} {a b c d e f:Value} (h:TkB w wx #[a,b,c,d,e,f]) (x:Value):TkB w (wx.setCell ⟨w.heap.size+1,5,none⟩ x) #[a,b,c,d,e,x]:=by
 obtain⟨h1,h2,h3⟩:=h;refine⟨?_,?_,h3.setCell (show w.heap.size≤w.heap.size+1 by omega) _⟩
 ·simp[World.setCell,Array.getElem?_modify,h1]
 ·simp[World.setCell,Array.getElem?_modify,h2]
theorem qR4 {W:World} {g:Nat} {a b c d e f:Value} {T:TypeId} (h:W.heap[g]?=some (.cells #[a,b,c,d,e,f] T (0,0))) (x0 x1 x2 x3 x4 x5:Value):((((((W.setCell ⟨g,0,none⟩ x0).setCell ⟨g,1,none⟩ x1).setCell ⟨g,2,none⟩ x2).setCell ⟨g,3,none⟩ x3).setCell ⟨g,4,none⟩ x4).setCell ⟨g,5,none⟩ x5).heap[g]?=some (.cells #[x0,x1,x2,x3,x4,x5] T (0,0)):=by
 simp[World.setCell,Array.getElem?_modify,h]
theorem zN7 {B:Nat} {w w':World} {g:Nat} (h:Below B w w') (hg:B≤g) (x0 x1 x2 x3 x4 x5:Value):Below B w ((((((w'.setCell ⟨g,0,none⟩ x0).setCell ⟨g,1,none⟩ x1).setCell ⟨g,2,none⟩ x2).setCell ⟨g,3,none⟩ x3).setCell ⟨g,4,none⟩ x4).setCell ⟨g,5,none⟩ x5) :=
 (((((h.setCell hg _).setCell hg _).setCell hg _).setCell hg _).setCell hg _).setCell hg _
def TkO (w:World) (C:Array Value) (k:Int) (r:Ending) (w':World):Prop:=r=.returned (.tuple #[.agg C,.int .i64 k])∧Bw w w'
theorem qK (L:List UInt8) (R:ByteArray) (n a:Nat) (neg sg iw hx re:Bool) (wd t1 t3:ByteArray) (t2:Bool) (t4 t5 kk:Int) (w:World)
  (hR:Hid (R=⟨L.toArray⟩)) (hn:R.size=n) (hL:n≤1048576) (hRe:R.toList.isEmpty=re)
  (hsg:Hid ((sg=false∧a=0∧neg=false∧(re=true∨(re=false∧0<n∧bL L 0≠43∧bL L 0≠45)))∨(sg=true∧a=1∧0<n∧re=false∧((bL L 0=45∧neg=true)∨(bL L 0=43∧neg=false)))))
  (hiw:Hid ((n<a+3∧iw=false)∨(a+3≤n∧R.extract a (a+3)=wd∧((iw=true∧(wd.toList == [105,110,102])=true)∨(iw=true∧(wd.toList == [105,110,102])=false∧(wd.toList == [110,97,110])=true)∨(iw=false∧(wd.toList == [105,110,102])=false∧(wd.toList == [110,97,110])=false)))))
  (hW:Hid (iw=true→t1=wd∧t2=false∧t3=⟨#[]⟩∧t4=0∧t5=0∧kk=((a+3:Nat):Int)))
  (hhx:Hid ((n<a+2∧hx=false)∨(a+2≤n∧((hx=false∧bL L a≠48)∨(bL L a=48∧((hx=true∧bL L (a+1)=120)∨(hx=true∧bL L (a+1)≠120∧bL L (a+1)=88)∨(hx=false∧bL L (a+1)≠120∧bL L (a+1)≠88)))))))
  (dH dD:ByteArray) (bH bD vH vD:Int) (eH lH eD lD:Nat) (mH oH mD oD zH zD:Bool) (hzH:dH.toList.isEmpty=zH) (hzD:dD.toList.isEmpty=zD) (heH:eH≤n) (heD:eD≤n)
  (kH:Hid (hx=true→∀ W,Calls Tryz.prog 53 #[.string R,.int .i64 ((a+2:Nat):Int),.int .i64 16] W fun r w'=>r=.returned (.tuple #[.string dH,.int .i64 bH,.int .i64 (eH:Nat)])∧Bw W w'))
  (hmH:Hid ((mH=true∧zH=false∧eH<n∧(bL L eH=112∨(bL L eH≠112∧bL L eH=80)))∨(mH=false∧(zH=true∨(zH=false∧n≤eH)∨(zH=false∧eH<n∧bL L eH≠112∧bL L eH≠80)))))
  (kHe:Hid (mH=true→∀ W,Calls Tryz.prog 54 #[.string R,.int .i64 ((eH+1:Nat):Int)] W fun r w'=>r=.returned (.tuple #[.int .i64 vH,.int .i64 (lH:Nat),.bool oH])∧w'=W))
  (hH:Hid (iw=false→hx=true→mH=true→oH=true→t1=⟨#[]⟩∧t2=true∧t3=dH∧t4=bH∧t5=vH∧kk=(lH:Nat)))
  (kD:Hid (∀ W,Calls Tryz.prog 53 #[.string R,.int .i64 (a:Nat),.int .i64 10] W fun r w'=>r=.returned (.tuple #[.string dD,.int .i64 bD,.int .i64 (eD:Nat)])∧Bw W w'))
  (hmD:Hid ((mD=true∧eD<n∧(bL L eD=101∨(bL L eD≠101∧bL L eD=69)))∨(mD=false∧(n≤eD∨(eD<n∧bL L eD≠101∧bL L eD≠69)))))
  (kDe:Hid (mD=true→∀ W,Calls Tryz.prog 54 #[.string R,.int .i64 ((eD+1:Nat):Int)] W fun r w'=>r=.returned (.tuple #[.int .i64 vD,.int .i64 (lD:Nat),.bool oD])∧w'=W))
  (hD:Hid (iw=false→¬ (hx=true∧mH=true∧oH=true)→t1=⟨#[]⟩∧t2=false∧((zD=true∧t3=⟨#[]⟩∧t4=0∧t5=0∧kk=0)∨(zD=false∧t3=dD∧t4=bD∧((mD=true∧oD=true∧t5=vD∧kk=(lD:Nat))∨(¬ (mD=true∧oD=true)∧t5=0∧kk=(eD:Nat))))))) :
  Calls Tryz.prog 28 #[.string R] w fun r w'=>TkO w #[.bool neg,.string t1,.bool t2,.string t3,.int .i64 t4,.int .i64 t5] kk r w':=by
 obtain⟨W,hW0⟩:∃ W,W=(w.alloc (.cells #[.bool false,.string ⟨#[]⟩,.bool false,.string ⟨#[]⟩,.int .i64 0,.int .i64 0] 64)).alloc (.cells #[.bool false,.string ⟨#[]⟩,.bool false,.string ⟨#[]⟩,.int .i64 0,.int .i64 0] 64):=⟨_,rfl⟩;have HW:Hid (TkB w W #[.bool false,.string ⟨#[]⟩,.bool false,.string ⟨#[]⟩,.int .i64 0,.int .i64 0]):=by
  obtain⟨z1,z2,z3,z4⟩:=qG9 _ _ hW0;exact⟨z1,z2,z4⟩
 have hRg:∀ k (h:k<R.size),(R[k]'h).toNat=bL L k:=by rw[hR.out];exact qU0 L
 have HRg:Hid (∀ k (h:k<R.size),(R[k]'h).toNat=bL L k):=hRg;clear hRg
 go_enter Tryz.func28,Tryz.ntmps28
 go_upto_region 2 with fail;rw[←hW0];clear hW0
 go_upto_region 3 with fail
 go_cut [30] from 19 to 29 (fun v wx=>v=.bool sg∧wx=W)
 case first =>
  rcases hsg.out with ⟨rfl,ha,hng,hq|⟨hq,hn0,h43,h45⟩⟩|⟨rfl,ha,hn0,hq,⟨hq2,hng⟩|⟨hq2,hng⟩⟩
  ·subst hq;clear ha hng
   go_wp2_with fail
   go_meet
   exact⟨rfl,rfl⟩
  ·subst hq;have hg0:=HRg.out 0;have h0:0<R.size:=by omega
   obtain⟨c,hc⟩:∃ c,c=bL L 0:=⟨_,rfl⟩;rw[←hc] at hg0 h43 h45;have z1:¬ (c:Int)=43:=by omega
   have z2:¬ (c:Int)=45:=by omega
   clear ha hng hc h43 h45
   go_wp2_with fail
   go_meet
   exact⟨by simp[z1,z2],rfl⟩
  ·subst hq;have hg0:=HRg.out 0;have h0:0<R.size:=by omega
   rw[hq2] at hg0;clear ha hng hq2
   go_wp2_with fail
   go_meet
   exact⟨rfl,rfl⟩
  ·subst hq;have hg0:=HRg.out 0;have h0:0<R.size:=by omega
   rw[hq2] at hg0;clear ha hng hq2
   go_wp2_with fail
   go_meet
   exact⟨rfl,rfl⟩
 case rest =>
 obtain⟨rfl,rfl⟩:=hcut
 go_upto_if 30 with fail
 go_cut [5] from 31 to 34 (fun v wx=>v=.int .i64 (a:Nat)∧Hid (TkB w wx #[.bool neg,.string ⟨#[]⟩,.bool false,.string ⟨#[]⟩,.int .i64 0,.int .i64 0]))
 case first =>
  rcases hsg.out with ⟨rfl,ha,hng,-⟩|⟨rfl,ha,hn0,hq,hq3⟩
  ·subst ha hng
   go_wp2_with fail
   go_meet
   exact⟨rfl,HW⟩
  ·have hg0:=HRg.out 0;have h0:0<R.size:=by omega
   obtain⟨c0,c1,c2,c3,c4,c5⟩:=qX6 HW.out.2.1;obtain⟨f0,f1,f2,f3,f4,f5⟩:=qB6 HW.out.2.1;rcases hq3 with ⟨hq2,hng⟩|⟨hq2,hng⟩
   ·rw[hq2] at hg0;subst ha hng hq;clear hq2;have HP:Hid (TkB w (wc.setCell ⟨w.heap.size+1,0,none⟩ (.bool true)) #[.bool true,.string ⟨#[]⟩,.bool false,.string ⟨#[]⟩,.int .i64 0,.int .i64 0]):=HW.out.put0 _
    go_wp2_with fail
    go_meet
    exact⟨rfl,HP⟩
   ·rw[hq2] at hg0;subst ha hng hq;clear hq2;have HP:Hid (TkB w (wc.setCell ⟨w.heap.size+1,0,none⟩ (.bool false)) #[.bool false,.string ⟨#[]⟩,.bool false,.string ⟨#[]⟩,.int .i64 0,.int .i64 0]):=HW.out.put0 _
    go_wp2_with fail
    go_meet
    exact⟨rfl,HP⟩
 case rest =>
 obtain⟨rfl,HV⟩:=hcut;have ha1:a≤1:=by rcases hsg.out with ⟨-,h,-⟩|⟨-,h,-⟩ <;> omega
 clear HW hsg;obtain⟨a2,ha2⟩:∃ a2,a2=a+2:=⟨_,rfl⟩;obtain⟨a3,ha3⟩:∃ a3,a3=a+3:=⟨_,rfl⟩;obtain⟨aa,ha4⟩:∃ aa,aa=a+1:=⟨_,rfl⟩;have hwa2:IntKind.i64.wrap ((a:Int)+2)=(a2:Int):=by rw[xW6];omega
 have hwa3:IntKind.i64.wrap ((a:Int)+3)=(a3:Int):=by rw[xW6];omega
 have hwa1:IntKind.i64.wrap ((a:Int)+1)=(aa:Int):=by rw[xW6];omega
 rw[←ha2] at kH hhx;rw[←ha3] at hiw hW;rw[←ha4] at hhx;have HA:Hid (a2=a+2∧a3=a+3∧aa=a+1):=⟨ha2,ha3,ha4⟩;clear ha2 ha3 ha4
 go_upto_region 6 with fail
 go_cut [55] from 35 to 54 (fun v wx=>v=.bool iw∧wx=wc)
 case first =>
  clear hH hD hW kH kHe kD kDe hmH hmD hhx;rcases hiw.out with ⟨h1,rfl⟩|⟨h1,h2,⟨rfl,h3⟩|⟨rfl,h3,h4⟩|⟨rfl,h3,h4⟩⟩
  ·have h1':¬ (a3:Int)≤(n:Int):=by omega
   go_wp2_with fail
   go_meet
   exact⟨rfl,rfl⟩
  ·have h1':(a3:Int)≤(n:Int):=by omega
   have ha30:(a:Int)≤(a3:Int):=by have:=HA.out;omega
   go_wp2_with fail
   go_meet
   exact⟨rfl,rfl⟩
  ·have h1':(a3:Int)≤(n:Int):=by omega
   have ha30:(a:Int)≤(a3:Int):=by have:=HA.out;omega
   go_wp2_with fail
   go_meet
   exact⟨rfl,rfl⟩
  ·have h1':(a3:Int)≤(n:Int):=by omega
   have ha30:(a:Int)≤(a3:Int):=by have:=HA.out;omega
   go_wp2_with fail
   go_meet
   exact⟨rfl,rfl⟩
 case rest =>
 obtain⟨rfl,rfl⟩:=hcut;obtain⟨c0,c1,c2,c3,c4,c5⟩:=qX6 HV.out.2.1;obtain⟨f0,f1,f2,f3,f4,f5⟩:=qB6 HV.out.2.1;obtain⟨b0,b1,b2,b3,b4,b5⟩:=qX6 HV.out.1;obtain⟨g0,g1,g2,g3,g4,g5⟩:=qB6 HV.out.1;cases iw
 case true =>
  obtain⟨rfl,rfl,rfl,rfl,rfl,rfl⟩:=hW.out rfl;have h2:a3≤n∧R.extract a a3=t1:=hiw.out.elim (fun h=>absurd h.2 (by decide)) (fun h=>⟨h.1,h.2.1⟩)
  obtain⟨h1,h2⟩:=h2;have h1':(a3:Int)≤(n:Int):=by omega
  have ha30:(a:Int)≤(a3:Int):=by have:=HA.out;omega
  have HP:Hid (TkB w (wc.setCell ⟨w.heap.size+1,1,none⟩ (.string t1)) #[.bool neg,.string t1,.bool false,.string ⟨#[]⟩,.int .i64 0,.int .i64 0]):=HV.out.put1 _;clear hH hD hW kH kHe kD kDe hmH hmD hhx hiw
  go_upto_region 8 with fail;obtain⟨U,hU⟩:∃ U,U=wc.setCell ⟨w.heap.size+1,1,none⟩ (.string t1):=⟨_,rfl⟩;rw[←hU] at HP ⊢;clear hU c0 c1 c2 c3 c4 c5 f0 f1 f2 f3 f4 f5 b0 b1 b2 b3 b4 b5 g0 g1 g2 g3 g4 g5;obtain⟨c0,c1,c2,c3,c4,c5⟩:=qX6 HP.out.2.1;obtain⟨b0,b1,b2,b3,b4,b5⟩:=qX6 HP.out.1;obtain⟨g0,g1,g2,g3,g4,g5⟩:=qB6 HP.out.1
  go_wp2_with fail;refine xW9 (qQ4 rfl _ _ w.heap.size 64 #[.bool neg,.string t1,.bool false,.string ⟨#[]⟩,.int .i64 0,.int .i64 0] (0,0) _ rfl (qR4 HP.out.1 _ _ _ _ _ _) Tryz.underlying64 rfl (by kernel_rfl)) rfl ?_
  exact⟨rfl,zN7 HP.out.2.2 (xL0 _) _ _ _ _ _ _⟩
 case false =>
 clear hW hiw
 go_upto_region 9 with fail
 go_cut [89] from 65 to 88 (fun v wx=>v=.bool hx∧wx=wc)
 case first =>
  clear hH hD kH kHe kD kDe hmH hmD;rcases hhx.out with ⟨h1,rfl⟩|⟨h1,⟨rfl,h2⟩|⟨h2,⟨rfl,h3⟩|⟨rfl,h3,h4⟩|⟨rfl,h3,h4⟩⟩⟩
  ·have h1':¬ (a2:Int)≤(n:Int):=by omega
   go_wp2_with fail
   go_meet
   exact⟨rfl,rfl⟩
  ·have h1':(a2:Int)≤(n:Int):=by omega
   have hga:=HRg.out a;have haR:a<R.size:=by have:=HA.out;omega
   obtain⟨c,hc⟩:∃ c,c=bL L a:=⟨_,rfl⟩;rw[←hc] at hga h2;have z1:¬ (c:Int)=48:=by omega
   clear hc h2
   go_wp2_with fail
   go_meet
   exact⟨by simp[z1],rfl⟩
  ·have h1':(a2:Int)≤(n:Int):=by omega
   have hga:=HRg.out a;have haR:a<R.size:=by have:=HA.out;omega
   have hgb:=HRg.out aa;have hbR:aa<R.size:=by have:=HA.out;omega
   rw[h2] at hga;rw[h3] at hgb;clear h2 h3 
   go_wp2_with fail
   go_meet
   exact⟨rfl,rfl⟩
  ·have h1':(a2:Int)≤(n:Int):=by omega
   have hga:=HRg.out a;have haR:a<R.size:=by have:=HA.out;omega
   have hgb:=HRg.out aa;have hbR:aa<R.size:=by have:=HA.out;omega
   rw[h2] at hga;rw[h4] at hgb;clear h2 h4 h3
   go_wp2_with fail
   go_meet
   exact⟨rfl,rfl⟩
  ·have h1':(a2:Int)≤(n:Int):=by omega
   have hga:=HRg.out a;have haR:a<R.size:=by have:=HA.out;omega
   have hgb:=HRg.out aa;have hbR:aa<R.size:=by have:=HA.out;omega
   rw[h2] at hga;obtain⟨c,hc⟩:∃ c,c=bL L aa:=⟨_,rfl⟩;rw[←hc] at hgb h3 h4;have z1:¬ (c:Int)=120:=by omega
   have z2:¬ (c:Int)=88:=by omega
   clear hc h2 h3 h4
   go_wp2_with fail
   go_meet
   exact⟨by simp[z1,z2],rfl⟩
 case rest =>
 obtain⟨rfl,rfl⟩:=hcut;clear hhx c0 c1 c2 c3 c4 c5 f0 f1 f2 f3 f4 f5 b0 b1 b2 b3 b4 b5 g0 g1 g2 g3 g4 g5;obtain⟨eH1,heH1⟩:∃ x,x=eH+1:=⟨_,rfl⟩;obtain⟨eD1,heD1⟩:∃ x,x=eD+1:=⟨_,rfl⟩;have hwH:IntKind.i64.wrap ((eH:Int)+1)=(eH1:Int):=by rw[xW6];omega
 have hwD:IntKind.i64.wrap ((eD:Int)+1)=(eD1:Int):=by rw[xW6];omega
 rw[←heH1] at kHe;rw[←heD1] at kDe;clear heH1 heD1
 go_upto_if 89 with fail
 go_cut [6,7,8,9,10,11] from 90 to 135 (fun v6 v7 v8 v9 v10 v11 wx=>¬ (hx=true∧mH=true∧oH=true)∧Hid (TkB w wx #[.bool neg,.string ⟨#[]⟩,.bool false,.string ⟨#[]⟩,.int .i64 0,.int .i64 0]))
 case first =>
  clear hD kD kDe hmD;cases hx
  case false =>
   go_wp2_with fail
   go_meet
   exact⟨fun h=>absurd h.1 (by decide),HV⟩
  case true =>
   have kh:=kH.out rfl wc;clear kH
   go_wp2_with fail;refine kh.mono ?_;rintro r w2 ⟨rfl,hb2⟩;have HV2:Hid (TkB w w2 #[.bool neg,.string ⟨#[]⟩,.bool false,.string ⟨#[]⟩,.int .i64 0,.int .i64 0]):=HV.out.later hb2;clear kh hb2 HV
   go_upto_region 11 with fail
   go_cut [117] from 98 to 116 (fun v wx=>v=.bool mH∧wx=w2)
   case first =>
    clear hH kHe;rcases hmH.out with ⟨rfl,hz0,h1,h2|⟨h2,h3⟩⟩|⟨rfl,hz0|⟨hz0,h1⟩|⟨hz0,h1,h2,h3⟩⟩
    ·subst hz0;have hge:=HRg.out eH;have heR:eH<R.size:=by omega
     have h1':(eH:Int)<(n:Int):=by omega
     rw[h2] at hge;clear h2
     go_wp2_with fail
     go_meet
     exact⟨rfl,rfl⟩
    ·subst hz0;have hge:=HRg.out eH;have heR:eH<R.size:=by omega
     have h1':(eH:Int)<(n:Int):=by omega
     rw[h3] at hge;clear h2 h3
     go_wp2_with fail
     go_meet
     exact⟨rfl,rfl⟩
    ·subst hz0
     go_wp2_with fail
     go_meet
     exact⟨rfl,rfl⟩
    ·subst hz0;have h1':¬ (eH:Int)<(n:Int):=by omega
     go_wp2_with fail
     go_meet
     exact⟨rfl,rfl⟩
    ·subst hz0;have hge:=HRg.out eH;have heR:eH<R.size:=by omega
     have h1':(eH:Int)<(n:Int):=by omega
     obtain⟨c,hc⟩:∃ c,c=bL L eH:=⟨_,rfl⟩;rw[←hc] at hge h2 h3;have z1:¬ (c:Int)=112:=by omega
     have z2:¬ (c:Int)=80:=by omega
     clear hc h2 h3
     go_wp2_with fail
     go_meet
     exact⟨by simp[z1,z2],rfl⟩
   case rest =>
   obtain⟨rfl,rfl⟩:=hcut;cases mH
   case false =>
    go_wp2_with fail
    go_meet
    exact⟨fun h=>absurd h.2.1 (by decide),HV2⟩
   case true =>
    have ke:=kHe.out rfl wc;clear kHe hmH
    go_wp2_with fail;refine ke.mono ?_;rintro r w3 ⟨rfl,hw⟩;replace hw:=hw.symm;subst hw;clear ke;cases oH
    case false =>
     clear hH
     go_wp2_with fail
     go_meet
     exact⟨fun h=>absurd h.2.2 (by decide),HV2⟩
    case true =>
     obtain⟨rfl,rfl,rfl,rfl,rfl,rfl⟩:=hH.out (by first|rfl|trivial) (by first|rfl|trivial) (by first|rfl|trivial) (by first|rfl|trivial)
     clear hH;have HP:Hid (TkB w ((((wc.setCell ⟨w.heap.size+1,2,none⟩ (.bool true)).setCell ⟨w.heap.size+1,3,none⟩ (.string t3)).setCell ⟨w.heap.size+1,4,none⟩ (.int .i64 t4)).setCell ⟨w.heap.size+1,5,none⟩ (.int .i64 t5)) #[.bool neg,.string ⟨#[]⟩,.bool true,.string t3,.int .i64 t4,.int .i64 t5]):=(((HV2.out.put2 _).put3 _).put4 _).put5 _;obtain⟨c0,c1,c2,c3,c4,c5⟩:=qX6 HV2.out.2.1;obtain⟨f0,f1,f2,f3,f4,f5⟩:=qB6 HV2.out.2.1
     go_upto_region 18 with fail;obtain⟨U,hU⟩:∃ U,U=(((wc.setCell ⟨w.heap.size+1,2,none⟩ (.bool true)).setCell ⟨w.heap.size+1,3,none⟩ (.string t3)).setCell ⟨w.heap.size+1,4,none⟩ (.int .i64 t4)).setCell ⟨w.heap.size+1,5,none⟩ (.int .i64 t5):=⟨_,rfl⟩;rw[←hU] at HP ⊢;clear hU c0 c1 c2 c3 c4 c5 f0 f1 f2 f3 f4 f5;obtain⟨c0,c1,c2,c3,c4,c5⟩:=qX6 HP.out.2.1;obtain⟨b0,b1,b2,b3,b4,b5⟩:=qX6 HP.out.1;obtain⟨g0,g1,g2,g3,g4,g5⟩:=qB6 HP.out.1
     go_wp2_with fail;refine xW9 (qQ4 rfl _ _ w.heap.size 64 #[.bool neg,.string ⟨#[]⟩,.bool true,.string t3,.int .i64 t4,.int .i64 t5] (0,0) _ rfl (qR4 HP.out.1 _ _ _ _ _ _) Tryz.underlying64 rfl (by kernel_rfl)) rfl ?_
     exact⟨rfl,zN7 HP.out.2.2 (xL0 _) _ _ _ _ _ _⟩
 case rest =>
 obtain⟨hna,HV3⟩:=hcut;obtain⟨rfl,rfl,hdd⟩:=hD.out rfl hna;have HDD:Hid _:=hdd;have kd:=kD.out wc;clear HV hna hdd hD hH kH kHe hmH kD
 go_wp2_with fail;refine kd.mono ?_;rintro r w2 ⟨rfl,hb2⟩;have HV2:Hid (TkB w w2 #[.bool neg,.string ⟨#[]⟩,.bool false,.string ⟨#[]⟩,.int .i64 0,.int .i64 0]):=HV3.out.later hb2;clear kd hb2 HV3;obtain⟨c0,c1,c2,c3,c4,c5⟩:=qX6 HV2.out.2.1;obtain⟨f0,f1,f2,f3,f4,f5⟩:=qB6 HV2.out.2.1;rcases HDD.out with ⟨hz0,rfl,rfl,rfl,rfl⟩|⟨hz0,rfl,rfl,hee⟩
 ·subst hz0;clear HDD kDe hmD;obtain⟨b0,b1,b2,b3,b4,b5⟩:=qX6 HV2.out.1;obtain⟨g0,g1,g2,g3,g4,g5⟩:=qB6 HV2.out.1
  go_wp2_with fail;refine xW9 (qQ4 rfl _ _ w.heap.size 64 #[.bool neg,.string ⟨#[]⟩,.bool false,.string ⟨#[]⟩,.int .i64 0,.int .i64 0] (0,0) _ rfl (qR4 HV2.out.1 _ _ _ _ _ _) Tryz.underlying64 rfl (by kernel_rfl)) rfl ?_
  exact⟨rfl,zN7 HV2.out.2.2 (xL0 _) _ _ _ _ _ _⟩
 ·subst hz0;have HEE:Hid ((mD=true∧oD=true∧t5=vD∧kk=(lD:Nat))∨(¬ (mD=true∧oD=true)∧t5=0∧kk=(eD:Nat))):=hee;clear HDD hee;have HP:Hid (TkB w ((w2.setCell ⟨w.heap.size+1,3,none⟩ (.string t3)).setCell ⟨w.heap.size+1,4,none⟩ (.int .i64 t4)) #[.bool neg,.string ⟨#[]⟩,.bool false,.string t3,.int .i64 t4,.int .i64 0]):=(HV2.out.put3 _).put4 _
  go_upto_region 24 with fail;obtain⟨U,hU⟩:∃ U,U=(w2.setCell ⟨w.heap.size+1,3,none⟩ (.string t3)).setCell ⟨w.heap.size+1,4,none⟩ (.int .i64 t4):=⟨_,rfl⟩;rw[←hU] at HP ⊢;clear hU c0 c1 c2 c3 c4 c5 f0 f1 f2 f3 f4 f5 HV2
  go_cut [165] from 150 to 164 (fun v wx=>v=.bool mD∧wx=U)
  case first =>
   clear kDe HEE;rcases hmD.out with ⟨rfl,h1,h2|⟨h2,h3⟩⟩|⟨rfl,h1|⟨h1,h2,h3⟩⟩
   ·have hge:=HRg.out eD;have heR:eD<R.size:=by omega
    have h1':(eD:Int)<(n:Int):=by omega
    rw[h2] at hge;clear h2
    go_wp2_with fail
    go_meet
    exact⟨rfl,rfl⟩
   ·have hge:=HRg.out eD;have heR:eD<R.size:=by omega
    have h1':(eD:Int)<(n:Int):=by omega
    rw[h3] at hge;clear h2 h3
    go_wp2_with fail
    go_meet
    exact⟨rfl,rfl⟩
   ·have h1':¬ (eD:Int)<(n:Int):=by omega
    go_wp2_with fail
    go_meet
    exact⟨rfl,rfl⟩
   ·have hge:=HRg.out eD;have heR:eD<R.size:=by omega
    have h1':(eD:Int)<(n:Int):=by omega
    obtain⟨c,hc⟩:∃ c,c=bL L eD:=⟨_,rfl⟩;rw[←hc] at hge h2 h3;have z1:¬ (c:Int)=101:=by omega
    have z2:¬ (c:Int)=69:=by omega
    clear hc h2 h3
    go_wp2_with fail
    go_meet
    exact⟨by simp[z1,z2],rfl⟩
  case rest =>
  obtain⟨rfl,rfl⟩:=hcut;clear hmD
  go_upto_if 165 with fail
  go_cut [14,15,16,17] from 166 to 177 (fun v14 v15 v16 v17 wx=>v14=.int .i64 kk∧Hid (TkB w wx #[.bool neg,.string ⟨#[]⟩,.bool false,.string t3,.int .i64 t4,.int .i64 t5]))
  case first =>
   cases mD
   case false =>
    obtain⟨rfl,rfl⟩:t5=0∧kk=(eD:Nat):=HEE.out.elim (fun h=>absurd h.1 (by simp)) (fun h=>h.2)
    clear HEE kDe
    go_wp2_with fail
    go_meet
    exact⟨rfl,HP⟩
   case true =>
    have ke:=kDe.out (by first|rfl|trivial) wc
    clear kDe
    go_wp2_with fail;refine ke.mono ?_;rintro r w3 ⟨rfl,hw⟩;replace hw:=hw.symm;subst hw;clear ke;cases oD
    case false =>
     obtain⟨rfl,rfl⟩:t5=0∧kk=(eD:Nat):=HEE.out.elim (fun h=>absurd h.2.1 (by simp)) (fun h=>h.2)
     clear HEE
     go_wp2_with fail
     go_meet
     exact⟨rfl,HP⟩
    case true =>
     obtain⟨rfl,rfl⟩:t5=vD∧kk=(lD:Nat):=HEE.out.elim (fun h=>⟨h.2.2.1,h.2.2.2⟩) (fun h=>absurd (And.intro (by first|rfl|trivial) (by first|rfl|trivial)) h.1)
     clear HEE;have HP2:Hid (TkB w (wc.setCell ⟨w.heap.size+1,5,none⟩ (.int .i64 t5)) #[.bool neg,.string ⟨#[]⟩,.bool false,.string t3,.int .i64 t4,.int .i64 t5]):=HP.out.put5 _;obtain⟨c0,c1,c2,c3,c4,c5⟩:=qX6 HP.out.2.1;obtain⟨f0,f1,f2,f3,f4,f5⟩:=qB6 HP.out.2.1
     go_wp2_with fail
     go_meet
     exact⟨rfl,HP2⟩
  case rest =>
  obtain⟨rfl,HF⟩:=hcut;clear HP HEE kDe;obtain⟨c0,c1,c2,c3,c4,c5⟩:=qX6 HF.out.2.1;obtain⟨b0,b1,b2,b3,b4,b5⟩:=qX6 HF.out.1;obtain⟨g0,g1,g2,g3,g4,g5⟩:=qB6 HF.out.1
  go_wp2_with fail;refine xW9 (qQ4 rfl _ _ w.heap.size 64 #[.bool neg,.string ⟨#[]⟩,.bool false,.string t3,.int .i64 t4,.int .i64 t5] (0,0) _ rfl (qR4 HF.out.1 _ _ _ _ _ _) Tryz.underlying64 rfl (by kernel_rfl)) rfl ?_
  exact⟨rfl,zN7 HF.out.2.2 (xL0 _) _ _ _ _ _ _⟩
def mkL (b:Int):List UInt8:=if b=16 then [112,80] else [101,69]
theorem xF6 {b:Int} (hb:b=10∨b=16) {x:UInt8} (h:isDg x.toNat b=true):(mkL b).contains x=false:=by
 have key:∀ n:Fin 256,(isDg n.val 10=true→n.val≠101∧n.val≠69)∧(isDg n.val 16=true→n.val≠112∧n.val≠80):=by decide +kernel
 have h1:=key ⟨x.toNat,x.toNat_lt⟩;have ne:∀ {y:UInt8},x.toNat≠y.toNat→x≠y:=fun h e=>h (by rw[e])
 rcases hb with rfl|rfl
 ·have h2:=h1.1 h;have e1:x≠101:=ne h2.1;have e2:x≠69:=ne h2.2;simp[mkL,e1,e2]
 ·have h2:=h1.2 h;have e1:x≠112:=ne h2.1;have e2:x≠80:=ne h2.2;simp[mkL,e1,e2]
theorem xF5 {b:Int} (hb:b=10∨b=16):(mkL b).contains 46=false:=by rcases hb with rfl|rfl <;> decide
theorem mk_x {b:Int} (hb:b=10∨b=16) {A B:List UInt8} {dt:Bool} (hA:qZ8 A b=true) (hB:qZ8 B b=true):∀ x ∈ A++dtL dt B,(mkL b).contains x=false:=by
 intro x hx;rcases List.mem_append.1 hx with h|h
 ·exact xF6 hb (qY7 hA x h)
 ·cases dt
  ·simp[dtL] at h
  ·rcases List.mem_cons.1 (show x ∈ 46 :: B from h)with h|h
   ·rw[h];exact xF5 hb
   ·exact xF6 hb (qY7 hB x h)
theorem qV7 {S T A B Rr:List UInt8} {b:Int} {dt:Bool} (hb:b=10∨b=16) (hT:psS S=T) (hM:psM S=mkL b) (hpb:psb S=b) (hTX:T=A++dtL dt B++Rr) (hA:qZ8 A b=true) (hB:qZ8 B b=true) (hdt:dt=false→B = []) (hst:qH4 b dt Rr) :
  (Rr = []∧psOk S=(!hexP S&&decide (A++B ≠ []))∧psD S=A++B∧psH S=B.length∧psX S=0) ∨
  (∃ c R',Rr=c :: R'∧(mkL b).contains c=true∧psOk S=(exO R'&&decide (A++B ≠ []))∧psD S=A++B∧psH S=B.length∧psX S=exX R') ∨
  (∃ c R',Rr=c :: R'∧(mkL b).contains c=false∧psOk S=false):=by
 obtain⟨cA,cB⟩:=cu_dt (A:=A) (B:=B) (dt:=dt) hA hdt;have hall:qZ8 (A++B) b=true:=by rw[zX2,hA,hB];rfl
 have hdg:dgO b (A++B)=decide (A++B ≠ []):=by unfold dgO;rw[hall,Bool.true_and]
 rcases hst with h0|⟨c,R',h1,h2,h3⟩
 ·left
  have hv:psV S = -1:=by unfold psV;rw[hT,hM,hTX,h0,List.append_nil];exact zF7 (mk_x hb hA hB)
  have hD0:psD0 S=A++dtL dt B:=by unfold psD0;rw[hv,if_neg (by decide),hT,hTX,h0,List.append_nil]
  refine⟨h0,?_,?_,?_,?_⟩
  ·unfold psOk psD;rw[hv,if_neg (by decide),hD0,cA,cB,hpb,hdg]
  ·unfold psD;rw[hD0,cA,cB]
  ·unfold psH;rw[hD0,cB]
  ·unfold psX;rw[hv,if_neg (by decide)]
 ·right
  by_cases hc:(mkL b).contains c=true
  ·left
   have hv:psV S=((A++dtL dt B).length:Nat):=by unfold psV;rw[hT,hM,hTX,h1];exact zA4 hc (mk_x hb hA hB)
   have hD0:psD0 S=A++dtL dt B:=by unfold psD0;rw[hv,if_pos (by omega),hT,hTX,xC9,List.take_append,List.take_of_length_le (xL0 _),Nat.sub_self,List.take_zero,List.append_nil]
   have hE:psE S=R':=by
    unfold psE;rw[hv,hT,hTX,h1,xC9,List.drop_append,List.drop_eq_nil_of_le (by omega)]
    simp
   refine⟨c,R',h1,hc,?_,?_,?_,?_⟩
   ·unfold psOk psD;rw[hv,if_pos (by omega),hD0,cA,cB,hpb,hdg,hE]
   ·unfold psD;rw[hD0,cA,cB]
   ·unfold psH;rw[hD0,cB]
   ·unfold psX;rw[hv,if_pos (by omega),hE]
  ·right
   have hc':(mkL b).contains c=false:=by simpa using hc
   refine⟨c,R',h1,hc',?_⟩
   have key:∃ R'',psD0 S=A++dtL dt B++c :: R'':=by
    unfold psD0;rw[hT,hTX,h1];by_cases hv:0≤psV S
    ·rw[if_pos hv];rcases qV8 (psS S) (psM S)with h4|⟨i,h4,h5,y,h6,h7⟩
     ·have:psV S = -1:=h4
      omega
     ·have hvi:psV S=(i:Int):=h5;rw[hvi,xC9];rw[hT,hTX,h1] at h6;rw[hM] at h7;have hi:(A++dtL dt B).length<i:=by
       rcases Nat.lt_trichotomy i (A++dtL dt B).length with h8|h8|h8
       ·rw[List.getElem?_append_left h8] at h6;have:=mk_x hb hA hB y (List.mem_of_getElem? h6)
        rw[h7] at this;cases this
       ·rw[List.getElem?_append_right (by omega),h8,Nat.sub_self] at h6
        obtain rfl:c=y:=xL2 h6;rw[h7] at hc';cases hc'
       ·exact h8
      obtain⟨d,hd⟩:∃ d,i=(A++dtL dt B).length+(d+1):=⟨i - (A++dtL dt B).length - 1,by omega⟩
      refine⟨R'.take d,?_⟩
      rw[hd,List.take_append,List.take_of_length_le (by omega)]
      congr 1
      rw[show(A++dtL dt B).length+(d+1) - (A++dtL dt B).length=d+1 by omega]
      rfl
    ·rw[if_neg hv];exact⟨R',rfl⟩
   obtain⟨R'',hR⟩:=key;unfold psOk psD;rw[hR,hpb,xP0 hA hB hdt h2 h3,Bool.and_false]
def TkS (s:List UInt8) (t1:ByteArray) (t2:Bool) (t3:ByteArray) (t4 t5 k:Int):Prop :=
 (csD s = [105,110,102]→t1=⟨#[105,110,102]⟩∧t3=⟨#[]⟩∧k=(s.length:Nat)∧k≠0) ∧
 (csD s = [110,97,110]→t1=⟨#[110,97,110]⟩∧t3=⟨#[]⟩∧k=(s.length:Nat)∧k≠0) ∧
 (csD s ≠ [105,110,102]→csD s ≠ [110,97,110]→psOk (csD s)=true→t1=⟨#[]⟩∧t2=hexP (csD s)∧t3=⟨(psD (csD s)).toArray⟩∧t4=(psH (csD s):Nat)∧psX (csD s)=max (-6000) (min 6000 t5)∧(-1000000000≤t5∧t5≤1000000000)∧k=(s.length:Nat)∧k≠0) ∧
 (csD s ≠ [105,110,102]→csD s ≠ [110,97,110]→psOk (csD s)=false→k=0∨k≠(s.length:Nat))
theorem qX9 (L:List UInt8):(⟨L.toArray⟩:ByteArray).toList.isEmpty=L.isEmpty:=by rw[qH3]
theorem zG7 (L:List UInt8) (n a:Nat) (b:Int) (hb:b=10∨b=16) (hn:n=L.length) (hL:n≤2000000) (ha:a≤n) :
  ∃ A B dt Rr,L.drop a=A++dtL dt B++Rr∧qZ8 A b=true∧qZ8 B b=true∧(dt=false→B = [])∧qH4 b dt Rr ∧
   ∀ w,Calls Tryz.prog 53 #[.string ⟨L.toArray⟩,.int .i64 a,.int .i64 b] w fun r w'=>r=.returned (.tuple #[.string ⟨(A++B).toArray⟩,.int .i64 (B.length:Nat),.int .i64 ((a+(A++dtL dt B).length:Nat):Int)])∧Bw w w':=by
 obtain⟨A,B,dt,Rr,h1,h2,h3,h4,h5,h6⟩:=sp1 hb (L.drop a) [] a;refine⟨A,B,dt,Rr,h1,h2,h3,h4,h5,fun w=>?_⟩
 have k:=xM6 L n a b w hn hL ha;rw[h6] at k;simp only[List.nil_append,List.length_nil] at k;rw[bh_dt h4] at k;exact k
theorem qD {L X Rr:List UInt8} {a:Nat} (h:L.drop a=X++Rr) (ha:a≤L.length):L.drop (a+X.length)=Rr∧a+X.length+Rr.length=L.length:=by
 constructor
 ·rw[←List.drop_drop,h,List.drop_append,List.drop_eq_nil_of_le (xL0 _)];simp
 ·have:=congrArg List.length h
  rw[List.length_drop,xE0] at this;omega
theorem zN4 (s:List UInt8):∃ (a:Nat) (sg:Bool),csD s=s.drop a∧a≤s.length∧((sg=false∧a=0∧decide (csS s<0)=false∧(s = []∨(0<s.length∧bL s 0≠43∧bL s 0≠45)))∨(sg=true∧a=1∧0<s.length∧((bL s 0=45∧decide (csS s<0)=true)∨(bL s 0=43∧decide (csS s<0)=false)))):=by
 cases s with
 | nil=>exact⟨0,false,rfl,xL0 _,.inl ⟨rfl,rfl,by decide,.inl rfl⟩⟩
 | cons c r =>
  by_cases h45:c=45
  ·subst h45;exact⟨1,true,rfl,by simp,.inr ⟨rfl,rfl,by simp,.inl ⟨rfl,rfl⟩⟩⟩
  ·by_cases h43:c=43
   ·subst h43;exact⟨1,true,rfl,by simp,.inr ⟨rfl,rfl,by simp,.inr ⟨rfl,rfl⟩⟩⟩
   ·have h1:¬ (some c=some (45:UInt8)):=fun h=>h45 (xL2 h);have h2:¬ (some c=some (43:UInt8)):=fun h=>h43 (xL2 h);refine⟨0,false,?_,xW5 _,.inl ⟨rfl,rfl,?_,.inr ⟨by simp,?_,?_⟩⟩⟩
    ·unfold csD;rw[if_neg (by rw[List.head?_cons];exact fun h=>h.elim h1 h2)];rfl
    ·unfold csS;rw[List.head?_cons,if_neg h1];rfl
    ·intro h;exact h43 (UInt8.toNat_inj.1 (show c.toNat=(43:UInt8).toNat from h))
    ·intro h;exact h45 (UInt8.toNat_inj.1 (show c.toNat=(45:UInt8).toNat from h))
def Pk (s:List UInt8) (n a:Nat) (b:Int) (A B:List UInt8) (dt:Bool) (Rr:List UInt8) (v:Int) (e l:Nat) (m o:Bool):Prop :=
 e=a+(A++dtL dt B).length∧e≤n ∧
 (m=true→∃ c R',Rr=c :: R'∧(mkL b).contains c=true∧e<n∧bL s e=c.toNat∧R'=s.drop (e+1)∧ExA s n (e+1) v l o) ∧
 (m=false→(Rr = []∧e=n)∨∃ c R',Rr=c :: R'∧(mkL b).contains c=false∧e<n∧bL s e=c.toNat)
theorem xH5 {s:List UInt8} {n a:Nat} {b:Int} {A B:List UInt8} {dt:Bool} {Rr:List UInt8} (hn:n=s.length) (hL:n≤2000000) (ha:a≤n) (h:s.drop a=A++dtL dt B++Rr):∃ v e l m o,Pk s n a b A B dt Rr v e l m o:=by
 obtain⟨h1,h2⟩:=qD h (by omega)
 cases Rr with
 | nil =>
  rw[List.length_nil] at h2;exact⟨0,_,0,false,false,rfl,by omega,(fun h=>by cases h),fun _=>.inl ⟨rfl,by omega⟩⟩
 | cons c R' =>
  rw[List.length_cons] at h2;have hb:bL s (a+(A++dtL dt B).length)=c.toNat:=by
   have:=qV1 s (a+(A++dtL dt B).length) 0
   rw[h1,Nat.add_zero] at this;rw[←this];rfl
  have hd:R'=s.drop (a+(A++dtL dt B).length+1):=by rw[←List.drop_drop,h1];rfl
  by_cases hc:(mkL b).contains c=true
  ·obtain⟨v,l,o,hE⟩:=yZ2 s n (a+(A++dtL dt B).length+1) hn hL (by omega)
   exact⟨v,_,l,true,o,rfl,by omega,fun _=>⟨c,R',rfl,hc,by omega,hb,hd,hE⟩,(fun h=>by cases h)⟩
  ·exact⟨0,_,0,false,false,rfl,by omega,(fun h=>by cases h),fun _=>.inr ⟨c,R',rfl,by simpa using hc,by omega,hb⟩⟩
theorem mk10 {c:UInt8}:((mkL 10).contains c=true→c.toNat=101∨(c.toNat≠101∧c.toNat=69))∧((mkL 10).contains c=false→c.toNat≠101∧c.toNat≠69):=by
 have key:∀ n:Fin 256,(([101,69]:List UInt8).contains (UInt8.ofNat n.val)=true→n.val=101∨(n.val≠101∧n.val=69))∧(([101,69]:List UInt8).contains (UInt8.ofNat n.val)=false→n.val≠101∧n.val≠69):=by decide +kernel
 have h:=key ⟨c.toNat,c.toNat_lt⟩;simp only[UInt8.ofNat_toNat] at h;exact h
theorem mk16 {c:UInt8}:((mkL 16).contains c=true→c.toNat=112∨(c.toNat≠112∧c.toNat=80))∧((mkL 16).contains c=false→c.toNat≠112∧c.toNat≠80):=by
 have key:∀ n:Fin 256,(([112,80]:List UInt8).contains (UInt8.ofNat n.val)=true→n.val=112∨(n.val≠112∧n.val=80))∧(([112,80]:List UInt8).contains (UInt8.ofNat n.val)=false→n.val≠112∧n.val≠80):=by decide +kernel
 have h:=key ⟨c.toNat,c.toNat_lt⟩;simp only[UInt8.ofNat_toNat] at h;exact h
theorem qY0 (S:List UInt8):(hexP S=true∧∃ c T,S=48 :: c :: T∧(c=120∨c=88))∨(hexP S=false∧∀ c T,S=48 :: c :: T→c≠120∧c≠88):=by
 match S with
 | []=>right;exact⟨by decide,fun c T h=>by cases h⟩
 | [x]=>right;exact⟨by unfold hexP Lib.hasPrefix;simp[List.isPrefixOf],fun c T h=>by cases h⟩
 | x :: c :: T =>
  by_cases h1:x=48
  ·subst h1;by_cases h2:c=120
   ·subst h2;left;exact⟨by unfold hexP Lib.hasPrefix;simp,_,_,rfl,.inl rfl⟩
   ·by_cases h3:c=88
    ·subst h3;left;exact⟨by unfold hexP Lib.hasPrefix;simp,_,_,rfl,.inr rfl⟩
    ·right
     refine⟨by unfold hexP Lib.hasPrefix;simp[List.isPrefixOf,Ne.symm h2,Ne.symm h3],?_⟩
     intro c' T' h;injection h with _ h;injection h with h _;subst h;exact⟨h2,h3⟩
  ·right
   refine⟨by unfold hexP Lib.hasPrefix;simp[List.isPrefixOf,Ne.symm h1],?_⟩
   intro c' T' h;injection h with h _;exact absurd h h1
theorem qC2 {S:List UInt8} (h:hexP S=true):psS S=S.drop 2∧psM S=mkL 16∧psb S=16:=by
 unfold psS psM psb mkL;rw[if_pos h,if_pos h,if_pos h];exact⟨rfl,rfl,rfl⟩
theorem qL {S:List UInt8} (h:hexP S=false):psS S=S∧psM S=mkL 10∧psb S=10:=by
 have h':¬ hexP S=true:=by rw[h];decide
 unfold psS psM psb mkL;rw[if_neg h',if_neg h',if_neg h'];exact⟨rfl,rfl,rfl⟩
theorem zC6 {S:List UInt8} {c:UInt8} {r:List UInt8} (h:S=c :: r) (hc:c=105∨c=110):psOk S=false:=by
 have hx:hexP S=false:=by
  rw[h];unfold hexP Lib.hasPrefix;rcases hc with rfl|rfl <;> cases r <;> simp[List.isPrefixOf]
 obtain⟨p1,p2,p3⟩:=qL hx;have hd:isDg c.toNat 10=false:=by rcases hc with rfl|rfl <;> decide
 have hm:(mkL 10).contains c=false:=by rcases hc with rfl|rfl <;> decide
 have h46:c≠46:=by rcases hc with rfl|rfl <;> decide
 rcases qV7 (A := []) (B := []) (dt:=false) (Rr:=c :: r) (.inl rfl) p1 p2 p3 (by rw[h];rfl) rfl rfl (fun _=>rfl) (.inr ⟨c,r,rfl,hd,fun _=>h46⟩)with ⟨h1,-⟩|⟨c',R',h1,h2,-⟩|⟨c',R',h1,h2,h3⟩
 ·cases h1
 ·injection h1 with h1 _;rw[←h1,hm] at h2;cases h2
 ·exact h3
def isSg (c:UInt8):Bool:=c==43||c==45
def isMk (c:UInt8):Bool:=c==101||c==69||c==112||c==80
def dS (S:List UInt8):Prop:=S = [105,110,102]∨S = [110,97,110]∨psOk S=true
def dOk (t:List UInt8):Prop:=dS (csD t)
def sgOk:UInt8→List UInt8→Bool
 | _,[]=>true
 | p,c :: r=>(!isSg c||isMk p)&&sgOk c r
theorem qS0:∀ {L M:List UInt8},(∀ x ∈ L,isSg x=false)→(∀ p,sgOk p M=true)→∀ p,sgOk p (L++M)=true
 | [],M,_,hM,p=>hM p
 | c :: L,M,h,hM,p=>by
  show((!isSg c||isMk p)&&sgOk c (L++M))=true
  rw[h c (by simp),qS0 (fun x hx=>h x (by simp[hx])) hM c]
  rfl
theorem xN7 {c:UInt8} {b:Int} (h:isDg c.toNat b=true):isSg c=false∧c≠105:=by
 have key:∀ n:Fin 256,(isDg n.val 16=true→isSg (UInt8.ofNat n.val)=false∧UInt8.ofNat n.val≠105)∧(isDg n.val 10=true→isSg (UInt8.ofNat n.val)=false∧UInt8.ofNat n.val≠105):=by decide +kernel
 have k2:=key ⟨c.toNat,c.toNat_lt⟩;simp only[UInt8.ofNat_toNat] at k2;by_cases hb:b=16
 ·subst hb;exact k2.1 h
 ·refine k2.2 ?_;unfold isDg at h ⊢;have h1:(b==16)=false:=by rw[xC2];exact hb
  rw[h1,Bool.and_false,Bool.or_false] at h;rw[h,Bool.true_or]
theorem dg_mk {c:UInt8} (h:isDg c.toNat 10=true):isMk c=false:=by
 have key:∀ n:Fin 256,isDg n.val 10=true→isMk (UInt8.ofNat n.val)=false:=by decide +kernel
 have k2:=key ⟨c.toNat,c.toNat_lt⟩;simp only[UInt8.ofNat_toNat] at k2;exact k2 h
theorem zO4 {A:List UInt8} {b:Int} (h:qZ8 A b=true):∀ x ∈ A,isSg x=false:=fun x hx=>(xN7 (qY7 h x hx)).1
theorem yK0 {A B:List UInt8} {b:Int} {dt:Bool} (hA:qZ8 A b=true) (hB:qZ8 B b=true):∀ x ∈ A++dtL dt B,isSg x=false:=by
 intro x hx;rcases List.mem_append.1 hx with h|h
 ·exact zO4 hA x h
 ·cases dt
  ·simp[dtL] at h
  ·rcases List.mem_cons.1 (show x ∈ 46 :: B from h)with h|h
   ·rw[h];decide
   ·exact zO4 hB x h
theorem xF7 {b:Int} {c:UInt8} (h:(mkL b).contains c=true):isMk c=true∧isSg c=false:=by
 unfold mkL at h;split at h
 ·have:c=112∨c=80:=by simpa using h
  rcases this with rfl|rfl <;> decide
 ·have:c=101∨c=69:=by simpa using h
  rcases this with rfl|rfl <;> decide
def qR (L:List UInt8):Prop:=∃ U x,L=U ++ [x]∧x≠105∧isMk x=false
theorem qK5 {A B:List UInt8} (h:qR B):qR (A++B):=by
 obtain⟨U,x,h1,h2⟩:=h;exact⟨A++U,x,by rw[h1,List.append_assoc],h2⟩
theorem qL4 {D:List UInt8} (h:qZ8 D 10=true) (h0:D ≠ []):qR D:=by
 refine⟨D.dropLast,D.getLast h0,(List.dropLast_concat_getLast h0).symm,?_,?_⟩
 ·exact(xN7 (qY7 h _ (List.getLast_mem h0))).2
 ·exact dg_mk (qY7 h _ (List.getLast_mem h0))
theorem yR6 (R:List UInt8):(csD R=R∧(∀ c r,R=c :: r→isSg c=false))∨∃ c,isSg c=true∧R=c :: csD R:=by
 cases R with
 | nil=>exact .inl ⟨rfl,fun c r h=>by cases h⟩
 | cons c r =>
  by_cases h:c=45∨c=43
  ·right
   refine⟨c,by rcases h with rfl|rfl <;> decide,?_⟩
   unfold csD;rw[if_pos (by simpa using h)]
   rfl
  ·left
   refine⟨?_,fun c' r' e=>?_⟩
   ·unfold csD;rw[if_neg (by simpa using h)]
   ·injection e with e _;subst e;unfold isSg;simp only[Bool.or_eq_false_iff,xC2];exact⟨fun e=>h (.inr e),fun e=>h (.inl e)⟩
theorem zB3 {b:Int} {c:UInt8} {R':List UInt8} (hc:(mkL b).contains c=true) (h:exO R'=true):(∀ p,sgOk p (c :: R')=true)∧qR R':=by
 obtain⟨m1,m2⟩:=xF7 hc;unfold exO dgO at h;rw[xC] at h;have h0:=of_decide_eq_true h.2;have hd:=zO4 h.1;have hs:∀ p,sgOk p (csD R')=true:=fun p=>by
  have:=qS0 (M := []) hd (fun _=>rfl) p
  rwa [List.append_nil] at this
 have hl:=qL4 h.1 h0;rcases yR6 R' with ⟨e,-⟩|⟨x,e1,e2⟩
 ·rw[e] at hs hl;refine⟨fun p=>?_,hl⟩
  show((!isSg c||isMk p)&&sgOk c R')=true
  rw[m2,hs];rfl
 ·refine⟨fun p=>?_,by rw[e2];exact qK5 (A := [x]) hl⟩
  rw[e2];show((!isSg c||isMk p)&&((!isSg x||isMk c)&&sgOk x (csD R')))=true
  rw[m2,m1,hs];simp
theorem zP9 {A B:List UInt8} {dt:Bool} (hA:qZ8 A 10=true) (hB:qZ8 B 10=true) (hdt:dt=false→B = []) (h0:A++B ≠ []):qR (A++dtL dt B):=by
 cases dt
 ·rw[hdt rfl,List.append_nil] at h0;rw[show A++dtL false B=A by simp[dtL]]
  exact qL4 hA h0
 ·by_cases hb:B = []
  ·rw[hb];exact⟨A,46,rfl,by decide,by decide⟩
  ·show qR (A++46 :: B)
   exact qK5 (qK5 (A := [46]) (qL4 hB hb))
theorem zO7 {S:List UInt8} (h:dS S):(∀ p,sgOk p S=true)∧qR S:=by
 rcases h with h|h|h
 ·rw[h];exact⟨fun p=>by show((!isSg 105||isMk p)&&true)=true;rfl,[105,110],102,rfl,by decide,by decide⟩
 ·rw[h];exact⟨fun p=>by show((!isSg 110||isMk p)&&true)=true;rfl,[110,97],110,rfl,by decide,by decide⟩
 ·rcases qY0 S with ⟨hx,c,T,hS,hc⟩|⟨hx,-⟩
  ·obtain⟨p1,p2,p3⟩:=qC2 hx;have hT:psS S=T:=by rw[p1,hS];rfl
   obtain⟨A,B,dt,R,e1,hA,hB,hdt,hst,-⟩:=sp1 (b:=16) (.inr rfl) T [] 0;have hcs:isSg c=false:=by rcases hc with rfl|rfl <;> decide
   rcases qV7 (.inr rfl) hT p2 p3 e1 hA hB hdt hst with ⟨-,q,-⟩|⟨x,R',q1,q2,q3,-⟩|⟨x,R',q1,q2,q3⟩
   ·rw[h,hx] at q;cases q
   ·rw[h] at q3;have q4:=q3.symm;rw[xC] at q4;obtain⟨t1,t2⟩:=zB3 q2 q4.1;refine⟨fun p=>?_,?_⟩
    ·rw[hS,e1,q1];refine qS0 (L := [48,c]) (fun y hy=>?_) (qS0 (yK0 hA hB) t1) p;have:y=48∨y=c:=by simpa using hy
     rcases this with rfl|rfl
     ·decide
     ·exact hcs
    ·rw[hS,e1,q1];exact qK5 (A := [48,c]) (qK5 (qK5 (A := [x]) t2))
   ·rw[h] at q3;cases q3
  ·obtain⟨p1,p2,p3⟩:=qL hx;obtain⟨A,B,dt,R,e1,hA,hB,hdt,hst,-⟩:=sp1 (b:=10) (.inl rfl) S [] 0;rcases qV7 (.inl rfl) p1 p2 p3 e1 hA hB hdt hst with ⟨q0,q,-⟩|⟨x,R',q1,q2,q3,-⟩|⟨x,R',q1,q2,q3⟩
   ·rw[h] at q;have q4:=q.symm;rw[xC] at q4;rw[e1,q0,List.append_nil];refine⟨fun p=>?_,zP9 hA hB hdt (of_decide_eq_true q4.2)⟩
    have:=qS0 (M := []) (yK0 (dt:=dt) hA hB) (fun _=>rfl) p
    rwa [List.append_nil] at this
   ·rw[h] at q3;have q4:=q3.symm;rw[xC] at q4;obtain⟨t1,t2⟩:=zB3 q2 q4.1;rw[e1,q1];exact⟨qS0 (yK0 hA hB) t1,qK5 (qK5 (A := [x]) t2)⟩
   ·rw[h] at q3;cases q3
theorem zN1 {t:List UInt8} (h:dOk t):(∃ c r,t=c :: r∧sgOk c r=true)∧qR t:=by
 obtain⟨h1,h2⟩:=zO7 h;rcases yR6 t with ⟨e,-⟩|⟨x,e1,e2⟩
 ·rw[e] at h1 h2;cases t with
  | nil=>obtain⟨U,x,h3,-⟩:=h2;simp at h3
  | cons c r =>
   refine⟨⟨c,r,rfl,?_⟩,h2⟩
   have:=h1 101
   unfold sgOk at this;rw[xC] at this;exact this.2
 ·refine⟨⟨x,csD t,e2,h1 x⟩,?_⟩
  rw[e2];exact qK5 (A := [x]) h2
theorem zW0:∀ {r:List UInt8} {c:UInt8},sgOk c r=true→∀ i x y,(c :: r)[i]?=some x→(c :: r)[i+1]?=some y→isSg y=true→isMk x=true
 | [],c,_,i,x,y,_,h2,_=>by simp at h2
 | d :: r,c,h,0,x,y,h1,h2,h3=>by
  have e1:c=x:=by simpa using h1
  have e2:d=y:=by simpa using h2
  subst e1 e2;unfold sgOk at h;rw[h3] at h;simp only[Bool.not_true,Bool.false_or,xC] at h;exact h.1
 | d :: r,c,h,i+1,x,y,h1,h2,h3=>by
  unfold sgOk at h;rw[xC] at h;exact zW0 h.2 i x y (by simpa using h1) (by simpa using h2) h3
theorem xM3 {t:List UInt8} (h:dOk t) {i:Nat} {x y:UInt8} (h1:t[i]?=some x) (h2:t[i+1]?=some y) (h3:isSg y=true):isMk x=true:=by
 obtain⟨⟨c,r,rfl,h4⟩,-⟩:=zN1 h;exact zW0 h4 i x y h1 h2 h3
theorem yB {t:List UInt8} (h:dOk t):t ≠ []∧∀ i x,i+1=t.length→t[i]?=some x→x≠105∧isMk x=false:=by
 obtain⟨-,U,x,h1,h2⟩:=zN1 h;refine⟨by rw[h1];simp,fun i y hi hy=>?_⟩
 rw[h1,xE0,List.length_cons,List.length_nil] at hi;rw[h1,List.getElem?_append_right (by omega),show i - U.length=0 by omega] at hy
 have:x=y:=by simpa using hy
 subst this;exact h2
def sgN (s:List UInt8):Nat:=if s.head?=some 45∨s.head?=some 43 then 1 else 0
theorem zN5 (s:List UInt8):csD s=s.drop (sgN s):=by
 unfold csD sgN;split
 ·rw[List.drop_one]
 ·rfl
theorem yP8 (s:List UInt8):sgN s≤s.length:=by
 unfold sgN;split
 ·cases s with
  | nil=>simp at *
  | cons c r=>simp
 ·omega
theorem qT (s:List UInt8) (j:Nat):csD (s.take j)=(csD s).take (j - sgN s):=by
 cases s with
 | nil=>simp[csD,sgN]
 | cons c r =>
  cases j with
  | zero=>simp[csD]
  | succ j =>
   rw[List.take_succ_cons];by_cases h:c=45∨c=43
   ·unfold csD sgN;rw[if_pos (by simpa using h),if_pos (by simpa using h),if_pos (by simpa using h)]
    rfl
   ·unfold csD sgN;rw[if_neg (by simpa using h),if_neg (by simpa using h),if_neg (by simpa using h)]
    rfl
def ExP (R:List UInt8) (l:Nat) (ok:Bool):Prop:=l≤R.length∧(ok=true→exO (R.take l)=true)∧∀ i,i≤R.length→exO (R.take i)=true→ok=true∧i≤l
theorem qN2 {X R:List UInt8} {j:Nat} (h:X.length≤j):(X++R).take j=X++R.take (j - X.length):=by
 rw[List.take_append,List.take_of_length_le h]
theorem xN4 {R A Q:List UInt8} (h:csD R=A++Q) (hA:qZ8 A 10=true) (hQ:qH4 10 true Q):ExP R (sgN R+A.length) (decide (0<A.length)):=by
 have hs:=yP8 R;have hl:R.length - sgN R=A.length+Q.length:=by rw[←xE0,←h,zN5,List.length_drop]
 refine⟨by omega,fun h0=>?_,fun i hi he=>?_⟩
 ·have h0':=of_decide_eq_true h0;unfold exO dgO;rw[qT,h,Nat.add_sub_cancel_left,qN2 (xL0 _),Nat.sub_self,List.take_zero,List.append_nil,hA,Bool.true_and];refine xL4 fun e=>?_;rw[e] at h0';simp at h0'
 ·unfold exO dgO at he;rw[qT,h,xC] at he;have h1:=of_decide_eq_true he.2;by_cases hj:i - sgN R≤A.length
  ·refine⟨xL4 ?_,by omega⟩
   rcases Nat.eq_zero_or_pos A.length with h2|h2
   ·exfalso;rw[show i - sgN R=0 by omega] at h1
    exact h1 rfl
   ·exact h2
  ·exfalso;rw[qN2 (by omega)] at he
   rcases hQ with h2|⟨c,Q',h2,h3,-⟩
   ·rw[h2,List.length_nil] at hl;omega
   ·have h4:=qY7 he.1 c (by rw[h2,show i - sgN R - A.length=(i - sgN R - A.length - 1)+1 by omega,List.take_succ_cons];simp)
    rw[h3] at h4;cases h4
theorem xM0:¬ dS []:=fun h=>by
 obtain⟨-,U,x,h1,-⟩:=zO7 h;simp at h1
def Lg (S:List UInt8) (i:Nat):Prop:=(i=0∨(i≤S.length∧dS (S.take i)))∧∀ j,i<j→j≤S.length→¬ dS (S.take j)
def LgS (s:List UInt8) (k:Nat):Prop:=(k=0∨(k≤s.length∧dOk (s.take k)))∧∀ j,k<j→j≤s.length→¬ dOk (s.take j)
theorem zP8 {s:List UInt8} {i k:Nat} (h:Lg (csD s) i) (hk:(i=0∧k=0)∨(0<i∧k=sgN s+i)):LgS s k:=by
 have hl:(csD s).length=s.length - sgN s:=by rw[zN5,List.length_drop]
 have hs:=yP8 s;obtain⟨h1,h2⟩:=h;refine⟨?_,fun j hj hjl=>?_⟩
 ·rcases hk with ⟨h3,h4⟩|⟨h3,h4⟩
  ·exact .inl h4
  ·right
   rcases h1 with h1|⟨h1,h5⟩
   ·omega
   ·refine⟨by omega,?_⟩
    unfold dOk;rw[qT,h4,Nat.add_sub_cancel_left];exact h5
 ·unfold dOk;rw[qT];by_cases h0:j - sgN s=0
  ·rw[h0];exact xM0
  ·exact h2 _ (by omega) (by omega)
theorem qM5 {b:Int} {dt:Bool} {R:List UInt8} (h:qH4 b dt R) (i:Nat):qH4 b dt (R.take i):=by
 rcases h with h|⟨c,R',h1,h2⟩
 ·rw[h];left;simp
 ·cases i with
  | zero=>left;rfl
  | succ i=>right;exact⟨c,R'.take i,by rw[h1];rfl,h2⟩
theorem qP8 {S:List UInt8} (h:hexP S=false) (j:Nat):hexP (S.take j)=false:=by
 rcases qY0 S with ⟨h1,-⟩|⟨-,h1⟩
 ·rw[h] at h1;cases h1
 ·rcases qY0 (S.take j)with ⟨-,c,T,h2,h3⟩|⟨h2,-⟩
  ·obtain⟨h4,h5⟩:=h1 c (T++S.drop j) (by rw[←List.cons_append,←List.cons_append,←h2,List.take_append_drop])
   rcases h3 with h3|h3
   ·exact absurd h3 h4
   ·exact absurd h3 h5
  ·exact h2
theorem qA0 {S A B Rr:List UInt8} {dt:Bool} (hx:hexP S=false) (h:S=A++dtL dt B++Rr) (hA:qZ8 A 10=true) (hB:qZ8 B 10=true) (hdt:dt=false→B = []) (hst:qH4 10 dt Rr) {j:Nat} (hj:(A++dtL dt B).length≤j) :
  psOk (S.take j)=true→A++B ≠ []∧(Rr.take (j - (A++dtL dt B).length) = []∨∃ c R',Rr=c :: R'∧(mkL 10).contains c=true∧(A++dtL dt B).length<j∧exO (R'.take (j - (A++dtL dt B).length - 1))=true):=by
 intro hok;obtain⟨p1,p2,p3⟩:=qL (qP8 hx j);have hT:S.take j=A++dtL dt B++Rr.take (j - (A++dtL dt B).length):=by rw[h,qN2 hj]
 rcases qV7 (.inl rfl) p1 p2 p3 hT hA hB hdt (qM5 hst _)with ⟨q1,q2,-⟩|⟨c,R',q1,q2,q3,-⟩|⟨c,R',q1,q2,q3⟩
 ·rw[hok] at q2;have q4:=q2.symm;rw[xC] at q4;exact⟨of_decide_eq_true q4.2,.inl q1⟩
 ·rw[hok] at q3;have q4:=q3.symm;rw[xC] at q4;refine⟨of_decide_eq_true q4.2,.inr ?_⟩
  cases Rr with
  | nil=>simp at q1
  | cons c' R'' =>
   obtain⟨d,hd⟩:∃ d,j - (A++dtL dt B).length=d:=⟨_,rfl⟩;rw[hd] at q1 ⊢;cases d with
   | zero=>simp at q1
   | succ d =>
    rw[List.take_succ_cons] at q1;injection q1 with e1 e2;subst e1;exact⟨c',R'',rfl,q2,by omega,by rw[xE5,e2];exact q4.1⟩
 ·rw[hok] at q3;cases q3
theorem zC5 {S A B Rr:List UInt8} {dt:Bool} (hx:hexP S=false) (h:S=A++dtL dt B++Rr) (hA:qZ8 A 10=true) (hB:qZ8 B 10=true) (hdt:dt=false→B = []) (h0:A++B ≠ []):psOk (S.take (A++dtL dt B).length)=true:=by
 obtain⟨p1,p2,p3⟩:=qL (qP8 hx (A++dtL dt B).length);have hT:S.take (A++dtL dt B).length=A++dtL dt B ++ []:=by rw[h,qN2 (xL0 _),Nat.sub_self,List.take_zero]
 rcases qV7 (.inl rfl) p1 p2 p3 hT hA hB hdt (.inl rfl)with ⟨-,q2,-⟩|⟨c,R',q1,-⟩|⟨c,R',q1,-⟩
 ·rw[q2,qP8 hx,xL4 h0];rfl
 ·cases q1
 ·cases q1
theorem xH0 {S A B R':List UInt8} {dt:Bool} {c:UInt8} {l:Nat} (hx:hexP S=false) (h:S=A++dtL dt B++c :: R') (hA:qZ8 A 10=true) (hB:qZ8 B 10=true) (hdt:dt=false→B = []) (hst:qH4 10 dt (c :: R')) (h0:A++B ≠ []) (hc:(mkL 10).contains c=true) (he:exO (R'.take l)=true):psOk (S.take ((A++dtL dt B).length+1+l))=true:=by
 obtain⟨p1,p2,p3⟩:=qL (qP8 hx ((A++dtL dt B).length+1+l));have hT:S.take ((A++dtL dt B).length+1+l)=A++dtL dt B++c :: R'.take l:=by
  rw[h,qN2 (by omega),show(A++dtL dt B).length+1+l - (A++dtL dt B).length=l+1 by omega,List.take_succ_cons]
 have hst':qH4 10 dt (c :: R'.take l):=by have:=qM5 hst (l+1);rwa [List.take_succ_cons] at this
 rcases qV7 (.inl rfl) p1 p2 p3 hT hA hB hdt hst' with ⟨q1,-⟩|⟨c',R'',q1,q2,q3,-⟩|⟨c',R'',q1,q2,q3⟩
 ·cases q1
 ·injection q1 with e1 e2;rw[q3,←e2,he,xL4 h0];rfl
 ·injection q1 with e1 e2;rw[←e1,hc] at q2;cases q2
theorem qL3 {S:List UInt8} (hw:¬ (3≤S.length∧(S.take 3 = [105,110,102]∨S.take 3 = [110,97,110]))) {j:Nat} (h:dS (S.take j)):psOk (S.take j)=true:=by
 have key:∀ W:List UInt8,W.length=3→S.take j=W→3≤S.length∧S.take 3=W:=by
  intro W h1 h2;have h3:=congrArg List.length h2;rw[List.length_take,h1] at h3;refine⟨by omega,?_⟩
  have h4:=congrArg (List.take 3) h2;rw[List.take_take,List.take_of_length_le (show W.length≤3 by omega),show min 3 j=3 by omega] at h4
  exact h4
 rcases h with h|h|h
 ·obtain⟨k1,k2⟩:=key _ rfl h;exact absurd ⟨k1,.inl k2⟩ hw
 ·obtain⟨k1,k2⟩:=key _ rfl h;exact absurd ⟨k1,.inr k2⟩ hw
 ·exact h
theorem yI1 {S:List UInt8} (h1:3≤S.length) (h2:S.take 3 = [105,110,102]∨S.take 3 = [110,97,110]):Lg S 3:=by
 refine⟨.inr ⟨h1,?_⟩,fun j hj hl h=>?_⟩
 ·rcases h2 with h|h
  ·exact .inl h
  ·exact .inr (.inl h)
 ·have h3:(S.take j).length=j:=by rw[List.length_take];omega
  rcases h with h|h|h
  ·rw[h] at h3;simp at h3;omega
  ·rw[h] at h3;simp at h3;omega
  ·have h4:∃ c r,S.take j=c :: r∧(c=105∨c=110):=by
    cases hS:S with
    | nil=>rw[hS] at h1;simp at h1
    | cons c r =>
     cases j with
     | zero=>omega
     | succ j =>
      refine⟨c,r.take j,rfl,?_⟩
      rw[hS] at h2;rcases h2 with h|h
      ·injection h with h _;exact .inl h
      ·injection h with h _;exact .inr h
   obtain⟨c,r,h5,h6⟩:=h4;rw[zC6 h5 h6] at h;cases h
theorem yI2 {S A B Rr:List UInt8} {dt:Bool} (hw:¬ (3≤S.length∧(S.take 3 = [105,110,102]∨S.take 3 = [110,97,110]))) (hx:hexP S=false) (h:S=A++dtL dt B++Rr) (hA:qZ8 A 10=true) (hB:qZ8 B 10=true) (hdt:dt=false→B = []) (hst:qH4 10 dt Rr) (h0:A++B = []):Lg S 0:=by
 refine⟨.inl rfl,fun j hj hl hd=>?_⟩
 have hok:=qL3 hw hd;have hxl:(A++dtL dt B).length≤1:=by
  obtain⟨e1,e2⟩:=List.append_eq_nil_iff.1 h0;rw[e1,e2];cases dt <;> simp[dtL]
 exact(qA0 hx h hA hB hdt hst (by omega) hok).1 h0
theorem yH {S A B Rr:List UInt8} {dt:Bool} (hw:¬ (3≤S.length∧(S.take 3 = [105,110,102]∨S.take 3 = [110,97,110]))) (hx:hexP S=false) (h:S=A++dtL dt B++Rr) (hA:qZ8 A 10=true) (hB:qZ8 B 10=true) (hdt:dt=false→B = []) (hst:qH4 10 dt Rr) (h0:A++B ≠ [])
  (he:∀ c R',Rr=c :: R'→(mkL 10).contains c=true→∀ i,i≤R'.length→exO (R'.take i)=false):Lg S (A++dtL dt B).length:=by
 have hl:S.length=(A++dtL dt B).length+Rr.length:=by rw[h,xE0]
 refine⟨.inr ⟨by omega,.inr (.inr (zC5 hx h hA hB hdt h0))⟩,fun j hj hjl hd=>?_⟩
 have hok:=qL3 hw hd;rcases(qA0 hx h hA hB hdt hst (by omega) hok).2 with h1|⟨c,R',h1,h2,h3,h4⟩
 ·have:=congrArg List.length h1
  rw[List.length_take,List.length_nil] at this;omega
 ·rw[h1,List.length_cons] at hl;rw[he c R' h1 h2 _ (by omega)] at h4
  cases h4
theorem xF9 {S A B R':List UInt8} {dt:Bool} {c:UInt8} {l:Nat} (hw:¬ (3≤S.length∧(S.take 3 = [105,110,102]∨S.take 3 = [110,97,110]))) (hx:hexP S=false) (h:S=A++dtL dt B++c :: R') (hA:qZ8 A 10=true) (hB:qZ8 B 10=true) (hdt:dt=false→B = []) (hst:qH4 10 dt (c :: R')) (h0:A++B ≠ []) (hc:(mkL 10).contains c=true)
  (he:ExP R' l true):Lg S ((A++dtL dt B).length+1+l):=by
 have hl:S.length=(A++dtL dt B).length+(R'.length+1):=by rw[h,xE0,List.length_cons]
 obtain⟨e1,e2,e3⟩:=he;refine⟨.inr ⟨by omega,.inr (.inr (xH0 hx h hA hB hdt hst h0 hc (e2 rfl)))⟩,fun j hj hjl hd=>?_⟩
 have hok:=qL3 hw hd;rcases(qA0 hx h hA hB hdt hst (by omega) hok).2 with h1|⟨c',R'',h1,h2,h3,h4⟩
 ·have:=congrArg List.length h1
  rw[List.length_take,List.length_nil,List.length_cons] at this;omega
 ·injection h1 with k1 k2;subst k1 k2;have:=(e3 _ (by omega) h4).2
  omega
theorem zA8 {S:List UInt8} (h:hexP S=true) {j:Nat} (hj:2≤j):hexP (S.take j)=true∧psS (S.take j)=(S.drop 2).take (j - 2):=by
 rcases qY0 S with ⟨-,c,T,h1,h2⟩|⟨h1,-⟩
 ·obtain⟨d,rfl⟩:∃ d,j=d+2:=⟨j - 2,by omega⟩
  have e:S.take (d+2)=48 :: c :: T.take d:=by rw[h1];rfl
  have hh:hexP (S.take (d+2))=true:=by
   rcases qY0 (S.take (d+2))with ⟨h3,-⟩|⟨-,h3⟩
   ·exact h3
   ·obtain⟨h4,h5⟩:=h3 c _ e;rcases h2 with h2|h2
    ·exact absurd h2 h4
    ·exact absurd h2 h5
  refine⟨hh,?_⟩
  rw[(qC2 hh).1,e,h1];rfl
 ·rw[h] at h1;cases h1
theorem zH9 {S A B Rr:List UInt8} {dt:Bool} (hx:hexP S=true) (h:S.drop 2=A++dtL dt B++Rr) (hA:qZ8 A 16=true) (hB:qZ8 B 16=true) (hdt:dt=false→B = []) (hst:qH4 16 dt Rr) {j:Nat} (hj:2≤j) :
  psOk (S.take j)=true→A++B ≠ []∧∃ c R',Rr=c :: R'∧(mkL 16).contains c=true∧2+(A++dtL dt B).length<j∧exO (R'.take (j - 2 - (A++dtL dt B).length - 1))=true:=by
 intro hok;obtain⟨hx2,hps⟩:=zA8 hx hj;obtain⟨p1,p2,p3⟩:=qC2 hx2;by_cases hjx:(A++dtL dt B).length≤j - 2
 ·have hT:(S.drop 2).take (j - 2)=A++dtL dt B++Rr.take (j - 2 - (A++dtL dt B).length):=by rw[h,qN2 hjx]
  rcases qV7 (.inr rfl) hps p2 p3 hT hA hB hdt (qM5 hst _)with ⟨q1,q2,-⟩|⟨c,R',q1,q2,q3,-⟩|⟨c,R',q1,q2,q3⟩
  ·rw[hok,hx2] at q2;cases q2
  ·rw[hok] at q3;have q4:=q3.symm;rw[xC] at q4;refine⟨of_decide_eq_true q4.2,?_⟩
   cases Rr with
   | nil=>simp at q1
   | cons c' R'' =>
    obtain⟨d,hd⟩:∃ d,j - 2 - (A++dtL dt B).length=d:=⟨_,rfl⟩;rw[hd] at q1 ⊢;cases d with
    | zero=>simp at q1
    | succ d =>
     rw[List.take_succ_cons] at q1;injection q1 with e1 e2;subst e1;exact⟨c',R'',rfl,q2,by omega,by rw[xE5,e2];exact q4.1⟩
  ·rw[hok] at q3;cases q3
 ·exfalso;have hT:(S.drop 2).take (j - 2)=(A++dtL dt B).take (j - 2):=by rw[h,List.take_append_of_le_length (by omega)]
  obtain⟨A',B',dt',R',e1,hA',hB',hdt',hst',-⟩:=sp1 (b:=16) (.inr rfl) ((A++dtL dt B).take (j - 2)) [] 0;rw[e1] at hT;rcases qV7 (.inr rfl) hps p2 p3 hT hA' hB' hdt' hst' with ⟨q1,q2,-⟩|⟨c,R'',q1,q2,q3,-⟩|⟨c,R'',q1,q2,q3⟩
  ·rw[hok,hx2] at q2;cases q2
  ·have hm:c ∈ A++dtL dt B:=List.mem_of_mem_take (i:=j - 2) (by rw[e1,q1];simp)
   rw[mk_x (.inr rfl) hA hB c hm] at q2;cases q2
  ·rw[hok] at q3;cases q3
theorem yI4 {S A B Rr:List UInt8} {dt:Bool} (hw:¬ (3≤S.length∧(S.take 3 = [105,110,102]∨S.take 3 = [110,97,110]))) (hx:hexP S=true) (h:S.drop 2=A++dtL dt B++Rr) (hA:qZ8 A 16=true) (hB:qZ8 B 16=true) (hdt:dt=false→B = []) (hst:qH4 16 dt Rr)
  (he:A++B ≠ []→∀ c R',Rr=c :: R'→(mkL 16).contains c=true→∀ i,i≤R'.length→exO (R'.take i)=false):Lg S 1:=by
 have hl:S.length - 2=(A++dtL dt B).length+Rr.length:=by rw[←xE0,←h,List.length_drop]
 obtain⟨c,T,hS,-⟩:∃ c T,S=48 :: c :: T∧(c=120∨c=88):=by
  rcases qY0 S with ⟨-,h1⟩|⟨h1,-⟩
  ·exact h1
  ·rw[hx] at h1;cases h1
 refine⟨.inr ⟨by rw[hS];simp,.inr (.inr ?_)⟩,fun j hj hjl hd=>?_⟩
 ·have e:S.take 1 = [48]:=by rw[hS];rfl
  have hh:hexP [48]=false:=by
   rcases qY0 [48] with ⟨-,c,T,h1,-⟩|⟨h1,-⟩
   ·cases h1
   ·exact h1
  rw[e];exact zC5 (S := [48]) (A := [48]) (B := []) (Rr := []) (dt:=false) hh rfl (by decide) (by decide) (fun _=>rfl) (by simp)
 ·have hok:=qL3 hw hd;obtain⟨h1,c,R',h2,h3,h4,h5⟩:=zH9 hx h hA hB hdt hst (by omega) hok
  rw[h2,List.length_cons] at hl;rw[he h1 c R' h2 h3 _ (by omega)] at h5
  cases h5
theorem yI3 {S A B R':List UInt8} {dt:Bool} {c:UInt8} {l:Nat} (hw:¬ (3≤S.length∧(S.take 3 = [105,110,102]∨S.take 3 = [110,97,110]))) (hx:hexP S=true) (h:S.drop 2=A++dtL dt B++c :: R') (hA:qZ8 A 16=true) (hB:qZ8 B 16=true) (hdt:dt=false→B = []) (hst:qH4 16 dt (c :: R')) (h0:A++B ≠ []) (hc:(mkL 16).contains c=true)
  (he:ExP R' l true):Lg S (2+(A++dtL dt B).length+1+l):=by
 have hl:S.length - 2=(A++dtL dt B).length+(R'.length+1):=by rw[←List.length_cons (a:=c),←xE0,←h,List.length_drop]
 obtain⟨e1,e2,e3⟩:=he;refine⟨.inr ⟨by omega,.inr (.inr ?_)⟩,fun j hj hjl hd=>?_⟩
 ·obtain⟨hx2,hps⟩:=zA8 hx (j:=2+(A++dtL dt B).length+1+l) (by omega)
  obtain⟨p1,p2,p3⟩:=qC2 hx2;have hT:(S.drop 2).take (2+(A++dtL dt B).length+1+l - 2)=A++dtL dt B++c :: R'.take l:=by
   rw[h,qN2 (by omega),show 2+(A++dtL dt B).length+1+l - 2 - (A++dtL dt B).length=l+1 by omega,List.take_succ_cons]
  have hst':qH4 16 dt (c :: R'.take l):=by have:=qM5 hst (l+1);rwa [List.take_succ_cons] at this
  rcases qV7 (.inr rfl) hps p2 p3 hT hA hB hdt hst' with ⟨q1,-⟩|⟨c',R'',q1,q2,q3,-⟩|⟨c',R'',q1,q2,q3⟩
  ·cases q1
  ·injection q1 with k1 k2;rw[q3,←k2,e2 rfl,xL4 h0];rfl
  ·injection q1 with k1 k2;rw[←k1,hc] at q2;cases q2
 ·have hok:=qL3 hw hd;obtain⟨h1,c',R'',h2,h3,h4,h5⟩:=zH9 hx h hA hB hdt hst (by omega) hok
  injection h2 with k1 k2;subst k1 k2;have:=(e3 _ (by omega) h5).2
  omega
end Go.Proofs.YtbanebginnakhaaGreatDoor
