/- Own work: contracts of the program's functions, part 18: SO1 FRD FRE FRF FRG FRI FS1 FS2 FS4. -/
import Derived.Test.YtcdkkpjilgmncaaGreatDoorA17
import Derived.Test.YtcdkkpjilgmncaaGreatDoorA13
import Derived.Test.YtcdkkpjilgmncaaGreatDoorA16

set_option maxHeartbeats 16000000
set_option maxRecDepth 200000
set_option linter.unusedVariables false
set_option linter.unusedSimpArgs false
namespace Go.Proofs.YtcdkkpjilgmncaaGreatDoor
open Go.RowKit Go.Fl64
attribute [local go_sem] run_store_flt
def V8 (t:Bool×Nat×Int):Int:=vz 5000000 t.1 t.2.1 t.2.2
theorem V8_cmp {a b:Nat} (ha:a<18446744073709551616) (hb:b<18446744073709551616) (fa:mag a<9218868437227405312) (fb:mag b<9218868437227405312):V8 (tF a)≤V8 (tF b)↔stp a≤stp b:=by
 have k:=ord_tF8 ha hb fa fb
 rw[ordN_vz (tF_e5000000 a) (tF_e5000000 b)] at k
 have h1:=(cmpI_neg_iff (V8 (tF a)) (V8 (tF b))).2
 have h2:=(cmpI_neg_iff (stp a) (stp b)).2
 have k:cmpI (V8 (tF a)) (V8 (tF b))=cmpI (stp a) (stp b):=k
 rw[k] at h1
 constructor
 ·intro h
  by_cases h':stp a≤stp b
  ·exact h'
  ·have:=h1.1 (h2.2 (by omega));omega
 ·intro h
  by_cases h':V8 (tF a)≤V8 (tF b)
  ·exact h'
  ·have:=h2.1 (h1.2 (by omega));omega
theorem un_le_of {K p:Nat} {a b:Int} (hp:p≤K) (h:vz K (un a p).1 (un a p).2.1 (un a p).2.2≤vz K (un b p).1 (un b p).2.1 (un b p).2.2):a≤b:=by
 rw[vz_un a hp,vz_un b hp] at h
 exact Int.le_of_mul_le_mul_right h (by exact_mod_cast Nat.two_pow_pos (K - p))
theorem sU_le {a b:Nat} (ha:a<18446744073709551616) (hb:b<18446744073709551616) (fa:mag a<9218868437227405312) (fb:mag b<9218868437227405312) (h:stp a≤stp b):sU a≤sU b:=by
 have h1:=(V8_cmp ha hb fa fb).2 h
 unfold V8 at h1
 rw[tF_sU a,tF_sU b] at h1
 exact un_le_of (by omega) h1
theorem sU_pos {a:Nat} (h:neg a=false):sU a=(fU a:Int):=by unfold sU;rw[h];rfl
def cU (y:Nat):Nat:=if mag y<9218868437227405312 then fU y else kU
def dU (y:Nat):Nat:=if mag y<9218868437227405312 then kU else 0
theorem fracOf_un {y:Nat} (hy:y<18446744073709551616) (hn:neg y=false) (hm:mag y≤9218868437227405312) {W:World} (hT:Tab32 W) (hJ:Ie.Tab W) :
  Calls Tryz.prog 36 #[.float .f64 y] W fun r w'=>OutFv W (un (cU y:Int) 1074) (un (dU y:Int) 1074) r w':=by
 have kw:∀ V,Bw W V→Calls Tryz.prog 37 #[.int .i64 1] V fun r w'=>OutP V (un (kU:Int) 1074) r w':=fun V hV=>by
  have h:=whole_pn (n:=1) (hT.later hV) (by omega)
  rw[un_kU,Int.one_mul] at h
  exact h
 unfold cU dU
 by_cases hf:mag y<9218868437227405312
 ·rw[if_pos hf,if_pos hf]
  have ht:tF y=un (fU y:Int) 1074:=tF_un hn (Ie.lp_bound y).1
  exact fracOf_fin y _ _ W (fun V hV=>by
   have h:=ofN y hy hf V (hT.later hV) (Tab.later hJ hV)
   rw[ht] at h
   exact h) kw
 ·rw[if_neg hf,if_neg hf]
  have h0:un ((0:Nat):Int) 1074=nilN:=un_0 1074
  rw[h0]
  exact fracOf_inf y 5 (by omega) _ W (fun V hV=>of_inf y hy V (Tab.later hJ hV) (by omega)) kw
theorem simp_un {x y P Q:Nat} (hx:x<18446744073709551616) (hy:y<18446744073709551616) (nx:neg x=false) (fx:mag x<9218868437227405312) (ny:neg y=false) (my:mag y≤9218868437227405312) (hle:fU x*dU y≤cU y*kU) (hS:Smp (fU x) kU (cU y) (dU y) P Q) {W:World} (hT:Tab32 W) (hJ:Ie.Tab W) :
  Calls Tryz.prog 13 #[.agg #[.float .f64 x,.float .f64 y]] W fun r w'=>OutFv W (un (P:Int) 0) (un (Q:Int) 0) r w':=by
 have hc:cU y<2^bU:=by unfold cU;split;exact fU_lt y;exact kU_lt
 have hd:dU y<2^bU:=by unfold dU;split;exact kU_lt;exact Nat.two_pow_pos _
 have hX:2^bU - 1<2^bU:=by have:=Nat.two_pow_pos bU;omega
 have e1:cU x=fU x:=by unfold cU;rw[if_pos fx]
 have e2:dU x=kU:=by unfold dU;rw[if_pos fx]
 have f1:=fU_lt x
 have f2:=kU_lt
 refine simp_1 x y (fU x) kU (cU y) (dU y) (2^bU - 1) P Q bU W hT hX (by unfold bU;omega) (SI.start kU_pos hle (by omega) (by omega) (by omega) (by omega) hS) (fun V hV=>?_) (fun V hV=>fracOf_un hy ny my (hT.later hV) (Tab.later hJ hV)) (fun V hV=>whole_pn (n:=1) (hT.later hV) (by omega))
 have h:=fracOf_un hx nx (Nat.le_of_lt fx) (hT.later hV) (Tab.later hJ hV)
 rw[e1,e2] at h
 exact h
theorem smp_end {a b c p q:Nat} (h:Smp a b c 0 p q):q=1:=by
 cases h with
 | whole _ _=>rfl
 | above _ _ _=>rfl
 | more _ _ h1 _=>rw[Nat.mul_zero] at h1;omega
theorem smp_sv {x y P Q:Nat} (hle:fU x*dU y≤cU y*kU) (hS:Smp (fU x) kU (cU y) (dU y) P Q):0<Q∧Q≤kU∧P<2^bU∧((fU x:Int)*Q≤(P:Int)*kU)∧(mag y<9218868437227405312→(P:Int)*kU≤(fU y:Int)*Q)∧∀ n:Nat,1≤n→n<Q→mag y<9218868437227405312∧∀ m:Int,(fU x:Int)*n≤m*kU→¬ m*kU≤(fU y:Int)*n:=by
 have h1:=smp_pos hS hle
 have h2:=smp_le hS hle
 obtain⟨⟨h3,h4⟩,h5⟩:=smp_in hS hle
 have cd:mag y<9218868437227405312→cU y=fU y∧dU y=kU:=fun hf=>by unfold cU dU;rw[if_pos hf,if_pos hf];exact⟨rfl,rfl⟩
 refine⟨h1.1,h2.1.2,Nat.lt_of_le_of_lt h2.1.1 (fU_lt x),by exact_mod_cast h3,fun hf=>?_,fun n hn hq=>?_⟩
 ·rw[(cd hf).1,(cd hf).2] at h4
  exact_mod_cast h4
 ·by_cases hf:mag y<9218868437227405312
  ·refine⟨hf,fun m g1 g2=>?_⟩
   rw[(cd hf).1,(cd hf).2] at h5
   have hm:0≤m:=by
    have:(0:Int)≤m*kU:=Int.le_trans (Int.mul_nonneg (Int.natCast_nonneg _) (Int.natCast_nonneg _)) g1
    exact Int.nonneg_of_mul_nonneg_left this (by exact_mod_cast kU_pos)
   obtain⟨m',rfl⟩:=Int.eq_ofNat_of_zero_le hm
   have:=(h5 m' n hn (by exact_mod_cast g1) (by exact_mod_cast g2)).2
   omega
  ·have:dU y=0:=by unfold dU;rw[if_neg hf]
   rw[this] at hS
   have:=smp_end hS
   omega
theorem pneg_un {Z:Int} {b:Nat} (h:Z.natAbs<2^b) (hb:b≤60000) {W:World} {X:Value} (hX:PN W X (un Z 0)):Calls Tryz.prog 15 #[X] W fun r w'=>OutP W (un (-Z) 0) r w':=by
 obtain⟨ao,cap,rfl,hI⟩:=hX
 have ok:=ok_un (p:=0) h hb (by omega)
 have f:=ok.facts
 refine(negw_ok hI (by omega) ok).mono ?_
 rintro r w' ⟨v,rfl,hO,hB⟩
 have e:=gN_un (a:=Z) (p:=0)
 obtain⟨ao',cap',rfl,o1,o2,o3⟩:=hO.is
 have hI':Is w' (.slice ao' (dlen (un Z 0).2.1) cap') (un Z 0).2.1:=⟨ao',cap',rfl,o1,o2,o3⟩
 refine⟨_,_,_,_,_,rfl,⟨ao',cap',?_,?_⟩,hB⟩
 ·rw[←e]
  unfold gN
  by_cases h0:(un Z 0).2.1=0
  ·have:=f.2.2.2.1 h0
   rw[if_pos h0,this,show dlen (false,0,(0:Int)).2.1=0 from dlen_zero]
   rfl
  ·rw[if_neg h0]
   have:0<dlen (un Z 0).2.1:=by have:=dlen_pos h0;omega
   rw[decide_eq_true this,Bool.and_true]
 ·rw[←e]
  unfold gN
  by_cases h0:(un Z 0).2.1=0
  ·rw[if_pos h0];rw[h0] at hI';exact hI'
  ·rw[if_neg h0];exact hI'
theorem fU_ngt {a:Nat} (h:a<18446744073709551616):fU (ngt a)=fU a:=by unfold fU Ie.mant Ie.lp;rw[ngt_mag h]
theorem le_0l {a:Nat} (na:isNaN a=false):le 0 a=decide (0≤stp a):=by unfold le;rw[na,show isNaN 0=false by decide,show stp 0=0 by decide];simp
theorem le_0r {b:Nat} (nb:isNaN b=false):le b 0=decide (stp b≤0):=by unfold le;rw[nb,show isNaN 0=false by decide,show stp 0=0 by decide];simp
theorem lt_0r {b:Nat} (nb:isNaN b=false):lt b 0=decide (stp b<0):=by unfold lt;rw[nb,show isNaN 0=false by decide,show stp 0=0 by decide];simp
theorem vI_all {a b:Nat} (h:vI a b=true):isNaN a=false∧isNaN b=false∧stp a≤stp b∧stp a<9218868437227405312 ∧ -9218868437227405312<stp b∧a≠9223372036854775808∧b≠9223372036854775808:=by
 unfold vI le lt at h
 rw[show stp 9218868437227405312=9218868437227405312 by decide,show stp 18442240474082181120 = -9218868437227405312 by decide] at h
 simp only[Bool.and_eq_true,Bool.not_eq_true',decide_eq_true_eq] at h
 obtain⟨⟨⟨⟨⟨⟨h1,h2⟩,h3⟩,h4⟩,h5⟩,h6⟩,h7⟩:=h
 exact⟨h1,h2,h3,h4.2,h5.2,h6,h7⟩
theorem flp {a:Nat} (ha:a<18446744073709551616) (h0:0≤stp a) (h1:a≠9223372036854775808):neg a=false∧(mag a:Int)=stp a:=by
 unfold stp sgn neg mag at *
 by_cases h:9223372036854775808≤a
 ·simp only[h,decide_true,if_true] at h0 ⊢; omega
 ·simp only[h,decide_false,if_false,Bool.false_eq_true] at h0 ⊢; simp
theorem flq {a:Nat} (h0:stp a<0):neg a=true∧(mag a:Int) = -stp a:=by
 unfold stp sgn at *
 cases h:neg a
 ·rw[h] at h0;simp at h0;omega
 ·rw[h] at h0;simp
theorem nn_mag {a:Nat} (h:isNaN a=false):mag a≤9218868437227405312:=by unfold isNaN at h;have:=of_decide_eq_false h;omega
theorem smp_of {x y:Nat} (hx:x<18446744073709551616) (hy:y<18446744073709551616) (nx:neg x=false) (fx:mag x<9218868437227405312) (ny:neg y=false) (h:stp x≤stp y):∃ P Q,fU x*dU y≤cU y*kU∧Smp (fU x) kU (cU y) (dU y) P Q:=by
 have hle:fU x*dU y≤cU y*kU:=by
  unfold cU dU
  by_cases hf:mag y<9218868437227405312
  ·rw[if_pos hf,if_pos hf]
   have:=sU_le hx hy fx hf h
   rw[sU_pos nx,sU_pos ny] at this
   exact Nat.mul_le_mul_right _ (by exact_mod_cast this)
  ·rw[if_neg hf,if_neg hf,Nat.mul_zero]
   exact Nat.zero_le _
 obtain⟨P,Q,h⟩:=smp_ex (kU+dU y) _ _ _ _ (Nat.le_refl _) kU_pos hle
 exact⟨P,Q,hle,h⟩
theorem pl_id {x:Nat} (h:stp x≠0):pl x=x:=by
 unfold pl
 rw[if_neg]
 intro e
 rw[e] at h
 exact h (by decide)
theorem fU_0:fU 0=0:=by unfold fU;rw[show Ie.mant 0=0 by decide,Nat.zero_mul]
theorem psimple_no {a b:Nat} (ha:a<18446744073709551616) (hb:b<18446744073709551616) (hv:vI a b=false) (w:World):Calls Tryz.prog 4 #[.agg #[.float .f64 a,.float .f64 b]] w fun r w'=>Out2N w nilN nilN 1 r w' :=
 psimp_no a b w (fun W _=>by
  have:=svalid a b ha hb W
  rw[hv] at this
  exact this)
def isD (T:Bool×Nat×Int):World→Value→Prop:=fun w u=>DN w u T
theorem isD_stays (T:Bool×Nat×Int):Stays (isD T):=fun _ _ _ hb h=>DN.later h hb
theorem rowsF (T:TypeId):∀ L:List (World→Value→Prop),RowsAll T (fun _=>False) L
 | []=>trivial
 | _ :: r=>⟨fun _ _ _ _ _ _ h=>h.elim,rowsF T r⟩
theorem r_region {ops:Array Oper} {Q:Exit→Act→World→Prop} {id:Nat} (PVL SL:List Nat) (D:List (List Nat))
  (W0:World) (a0:Act) (L:List (World→Value→Prop)) (hchk:qchk ops PVL [] SL D [] []=true)
  (hV1:StaysAll L) (hsl:∀ s ∈ SL,s<a0.tmps.size)
  (hA:∀ j,j<PVL.length→∀ o,ops[PVL.getD j 0]?=some o→∀ (a:Act) (w:World),Bw W0 w→(∀ s:Nat,SL.contains s=false→a.tmps[s]?=a0.tmps[s]?) →
   (∀ j' ∈ dL D j,∃ u,a.tmps[SL.getD j' 0]?=some u∧vL L j' w u) →
   (o.guard=none∧o.wp Tryz.prog a w (fun a' w'=>∃ u,a'=a.put o.dst u∧vL L j w' u∧Bw w w') Q)∨wpOp Tryz.prog ops Q (PVL.getD j 0) (fun a' w'=>∃ u,a'=a.put o.dst u∧vL L j w' u∧Bw w w') a w)
  (hQ:∀ (u:Nat→Value) (w:World),Bw W0 w→(∀ j,j<PVL.length→vL L j w (u j))→Q .normal (putL a0 ((List.range PVL.length).map (fun j=>(SL.getD j 0,u j)))) w) :
  (Code.region id ops true).wp Tryz.prog Q a0 W0 :=
 q_region follows_mixed PVL [] SL D [] [] (fun _=>0) (fun _=>0) W0.heap.size 28 (fun _=>False) 3 W0 a0 L hchk hV1 (rowsF _ L) hsl
  (fun k hk=>absurd hk (Nat.not_lt_zero _)) (fun j hj o ho a w hk ho1 hd _=>hA j hj o ho a w hk.below ho1 hd) Tryz.info28
  (fun k hk=>absurd hk (Nat.not_lt_zero _)) (fun k hk=>absurd hk (Nat.not_lt_zero _)) (fun k hk=>absurd hk (Nat.not_lt_zero _)) (fun k k' hk=>absurd hk (Nat.not_lt_zero _)) (Nat.le_refl _)
  (fun u w hk hu _=>hQ u w hk.below hu)
theorem run_ldD (g o:Nat) (s:Bool) (ao:Option Addr) (n cp:Nat) (e:Int) (w:World) (h0:w.cell? ⟨g,o,none⟩=some (.bool s)) (h1:w.cell? ⟨g,o+1,none⟩=some (.slice ao n cp)) (h2:w.cell? ⟨g,o+2,none⟩=some (.int .i64 e)):(Instr.loadAt 27 (.pointer (some ⟨g,o,none⟩))).run Tryz.prog w=.ok (.agg #[.bool s,.slice ao n cp,.int .i64 e]) w :=
 run_loadAt_mid w g o 27 [.bool s,.slice ao n cp,.int .i64 e] _ (fun j v hv=>by
  match j with
  | 0=>simp at hv;subst hv;exact h0
  | 1=>simp at hv;subst hv;exact h1
  | 2=>simp at hv;subst hv;exact h2
  | k+3=>simp at hv) Tryz.underlying27 rfl Tryz.info27
theorem dfloatU {a:Nat} (ha:a<18446744073709551616) (w:World):Calls Tryz.prog 48 #[.float .f64 a] w fun r w'=>∃ A,r=.returned A∧DN w' A (un (sU a) 1074)∧Bw w w':=by
 have h:=float_dn a ha w
 rw[tF_sU] at h
 exact h
theorem dwholeU {n:Int} (hn:0≤n∧n≤9223372036854775807) (w:World):Calls Tryz.prog 17 #[.int .i64 n] w fun r w'=>∃ A,r=.returned A∧DN w' A (un n 0)∧Bw w w':=by
 have h:=gwhole (n:=n) (w:=w) (by omega)
 rw[un_whole] at h
 exact h
theorem dorderU {x y:Int} {k l p:Nat} {X Y:Value} {w:World} (hx:x.natAbs<2^k) (hy:y.natAbs<2^l) (hk:k≤90000) (hl:l≤90000) (hp:p≤90000) (h1:DN w X (un x p)) (h2:DN w Y (un y p)):Calls Tryz.prog 53 #[X,Y] w fun r w'=>r=.returned (.int .i64 (cmpI x y))∧Bw w w':=by
 have h:=gorder (un_gn hx hk hp) (un_gn hy hl hp) h1 h2
 rw[ord_un] at h
 exact h
theorem cmpI_gt0 {x y:Int}:decide (0<cmpI x y)=decide (y<x):=by
 rcases cmpI_cases x y with h|h|h <;> rw[h.2] <;> simp <;> omega
theorem cmpI_le0 {x y:Int}:decide (cmpI x y≤0)=decide (x≤y):=by
 rcases cmpI_cases x y with h|h|h <;> rw[h.2] <;> simp <;> omega
theorem dV {a:Act} {s:Tmp} {L:List (World→Value→Prop)} {j:Nat} {w:World} {x:Value} (h:∃ u,a.tmps[s]?=some u∧vL L j w u) (e:vL L j=isV x):a.tmps[s]?=some x:=by
 obtain⟨u,h1,h2⟩:=h
 rw[e] at h2
 obtain rfl:u=x:=h2
 exact h1
theorem dD {a:Act} {s:Tmp} {L:List (World→Value→Prop)} {j:Nat} {w:World} {t:Bool×Nat×Int} (h:∃ u,a.tmps[s]?=some u∧vL L j w u) (e:vL L j=isD t):∃ u,a.tmps[s]?=some u∧DN w u t:=by
 obtain⟨u,h1,h2⟩:=h
 rw[e] at h2
 exact⟨u,h1,h2⟩
theorem owp_leqI {Q:Exit→Act→World→Prop} {o:Oper} {K:Act→World→Prop} {a:Act} {w:World} {s:Tmp} {x c:Int} (hop:o.op=.binOp .leq 3 (.tmp s) (.const (.int .i64 c)) 3) (hs:a.tmps[s]?=some (.int .i64 x)) (h:K (a.put o.dst (.bool (decide (x≤c)))) w):o.wp Tryz.prog a w K Q :=
 owp_run1 (w':=w) (by simp[execOp,hop,Act.eval,hs,go_sem]) h
theorem owp_ldD {Q:Exit→Act→World→Prop} {o:Oper} {K:Act→World→Prop} {a:Act} {w:World} {s:Tmp} {g:Nat} {s':Bool} {ao:Option Addr} {n cp:Nat} {e:Int} (hop:o.op=.load 27 (.tmp s)) (hs:a.tmps[s]?=some (.pointer (some ⟨g,0,none⟩))) (h0:w.cell? ⟨g,0,none⟩=some (.bool s')) (h1:w.cell? ⟨g,1,none⟩=some (.slice ao n cp)) (h2:w.cell? ⟨g,2,none⟩=some (.int .i64 e)) (h:K (a.put o.dst (.agg #[.bool s',.slice ao n cp,.int .i64 e])) w):o.wp Tryz.prog a w K Q :=
 owp_run1 (w':=w) (by simp[execOp,hop,eval_get hs,run_ldD g 0 s' ao n cp e w h0 h1 h2]) h
theorem map2 {a:Act} {s t:Tmp} {v u:Value} (h:a.tmps[s]?=some v) (h':a.tmps[t]?=some u) : #[Operand.tmp s,Operand.tmp t].map a.eval = #[v,u]:=by simp[eval_get h,eval_get h']
theorem DN.keepN {W0 V:World} {n:Nat} {gs:Nat→Nat} {B:Nat} {A:Value} {t:Bool×Nat×Int} {T:TypeId} (hK:KeepB n gs B W0 V) (hbox:∀ k,k<n→∃ cs,W0.heap[gs k]?=some (.cells cs T (0,0))∧NC3 cs) (h:DN W0 A t):DN V A t:=by
 obtain⟨ao,cap,rfl,h1⟩:=h
 obtain⟨bb,o,h4,h5⟩:=h1.at_
 refine⟨ao,cap,rfl,h1.nil,⟨bb,o,h4,fun i hi=>?_⟩,h1.le,h1.small⟩
 have hc:=h5 i hi
 have hlt:bb<W0.heap.size:=World.block_lt_of_cell? _ _ hc
 have hne:∀ k,k<n→bb≠gs k:=by
  rintro k hk rfl
  obtain⟨cs,hE,_,_,_,_,_,rfl⟩:=hbox k hk
  simp only[World.cell?,hE] at hc
  rcases(show o+i=0∨o+i=1∨o+i=2∨3≤o+i by omega)with e|e|e|e
  ·rw[e] at hc;simp at hc
  ·rw[e] at hc;simp at hc
  ·rw[e] at hc;simp at hc
  ·rw[Array.getElem?_eq_none (by simpa using e)] at hc;cases hc
 have:=hK.keep bb hlt hne
 unfold World.cell? at hc ⊢
 rw[this]
 exact hc
theorem DN.row3 {W:World} {A:Value} {t:Bool×Nat×Int} {g:Nat} {T:TypeId} {cs:Array Value} (h:DN W A t) (hE:W.heap[g]?=some (.cells cs T (0,0))) (hC:NC3 cs) (cs':Array Value):DN (W.setRow g cs') A t:=by
 obtain⟨ao,cap,rfl,h1⟩:=h
 obtain⟨bb,o,h4,h5⟩:=h1.at_
 obtain⟨_,_,_,_,_,rfl⟩:=hC
 refine⟨ao,cap,rfl,h1.nil,⟨bb,o,h4,fun i hi=>?_⟩,h1.le,h1.small⟩
 have hc:=h5 i hi
 have hne:bb≠g:=by
  rintro rfl
  simp only[World.cell?,hE] at hc
  rcases(show o+i=0∨o+i=1∨o+i=2∨3≤o+i by omega)with e|e|e|e
  ·rw[e] at hc;simp at hc
  ·rw[e] at hc;simp at hc
  ·rw[e] at hc;simp at hc
  ·rw[Array.getElem?_eq_none (by simpa using e)] at hc;cases hc
 have hs:=setRow_other W g bb cs' hne
 unfold World.cell? at hc ⊢
 rw[hs]
 exact hc
theorem DN.cells3 {W:World} {A:Value} {t:Bool×Nat×Int} (h:DN W A t):∃ cs:Array Value,A=.agg cs∧cs.size=3∧NC3 cs∧cs.all (·.oneCell')=true:=by
 obtain⟨s,ao,n,cap,e,rfl⟩:=h.shape
 exact⟨_,rfl,rfl,⟨_,_,_,_,_,rfl⟩,one3 rfl rfl⟩
theorem results_c2 {P:Program} {fn:Func} {p q:Tmp} {ty:TypeId} (h:fn.results = #[.cell p ty,.cell q ty]) (tmps:Array Value) (w:World) (g k:Nat) (t:TypeId) (cs ds:Array Value) (fr fs:Nat×Nat) (d:TypeDesc)
  (hp:tmps.getD p undef=.pointer (some ⟨g,0,none⟩)) (hq:tmps.getD q undef=.pointer (some ⟨k,0,none⟩)) (hg:w.heap[g]?=some (.cells cs t fr)) (hk:w.heap[k]?=some (.cells ds t fs))
  (hu:P.underlying ty=some d) (hd:(match d with | .struct _ | .array _ _=>true|_=>false)=true) (hi:(P.info? ty).map (·.size)=some cs.size) (hj:(P.info? ty).map (·.size)=some ds.size) :
  (results fn tmps).run P w=.ok (.tuple #[.agg cs,.agg ds]) w:=by
 have hp':tmps[p]?.getD undef=.pointer (some ⟨g,0,none⟩):=by simpa using hp
 have hq':tmps[q]?.getD undef=.pointer (some ⟨k,0,none⟩):=by simpa using hq
 simp[results,h,hp',hq',asAddr,run_loadVar_row w g t ty cs fr d hg hu hd hi,run_loadVar_row w k t ty ds fs d hk hu hd hj,Result.andThen]
def Out2D (W:World) (t1 t2:Bool×Nat×Int) (r:Ending) (w':World):Prop:=∃ (s1:Bool) (ao1:Option Addr) (n1 cp1:Nat) (e1:Int) (s2:Bool) (ao2:Option Addr) (n2 cp2:Nat) (e2:Int),r=.returned (.tuple #[.agg #[.bool s1,.slice ao1 n1 cp1,.int .i64 e1],.agg #[.bool s2,.slice ao2 n2 cp2,.int .i64 e2]])∧DN w' (.agg #[.bool s1,.slice ao1 n1 cp1,.int .i64 e1]) t1∧DN w' (.agg #[.bool s2,.slice ao2 n2 cp2,.int .i64 e2]) t2∧Bw W w'
theorem lt6S {j:Nat} (h:j<6):j=0∨j=1∨j=2∨j=3∨j=4∨j=5:=by omega
theorem isD_rows3 (t:Bool×Nat×Int):∀ w u g cs cs',w.heap[g]?=some (.cells cs 27 (0,0))→NC3 cs→isD t w u→isD t (w.setRow g cs') u:=fun w u g cs cs' h hC h2=>DN.row3 h2 h hC _
theorem dfloor8 (a b k:Nat) (s1:Bool) (ao1:Option Addr) (n1 cp1:Nat) (e1:Int) (s2:Bool) (ao2:Option Addr) (n2 cp2:Nat) (e2:Int) (w:World) (hb:0<b) (hk:k≤20000) (ha:a<2^k) (hbk:b<2^k) (d1:DN w (.agg #[.bool s1,.slice ao1 n1 cp1,.int .i64 e1]) (un (a:Int) 0)) (d2:DN w (.agg #[.bool s2,.slice ao2 n2 cp2,.int .i64 e2]) (un (b:Int) 0)) :
  Calls Tryz.prog 50 #[.agg #[.bool s1,.slice ao1 n1 cp1,.int .i64 e1],.agg #[.bool s2,.slice ao2 n2 cp2,.int .i64 e2]] w fun r w'=>Out2D w (un ((a / b:Nat):Int) 0) (un ((a % b:Nat):Int) 0) r w':=by
 obtain⟨W,hW⟩:∃ W,W=(((w.alloc (.cells #[.bool s1,.slice ao1 n1 cp1,.int .i64 e1] 27)).alloc (.cells #[.bool s2,.slice ao2 n2 cp2,.int .i64 e2] 27)).alloc (.cells #[.bool false,.slice none 0 0,.int .i64 0] 27)).alloc (.cells #[.bool false,.slice none 0 0,.int .i64 0] 27):=⟨_,rfl⟩
 obtain⟨m1,m2,m3,m4,hBW⟩:=four_new _ _ _ _ hW
 have HF:Hid (W.heap[w.heap.size]?=some (.cells #[.bool s1,.slice ao1 n1 cp1,.int .i64 e1] 27 (0,0))∧W.heap[w.heap.size+1]?=some (.cells #[.bool s2,.slice ao2 n2 cp2,.int .i64 e2] 27 (0,0))∧W.heap[w.heap.size+1+1]?=some (.cells #[.bool false,.slice none 0 0,.int .i64 0] 27 (0,0))∧W.heap[w.heap.size+1+1+1]?=some (.cells #[.bool false,.slice none 0 0,.int .i64 0] 27 (0,0))∧Bw w W∧DN W (.agg #[.bool s1,.slice ao1 n1 cp1,.int .i64 e1]) (un (a:Int) 0)∧DN W (.agg #[.bool s2,.slice ao2 n2 cp2,.int .i64 e2]) (un (b:Int) 0)):=⟨m1,m2,m3,m4,hBW,d1.later hBW,d2.later hBW⟩
 obtain⟨x0,x1,x2⟩:=(cells3N m1).1
 obtain⟨y0,y1,y2⟩:=(cells3N m2).1
 have aA:((a:Int)).natAbs<2^k:=by rw[Int.natAbs_natCast];exact ha
 have bA:((b:Int)).natAbs<2^k:=by rw[Int.natAbs_natCast];exact hbk
 have kk:=gover1 (p:=0) hb aA hbk (by omega) (by omega) (Nat.zero_le _) HF.out.2.2.2.2.2.1 HF.out.2.2.2.2.2.2
 rw[show((0:Nat):Int)=0 from rfl] at kk
 clear m1 m2 m3 m4 hBW d1 d2
 go_enter Tryz.func50,Tryz.ntmps50
 go_upto_region 1 with fail
 rw[←hW]
 clear hW
 go_wp2_with fail
 refine kk.mono ?_
 rintro r w1 ⟨A,ex,rfl,hA,hb1⟩
 obtain⟨s3,ao3,n3,cp3,e3,rfl⟩:=hA.shape
 clear kk x0 x1 x2 y0 y1 y2
 obtain⟨V,hV⟩:∃ V,V=w1.alloc (.cells #[.bool s3,.slice ao3 n3 cp3,.int .i64 e3] 27):=⟨_,rfl⟩
 go_upto_region 2 with fail
 rw[←hV]
 have hbV:Bw w1 V:=by rw[hV];exact(Below.refl _ _).alloc (Nat.le_refl _) _
 have n6:V.heap[w1.heap.size]?=some (.cells #[.bool s3,.slice ao3 n3 cp3,.int .i64 e3] 27 (0,0)):=by rw[hV];exact heap_alloc_new _ _
 obtain⟨m1,m2,m3,m4,hBW,q1,q2⟩:=HF.out
 have hWV:Bw W V:=hb1.trans (hbV.mono hb1.size)
 have l1:=lt_of_box m4
 have l2:=hb1.size
 have M1:=box_later m1 hWV (lt_of_box m1)
 have M2:=box_later m2 hWV (lt_of_box m2)
 have M3:=box_later m3 hWV (lt_of_box m3)
 have M4:=box_later m4 hWV (lt_of_box m4)
 have Q1:=q1.later hWV
 have Q2:=q2.later hWV
 have Q3:=hA.later hbV
 have hBV:Bw w V:=hBW.trans (hWV.mono hBW.size)
 clear hV m1 m2 m3 m4 q1 q2 hA hb1 hWV hBW hbV
 generalize hg6:w1.heap.size=g6 at *
 have hg:w.heap.size+1+1+1<g6:=by omega
 have hbx2:∀ i,i<2→∃ cs,V.heap[two (w.heap.size+1+1) (w.heap.size+1+1+1) i]?=some (.cells cs 27 (0,0))∧NC3 cs:=fun i hi=>by
  rcases lt2F hi with rfl|rfl
  ·exact⟨_,M3,_,_,_,_,_,rfl⟩
  ·exact⟨_,M4,_,_,_,_,_,rfl⟩
 have ne:∀ g,(g<w.heap.size+1+1∨w.heap.size+1+1+1<g)→∀ i,i<2→g≠two (w.heap.size+1+1) (w.heap.size+1+1+1) i:=fun g h i hi=>by
  rcases lt2F hi with rfl|rfl
  ·show g≠w.heap.size+1+1;omega
  ·show g≠w.heap.size+1+1+1;omega
 have nA:(((a / b:Nat):Int)).natAbs<2^k:=by rw[Int.natAbs_natCast];exact Nat.lt_of_le_of_lt (Nat.div_le_self _ _) ha
 have Q3':DN V (.agg #[.bool s3,.slice ao3 n3 cp3,.int .i64 e3]) (un ((a / b:Nat):Int) 0):=by exact_mod_cast Q3
 refine q_region follows_mixed [0,1,2,3,4,5] [6,7] [14,15,16,17,18,19] [[],[],[],[],[2,3],[1,4]] [[0],[5]] [0,5] (two 4 5) (two (w.heap.size+1+1) (w.heap.size+1+1+1)) w.heap.size 27 NC3 3 V _ [isV (.agg #[.bool s3,.slice ao3 n3 cp3,.int .i64 e3]),isV (.agg #[.bool s1,.slice ao1 n1 cp1,.int .i64 e1]),isV (.agg #[.bool s3,.slice ao3 n3 cp3,.int .i64 e3]),isV (.agg #[.bool s2,.slice ao2 n2 cp2,.int .i64 e2]),isD (un (((a / b:Nat):Int)*(b:Int)) 0),isD (un ((a % b:Nat):Int) 0)] (by kernel_rfl) ⟨isV_stays _,isV_stays _,isV_stays _,isV_stays _,isD_stays _,isD_stays _,trivial⟩ ⟨isV_rows _ _ _,isV_rows _ _ _,isV_rows _ _ _,isV_rows _ _ _,isD_rows3 _,isD_rows3 _,trivial⟩ (by show ∀ s ∈ [14,15,16,17,18,19],s<20;decide) ?_ ?_ Tryz.info27 ?_ ?_ ?_ (two_inj (by omega)) hBV.size ?_
 ·intro i hi U u h
  rcases lt2F hi with rfl|rfl
  ·obtain rfl:u=_:=h
   exact⟨_,rfl,rfl,⟨_,_,_,_,_,rfl⟩,one3 rfl rfl⟩
  ·exact DN.cells3 (show DN U u (un ((a % b:Nat):Int) 0)from h)
 ·intro j hj o ho act U hK hoth hdep hrd
  have t6:act.tmps[(6:Nat)]?=some (Value.pointer (some ⟨g6,0,none⟩)):=(hoth 6 (by decide)).trans rfl
  have t2:act.tmps[(2:Nat)]?=some (Value.pointer (some ⟨w.heap.size,0,none⟩)):=(hoth 2 (by decide)).trans rfl
  have t3:act.tmps[(3:Nat)]?=some (Value.pointer (some ⟨w.heap.size+1,0,none⟩)):=(hoth 3 (by decide)).trans rfl
  have c6:=(cells3N ((hK.keep g6 (lt_of_box n6) (ne g6 (.inr hg))).trans n6)).1
  have c2:=(cells3N ((hK.keep _ (lt_of_box M1) (ne _ (.inl (by omega)))).trans M1)).1
  have c3:=(cells3N ((hK.keep _ (lt_of_box M2) (ne _ (.inl (by omega)))).trans M2)).1
  rcases lt6S hj with rfl|rfl|rfl|rfl|rfl|rfl
  ·obtain rfl:=Option.some.inj ho
   exact .inl ⟨rfl,owp_ldD rfl t6 c6.1 c6.2.1 c6.2.2 ⟨_,rfl,rfl,Below.refl _ _⟩⟩
  ·obtain rfl:=Option.some.inj ho
   exact .inl ⟨rfl,owp_ldD rfl t2 c2.1 c2.2.1 c2.2.2 ⟨_,rfl,rfl,Below.refl _ _⟩⟩
  ·obtain rfl:=Option.some.inj ho
   exact .inl ⟨rfl,owp_ldD rfl t6 c6.1 c6.2.1 c6.2.2 ⟨_,rfl,rfl,Below.refl _ _⟩⟩
  ·obtain rfl:=Option.some.inj ho
   exact .inl ⟨rfl,owp_ldD rfl t3 c3.1 c3.2.1 c3.2.2 ⟨_,rfl,rfl,Below.refl _ _⟩⟩
  ·obtain rfl:=Option.some.inj ho
   have y2:act.tmps[(16:Nat)]?=_:=dV (hdep 2 (by simp[dL])) rfl
   have y3:act.tmps[(17:Nat)]?=_:=dV (hdep 3 (by simp[dL])) rfl
   refine .inl ⟨rfl,owp_call rfl (enters Tryz.func54 (by kernel_rfl) (by kernel_rfl)) (map2 y2 y3) ?_⟩
   have h:=gtimes (un_gn nA (by omega) (by omega)) (un_gn bA (by omega) (by omega)) (DN.keepN hK hbx2 Q3') (DN.keepN hK hbx2 Q2)
   rw[gM_un] at h
   refine h.mono ?_
   rintro r w' ⟨A,rfl,hA,hb'⟩
   exact⟨_,rfl,_,rfl,hA,hb'⟩
  ·obtain rfl:=Option.some.inj ho
   have y1:act.tmps[(15:Nat)]?=_:=dV (hdep 1 (by simp[dL])) rfl
   obtain⟨u4,y4,v4⟩:=dD (s:=18) (hdep 4 (by simp[dL])) rfl
   refine .inl ⟨rfl,owp_call rfl (enters Tryz.func55 (by kernel_rfl) (by kernel_rfl)) (map2 y1 y4) ?_⟩
   have h:=gless (un_gn (pow_grow k aA) (by omega) (by omega)) (un_gn (abs_mul nA bA) (by omega) (by omega)) (DN.keepN hK hbx2 Q1) v4
   rw[gD_un] at h
   have e:(a:Int) - ((a / b:Nat):Int)*(b:Int)=((a % b:Nat):Int):=by
    have:=Nat.div_add_mod a b
    rw[Nat.mul_comm] at this
    have:((a / b*b+a % b:Nat):Int)=(a:Int):=by rw[this]
    push_cast at this ⊢
    omega
   rw[e] at h
   refine h.mono ?_
   rintro r w' ⟨A,rfl,hA,hb'⟩
   exact⟨_,rfl,_,rfl,hA,hb'⟩
 ·intro i hi
  rcases lt2F hi with rfl|rfl <;> exact⟨_,rfl,rfl⟩
 ·intro i hi
  rcases lt2F hi with rfl|rfl
  ·exact⟨rfl,by decide⟩
  ·exact⟨rfl,by decide⟩
 ·intro i hi
  rcases lt2F hi with rfl|rfl
  ·exact⟨by show w.heap.size≤w.heap.size+1+1;omega,_,M3,rfl,_,_,_,_,_,rfl⟩
  ·exact⟨by show w.heap.size≤w.heap.size+1+1+1;omega,_,M4,rfl,_,_,_,_,_,rfl⟩
 ·intro u U hK hu hcs
  obtain⟨csb,yb,zb⟩:=hcs 1 (by decide)
  obtain⟨csa,ya,za⟩:=hcs 0 (by decide)
  have u0:u 0=.agg #[.bool s3,.slice ao3 n3 cp3,.int .i64 e3]:=hu 0 (by decide)
  have ya':u 0=.agg csa:=ya
  rw[u0] at ya'
  obtain rfl:=Value.agg.inj ya'
  have fb:DN U (u 5) (un ((a % b:Nat):Int) 0):=hu 5 (by decide)
  have yb':u 5=.agg csb:=yb
  rw[yb'] at fb
  obtain⟨sb,aob,nb,cpb,eb,hb'⟩:=fb.shape
  obtain rfl:=Value.agg.inj hb'
  have HX:Hid (U.heap[w.heap.size+1+1]?=some (.cells #[.bool s3,.slice ao3 n3 cp3,.int .i64 e3] 27 (0,0))∧U.heap[w.heap.size+1+1+1]?=some (.cells #[.bool sb,.slice aob nb cpb,.int .i64 eb] 27 (0,0))∧DN U (.agg #[.bool s3,.slice ao3 n3 cp3,.int .i64 e3]) (un ((a / b:Nat):Int) 0)∧DN U (.agg #[.bool sb,.slice aob nb cpb,.int .i64 eb]) (un ((a % b:Nat):Int) 0)∧Bw w U):=⟨za,zb,DN.keepN hK hbx2 Q3',fb,hBV.trans hK.below⟩
  clear hu hcs ya yb za zb ya' yb' fb hb' hK M1 M2 M3 M4 Q1 Q2 Q3 Q3' hBV hbx2 ne n6
  simp only[putL,List.length_cons,List.length_nil,Nat.reduceAdd,show List.range 6 = [0,1,2,3,4,5] from rfl,List.getD_cons_zero,List.getD_cons_succ,List.map_cons,List.map_nil,List.cons_append,List.nil_append,List.foldl_cons,List.foldl_nil,Nat.reduceLT,Nat.reduceMod,Nat.reduceDiv,Nat.reduceMul,Nat.reduceEqDiff,reduceIte,Nat.one_ne_zero,Act.put,List.setIfInBounds_toArray,List.set_cons_zero,List.set_cons_succ]
  go_wp2_with fail
  refine bodyPost_ret (results_c2 rfl _ _ (w.heap.size+1+1) (w.heap.size+1+1+1) 27 #[.bool s3,.slice ao3 n3 cp3,.int .i64 e3] #[.bool sb,.slice aob nb cpb,.int .i64 eb] (0,0) (0,0) _ rfl rfl HX.out.1 HX.out.2.1 Tryz.underlying27 rfl Tryz.info27 Tryz.info27) rfl ?_
  exact⟨_,_,_,_,_,_,_,_,_,_,rfl,HX.out.2.2.1,HX.out.2.2.2.1,HX.out.2.2.2.2⟩
def NB (W:World) (g:Nat) (s1:Bool) (ao1:Option Addr) (n1 cp1:Nat) (e1:Int) (t:Bool×Nat×Int):Prop:=W.heap[g]?=some (.cells #[.bool s1,.slice ao1 n1 cp1,.int .i64 e1] 27 (0,0))∧DN W (.agg #[.bool s1,.slice ao1 n1 cp1,.int .i64 e1]) t
theorem NB.later {W V:World} {g:Nat} {s1:Bool} {ao1:Option Addr} {n1 cp1:Nat} {e1:Int} {t:Bool×Nat×Int} (h:NB W g s1 ao1 n1 cp1 e1 t) (hb:Bw W V):NB V g s1 ao1 n1 cp1 e1 t:=⟨box_later h.1 hb (lt_of_box h.1),h.2.later hb⟩
theorem six_new {w W:World} (o1 o2 o3 o4 o5 o6:Obj) (hW:W=(((((w.alloc o1).alloc o2).alloc o3).alloc o4).alloc o5).alloc o6):W.heap[w.heap.size]?=some o1∧W.heap[w.heap.size+1]?=some o2∧W.heap[w.heap.size+1+1]?=some o3∧W.heap[w.heap.size+1+1+1]?=some o4∧W.heap[w.heap.size+1+1+1+1]?=some o5∧W.heap[w.heap.size+1+1+1+1+1]?=some o6∧Bw w W:=by
 obtain⟨V,hV⟩:∃ V,V=(((w.alloc o1).alloc o2).alloc o3).alloc o4:=⟨_,rfl⟩
 obtain⟨h1,h2,h3,h4,h5⟩:=four_new _ _ _ _ hV
 have hs:V.heap.size=w.heap.size+1+1+1+1:=by rw[hV];simp
 rw[←hV] at hW
 obtain⟨g1,g2,g3,g4⟩:=two_new _ _ hW
 rw[hs] at g1 g2
 exact⟨box_later h1 g4 (lt_of_box h1),box_later h2 g4 (lt_of_box h2),box_later h3 g4 (lt_of_box h3),box_later h4 g4 (lt_of_box h4),g1,g2,h5.trans (g4.mono h5.size)⟩
theorem DN.len {W:World} {s1:Bool} {ao1:Option Addr} {n1 cp1:Nat} {e1:Int} {t:Bool×Nat×Int} (h:DN W (.agg #[.bool s1,.slice ao1 n1 cp1,.int .i64 e1]) t):n1=dlen t.2.1:=by
 obtain⟨ao,cap,e,-⟩:=h
 simp only[Value.agg.injEq,Array.mk.injEq,List.cons.injEq,Value.bool.injEq,Value.slice.injEq,Value.int.injEq,true_and,and_true] at e
 exact e.2.1.2.1
theorem DN.all {W:World} {s1:Bool} {ao1:Option Addr} {n1 cp1:Nat} {e1:Int} {t:Bool×Nat×Int} (h:DN W (.agg #[.bool s1,.slice ao1 n1 cp1,.int .i64 e1]) t):s1=t.1∧n1=dlen t.2.1∧e1=t.2.2∧dlen t.2.1≤35184372088832:=by
 obtain⟨ao,cap,e,i⟩:=h
 have:=i.small
 simp only[Value.agg.injEq,Array.mk.injEq,List.cons.injEq,Value.bool.injEq,Value.slice.injEq,Value.int.injEq,true_and,and_true] at e
 exact⟨e.1,e.2.1.2.1,e.2.2,this⟩
theorem dsmp8_all (a b c d k p q rx ry:Nat) (s1:Bool) (ao1:Option Addr) (n1 cp1:Nat) (e1:Int) (s2:Bool) (ao2:Option Addr) (n2 cp2:Nat) (e2:Int) (s3:Bool) (ao3:Option Addr) (n3 cp3:Nat) (e3:Int) (s4:Bool) (ao4:Option Addr) (n4 cp4:Nat) (e4:Int) (w:World) (hb:0<b) (hk:k≤20000) (ha:a<2^k) (hbk:b<2^k) (hc:c<2^k) (hd:d<2^k) (d1:DN w (.agg #[.bool s1,.slice ao1 n1 cp1,.int .i64 e1]) (un (a:Int) 0)) (d2:DN w (.agg #[.bool s2,.slice ao2 n2 cp2,.int .i64 e2]) (un (b:Int) 0)) (d3:DN w (.agg #[.bool s3,.slice ao3 n3 cp3,.int .i64 e3]) (un (c:Int) 0)) (d4:DN w (.agg #[.bool s4,.slice ao4 n4 cp4,.int .i64 e4]) (un (d:Int) 0)) (hcase:Hid ((a % b=0∧rx=a / b∧ry=1)∨(a % b≠0∧(a / b+1)*d≤c∧rx=a / b+1∧ry=1)∨(a % b≠0∧c<(a / b+1)*d∧a / b*d≤c∧rx=a / b*p+q∧p=ry∧(p<2^k∧q<2^k)∧(∀ (s1:Bool) (ao1:Option Addr) (n1 cp1:Nat) (e1:Int) (s2:Bool) (ao2:Option Addr) (n2 cp2:Nat) (e2:Int) (s3:Bool) (ao3:Option Addr) (n3 cp3:Nat) (e3:Int) (s4:Bool) (ao4:Option Addr) (n4 cp4:Nat) (e4:Int) (w:World),DN w (.agg #[.bool s1,.slice ao1 n1 cp1,.int .i64 e1]) (un (d:Int) 0)→DN w (.agg #[.bool s2,.slice ao2 n2 cp2,.int .i64 e2]) (un ((c - a / b*d:Nat):Int) 0)→DN w (.agg #[.bool s3,.slice ao3 n3 cp3,.int .i64 e3]) (un (b:Int) 0)→DN w (.agg #[.bool s4,.slice ao4 n4 cp4,.int .i64 e4]) (un ((a % b:Nat):Int) 0)→Calls Tryz.prog 19 #[.agg #[.bool s1,.slice ao1 n1 cp1,.int .i64 e1],.agg #[.bool s2,.slice ao2 n2 cp2,.int .i64 e2],.agg #[.bool s3,.slice ao3 n3 cp3,.int .i64 e3],.agg #[.bool s4,.slice ao4 n4 cp4,.int .i64 e4]] w fun r w'=>Out2D w (un (p:Int) 0) (un (q:Int) 0) r w')))) :
  Calls Tryz.prog 19 #[.agg #[.bool s1,.slice ao1 n1 cp1,.int .i64 e1],.agg #[.bool s2,.slice ao2 n2 cp2,.int .i64 e2],.agg #[.bool s3,.slice ao3 n3 cp3,.int .i64 e3],.agg #[.bool s4,.slice ao4 n4 cp4,.int .i64 e4]] w fun r w'=>Out2D w (un (rx:Int) 0) (un (ry:Int) 0) r w':=by
 obtain⟨W,hW⟩:∃ W,W=(((((w.alloc (.cells #[.bool s1,.slice ao1 n1 cp1,.int .i64 e1] 27)).alloc (.cells #[.bool s2,.slice ao2 n2 cp2,.int .i64 e2] 27)).alloc (.cells #[.bool s3,.slice ao3 n3 cp3,.int .i64 e3] 27)).alloc (.cells #[.bool s4,.slice ao4 n4 cp4,.int .i64 e4] 27)).alloc (.cells #[.bool false,.slice none 0 0,.int .i64 0] 27)).alloc (.cells #[.bool false,.slice none 0 0,.int .i64 0] 27):=⟨_,rfl⟩
 obtain⟨m1,m2,m3,m4,m5,m6,hBW⟩:=six_new _ _ _ _ _ _ hW
 have HF:Hid (NB W (w.heap.size) s1 ao1 n1 cp1 e1 (un (a:Int) 0)∧NB W (w.heap.size+1) s2 ao2 n2 cp2 e2 (un (b:Int) 0)∧NB W (w.heap.size+1+1) s3 ao3 n3 cp3 e3 (un (c:Int) 0)∧NB W (w.heap.size+1+1+1) s4 ao4 n4 cp4 e4 (un (d:Int) 0)∧W.heap[w.heap.size+1+1+1+1]?=some (.cells #[.bool false,.slice none 0 0,.int .i64 0] 27 (0,0))∧W.heap[w.heap.size+1+1+1+1+1]?=some (.cells #[.bool false,.slice none 0 0,.int .i64 0] 27 (0,0))∧Bw w W):=⟨⟨m1,d1.later hBW⟩,⟨m2,d2.later hBW⟩,⟨m3,d3.later hBW⟩,⟨m4,d4.later hBW⟩,m5,m6,hBW⟩
 have H0:Hid (0<b∧k≤20000∧a<2^k∧b<2^k∧c<2^k∧d<2^k):=⟨hb,hk,ha,hbk,hc,hd⟩
 have kk:=dwholeU (n:=1) (by omega) W
 clear m1 m2 m3 m4 m5 m6 hBW d1 d2 d3 d4 hb hk ha hbk hc hd
 go_enter Tryz.func19,Tryz.ntmps19
 go_upto_region 1 with fail
 rw[←hW]
 clear hW
 go_wp2_with fail
 refine kk.mono ?_
 rintro r w1 ⟨A,rfl,hA,hb1⟩
 obtain⟨s5,ao5,n5,cp5,e5,rfl⟩:=hA.shape
 clear kk
 obtain⟨W1,hW1⟩:∃ W1,W1=w1.alloc (.cells #[.bool s5,.slice ao5 n5 cp5,.int .i64 e5] 27):=⟨_,rfl⟩
 have hbV:Bw w1 W1:=by rw[hW1];exact(Below.refl _ _).alloc (Nat.le_refl _) _
 have n6:W1.heap[w1.heap.size]?=some (.cells #[.bool s5,.slice ao5 n5 cp5,.int .i64 e5] 27 (0,0)):=by rw[hW1];exact heap_alloc_new _ _
 have hb01:Bw W W1:=hb1.trans (hbV.mono hb1.size)
 obtain⟨x1,x2,x3,x4,x5,x6,x7⟩:=HF.out
 have H1:Hid (NB W1 (w.heap.size) s1 ao1 n1 cp1 e1 (un (a:Int) 0)∧NB W1 (w.heap.size+1) s2 ao2 n2 cp2 e2 (un (b:Int) 0)∧NB W1 (w.heap.size+1+1) s3 ao3 n3 cp3 e3 (un (c:Int) 0)∧NB W1 (w.heap.size+1+1+1) s4 ao4 n4 cp4 e4 (un (d:Int) 0)∧W1.heap[w.heap.size+1+1+1+1]?=some (.cells #[.bool false,.slice none 0 0,.int .i64 0] 27 (0,0))∧W1.heap[w.heap.size+1+1+1+1+1]?=some (.cells #[.bool false,.slice none 0 0,.int .i64 0] 27 (0,0))∧Bw w W1∧NB W1 w1.heap.size s5 ao5 n5 cp5 e5 (un 1 0)∧w.heap.size+1+1+1+1+1<w1.heap.size):=⟨x1.later hb01,x2.later hb01,x3.later hb01,x4.later hb01,box_later x5 hb01 (lt_of_box x5),box_later x6 hb01 (lt_of_box x6),x7.trans (hb01.mono x7.size),⟨n6,hA.later hbV⟩,by have:=lt_of_box x6;have:=hb1.size;omega⟩
 clear x1 x2 x3 x4 x5 x6 x7 hb01 n6 hbV hA hb1 HF
 obtain⟨x0,x1,x2⟩:=(cells3N H1.out.1.1).1
 obtain⟨y0,y1,y2⟩:=(cells3N H1.out.2.1.1).1
 have kk:=dfloor8 a b k s1 ao1 n1 cp1 e1 s2 ao2 n2 cp2 e2 W1 H0.out.1 H0.out.2.1 H0.out.2.2.1 H0.out.2.2.2.1 H1.out.1.2 H1.out.2.1.2
 go_upto_region 2 with fail
 rw[←hW1]
 clear hW1
 generalize w1.heap.size=gqT at *
 go_wp2_with fail
 refine kk.mono ?_
 rintro r w2 ⟨s6,ao6,n6,cp6,e6,s7,ao7,n7,cp7,e7,rfl,hA,hB,hb2⟩
 clear kk x0 x1 x2 y0 y1 y2
 obtain⟨W2,hW2⟩:∃ W2,W2=(w2.alloc (.cells #[.bool s6,.slice ao6 n6 cp6,.int .i64 e6] 27)).alloc (.cells #[.bool s7,.slice ao7 n7 cp7,.int .i64 e7] 27):=⟨_,rfl⟩
 obtain⟨z1,z2,z3,z4⟩:=two_new _ _ hW2
 have hb12:Bw W1 W2:=hb2.trans (z4.mono hb2.size)
 obtain⟨x1,x2,x3,x4,x5,x6,x7,x8,x9⟩:=H1.out
 have H2:Hid (NB W2 (w.heap.size) s1 ao1 n1 cp1 e1 (un (a:Int) 0)∧NB W2 (w.heap.size+1) s2 ao2 n2 cp2 e2 (un (b:Int) 0)∧NB W2 (w.heap.size+1+1) s3 ao3 n3 cp3 e3 (un (c:Int) 0)∧NB W2 (w.heap.size+1+1+1) s4 ao4 n4 cp4 e4 (un (d:Int) 0)∧W2.heap[w.heap.size+1+1+1+1]?=some (.cells #[.bool false,.slice none 0 0,.int .i64 0] 27 (0,0))∧W2.heap[w.heap.size+1+1+1+1+1]?=some (.cells #[.bool false,.slice none 0 0,.int .i64 0] 27 (0,0))∧Bw w W2∧NB W2 gqT s5 ao5 n5 cp5 e5 (un 1 0)∧w.heap.size+1+1+1+1+1<gqT∧NB W2 w2.heap.size s6 ao6 n6 cp6 e6 (un ((a / b:Nat):Int) 0)∧NB W2 (w2.heap.size+1) s7 ao7 n7 cp7 e7 (un ((a % b:Nat):Int) 0)∧gqT<w2.heap.size):=⟨x1.later hb12,x2.later hb12,x3.later hb12,x4.later hb12,box_later x5 hb12 (lt_of_box x5),box_later x6 hb12 (lt_of_box x6),x7.trans (hb12.mono x7.size),x8.later hb12,x9,⟨z1,hA.later z4⟩,⟨z2,hB.later z4⟩,by have:=lt_of_box x8.1;have:=hb2.size;omega⟩
 clear x1 x2 x3 x4 x5 x6 x7 x8 x9 z1 z2 z3 z4 hb12 hA hB hb2 H1
 obtain⟨x0,x1,x2⟩:=(cells3N H2.out.2.2.2.2.2.2.2.2.2.2.1.1).1
 go_upto_region 3 with fail
 rw[←hW2]
 clear hW2
 generalize w2.heap.size=gqE at *
 rcases hcase.out with ⟨h0,rfl,rfl⟩|hc2
 ·have ln7:=DN.len H2.out.2.2.2.2.2.2.2.2.2.2.1.2
  rw[h0,show((0:Nat):Int)=0 from rfl,un_0,show nilN.2.1=0 from rfl,dlen_zero] at ln7
  subst ln7
  have kk:=rsgn (na:=s7) (ua:=ao7) (un:=0) (uc:=cp7) (ea:=e7) (w:=W2) (by omega)
  rw[if_pos rfl] at kk
  go_wp2_with fail
  refine kk.mono ?_
  rintro r W3 ⟨rfl,hb3⟩
  clear kk x0 x1 x2
  obtain⟨x1,x2,x3,x4,x5,x6,x7,x8,x9,xa,xb,xc⟩:=H2.out
  have H3:Hid (NB W3 (w.heap.size) s1 ao1 n1 cp1 e1 (un (a:Int) 0)∧NB W3 (w.heap.size+1) s2 ao2 n2 cp2 e2 (un (b:Int) 0)∧NB W3 (w.heap.size+1+1) s3 ao3 n3 cp3 e3 (un (c:Int) 0)∧NB W3 (w.heap.size+1+1+1) s4 ao4 n4 cp4 e4 (un (d:Int) 0)∧W3.heap[w.heap.size+1+1+1+1]?=some (.cells #[.bool false,.slice none 0 0,.int .i64 0] 27 (0,0))∧W3.heap[w.heap.size+1+1+1+1+1]?=some (.cells #[.bool false,.slice none 0 0,.int .i64 0] 27 (0,0))∧Bw w W3∧NB W3 gqT s5 ao5 n5 cp5 e5 (un 1 0)∧w.heap.size+1+1+1+1+1<gqT∧NB W3 gqE s6 ao6 n6 cp6 e6 (un ((a / b:Nat):Int) 0)∧NB W3 (gqE+1) s7 ao7 0 cp7 e7 (un ((a % b:Nat):Int) 0)∧gqT<gqE):=⟨x1.later hb3,x2.later hb3,x3.later hb3,x4.later hb3,box_later x5 hb3 (lt_of_box x5),box_later x6 hb3 (lt_of_box x6),x7.trans (hb3.mono x7.size),x8.later hb3,x9,xa.later hb3,xb.later hb3,xc⟩
  clear x1 x2 x3 x4 x5 x6 x7 x8 x9 xa xb xc hb3 H2
  go_upto_region 4 with fail
  obtain⟨x1,x2,x3,x4,x5,x6,x7,x8,x9,xa,xb,xc⟩:=H3.out
  have hbx2:∀ i,i<2→∃ cs,W3.heap[two (w.heap.size+1+1+1+1) (w.heap.size+1+1+1+1+1) i]?=some (.cells cs 27 (0,0))∧NC3 cs:=fun i hi=>by
   rcases lt2F hi with rfl|rfl
   ·exact⟨_,x5,_,_,_,_,_,rfl⟩
   ·exact⟨_,x6,_,_,_,_,_,rfl⟩
  have ne:∀ g,w.heap.size+1+1+1+1+1<g→∀ i,i<2→g≠two (w.heap.size+1+1+1+1) (w.heap.size+1+1+1+1+1) i:=fun g h i hi=>by
   rcases lt2F hi with rfl|rfl
   ·show g≠w.heap.size+1+1+1+1;omega
   ·show g≠w.heap.size+1+1+1+1+1;omega
  refine q_region follows_mixed [0,1] [2,3] [27,28] [[],[]] [[0],[1]] [0,1] (two 8 9) (two (w.heap.size+1+1+1+1) (w.heap.size+1+1+1+1+1)) w.heap.size 27 NC3 3 W3 _ [isV (.agg #[.bool s6,.slice ao6 n6 cp6,.int .i64 e6]),isV (.agg #[.bool s5,.slice ao5 n5 cp5,.int .i64 e5])] (by kernel_rfl) ⟨isV_stays _,isV_stays _,trivial⟩ ⟨isV_rows _ _ _,isV_rows _ _ _,trivial⟩ (by show ∀ s ∈ [27,28],s<59;decide) ?_ ?_ Tryz.info27 ?_ ?_ ?_ (two_inj (by omega)) x7.size ?_
  ·intro i hi U u h
   rcases lt2F hi with rfl|rfl
   ·obtain rfl:u=_:=h
    exact⟨_,rfl,rfl,⟨_,_,_,_,_,rfl⟩,one3 rfl rfl⟩
   ·obtain rfl:u=_:=h
    exact⟨_,rfl,rfl,⟨_,_,_,_,_,rfl⟩,one3 rfl rfl⟩
  ·intro j hj o ho act U hK hoth hdep hrd
   rcases lt2F hj with rfl|rfl
   ·obtain rfl:=Option.some.inj ho
    have t11:act.tmps[(11:Nat)]?=some (Value.pointer (some ⟨gqE,0,none⟩)):=(hoth 11 (by decide)).trans rfl
    have c6:=(cells3N ((hK.keep gqE (lt_of_box xa.1) (ne gqE (by omega))).trans xa.1)).1
    exact .inl ⟨rfl,owp_ldD rfl t11 c6.1 c6.2.1 c6.2.2 ⟨_,rfl,rfl,Below.refl _ _⟩⟩
   ·obtain rfl:=Option.some.inj ho
    have t10:act.tmps[(10:Nat)]?=some (Value.pointer (some ⟨gqT,0,none⟩)):=(hoth 10 (by decide)).trans rfl
    have c5:=(cells3N ((hK.keep gqT (lt_of_box x8.1) (ne gqT (by omega))).trans x8.1)).1
    exact .inl ⟨rfl,owp_ldD rfl t10 c5.1 c5.2.1 c5.2.2 ⟨_,rfl,rfl,Below.refl _ _⟩⟩
  ·intro i hi
   rcases lt2F hi with rfl|rfl <;> exact⟨_,rfl,rfl⟩
  ·intro i hi
   rcases lt2F hi with rfl|rfl
   ·exact⟨rfl,by decide⟩
   ·exact⟨rfl,by decide⟩
  ·intro i hi
   rcases lt2F hi with rfl|rfl
   ·exact⟨by show w.heap.size≤w.heap.size+1+1+1+1;omega,_,x5,rfl,_,_,_,_,_,rfl⟩
   ·exact⟨by show w.heap.size≤w.heap.size+1+1+1+1+1;omega,_,x6,rfl,_,_,_,_,_,rfl⟩
  ·intro u U hK hu hcs
   obtain⟨csb,yb,zb⟩:=hcs 1 (by decide)
   obtain⟨csa,ya,za⟩:=hcs 0 (by decide)
   have u0:u 0=.agg #[.bool s6,.slice ao6 n6 cp6,.int .i64 e6]:=hu 0 (by decide)
   have u1:u 1=.agg #[.bool s5,.slice ao5 n5 cp5,.int .i64 e5]:=hu 1 (by decide)
   have ya':u 0=.agg csa:=ya
   have yb':u 1=.agg csb:=yb
   rw[u0] at ya'
   rw[u1] at yb'
   obtain rfl:=Value.agg.inj ya'
   obtain rfl:=Value.agg.inj yb'
   have HX:Hid (U.heap[w.heap.size+1+1+1+1]?=some (.cells #[.bool s6,.slice ao6 n6 cp6,.int .i64 e6] 27 (0,0))∧U.heap[w.heap.size+1+1+1+1+1]?=some (.cells #[.bool s5,.slice ao5 n5 cp5,.int .i64 e5] 27 (0,0))∧DN U (.agg #[.bool s6,.slice ao6 n6 cp6,.int .i64 e6]) (un ((a / b:Nat):Int) 0)∧DN U (.agg #[.bool s5,.slice ao5 n5 cp5,.int .i64 e5]) (un 1 0)∧Bw w U):=⟨za,zb,DN.keepN hK hbx2 xa.2,DN.keepN hK hbx2 x8.2,x7.trans hK.below⟩
   clear hu hcs ya yb za zb ya' yb' hK x1 x2 x3 x4 x5 x6 x7 x8 xa xb hbx2 ne H3
   simp only[putL,show List.range 2 = [0,1] from rfl,List.length_cons,List.length_nil,List.getD_cons_zero,List.getD_cons_succ,List.map_cons,List.map_nil,List.cons_append,List.nil_append,List.foldl_cons,List.foldl_nil,Nat.reduceLT,Nat.reduceMod,Nat.reduceDiv,Nat.reduceMul,Nat.reduceAdd,Nat.reduceEqDiff,reduceIte,Nat.one_ne_zero,Act.put,List.setIfInBounds_toArray,List.set_cons_zero,List.set_cons_succ]
   go_wp2_with fail
   refine bodyPost_ret (results_c2 rfl _ _ (w.heap.size+1+1+1+1) (w.heap.size+1+1+1+1+1) 27 #[.bool s6,.slice ao6 n6 cp6,.int .i64 e6] #[.bool s5,.slice ao5 n5 cp5,.int .i64 e5] (0,0) (0,0) _ rfl rfl HX.out.1 HX.out.2.1 Tryz.underlying27 rfl Tryz.info27 Tryz.info27) rfl ?_
   exact⟨_,_,_,_,_,_,_,_,_,_,rfl,HX.out.2.2.1,HX.out.2.2.2.1,HX.out.2.2.2.2⟩
 have h0:a % b≠0:=by
  rcases hc2 with h|h
  ·exact h.1
  ·exact h.1
 have ln7:=DN.all H2.out.2.2.2.2.2.2.2.2.2.2.1.2
 have hr0:(un ((a % b:Nat):Int) 0).2.1≠0:=fun h=>by have:=un_sign.2.1 h;omega
 have hn7:n7≠0:=by rw[ln7.2.1];have:=dlen_pos hr0;omega
 have hn7':n7≤35184372088832:=by rw[ln7.2.1];exact ln7.2.2.2
 have hs7:s7=false:=by
  rw[ln7.1]
  unfold un cn
  rw[decide_eq_false (by omega)]
  split <;> rfl
 subst hs7
 have kk:=rsgn (na:=false) (ua:=ao7) (un:=n7) (uc:=cp7) (ea:=e7) (w:=W2) hn7'
 rw[if_neg hn7] at kk
 simp only[Bool.false_eq_true,if_false] at kk
 clear ln7 hr0 hn7 hn7'
 go_wp2_with fail
 refine kk.mono ?_
 rintro r W3 ⟨rfl,hb3⟩
 clear kk x0 x1 x2
 obtain⟨x1,x2,x3,x4,x5,x6,x7,x8,x9,xa,xb,xc⟩:=H2.out
 have H3:Hid (NB W3 (w.heap.size) s1 ao1 n1 cp1 e1 (un (a:Int) 0)∧NB W3 (w.heap.size+1) s2 ao2 n2 cp2 e2 (un (b:Int) 0)∧NB W3 (w.heap.size+1+1) s3 ao3 n3 cp3 e3 (un (c:Int) 0)∧NB W3 (w.heap.size+1+1+1) s4 ao4 n4 cp4 e4 (un (d:Int) 0)∧W3.heap[w.heap.size+1+1+1+1]?=some (.cells #[.bool false,.slice none 0 0,.int .i64 0] 27 (0,0))∧W3.heap[w.heap.size+1+1+1+1+1]?=some (.cells #[.bool false,.slice none 0 0,.int .i64 0] 27 (0,0))∧Bw w W3∧NB W3 gqT s5 ao5 n5 cp5 e5 (un 1 0)∧w.heap.size+1+1+1+1+1<gqT∧NB W3 gqE s6 ao6 n6 cp6 e6 (un ((a / b:Nat):Int) 0)∧NB W3 (gqE+1) false ao7 n7 cp7 e7 (un ((a % b:Nat):Int) 0)∧gqT<gqE):=⟨x1.later hb3,x2.later hb3,x3.later hb3,x4.later hb3,box_later x5 hb3 (lt_of_box x5),box_later x6 hb3 (lt_of_box x6),x7.trans (hb3.mono x7.size),x8.later hb3,x9,xa.later hb3,xb.later hb3,xc⟩
 clear x1 x2 x3 x4 x5 x6 x7 x8 x9 xa xb xc hb3 H2
 have nA:(((a / b:Nat):Int)).natAbs<2^k:=by rw[Int.natAbs_natCast];exact Nat.lt_of_le_of_lt (Nat.div_le_self _ _) H0.out.2.2.1
 have kk:=gplus (un_gn nA (by have:=H0.out.2.1;omega) (by omega)) (un_gn (b:=1) (Z:=1) (by decide) (by omega) (by omega)) H3.out.2.2.2.2.2.2.2.2.2.1.2 H3.out.2.2.2.2.2.2.2.1.2
 rw[gS_un,show((a / b:Nat):Int)+1=((a / b+1:Nat):Int)from by push_cast;rfl] at kk
 obtain⟨x0,x1,x2⟩:=(cells3N H3.out.2.2.2.2.2.2.2.2.2.1.1).1
 obtain⟨y0,y1,y2⟩:=(cells3N H3.out.2.2.2.2.2.2.2.1.1).1
 go_wp2_with fail
 refine kk.mono ?_
 rintro r w4 ⟨A,rfl,hA,hb4⟩
 obtain⟨s8,ao8,n8,cp8,e8,rfl⟩:=hA.shape
 clear kk x0 x1 x2 y0 y1 y2
 obtain⟨W4,hW4⟩:∃ W4,W4=w4.alloc (.cells #[.bool s8,.slice ao8 n8 cp8,.int .i64 e8] 27):=⟨_,rfl⟩
 go_upto_region 6 with fail
 rw[←hW4]
 have hbV:Bw w4 W4:=by rw[hW4];exact(Below.refl _ _).alloc (Nat.le_refl _) _
 have n6':W4.heap[w4.heap.size]?=some (.cells #[.bool s8,.slice ao8 n8 cp8,.int .i64 e8] 27 (0,0)):=by rw[hW4];exact heap_alloc_new _ _
 have hb34:Bw W3 W4:=hb4.trans (hbV.mono hb4.size)
 obtain⟨x1,x2,x3,x4,x5,x6,x7,x8,x9,xa,xb,xc⟩:=H3.out
 have hsz:=hb4.size
 have hE:=lt_of_box xb.1
 have hA':=hA.later hbV
 clear hW4 hbV hA
 generalize w4.heap.size=gqA at *
 have H4:Hid (NB W4 (w.heap.size) s1 ao1 n1 cp1 e1 (un (a:Int) 0)∧NB W4 (w.heap.size+1) s2 ao2 n2 cp2 e2 (un (b:Int) 0)∧NB W4 (w.heap.size+1+1) s3 ao3 n3 cp3 e3 (un (c:Int) 0)∧NB W4 (w.heap.size+1+1+1) s4 ao4 n4 cp4 e4 (un (d:Int) 0)∧W4.heap[w.heap.size+1+1+1+1]?=some (.cells #[.bool false,.slice none 0 0,.int .i64 0] 27 (0,0))∧W4.heap[w.heap.size+1+1+1+1+1]?=some (.cells #[.bool false,.slice none 0 0,.int .i64 0] 27 (0,0))∧Bw w W4∧NB W4 gqT s5 ao5 n5 cp5 e5 (un 1 0)∧w.heap.size+1+1+1+1+1<gqT∧NB W4 gqE s6 ao6 n6 cp6 e6 (un ((a / b:Nat):Int) 0)∧NB W4 (gqE+1) false ao7 n7 cp7 e7 (un ((a % b:Nat):Int) 0)∧gqT<gqE∧NB W4 gqA s8 ao8 n8 cp8 e8 (un ((a / b+1:Nat):Int) 0)∧gqE<gqA):=⟨x1.later hb34,x2.later hb34,x3.later hb34,x4.later hb34,box_later x5 hb34 (lt_of_box x5),box_later x6 hb34 (lt_of_box x6),x7.trans (hb34.mono x7.size),x8.later hb34,x9,xa.later hb34,xb.later hb34,xc,⟨n6',hA'⟩,by omega⟩
 clear x1 x2 x3 x4 x5 x6 x7 x8 x9 xa xb xc hb4 hb34 n6' hA' H3 hsz hE nA
 obtain⟨val,hval⟩:∃ val,val=decide ((a / b+1)*d≤c):=⟨_,rfl⟩
 obtain⟨x1,x2,x3,x4,x5,x6,x7,x8,x9,xa,xb,xc,xd,xe⟩:=H4.out
 have bA:(((a / b+1:Nat):Int)).natAbs<2^(k+1):=by
  rw[Int.natAbs_natCast,Nat.pow_succ]
  have:=Nat.div_le_self a b
  have:=H0.out.2.2.1
  omega
 have dA:((d:Int)).natAbs<2^k:=by rw[Int.natAbs_natCast];exact H0.out.2.2.2.2.2
 have cA:((c:Int)).natAbs<2^k:=by rw[Int.natAbs_natCast];exact H0.out.2.2.2.2.1
 have hk2:=H0.out.2.1
 have hdc:decide (((a / b+1:Nat):Int)*(d:Int)≤(c:Int))=val:=by
  rw[hval,←Int.natCast_mul]
  exact decide_eq_decide.2 Int.ofNat_le
 refine r_region [0,1,2,3,4,5] [32,33,34,35,36,37] [[],[],[0,1],[],[2,3],[4]] W4 _ [isV (.agg #[.bool s8,.slice ao8 n8 cp8,.int .i64 e8]),isV (.agg #[.bool s4,.slice ao4 n4 cp4,.int .i64 e4]),isD (un (((a / b+1:Nat):Int)*(d:Int)) 0),isV (.agg #[.bool s3,.slice ao3 n3 cp3,.int .i64 e3]),isV (.int .i64 (cmpI (((a / b+1:Nat):Int)*(d:Int)) (c:Int))),isV (.bool val)] (by kernel_rfl) ⟨isV_stays _,isV_stays _,isD_stays _,isV_stays _,isV_stays _,isV_stays _,trivial⟩ (by show ∀ s ∈ [32,33,34,35,36,37],s<59;decide) ?_ ?_
 ·intro j hj o ho act U hb hoth hdep
  have t13:act.tmps[(13:Nat)]?=some (Value.pointer (some ⟨gqA,0,none⟩)):=(hoth 13 (by decide)).trans rfl
  have t7:act.tmps[(7:Nat)]?=some (Value.pointer (some ⟨w.heap.size+1+1+1,0,none⟩)):=(hoth 7 (by decide)).trans rfl
  have t6:act.tmps[(6:Nat)]?=some (Value.pointer (some ⟨w.heap.size+1+1,0,none⟩)):=(hoth 6 (by decide)).trans rfl
  have c13:=(cells3N (xd.later hb).1).1
  have c7:=(cells3N (x4.later hb).1).1
  have c6:=(cells3N (x3.later hb).1).1
  rcases lt6S hj with rfl|rfl|rfl|rfl|rfl|rfl
  ·obtain rfl:=Option.some.inj ho
   exact .inl ⟨rfl,owp_ldD rfl t13 c13.1 c13.2.1 c13.2.2 ⟨_,rfl,rfl,Below.refl _ _⟩⟩
  ·obtain rfl:=Option.some.inj ho
   exact .inl ⟨rfl,owp_ldD rfl t7 c7.1 c7.2.1 c7.2.2 ⟨_,rfl,rfl,Below.refl _ _⟩⟩
  ·obtain rfl:=Option.some.inj ho
   have y0:act.tmps[(32:Nat)]?=_:=dV (hdep 0 (by simp[dL])) rfl
   have y1:act.tmps[(33:Nat)]?=_:=dV (hdep 1 (by simp[dL])) rfl
   refine .inl ⟨rfl,owp_call rfl (enters Tryz.func54 (by kernel_rfl) (by kernel_rfl)) (map2 y0 y1) ?_⟩
   have h:=gtimes (un_gn bA (by omega) (by omega)) (un_gn dA (by omega) (by omega)) (xd.later hb).2 (x4.later hb).2
   rw[gM_un] at h
   refine h.mono ?_
   rintro r w' ⟨A,rfl,hA,hb'⟩
   exact⟨_,rfl,_,rfl,hA,hb'⟩
  ·obtain rfl:=Option.some.inj ho
   exact .inl ⟨rfl,owp_ldD rfl t6 c6.1 c6.2.1 c6.2.2 ⟨_,rfl,rfl,Below.refl _ _⟩⟩
  ·obtain rfl:=Option.some.inj ho
   obtain⟨u2,y2,v2⟩:=dD (s:=34) (hdep 2 (by simp[dL])) rfl
   have y3:act.tmps[(35:Nat)]?=_:=dV (hdep 3 (by simp[dL])) rfl
   refine .inl ⟨rfl,owp_call rfl (enters Tryz.func53 (by kernel_rfl) (by kernel_rfl)) (map2 y2 y3) ?_⟩
   refine(dorderU (abs_mul bA dA) cA (by omega) (by omega) (by omega) v2 (x3.later hb).2).mono ?_
   rintro r w' ⟨rfl,hb'⟩
   exact⟨_,rfl,_,rfl,rfl,hb'⟩
  ·obtain rfl:=Option.some.inj ho
   have y4:act.tmps[(36:Nat)]?=_:=dV (hdep 4 (by simp[dL])) rfl
   exact .inl ⟨rfl,owp_leqI rfl y4 ⟨_,rfl,congrArg Value.bool (cmpI_le0.trans hdc),Below.refl _ _⟩⟩
 ·intro u W5 hb5 hu
  have u5:u 5=.bool val:=hu 5 (by show 5<6;decide)
  have H5:Hid (NB W5 (w.heap.size) s1 ao1 n1 cp1 e1 (un (a:Int) 0)∧NB W5 (w.heap.size+1) s2 ao2 n2 cp2 e2 (un (b:Int) 0)∧NB W5 (w.heap.size+1+1) s3 ao3 n3 cp3 e3 (un (c:Int) 0)∧NB W5 (w.heap.size+1+1+1) s4 ao4 n4 cp4 e4 (un (d:Int) 0)∧W5.heap[w.heap.size+1+1+1+1]?=some (.cells #[.bool false,.slice none 0 0,.int .i64 0] 27 (0,0))∧W5.heap[w.heap.size+1+1+1+1+1]?=some (.cells #[.bool false,.slice none 0 0,.int .i64 0] 27 (0,0))∧Bw w W5∧NB W5 gqT s5 ao5 n5 cp5 e5 (un 1 0)∧w.heap.size+1+1+1+1+1<gqT∧NB W5 gqE s6 ao6 n6 cp6 e6 (un ((a / b:Nat):Int) 0)∧NB W5 (gqE+1) false ao7 n7 cp7 e7 (un ((a % b:Nat):Int) 0)∧gqT<gqE∧NB W5 gqA s8 ao8 n8 cp8 e8 (un ((a / b+1:Nat):Int) 0)∧gqE<gqA):=⟨x1.later hb5,x2.later hb5,x3.later hb5,x4.later hb5,box_later x5 hb5 (lt_of_box x5),box_later x6 hb5 (lt_of_box x6),x7.trans (hb5.mono x7.size),x8.later hb5,x9,xa.later hb5,xb.later hb5,xc,xd.later hb5,xe⟩
  clear hu hb5 x1 x2 x3 x4 x5 x6 x7 x8 x9 xa xb xc xd xe H4 bA dA cA hk2 hdc
  simp only[putL,show List.range 6 = [0,1,2,3,4,5] from rfl,List.length_cons,List.length_nil,List.getD_cons_zero,List.getD_cons_succ,List.map_cons,List.map_nil,List.cons_append,List.nil_append,List.foldl_cons,List.foldl_nil,Nat.reduceLT,Nat.reduceMod,Nat.reduceDiv,Nat.reduceMul,Nat.reduceAdd,Nat.reduceEqDiff,reduceIte,Nat.one_ne_zero,Act.put,List.setIfInBounds_toArray,List.set_cons_zero,List.set_cons_succ]
  rw[u5]
  clear u5
  cases val
  ·have hv:=of_decide_eq_false hval.symm
   obtain⟨-,h1,hlc,rfl,rfl,hpq,hin⟩:a % b≠0∧c<(a / b+1)*d∧a / b*d≤c∧rx=a / b*p+q∧p=ry∧Hid (p<2^k∧q<2^k)∧Hid _:=by
    rcases hc2 with h|h
    ·exact absurd h.2.1 hv
    ·exact h
   clear hval hv hc2 hcase
   go_upto_region 8 with fail
   obtain⟨x1,x2,x3,x4,x5,x6,x7,x8,x9,xa,xb,xc,xd,xe⟩:=H5.out
   have nA:(((a / b:Nat):Int)).natAbs<2^k:=by rw[Int.natAbs_natCast];exact Nat.lt_of_le_of_lt (Nat.div_le_self _ _) H0.out.2.2.1
   have dA:((d:Int)).natAbs<2^k:=by rw[Int.natAbs_natCast];exact H0.out.2.2.2.2.2
   have cA:((c:Int)).natAbs<2^k:=by rw[Int.natAbs_natCast];exact H0.out.2.2.2.2.1
   have hk2:=H0.out.2.1
   have eL:(c:Int) - ((a / b:Nat):Int)*(d:Int)=((c - a / b*d:Nat):Int):=by
    rw[Int.ofNat_sub hlc,Int.natCast_mul]
   refine zL_region follows_mixed 5 1 40 14 [[],[],[],[1,2],[0,3]] [4] 27 #[.bool false,.slice none 0 0,.int .i64 0] W5 _ [isV (.agg #[.bool s3,.slice ao3 n3 cp3,.int .i64 e3]),isV (.agg #[.bool s6,.slice ao6 n6 cp6,.int .i64 e6]),isV (.agg #[.bool s4,.slice ao4 n4 cp4,.int .i64 e4]),isD (un (((a / b:Nat):Int)*(d:Int)) 0),isD (un ((c - a / b*d:Nat):Int) 0)] (by kernel_rfl) ⟨isV_stays _,isV_stays _,isV_stays _,isD_stays _,isD_stays _,trivial⟩ ⟨fun _ _ _ _ _ h=>h,fun _ _ _ _ _ h=>h,fun _ _ _ _ _ h=>h,fun _ _ _ _ h1 h=>DN.row3 h h1 ⟨_,_,_,_,_,rfl⟩ _,fun _ _ _ _ h1 h=>DN.row3 h h1 ⟨_,_,_,_,_,rfl⟩ _,trivial⟩ (by show 45≤59;decide) (by show 15≤59;decide) (.inl (by decide)) ?_ ?_ ?_ (fun w=>Tryz.zeroValue27 w) Tryz.info27 ?_ ?_
   ·intro k' hk V u h
    obtain rfl:k'=0:=by omega
    obtain⟨cs,h1,h2,-,h4⟩:=DN.cells3 (show DN V u (un ((c - a / b*d:Nat):Int) 0)from h)
    exact⟨cs,h1,h2,h4⟩
   ·intro j hj o ho act U hb hoth hdep
    have t6:act.tmps[(6:Nat)]?=some (Value.pointer (some ⟨w.heap.size+1+1,0,none⟩)):=(hoth 6 (by omega) (by omega)).trans rfl
    have t11:act.tmps[(11:Nat)]?=some (Value.pointer (some ⟨gqE,0,none⟩)):=(hoth 11 (by omega) (by omega)).trans rfl
    have t7:act.tmps[(7:Nat)]?=some (Value.pointer (some ⟨w.heap.size+1+1+1,0,none⟩)):=(hoth 7 (by omega) (by omega)).trans rfl
    have c6:=(cells3N (x3.later hb).1).1
    have cEE:=(cells3N (xa.later hb).1).1
    have c7:=(cells3N (x4.later hb).1).1
    rcases lt5F hj with rfl|rfl|rfl|rfl|rfl
    ·obtain rfl:=Option.some.inj ho
     exact owp_ldD rfl t6 c6.1 c6.2.1 c6.2.2 ⟨_,rfl,rfl,Below.refl _ _⟩
    ·obtain rfl:=Option.some.inj ho
     exact owp_ldD rfl t11 cEE.1 cEE.2.1 cEE.2.2 ⟨_,rfl,rfl,Below.refl _ _⟩
    ·obtain rfl:=Option.some.inj ho
     exact owp_ldD rfl t7 c7.1 c7.2.1 c7.2.2 ⟨_,rfl,rfl,Below.refl _ _⟩
    ·obtain rfl:=Option.some.inj ho
     have y1:act.tmps[(41:Nat)]?=_:=dV (hdep 1 (by simp[dL])) rfl
     have y2:act.tmps[(42:Nat)]?=_:=dV (hdep 2 (by simp[dL])) rfl
     refine owp_call rfl (enters Tryz.func54 (by kernel_rfl) (by kernel_rfl)) (map2 y1 y2) ?_
     have h:=gtimes (un_gn nA (by omega) (by omega)) (un_gn dA (by omega) (by omega)) (xa.later hb).2 (x4.later hb).2
     rw[gM_un] at h
     refine h.mono ?_
     rintro r w' ⟨A,rfl,hA,hb'⟩
     exact⟨_,rfl,_,rfl,hA,hb'⟩
    ·obtain rfl:=Option.some.inj ho
     have y0:act.tmps[(40:Nat)]?=_:=dV (hdep 0 (by simp[dL])) rfl
     obtain⟨u3,y3,v3⟩:=dD (s:=43) (hdep 3 (by simp[dL])) rfl
     refine owp_call rfl (enters Tryz.func55 (by kernel_rfl) (by kernel_rfl)) (map2 y0 y3) ?_
     have h:=gless (un_gn cA (by omega) (by omega)) (un_gn (abs_mul nA dA) (by omega) (by omega)) (x3.later hb).2 v3
     rw[gD_un,eL] at h
     refine h.mono ?_
     rintro r w' ⟨A,rfl,hA,hb'⟩
     exact⟨_,rfl,_,rfl,hA,hb'⟩
   ·intro k' hk
    obtain rfl:k'=0:=by omega
    exact⟨_,rfl,rfl⟩
   ·intro k' hk
    obtain rfl:k'=0:=by omega
    exact⟨_,rfl,rfl⟩
   ·intro u g W6 hb6 hu hg hap
    obtain⟨g0,cs0,q0,z0⟩:=hg 0 (by omega)
    have q4:DN W6 (u 4) (un ((c - a / b*d:Nat):Int) 0):=hu 4 (by omega)
    have q0':u 4=.agg cs0:=q0
    rw[q0'] at q4
    obtain⟨s9,ao9,n9,cp9,e9,h9⟩:=q4.shape
    obtain rfl:=Value.agg.inj h9
    obtain⟨gqL,hgL⟩:∃ gqL,gqL=g 0:=⟨_,rfl⟩
    rw[←hgL] at z0 g0
    have lA:=lt_of_box xd.1
    have H6:Hid (NB W6 (w.heap.size) s1 ao1 n1 cp1 e1 (un (a:Int) 0)∧NB W6 (w.heap.size+1) s2 ao2 n2 cp2 e2 (un (b:Int) 0)∧NB W6 (w.heap.size+1+1) s3 ao3 n3 cp3 e3 (un (c:Int) 0)∧NB W6 (w.heap.size+1+1+1) s4 ao4 n4 cp4 e4 (un (d:Int) 0)∧W6.heap[w.heap.size+1+1+1+1]?=some (.cells #[.bool false,.slice none 0 0,.int .i64 0] 27 (0,0))∧W6.heap[w.heap.size+1+1+1+1+1]?=some (.cells #[.bool false,.slice none 0 0,.int .i64 0] 27 (0,0))∧Bw w W6∧NB W6 gqT s5 ao5 n5 cp5 e5 (un 1 0)∧w.heap.size+1+1+1+1+1<gqT∧NB W6 gqE s6 ao6 n6 cp6 e6 (un ((a / b:Nat):Int) 0)∧NB W6 (gqE+1) false ao7 n7 cp7 e7 (un ((a % b:Nat):Int) 0)∧gqT<gqE∧NB W6 gqA s8 ao8 n8 cp8 e8 (un ((a / b+1:Nat):Int) 0)∧gqE<gqA∧NB W6 gqL s9 ao9 n9 cp9 e9 (un ((c - a / b*d:Nat):Int) 0)∧gqA<gqL):=⟨x1.later hb6,x2.later hb6,x3.later hb6,x4.later hb6,box_later x5 hb6 (lt_of_box x5),box_later x6 hb6 (lt_of_box x6),x7.trans (hb6.mono x7.size),x8.later hb6,x9,xa.later hb6,xb.later hb6,xc,xd.later hb6,xe,⟨z0,q4⟩,by omega⟩
    clear hu hg hap hb6 x1 x2 x3 x4 x5 x6 x7 x8 x9 xa xb xc xd xe H5 q0 q0' h9 q4 z0 g0 lA nA dA cA hk2 eL
    simp only[putL,show List.range 5 = [0,1,2,3,4] from rfl,show List.range 1 = [0] from rfl,List.length_cons,List.length_nil,List.getD_cons_zero,List.getD_cons_succ,List.map_cons,List.map_nil,List.cons_append,List.nil_append,List.foldl_cons,List.foldl_nil,Nat.reduceLT,Nat.reduceMod,Nat.reduceDiv,Nat.reduceMul,Nat.reduceAdd,Nat.reduceEqDiff,reduceIte,Nat.one_ne_zero,Act.put,List.setIfInBounds_toArray,List.set_cons_zero,List.set_cons_succ]
    rw[←hgL]
    clear hgL
    go_upto_region 9 with fail
    obtain⟨x1,x2,x3,x4,x5,x6,x7,x8,x9,xa,xb,xc,xd,xe,xf,xg⟩:=H6.out
    have kk:=hin.out s4 ao4 n4 cp4 e4 s9 ao9 n9 cp9 e9 s2 ao2 n2 cp2 e2 false ao7 n7 cp7 e7 W6 x4.2 xf.2 x2.2 xb.2
    have c4:=(cells3N x4.1).1
    have cL:=(cells3N xf.1).1
    have c2:=(cells3N x2.1).1
    have c7:=(cells3N xb.1).1
    obtain⟨k0,k1,k2⟩:=c4
    obtain⟨l0,l1,l2⟩:=cL
    obtain⟨m0,m1,m2⟩:=c2
    obtain⟨y0,y1,y2⟩:=c7
    clear x1 x2 x3 x4 x5 x6 x7 x8 x9 xa xb xc xd xe xf xg
    go_wp2_with fail
    refine kk.mono ?_
    rintro r w7 ⟨sP,aoP,nP,cpP,eP,sQ,aoQ,nQ,cpQ,eQ,rfl,hA,hB,hb7⟩
    clear kk k0 k1 k2 l0 l1 l2 m0 m1 m2 y0 y1 y2
    obtain⟨W8,hW8⟩:∃ W8,W8=(w7.alloc (.cells #[.bool sP,.slice aoP nP cpP,.int .i64 eP] 27)).alloc (.cells #[.bool sQ,.slice aoQ nQ cpQ,.int .i64 eQ] 27):=⟨_,rfl⟩
    obtain⟨z1,z2,z3,z4⟩:=two_new _ _ hW8
    have hb68:Bw W6 W8:=hb7.trans (z4.mono hb7.size)
    obtain⟨x1,x2,x3,x4,x5,x6,x7,x8,x9,xa,xb,xc,xd,xe,xf,xg⟩:=H6.out
    go_upto_region 10 with fail
    rw[←hW8]
    clear hW8
    have hsz:=hb7.size
    have hL:=lt_of_box xf.1
    have hA':=hA.later z4
    have hB':=hB.later z4
    clear z3 z4 hA hB
    generalize w7.heap.size=gqP at *
    have H8:Hid (NB W8 (w.heap.size) s1 ao1 n1 cp1 e1 (un (a:Int) 0)∧NB W8 (w.heap.size+1) s2 ao2 n2 cp2 e2 (un (b:Int) 0)∧NB W8 (w.heap.size+1+1) s3 ao3 n3 cp3 e3 (un (c:Int) 0)∧NB W8 (w.heap.size+1+1+1) s4 ao4 n4 cp4 e4 (un (d:Int) 0)∧W8.heap[w.heap.size+1+1+1+1]?=some (.cells #[.bool false,.slice none 0 0,.int .i64 0] 27 (0,0))∧W8.heap[w.heap.size+1+1+1+1+1]?=some (.cells #[.bool false,.slice none 0 0,.int .i64 0] 27 (0,0))∧Bw w W8∧NB W8 gqT s5 ao5 n5 cp5 e5 (un 1 0)∧w.heap.size+1+1+1+1+1<gqT∧NB W8 gqE s6 ao6 n6 cp6 e6 (un ((a / b:Nat):Int) 0)∧NB W8 (gqE+1) false ao7 n7 cp7 e7 (un ((a % b:Nat):Int) 0)∧gqT<gqE∧NB W8 gqA s8 ao8 n8 cp8 e8 (un ((a / b+1:Nat):Int) 0)∧gqE<gqA∧NB W8 gqL s9 ao9 n9 cp9 e9 (un ((c - a / b*d:Nat):Int) 0)∧gqA<gqL∧NB W8 gqP sP aoP nP cpP eP (un (p:Int) 0)∧NB W8 (gqP+1) sQ aoQ nQ cpQ eQ (un (q:Int) 0)∧gqL<gqP):=⟨x1.later hb68,x2.later hb68,x3.later hb68,x4.later hb68,box_later x5 hb68 (lt_of_box x5),box_later x6 hb68 (lt_of_box x6),x7.trans (hb68.mono x7.size),x8.later hb68,x9,xa.later hb68,xb.later hb68,xc,xd.later hb68,xe,xf.later hb68,xg,⟨z1,hA'⟩,⟨z2,hB'⟩,by omega⟩
    clear x1 x2 x3 x4 x5 x6 x7 x8 x9 xa xb xc xd xe xf xg hb7 hb68 z1 z2 hA' hB' H6 hsz hL
    obtain⟨x1,x2,x3,x4,x5,x6,x7,x8,x9,xa,xb,xc,xd,xe,xf,xg,xp,xq,xr⟩:=H8.out
    have hbx2:∀ i,i<2→∃ cs,W8.heap[two (w.heap.size+1+1+1+1) (w.heap.size+1+1+1+1+1) i]?=some (.cells cs 27 (0,0))∧NC3 cs:=fun i hi=>by
     rcases lt2F hi with rfl|rfl
     ·exact⟨_,x5,_,_,_,_,_,rfl⟩
     ·exact⟨_,x6,_,_,_,_,_,rfl⟩
    have ne:∀ g,w.heap.size+1+1+1+1+1<g→∀ i,i<2→g≠two (w.heap.size+1+1+1+1) (w.heap.size+1+1+1+1+1) i:=fun g h i hi=>by
     rcases lt2F hi with rfl|rfl
     ·show g≠w.heap.size+1+1+1+1;omega
     ·show g≠w.heap.size+1+1+1+1+1;omega
    have nA:(((a / b:Nat):Int)).natAbs<2^k:=by rw[Int.natAbs_natCast];exact Nat.lt_of_le_of_lt (Nat.div_le_self _ _) H0.out.2.2.1
    have pA:((p:Int)).natAbs<2^k:=by rw[Int.natAbs_natCast];exact hpq.out.1
    have qA:((q:Int)).natAbs<2^k:=by rw[Int.natAbs_natCast];exact hpq.out.2
    have hk2:=H0.out.2.1
    have eS:((a / b:Nat):Int)*(p:Int)+(q:Int)=((a / b*p+q:Nat):Int):=by rw[Int.natCast_add,Int.natCast_mul]
    refine q_region follows_mixed [0,1,2,3,4,5] [6,7] [53,54,55,56,57,58] [[],[],[0,1],[],[2,3],[]] [[4],[5]] [4,5] (two 8 9) (two (w.heap.size+1+1+1+1) (w.heap.size+1+1+1+1+1)) w.heap.size 27 NC3 3 W8 _ [isV (.agg #[.bool s6,.slice ao6 n6 cp6,.int .i64 e6]),isV (.agg #[.bool sP,.slice aoP nP cpP,.int .i64 eP]),isD (un (((a / b:Nat):Int)*(p:Int)) 0),isV (.agg #[.bool sQ,.slice aoQ nQ cpQ,.int .i64 eQ]),isD (un ((a / b*p+q:Nat):Int) 0),isV (.agg #[.bool sP,.slice aoP nP cpP,.int .i64 eP])] (by kernel_rfl) ⟨isV_stays _,isV_stays _,isD_stays _,isV_stays _,isD_stays _,isV_stays _,trivial⟩ ⟨isV_rows _ _ _,isV_rows _ _ _,isD_rows3 _,isV_rows _ _ _,isD_rows3 _,isV_rows _ _ _,trivial⟩ (by show ∀ s ∈ [53,54,55,56,57,58],s<59;decide) ?_ ?_ Tryz.info27 ?_ ?_ ?_ (two_inj (by omega)) x7.size ?_
    ·intro i hi U u h
     rcases lt2F hi with rfl|rfl
     ·exact DN.cells3 (show DN U u (un ((a / b*p+q:Nat):Int) 0)from h)
     ·obtain rfl:u=_:=h
      exact⟨_,rfl,rfl,⟨_,_,_,_,_,rfl⟩,one3 rfl rfl⟩
    ·intro j hj o ho act U hK hoth hdep hrd
     have t11:act.tmps[(11:Nat)]?=some (Value.pointer (some ⟨gqE,0,none⟩)):=(hoth 11 (by decide)).trans rfl
     have t15:act.tmps[(15:Nat)]?=some (Value.pointer (some ⟨gqP,0,none⟩)):=(hoth 15 (by decide)).trans rfl
     have t16:act.tmps[(16:Nat)]?=some (Value.pointer (some ⟨gqP+1,0,none⟩)):=(hoth 16 (by decide)).trans rfl
     have kcE:=(cells3N ((hK.keep gqE (lt_of_box xa.1) (ne gqE (by omega))).trans xa.1)).1
     have kcP:=(cells3N ((hK.keep gqP (lt_of_box xp.1) (ne gqP (by omega))).trans xp.1)).1
     have kcQ:=(cells3N ((hK.keep (gqP+1) (lt_of_box xq.1) (ne (gqP+1) (by omega))).trans xq.1)).1
     rcases lt6S hj with rfl|rfl|rfl|rfl|rfl|rfl
     ·obtain rfl:=Option.some.inj ho
      exact .inl ⟨rfl,owp_ldD rfl t11 kcE.1 kcE.2.1 kcE.2.2 ⟨_,rfl,rfl,Below.refl _ _⟩⟩
     ·obtain rfl:=Option.some.inj ho
      exact .inl ⟨rfl,owp_ldD rfl t15 kcP.1 kcP.2.1 kcP.2.2 ⟨_,rfl,rfl,Below.refl _ _⟩⟩
     ·obtain rfl:=Option.some.inj ho
      have y0:act.tmps[(53:Nat)]?=_:=dV (hdep 0 (by simp[dL])) rfl
      have y1:act.tmps[(54:Nat)]?=_:=dV (hdep 1 (by simp[dL])) rfl
      refine .inl ⟨rfl,owp_call rfl (enters Tryz.func54 (by kernel_rfl) (by kernel_rfl)) (map2 y0 y1) ?_⟩
      have h:=gtimes (un_gn nA (by omega) (by omega)) (un_gn pA (by omega) (by omega)) (DN.keepN hK hbx2 xa.2) (DN.keepN hK hbx2 xp.2)
      rw[gM_un] at h
      refine h.mono ?_
      rintro r w' ⟨A,rfl,hA,hb'⟩
      exact⟨_,rfl,_,rfl,hA,hb'⟩
     ·obtain rfl:=Option.some.inj ho
      exact .inl ⟨rfl,owp_ldD rfl t16 kcQ.1 kcQ.2.1 kcQ.2.2 ⟨_,rfl,rfl,Below.refl _ _⟩⟩
     ·obtain rfl:=Option.some.inj ho
      obtain⟨u2,y2,v2⟩:=dD (s:=55) (hdep 2 (by simp[dL])) rfl
      have y3:act.tmps[(56:Nat)]?=_:=dV (hdep 3 (by simp[dL])) rfl
      refine .inl ⟨rfl,owp_call rfl (enters Tryz.func52 (by kernel_rfl) (by kernel_rfl)) (map2 y2 y3) ?_⟩
      have h:=gplus (un_gn (abs_mul nA pA) (by omega) (by omega)) (un_gn (pow_grow k qA) (by omega) (by omega)) v2 (DN.keepN hK hbx2 xq.2)
      rw[gS_un,eS] at h
      refine h.mono ?_
      rintro r w' ⟨A,rfl,hA,hb'⟩
      exact⟨_,rfl,_,rfl,hA,hb'⟩
     ·obtain rfl:=Option.some.inj ho
      exact .inl ⟨rfl,owp_ldD rfl t15 kcP.1 kcP.2.1 kcP.2.2 ⟨_,rfl,rfl,Below.refl _ _⟩⟩
    ·intro i hi
     rcases lt2F hi with rfl|rfl <;> exact⟨_,rfl,rfl⟩
    ·intro i hi
     rcases lt2F hi with rfl|rfl
     ·exact⟨rfl,by decide⟩
     ·exact⟨rfl,by decide⟩
    ·intro i hi
     rcases lt2F hi with rfl|rfl
     ·exact⟨by show w.heap.size≤w.heap.size+1+1+1+1;omega,_,x5,rfl,_,_,_,_,_,rfl⟩
     ·exact⟨by show w.heap.size≤w.heap.size+1+1+1+1+1;omega,_,x6,rfl,_,_,_,_,_,rfl⟩
    ·intro u U hK hu hcs
     obtain⟨csb,yb,zb⟩:=hcs 1 (by decide)
     obtain⟨csa,ya,za⟩:=hcs 0 (by decide)
     have q4:DN U (u 4) (un ((a / b*p+q:Nat):Int) 0):=hu 4 (by decide)
     have u5:u 5=.agg #[.bool sP,.slice aoP nP cpP,.int .i64 eP]:=hu 5 (by decide)
     have ya':u 4=.agg csa:=ya
     have yb':u 5=.agg csb:=yb
     rw[ya'] at q4
     obtain⟨sR,aoR,nR,cpR,eR,hR⟩:=q4.shape
     obtain rfl:=Value.agg.inj hR
     rw[u5] at yb'
     obtain rfl:=Value.agg.inj yb'
     have HX:Hid (U.heap[w.heap.size+1+1+1+1]?=some (.cells #[.bool sR,.slice aoR nR cpR,.int .i64 eR] 27 (0,0))∧U.heap[w.heap.size+1+1+1+1+1]?=some (.cells #[.bool sP,.slice aoP nP cpP,.int .i64 eP] 27 (0,0))∧DN U (.agg #[.bool sR,.slice aoR nR cpR,.int .i64 eR]) (un ((a / b*p+q:Nat):Int) 0)∧DN U (.agg #[.bool sP,.slice aoP nP cpP,.int .i64 eP]) (un (p:Int) 0)∧Bw w U):=⟨za,zb,q4,DN.keepN hK hbx2 xp.2,x7.trans hK.below⟩
     clear hu hcs ya yb za zb ya' yb' hR q4 hK x1 x2 x3 x4 x5 x6 x7 x8 xa xb xd xf xp xq hbx2 ne H8
     simp only[putL,show List.range 6 = [0,1,2,3,4,5] from rfl,List.length_cons,List.length_nil,List.getD_cons_zero,List.getD_cons_succ,List.map_cons,List.map_nil,List.cons_append,List.nil_append,List.foldl_cons,List.foldl_nil,Nat.reduceLT,Nat.reduceMod,Nat.reduceDiv,Nat.reduceMul,Nat.reduceAdd,Nat.reduceEqDiff,reduceIte,Nat.one_ne_zero,Act.put,List.setIfInBounds_toArray,List.set_cons_zero,List.set_cons_succ]
     go_wp2_with fail
     refine bodyPost_ret (results_c2 rfl _ _ (w.heap.size+1+1+1+1) (w.heap.size+1+1+1+1+1) 27 #[.bool sR,.slice aoR nR cpR,.int .i64 eR] #[.bool sP,.slice aoP nP cpP,.int .i64 eP] (0,0) (0,0) _ rfl rfl HX.out.1 HX.out.2.1 Tryz.underlying27 rfl Tryz.info27 Tryz.info27) rfl ?_
     exact⟨_,_,_,_,_,_,_,_,_,_,rfl,HX.out.2.2.1,HX.out.2.2.2.1,HX.out.2.2.2.2⟩
  ·have hv:=of_decide_eq_true hval.symm
   obtain⟨-,h1,rfl,rfl⟩:a % b≠0∧(a / b+1)*d≤c∧rx=a / b+1∧ry=1:=by
    rcases hc2 with h|h
    ·exact h
    ·exact absurd hv (by omega)
   clear hval hv hc2 hcase
   go_upto_region 7 with fail
   obtain⟨x1,x2,x3,x4,x5,x6,x7,x8,x9,xa,xb,xc,xd,xe⟩:=H5.out
   have hbx2:∀ i,i<2→∃ cs,W5.heap[two (w.heap.size+1+1+1+1) (w.heap.size+1+1+1+1+1) i]?=some (.cells cs 27 (0,0))∧NC3 cs:=fun i hi=>by
    rcases lt2F hi with rfl|rfl
    ·exact⟨_,x5,_,_,_,_,_,rfl⟩
    ·exact⟨_,x6,_,_,_,_,_,rfl⟩
   have ne:∀ g,w.heap.size+1+1+1+1+1<g→∀ i,i<2→g≠two (w.heap.size+1+1+1+1) (w.heap.size+1+1+1+1+1) i:=fun g h i hi=>by
    rcases lt2F hi with rfl|rfl
    ·show g≠w.heap.size+1+1+1+1;omega
    ·show g≠w.heap.size+1+1+1+1+1;omega
   refine q_region follows_mixed [0,1] [2,3] [38,39] [[],[]] [[0],[1]] [0,1] (two 8 9) (two (w.heap.size+1+1+1+1) (w.heap.size+1+1+1+1+1)) w.heap.size 27 NC3 3 W5 _ [isV (.agg #[.bool s8,.slice ao8 n8 cp8,.int .i64 e8]),isV (.agg #[.bool s5,.slice ao5 n5 cp5,.int .i64 e5])] (by kernel_rfl) ⟨isV_stays _,isV_stays _,trivial⟩ ⟨isV_rows _ _ _,isV_rows _ _ _,trivial⟩ (by show ∀ s ∈ [38,39],s<59;decide) ?_ ?_ Tryz.info27 ?_ ?_ ?_ (two_inj (by omega)) x7.size ?_
   ·intro i hi U u h
    rcases lt2F hi with rfl|rfl
    ·obtain rfl:u=_:=h
     exact⟨_,rfl,rfl,⟨_,_,_,_,_,rfl⟩,one3 rfl rfl⟩
    ·obtain rfl:u=_:=h
     exact⟨_,rfl,rfl,⟨_,_,_,_,_,rfl⟩,one3 rfl rfl⟩
   ·intro j hj o ho act U hK hoth hdep hrd
    rcases lt2F hj with rfl|rfl
    ·obtain rfl:=Option.some.inj ho
     have t13:act.tmps[(13:Nat)]?=some (Value.pointer (some ⟨gqA,0,none⟩)):=(hoth 13 (by decide)).trans rfl
     have c6:=(cells3N ((hK.keep gqA (lt_of_box xd.1) (ne gqA (by omega))).trans xd.1)).1
     exact .inl ⟨rfl,owp_ldD rfl t13 c6.1 c6.2.1 c6.2.2 ⟨_,rfl,rfl,Below.refl _ _⟩⟩
    ·obtain rfl:=Option.some.inj ho
     have t10:act.tmps[(10:Nat)]?=some (Value.pointer (some ⟨gqT,0,none⟩)):=(hoth 10 (by decide)).trans rfl
     have c5:=(cells3N ((hK.keep gqT (lt_of_box x8.1) (ne gqT (by omega))).trans x8.1)).1
     exact .inl ⟨rfl,owp_ldD rfl t10 c5.1 c5.2.1 c5.2.2 ⟨_,rfl,rfl,Below.refl _ _⟩⟩
   ·intro i hi
    rcases lt2F hi with rfl|rfl <;> exact⟨_,rfl,rfl⟩
   ·intro i hi
    rcases lt2F hi with rfl|rfl
    ·exact⟨rfl,by decide⟩
    ·exact⟨rfl,by decide⟩
   ·intro i hi
    rcases lt2F hi with rfl|rfl
    ·exact⟨by show w.heap.size≤w.heap.size+1+1+1+1;omega,_,x5,rfl,_,_,_,_,_,rfl⟩
    ·exact⟨by show w.heap.size≤w.heap.size+1+1+1+1+1;omega,_,x6,rfl,_,_,_,_,_,rfl⟩
   ·intro u U hK hu hcs
    obtain⟨csb,yb,zb⟩:=hcs 1 (by decide)
    obtain⟨csa,ya,za⟩:=hcs 0 (by decide)
    have u0:u 0=.agg #[.bool s8,.slice ao8 n8 cp8,.int .i64 e8]:=hu 0 (by decide)
    have u1:u 1=.agg #[.bool s5,.slice ao5 n5 cp5,.int .i64 e5]:=hu 1 (by decide)
    have ya':u 0=.agg csa:=ya
    have yb':u 1=.agg csb:=yb
    rw[u0] at ya'
    rw[u1] at yb'
    obtain rfl:=Value.agg.inj ya'
    obtain rfl:=Value.agg.inj yb'
    have HX:Hid (U.heap[w.heap.size+1+1+1+1]?=some (.cells #[.bool s8,.slice ao8 n8 cp8,.int .i64 e8] 27 (0,0))∧U.heap[w.heap.size+1+1+1+1+1]?=some (.cells #[.bool s5,.slice ao5 n5 cp5,.int .i64 e5] 27 (0,0))∧DN U (.agg #[.bool s8,.slice ao8 n8 cp8,.int .i64 e8]) (un ((a / b+1:Nat):Int) 0)∧DN U (.agg #[.bool s5,.slice ao5 n5 cp5,.int .i64 e5]) (un 1 0)∧Bw w U):=⟨za,zb,DN.keepN hK hbx2 xd.2,DN.keepN hK hbx2 x8.2,x7.trans hK.below⟩
    clear hu hcs ya yb za zb ya' yb' hK x1 x2 x3 x4 x5 x6 x7 x8 xa xb xd hbx2 ne H5
    simp only[putL,show List.range 2 = [0,1] from rfl,List.length_cons,List.length_nil,List.getD_cons_zero,List.getD_cons_succ,List.map_cons,List.map_nil,List.cons_append,List.nil_append,List.foldl_cons,List.foldl_nil,Nat.reduceLT,Nat.reduceMod,Nat.reduceDiv,Nat.reduceMul,Nat.reduceAdd,Nat.reduceEqDiff,reduceIte,Nat.one_ne_zero,Act.put,List.setIfInBounds_toArray,List.set_cons_zero,List.set_cons_succ]
    go_wp2_with fail
    refine bodyPost_ret (results_c2 rfl _ _ (w.heap.size+1+1+1+1) (w.heap.size+1+1+1+1+1) 27 #[.bool s8,.slice ao8 n8 cp8,.int .i64 e8] #[.bool s5,.slice ao5 n5 cp5,.int .i64 e5] (0,0) (0,0) _ rfl rfl HX.out.1 HX.out.2.1 Tryz.underlying27 rfl Tryz.info27 Tryz.info27) rfl ?_
    exact⟨_,_,_,_,_,_,_,_,_,_,rfl,HX.out.2.2.1,HX.out.2.2.2.1,HX.out.2.2.2.2⟩
theorem dsmp8 {a b c d p q:Nat} (h:Smp a b c d p q):∀ (k:Nat),a*d≤c*b→k≤20000→a<2^k→b<2^k→c<2^k→d<2^k→∀ (s1:Bool) (ao1:Option Addr) (n1 cp1:Nat) (e1:Int) (s2:Bool) (ao2:Option Addr) (n2 cp2:Nat) (e2:Int) (s3:Bool) (ao3:Option Addr) (n3 cp3:Nat) (e3:Int) (s4:Bool) (ao4:Option Addr) (n4 cp4:Nat) (e4:Int) (w:World),DN w (.agg #[.bool s1,.slice ao1 n1 cp1,.int .i64 e1]) (un (a:Int) 0)→DN w (.agg #[.bool s2,.slice ao2 n2 cp2,.int .i64 e2]) (un (b:Int) 0)→DN w (.agg #[.bool s3,.slice ao3 n3 cp3,.int .i64 e3]) (un (c:Int) 0)→DN w (.agg #[.bool s4,.slice ao4 n4 cp4,.int .i64 e4]) (un (d:Int) 0)→Calls Tryz.prog 19 #[.agg #[.bool s1,.slice ao1 n1 cp1,.int .i64 e1],.agg #[.bool s2,.slice ao2 n2 cp2,.int .i64 e2],.agg #[.bool s3,.slice ao3 n3 cp3,.int .i64 e3],.agg #[.bool s4,.slice ao4 n4 cp4,.int .i64 e4]] w fun r w'=>Out2D w (un (p:Int) 0) (un (q:Int) 0) r w':=by
 induction h with
 | whole hb h0 =>
  intro k hle hk ha hbk hc hd
  intros
  exact dsmp8_all _ _ _ _ k 0 0 _ _ _ _ _ _ _ _ _ _ _ _ _ _ _ _ _ _ _ _ _ _ _ hb hk ha hbk hc hd (by assumption) (by assumption) (by assumption) (by assumption) (.inl ⟨h0,rfl,rfl⟩)
 | above hb h0 h1 =>
  intro k hle hk ha hbk hc hd
  intros
  exact dsmp8_all _ _ _ _ k 0 0 _ _ _ _ _ _ _ _ _ _ _ _ _ _ _ _ _ _ _ _ _ _ _ hb hk ha hbk hc hd (by assumption) (by assumption) (by assumption) (by assumption) (.inr (.inl ⟨h0,h1,rfl,rfl⟩))
 | @more a b c d p q hb h0 h1 hs ih =>
  intro k hle hk ha hbk hc hd
  have hl:=smp_left hb h0 hle h1
  have hn:=smp_next hb h0 hle h1
  have hr:=Nat.le_of_lt (Nat.mod_lt a hb)
  have ih':=ih k hn.2.2 hk hd (by omega) hbk (Nat.lt_of_le_of_lt hr hbk)
  have hpq:=(smp_le hs hn.2.2).1
  intros
  exact dsmp8_all _ _ _ _ k p q _ _ _ _ _ _ _ _ _ _ _ _ _ _ _ _ _ _ _ _ _ _ _ hb hk ha hbk hc hd (by assumption) (by assumption) (by assumption) (by assumption) (.inr (.inr ⟨h0,h1,by omega,rfl,rfl,⟨by omega,by omega⟩,ih'⟩))
theorem owp_fldN2 {Q:Exit→Act→World→Prop} {o:Oper} {K:Act→World→Prop} {a:Act} {w:World} {s:Tmp} {g:Nat} (hop:o.op=.fieldAddr 27 (.tmp s) 2) (hs:a.tmps[s]?=some (.pointer (some ⟨g,0,none⟩))) (h:K (a.put o.dst (.pointer (some ⟨g,2,none⟩))) w):o.wp Tryz.prog a w K Q :=
 owp_run1 (w':=w) (by simp[execOp,hop,Act.eval,hs,go_sem]) h
theorem owp_ldI {Q:Exit→Act→World→Prop} {o:Oper} {K:Act→World→Prop} {a:Act} {w:World} {s:Tmp} {g f:Nat} {x:Int} (hop:o.op=.load 3 (.tmp s)) (hs:a.tmps[s]?=some (.pointer (some ⟨g,f,none⟩))) (hc:w.cell? ⟨g,f,none⟩=some (.int .i64 x)) (h:K (a.put o.dst (.int .i64 x)) w):o.wp Tryz.prog a w K Q :=
 owp_run1 (w':=w) (by simp[execOp,hop,Act.eval,hs,hc,go_sem]) h
theorem owp_negI {Q:Exit→Act→World→Prop} {o:Oper} {K:Act→World→Prop} {a:Act} {w:World} {s:Tmp} {x:Int} (hx : -4611686018427387904≤x∧x≤4611686018427387904) (hop:o.op=.unOp .neg 3 (.tmp s)) (hs:a.tmps[s]?=some (.int .i64 x)) (h:K (a.put o.dst (.int .i64 (-x))) w):o.wp Tryz.prog a w K Q:=by
 have hw:IntKind.i64.wrap (-x) = -x:=by simp[IntKind.wrap,IntKind.bits,IntKind.signed];omega
 exact owp_run1 (w':=w) (by simp[execOp,hop,Act.eval,hs,go_sem,hw]) h
theorem owp_cst {P:Program} {Q:Exit→Act→World→Prop} {o:Oper} {K:Act→World→Prop} {a:Act} {w:World} {s:Tmp} {v:Value} (hop:o.op=.assign (.const v)) (h:K (a.put o.dst v) w):o.wp P a w K Q :=
 owp_run1 (w':=w) (by simp[execOp,hop,Act.eval,go_sem]) h
theorem map1c {a:Act} {v:Value} : #[Operand.const v].map a.eval = #[v]:=by simp[Act.eval]
theorem dparts_0 (x:Nat) (hx:x<18446744073709551616) (w:World) (h0:0≤(un (sU x) 1074).2.2):Calls Tryz.prog 18 #[.float .f64 x] w fun r w'=>Out2D w (un (sU x) 1074) (un 1 0) r w':=by
 obtain⟨W,hW⟩:∃ W,W=(w.alloc (.cells #[.bool false,.slice none 0 0,.int .i64 0] 27)).alloc (.cells #[.bool false,.slice none 0 0,.int .i64 0] 27):=⟨_,rfl⟩
 obtain⟨m1,m2,m3,m4⟩:=two_new _ _ hW
 have HF:Hid (W.heap[w.heap.size]?=some (.cells #[.bool false,.slice none 0 0,.int .i64 0] 27 (0,0))∧W.heap[w.heap.size+1]?=some (.cells #[.bool false,.slice none 0 0,.int .i64 0] 27 (0,0))∧Bw w W):=⟨m1,m2,m4⟩
 have kk:=dfloatU hx W
 clear m1 m2 m3 m4
 go_enter Tryz.func18,Tryz.ntmps18
 go_upto_region 1 with fail
 rw[←hW]
 clear hW
 go_wp2_with fail
 refine kk.mono ?_
 rintro r w1 ⟨A,rfl,hA,hb1⟩
 obtain⟨s1,ao1,n1,cp1,e1,rfl⟩:=hA.shape
 clear kk
 have hE:Hid (e1=(un (sU x) 1074).2.2):=(DN.all hA).2.2.1
 have hEb:Hid (-4611686018427387904≤e1∧e1≤4611686018427387904):=by show _∧_;have hEE:e1=(un (sU x) 1074).2.2:=hE;have:=un_e (p:=1074) (sU_lt x);unfold bU at this;omega
 obtain⟨V,hV⟩:∃ V,V=w1.alloc (.cells #[.bool s1,.slice ao1 n1 cp1,.int .i64 e1] 27):=⟨_,rfl⟩
 have hbV:Bw w1 V:=by rw[hV];exact(Below.refl _ _).alloc (Nat.le_refl _) _
 have n6:V.heap[w1.heap.size]?=some (.cells #[.bool s1,.slice ao1 n1 cp1,.int .i64 e1] 27 (0,0)):=by rw[hV];exact heap_alloc_new _ _
 have hWV:Bw W V:=hb1.trans (hbV.mono hb1.size)
 obtain⟨x5,x6,x7⟩:=HF.out
 have H1:Hid (NB V w1.heap.size s1 ao1 n1 cp1 e1 (un (sU x) 1074)∧V.heap[w.heap.size]?=some (.cells #[.bool false,.slice none 0 0,.int .i64 0] 27 (0,0))∧V.heap[w.heap.size+1]?=some (.cells #[.bool false,.slice none 0 0,.int .i64 0] 27 (0,0))∧Bw w V∧w.heap.size+1<w1.heap.size):=⟨⟨n6,hA.later hbV⟩,box_later x5 hWV (lt_of_box x5),box_later x6 hWV (lt_of_box x6),x7.trans (hWV.mono x7.size),by have:=lt_of_box x6;have:=hb1.size;omega⟩
 clear x5 x6 x7 hWV n6 hbV hA hb1 HF
 obtain⟨x0,x1,x2⟩:=(cells3N H1.out.1.1).1
 have hd:decide (e1 ≥ 0)=true:=decide_eq_true (by have hEE:e1=(un (sU x) 1074).2.2:=hE;omega)
 go_upto_region 2 with fail
 rw[←hV]
 clear hV
 generalize w1.heap.size=gqT at *
 go_upto_region 3 with fail
 clear x0 x1 x2 hd
 obtain⟨y1,x5,x6,x7,x8⟩:=H1.out
 have hbx2:∀ i,i<2→∃ cs,V.heap[two (w.heap.size) (w.heap.size+1) i]?=some (.cells cs 27 (0,0))∧NC3 cs:=fun i hi=>by
  rcases lt2F hi with rfl|rfl
  ·exact⟨_,x5,_,_,_,_,_,rfl⟩
  ·exact⟨_,x6,_,_,_,_,_,rfl⟩
 have ne:∀ g,w.heap.size+1<g→∀ i,i<2→g≠two (w.heap.size) (w.heap.size+1) i:=fun g h i hi=>by
  rcases lt2F hi with rfl|rfl
  ·show g≠w.heap.size;omega
  ·show g≠w.heap.size+1;omega
 have zb:=sU_lt x
 have e1b:(1:Int).natAbs<2^1:=by decide
 refine q_region follows_mixed [0,1] [2,3] [10,11] [[],[]] [[0],[1]] [0,1] (two 2 3) (two (w.heap.size) (w.heap.size+1)) w.heap.size 27 NC3 3 V _ [isV (.agg #[.bool s1,.slice ao1 n1 cp1,.int .i64 e1]),isD (un 1 0)] (by kernel_rfl) ⟨isV_stays _,isD_stays _,trivial⟩ ⟨isV_rows _ _ _,isD_rows3 _,trivial⟩ (by show ∀ s ∈ [10,11],s<22;decide) ?_ ?_ Tryz.info27 ?_ ?_ ?_ (two_inj (by omega)) x7.size ?_
 ·intro i hi U u h
  rcases lt2F hi with rfl|rfl
  ·obtain rfl:u=_:=h
   exact⟨_,rfl,rfl,⟨_,_,_,_,_,rfl⟩,one3 rfl rfl⟩
  ·exact DN.cells3 (show DN U u (un 1 0)from h)
 ·intro j hj o ho act U hK hoth hdep hrd
  have t4:act.tmps[(4:Nat)]?=some (Value.pointer (some ⟨gqT,0,none⟩)):=(hoth 4 (by decide)).trans rfl
  have c4:=(cells3N ((hK.keep gqT (lt_of_box y1.1) (ne gqT (by omega))).trans y1.1)).1
  have hj':j<2:=hj
  rcases(by omega:j=0∨j=1)with rfl|rfl
  ·obtain rfl:=Option.some.inj ho
   exact .inl ⟨rfl,owp_ldD rfl t4 c4.1 c4.2.1 c4.2.2 ⟨_,rfl,rfl,Below.refl _ _⟩⟩
  ·obtain rfl:=Option.some.inj ho
   refine .inl ⟨rfl,owp_call rfl (enters Tryz.func17 (by kernel_rfl) (by kernel_rfl)) map1c ?_⟩
   refine(dwholeU (n:=1) (by omega) U).mono ?_
   rintro r w' ⟨A,rfl,hA,hb'⟩
   exact⟨_,rfl,_,rfl,hA,hb'⟩
 ·intro i hi
  rcases lt2F hi with rfl|rfl <;> exact⟨_,rfl,rfl⟩
 ·intro i hi
  rcases lt2F hi with rfl|rfl
  ·exact⟨rfl,by decide⟩
  ·exact⟨rfl,by decide⟩
 ·intro i hi
  rcases lt2F hi with rfl|rfl
  ·exact⟨by show w.heap.size≤w.heap.size;omega,_,x5,rfl,_,_,_,_,_,rfl⟩
  ·exact⟨by show w.heap.size≤w.heap.size+1;omega,_,x6,rfl,_,_,_,_,_,rfl⟩
 ·intro u U hK hu hcs
  obtain⟨csb,yb,zb'⟩:=hcs 1 (by decide)
  obtain⟨csa,ya,za⟩:=hcs 0 (by decide)
  have qa:DN U (u 0) (un (sU x) 1074):=(show u 0=_ from hu 0 (by decide)) ▸ DN.keepN hK hbx2 y1.2
  have qb:DN U (u 1) (un 1 0):=hu 1 (by decide)
  have ya':u 0=.agg csa:=ya
  have yb':u 1=.agg csb:=yb
  rw[ya'] at qa
  rw[yb'] at qb
  obtain⟨s2,ao2,n2,cp2,e2,h2⟩:=qa.shape
  obtain⟨s3,ao3,n3,cp3,e3,h3⟩:=qb.shape
  obtain rfl:=Value.agg.inj h2
  obtain rfl:=Value.agg.inj h3
  have HX:Hid (U.heap[w.heap.size]?=some (.cells #[.bool s2,.slice ao2 n2 cp2,.int .i64 e2] 27 (0,0))∧U.heap[w.heap.size+1]?=some (.cells #[.bool s3,.slice ao3 n3 cp3,.int .i64 e3] 27 (0,0))∧DN U (.agg #[.bool s2,.slice ao2 n2 cp2,.int .i64 e2]) (un (sU x) 1074)∧DN U (.agg #[.bool s3,.slice ao3 n3 cp3,.int .i64 e3]) (un 1 0)∧Bw w U):=⟨za,zb',qa,qb,x7.trans hK.below⟩
  clear hu hcs ya yb za zb' ya' yb' h2 h3 qa qb hK x5 x6 x7 y1 hbx2 ne H1
  simp only[putL,show List.range 2 = [0,1] from rfl,List.length_cons,List.length_nil,List.getD_cons_zero,List.getD_cons_succ,List.map_cons,List.map_nil,List.cons_append,List.nil_append,List.foldl_cons,List.foldl_nil,Nat.reduceLT,Nat.reduceMod,Nat.reduceDiv,Nat.reduceMul,Nat.reduceAdd,Nat.reduceEqDiff,reduceIte,Nat.one_ne_zero,Act.put,List.setIfInBounds_toArray,List.set_cons_zero,List.set_cons_succ]
  go_wp2_with fail
  refine bodyPost_ret (results_c2 rfl _ _ (w.heap.size) (w.heap.size+1) 27 #[.bool s2,.slice ao2 n2 cp2,.int .i64 e2] #[.bool s3,.slice ao3 n3 cp3,.int .i64 e3] (0,0) (0,0) _ rfl rfl HX.out.1 HX.out.2.1 Tryz.underlying27 rfl Tryz.info27 Tryz.info27) rfl ?_
  skip
  skip
  exact⟨_,_,_,_,_,_,_,_,_,_,rfl,HX.out.2.2.1,HX.out.2.2.2.1,HX.out.2.2.2.2⟩
theorem dparts_1 (x:Nat) (hx:x<18446744073709551616) (w:World) (h0:(un (sU x) 1074).2.2<0):Calls Tryz.prog 18 #[.float .f64 x] w fun r w'=>Out2D w (gK (-(un (sU x) 1074).2.2) (un (sU x) 1074)) (gK (-(un (sU x) 1074).2.2) (un 1 0)) r w':=by
 obtain⟨W,hW⟩:∃ W,W=(w.alloc (.cells #[.bool false,.slice none 0 0,.int .i64 0] 27)).alloc (.cells #[.bool false,.slice none 0 0,.int .i64 0] 27):=⟨_,rfl⟩
 obtain⟨m1,m2,m3,m4⟩:=two_new _ _ hW
 have HF:Hid (W.heap[w.heap.size]?=some (.cells #[.bool false,.slice none 0 0,.int .i64 0] 27 (0,0))∧W.heap[w.heap.size+1]?=some (.cells #[.bool false,.slice none 0 0,.int .i64 0] 27 (0,0))∧Bw w W):=⟨m1,m2,m4⟩
 have kk:=dfloatU hx W
 clear m1 m2 m3 m4
 go_enter Tryz.func18,Tryz.ntmps18
 go_upto_region 1 with fail
 rw[←hW]
 clear hW
 go_wp2_with fail
 refine kk.mono ?_
 rintro r w1 ⟨A,rfl,hA,hb1⟩
 obtain⟨s1,ao1,n1,cp1,e1,rfl⟩:=hA.shape
 clear kk
 have hE:Hid (e1=(un (sU x) 1074).2.2):=(DN.all hA).2.2.1
 have hEb:Hid (-4611686018427387904≤e1∧e1≤4611686018427387904):=by show _∧_;have hEE:e1=(un (sU x) 1074).2.2:=hE;have:=un_e (p:=1074) (sU_lt x);unfold bU at this;omega
 obtain⟨V,hV⟩:∃ V,V=w1.alloc (.cells #[.bool s1,.slice ao1 n1 cp1,.int .i64 e1] 27):=⟨_,rfl⟩
 have hbV:Bw w1 V:=by rw[hV];exact(Below.refl _ _).alloc (Nat.le_refl _) _
 have n6:V.heap[w1.heap.size]?=some (.cells #[.bool s1,.slice ao1 n1 cp1,.int .i64 e1] 27 (0,0)):=by rw[hV];exact heap_alloc_new _ _
 have hWV:Bw W V:=hb1.trans (hbV.mono hb1.size)
 obtain⟨x5,x6,x7⟩:=HF.out
 have H1:Hid (NB V w1.heap.size s1 ao1 n1 cp1 e1 (un (sU x) 1074)∧V.heap[w.heap.size]?=some (.cells #[.bool false,.slice none 0 0,.int .i64 0] 27 (0,0))∧V.heap[w.heap.size+1]?=some (.cells #[.bool false,.slice none 0 0,.int .i64 0] 27 (0,0))∧Bw w V∧w.heap.size+1<w1.heap.size):=⟨⟨n6,hA.later hbV⟩,box_later x5 hWV (lt_of_box x5),box_later x6 hWV (lt_of_box x6),x7.trans (hWV.mono x7.size),by have:=lt_of_box x6;have:=hb1.size;omega⟩
 clear x5 x6 x7 hWV n6 hbV hA hb1 HF
 obtain⟨x0,x1,x2⟩:=(cells3N H1.out.1.1).1
 have hd:decide (e1 ≥ 0)=false:=decide_eq_false (by have hEE:e1=(un (sU x) 1074).2.2:=hE;omega)
 go_upto_region 2 with fail
 rw[←hV]
 clear hV
 generalize w1.heap.size=gqT at *
 have hEk:Hid (-1000000 ≤ -e1 ∧ -e1≤1000000):=by show _∧_;have hEE:e1=(un (sU x) 1074).2.2:=hE;have:=un_e (p:=1074) (sU_lt x);unfold bU at this;omega
 go_upto_region 4 with fail
 clear x0 x1 x2 hd
 obtain⟨y1,x5,x6,x7,x8⟩:=H1.out
 have hbx2:∀ i,i<2→∃ cs,V.heap[two (w.heap.size) (w.heap.size+1) i]?=some (.cells cs 27 (0,0))∧NC3 cs:=fun i hi=>by
  rcases lt2F hi with rfl|rfl
  ·exact⟨_,x5,_,_,_,_,_,rfl⟩
  ·exact⟨_,x6,_,_,_,_,_,rfl⟩
 have ne:∀ g,w.heap.size+1<g→∀ i,i<2→g≠two (w.heap.size) (w.heap.size+1) i:=fun g h i hi=>by
  rcases lt2F hi with rfl|rfl
  ·show g≠w.heap.size;omega
  ·show g≠w.heap.size+1;omega
 have zb:=sU_lt x
 have e1b:(1:Int).natAbs<2^1:=by decide
 refine q_region follows_mixed [0,1,2,3,4,5,6,7,8,9] [10,11] [12,13,14,15,16,17,18,19,20,21] [[],[],[1],[2],[0,3],[],[],[6],[7],[5,8]] [[4],[9]] [4,9] (two 2 3) (two (w.heap.size) (w.heap.size+1)) w.heap.size 27 NC3 3 V _ [isV (.agg #[.bool s1,.slice ao1 n1 cp1,.int .i64 e1]),isV (.pointer (some ⟨gqT,2,none⟩)),isV (.int .i64 e1),isV (.int .i64 (-e1)),isD (gK (-e1) (un (sU x) 1074)),isD (un 1 0),isV (.pointer (some ⟨gqT,2,none⟩)),isV (.int .i64 e1),isV (.int .i64 (-e1)),isD (gK (-e1) (un 1 0))] (by kernel_rfl) ⟨isV_stays _,isV_stays _,isV_stays _,isV_stays _,isD_stays _,isD_stays _,isV_stays _,isV_stays _,isV_stays _,isD_stays _,trivial⟩ ⟨isV_rows _ _ _,isV_rows _ _ _,isV_rows _ _ _,isV_rows _ _ _,isD_rows3 _,isD_rows3 _,isV_rows _ _ _,isV_rows _ _ _,isV_rows _ _ _,isD_rows3 _,trivial⟩ (by show ∀ s ∈ [12,13,14,15,16,17,18,19,20,21],s<22;decide) ?_ ?_ Tryz.info27 ?_ ?_ ?_ (two_inj (by omega)) x7.size ?_
 ·intro i hi U u h
  rcases lt2F hi with rfl|rfl
  ·exact DN.cells3 (show DN U u (gK (-e1) (un (sU x) 1074))from h)
  ·exact DN.cells3 (show DN U u (gK (-e1) (un 1 0))from h)
 ·intro j hj o ho act U hK hoth hdep hrd
  have t4:act.tmps[(4:Nat)]?=some (Value.pointer (some ⟨gqT,0,none⟩)):=(hoth 4 (by decide)).trans rfl
  have c4:=(cells3N ((hK.keep gqT (lt_of_box y1.1) (ne gqT (by omega))).trans y1.1)).1
  have hj':j<10:=hj
  rcases(by omega:j=0∨j=1∨j=2∨j=3∨j=4∨j=5∨j=6∨j=7∨j=8∨j=9)with rfl|rfl|rfl|rfl|rfl|rfl|rfl|rfl|rfl|rfl
  ·obtain rfl:=Option.some.inj ho
   exact .inl ⟨rfl,owp_ldD rfl t4 c4.1 c4.2.1 c4.2.2 ⟨_,rfl,rfl,Below.refl _ _⟩⟩
  ·obtain rfl:=Option.some.inj ho
   exact .inl ⟨rfl,owp_fldN2 rfl t4 ⟨_,rfl,rfl,Below.refl _ _⟩⟩
  ·obtain rfl:=Option.some.inj ho
   have y:act.tmps[(13:Nat)]?=_:=dV (hdep 1 (by simp[dL])) rfl
   exact .inl ⟨rfl,owp_ldI rfl y c4.2.2 ⟨_,rfl,rfl,Below.refl _ _⟩⟩
  ·obtain rfl:=Option.some.inj ho
   have y:act.tmps[(14:Nat)]?=_:=dV (hdep 2 (by simp[dL])) rfl
   exact .inl ⟨rfl,owp_negI hEb.out rfl y ⟨_,rfl,rfl,Below.refl _ _⟩⟩
  ·obtain rfl:=Option.some.inj ho
   have y0:act.tmps[(12:Nat)]?=_:=dV (hdep 0 (by simp[dL])) rfl
   have y3:act.tmps[(15:Nat)]?=_:=dV (hdep 3 (by simp[dL])) rfl
   refine .inl ⟨rfl,owp_call rfl (enters Tryz.func49 (by kernel_rfl) (by kernel_rfl)) (map2 y0 y3) ?_⟩
   refine(gscaled (un_gn zb (by unfold bU;omega) (by omega)) (DN.keepN hK hbx2 y1.2) hEk.out).mono ?_
   rintro r w' ⟨A,rfl,hA,hb'⟩
   exact⟨_,rfl,_,rfl,hA,hb'⟩
  ·obtain rfl:=Option.some.inj ho
   refine .inl ⟨rfl,owp_call rfl (enters Tryz.func17 (by kernel_rfl) (by kernel_rfl)) map1c ?_⟩
   refine(dwholeU (n:=1) (by omega) U).mono ?_
   rintro r w' ⟨A,rfl,hA,hb'⟩
   exact⟨_,rfl,_,rfl,hA,hb'⟩
  ·obtain rfl:=Option.some.inj ho
   exact .inl ⟨rfl,owp_fldN2 rfl t4 ⟨_,rfl,rfl,Below.refl _ _⟩⟩
  ·obtain rfl:=Option.some.inj ho
   have y:act.tmps[(18:Nat)]?=_:=dV (hdep 6 (by simp[dL])) rfl
   exact .inl ⟨rfl,owp_ldI rfl y c4.2.2 ⟨_,rfl,rfl,Below.refl _ _⟩⟩
  ·obtain rfl:=Option.some.inj ho
   have y:act.tmps[(19:Nat)]?=_:=dV (hdep 7 (by simp[dL])) rfl
   exact .inl ⟨rfl,owp_negI hEb.out rfl y ⟨_,rfl,rfl,Below.refl _ _⟩⟩
  ·obtain rfl:=Option.some.inj ho
   obtain⟨u5,y5,v5⟩:=dD (s:=17) (hdep 5 (by simp[dL])) rfl
   have y8:act.tmps[(20:Nat)]?=_:=dV (hdep 8 (by simp[dL])) rfl
   refine .inl ⟨rfl,owp_call rfl (enters Tryz.func49 (by kernel_rfl) (by kernel_rfl)) (map2 y5 y8) ?_⟩
   refine(gscaled (un_gn (b:=1) (Z:=1) (by decide) (by omega) (by omega)) v5 hEk.out).mono ?_
   rintro r w' ⟨A,rfl,hA,hb'⟩
   exact⟨_,rfl,_,rfl,hA,hb'⟩
 ·intro i hi
  rcases lt2F hi with rfl|rfl <;> exact⟨_,rfl,rfl⟩
 ·intro i hi
  rcases lt2F hi with rfl|rfl
  ·exact⟨rfl,by decide⟩
  ·exact⟨rfl,by decide⟩
 ·intro i hi
  rcases lt2F hi with rfl|rfl
  ·exact⟨by show w.heap.size≤w.heap.size;omega,_,x5,rfl,_,_,_,_,_,rfl⟩
  ·exact⟨by show w.heap.size≤w.heap.size+1;omega,_,x6,rfl,_,_,_,_,_,rfl⟩
 ·intro u U hK hu hcs
  obtain⟨csb,yb,zb'⟩:=hcs 1 (by decide)
  obtain⟨csa,ya,za⟩:=hcs 0 (by decide)
  have qa:DN U (u 4) (gK (-e1) (un (sU x) 1074)):=hu 4 (by decide)
  have qb:DN U (u 9) (gK (-e1) (un 1 0)):=hu 9 (by decide)
  have ya':u 4=.agg csa:=ya
  have yb':u 9=.agg csb:=yb
  rw[ya'] at qa
  rw[yb'] at qb
  obtain⟨s2,ao2,n2,cp2,e2,h2⟩:=qa.shape
  obtain⟨s3,ao3,n3,cp3,e3,h3⟩:=qb.shape
  obtain rfl:=Value.agg.inj h2
  obtain rfl:=Value.agg.inj h3
  have HX:Hid (U.heap[w.heap.size]?=some (.cells #[.bool s2,.slice ao2 n2 cp2,.int .i64 e2] 27 (0,0))∧U.heap[w.heap.size+1]?=some (.cells #[.bool s3,.slice ao3 n3 cp3,.int .i64 e3] 27 (0,0))∧DN U (.agg #[.bool s2,.slice ao2 n2 cp2,.int .i64 e2]) (gK (-e1) (un (sU x) 1074))∧DN U (.agg #[.bool s3,.slice ao3 n3 cp3,.int .i64 e3]) (gK (-e1) (un 1 0))∧Bw w U):=⟨za,zb',qa,qb,x7.trans hK.below⟩
  clear hu hcs ya yb za zb' ya' yb' h2 h3 qa qb hK x5 x6 x7 y1 hbx2 ne H1
  simp only[putL,show List.range 10 = [0,1,2,3,4,5,6,7,8,9] from rfl,List.length_cons,List.length_nil,List.getD_cons_zero,List.getD_cons_succ,List.map_cons,List.map_nil,List.cons_append,List.nil_append,List.foldl_cons,List.foldl_nil,Nat.reduceLT,Nat.reduceMod,Nat.reduceDiv,Nat.reduceMul,Nat.reduceAdd,Nat.reduceEqDiff,reduceIte,Nat.one_ne_zero,Act.put,List.setIfInBounds_toArray,List.set_cons_zero,List.set_cons_succ]
  go_wp2_with fail
  refine bodyPost_ret (results_c2 rfl _ _ (w.heap.size) (w.heap.size+1) 27 #[.bool s2,.slice ao2 n2 cp2,.int .i64 e2] #[.bool s3,.slice ao3 n3 cp3,.int .i64 e3] (0,0) (0,0) _ rfl rfl HX.out.1 HX.out.2.1 Tryz.underlying27 rfl Tryz.info27 Tryz.info27) rfl ?_
  have hEE:e1=_:=hE
  rw[←hEE]
  exact⟨_,_,_,_,_,_,_,_,_,_,rfl,HX.out.2.2.1,HX.out.2.2.2.1,HX.out.2.2.2.2⟩
end Go.Proofs.YtcdkkpjilgmncaaGreatDoor
