/- Own work: contracts of the program's functions, part 13: PX2 FR8 FRA SNF SNG SNI SNJ SNL SNQ FR9 FRB SNR SNN SNS SNK SNT SNU SNV FRC SNW SNX SNY SNZ SO1 FRD FRE FRF FRG DC5 DC6 DC7 RA3 RA4 RA5 RA6 RA7. -/
import Derived.Test.YtgdhdailchonmabGreatDoorA12
import Derived.Test.YtgdhdailchonmabGreatDoorA10
import Derived.Laws.StructEq
import Derived.Test.YtgdhdailchonmabGreatDoorA7
import Derived.Test.YtgdhdailchonmabGreatDoorA8
import Derived.Test.YtgdhdailchonmabGreatDoorA9
import Derived.Test.YtgdhdailchonmabGreatDoorA6
import Derived.Test.YtgdhdailchonmabGreatDoorA5
import Derived.Test.YtgdhdailchonmabGreatDoorA4

set_option maxHeartbeats 16000000
set_option maxRecDepth 200000
set_option linter.unusedVariables false
set_option linter.unusedSimpArgs false
namespace Go.Proofs.YtgdhdailchonmabGreatDoor
open Go.RowKit
def xall (ops:Array Oper) (PVL PNL PSL BL:List Nat) (vs:List Nat) (k:Nat):Bool :=
 match ops[PNL.getD k 0]?,ops[PSL.getD k 0]? with
 | some o,some p=>o.dst==some (BL.getD k 0)&&o.guard.isNone&&p.dst==none&&p.guard.isNone&&decide (vs.getD k 0<PVL.length)&&vhas p (PNL.getD k 0)&&vhas p (PVL.getD (vs.getD k 0) 0)
 | _,_=>false
def xchk (ops:Array Oper) (PVL PNL PSL SL BL:List Nat) (D:List (List Nat)) (vs:List Nat):Bool :=
 ((List.range ops.size).all fun i=>match ops[i]? with|some o=>o.after.all (fun e => !(Region.binds .any e)||decide (e.on<i))&&(PVL.contains i||PNL.contains i||PSL.contains i)|none=>false)&&(List.range PVL.length).all (qval ops PVL SL D)&&(List.range PNL.length).all (xall ops PVL PNL PSL BL vs)&&decide (PVL++(PNL++PSL)).Nodup&&decide (SL++BL).Nodup&&decide (SL.length=PVL.length∧BL.length=PNL.length∧PSL.length=PNL.length)
theorem x_region {P:Program} {ops:Array Oper} {Q:Exit→Act→World→Prop} {id:Nat} (hm:P.follows .mixedOrders=true) (PVL PNL PSL SL BL:List Nat) (D:List (List Nat)) (vs:List Nat) (T:TypeId) (zs:Array Value)
  (W0:World) (a0:Act) (L:List (World→Value→Prop)) (hchk:xchk ops PVL PNL PSL SL BL D vs=true)
  (hV1:StaysAll L) (hV2:ZRowsAll T zs L) (hsl:∀ s ∈ SL++BL,s<a0.tmps.size)
  (hVs:∀ k,k<PNL.length→∀ w u,vL L (vs.getD k 0) w u→∃ cs:Array Value,u=.agg cs∧cs.size=zs.size∧cs.all (·.oneCell')=true)
  (hA:∀ j,j<PVL.length→∀ o,ops[PVL.getD j 0]?=some o→∀ (a:Act) (w:World),Bw W0 w→(∀ s:Nat,(SL++BL).contains s=false→a.tmps[s]?=a0.tmps[s]?) →
   (∀ j' ∈ dL D j,∃ u,a.tmps[SL.getD j' 0]?=some u∧vL L j' w u) →
   (o.guard=none∧o.wp P a w (fun a' w'=>∃ u,a'=a.put o.dst u∧vL L j w' u∧Bw w w') Q)∨wpOp P ops Q (PVL.getD j 0) (fun a' w'=>∃ u,a'=a.put o.dst u∧vL L j w' u∧Bw w w') a w)
  (hal:∀ k,k<PNL.length→∃ o,ops[PNL.getD k 0]?=some o∧o.op=.alloc T)
  (hz:∀ w,(zeroValue T).run P w=.ok (.agg zs) w) (hi:(P.info? T).map (·.size)=some zs.size)
  (hst:∀ k,k<PNL.length→∃ o,ops[PSL.getD k 0]?=some o∧o.op=.store T (.tmp (BL.getD k 0)) (.tmp (SL.getD (vs.getD k 0) 0)))
  (hQ:∀ (u:Nat→Value) (g:Nat→Nat) (w:World),Bw W0 w→(∀ j,j<PVL.length→vL L j w (u j)) →
   (∀ k,k<PNL.length→W0.heap.size≤g k∧∃ cs,u (vs.getD k 0)=.agg cs∧w.heap[g k]?=some (.cells cs T (0,0)))→(∀ k k',k<PNL.length→k'<PNL.length→k≠k'→g k≠g k') →
   Q .normal (putL a0 ((List.range PVL.length).map (fun j=>(SL.getD j 0,u j))++(List.range PNL.length).map (fun k=>(BL.getD k 0,.pointer (some ⟨g k,0,none⟩))))) w) :
  (Code.region id ops true).wp P Q a0 W0:=by
 unfold xchk at hchk
 simp only[Bool.and_eq_true,decide_eq_true_eq] at hchk
 obtain⟨⟨⟨⟨⟨h1,h2⟩,h3⟩,h4⟩,h5⟩,h6,h7,h8⟩:=hchk
 obtain⟨n1,n23,n4⟩:=List.nodup_append.1 h4
 obtain⟨n2,n3,n5⟩:=List.nodup_append.1 n23
 obtain⟨s1,s2,s3⟩:=List.nodup_append.1 h5
 have row:∀ {i o},ops[i]?=some o→(∀ e ∈ o.after,Region.binds .any e=true→e.on<i)∧(i ∈ PVL∨i ∈ PNL∨i ∈ PSL):=fun {i o} ho=>by
  have:=List.all_eq_true.1 h1 i (List.mem_range.2 (Array.getElem?_eq_some_iff.1 ho).1)
  simp only[ho] at this
  rw[Bool.and_eq_true,Bool.or_eq_true,Bool.or_eq_true] at this
  refine⟨fun e he hb=>?_,?_⟩
  ·have h9:=Array.all_eq_true_iff_forall_mem.1 this.1 e he
   rw[hb] at h9
   exact of_decide_eq_true (by simpa using h9)
  ·rcases this.2 with (h|h)|h
   ·exact .inl (by simpa using h)
   ·exact .inr (.inl (by simpa using h))
   ·exact .inr (.inr (by simpa using h))
 have val:∀ j,j<PVL.length→∃ o,ops[PVL.getD j 0]?=some o∧o.dst=some (SL.getD j 0)∧∀ j' ∈ dL D j,j'<PVL.length∧∃ e ∈ o.after,e.on=PVL.getD j' 0∧Region.binds .any e=true:=fun j hj=>by
  have:=List.all_eq_true.1 h2 j (List.mem_range.2 hj)
  unfold qval at this
  cases ho:ops[PVL.getD j 0]? with
  | none=>rw[ho] at this;cases this
  | some o =>
   rw[ho] at this
   simp only[Bool.and_eq_true] at this
   refine⟨o,rfl,by simpa using this.1,fun j' hj'=>?_⟩
   have:=List.all_eq_true.1 this.2 j' hj'
   rw[Bool.and_eq_true] at this
   exact⟨of_decide_eq_true this.1,vhas_ex this.2⟩
 have sto:∀ k,k<PNL.length→∃ o p,ops[PNL.getD k 0]?=some o∧ops[PSL.getD k 0]?=some p∧o.dst=some (BL.getD k 0)∧o.guard=none∧p.dst=none∧p.guard=none∧vs.getD k 0<PVL.length∧(∃ e ∈ p.after,e.on=PNL.getD k 0∧Region.binds .any e=true)∧∃ e ∈ p.after,e.on=PVL.getD (vs.getD k 0) 0∧Region.binds .any e=true:=fun k hk=>by
  have:=List.all_eq_true.1 h3 k (List.mem_range.2 hk)
  unfold xall at this
  cases ho:ops[PNL.getD k 0]? with
  | none=>rw[ho] at this;cases this
  | some o =>
   cases hp:ops[PSL.getD k 0]? with
   | none=>rw[ho,hp] at this;cases this
   | some p =>
    rw[ho,hp] at this
    simp only[Bool.and_eq_true] at this
    obtain⟨⟨⟨⟨⟨⟨x1,x2⟩,x3⟩,x4⟩,x5⟩,x6⟩,x7⟩:=this
    exact⟨o,p,rfl,rfl,by simpa using x1,Option.isNone_iff_eq_none.1 x2,by simpa using x3,Option.isNone_iff_eq_none.1 x4,of_decide_eq_true x5,vhas_ex x6,vhas_ex x7⟩
 have hoth:∀ {s:Nat},(SL++BL).contains s=false→(∀ j,j<PVL.length→s≠SL.getD j 0)∧∀ k,k<PNL.length→s≠BL.getD k 0:=fun {s} h=>by
  have hn:s ∉ SL++BL:=fun hh=>by
   have:(SL++BL).contains s=true:=by simpa using hh
   rw[h] at this;cases this
  refine⟨fun j hj e=>hn ?_,fun k hk e=>hn ?_⟩
  ·rw[e];exact List.mem_append_left _ (getD_mem (by omega))
  ·rw[e];exact List.mem_append_right _ (getD_mem (by omega))
 refine parx_region hm (fun j=>PVL.getD j 0) (fun k=>PNL.getD k 0) (fun k=>PSL.getD k 0) PVL.length PNL.length (fun j=>SL.getD j 0) (fun k=>BL.getD k 0) (fun k=>vs.getD k 0) (dL D) T zs W0 a0 (vL L) ?_ ?_ ?_ ?_ (fun j j' hj hj' e=>getD_inj n1 hj hj' e) (fun k k' hk hk' e=>getD_inj n2 hk hk' e) (fun k k' hk hk' e=>getD_inj n3 (by omega) (by omega) e) ?_ ?_ ?_ (fun i o ho=>(row ho).1) (fun j w w' u hb h=>vL_stays hV1 j w w' u hb h) (fun j w u g cs' y1 h=>vL_zrows hV2 j w u g cs' y1 h) hVs ?_ ?_ ?_ hz hi ?_ (fun j hj=>hsl _ (List.mem_append_left _ (getD_mem (by omega)))) (fun k hk=>hsl _ (List.mem_append_right _ (getD_mem (by omega)))) (fun j j' hj hj' e=>getD_inj s1 (by omega) (by omega) e) (fun j j' hj hj' e=>getD_inj s2 (by omega) (by omega) e) ?_ ?_
 ·intro i hi'
  have ho:ops[i]?=some ops[i]:=Array.getElem?_eq_getElem hi'
  rcases(row ho).2 with h|h|h
  ·exact .inl (mem_getD h)
  ·exact .inr (.inl (mem_getD h))
  ·obtain⟨k,x1,x2⟩:=mem_getD h
   exact .inr (.inr ⟨k,by omega,x2⟩)
 ·intro j hj
  obtain⟨o,ho,-⟩:=val j hj
  exact(Array.getElem?_eq_some_iff.1 ho).1
 ·intro k hk
  obtain⟨o,p,ho,hp,-⟩:=sto k hk
  exact(Array.getElem?_eq_some_iff.1 ho).1
 ·intro k hk
  obtain⟨o,p,ho,hp,-⟩:=sto k hk
  exact(Array.getElem?_eq_some_iff.1 hp).1
 ·intro j k hj hk
  exact n4 _ (getD_mem hj) _ (List.mem_append_left _ (getD_mem hk))
 ·intro j k hj hk
  exact n4 _ (getD_mem hj) _ (List.mem_append_right _ (getD_mem (by omega)))
 ·intro k k' hk hk'
  exact n5 _ (getD_mem hk) _ (getD_mem (by omega))
 ·intro j hj j' hj'
  obtain⟨o,ho,-,hd⟩:=val j hj
  obtain⟨x1,x2⟩:=hd j' hj'
  refine⟨x1,fun o' ho'=>?_⟩
  obtain rfl:o=o':=Option.some.inj (ho.symm.trans ho')
  exact x2
 ·intro j hj a w hk ho1 hd
  obtain⟨o,ho,hds,-⟩:=val j hj
  have h7:=hA j hj o ho a w hk (fun s hs=>ho1 s (hoth hs).1 (hoth hs).2) hd
  rw[hds] at h7
  rcases h7 with ⟨hg,h7⟩|h7
  ·exact step_wanted ho hg h7
  ·exact h7
 ·intro k hk
  obtain⟨o,p,ho,hp,x1,x2,-⟩:=sto k hk
  obtain⟨o',ho',hop⟩:=hal k hk
  obtain rfl:o=o':=Option.some.inj (ho.symm.trans ho')
  exact⟨o,ho,x2,hop,x1⟩
 ·intro k hk
  obtain⟨o,p,ho,hp,x1,x2,x3,x4,x5,x6,x7⟩:=sto k hk
  obtain⟨p',hp',hop⟩:=hst k hk
  obtain rfl:p=p':=Option.some.inj (hp.symm.trans hp')
  exact⟨x5,p,hp,x4,hop,x3,x6,x7⟩
 ·intro j k hj hk
  exact s3 _ (getD_mem (by omega)) _ (getD_mem (by omega))
 ·intro u g a w hb hu hg hap hs hd ho1
  have q1:((List.range PVL.length).map (fun j=>((SL.getD j 0,u j):Tmp×Value))++(List.range PNL.length).map (fun k=>((BL.getD k 0,Value.pointer (some ⟨g k,0,none⟩)):Tmp×Value))).map (fun p:Tmp×Value=>p.1)=(List.range PVL.length).map (fun j=>SL.getD j 0)++(List.range PNL.length).map (fun k=>BL.getD k 0):=by simp[Function.comp_def]
  have ha:=act_putL (a:=a) (a0:=a0) (l:=(List.range PVL.length).map (fun j=>((SL.getD j 0,u j):Tmp×Value))++(List.range PNL.length).map (fun k=>((BL.getD k 0,Value.pointer (some ⟨g k,0,none⟩)):Tmp×Value))) (by
    rw[q1,List.nodup_append]
    refine⟨?_,?_,?_⟩
    ·refine List.pairwise_map.2 ((List.nodup_range (n:=PVL.length)).imp_of_mem ?_)
     intro x y hx hy hne he
     have:=List.mem_range.1 hx
     have:=List.mem_range.1 hy
     exact hne (getD_inj s1 (by omega) (by omega) he)
    ·refine List.pairwise_map.2 ((List.nodup_range (n:=PNL.length)).imp_of_mem ?_)
     intro x y hx hy hne he
     have:=List.mem_range.1 hx
     have:=List.mem_range.1 hy
     exact hne (getD_inj s2 (by omega) (by omega) he)
    ·intro x hx y hy
     obtain⟨i,hi1,rfl⟩:=List.mem_map.1 hx
     obtain⟨k,hk1,rfl⟩:=List.mem_map.1 hy
     have:=List.mem_range.1 hi1
     have:=List.mem_range.1 hk1
     exact s3 _ (getD_mem (by omega)) _ (getD_mem (by omega))) hs hd (by
    intro p hp
    rcases List.mem_append.1 hp with hp|hp
    ·obtain⟨i,hi1,rfl⟩:=List.mem_map.1 hp
     exact(hu i (List.mem_range.1 hi1)).1
    ·obtain⟨k,hk1,rfl⟩:=List.mem_map.1 hp
     exact(hg k (List.mem_range.1 hk1)).1) (fun s hsn=>ho1 s (fun i hi1 he=>hsn (List.mem_map.2 ⟨_,List.mem_append_left _ (List.mem_map.2 ⟨i,List.mem_range.2 hi1,rfl⟩),he.symm⟩)) (fun k hk1 he=>hsn (List.mem_map.2 ⟨_,List.mem_append_right _ (List.mem_map.2 ⟨k,List.mem_range.2 hk1,rfl⟩),he.symm⟩)))
  rw[ha]
  exact hQ u g w hb (fun j hj=>(hu j hj).2) (fun k hk=>(hg k hk).2) hap
end Go.Proofs.YtgdhdailchonmabGreatDoor
namespace Go.Proofs.YtgdhdailchonmabGreatDoor
open Go.RowKit Go.Fl64
def NC3 (cs:Array Value):Prop:=∃ (s1:Bool) (ao1:Option Addr) (n1 cp1:Nat) (e1:Int),cs = #[.bool s1,.slice ao1 n1 cp1,.int .i64 e1]
theorem PN.row3 {W:World} {A:Value} {t:Bool×Nat×Int} {g:Nat} {T:TypeId} {cs:Array Value} (h:PN W A t) (hE:W.heap[g]?=some (.cells cs T (0,0))) (hC:NC3 cs) (cs':Array Value):PN (W.setRow g cs') A t:=by
 obtain⟨_,_,_,_,_,rfl⟩:=hC
 exact h.cells (s2:=false) (a2:=none) (m2:=0) (c2:=0) (e2:=0) (.inl hE) fun b hb=>setRow_other W g b cs' hb
def isT2 (T:Bool×Nat×Int):World→Value→Prop:=fun w u=>∃ s ao n cap e,u=.tuple #[.agg #[.bool s,.slice ao n cap,.int .i64 e],.int .i64 0]∧PN w (.agg #[.bool s,.slice ao n cap,.int .i64 e]) T
theorem isT2_stays (T:Bool×Nat×Int):Stays (isT2 T):=fun _ _ _ hb ⟨s,ao,n,cap,e,h1,h2⟩=>⟨s,ao,n,cap,e,h1,h2.later hb⟩
attribute [local go_sem] run_store_flt
attribute [local go_sem] run_store_flt
attribute [local go_sem] run_store_flt
attribute [local go_sem] run_store_flt
attribute [local go_sem] run_store_flt
attribute [local go_sem] run_store_flt
attribute [local go_sem] run_store_flt
attribute [local go_sem] run_store_flt
attribute [local go_sem] run_store_flt
attribute [local go_sem] run_store_flt
def sU (a:Nat):Int:=if neg a then -((fU a:Nat):Int) else((fU a:Nat):Int)
theorem tF_sU (a:Nat):tF a=un (sU a) 1074:=by
 have hl:=(Ie.lp_bound a).1
 unfold tF
 refine un_eq (K:=1074) (Nat.le_refl _) (by omega) ?_
 unfold sU vz sv fU
 rw[Nat.sub_self,Nat.pow_zero,Int.natCast_mul]
 cases neg a
 ·simp
 ·simp[Int.neg_mul]
def bU:Nat:=2200
theorem fU_lt (a:Nat):fU a<2^bU:=by
 unfold fU
 have h1:=Ie.mant_bound a
 have h2:=(Ie.lp_bound a).2
 obtain⟨e,he⟩:∃ e,e=(Ie.lp a+1074).toNat:=⟨_,rfl⟩
 rw[←he]
 have h3:Ie.mant a<2^53:=by omega
 have h4:Ie.mant a*2^e<2^53*2^e:=Nat.mul_lt_mul_of_pos_right h3 (Nat.two_pow_pos _)
 rw[←Nat.pow_add] at h4
 exact Nat.lt_of_lt_of_le h4 (Nat.pow_le_pow_right (by decide) (by unfold bU;omega))
theorem sU_lt (a:Nat):(sU a).natAbs<2^bU:=by
 have:=fU_lt a
 unfold sU
 split
 ·rw[Int.natAbs_neg,Int.natAbs_natCast];exact this
 ·rw[Int.natAbs_natCast];exact this
def pU (n:Nat):Nat:=2^n
attribute [local go_sem] run_store_flt
attribute [local go_sem] run_store_flt
attribute [local go_sem] run_store_flt
attribute [local go_sem] run_store_flt
attribute [local go_sem] run_store_flt
theorem sU_pos {a:Nat} (h:neg a=false):sU a=(fU a:Int):=by unfold sU;rw[h];rfl
theorem fU_ngt {a:Nat} (h:a<18446744073709551616):fU (ngt a)=fU a:=by unfold fU Ie.mant Ie.lp;rw[ngt_mag h]
theorem dfloatU {a:Nat} (ha:a<18446744073709551616) (w:World):Calls Tryz.prog 6 #[.float .f64 a] w fun r w'=>∃ A,r=.returned A∧DN w' A (un (sU a) 1074)∧Bw w w':=by
 have h:=float_dn a ha w
 rw[tF_sU] at h
 exact h
theorem dorderU {x y:Int} {k l p:Nat} {X Y:Value} {w:World} (hx:x.natAbs<2^k) (hy:y.natAbs<2^l) (hk:k≤90000) (hl:l≤90000) (hp:p≤90000) (h1:DN w X (un x p)) (h2:DN w Y (un y p)):Calls Tryz.prog 11 #[X,Y] w fun r w'=>r=.returned (.int .i64 (cmpI x y))∧Bw w w':=by
 have h:=gorder (un_gn hx hk hp) (un_gn hy hl hp) h1 h2
 rw[ord_un] at h
 exact h
theorem dV {a:Act} {s:Tmp} {L:List (World→Value→Prop)} {j:Nat} {w:World} {x:Value} (h:∃ u,a.tmps[s]?=some u∧vL L j w u) (e:vL L j=isV x):a.tmps[s]?=some x:=by
 obtain⟨u,h1,h2⟩:=h
 rw[e] at h2
 obtain rfl:u=x:=h2
 exact h1
theorem owp_ldP {Q:Exit→Act→World→Prop} {o:Oper} {K:Act→World→Prop} {a:Act} {w:World} {s:Tmp} {g f:Nat} {sx:Bool} {aox:Option Addr} {nx cpx:Nat} {ex:Int} (hop:o.op=.load 47 (.tmp s)) (hs:a.tmps[s]?=some (.pointer (some ⟨g,f,none⟩))) (h0:w.cell? ⟨g,f,none⟩=some (.bool sx)) (h1:w.cell? ⟨g,f+1,none⟩=some (.slice aox nx cpx)) (h2:w.cell? ⟨g,f+2,none⟩=some (.int .i64 ex)) (h:K (a.put o.dst (.agg #[.bool sx,.slice aox nx cpx,.int .i64 ex])) w):o.wp Tryz.prog a w K Q :=
 owp_run1 (w':=w) (by simp[execOp,hop,eval_get hs,run_ldN _ f _ _ _ _ _ w h0 h1 h2]) h
theorem owp_extS {P:Program} {Q:Exit→Act→World→Prop} {o:Oper} {K:Act→World→Prop} {a:Act} {w:World} {s:Tmp} {i:Nat} {vs:Array Value} {v:Value} (hop:o.op=.extract (.tmp s) i) (hs:a.tmps[s]?=some (.tuple vs)) (hv:vs[i]?=some v) (h:K (a.put o.dst v) w):o.wp P a w K Q :=
 owp_run1 (w':=w) (by simp[execOp,hop,eval_get hs,hv,Instr.extract]) h
theorem isP_rows8 (t:Bool×Nat×Int):∀ w u g cs',w.heap[g]?=some (.cells #[.bool false,.slice none 0 0,.int .i64 0] 47 (0,0))→isP t w u→isP t (w.setRow g cs') u:=fun w u g cs' hg h2=>PN.row3 h2 hg ⟨_,_,_,_,_,rfl⟩ cs'
theorem run_ldC4 (g:Nat) (s:Bool) (ao:Option Addr) (n cp:Nat) (e:Int) (b:Bool) (w:World) (h0:w.cell? ⟨g,0,none⟩=some (.bool s)) (h1:w.cell? ⟨g,1,none⟩=some (.slice ao n cp)) (h2:w.cell? ⟨g,2,none⟩=some (.int .i64 e)) (h3:w.cell? ⟨g,3,none⟩=some (.bool b)):(Instr.loadAt 72 (.pointer (some ⟨g,0,none⟩))).run Tryz.prog w=.ok (.agg #[.bool s,.slice ao n cp,.int .i64 e,.bool b]) w :=
 run_loadAt_mid w g 0 72 [.bool s,.slice ao n cp,.int .i64 e,.bool b] _ (fun j v hv=>by
  match j with
  | 0=>simp at hv;subst hv;exact h0
  | 1=>simp at hv;subst hv;exact h1
  | 2=>simp at hv;subst hv;exact h2
  | 3=>simp at hv;subst hv;exact h3
  | k+4=>simp at hv) Tryz.underlying72 rfl (by kernel_rfl)
theorem owp_ldC4 {Q:Exit→Act→World→Prop} {o:Oper} {K:Act→World→Prop} {a:Act} {w:World} {s:Tmp} {g:Nat} {s':Bool} {ao:Option Addr} {n cp:Nat} {e:Int} {b:Bool} (hop:o.op=.load 72 (.tmp s)) (hs:a.tmps[s]?=some (.pointer (some ⟨g,0,none⟩))) (h0:w.cell? ⟨g,0,none⟩=some (.bool s')) (h1:w.cell? ⟨g,1,none⟩=some (.slice ao n cp)) (h2:w.cell? ⟨g,2,none⟩=some (.int .i64 e)) (h3:w.cell? ⟨g,3,none⟩=some (.bool b)) (h:K (a.put o.dst (.agg #[.bool s',.slice ao n cp,.int .i64 e,.bool b])) w):o.wp Tryz.prog a w K Q :=
 owp_run1 (w':=w) (by simp[execOp,hop,eval_get hs,run_ldC4 g s' ao n cp e b w h0 h1 h2 h3]) h
theorem oheap_other3 {W:World} {g k:Nat} {o:Obj} (h:W.heap[k]?=some o) (hk:k≠g) (x y v:Value):(((W.setCell ⟨g,0,none⟩ x).setCell ⟨g,1,none⟩ y).setCell ⟨g,2,none⟩ v).heap[k]?=some o:=by
 have h':¬ g=k:=fun e=>hk e.symm
 simp[World.setCell,Array.getElem?_modify,h',h]
def PC7 (cs:Array Value):Prop:=∃ (s1:Bool) (a1:Option Addr) (n1 c1:Nat) (e1:Int) (s2:Bool) (a2:Option Addr) (n2 c2:Nat) (e2:Int) (f:Nat),cs = #[.bool s1,.slice a1 n1 c1,.int .i64 e1,.bool s2,.slice a2 n2 c2,.int .i64 e2,.float .f64 f]
theorem pn_row7 {w:World} {A:Value} {t:Bool×Nat×Int} {g:Nat} {T:TypeId} {cs:Array Value} (h:PN w A t) (hg:w.heap[g]?=some (.cells cs T (0,0))) (hc:PC7 cs) (cs':Array Value):PN (w.setRow g cs') A t:=by
 obtain⟨s1,a1,n1,c1,e1,s2,a2,n2,c2,e2,f,rfl⟩:=hc
 refine opn_far (g:=g) h (fun i k=>by rcases i with _|_|_|_|_|_|_|i <;> simp[World.cell?,hg]) (fun q hq=>?_)
 simp only[World.cell?,setRow_other w g q.block cs' hq]
theorem isP_rows7 (t:Bool×Nat×Int):∀ w u g cs cs',w.heap[g]?=some (.cells cs 49 (0,0))→PC7 cs→isP t w u→isP t (w.setRow g cs') u:=fun w u g cs cs' h hC h2=>pn_row7 h2 h hC cs'
def isPr (t t':Bool×Nat×Int) (f:Nat):World→Value→Prop:=fun w u=>∃ (s1:Bool) (a1:Option Addr) (n1 c1:Nat) (e1:Int) (s2:Bool) (a2:Option Addr) (n2 c2:Nat) (e2:Int),u=.agg #[.bool s1,.slice a1 n1 c1,.int .i64 e1,.bool s2,.slice a2 n2 c2,.int .i64 e2,.float .f64 f]∧PN w (.agg #[.bool s1,.slice a1 n1 c1,.int .i64 e1]) t∧PN w (.agg #[.bool s2,.slice a2 n2 c2,.int .i64 e2]) t'
theorem isPr_stays (t t':Bool×Nat×Int) (f:Nat):Stays (isPr t t' f):=fun _ _ _ hb ⟨_,_,_,_,_,_,_,_,_,_,h1,h2,h3⟩=>⟨_,_,_,_,_,_,_,_,_,_,h1,h2.later hb,h3.later hb⟩
theorem isPr_rows (t t':Bool×Nat×Int) (f:Nat):∀ w u g cs cs',w.heap[g]?=some (.cells cs 49 (0,0))→PC7 cs→isPr t t' f w u→isPr t t' f (w.setRow g cs') u:=fun w u g cs cs' h hC ⟨_,_,_,_,_,_,_,_,_,_,h1,h2,h3⟩=>⟨_,_,_,_,_,_,_,_,_,_,h1,pn_row7 h2 h hC cs',pn_row7 h3 h hC cs'⟩
theorem pn_keep7 {W0 V:World} {B:Nat} {A:Value} {t:Bool×Nat×Int} {g:Nat} {T:TypeId} {cs:Array Value} (h:PN W0 A t) (hK:KeepB 1 (fun _=>g) B W0 V) (hg:W0.heap[g]?=some (.cells cs T (0,0))) (hc:PC7 cs:=by exact⟨_,_,_,_,_,_,_,_,_,_,_,rfl⟩):PN V A t:=by
 obtain⟨s1,a1,n1,c1,e1,s2,a2,n2,c2,e2,f,rfl⟩:=hc
 obtain⟨ao,cap,h1,ao',cap',e',h2,h3,bb,o,g1,g2⟩:=h
 refine⟨ao,cap,h1,ao',cap',e',h2,h3,bb,o,g1,fun i hi=>?_⟩
 have c:=g2 i hi
 have hlt:bb<W0.heap.size:=World.block_lt_of_cell? _ _ c
 by_cases hb:bb=g
 ·subst hb
  exfalso
  simp only[World.cell?,hg] at c
  generalize o+i=j at c
  rcases j with _|_|_|_|_|_|_|j <;> simp at c
 ·have:=hK.keep bb hlt (fun k _=>hb)
  simp only[World.cell?,this] at c ⊢
  exact c
theorem OpartsOf_1 (x y:Nat) (al bl:Bool) (tx ty ts ta tm ti tn te tr:Bool×Nat×Int) (cl:Int) (w:World)
  (kX:Hid (∀ W,Bw w W→Calls Tryz.prog 46 #[.float .f64 x] W fun r w'=>OutA W tx r w'))
  (kY:Hid (∀ W,Bw w W→Calls Tryz.prog 46 #[.float .f64 y] W fun r w'=>OutA W ty r w'))
  (kA:Hid (∀ W X Y,Bw w W→PN W X tx→PN W Y ty→Calls Tryz.prog 45 #[X,Y] W fun r w'=>OutA W ts r w'))
  (kR:Hid (∀ W X,Bw w W→PN W X ts→Calls Tryz.prog 44 #[X,.int .i64 2149] W fun r w'=>OutCt W ta al r w'))
  (hx:x<18446744073709551616)
  (kE1:Hid (∀ W,Bw w W→Calls Tryz.prog 48 #[.float .f64 (ngt x)] W fun r w'=>OutA W tm r w'))
  (kH1:Hid (∀ W (s:Bool) (ao:Option Addr) (n c:Nat) (e:Int) X,Bw w W→PN W (.agg #[.bool s,.slice ao n c,.int .i64 e]) ta→PN W X tm→Calls Tryz.prog 47 #[.agg #[.bool s,.slice ao n c,.int .i64 e,.bool al],X] W fun r w'=>OutA W ti r w'))
  (kC:Hid (∀ W,Calls Tryz.prog 49 #[.float .f64 y] W fun r w'=>r=.returned (.tuple #[.int .i64 cl,.bool bl])∧w'=W))
  (kN:Hid (bl=true→∀ W X,Bw w W→PN W X ti→Calls Tryz.prog 50 #[X] W fun r w'=>OutP W tn r w'))
  (kE2:Hid (∀ W,Bw w W→Calls Tryz.prog 48 #[.float .f64 x] W fun r w'=>OutA W te r w'))
  (kH2:Hid (∀ W (s:Bool) (ao:Option Addr) (n c:Nat) (e:Int) X,Bw w W→PN W (.agg #[.bool s,.slice ao n c,.int .i64 e]) ta→PN W X te→Calls Tryz.prog 47 #[.agg #[.bool s,.slice ao n c,.int .i64 e,.bool al],X] W fun r w'=>OutA W tr r w')) :
  Calls Tryz.prog 19 #[.complex .f64 x y] w fun r w'=>∃ u,r=.returned u∧isPr tr (if bl then tn else ti) y w' u∧Bw w w':=by
 have hn:∀ w,(Op.unary UnOp.neg (.float .f64 x)).run Tryz.prog w=.ok (.float .f64 (ngt x)) w:=fun w=>by rw[←negF x hx];rfl
 obtain⟨W,hW⟩:∃ W,W=w.alloc (.cells #[.bool false,.slice none 0 0,.int .i64 0,.bool false,.slice none 0 0,.int .i64 0,.float .f64 0] 49):=⟨_,rfl⟩
 have HX:Hid (Bw w W∧W.heap[w.heap.size]?=some (.cells #[.bool false,.slice none 0 0,.int .i64 0,.bool false,.slice none 0 0,.int .i64 0,.float .f64 0] 49 (0,0))):=⟨by rw[hW];exact(Below.refl _ _).alloc (Nat.le_refl _) _,by rw[hW];exact heap_alloc_new _ _⟩
 go_enter Tryz.func19,Tryz.ntmps19
 go_upto_region 1 with fail
 rw[←hW]
 clear hW
 go_wp2_with fail
 refine(kX.out W HX.out.1).mono ?_
 rintro r v1 ⟨s1,ao1,n1,cap1,ex1,rfl,hA,hb1⟩
 have HA:Hid (PN v1 (.agg #[.bool s1,.slice ao1 n1 cap1,.int .i64 ex1]) tx∧Bw W v1):=⟨hA,hb1⟩
 clear hA hb1 kX
 go_wp2_with fail
 refine(kY.out v1 (HX.out.1.trans (HA.out.2.mono HX.out.1.size))).mono ?_
 rintro r v2 ⟨s2,ao2,n2,cap2,ex2,rfl,hA,hb0⟩
 have HB:Hid (PN v2 (.agg #[.bool s1,.slice ao1 n1 cap1,.int .i64 ex1]) tx∧PN v2 (.agg #[.bool s2,.slice ao2 n2 cap2,.int .i64 ex2]) ty∧Bw W v2):=⟨HA.out.1.later hb0,hA,HA.out.2.trans (hb0.mono HA.out.2.size)⟩
 clear hA hb0 kY HA
 have kk:=kA.out v2 _ _ (HX.out.1.trans (HB.out.2.2.mono HX.out.1.size)) HB.out.1 HB.out.2.1
 go_wp2_with fail
 refine kk.mono ?_
 rintro r v3 ⟨s3,ao3,n3,cap3,ex3,rfl,hA,hb0⟩
 have HC:Hid (PN v3 (.agg #[.bool s3,.slice ao3 n3 cap3,.int .i64 ex3]) ts∧Bw W v3):=⟨hA,HB.out.2.2.trans (hb0.mono HB.out.2.2.size)⟩
 clear hA hb0 kk HB kA
 have kk:=kR.out v3 _ (HX.out.1.trans (HC.out.2.mono HX.out.1.size)) HC.out.1
 go_wp2_with fail
 refine kk.mono ?_
 rintro r v4 ⟨s4,ao4,n4,cap4,ex4,rfl,hA,hb0⟩
 have hb1:=HC.out.2.trans (hb0.mono HC.out.2.size)
 obtain⟨W1,hW1⟩:∃ W1,W1=v4.alloc (.cells #[.bool s4,.slice ao4 n4 cap4,.int .i64 ex4,.bool al] 72):=⟨_,rfl⟩
 have hb2:Bw W W1:=by rw[hW1];exact hb1.alloc hb1.size _
 obtain⟨g4,hg4⟩:∃ g,g=v4.heap.size:=⟨_,rfl⟩
 have HD:Hid (PN W1 (.agg #[.bool s4,.slice ao4 n4 cap4,.int .i64 ex4]) ta∧Bw w W1∧W1.heap[g4]?=some (.cells #[.bool s4,.slice ao4 n4 cap4,.int .i64 ex4,.bool al] 72 (0,0))∧W1.heap[w.heap.size]?=some (.cells #[.bool false,.slice none 0 0,.int .i64 0,.bool false,.slice none 0 0,.int .i64 0,.float .f64 0] 49 (0,0))∧w.heap.size<g4) :=
  ⟨by rw[hW1];exact hA.later ((Below.refl _ _).alloc (Nat.le_refl _) _),HX.out.1.trans (hb2.mono HX.out.1.size),by rw[hW1,hg4];exact heap_alloc_new _ _,(hb2.block _ (Array.getElem?_eq_some_iff.1 HX.out.2).1).trans HX.out.2,by rw[hg4];exact Nat.lt_of_lt_of_le (Array.getElem?_eq_some_iff.1 HX.out.2).1 hb1.size⟩
 clear kk hA hb0 hb1 hb2 HC kR HX
 go_upto_region 3 with fail
 rw[←hW1,←hg4]
 clear hW1 hg4
 obtain⟨⟨a0,a1,a2,a3⟩,-⟩:=obox4 HD.out.2.2.1
 refine x_region follows_mixed [0,1,2,3,4] [5] [6] [19,20,21,22,23] [6] [[],[],[1],[2],[0,3]] [4] 47 #[.bool false,.slice none 0 0,.int .i64 0] W1 _ [isV (.agg #[.bool s4,.slice ao4 n4 cap4,.int .i64 ex4,.bool al]),isV (.float .f64 x),isV (.float .f64 (ngt x)),isP (tm),isP (ti)] (by kernel_rfl) ⟨isV_stays _,isV_stays _,isV_stays _,isP_stays _,isP_stays _,trivial⟩ ⟨fun _ _ _ _ _ h=>h,fun _ _ _ _ _ h=>h,fun _ _ _ _ _ h=>h,isP_rows8 _,isP_rows8 _,trivial⟩ (by show ∀ s ∈ [19,20,21,22,23] ++ [6],s<39;decide) ?_ ?_ ?_ (fun _=>by kernel_rfl) Tryz.info47 ?_ ?_
 ·intro k' hk U u h
  obtain rfl:k'=0:=Nat.lt_one_iff.1 hk
  obtain⟨s9,ao9,n9,cp9,e9,rfl⟩:=PN.shape (show PN U u _ from h)
  exact⟨_,rfl,rfl,one3 rfl rfl⟩
 ·intro j hj o ho act U hb hoth hdep
  have hj':j<5:=hj
  have t5':act.tmps[(5:Nat)]?=some (Value.pointer (some ⟨g4,0,none⟩)):=(hoth 5 (by decide)).trans rfl
  have t3':act.tmps[(3:Nat)]?=some (Value.float .f64 x):=(hoth 3 (by decide)).trans rfl
  have a4:=(obox4 ((hb.block _ (Array.getElem?_eq_some_iff.1 HD.out.2.2.1).1).trans HD.out.2.2.1)).1
  rcases(by omega:j=0∨j=1∨j=2∨j=3∨j=4)with rfl|rfl|rfl|rfl|rfl
  ·obtain rfl:=Option.some.inj ho
   exact .inl ⟨rfl,owp_ldC4 rfl t5' a4.1 a4.2.1 a4.2.2.1 a4.2.2.2 ⟨_,rfl,rfl,Below.refl _ _⟩⟩
  ·obtain rfl:=Option.some.inj ho
   exact .inl ⟨rfl,owp_move rfl t3' ⟨_,rfl,rfl,Below.refl _ _⟩⟩
  ·obtain rfl:=Option.some.inj ho
   have y1:act.tmps[(20:Nat)]?=_:=dV (hdep 1 (by simp[dL])) rfl
   exact .inl ⟨rfl,owp_run1 (w':=U) (by simp[execOp,Act.eval,y1,hn,go_sem]) ⟨_,rfl,rfl,Below.refl _ _⟩⟩
  ·obtain rfl:=Option.some.inj ho
   have y2:act.tmps[(21:Nat)]?=_:=dV (hdep 2 (by simp[dL])) rfl
   refine .inl ⟨rfl,owp_call rfl (enters Tryz.func48 (by kernel_rfl) (by kernel_rfl)) (vs:=#[.float .f64 (ngt x)]) (by simp[eval_get y2]) ?_⟩
   refine(kE1.out U (HD.out.2.1.trans (hb.mono HD.out.2.1.size))).mono ?_
   rintro r w' ⟨s9,ao9,n9,cp9,e9,rfl,hA9,hb'⟩
   exact⟨_,rfl,_,rfl,hA9,hb'⟩
  ·obtain rfl:=Option.some.inj ho
   have y0:act.tmps[(19:Nat)]?=_:=dV (hdep 0 (by simp[dL])) rfl
   obtain⟨u3,y30,v3⟩:=hdep 3 (by simp[dL])
   have y3:act.tmps[(22:Nat)]?=_:=y30
   refine .inl ⟨rfl,owp_call rfl (enters Tryz.func47 (by kernel_rfl) (by kernel_rfl)) (vs:=#[.agg #[.bool s4,.slice ao4 n4 cap4,.int .i64 ex4,.bool al],u3]) (by simp[eval_get y0,eval_get y3]) ?_⟩
   refine(kH1.out U _ _ _ _ _ _ (HD.out.2.1.trans (hb.mono HD.out.2.1.size)) (HD.out.1.later hb) v3).mono ?_
   rintro r w' ⟨s9,ao9,n9,cp9,e9,rfl,hA9,hb'⟩
   exact⟨_,rfl,_,rfl,hA9,hb'⟩
 ·intro k' hk
  obtain rfl:k'=0:=Nat.lt_one_iff.1 hk
  exact⟨_,rfl,rfl⟩
 ·intro k' hk
  obtain rfl:k'=0:=Nat.lt_one_iff.1 hk
  exact⟨_,rfl,rfl⟩
 ·intro u g U hb9 hu hg hap
  obtain⟨g0l,cs0,q0,z0⟩:=hg 0 (by decide)
  have q9:PN U (u 4) _:=hu 4 (by show 4<5;decide)
  have q0':u 4=.agg cs0:=q0
  rw[q0'] at q9
  obtain⟨s9,ao9,n9,cp9,e9,h9⟩:=PN.shape q9
  obtain rfl:=Value.agg.inj h9
  obtain⟨g9,hg9⟩:∃ x,x=g 0:=⟨_,rfl⟩
  rw[←hg9] at z0 g0l
  clear hu hg hap q0 q0'
  simp only[putL,show List.range 5 = [0,1,2,3,4] from rfl,show List.range 1 = [0] from rfl,List.length_cons,List.length_nil,List.getD_cons_zero,List.getD_cons_succ,List.map_cons,List.map_nil,List.cons_append,List.nil_append,List.foldl_cons,List.foldl_nil,Nat.reduceLT,Nat.reduceMod,Nat.reduceDiv,Nat.reduceMul,Nat.reduceAdd,Nat.reduceEqDiff,reduceIte,Nat.one_ne_zero,Act.put,List.setIfInBounds_toArray,List.set_cons_zero,List.set_cons_succ]
  rw[←hg9]
  clear hg9 
  obtain⟨U3,hr9⟩:∃ x,x=U:=⟨_,rfl⟩
  subst hr9
  obtain⟨g6,hr9⟩:∃ x,x=g9:=⟨_,rfl⟩
  subst hr9
  obtain⟨s5,hr9⟩:∃ x,x=s9:=⟨_,rfl⟩
  subst hr9
  obtain⟨ao5,hr9⟩:∃ x,x=ao9:=⟨_,rfl⟩
  subst hr9
  obtain⟨n5,hr9⟩:∃ x,x=n9:=⟨_,rfl⟩
  subst hr9
  obtain⟨cap5,hr9⟩:∃ x,x=cp9:=⟨_,rfl⟩
  subst hr9
  obtain⟨ex5,hr9⟩:∃ x,x=e9:=⟨_,rfl⟩
  subst hr9
  have HE:Hid (PN U3 (.agg #[.bool s4,.slice ao4 n4 cap4,.int .i64 ex4]) ta∧Bw w U3∧U3.heap[g4]?=some (.cells #[.bool s4,.slice ao4 n4 cap4,.int .i64 ex4,.bool al] 72 (0,0))∧U3.heap[w.heap.size]?=some (.cells #[.bool false,.slice none 0 0,.int .i64 0,.bool false,.slice none 0 0,.int .i64 0,.float .f64 0] 49 (0,0))∧PBx U3 g6 s5 ao5 n5 cap5 ex5 ti∧w.heap.size<g4∧g4<g6) :=
   ⟨HD.out.1.later hb9,HD.out.2.1.trans (hb9.mono HD.out.2.1.size),(hb9.block _ (Array.getElem?_eq_some_iff.1 HD.out.2.2.1).1).trans HD.out.2.2.1,(hb9.block _ (Array.getElem?_eq_some_iff.1 HD.out.2.2.2.1).1).trans HD.out.2.2.2.1,⟨z0,q9⟩,HD.out.2.2.2.2,Nat.lt_of_lt_of_le (Array.getElem?_eq_some_iff.1 HD.out.2.2.1).1 g0l⟩
  clear z0 q9 g0l hb9 h9 HD kE1 kH1 a0 a1 a2 a3 hn
  go_wp2_with fail
  refine(kC.out U3).mono ?_
  rintro r v6 ⟨rfl,hv6⟩
  have hv6:=hv6.symm
  subst hv6
  cases bl
  ·clear kN
   go_upto_region 7 with fail
   refine q_region follows_mixed [0,1,2,3,4,5,6] [7] [32,33,34,35,36,37,38] [[],[],[1],[0,2],[],[],[3,4,5]] [[6]] [6] (fun _=>2) (fun _=>w.heap.size) w.heap.size 49 PC7 7 U3 _ [isV (.agg #[.bool s4,.slice ao4 n4 cap4,.int .i64 ex4,.bool al]),isV (.float .f64 x),isP (te),isP (tr),isV (.agg #[.bool s5,.slice ao5 n5 cap5,.int .i64 ex5]),isV (.float .f64 y),isPr tr (ti) y] (by kernel_rfl) ⟨isV_stays _,isV_stays _,isP_stays _,isP_stays _,isV_stays _,isV_stays _,isPr_stays _ _ _,trivial⟩ ⟨isV_rows _ _ _,isV_rows _ _ _,isP_rows7 _,isP_rows7 _,isV_rows _ _ _,isV_rows _ _ _,isPr_rows _ _ _,trivial⟩ (by show ∀ s ∈ [32,33,34,35,36,37,38],s<39;decide) ?_ ?_ (by kernel_rfl) ?_ ?_ ?_ ?_ HE.out.2.1.size ?_
   ·intro i hi U u h
    obtain rfl:i=0:=Nat.lt_one_iff.1 hi
    obtain⟨sa,aoa,na,cpa,ea,sb,aob,nb,cpb,eb,rfl,-,-⟩:=(show isPr tr (ti) y U u from h)
    exact⟨_,rfl,rfl,⟨_,_,_,_,_,_,_,_,_,_,_,rfl⟩,by simp[Value.oneCell']⟩
   ·intro j hj o ho act U hK hoth hdep hrd
    have hj':j<7:=hj
    have hbU:Bw w U:=HE.out.2.1.trans hK.below
    have t5':act.tmps[(5:Nat)]?=some (Value.pointer (some ⟨g4,0,none⟩)):=(hoth 5 (by decide)).trans rfl
    have t6':act.tmps[(6:Nat)]?=some (Value.pointer (some ⟨g6,0,none⟩)):=(hoth 6 (by decide)).trans rfl
    have t3':act.tmps[(3:Nat)]?=some (Value.float .f64 x):=(hoth 3 (by decide)).trans rfl
    have t4':act.tmps[(4:Nat)]?=some (Value.float .f64 y):=(hoth 4 (by decide)).trans rfl
    have c4:=(obox4 ((hK.keep g4 (Array.getElem?_eq_some_iff.1 HE.out.2.2.1).1 (fun k _=>by have:=HE.out.2.2.2.2.2;show g4≠w.heap.size;omega)).trans HE.out.2.2.1)).1
    have c6:=(box_cells ((hK.keep g6 (lt_of_box HE.out.2.2.2.2.1.1) (fun k _=>by have:=HE.out.2.2.2.2.2;show g6≠w.heap.size;omega)).trans HE.out.2.2.2.2.1.1)).1
    rcases(by omega:j=0∨j=1∨j=2∨j=3∨j=4∨j=5∨j=6)with rfl|rfl|rfl|rfl|rfl|rfl|rfl
    ·obtain rfl:=Option.some.inj ho
     exact .inl ⟨rfl,owp_ldC4 rfl t5' c4.1 c4.2.1 c4.2.2.1 c4.2.2.2 ⟨_,rfl,rfl,Below.refl _ _⟩⟩
    ·obtain rfl:=Option.some.inj ho
     exact .inl ⟨rfl,owp_move rfl t3' ⟨_,rfl,rfl,Below.refl _ _⟩⟩
    ·obtain rfl:=Option.some.inj ho
     have y1:act.tmps[(33:Nat)]?=_:=dV (hdep 1 (by simp[dL])) rfl
     refine .inl ⟨rfl,owp_call rfl (enters Tryz.func48 (by kernel_rfl) (by kernel_rfl)) (vs:=#[.float .f64 x]) (by simp[eval_get y1]) ?_⟩
     refine(kE2.out U hbU).mono ?_
     rintro r w' ⟨s9,ao9,n9,cp9,e9,rfl,hA9,hb'⟩
     exact⟨_,rfl,_,rfl,hA9,hb'⟩
    ·obtain rfl:=Option.some.inj ho
     have y0:act.tmps[(32:Nat)]?=_:=dV (hdep 0 (by simp[dL])) rfl
     obtain⟨u2,y20,v2⟩:=hdep 2 (by simp[dL])
     have y2:act.tmps[(34:Nat)]?=_:=y20
     refine .inl ⟨rfl,owp_call rfl (enters Tryz.func47 (by kernel_rfl) (by kernel_rfl)) (vs:=#[.agg #[.bool s4,.slice ao4 n4 cap4,.int .i64 ex4,.bool al],u2]) (by simp[eval_get y0,eval_get y2]) ?_⟩
     refine(kH2.out U _ _ _ _ _ _ hbU (pn_keep7 HE.out.1 hK HE.out.2.2.2.1) v2).mono ?_
     rintro r w' ⟨s9,ao9,n9,cp9,e9,rfl,hA9,hb'⟩
     exact⟨_,rfl,_,rfl,hA9,hb'⟩
    ·obtain rfl:=Option.some.inj ho
     exact .inl ⟨rfl,owp_ldP rfl t6' c6.1 c6.2.1 c6.2.2 ⟨_,rfl,rfl,Below.refl _ _⟩⟩
    ·obtain rfl:=Option.some.inj ho
     exact .inl ⟨rfl,owp_move rfl t4' ⟨_,rfl,rfl,Below.refl _ _⟩⟩
    ·obtain rfl:=Option.some.inj ho
     obtain⟨u3,y30,v3⟩:=hdep 3 (by simp[dL])
     have y3:act.tmps[(35:Nat)]?=_:=y30
     have y4:act.tmps[(36:Nat)]?=_:=dV (hdep 4 (by simp[dL])) rfl
     have y5:act.tmps[(37:Nat)]?=_:=dV (hdep 5 (by simp[dL])) rfl
     have hp3:PN U u3 tr:=v3
     obtain⟨sa,aoa,na,cpa,ea,rfl⟩:=hp3.shape
     exact .inl ⟨rfl,owp_run1 (w':=U) (by simp[execOp,Act.eval,y3,y4,y5,go_sem]) ⟨_,rfl,⟨_,_,_,_,_,_,_,_,_,_,rfl,hp3,pn_keep7 HE.out.2.2.2.2.1.2 hK HE.out.2.2.2.1⟩,Below.refl _ _⟩⟩
   ·intro i hi
    obtain rfl:i=0:=Nat.lt_one_iff.1 hi
    exact⟨_,rfl,rfl⟩
   ·intro i hi
    exact⟨rfl,by decide⟩
   ·intro i hi
    exact⟨Nat.le_refl _,_,HE.out.2.2.2.1,rfl,_,_,_,_,_,_,_,_,_,_,_,rfl⟩
   ·intro i i' hi hi' _
    exact(Nat.lt_one_iff.1 hi).trans (Nat.lt_one_iff.1 hi').symm
   ·intro u U hK hu hcs
    obtain⟨csa,ya,z9⟩:=hcs 0 (by decide)
    have q9:isPr tr (ti) y U (u 6):=hu 6 (by show 6<7;decide)
    have ya':u 6=.agg csa:=ya
    rw[ya'] at q9
    obtain⟨sa,aoa,na,cpa,ea,sb,aob,nb,cpb,eb,hq,hq1,hq2⟩:=q9
    obtain rfl:=Value.agg.inj hq
    have HQ:Hid (U.heap[w.heap.size]?=some (.cells #[.bool sa,.slice aoa na cpa,.int .i64 ea,.bool sb,.slice aob nb cpb,.int .i64 eb,.float .f64 y] 49 (0,0))∧PN U (.agg #[.bool sa,.slice aoa na cpa,.int .i64 ea]) tr∧PN U (.agg #[.bool sb,.slice aob nb cpb,.int .i64 eb]) (ti)∧Bw w U):=⟨z9,hq1,hq2,HE.out.2.1.trans hK.below⟩
    clear hu hcs ya ya' z9 hq1 hq2 hK hq HE kE2 kH2
    simp only[putL,show List.range 7 = [0,1,2,3,4,5,6] from rfl,List.length_cons,List.length_nil,List.getD_cons_zero,List.getD_cons_succ,List.map_cons,List.map_nil,List.cons_append,List.nil_append,List.foldl_cons,List.foldl_nil,Nat.reduceLT,Nat.reduceMod,Nat.reduceDiv,Nat.reduceMul,Nat.reduceAdd,Nat.reduceEqDiff,reduceIte,Nat.one_ne_zero,Act.put,List.setIfInBounds_toArray,List.set_cons_zero,List.set_cons_succ]
    go_wp2_with fail
    refine bodyPost_ret (results_cell_row rfl _ _ w.heap.size 49 #[.bool sa,.slice aoa na cpa,.int .i64 ea,.bool sb,.slice aob nb cpb,.int .i64 eb,.float .f64 y] (0,0) _ rfl HQ.out.1 Tryz.underlying49 rfl (by kernel_rfl)) rfl ?_
    exact⟨_,rfl,⟨_,_,_,_,_,_,_,_,_,_,rfl,HQ.out.2.1,HQ.out.2.2.1⟩,HQ.out.2.2.2⟩
  ·obtain⟨⟨x1,x2,x3⟩,x4,x5,x6⟩:=box_cells HE.out.2.2.2.2.1.1
   have kk:=kN.out rfl U3 _ HE.out.2.1 HE.out.2.2.2.2.1.2
   go_wp2_with fail
   refine kk.mono ?_
   rintro r v7 ⟨s7,ao7,n7,cap7,ex7,rfl,hA,hb0⟩
   have HF0:Hid (PN v7 (.agg #[.bool s4,.slice ao4 n4 cap4,.int .i64 ex4]) ta∧Bw w v7∧v7.heap[g4]?=some (.cells #[.bool s4,.slice ao4 n4 cap4,.int .i64 ex4,.bool al] 72 (0,0))∧v7.heap[w.heap.size]?=some (.cells #[.bool false,.slice none 0 0,.int .i64 0,.bool false,.slice none 0 0,.int .i64 0,.float .f64 0] 49 (0,0))∧PBx v7 g6 s5 ao5 n5 cap5 ex5 ti∧PN v7 (.agg #[.bool s7,.slice ao7 n7 cap7,.int .i64 ex7]) tn) :=
    ⟨HE.out.1.later hb0,HE.out.2.1.trans (hb0.mono HE.out.2.1.size),(hb0.block _ (Array.getElem?_eq_some_iff.1 HE.out.2.2.1).1).trans HE.out.2.2.1,(hb0.block _ (Array.getElem?_eq_some_iff.1 HE.out.2.2.2.1).1).trans HE.out.2.2.2.1,HE.out.2.2.2.2.1.later hb0,hA⟩
   clear kk hA hb0 x1 x2 x3 x4 x5 x6 kN
   obtain⟨⟨x1,x2,x3⟩,x4,x5,x6⟩:=box_cells HF0.out.2.2.2.2.1.1
   go_upto_region 7 with fail
   obtain⟨V7,hV7⟩:∃ V,V=((v7.setCell ⟨g6,0,none⟩ (.bool s7)).setCell ⟨g6,1,none⟩ (.slice ao7 n7 cap7)).setCell ⟨g6,2,none⟩ (.int .i64 ex7):=⟨_,rfl⟩
   have HF:Hid (PN V7 (.agg #[.bool s4,.slice ao4 n4 cap4,.int .i64 ex4]) ta∧Bw w V7∧V7.heap[g4]?=some (.cells #[.bool s4,.slice ao4 n4 cap4,.int .i64 ex4,.bool al] 72 (0,0))∧V7.heap[w.heap.size]?=some (.cells #[.bool false,.slice none 0 0,.int .i64 0,.bool false,.slice none 0 0,.int .i64 0,.float .f64 0] 49 (0,0))∧PBx V7 g6 s7 ao7 n7 cap7 ex7 tn∧w.heap.size<g4∧g4<g6):=by
    obtain⟨f1,f2,f3,f4,f5,f6⟩:=HF0.out
    have fl:=HE.out.2.2.2.2.2
    rw[hV7]
    exact⟨f1.set3 f5.1 _ _ _,below_store3 f2 (by omega) _ _ _,oheap_other3 f3 (by omega) _ _ _,oheap_other3 f4 (by omega) _ _ _,⟨store3 _ _ _ f5.1,f6.set3 f5.1 _ _ _⟩,fl⟩
   rw[←hV7]
   clear hV7 HF0 HE x1 x2 x3 x4 x5 x6
   refine q_region follows_mixed [0,1,2,3,4,5,6] [7] [32,33,34,35,36,37,38] [[],[],[1],[0,2],[],[],[3,4,5]] [[6]] [6] (fun _=>2) (fun _=>w.heap.size) w.heap.size 49 PC7 7 V7 _ [isV (.agg #[.bool s4,.slice ao4 n4 cap4,.int .i64 ex4,.bool al]),isV (.float .f64 x),isP (te),isP (tr),isV (.agg #[.bool s7,.slice ao7 n7 cap7,.int .i64 ex7]),isV (.float .f64 y),isPr tr (tn) y] (by kernel_rfl) ⟨isV_stays _,isV_stays _,isP_stays _,isP_stays _,isV_stays _,isV_stays _,isPr_stays _ _ _,trivial⟩ ⟨isV_rows _ _ _,isV_rows _ _ _,isP_rows7 _,isP_rows7 _,isV_rows _ _ _,isV_rows _ _ _,isPr_rows _ _ _,trivial⟩ (by show ∀ s ∈ [32,33,34,35,36,37,38],s<39;decide) ?_ ?_ (by kernel_rfl) ?_ ?_ ?_ ?_ HF.out.2.1.size ?_
   ·intro i hi U u h
    obtain rfl:i=0:=Nat.lt_one_iff.1 hi
    obtain⟨sa,aoa,na,cpa,ea,sb,aob,nb,cpb,eb,rfl,-,-⟩:=(show isPr tr (tn) y U u from h)
    exact⟨_,rfl,rfl,⟨_,_,_,_,_,_,_,_,_,_,_,rfl⟩,by simp[Value.oneCell']⟩
   ·intro j hj o ho act U hK hoth hdep hrd
    have hj':j<7:=hj
    have hbU:Bw w U:=HF.out.2.1.trans hK.below
    have t5':act.tmps[(5:Nat)]?=some (Value.pointer (some ⟨g4,0,none⟩)):=(hoth 5 (by decide)).trans rfl
    have t6':act.tmps[(6:Nat)]?=some (Value.pointer (some ⟨g6,0,none⟩)):=(hoth 6 (by decide)).trans rfl
    have t3':act.tmps[(3:Nat)]?=some (Value.float .f64 x):=(hoth 3 (by decide)).trans rfl
    have t4':act.tmps[(4:Nat)]?=some (Value.float .f64 y):=(hoth 4 (by decide)).trans rfl
    have c4:=(obox4 ((hK.keep g4 (Array.getElem?_eq_some_iff.1 HF.out.2.2.1).1 (fun k _=>by have:=HF.out.2.2.2.2.2;show g4≠w.heap.size;omega)).trans HF.out.2.2.1)).1
    have c6:=(box_cells ((hK.keep g6 (lt_of_box HF.out.2.2.2.2.1.1) (fun k _=>by have:=HF.out.2.2.2.2.2;show g6≠w.heap.size;omega)).trans HF.out.2.2.2.2.1.1)).1
    rcases(by omega:j=0∨j=1∨j=2∨j=3∨j=4∨j=5∨j=6)with rfl|rfl|rfl|rfl|rfl|rfl|rfl
    ·obtain rfl:=Option.some.inj ho
     exact .inl ⟨rfl,owp_ldC4 rfl t5' c4.1 c4.2.1 c4.2.2.1 c4.2.2.2 ⟨_,rfl,rfl,Below.refl _ _⟩⟩
    ·obtain rfl:=Option.some.inj ho
     exact .inl ⟨rfl,owp_move rfl t3' ⟨_,rfl,rfl,Below.refl _ _⟩⟩
    ·obtain rfl:=Option.some.inj ho
     have y1:act.tmps[(33:Nat)]?=_:=dV (hdep 1 (by simp[dL])) rfl
     refine .inl ⟨rfl,owp_call rfl (enters Tryz.func48 (by kernel_rfl) (by kernel_rfl)) (vs:=#[.float .f64 x]) (by simp[eval_get y1]) ?_⟩
     refine(kE2.out U hbU).mono ?_
     rintro r w' ⟨s9,ao9,n9,cp9,e9,rfl,hA9,hb'⟩
     exact⟨_,rfl,_,rfl,hA9,hb'⟩
    ·obtain rfl:=Option.some.inj ho
     have y0:act.tmps[(32:Nat)]?=_:=dV (hdep 0 (by simp[dL])) rfl
     obtain⟨u2,y20,v2⟩:=hdep 2 (by simp[dL])
     have y2:act.tmps[(34:Nat)]?=_:=y20
     refine .inl ⟨rfl,owp_call rfl (enters Tryz.func47 (by kernel_rfl) (by kernel_rfl)) (vs:=#[.agg #[.bool s4,.slice ao4 n4 cap4,.int .i64 ex4,.bool al],u2]) (by simp[eval_get y0,eval_get y2]) ?_⟩
     refine(kH2.out U _ _ _ _ _ _ hbU (pn_keep7 HF.out.1 hK HF.out.2.2.2.1) v2).mono ?_
     rintro r w' ⟨s9,ao9,n9,cp9,e9,rfl,hA9,hb'⟩
     exact⟨_,rfl,_,rfl,hA9,hb'⟩
    ·obtain rfl:=Option.some.inj ho
     exact .inl ⟨rfl,owp_ldP rfl t6' c6.1 c6.2.1 c6.2.2 ⟨_,rfl,rfl,Below.refl _ _⟩⟩
    ·obtain rfl:=Option.some.inj ho
     exact .inl ⟨rfl,owp_move rfl t4' ⟨_,rfl,rfl,Below.refl _ _⟩⟩
    ·obtain rfl:=Option.some.inj ho
     obtain⟨u3,y30,v3⟩:=hdep 3 (by simp[dL])
     have y3:act.tmps[(35:Nat)]?=_:=y30
     have y4:act.tmps[(36:Nat)]?=_:=dV (hdep 4 (by simp[dL])) rfl
     have y5:act.tmps[(37:Nat)]?=_:=dV (hdep 5 (by simp[dL])) rfl
     have hp3:PN U u3 tr:=v3
     obtain⟨sa,aoa,na,cpa,ea,rfl⟩:=hp3.shape
     exact .inl ⟨rfl,owp_run1 (w':=U) (by simp[execOp,Act.eval,y3,y4,y5,go_sem]) ⟨_,rfl,⟨_,_,_,_,_,_,_,_,_,_,rfl,hp3,pn_keep7 HF.out.2.2.2.2.1.2 hK HF.out.2.2.2.1⟩,Below.refl _ _⟩⟩
   ·intro i hi
    obtain rfl:i=0:=Nat.lt_one_iff.1 hi
    exact⟨_,rfl,rfl⟩
   ·intro i hi
    exact⟨rfl,by decide⟩
   ·intro i hi
    exact⟨Nat.le_refl _,_,HF.out.2.2.2.1,rfl,_,_,_,_,_,_,_,_,_,_,_,rfl⟩
   ·intro i i' hi hi' _
    exact(Nat.lt_one_iff.1 hi).trans (Nat.lt_one_iff.1 hi').symm
   ·intro u U hK hu hcs
    obtain⟨csa,ya,z9⟩:=hcs 0 (by decide)
    have q9:isPr tr (tn) y U (u 6):=hu 6 (by show 6<7;decide)
    have ya':u 6=.agg csa:=ya
    rw[ya'] at q9
    obtain⟨sa,aoa,na,cpa,ea,sb,aob,nb,cpb,eb,hq,hq1,hq2⟩:=q9
    obtain rfl:=Value.agg.inj hq
    have HQ:Hid (U.heap[w.heap.size]?=some (.cells #[.bool sa,.slice aoa na cpa,.int .i64 ea,.bool sb,.slice aob nb cpb,.int .i64 eb,.float .f64 y] 49 (0,0))∧PN U (.agg #[.bool sa,.slice aoa na cpa,.int .i64 ea]) tr∧PN U (.agg #[.bool sb,.slice aob nb cpb,.int .i64 eb]) (tn)∧Bw w U):=⟨z9,hq1,hq2,HF.out.2.1.trans hK.below⟩
    clear hu hcs ya ya' z9 hq1 hq2 hK hq HF kE2 kH2
    simp only[putL,show List.range 7 = [0,1,2,3,4,5,6] from rfl,List.length_cons,List.length_nil,List.getD_cons_zero,List.getD_cons_succ,List.map_cons,List.map_nil,List.cons_append,List.nil_append,List.foldl_cons,List.foldl_nil,Nat.reduceLT,Nat.reduceMod,Nat.reduceDiv,Nat.reduceMul,Nat.reduceAdd,Nat.reduceEqDiff,reduceIte,Nat.one_ne_zero,Act.put,List.setIfInBounds_toArray,List.set_cons_zero,List.set_cons_succ]
    go_wp2_with fail
    refine bodyPost_ret (results_cell_row rfl _ _ w.heap.size 49 #[.bool sa,.slice aoa na cpa,.int .i64 ea,.bool sb,.slice aob nb cpb,.int .i64 eb,.float .f64 y] (0,0) _ rfl HQ.out.1 Tryz.underlying49 rfl (by kernel_rfl)) rfl ?_
    exact⟨_,rfl,⟨_,_,_,_,_,_,_,_,_,_,rfl,HQ.out.2.1,HQ.out.2.2.1⟩,HQ.out.2.2.2⟩
theorem obox7 {w:World} {g:Nat} {a b c d e f h:Value} {T:TypeId} (hg:w.heap[g]?=some (.cells #[a,b,c,d,e,f,h] T (0,0))) :
  (w.cell? ⟨g,0,none⟩=some a∧w.cell? ⟨g,1,none⟩=some b∧w.cell? ⟨g,2,none⟩=some c∧w.cell? ⟨g,3,none⟩=some d∧w.cell? ⟨g,4,none⟩=some e∧w.cell? ⟨g,5,none⟩=some f∧w.cell? ⟨g,6,none⟩=some h):=by
 simp[World.cell?,hg]
theorem Orounded_1 (s1:Bool) (a1:Option Addr) (n1 c1:Nat) (e1:Int) (s2:Bool) (a2:Option Addr) (n2 c2:Nat) (e2:Int) (y F1 F2 F3:Nat) (m:Int) (w:World)
  (k1:Hid (∀ W,Bw w W→Calls Tryz.prog 51 #[.agg #[.bool s1,.slice a1 n1 c1,.int .i64 e1],.int .i64 m] W fun r w'=>r=.returned (.tuple #[.float .f64 F1,.int .i64 0])∧Bw W w'))
  (k2:Hid (∀ W,Bw w W→Calls Tryz.prog 51 #[.agg #[.bool s2,.slice a2 n2 c2,.int .i64 e2],.int .i64 m] W fun r w'=>r=.returned (.tuple #[.float .f64 F2,.int .i64 0])∧Bw W w'))
  (k3:Hid (∀ W,Calls Tryz.prog 52 #[.float .f64 F2,.float .f64 y] W fun r w'=>r=.returned (.float .f64 F3)∧w'=W)) :
  Calls Tryz.prog 20 #[.agg #[.bool s1,.slice a1 n1 c1,.int .i64 e1,.bool s2,.slice a2 n2 c2,.int .i64 e2,.float .f64 y],.int .i64 m] w fun r w'=>r=.returned (.complex .f64 F1 F3)∧Bw w w':=by
 obtain⟨W,hW⟩:∃ W,W=w.alloc (.cells #[.bool s1,.slice a1 n1 c1,.int .i64 e1,.bool s2,.slice a2 n2 c2,.int .i64 e2,.float .f64 y] 49):=⟨_,rfl⟩
 have HX:Hid (Bw w W∧W.heap[w.heap.size]?=some (.cells #[.bool s1,.slice a1 n1 c1,.int .i64 e1,.bool s2,.slice a2 n2 c2,.int .i64 e2,.float .f64 y] 49 (0,0))):=⟨by rw[hW];exact(Below.refl _ _).alloc (Nat.le_refl _) _,by rw[hW];exact heap_alloc_new _ _⟩
 obtain⟨a0,a1',a2',a3,a4,a5,a6⟩:=obox7 HX.out.2
 go_enter Tryz.func20,Tryz.ntmps20
 go_upto_region 1 with fail
 rw[←hW]
 clear hW
 go_wp2_with fail
 refine(k1.out W HX.out.1).mono ?_
 rintro r v1 ⟨rfl,hb1⟩
 have HA:Hid (Bw w v1∧v1.heap[w.heap.size]?=some (.cells #[.bool s1,.slice a1 n1 c1,.int .i64 e1,.bool s2,.slice a2 n2 c2,.int .i64 e2,.float .f64 y] 49 (0,0))):=⟨HX.out.1.trans (hb1.mono HX.out.1.size),(hb1.block _ (Array.getElem?_eq_some_iff.1 HX.out.2).1).trans HX.out.2⟩
 clear hb1 k1 HX a0 a1' a2' a3 a4 a5 a6
 obtain⟨a0,a1',a2',a3,a4,a5,a6⟩:=obox7 HA.out.2
 go_wp2_with fail
 refine(k2.out v1 HA.out.1).mono ?_
 rintro r v2 ⟨rfl,hb1⟩
 have HB:Hid (Bw w v2∧v2.heap[w.heap.size]?=some (.cells #[.bool s1,.slice a1 n1 c1,.int .i64 e1,.bool s2,.slice a2 n2 c2,.int .i64 e2,.float .f64 y] 49 (0,0))):=⟨HA.out.1.trans (hb1.mono HA.out.1.size),(hb1.block _ (Array.getElem?_eq_some_iff.1 HA.out.2).1).trans HA.out.2⟩
 clear hb1 k2 HA a0 a1' a2' a3 a4 a5 a6
 obtain⟨a0,a1',a2',a3,a4,a5,a6⟩:=obox7 HB.out.2
 go_wp2_with (go_at_call 52;refine(k3.out _).mono ?_;rintro r w' ⟨rfl,hw⟩;replace hw:=hw.symm;subst hw)
 go_ret
 exact⟨rfl,HB.out.1⟩
theorem cls_fin {a:Nat} (h:mag a<9218868437227405312):cls a≠1∧cls a≠2:=by
 unfold cls
 have h1:¬ (9218868437227405312:Int)<(mag a:Int):=by omega
 have h2:((mag a:Int)==9218868437227405312)=false:=beq_eq_false_iff_ne.2 (by omega)
 rw[if_neg h1,h2,if_neg (by decide)]
 constructor <;> (split;decide;split <;> decide)
theorem Oclass_1 (x y:Nat) (p q:Int) (b c:Bool) (w:World) (hp1:p≠1) (hp2:p≠2) (hq1:q≠1) (hq2:q≠2)
  (k1:∀ W,Calls Tryz.prog 49 #[.float .f64 x] W fun e w'=>e=.returned (.tuple #[.int .i64 p,.bool b])∧w'=W)
  (k2:∀ W,Calls Tryz.prog 49 #[.float .f64 y] W fun e w'=>e=.returned (.tuple #[.int .i64 q,.bool c])∧w'=W) :
  Calls Tryz.prog 66 #[.complex .f64 x y] w fun r w'=>r=.returned (.int .i64 (if p=3∧q=3 then 1 else 2))∧w'=w:=by
 have a1:(p==1)=false:=beq_eq_false_iff_ne.2 hp1
 have a2:(p==2)=false:=beq_eq_false_iff_ne.2 hp2
 have a3:(q==1)=false:=beq_eq_false_iff_ne.2 hq1
 have a4:(q==2)=false:=beq_eq_false_iff_ne.2 hq2
 clear hp1 hp2 hq1 hq2
 by_cases h3:p=3
 ·by_cases h4:q=3
  ·subst h3 h4
   rw[if_pos ⟨rfl,rfl⟩]
   go_enter Tryz.func66,Tryz.ntmps66
   go_wp2_with fail
   refine(k1 _).mono ?_
   rintro r w' ⟨rfl,hw⟩
   replace hw:=hw.symm
   subst hw
   go_wp2_with fail
   refine(k2 _).mono ?_
   rintro r w' ⟨rfl,hw⟩
   replace hw:=hw.symm
   subst hw
   go_wp2_with fail
   go_ret
   exact⟨rfl,rfl⟩
  ·rw[if_neg (fun h=>h4 h.2)]
   have a5:(q==3)=false:=beq_eq_false_iff_ne.2 h4
   subst h3
   clear h4
   go_enter Tryz.func66,Tryz.ntmps66
   go_wp2_with fail
   refine(k1 _).mono ?_
   rintro r w' ⟨rfl,hw⟩
   replace hw:=hw.symm
   subst hw
   go_wp2_with fail
   refine(k2 _).mono ?_
   rintro r w' ⟨rfl,hw⟩
   replace hw:=hw.symm
   subst hw
   go_wp2_with fail
   go_ret
   exact⟨rfl,rfl⟩
 ·rw[if_neg (fun h=>h3 h.1)]
  have a5:(p==3)=false:=beq_eq_false_iff_ne.2 h3
  clear h3
  go_enter Tryz.func66,Tryz.ntmps66
  go_wp2_with fail
  refine(k1 _).mono ?_
  rintro r w' ⟨rfl,hw⟩
  replace hw:=hw.symm
  subst hw
  go_wp2_with fail
  refine(k2 _).mono ?_
  rintro r w' ⟨rfl,hw⟩
  replace hw:=hw.symm
  subst hw
  go_wp2_with fail
  go_ret
  exact⟨rfl,rfl⟩
theorem Ofinite {x y:Nat} (hx:x<18446744073709551616) (hy:y<18446744073709551616) (fx:mag x<9218868437227405312) (fy:mag y<9218868437227405312) (w:World) :
  Calls Tryz.prog 41 #[.complex .f64 x y] w fun r w'=>r=.returned (.bool true)∧w'=w:=by
 have k:=fun W=>Oclass_1 x y _ _ _ _ W (cls_fin fx).1 (cls_fin fx).2 (cls_fin fy).1 (cls_fin fy).2 (fun W=>Ie.c9 x hx W) (fun W=>Ie.c9 y hy W)
 by_cases h:cls x=3∧cls y=3
 ·rw[if_pos h] at k
  go_enter Tryz.func41,Tryz.ntmps41
  go_wp2_with fail
  refine(k _).mono ?_
  rintro r w' ⟨rfl,hw⟩
  replace hw:=hw.symm
  subst hw
  go_wp2_with fail
  go_ret
  exact⟨rfl,rfl⟩
 ·rw[if_neg h] at k
  go_enter Tryz.func41,Tryz.ntmps41
  go_wp2_with fail
  refine(k _).mono ?_
  rintro r w' ⟨rfl,hw⟩
  replace hw:=hw.symm
  subst hw
  go_wp2_with fail
  go_ret
  exact⟨rfl,rfl⟩
theorem OpSame_1 (a b c d:Nat) (p q:Bool) (w:World)
  (k1:∀ w,Calls Tryz.prog 109 #[.float .f64 a,.float .f64 c] w fun r w'=>r=.returned (.bool p)∧w'=w)
  (k2:∀ w,Calls Tryz.prog 109 #[.float .f64 b,.float .f64 d] w fun r w'=>r=.returned (.bool q)∧w'=w) :
  Calls Tryz.prog 108 #[.complex .f64 a b,.complex .f64 c d] w fun r w'=>r=.returned (.bool (p&&q))∧w'=w:=by
 cases p
 ·go_enter Tryz.func108,Tryz.ntmps108
  go_wp2_with fail
  refine(k1 _).mono ?_
  rintro r w' ⟨rfl,hw⟩
  replace hw:=hw.symm
  subst hw
  go_wp2_with fail
  go_ret
  exact⟨rfl,rfl⟩
 ·go_enter Tryz.func108,Tryz.ntmps108
  go_wp2_with fail
  refine(k1 _).mono ?_
  rintro r w' ⟨rfl,hw⟩
  replace hw:=hw.symm
  subst hw
  go_wp2_with fail
  refine(k2 _).mono ?_
  rintro r w' ⟨rfl,hw⟩
  replace hw:=hw.symm
  subst hw
  go_wp2_with fail
  go_ret
  exact⟨by simp,rfl⟩
theorem OpSame {a b c d:Nat} (ha:a<18446744073709551616) (hb:b<18446744073709551616) (hc:c<18446744073709551616) (hd:d<18446744073709551616) (w:World):Calls Tryz.prog 108 #[.complex .f64 a b,.complex .f64 c d] w fun r w'=>r=.returned (.bool (same a c&&same b d))∧w'=w :=
 OpSame_1 a b c d _ _ w (fun W=>Ie.c11 a c ha hc W) (fun W=>Ie.c11 b d hb hd W)
end Go.Proofs.YtgdhdailchonmabGreatDoor
namespace Go.Proofs.YtgdhdailchonmabGreatDoor
open Go Go.RowKit Go.Fl64
theorem run_store_fltO (P:Program) (w:World) (a:Addr) (m:Mode) (k:FloatKind) (n:Nat):(store a (.float k n) m).run P w=stored P w a (.float k n) m:=run_store P w a _ m rfl
theorem run_store_cpxO (P:Program) (w:World) (a:Addr) (m:Mode) (k:FloatKind) (n i:Nat):(store a (.complex k n i) m).run P w=stored P w a (.complex k n i) m:=run_store P w a _ m rfl
attribute [local go_sem] run_store_fltO run_store_cpxO
def BaB (W:World) (g:Nat) (x y r:Nat):Prop:=W.heap[g]?=some (.cells #[.complex .f64 x y,.float .f64 r] 39 (0,0))
theorem BaB.later {W W':World} {g x y r:Nat} (h:BaB W g x y r) (hb:Bw W W'):BaB W' g x y r:=(hb.block _ (Array.getElem?_eq_some_iff.1 h).1).trans h
theorem BaB.facts {w:World} {g x y r:Nat} (h:BaB w g x y r):(w.cell? ⟨g,0,none⟩=some (.complex .f64 x y)∧w.cell? ⟨g,1,none⟩=some (.float .f64 r))∧(w.frozen? ⟨g,0,none⟩=false∧w.frozen? ⟨g,1,none⟩=false):=by
 unfold BaB at h
 simp[World.cell?,World.frozen?,h]
theorem BaB.set {w:World} {g x y r:Nat} (h:BaB w g x y r) (x' y' r':Nat):BaB ((w.setCell ⟨g,0,none⟩ (.complex .f64 x' y')).setCell ⟨g,1,none⟩ (.float .f64 r')) g x' y' r':=by
 unfold BaB at h ⊢
 simp[World.setCell,Array.getElem?_modify,h]
theorem BaB.new (w:World) (x y r:Nat):BaB (w.alloc (.cells #[.complex .f64 x y,.float .f64 r] 39)) w.heap.size x y r:=heap_alloc_new _ _
theorem BaB.lt {w:World} {g x y r:Nat} (h:BaB w g x y r):g<w.heap.size:=(Array.getElem?_eq_some_iff.1 h).1
theorem below2c {B:Nat} {w0 w:World} {g:Nat} (h:Below B w0 w) (hg:B≤g) (a b:Value):Below B w0 ((w.setCell ⟨g,0,none⟩ a).setCell ⟨g,1,none⟩ b):=(h.setCell hg _).setCell hg _
theorem Oplane (w:World):Calls Tryz.prog 67 #[] w fun r w'=>r=.returned (.agg #[.complex .f64 0 0,.float .f64 9218868437227405312])∧Bw w w':=by
 obtain⟨W,hW⟩:∃ W,W=w.alloc (.cells #[.complex .f64 0 0,.float .f64 0] 39):=⟨_,rfl⟩
 have HX:Hid (BaB W w.heap.size 0 0 0∧Bw w W):=⟨by rw[hW];exact BaB.new _ _ _ _,by rw[hW];exact(Below.refl _ _).alloc (Nat.le_refl _) _⟩
 obtain⟨⟨y0,y1⟩,y2,y3⟩:=HX.out.1.facts
 go_enter Tryz.func67,Tryz.ntmps67
 go_upto_region 1 with fail
 rw[←hW]
 clear hW
 go_wp2_with fail
 refine(c61 _).mono ?_
 rintro r w' ⟨rfl,hw⟩
 replace hw:=hw.symm
 subst hw
 go_wp2_with fail
 refine bodyPost_ret (results_cell_row rfl _ _ w.heap.size 39 #[.complex .f64 0 0,.float .f64 9218868437227405312] (0,0) _ rfl (HX.out.1.set _ _ _) Tryz.underlying39 rfl (by kernel_rfl)) rfl ?_
 exact⟨rfl,below2c HX.out.2 (Nat.le_refl _) _ _⟩
theorem ObSame_1 (x y r x' y' r':Nat) (p q:Bool) (w:World)
  (k1:∀ w,Calls Tryz.prog 108 #[.complex .f64 x y,.complex .f64 x' y'] w fun r w'=>r=.returned (.bool p)∧w'=w)
  (k2:∀ w,Calls Tryz.prog 109 #[.float .f64 r,.float .f64 r'] w fun r w'=>r=.returned (.bool q)∧w'=w) :
  Calls Tryz.prog 81 #[.agg #[.complex .f64 x y,.float .f64 r],.agg #[.complex .f64 x' y',.float .f64 r']] w fun r w'=>r=.returned (.bool (p&&q))∧Bw w w':=by
 obtain⟨V,hV⟩:∃ W,W=w.alloc (.cells #[.complex .f64 x y,.float .f64 r] 39):=⟨_,rfl⟩
 obtain⟨W,hW⟩:∃ W,W=V.alloc (.cells #[.complex .f64 x' y',.float .f64 r'] 39):=⟨_,rfl⟩
 have hsV:V.heap.size=w.heap.size+1:=by rw[hV];simp
 have hb1:Bw w V:=by rw[hV];exact(Below.refl _ _).alloc (Nat.le_refl _) _
 have hb2:Bw V W:=by rw[hW];exact(Below.refl _ _).alloc (Nat.le_refl _) _
 have h1:BaB W w.heap.size x y r:=BaB.later (by rw[hV];exact BaB.new _ _ _ _) hb2
 have h2:BaB W (w.heap.size+1) x' y' r':=by rw[hW,←hsV];exact BaB.new _ _ _ _
 have HB:Hid (Bw w W):=hb1.trans (hb2.mono hb1.size)
 obtain⟨⟨y0,y1⟩,-⟩:=h1.facts
 obtain⟨⟨z0,z1⟩,-⟩:=h2.facts
 rw[hV] at hW
 clear hV hsV hb1 hb2 h1 h2
 cases p
 ·clear k2
  go_enter Tryz.func81,Tryz.ntmps81
  go_upto_region 1 with fail
  rw[←hW]
  clear hW
  go_wp2_with fail
  refine(k1 _).mono ?_
  rintro r w' ⟨rfl,hw⟩
  replace hw:=hw.symm
  subst hw
  go_wp2_with fail
  go_ret
  exact⟨rfl,HB.out⟩
 ·go_enter Tryz.func81,Tryz.ntmps81
  go_upto_region 1 with fail
  rw[←hW]
  clear hW
  go_wp2_with fail
  refine(k1 _).mono ?_
  rintro r w' ⟨rfl,hw⟩
  replace hw:=hw.symm
  subst hw
  go_wp2_with fail
  refine(k2 _).mono ?_
  rintro r w' ⟨rfl,hw⟩
  replace hw:=hw.symm
  subst hw
  go_wp2_with fail
  go_ret
  exact⟨by simp,HB.out⟩
theorem stp_posO {a:Nat} (h:a≤9218868437227405312):stp a=(a:Int):=by
 have h1:neg a=false:=by unfold neg;exact decide_eq_false (by omega)
 have h2:mag a=a:=by unfold mag;omega
 unfold stp sgn
 rw[h1,h2];rfl
theorem lt_posO {a b:Nat} (ha:a≤9218868437227405312) (hb:b≤9218868437227405312):lt a b=decide (a<b):=by
 have h1:isNaN a=false:=by unfold isNaN mag;exact decide_eq_false (by omega)
 have h2:isNaN b=false:=by unfold isNaN mag;exact decide_eq_false (by omega)
 have e1:=stp_posO ha
 have e2:=stp_posO hb
 unfold lt
 rw[h1,h2,e1,e2]
 by_cases h:a<b
 ·rw[decide_eq_true h,decide_eq_true (by omega)];rfl
 ·rw[decide_eq_false h,decide_eq_false (by omega)];rfl
theorem same_ne {a b:Nat} (h:a≠b) (hn:isNaN a=false):same a b=false:=by
 unfold same
 rw[hn,Bool.false_and,Bool.or_false]
 exact beq_eq_false_iff_ne.2 (by omega)
theorem Owhole {x y r : Nat} (hx : x < 18446744073709551616) (hy : y < 18446744073709551616) (hr : r < 18446744073709551616) (fr : mag r < 9218868437227405312) (w : World) :
    Calls Tryz.prog 56 #[.agg #[.complex .f64 x y, .float .f64 r]] w fun r w' => r = .returned (.bool false) ∧ Bw w w' := by
  have hs : same r 9218868437227405312 = false := same_ne (by rintro rfl; exact absurd fr (by decide)) (by unfold isNaN; exact decide_eq_false (by omega))
  have k := fun W => ObSame_1 x y r 0 0 9218868437227405312 _ _ W (fun W => OpSame hx hy (show (0 : Nat) < 18446744073709551616 by decide) (show (0 : Nat) < 18446744073709551616 by decide) W) (fun W => Ie.c11 r 9218868437227405312 hr (by decide) W)
  rw [hs, Bool.and_false] at k
  obtain ⟨W, hW⟩ : ∃ W, W = w.alloc (.cells #[.complex .f64 x y, .float .f64 r] 39) := ⟨_, rfl⟩
  have HX : Hid (BaB W w.heap.size x y r ∧ Bw w W) := ⟨by rw [hW]; exact BaB.new _ _ _ _, by rw [hW]; exact (Below.refl _ _).alloc (Nat.le_refl _) _⟩
  have HK : Hid (∀ w', Bw W w' → w'.cell? ⟨w.heap.size, 0, none⟩ = some (.complex .f64 x y) ∧ w'.cell? ⟨w.heap.size, 1, none⟩ = some (.float .f64 r)) := fun w' hb => (HX.out.1.later hb).facts.1
  have q1 : ∀ W', Bw W W' → Calls Tryz.prog 67 #[] W' fun r w' => r = .returned (.agg #[.complex .f64 0 0, .float .f64 9218868437227405312]) ∧ Bw W w' := fun W' h => (Oplane W').mono fun r w' ⟨e, hb⟩ => ⟨e, h.trans (hb.mono h.size)⟩
  have q2 : ∀ W', Bw W W' → Calls Tryz.prog 81 #[.agg #[.complex .f64 x y, .float .f64 r], .agg #[.complex .f64 0 0, .float .f64 9218868437227405312]] W' fun r w' => r = .returned (.bool false) ∧ Bw W w' := fun W' h => (k W').mono fun r w' ⟨e, hb⟩ => ⟨e, h.trans (hb.mono h.size)⟩
  have hRr : Bw W W.drew := (Below.refl _ _).drew
  obtain ⟨y0, y1⟩ := HK.out W (Below.refl _ _)
  clear hx hy hr fr hs k
  go_enter Tryz.func56, Tryz.ntmps56
  go_upto_region 1 with fail
  rw [← hW]
  clear hW
  go_region_held3 (fun w' => w'.cell? ⟨w.heap.size, 0, none⟩ = some (.complex .f64 x y) ∧ w'.cell? ⟨w.heap.size, 1, none⟩ = some (.float .f64 r)) (first | (with_reducible assumption) | exact HK.out _ hRr | (refine HK.out _ ?_; with_reducible assumption))
    (first | (go_at_call 67; with_reducible refine (q1 _ hRr).mono ?_; rintro r w6 ⟨rfl, hb6⟩)
           | (go_at_call 81; with_reducible refine (q2 _ hb6).mono ?_; rintro r w7 ⟨rfl, hb7⟩))
  go_wp2_with fail
  go_ret
  exact ⟨rfl, HX.out.2.trans (hb7.mono HX.out.2.size)⟩
theorem Ovalid {x y r:Nat} (hx:x<18446744073709551616) (hy:y<18446744073709551616) (fx:mag x<9218868437227405312) (fy:mag y<9218868437227405312) (hr:r<9218868437227405312) (w:World) :
  Calls Tryz.prog 34 #[.agg #[.complex .f64 x y,.float .f64 r]] w fun r w'=>r=.returned (.bool true)∧Bw w w':=by
 have mr:mag r=r:=by unfold mag;omega
 have k1:=fun W=>Owhole hx hy (show r<18446744073709551616 by omega) (by rw[mr];exact hr) W
 have k2:=fun W=>Ofinite hx hy fx fy W
 have c:=cls_fin (a:=r) (by rw[mr];exact hr)
 have a1:(cls r != 1)=true:=by simpa using c.1
 have a2:(cls r != 2)=true:=by simpa using c.2
 have k3:=fun W=>Ie.c9 r (show r<18446744073709551616 by omega) W
 have en:cneg r=false:=by
  unfold cneg
  split
  ·rfl
  ·unfold neg;exact decide_eq_false (by omega)
 rw[en] at k3
 generalize cls r=p at a1 a2 k3
 obtain⟨W,hW⟩:∃ W,W=w.alloc (.cells #[.complex .f64 x y,.float .f64 r] 39):=⟨_,rfl⟩
 have HX:Hid (BaB W w.heap.size x y r∧Bw w W):=⟨by rw[hW];exact BaB.new _ _ _ _,by rw[hW];exact(Below.refl _ _).alloc (Nat.le_refl _) _⟩
 obtain⟨⟨y0,y1⟩,-⟩:=HX.out.1.facts
 clear hx hy fx fy hr mr c en
 go_enter Tryz.func34,Tryz.ntmps34
 go_upto_region 1 with fail
 rw[←hW]
 clear hW
 go_wp2_with fail
 refine(k1 _).mono ?_
 rintro r' w1 ⟨rfl,hb1⟩
 have HY:Hid (BaB w1 w.heap.size x y r∧Bw w w1):=⟨HX.out.1.later hb1,HX.out.2.trans (hb1.mono HX.out.2.size)⟩
 clear hb1 k1 HX y0 y1
 obtain⟨⟨y0,y1⟩,-⟩:=HY.out.1.facts
 go_wp2_with fail
 refine(k3 _).mono ?_
 rintro r' w' ⟨rfl,hw⟩
 replace hw:=hw.symm
 subst hw
 go_wp2_with fail
 refine(k2 _).mono ?_
 rintro r' w' ⟨rfl,hw⟩
 replace hw:=hw.symm
 subst hw
 go_wp2_with fail
 go_ret
 exact⟨rfl,HY.out.2⟩
theorem OorPlane {x y r:Nat} (hx:x<18446744073709551616) (hy:y<18446744073709551616) (fx:mag x<9218868437227405312) (fy:mag y<9218868437227405312) (hr:r<9218868437227405312) (w:World) :
  Calls Tryz.prog 42 #[.complex .f64 x y,.float .f64 r] w fun r' w'=>r'=.returned (.agg #[.complex .f64 x y,.float .f64 r])∧Bw w w':=by
 have k1:=fun W=>Ovalid hx hy fx fy hr W
 obtain⟨V,hV⟩:∃ W,W=w.alloc (.cells #[.complex .f64 0 0,.float .f64 0] 39):=⟨_,rfl⟩
 obtain⟨W,hW⟩:∃ W,W=V.alloc (.cells #[.complex .f64 x y,.float .f64 r] 39):=⟨_,rfl⟩
 have hsV:V.heap.size=w.heap.size+1:=by rw[hV];simp
 have hb1:Bw w V:=by rw[hV];exact(Below.refl _ _).alloc (Nat.le_refl _) _
 have hb2:Bw V W:=by rw[hW];exact(Below.refl _ _).alloc (Nat.le_refl _) _
 have h1:BaB W w.heap.size 0 0 0:=BaB.later (by rw[hV];exact BaB.new _ _ _ _) hb2
 have h2:BaB W (w.heap.size+1) x y r:=by rw[hW,←hsV];exact BaB.new _ _ _ _
 have HB:Hid (BaB W w.heap.size 0 0 0∧BaB W (w.heap.size+1) x y r∧Bw w W):=⟨h1,h2,hb1.trans (hb2.mono hb1.size)⟩
 obtain⟨⟨z0,z1⟩,-⟩:=h2.facts
 rw[hV] at hW
 clear hV hsV hb1 hb2 h1 h2 hx hy fx fy hr
 go_enter Tryz.func42,Tryz.ntmps42
 go_upto_region 2 with fail
 rw[←hW]
 clear hW
 go_wp2_with fail
 refine(k1 _).mono ?_
 rintro r' w1 ⟨rfl,hb1⟩
 have HY:Hid (BaB w1 w.heap.size 0 0 0∧BaB w1 (w.heap.size+1) x y r∧Bw w w1):=⟨HB.out.1.later hb1,HB.out.2.1.later hb1,HB.out.2.2.trans (hb1.mono HB.out.2.2.size)⟩
 clear hb1 k1 HB z0 z1
 obtain⟨⟨z0,z1⟩,-⟩:=HY.out.2.1.facts
 obtain⟨⟨y0,y1⟩,y2,y3⟩:=HY.out.1.facts
 go_wp2_with fail
 refine bodyPost_ret (results_cell_row rfl _ _ w.heap.size 39 #[.complex .f64 x y,.float .f64 r] (0,0) _ rfl (HY.out.1.set _ _ _) Tryz.underlying39 rfl (by kernel_rfl)) rfl ?_
 exact⟨rfl,below2c HY.out.2.2 (Nat.le_refl _) _ _⟩
theorem Oof {x y r:Nat} (hx:x<18446744073709551616) (hy:y<18446744073709551616) (fx:mag x<9218868437227405312) (fy:mag y<9218868437227405312) (hr:r<9218868437227405312) (w:World) :
  Calls Tryz.prog 18 #[.complex .f64 x y,.float .f64 r] w fun r' w'=>r'=.returned (.tuple #[.agg #[.complex .f64 x y,.float .f64 r],.int .i64 0])∧Bw w w':=by
 have mr:mag r=r:=by unfold mag;omega
 have k1:=fun W=>OorPlane hx hy fx fy hr W
 have k2:=fun W=>Ofinite hx hy fx fy W
 have k3:=fun W=>c159 r (by omega) W
 rw[mr] at k3
 have n1:=self_ne x hx
 have n2:=self_ne y hy
 have n3:=self_ne r (by omega)
 rw[show isNaN x=false by unfold isNaN;exact decide_eq_false (by omega)] at n1
 rw[show isNaN y=false by unfold isNaN;exact decide_eq_false (by omega)] at n2
 rw[show isNaN r=false by unfold isNaN;exact decide_eq_false (by omega)] at n3
 have e1:(FloatKind.f64.format.order x x==some Ordering.eq)=true:=by simpa using n1
 have e2:(FloatKind.f64.format.order y y==some Ordering.eq)=true:=by simpa using n2
 have e3:(FloatKind.f64.format.order r r==some Ordering.eq)=true:=by simpa using n3
 have o1:=ord_lt r 0 (by omega) (by decide)
 rw[lt_posO (by omega) (by decide),decide_eq_false (by omega)] at o1
 obtain⟨W,hW⟩:∃ W,W=w.alloc (.cells #[.complex .f64 0 0,.float .f64 0] 39):=⟨_,rfl⟩
 have HX:Hid (BaB W w.heap.size 0 0 0∧Bw w W):=⟨by rw[hW];exact BaB.new _ _ _ _,by rw[hW];exact(Below.refl _ _).alloc (Nat.le_refl _) _⟩
 clear hx hy fx fy hr mr
 go_enter Tryz.func18,Tryz.ntmps18
 go_upto_region 1 with fail
 rw[←hW]
 clear hW
 go_wp2_with fail
 refine(k2 _).mono ?_
 rintro r' w' ⟨rfl,hw⟩
 replace hw:=hw.symm
 subst hw
 go_wp2_with fail
 refine(k3 _).mono ?_
 rintro r' w' ⟨rfl,hw⟩
 replace hw:=hw.symm
 subst hw
 go_wp2_with fail
 refine(k1 _).mono ?_
 rintro r' w1 ⟨rfl,hb1⟩
 have HY:Hid (BaB w1 w.heap.size 0 0 0∧Bw w w1):=⟨HX.out.1.later hb1,HX.out.2.trans (hb1.mono HX.out.2.size)⟩
 clear hb1 HX k1 k2 k3 n1 n2 n3 e1 e2 e3 o1
 obtain⟨⟨y0,y1⟩,y2,y3⟩:=HY.out.1.facts
 go_wp2_with fail
 refine bodyPost_ret (results_cell_tmp_row rfl _ _ w.heap.size 39 #[.complex .f64 x y,.float .f64 r] (0,0) _ rfl (HY.out.1.set _ _ _) Tryz.underlying39 rfl (by kernel_rfl)) rfl ?_
 exact⟨rfl,below2c HY.out.2 (Nat.le_refl _) _ _⟩
attribute [local go_sem] run_store_fltO run_store_cpxO
theorem Bexact_1 (a:Nat) (t:Bool×Nat×Int) (w:World)
  (k:∀ W,Bw w W→Calls Tryz.prog 73 #[.float .f64 a] W fun r w'=>∃ s ao n cap e,r=.returned (.tuple #[.agg #[.bool s,.slice ao n cap,.int .i64 e],.int .i64 0])∧PN w' (.agg #[.bool s,.slice ao n cap,.int .i64 e]) t∧Bw W w') :
  Calls Tryz.prog 117 #[.float .f64 a] w fun r w'=>OutA w t r w':=by
 obtain⟨W,hW⟩:∃ W,W=w.alloc (.cells #[.bool false,.slice none 0 0,.int .i64 0] 47):=⟨_,rfl⟩
 have HX:Hid (Bw w W∧W.heap[w.heap.size]?=some (.cells #[.bool false,.slice none 0 0,.int .i64 0] 47 (0,0))):=⟨by rw[hW];exact(Below.refl _ _).alloc (Nat.le_refl _) _,by rw[hW];exact heap_alloc_new _ _⟩
 have k1:=k W HX.out.1
 clear k
 go_enter Tryz.func117,Tryz.ntmps117
 go_wp2_with fail
 rw[←hW]
 clear hW
 refine k1.mono ?_
 rintro r w1 ⟨s1,ao1,n1,cap1,ex1,rfl,hA,hb1⟩
 obtain⟨W1,hW1⟩:∃ W1,W1=w1.alloc (.cells #[.bool s1,.slice ao1 n1 cap1,.int .i64 ex1] 47):=⟨_,rfl⟩
 have hb2:Bw W W1:=by rw[hW1];exact hb1.alloc hb1.size _
 have HY:Hid (PN W1 (.agg #[.bool s1,.slice ao1 n1 cap1,.int .i64 ex1]) t∧Bw w W1∧W1.heap[w1.heap.size]?=some (.cells #[.bool s1,.slice ao1 n1 cap1,.int .i64 ex1] 47 (0,0))∧W1.heap[w.heap.size]?=some (.cells #[.bool false,.slice none 0 0,.int .i64 0] 47 (0,0))) :=
  ⟨by rw[hW1];exact hA.later ((Below.refl _ _).alloc (Nat.le_refl _) _),HX.out.1.trans (hb2.mono HX.out.1.size),by rw[hW1];exact heap_alloc_new _ _,box_later HX.out.2 hb2 (lt_of_box HX.out.2)⟩
 clear k1 hA hb1 hb2
 go_upto_region 2 with fail
 rw[←hW1]
 clear hW1
 generalize w1.heap.size=g1 at *
 obtain⟨⟨a0,a1,a2⟩,-⟩:=box_cells HY.out.2.2.1
 obtain⟨⟨x1,x2,x3⟩,x4,x5,x6⟩:=box_cells HY.out.2.2.2
 go_wp2
 refine bodyPost_ret (results_cell_row rfl _ _ w.heap.size 47 #[.bool s1,.slice ao1 n1 cap1,.int .i64 ex1] (0,0) _ rfl (store3 _ _ _ HY.out.2.2.2) Tryz.underlying47 rfl Tryz.info47) rfl ?_
 exact⟨_,_,_,_,_,rfl,pn_store HY.out.1 HY.out.2.2.2 _ _ _,below_store3 HY.out.2.1 (Nat.le_refl _) _ _ _⟩
theorem Bexact_ok (a:Nat) (ha:a<18446744073709551616) (hf:mag a<9218868437227405312) (w:World) (hT:Tab32 w) (hI:Ie.Tab w):Calls Tryz.prog 117 #[.float .f64 a] w fun r w'=>OutA w (tF a) r w':=by
 obtain⟨m,hm,hml⟩:=sM_lt a ha
 refine Bexact_1 a (tF a) w fun W hW=>(of_fin a m ha W (hT.later hW) (Tab.later hI hW) hf hm).mono ?_
 rintro r w' ⟨A,rfl,hN,hb⟩
 have hp:=hN.pn
 rw[cn_parts a m ha hf hm] at hp
 obtain⟨s,ao,n,cap,e,rfl⟩:=hp.shape
 exact⟨s,ao,n,cap,e,rfl,hp,hb⟩
theorem Bdiff_1 (a b:Nat) (t t2 ts:Bool×Nat×Int) (w:World)
  (k:Hid (∀ W,Bw w W→Calls Tryz.prog 117 #[.float .f64 a] W fun r w'=>OutA W t r w'))
  (k2:Hid (∀ W,Bw w W→Calls Tryz.prog 117 #[.float .f64 b] W fun r w'=>OutA W t2 r w'))
  (km:Hid (∀ W X Y,Bw w W→PN W X t→PN W Y t2→Calls Tryz.prog 116 #[X,Y] W fun r w'=>∃ s ao n cap e,r=.returned (.tuple #[.agg #[.bool s,.slice ao n cap,.int .i64 e],.int .i64 0])∧PN w' (.agg #[.bool s,.slice ao n cap,.int .i64 e]) ts∧Bw W w')) :
  Calls Tryz.prog 114 #[.float .f64 a,.float .f64 b] w fun r w'=>OutA w ts r w':=by
 obtain⟨W,hW⟩:∃ W,W=w.alloc (.cells #[.bool false,.slice none 0 0,.int .i64 0] 47):=⟨_,rfl⟩
 have HX:Hid (Bw w W∧W.heap[w.heap.size]?=some (.cells #[.bool false,.slice none 0 0,.int .i64 0] 47 (0,0))):=⟨by rw[hW];exact(Below.refl _ _).alloc (Nat.le_refl _) _,by rw[hW];exact heap_alloc_new _ _⟩
 go_enter Tryz.func114,Tryz.ntmps114
 go_wp2_with fail
 rw[←hW]
 clear hW
 refine(k.out W HX.out.1).mono ?_
 rintro r v1 ⟨s1,ao1,n1,cap1,ex1,rfl,hA,hb1⟩
 have HA:Hid (PN v1 (.agg #[.bool s1,.slice ao1 n1 cap1,.int .i64 ex1]) t∧Bw W v1):=⟨hA,hb1⟩
 clear hA hb1
 go_wp2_with fail
 refine(k2.out v1 (HX.out.1.trans (HA.out.2.mono HX.out.1.size))).mono ?_
 rintro r v2 ⟨s2,ao2,n2,cap2,ex2,rfl,hA,hb1⟩
 have HC:Hid (PN v2 (.agg #[.bool s1,.slice ao1 n1 cap1,.int .i64 ex1]) t∧PN v2 (.agg #[.bool s2,.slice ao2 n2 cap2,.int .i64 ex2]) t2∧Bw W v2):=⟨HA.out.1.later hb1,hA,HA.out.2.trans (hb1.mono HA.out.2.size)⟩
 clear hA hb1 HA
 go_wp2_with fail
 refine(km.out v2 _ _ (HX.out.1.trans (HC.out.2.2.mono HX.out.1.size)) HC.out.1 HC.out.2.1).mono ?_
 rintro r w1 ⟨s1,ao1,n1,cap1,ex1,rfl,hA,hb0⟩
 have hb1:=HC.out.2.2.trans (hb0.mono HC.out.2.2.size)
 obtain⟨W1,hW1⟩:∃ W1,W1=w1.alloc (.cells #[.bool s1,.slice ao1 n1 cap1,.int .i64 ex1] 47):=⟨_,rfl⟩
 have hb2:Bw W W1:=by rw[hW1];exact hb1.alloc hb1.size _
 have HY:Hid (PN W1 (.agg #[.bool s1,.slice ao1 n1 cap1,.int .i64 ex1]) ts∧Bw w W1∧W1.heap[w1.heap.size]?=some (.cells #[.bool s1,.slice ao1 n1 cap1,.int .i64 ex1] 47 (0,0))∧W1.heap[w.heap.size]?=some (.cells #[.bool false,.slice none 0 0,.int .i64 0] 47 (0,0))) :=
  ⟨by rw[hW1];exact hA.later ((Below.refl _ _).alloc (Nat.le_refl _) _),HX.out.1.trans (hb2.mono HX.out.1.size),by rw[hW1];exact heap_alloc_new _ _,box_later HX.out.2 hb2 (lt_of_box HX.out.2)⟩
 clear k k2 km hA hb0 hb1 hb2 HC
 go_upto_region 2 with fail
 rw[←hW1]
 clear hW1
 generalize w1.heap.size=g1 at *
 obtain⟨⟨a0,a1,a2⟩,-⟩:=box_cells HY.out.2.2.1
 obtain⟨⟨x1,x2,x3⟩,x4,x5,x6⟩:=box_cells HY.out.2.2.2
 go_wp2
 refine bodyPost_ret (results_cell_row rfl _ _ w.heap.size 47 #[.bool s1,.slice ao1 n1 cap1,.int .i64 ex1] (0,0) _ rfl (store3 _ _ _ HY.out.2.2.2) Tryz.underlying47 rfl Tryz.info47) rfl ?_
 exact⟨_,_,_,_,_,rfl,pn_store HY.out.1 HY.out.2.2.2 _ _ _,below_store3 HY.out.2.1 (Nat.le_refl _) _ _ _⟩
theorem Bsquares_1 (sa:Bool) (aoa:Option Addr) (na capa:Nat) (exa:Int) (sb:Bool) (aob:Option Addr) (nb capb:Nat) (exb:Int) (ta tb t1 t2 t3:Bool×Nat×Int) (w:World) (ha:PN w (.agg #[.bool sa,.slice aoa na capa,.int .i64 exa]) ta) (hb:PN w (.agg #[.bool sb,.slice aob nb capb,.int .i64 exb]) tb)
  (k1:Hid (∀ W X Y,Bw w W→PN W X ta→PN W Y ta→Calls Tryz.prog 70 #[X,Y] W fun r w'=>OutN8 W t1 r w'))
  (k2:Hid (∀ W X Y,Bw w W→PN W X tb→PN W Y tb→Calls Tryz.prog 70 #[X,Y] W fun r w'=>OutN8 W t2 r w'))
  (k3:Hid (∀ W X Y,Bw w W→PN W X t1→PN W Y t2→Calls Tryz.prog 69 #[X,Y] W fun r w'=>OutN8 W t3 r w')) :
  Calls Tryz.prog 138 #[.agg #[.bool sa,.slice aoa na capa,.int .i64 exa],.agg #[.bool sb,.slice aob nb capb,.int .i64 exb]] w fun r w'=>OutA w t3 r w':=by
 obtain⟨V,hV⟩:∃ W,W=w.alloc (.cells #[.bool sa,.slice aoa na capa,.int .i64 exa] 47):=⟨_,rfl⟩
 obtain⟨W,hW⟩:∃ W,W=(V.alloc (.cells #[.bool sb,.slice aob nb capb,.int .i64 exb] 47)).alloc (.cells #[.bool false,.slice none 0 0,.int .i64 0] 47):=⟨_,rfl⟩
 have hsV:V.heap.size=w.heap.size+1:=by rw[hV];simp
 have hbV:Bw w V:=by rw[hV];exact(Below.refl _ _).alloc (Nat.le_refl _) _
 obtain⟨y1,y2,y3,y4⟩:=two29 _ _ hW
 rw[hsV] at y1 y2
 have y0:W.heap[w.heap.size]?=some (.cells #[.bool sa,.slice aoa na capa,.int .i64 exa] 47 (0,0)):=by
  have h0:V.heap[w.heap.size]?=some (.cells #[.bool sa,.slice aoa na capa,.int .i64 exa] 47 (0,0)):=by rw[hV];exact heap_alloc_new _ _
  exact(y4.block _ (Array.getElem?_eq_some_iff.1 h0).1).trans h0
 have hbW:=hbV.trans (y4.mono hbV.size)
 have H0:Hid (PBx W w.heap.size sa aoa na capa exa ta∧PBx W (w.heap.size+1) sb aob nb capb exb tb∧W.heap[w.heap.size+1+1]?=some (.cells #[.bool false,.slice none 0 0,.int .i64 0] 47 (0,0))∧Bw w W):=⟨⟨y0,ha.later hbW⟩,⟨y1,hb.later hbW⟩,y2,hbW⟩
 rw[hV] at hW
 clear hV hsV hbV y0 y1 y2 y3 y4 hbW ha hb
 go_enter Tryz.func138,Tryz.ntmps138
 go_upto_region 1 with fail
 rw[←hW]
 clear hW
 obtain⟨⟨a0,a1,a2⟩,-⟩:=box_cells H0.out.1.1
 have kk:=k1.out W _ _ H0.out.2.2.2 H0.out.1.2 H0.out.1.2
 go_wp2_with fail
 refine kk.mono ?_
 rintro r v1 ⟨s1,ao1,n1,cap1,ex1,rfl,hA,hb1⟩
 obtain⟨W1,hW1⟩:∃ W1,W1=v1.alloc (.cells #[.bool s1,.slice ao1 n1 cap1,.int .i64 ex1] 47):=⟨_,rfl⟩
 obtain⟨g1,hg1⟩:∃ g,g=v1.heap.size:=⟨_,rfl⟩
 have hb2:Bw W W1:=by rw[hW1];exact hb1.alloc hb1.size _
 have H1:Hid (PBx W1 g1 s1 ao1 n1 cap1 ex1 t1∧PBx W1 (w.heap.size+1) sb aob nb capb exb tb∧W1.heap[w.heap.size+1+1]?=some (.cells #[.bool false,.slice none 0 0,.int .i64 0] 47 (0,0))∧Bw w W1):=⟨⟨by rw[hW1,hg1];exact heap_alloc_new _ _,by rw[hW1];exact hA.later ((Below.refl _ _).alloc (Nat.le_refl _) _)⟩,H0.out.2.1.later hb2,box_later H0.out.2.2.1 hb2 (lt_of_box H0.out.2.2.1),H0.out.2.2.2.trans (hb2.mono H0.out.2.2.2.size)⟩
 clear kk hA hb1 hb2 H0 k1 a0 a1 a2
 go_upto_region 2 with fail
 rw[←hW1,←hg1]
 clear hW1 hg1
 obtain⟨⟨a0,a1,a2⟩,-⟩:=box_cells H1.out.2.1.1
 have kk:=k2.out W1 _ _ H1.out.2.2.2 H1.out.2.1.2 H1.out.2.1.2
 go_wp2_with fail
 refine kk.mono ?_
 rintro r v2 ⟨s2,ao2,n2,cap2,ex2,rfl,hA,hb1⟩
 obtain⟨W2,hW2⟩:∃ W1,W1=v2.alloc (.cells #[.bool s2,.slice ao2 n2 cap2,.int .i64 ex2] 47):=⟨_,rfl⟩
 obtain⟨g2,hg2⟩:∃ g,g=v2.heap.size:=⟨_,rfl⟩
 have hb2:Bw W1 W2:=by rw[hW2];exact hb1.alloc hb1.size _
 have H2:Hid (PBx W2 g1 s1 ao1 n1 cap1 ex1 t1∧PBx W2 g2 s2 ao2 n2 cap2 ex2 t2∧W2.heap[w.heap.size+1+1]?=some (.cells #[.bool false,.slice none 0 0,.int .i64 0] 47 (0,0))∧Bw w W2):=⟨H1.out.1.later hb2,⟨by rw[hW2,hg2];exact heap_alloc_new _ _,by rw[hW2];exact hA.later ((Below.refl _ _).alloc (Nat.le_refl _) _)⟩,box_later H1.out.2.2.1 hb2 (lt_of_box H1.out.2.2.1),H1.out.2.2.2.trans (hb2.mono H1.out.2.2.2.size)⟩
 clear kk hA hb1 hb2 H1 k2 a0 a1 a2
 go_upto_region 3 with fail
 rw[←hW2,←hg2]
 clear hW2 hg2
 obtain⟨⟨a0,a1,a2⟩,-⟩:=box_cells H2.out.1.1
 obtain⟨⟨b0,b1,b2⟩,-⟩:=box_cells H2.out.2.1.1
 have kk:=k3.out W2 _ _ H2.out.2.2.2 H2.out.1.2 H2.out.2.1.2
 go_wp2_with fail
 refine kk.mono ?_
 rintro r v3 ⟨s3,ao3,n3,cap3,ex3,rfl,hA,hb1⟩
 obtain⟨W3,hW3⟩:∃ W1,W1=v3.alloc (.cells #[.bool s3,.slice ao3 n3 cap3,.int .i64 ex3] 47):=⟨_,rfl⟩
 obtain⟨g3,hg3⟩:∃ g,g=v3.heap.size:=⟨_,rfl⟩
 have hb2:Bw W2 W3:=by rw[hW3];exact hb1.alloc hb1.size _
 have H3:Hid (PBx W3 g3 s3 ao3 n3 cap3 ex3 t3∧W3.heap[w.heap.size+1+1]?=some (.cells #[.bool false,.slice none 0 0,.int .i64 0] 47 (0,0))∧Bw w W3):=⟨⟨by rw[hW3,hg3];exact heap_alloc_new _ _,by rw[hW3];exact hA.later ((Below.refl _ _).alloc (Nat.le_refl _) _)⟩,box_later H2.out.2.2.1 hb2 (lt_of_box H2.out.2.2.1),H2.out.2.2.2.trans (hb2.mono H2.out.2.2.2.size)⟩
 clear kk hA hb1 hb2 H2 k3 a0 a1 a2 b0 b1 b2
 go_upto_region 4 with fail
 rw[←hW3,←hg3]
 clear hW3 hg3
 obtain⟨⟨a0,a1,a2⟩,-⟩:=box_cells H3.out.1.1
 obtain⟨⟨x1,x2,x3⟩,x4,x5,x6⟩:=box_cells H3.out.2.1
 go_wp2_with fail
 refine bodyPost_ret (results_cell_row rfl _ _ (w.heap.size+1+1) 47 #[.bool s3,.slice ao3 n3 cap3,.int .i64 ex3] (0,0) _ rfl (store3 _ _ _ H3.out.2.1) Tryz.underlying47 rfl Tryz.info47) rfl ?_
 exact⟨_,_,_,_,_,rfl,pn_store H3.out.1.2 H3.out.2.1 _ _ _,below_store3 H3.out.2.2 (by omega) _ _ _⟩
theorem Bapart_1 (x y u v:Nat) (t1 t2 t3:Bool×Nat×Int) (w:World)
  (k1:Hid (∀ W,Bw w W→Calls Tryz.prog 114 #[.float .f64 x,.float .f64 u] W fun r w'=>OutA W t1 r w'))
  (k2:Hid (∀ W,Bw w W→Calls Tryz.prog 114 #[.float .f64 y,.float .f64 v] W fun r w'=>OutA W t2 r w'))
  (k3:Hid (∀ W X Y,Bw w W→PN W X t1→PN W Y t2→Calls Tryz.prog 138 #[X,Y] W fun r w'=>OutA W t3 r w')) :
  Calls Tryz.prog 115 #[.complex .f64 x y,.complex .f64 u v] w fun r w'=>OutA w t3 r w':=by
 obtain⟨W,hW⟩:∃ W,W=w.alloc (.cells #[.bool false,.slice none 0 0,.int .i64 0] 47):=⟨_,rfl⟩
 have HX:Hid (Bw w W∧W.heap[w.heap.size]?=some (.cells #[.bool false,.slice none 0 0,.int .i64 0] 47 (0,0))):=⟨by rw[hW];exact(Below.refl _ _).alloc (Nat.le_refl _) _,by rw[hW];exact heap_alloc_new _ _⟩
 go_enter Tryz.func115,Tryz.ntmps115
 go_upto_region 1 with fail
 rw[←hW]
 clear hW
 go_wp2_with fail
 refine(k1.out W HX.out.1).mono ?_
 rintro r v1 ⟨s1,ao1,n1,cap1,ex1,rfl,hA,hb1⟩
 have HA:Hid (PN v1 (.agg #[.bool s1,.slice ao1 n1 cap1,.int .i64 ex1]) t1∧Bw W v1):=⟨hA,hb1⟩
 clear hA hb1 k1
 go_wp2_with fail
 refine(k2.out v1 (HX.out.1.trans (HA.out.2.mono HX.out.1.size))).mono ?_
 rintro r v2 ⟨s2,ao2,n2,cap2,ex2,rfl,hA,hb1⟩
 have HB:Hid (PN v2 (.agg #[.bool s1,.slice ao1 n1 cap1,.int .i64 ex1]) t1∧PN v2 (.agg #[.bool s2,.slice ao2 n2 cap2,.int .i64 ex2]) t2∧Bw W v2):=⟨HA.out.1.later hb1,hA,HA.out.2.trans (hb1.mono HA.out.2.size)⟩
 clear hA hb1 k2 HA
 have kk:=k3.out v2 _ _ (HX.out.1.trans (HB.out.2.2.mono HX.out.1.size)) HB.out.1 HB.out.2.1
 go_wp2_with fail
 refine kk.mono ?_
 rintro r v3 ⟨s3,ao3,n3,cap3,ex3,rfl,hA,hb0⟩
 have hb1:=HB.out.2.2.trans (hb0.mono HB.out.2.2.size)
 have HC:Hid (PN v3 (.agg #[.bool s3,.slice ao3 n3 cap3,.int .i64 ex3]) t3∧Bw w v3∧v3.heap[w.heap.size]?=some (.cells #[.bool false,.slice none 0 0,.int .i64 0] 47 (0,0))):=⟨hA,HX.out.1.trans (hb1.mono HX.out.1.size),box_later HX.out.2 hb1 (lt_of_box HX.out.2)⟩
 clear kk hA hb0 hb1 HB HX k3
 obtain⟨⟨x1,x2,x3⟩,x4,x5,x6⟩:=box_cells HC.out.2.2
 go_wp2_with fail
 refine bodyPost_ret (results_cell_row rfl _ _ w.heap.size 47 #[.bool s3,.slice ao3 n3 cap3,.int .i64 ex3] (0,0) _ rfl (store3 _ _ _ HC.out.2.2) Tryz.underlying47 rfl Tryz.info47) rfl ?_
 exact⟨_,_,_,_,_,rfl,pn_store HC.out.1 HC.out.2.2 _ _ _,below_store3 HC.out.2.1 (Nat.le_refl _) _ _ _⟩
end Go.Proofs.YtgdhdailchonmabGreatDoor
