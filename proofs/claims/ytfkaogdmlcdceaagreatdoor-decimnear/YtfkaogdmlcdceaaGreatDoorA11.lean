/- Own work: contracts of the program's functions, part 11: FR9 FRB SNR SNN SNS SNK SNT SNU SNV FRC SNW SNX SNY SNZ SO1 FRD FRE FRF FRG DC5 DC6 DC7 DC8 DC9 DCA DCB DCC. -/
import Derived.Test.YtfkaogdmlcdceaaGreatDoorA10
import Derived.Test.YtfkaogdmlcdceaaGreatDoorA8
import Derived.Test.YtfkaogdmlcdceaaGreatDoorA9
import Derived.Test.YtfkaogdmlcdceaaGreatDoorA7
import Derived.Test.YtfkaogdmlcdceaaGreatDoorA4
import Derived.Test.YtfkaogdmlcdceaaGreatDoorA5
import Derived.Laws.IdiomStrings

set_option maxHeartbeats 16000000
set_option maxRecDepth 200000
set_option linter.unusedVariables false
set_option linter.unusedSimpArgs false
namespace Go.Proofs.YtfkaogdmlcdceaaGreatDoor
open Go.RowKit Go.Fl64
def bU:Nat:=2200
theorem fU_lt (a:Nat):fU a<2^bU:=by
 unfold fU
 have h1:=Ie.mant_bound a
 have h2:=(Ie.lp_bound a).2
 obtain⟨e,he⟩:∃ e,e=(Ie.lp a+1074).toNat:=⟨_,rfl⟩
 rw[←he]
 have h3:Ie.mant a<2^53:=by omega
 have h4:Ie.mant a*2^e<2^53*2^e:=Nat.mul_lt_mul_of_pos_right h3 (Nat.two_pow_pos _)
 rw[←Nat.pow_add] at h4
 exact Nat.lt_of_lt_of_le h4 (Nat.pow_le_pow_right (by decide) (by unfold bU;omega))
def pU (n:Nat):Nat:=2^n
theorem pU_pos (n:Nat):0<pU n:=Nat.two_pow_pos n
def kU:Nat:=pU 1074
theorem kU_pos:0<kU:=pU_pos 1074
theorem pU_lt {n m:Nat} (h:n<m):pU n<2^m:=Nat.pow_lt_pow_right (by decide) h
theorem kU_lt:kU<2^bU:=pU_lt (by unfold bU;decide)
theorem pneg_un {Z:Int} {b:Nat} (h:Z.natAbs<2^b) (hb:b≤60000) {W:World} {X:Value} (hX:PN W X (un Z 0)):Calls Tryz.prog 123 #[X] W fun r w'=>OutP W (un (-Z) 0) r w':=by
 obtain⟨ao,cap,rfl,hI⟩:=hX
 have ok:=ok_un (p:=0) h hb (by omega)
 have f:=ok.facts
 refine(negw_ok hI (by omega) ok).mono ?_
 rintro r w' ⟨v,rfl,hO,hB⟩
 have e:=gN_un (a:=Z) (p:=0)
 obtain⟨ao',cap',rfl,o1,o2,o3⟩:=hO.is
 have hI':Is w' (.slice ao' (dlen (un Z 0).2.1) cap') (un Z 0).2.1:=⟨ao',cap',rfl,o1,o2,o3⟩
 refine⟨_,_,_,_,_,rfl,⟨ao',cap',?_,?_⟩,hB⟩
 ·rw[←e]
  unfold gN
  by_cases h0:(un Z 0).2.1=0
  ·have:=f.2.2.2.1 h0
   rw[if_pos h0,this,show dlen (false,0,(0:Int)).2.1=0 from dlen_zero]
   rfl
  ·rw[if_neg h0]
   have:0<dlen (un Z 0).2.1:=by have:=dlen_pos h0;omega
   rw[decide_eq_true this,Bool.and_true]
 ·rw[←e]
  unfold gN
  by_cases h0:(un Z 0).2.1=0
  ·rw[if_pos h0];rw[h0] at hI';exact hI'
  ·rw[if_neg h0];exact hI'
theorem rowsF (T:TypeId):∀ L:List (World→Value→Prop),RowsAll T (fun _=>False) L
 | []=>trivial
 | _ :: r=>⟨fun _ _ _ _ _ _ h=>h.elim,rowsF T r⟩
theorem r_region {ops:Array Oper} {Q:Exit→Act→World→Prop} {id:Nat} (PVL SL:List Nat) (D:List (List Nat))
  (W0:World) (a0:Act) (L:List (World→Value→Prop)) (hchk:qchk ops PVL [] SL D [] []=true)
  (hV1:StaysAll L) (hsl:∀ s ∈ SL,s<a0.tmps.size)
  (hA:∀ j,j<PVL.length→∀ o,ops[PVL.getD j 0]?=some o→∀ (a:Act) (w:World),Bw W0 w→(∀ s:Nat,SL.contains s=false→a.tmps[s]?=a0.tmps[s]?) →
   (∀ j' ∈ dL D j,∃ u,a.tmps[SL.getD j' 0]?=some u∧vL L j' w u) →
   (o.guard=none∧o.wp Tryz.prog a w (fun a' w'=>∃ u,a'=a.put o.dst u∧vL L j w' u∧Bw w w') Q)∨wpOp Tryz.prog ops Q (PVL.getD j 0) (fun a' w'=>∃ u,a'=a.put o.dst u∧vL L j w' u∧Bw w w') a w)
  (hQ:∀ (u:Nat→Value) (w:World),Bw W0 w→(∀ j,j<PVL.length→vL L j w (u j))→Q .normal (putL a0 ((List.range PVL.length).map (fun j=>(SL.getD j 0,u j)))) w) :
  (Code.region id ops true).wp Tryz.prog Q a0 W0 :=
 q_region follows_mixed PVL [] SL D [] [] (fun _=>0) (fun _=>0) W0.heap.size 50 (fun _=>False) 3 W0 a0 L hchk hV1 (rowsF _ L) hsl
  (fun k hk=>absurd hk (Nat.not_lt_zero _)) (fun j hj o ho a w hk ho1 hd _=>hA j hj o ho a w hk.below ho1 hd) Tryz.info50
  (fun k hk=>absurd hk (Nat.not_lt_zero _)) (fun k hk=>absurd hk (Nat.not_lt_zero _)) (fun k hk=>absurd hk (Nat.not_lt_zero _)) (fun k k' hk=>absurd hk (Nat.not_lt_zero _)) (Nat.le_refl _)
  (fun u w hk hu _=>hQ u w hk.below hu)
theorem dV {a:Act} {s:Tmp} {L:List (World→Value→Prop)} {j:Nat} {w:World} {x:Value} (h:∃ u,a.tmps[s]?=some u∧vL L j w u) (e:vL L j=isV x):a.tmps[s]?=some x:=by
 obtain⟨u,h1,h2⟩:=h
 rw[e] at h2
 obtain rfl:u=x:=h2
 exact h1
theorem owp_ldF {Q:Exit→Act→World→Prop} {o:Oper} {K:Act→World→Prop} {a:Act} {w:World} {s:Tmp} {g f x:Nat} (hop:o.op=.load 22 (.tmp s)) (hs:a.tmps[s]?=some (.pointer (some ⟨g,f,none⟩))) (hc:w.cell? ⟨g,f,none⟩=some (.float .f64 x)) (h:K (a.put o.dst (.float .f64 x)) w):o.wp Tryz.prog a w K Q :=
 owp_run1 (w':=w) (by simp[execOp,hop,eval_get hs,run_loadF _ _ _ w hc]) h
theorem map2 {a:Act} {s t:Tmp} {v u:Value} (h:a.tmps[s]?=some v) (h':a.tmps[t]?=some u) : #[Operand.tmp s,Operand.tmp t].map a.eval = #[v,u]:=by simp[eval_get h,eval_get h']
theorem owp_fldS0 {Q:Exit→Act→World→Prop} {o:Oper} {K:Act→World→Prop} {a:Act} {w:World} {s:Tmp} {g:Nat} (hop:o.op=.fieldAddr 104 (.tmp s) 0) (hs:a.tmps[s]?=some (.pointer (some ⟨g,0,none⟩))) (h:K (a.put o.dst (.pointer (some ⟨g,0,none⟩))) w):o.wp Tryz.prog a w K Q :=
 owp_run1 (w':=w) (by simp[execOp,hop,Act.eval,hs,go_sem]) h
theorem owp_fldS1 {Q:Exit→Act→World→Prop} {o:Oper} {K:Act→World→Prop} {a:Act} {w:World} {s:Tmp} {g:Nat} (hop:o.op=.fieldAddr 104 (.tmp s) 1) (hs:a.tmps[s]?=some (.pointer (some ⟨g,0,none⟩))) (h:K (a.put o.dst (.pointer (some ⟨g,3,none⟩))) w):o.wp Tryz.prog a w K Q :=
 owp_run1 (w':=w) (by simp[execOp,hop,Act.eval,hs,go_sem]) h
theorem owp_ldP {Q:Exit→Act→World→Prop} {o:Oper} {K:Act→World→Prop} {a:Act} {w:World} {s:Tmp} {g f:Nat} {sx:Bool} {aox:Option Addr} {nx cpx:Nat} {ex:Int} (hop:o.op=.load 50 (.tmp s)) (hs:a.tmps[s]?=some (.pointer (some ⟨g,f,none⟩))) (h0:w.cell? ⟨g,f,none⟩=some (.bool sx)) (h1:w.cell? ⟨g,f+1,none⟩=some (.slice aox nx cpx)) (h2:w.cell? ⟨g,f+2,none⟩=some (.int .i64 ex)) (h:K (a.put o.dst (.agg #[.bool sx,.slice aox nx cpx,.int .i64 ex])) w):o.wp Tryz.prog a w K Q :=
 owp_run1 (w':=w) (by simp[execOp,hop,eval_get hs,run_ldN _ f _ _ _ _ _ w h0 h1 h2]) h
theorem owp_extS {P:Program} {Q:Exit→Act→World→Prop} {o:Oper} {K:Act→World→Prop} {a:Act} {w:World} {s:Tmp} {i:Nat} {vs:Array Value} {v:Value} (hop:o.op=.extract (.tmp s) i) (hs:a.tmps[s]?=some (.tuple vs)) (hv:vs[i]?=some v) (h:K (a.put o.dst v) w):o.wp P a w K Q :=
 owp_run1 (w':=w) (by simp[execOp,hop,eval_get hs,hv,Instr.extract]) h
theorem map3k {a:Act} {s t:Tmp} {v u c:Value} (h:a.tmps[s]?=some v) (h':a.tmps[t]?=some u) : #[Operand.tmp s,Operand.tmp t,Operand.const c].map a.eval = #[v,u,c]:=by simp[Act.eval,h,h']
def isT3 (t:Bool×Nat×Int) (b:Bool):World→Value→Prop:=fun w u=>∃ A,u=.tuple #[A,.bool b,.int .i64 0]∧PN w A t
theorem isT3_stays (t:Bool×Nat×Int) (b:Bool):Stays (isT3 t b):=fun _ _ _ hb ⟨A,h1,h2⟩=>⟨A,h1,h2.later hb⟩
theorem isT3_rows (t:Bool×Nat×Int) (b:Bool):∀ w u g cs',w.heap[g]?=some (.cells #[.bool false,.slice none 0 0,.int .i64 0] 50 (0,0))→isT3 t b w u→isT3 t b (w.setRow g cs') u:=fun w u g cs' hg ⟨A,h1,h2⟩=>⟨A,h1,PN.row3 h2 hg ⟨_,_,_,_,_,rfl⟩ cs'⟩
theorem isP_rows8 (t:Bool×Nat×Int):∀ w u g cs',w.heap[g]?=some (.cells #[.bool false,.slice none 0 0,.int .i64 0] 50 (0,0))→isP t w u→isP t (w.setRow g cs') u:=fun w u g cs' hg h2=>PN.row3 h2 hg ⟨_,_,_,_,_,rfl⟩ cs'
theorem zeroN8 (w:World):(zeroValue 50).run Tryz.prog w=.ok (.agg #[.bool false,.slice none 0 0,.int .i64 0]) w:=Tryz.zeroValue50 w
def OutFl (W:World) (t:Bool×Nat×Int) (b:Bool) (r:Ending) (w':World):Prop:=∃ (s1:Bool) (ao1:Option Addr) (n1 cp1:Nat) (e1:Int),r=.returned (.tuple #[.agg #[.bool s1,.slice ao1 n1 cp1,.int .i64 e1],.bool b])∧PN w' (.agg #[.bool s1,.slice ao1 n1 cp1,.int .i64 e1]) t∧Bw W w'
theorem Dfloor_1 (s1:Bool) (ao1:Option Addr) (n1 cp1:Nat) (e1:Int) (s2:Bool) (ao2:Option Addr) (n2 cp2:Nat) (e2:Int) (s3:Bool) (ao3:Option Addr) (n3 cp3:Nat) (e3:Int) (t1 t2 t3 tm tq:Bool×Nat×Int) (bx:Bool) (w:World) (h1:PN w (.agg #[.bool s1,.slice ao1 n1 cp1,.int .i64 e1]) t1) (h2:PN w (.agg #[.bool s2,.slice ao2 n2 cp2,.int .i64 e2]) t2) (h3:PN w (.agg #[.bool s3,.slice ao3 n3 cp3,.int .i64 e3]) t3)
  (k1:∀ W X Y,Bw w W→PN W X t3→PN W Y t1→Calls Tryz.prog 94 #[X,Y] W fun r w'=>OutA W tm r w')
  (k2:∀ W X Y,Bw w W→PN W X tm→PN W Y t2→Calls Tryz.prog 90 #[X,Y,.int .i64 0] W fun r w'=>∃ A,r=.returned (.tuple #[A,.bool bx,.int .i64 0])∧PN w' A tq∧Bw W w') :
  Calls Tryz.prog 96 #[.agg #[.bool s1,.slice ao1 n1 cp1,.int .i64 e1,.bool s2,.slice ao2 n2 cp2,.int .i64 e2],.agg #[.bool s3,.slice ao3 n3 cp3,.int .i64 e3]] w fun r w'=>OutFl w tq bx r w':=by
 obtain⟨W,hW⟩:∃ W,W=((w.alloc (.cells #[.bool s1,.slice ao1 n1 cp1,.int .i64 e1,.bool s2,.slice ao2 n2 cp2,.int .i64 e2] 104)).alloc (.cells #[.bool s3,.slice ao3 n3 cp3,.int .i64 e3] 50)).alloc (.cells #[.bool false,.slice none 0 0,.int .i64 0] 50):=⟨_,rfl⟩
 obtain⟨m1,m2,m3,hBW⟩:=three_new _ _ _ hW
 have H0:Hid (W.heap[w.heap.size]?=some (.cells #[.bool s1,.slice ao1 n1 cp1,.int .i64 e1,.bool s2,.slice ao2 n2 cp2,.int .i64 e2] 104 (0,0))∧PBx W (w.heap.size+1) s3 ao3 n3 cp3 e3 t3∧W.heap[w.heap.size+1+1]?=some (.cells #[.bool false,.slice none 0 0,.int .i64 0] 50 (0,0))∧Bw w W∧PN W (.agg #[.bool s1,.slice ao1 n1 cp1,.int .i64 e1]) t1∧PN W (.agg #[.bool s2,.slice ao2 n2 cp2,.int .i64 e2]) t2):=⟨m1,⟨m2,h3.later hBW⟩,m3,hBW,h1.later hBW,h2.later hBW⟩
 clear m1 m2 m3 hBW h1 h2 h3
 go_enter Tryz.func96,Tryz.ntmps96
 go_upto_region 1 with fail
 rw[←hW]
 clear hW
 obtain⟨m1,m2,m3,hBW,p1,p2⟩:=H0.out
 refine x_region follows_mixed [0,1,2,3,4,5,6,7,8,9,10,13,14] [11] [12] [10,11,12,13,14,15,16,9,17,18,19,7,8] [6] [[],[],[1],[0,2],[],[4],[3,5],[6],[7],[7],[7],[9],[10]] [8] 50 #[.bool false,.slice none 0 0,.int .i64 0] W _ [isV (.agg #[.bool s3,.slice ao3 n3 cp3,.int .i64 e3]),isV (.pointer (some ⟨w.heap.size,0,none⟩)),isV (.agg #[.bool s1,.slice ao1 n1 cp1,.int .i64 e1]),isP tm,isV (.pointer (some ⟨w.heap.size,3,none⟩)),isV (.agg #[.bool s2,.slice ao2 n2 cp2,.int .i64 e2]),isT3 tq bx,isT3 tq bx,isP tq,isV (.bool bx),isV (.int .i64 0),isV (.bool bx),isV (.int .i64 0)] (by kernel_rfl) ⟨isV_stays _,isV_stays _,isV_stays _,isP_stays _,isV_stays _,isV_stays _,isT3_stays _ _,isT3_stays _ _,isP_stays _,isV_stays _,isV_stays _,isV_stays _,isV_stays _,trivial⟩ ⟨fun _ _ _ _ _ h=>h,fun _ _ _ _ _ h=>h,fun _ _ _ _ _ h=>h,isP_rows8 _,fun _ _ _ _ _ h=>h,fun _ _ _ _ _ h=>h,isT3_rows _ _,isT3_rows _ _,isP_rows8 _,fun _ _ _ _ _ h=>h,fun _ _ _ _ _ h=>h,fun _ _ _ _ _ h=>h,fun _ _ _ _ _ h=>h,trivial⟩ (by show ∀ s ∈ [10,11,12,13,14,15,16,9,17,18,19,7,8] ++ [6],s<22;decide) ?_ ?_ ?_ zeroN8 Tryz.info50 ?_ ?_
 ·intro k' hk U u h
  obtain rfl:k'=0:=Nat.lt_one_iff.1 hk
  obtain⟨ao,cap,rfl,-⟩:=(show PN U u tq from h)
  exact⟨_,rfl,rfl,one3 rfl rfl⟩
 ·intro j hj o ho act U hb hoth hdep
  have hj':j<13:=hj
  have hbU:Bw w U:=hBW.trans (hb.mono hBW.size)
  have t2':act.tmps[(2:Nat)]?=some (Value.pointer (some ⟨w.heap.size,0,none⟩)):=(hoth 2 (by decide)).trans rfl
  have t3':act.tmps[(3:Nat)]?=some (Value.pointer (some ⟨w.heap.size+1,0,none⟩)):=(hoth 3 (by decide)).trans rfl
  have d2:=(cells6F (box_later m1 hb (lt_of_box m1))).1
  have d3:=(cells3N (box_later m2.1 hb (lt_of_box m2.1))).1
  rcases(by omega:j=0∨j=1∨j=2∨j=3∨j=4∨j=5∨j=6∨j=7∨j=8∨j=9∨j=10∨j=11∨j=12)with rfl|rfl|rfl|rfl|rfl|rfl|rfl|rfl|rfl|rfl|rfl|rfl|rfl
  ·obtain rfl:=Option.some.inj ho
   exact .inl ⟨rfl,owp_ldP (f:=0) rfl t3' d3.1 d3.2.1 d3.2.2 ⟨_,rfl,rfl,Below.refl _ _⟩⟩
  ·obtain rfl:=Option.some.inj ho
   exact .inl ⟨rfl,owp_fldS0 rfl t2' ⟨_,rfl,rfl,Below.refl _ _⟩⟩
  ·obtain rfl:=Option.some.inj ho
   have y:act.tmps[(11:Nat)]?=_:=dV (hdep 1 (by simp[dL])) rfl
   exact .inl ⟨rfl,owp_ldP (f:=0) rfl y d2.1 d2.2.1 d2.2.2.1 ⟨_,rfl,rfl,Below.refl _ _⟩⟩
  ·obtain rfl:=Option.some.inj ho
   have y0:act.tmps[(10:Nat)]?=_:=dV (hdep 0 (by simp[dL])) rfl
   have y2:act.tmps[(12:Nat)]?=_:=dV (hdep 2 (by simp[dL])) rfl
   refine .inl ⟨rfl,owp_call rfl (enters Tryz.func94 (by kernel_rfl) (by kernel_rfl)) (map2 y0 y2) ?_⟩
   refine(k1 U _ _ hbU (m2.2.later hb) (p1.later hb)).mono ?_
   rintro r w' ⟨_,_,_,_,_,rfl,hA,hb'⟩
   exact⟨_,rfl,_,rfl,hA,hb'⟩
  ·obtain rfl:=Option.some.inj ho
   exact .inl ⟨rfl,owp_fldS1 rfl t2' ⟨_,rfl,rfl,Below.refl _ _⟩⟩
  ·obtain rfl:=Option.some.inj ho
   have y:act.tmps[(14:Nat)]?=_:=dV (hdep 4 (by simp[dL])) rfl
   exact .inl ⟨rfl,owp_ldP (f:=3) rfl y d2.2.2.2.1 d2.2.2.2.2.1 d2.2.2.2.2.2 ⟨_,rfl,rfl,Below.refl _ _⟩⟩
  ·obtain rfl:=Option.some.inj ho
   obtain⟨u3,y3,v3⟩:=hdep 3 (by simp[dL])
   have y3':act.tmps[(13:Nat)]?=_:=y3
   have y5:act.tmps[(15:Nat)]?=_:=dV (hdep 5 (by simp[dL])) rfl
   refine .inl ⟨rfl,owp_call rfl (enters Tryz.func90 (by kernel_rfl) (by kernel_rfl)) (map3k y3' y5) ?_⟩
   refine(k2 U _ _ hbU v3 (p2.later hb)).mono ?_
   rintro r w' ⟨A,rfl,hA,hb'⟩
   exact⟨_,rfl,_,rfl,⟨A,rfl,hA⟩,hb'⟩
  ·obtain rfl:=Option.some.inj ho
   obtain⟨u6,y6,v6⟩:=hdep 6 (by simp[dL])
   have y6':act.tmps[(16:Nat)]?=_:=y6
   exact .inl ⟨rfl,owp_move rfl y6' ⟨_,rfl,v6,Below.refl _ _⟩⟩
  ·obtain rfl:=Option.some.inj ho
   obtain⟨u7,y7,A,rfl,vA⟩:=hdep 7 (by simp[dL])
   have y7':act.tmps[(9:Nat)]?=_:=y7
   exact .inl ⟨rfl,owp_extS rfl y7' rfl ⟨_,rfl,vA,Below.refl _ _⟩⟩
  ·obtain rfl:=Option.some.inj ho
   obtain⟨u7,y7,A,rfl,vA⟩:=hdep 7 (by simp[dL])
   have y7':act.tmps[(9:Nat)]?=_:=y7
   exact .inl ⟨rfl,owp_extS rfl y7' rfl ⟨_,rfl,rfl,Below.refl _ _⟩⟩
  ·obtain rfl:=Option.some.inj ho
   obtain⟨u7,y7,A,rfl,vA⟩:=hdep 7 (by simp[dL])
   have y7':act.tmps[(9:Nat)]?=_:=y7
   exact .inl ⟨rfl,owp_extS rfl y7' rfl ⟨_,rfl,rfl,Below.refl _ _⟩⟩
  ·obtain rfl:=Option.some.inj ho
   have y:act.tmps[(18:Nat)]?=_:=dV (hdep 9 (by simp[dL])) rfl
   exact .inl ⟨rfl,owp_assign rfl y ⟨_,rfl,rfl,Below.refl _ _⟩⟩
  ·obtain rfl:=Option.some.inj ho
   have y:act.tmps[(19:Nat)]?=_:=dV (hdep 10 (by simp[dL])) rfl
   exact .inl ⟨rfl,owp_assign rfl y ⟨_,rfl,rfl,Below.refl _ _⟩⟩
 ·intro k' hk
  obtain rfl:k'=0:=Nat.lt_one_iff.1 hk
  exact⟨_,rfl,rfl⟩
 ·intro k' hk
  obtain rfl:k'=0:=Nat.lt_one_iff.1 hk
  exact⟨_,rfl,rfl⟩
 ·intro u g W3 hb3 hu hg hap
  obtain⟨g0,cs0,q0,z0⟩:=hg 0 (by decide)
  have q8:PN W3 (u 8) tq:=hu 8 (by decide)
  have u11:u 11=.bool bx:=hu 11 (by decide)
  have q0':u 8=.agg cs0:=q0
  rw[q0'] at q8
  obtain⟨s5,ao5,n5,cp5,e5,h5⟩:=q8.shape1
  obtain rfl:=Value.agg.inj h5
  obtain⟨gqS,hgS⟩:∃ gqS,gqS=g 0:=⟨_,rfl⟩
  rw[←hgS] at z0 g0
  have H3:Hid (PBx W3 gqS s5 ao5 n5 cp5 e5 tq∧W3.heap[w.heap.size+1+1]?=some (.cells #[.bool false,.slice none 0 0,.int .i64 0] 50 (0,0))∧Bw w W3):=⟨⟨z0,q8⟩,box_later m3 hb3 (lt_of_box m3),hBW.trans (hb3.mono hBW.size)⟩
  clear hu hg hap hb3 m1 m2 m3 hBW p1 p2 H0 q0 q0' z0 g0 q8 h5 k1 k2
  simp only[putL,show List.range 13 = [0,1,2,3,4,5,6,7,8,9,10,11,12] from rfl,show List.range 1 = [0] from rfl,List.length_cons,List.length_nil,List.getD_cons_zero,List.getD_cons_succ,List.map_cons,List.map_nil,List.cons_append,List.nil_append,List.foldl_cons,List.foldl_nil,Nat.reduceLT,Nat.reduceMod,Nat.reduceDiv,Nat.reduceMul,Nat.reduceAdd,Nat.reduceEqDiff,reduceIte,Nat.one_ne_zero,Act.put,List.setIfInBounds_toArray,List.set_cons_zero,List.set_cons_succ]
  rw[←hgS,u11]
  clear hgS u11
  obtain⟨⟨c0,c1,c2⟩,-⟩:=box_cells H3.out.1.1
  obtain⟨⟨x1,x2,x3⟩,x4,x5,x6⟩:=box_cells H3.out.2.1
  go_wp2
  refine bodyPost_ret (results_cell_tmp_row rfl _ _ (w.heap.size+1+1) 50 #[.bool s5,.slice ao5 n5 cp5,.int .i64 e5] (0,0) _ rfl (store3 _ _ _ H3.out.2.1) Tryz.underlying50 rfl Tryz.info50) rfl ?_
  exact⟨_,_,_,_,_,rfl,pn_store H3.out.1.2 H3.out.2.1 _ _ _,below_store3 H3.out.2.2 (by omega) _ _ _⟩
theorem map2k {a:Act} {s:Tmp} {v c:Value} (h:a.tmps[s]?=some v) : #[Operand.tmp s,Operand.const c].map a.eval = #[v,c]:=by simp[Act.eval,h]
theorem Dabove_1 (s1:Bool) (ao1:Option Addr) (n1 cp1:Nat) (e1:Int) (s2:Bool) (ao2:Option Addr) (n2 cp2:Nat) (e2:Int) (s3:Bool) (ao3:Option Addr) (n3 cp3:Nat) (e3:Int) (s4:Bool) (ao4:Option Addr) (n4 cp4:Nat) (e4:Int) (t1 t2 ta ta2 tl tl2 tw tb tx ty:Bool×Nat×Int) (c sg:Int) (res:Bool) (w:World) (h1:PN w (.agg #[.bool s1,.slice ao1 n1 cp1,.int .i64 e1]) t1) (h2:PN w (.agg #[.bool s2,.slice ao2 n2 cp2,.int .i64 e2]) t2) (h3:PN w (.agg #[.bool s3,.slice ao3 n3 cp3,.int .i64 e3]) ta) (h4:PN w (.agg #[.bool s4,.slice ao4 n4 cp4,.int .i64 e4]) tl)
  (k1:Hid (∀ W X,Bw w W→PN W X tl→Calls Tryz.prog 140 #[X,.int .i64 1] W fun r w'=>OutA W tl2 r w')) (k2:Hid (∀ W X,Bw w W→PN W X ta→Calls Tryz.prog 140 #[X,.int .i64 1] W fun r w'=>OutA W ta2 r w'))
  (k3:Hid (∀ W,Bw w W→Calls Tryz.prog 99 #[.int .i64 1] W fun r w'=>OutP W tw r w'))
  (k4:Hid (∀ W X Y,Bw w W→PN W X tl2→PN W Y tw→Calls Tryz.prog 98 #[X,Y] W fun r w'=>OutA W tb r w')) (k5:Hid (∀ W X Y,Bw w W→PN W X ta2→PN W Y t1→Calls Tryz.prog 94 #[X,Y] W fun r w'=>OutA W tx r w')) (k6:Hid (∀ W X Y,Bw w W→PN W X tb→PN W Y t2→Calls Tryz.prog 94 #[X,Y] W fun r w'=>OutA W ty r w'))
  (k7:Hid (∀ W X Y,Bw w W→PN W X tx→PN W Y ty→Calls Tryz.prog 166 #[X,Y] W fun r w'=>r=.returned (.int .i64 c)∧Bw W w'))
  (k8:Hid (∀ W,Bw w W→PN W (.agg #[.bool s4,.slice ao4 n4 cp4,.int .i64 e4]) tl→Calls Tryz.prog 89 #[.agg #[.bool s4,.slice ao4 n4 cp4,.int .i64 e4]] W fun r w'=>r=.returned (.int .i64 sg)∧Bw W w'))
  (hres:Hid ((c=1∧res=true)∨(c=0∧res=(decide (e4=0)&&decide (sg≠0)))∨(c = -1∧res=false))) :
  Calls Tryz.prog 97 #[.agg #[.bool s1,.slice ao1 n1 cp1,.int .i64 e1,.bool s2,.slice ao2 n2 cp2,.int .i64 e2],.agg #[.bool s3,.slice ao3 n3 cp3,.int .i64 e3],.agg #[.bool s4,.slice ao4 n4 cp4,.int .i64 e4]] w fun r w'=>r=.returned (.bool res)∧Bw w w':=by
 obtain⟨W,hW⟩:∃ W,W=((w.alloc (.cells #[.bool s1,.slice ao1 n1 cp1,.int .i64 e1,.bool s2,.slice ao2 n2 cp2,.int .i64 e2] 104)).alloc (.cells #[.bool s3,.slice ao3 n3 cp3,.int .i64 e3] 50)).alloc (.cells #[.bool s4,.slice ao4 n4 cp4,.int .i64 e4] 50):=⟨_,rfl⟩
 obtain⟨m1,m2,m3,hBW⟩:=three_new _ _ _ hW
 have H0:Hid (W.heap[w.heap.size]?=some (.cells #[.bool s1,.slice ao1 n1 cp1,.int .i64 e1,.bool s2,.slice ao2 n2 cp2,.int .i64 e2] 104 (0,0))∧PBx W (w.heap.size+1) s3 ao3 n3 cp3 e3 ta∧PBx W (w.heap.size+1+1) s4 ao4 n4 cp4 e4 tl∧Bw w W∧PN W (.agg #[.bool s1,.slice ao1 n1 cp1,.int .i64 e1]) t1∧PN W (.agg #[.bool s2,.slice ao2 n2 cp2,.int .i64 e2]) t2):=⟨m1,⟨m2,h3.later hBW⟩,⟨m3,h4.later hBW⟩,hBW,h1.later hBW,h2.later hBW⟩
 clear m1 m2 m3 hBW h1 h2 h3 h4
 obtain⟨⟨c0,c1,c2⟩,-⟩:=box_cells H0.out.2.2.1.1
 have kk:=k1.out W _ H0.out.2.2.2.1 H0.out.2.2.1.2
 go_enter Tryz.func97,Tryz.ntmps97
 go_upto_region 1 with fail
 rw[←hW]
 clear hW
 go_wp2_with fail
 refine kk.mono ?_
 rintro r w1 ⟨s5,ao5,n5,cp5,e5,rfl,hA,hb1⟩
 clear kk c0 c1 c2
 have H1:Hid ((w1.heap[w.heap.size]?=some (.cells #[.bool s1,.slice ao1 n1 cp1,.int .i64 e1,.bool s2,.slice ao2 n2 cp2,.int .i64 e2] 104 (0,0))∧PBx w1 (w.heap.size+1) s3 ao3 n3 cp3 e3 ta∧PBx w1 (w.heap.size+1+1) s4 ao4 n4 cp4 e4 tl∧Bw w w1∧PN w1 (.agg #[.bool s1,.slice ao1 n1 cp1,.int .i64 e1]) t1∧PN w1 (.agg #[.bool s2,.slice ao2 n2 cp2,.int .i64 e2]) t2)∧PN w1 (.agg #[.bool s5,.slice ao5 n5 cp5,.int .i64 e5]) tl2):=⟨⟨box_later H0.out.1 hb1 (lt_of_box H0.out.1),H0.out.2.1.later hb1,H0.out.2.2.1.later hb1,H0.out.2.2.2.1.trans (hb1.mono H0.out.2.2.2.1.size),H0.out.2.2.2.2.1.later hb1,H0.out.2.2.2.2.2.later hb1⟩,hA⟩
 clear H0 hA hb1
 have kk:=k3.out w1 H1.out.1.2.2.2.1
 go_wp2_with fail
 refine kk.mono ?_
 rintro r w2 ⟨s6,ao6,n6,cp6,e6,rfl,hA,hb2⟩
 clear kk
 have H1':Hid (w1.heap[w.heap.size]?=some (.cells #[.bool s1,.slice ao1 n1 cp1,.int .i64 e1,.bool s2,.slice ao2 n2 cp2,.int .i64 e2] 104 (0,0))∧PBx w1 (w.heap.size+1) s3 ao3 n3 cp3 e3 ta∧PBx w1 (w.heap.size+1+1) s4 ao4 n4 cp4 e4 tl∧Bw w w1∧PN w1 (.agg #[.bool s1,.slice ao1 n1 cp1,.int .i64 e1]) t1∧PN w1 (.agg #[.bool s2,.slice ao2 n2 cp2,.int .i64 e2]) t2):=H1.out.1
 have H2:Hid ((w2.heap[w.heap.size]?=some (.cells #[.bool s1,.slice ao1 n1 cp1,.int .i64 e1,.bool s2,.slice ao2 n2 cp2,.int .i64 e2] 104 (0,0))∧PBx w2 (w.heap.size+1) s3 ao3 n3 cp3 e3 ta∧PBx w2 (w.heap.size+1+1) s4 ao4 n4 cp4 e4 tl∧Bw w w2∧PN w2 (.agg #[.bool s1,.slice ao1 n1 cp1,.int .i64 e1]) t1∧PN w2 (.agg #[.bool s2,.slice ao2 n2 cp2,.int .i64 e2]) t2)∧PN w2 (.agg #[.bool s5,.slice ao5 n5 cp5,.int .i64 e5]) tl2∧PN w2 (.agg #[.bool s6,.slice ao6 n6 cp6,.int .i64 e6]) tw):=⟨⟨box_later H1'.out.1 hb2 (lt_of_box H1'.out.1),H1'.out.2.1.later hb2,H1'.out.2.2.1.later hb2,H1'.out.2.2.2.1.trans (hb2.mono H1'.out.2.2.2.1.size),H1'.out.2.2.2.2.1.later hb2,H1'.out.2.2.2.2.2.later hb2⟩,H1.out.2.later hb2,hA⟩
 clear H1 H1' hA hb2
 have kk:=k4.out w2 _ _ H2.out.1.2.2.2.1 H2.out.2.1 H2.out.2.2
 go_wp2_with fail
 refine kk.mono ?_
 rintro r w3 ⟨s7,ao7,n7,cp7,e7,rfl,hA,hb3⟩
 clear kk
 obtain⟨W3,hW3⟩:∃ W3,W3=w3.alloc (.cells #[.bool s7,.slice ao7 n7 cp7,.int .i64 e7] 50):=⟨_,rfl⟩
 have hbV:Bw w3 W3:=by rw[hW3];exact(Below.refl _ _).alloc (Nat.le_refl _) _
 have n6:W3.heap[w3.heap.size]?=some (.cells #[.bool s7,.slice ao7 n7 cp7,.int .i64 e7] 50 (0,0)):=by rw[hW3];exact heap_alloc_new _ _
 have hb23:Bw w2 W3:=hb3.trans (hbV.mono hb3.size)
 have H2':Hid (w2.heap[w.heap.size]?=some (.cells #[.bool s1,.slice ao1 n1 cp1,.int .i64 e1,.bool s2,.slice ao2 n2 cp2,.int .i64 e2] 104 (0,0))∧PBx w2 (w.heap.size+1) s3 ao3 n3 cp3 e3 ta∧PBx w2 (w.heap.size+1+1) s4 ao4 n4 cp4 e4 tl∧Bw w w2∧PN w2 (.agg #[.bool s1,.slice ao1 n1 cp1,.int .i64 e1]) t1∧PN w2 (.agg #[.bool s2,.slice ao2 n2 cp2,.int .i64 e2]) t2):=H2.out.1
 go_upto_region 2 with fail
 rw[←hW3]
 clear hW3
 have hA':=hA.later hbV
 clear hbV hA
 generalize w3.heap.size=gqB at *
 have H3:Hid ((W3.heap[w.heap.size]?=some (.cells #[.bool s1,.slice ao1 n1 cp1,.int .i64 e1,.bool s2,.slice ao2 n2 cp2,.int .i64 e2] 104 (0,0))∧PBx W3 (w.heap.size+1) s3 ao3 n3 cp3 e3 ta∧PBx W3 (w.heap.size+1+1) s4 ao4 n4 cp4 e4 tl∧Bw w W3∧PN W3 (.agg #[.bool s1,.slice ao1 n1 cp1,.int .i64 e1]) t1∧PN W3 (.agg #[.bool s2,.slice ao2 n2 cp2,.int .i64 e2]) t2)∧PBx W3 gqB s7 ao7 n7 cp7 e7 tb):=⟨⟨box_later H2'.out.1 hb23 (lt_of_box H2'.out.1),H2'.out.2.1.later hb23,H2'.out.2.2.1.later hb23,H2'.out.2.2.2.1.trans (hb23.mono H2'.out.2.2.2.1.size),H2'.out.2.2.2.2.1.later hb23,H2'.out.2.2.2.2.2.later hb23⟩,⟨n6,hA'⟩⟩
 clear H2 H2' n6 hA' hb3 hb23
 obtain⟨⟨m1,m2,m3,hBW,p1,p2⟩,m4⟩:=H3.out
 refine r_region [0,1,2,3,4,5,6,7,8,9] [12,13,14,15,16,17,18,19,20,21] [[],[0],[],[2],[1,3],[],[],[6],[5,7],[4,8]] W3 _ [isV (.agg #[.bool s3,.slice ao3 n3 cp3,.int .i64 e3]),isP ta2,isV (.pointer (some ⟨w.heap.size,0,none⟩)),isV (.agg #[.bool s1,.slice ao1 n1 cp1,.int .i64 e1]),isP tx,isV (.agg #[.bool s7,.slice ao7 n7 cp7,.int .i64 e7]),isV (.pointer (some ⟨w.heap.size,3,none⟩)),isV (.agg #[.bool s2,.slice ao2 n2 cp2,.int .i64 e2]),isP ty,isV (.int .i64 c)] (by kernel_rfl) ⟨isV_stays _,isP_stays _,isV_stays _,isV_stays _,isP_stays _,isV_stays _,isV_stays _,isV_stays _,isP_stays _,isV_stays _,trivial⟩ (by show ∀ s ∈ [12,13,14,15,16,17,18,19,20,21],s<34;decide) ?_ ?_
 ·intro j hj o ho act U hb hoth hdep
  have hj':j<10:=hj
  have hbU:Bw w U:=hBW.trans (hb.mono hBW.size)
  have t3':act.tmps[(3:Nat)]?=some (Value.pointer (some ⟨w.heap.size,0,none⟩)):=(hoth 3 (by decide)).trans rfl
  have t4':act.tmps[(4:Nat)]?=some (Value.pointer (some ⟨w.heap.size+1,0,none⟩)):=(hoth 4 (by decide)).trans rfl
  have t7':act.tmps[(7:Nat)]?=some (Value.pointer (some ⟨gqB,0,none⟩)):=(hoth 7 (by decide)).trans rfl
  have d3:=(cells6F (box_later m1 hb (lt_of_box m1))).1
  have d4:=(cells3N (box_later m2.1 hb (lt_of_box m2.1))).1
  have d7:=(cells3N (box_later m4.1 hb (lt_of_box m4.1))).1
  rcases(by omega:j=0∨j=1∨j=2∨j=3∨j=4∨j=5∨j=6∨j=7∨j=8∨j=9)with rfl|rfl|rfl|rfl|rfl|rfl|rfl|rfl|rfl|rfl
  ·obtain rfl:=Option.some.inj ho
   exact .inl ⟨rfl,owp_ldP (f:=0) rfl t4' d4.1 d4.2.1 d4.2.2 ⟨_,rfl,rfl,Below.refl _ _⟩⟩
  ·obtain rfl:=Option.some.inj ho
   have y0:act.tmps[(12:Nat)]?=_:=dV (hdep 0 (by simp[dL])) rfl
   refine .inl ⟨rfl,owp_call rfl (enters Tryz.func140 (by kernel_rfl) (by kernel_rfl)) (map2k y0) ?_⟩
   refine(k2.out U _ hbU (m2.2.later hb)).mono ?_
   rintro r w' ⟨_,_,_,_,_,rfl,hA,hb'⟩
   exact⟨_,rfl,_,rfl,hA,hb'⟩
  ·obtain rfl:=Option.some.inj ho
   exact .inl ⟨rfl,owp_fldS0 rfl t3' ⟨_,rfl,rfl,Below.refl _ _⟩⟩
  ·obtain rfl:=Option.some.inj ho
   have y:act.tmps[(14:Nat)]?=_:=dV (hdep 2 (by simp[dL])) rfl
   exact .inl ⟨rfl,owp_ldP (f:=0) rfl y d3.1 d3.2.1 d3.2.2.1 ⟨_,rfl,rfl,Below.refl _ _⟩⟩
  ·obtain rfl:=Option.some.inj ho
   obtain⟨u1,y1,v1⟩:=hdep 1 (by simp[dL])
   have y1':act.tmps[(13:Nat)]?=_:=y1
   have y3:act.tmps[(15:Nat)]?=_:=dV (hdep 3 (by simp[dL])) rfl
   refine .inl ⟨rfl,owp_call rfl (enters Tryz.func94 (by kernel_rfl) (by kernel_rfl)) (map2 y1' y3) ?_⟩
   refine(k5.out U _ _ hbU v1 (p1.later hb)).mono ?_
   rintro r w' ⟨_,_,_,_,_,rfl,hA,hb'⟩
   exact⟨_,rfl,_,rfl,hA,hb'⟩
  ·obtain rfl:=Option.some.inj ho
   exact .inl ⟨rfl,owp_ldP (f:=0) rfl t7' d7.1 d7.2.1 d7.2.2 ⟨_,rfl,rfl,Below.refl _ _⟩⟩
  ·obtain rfl:=Option.some.inj ho
   exact .inl ⟨rfl,owp_fldS1 rfl t3' ⟨_,rfl,rfl,Below.refl _ _⟩⟩
  ·obtain rfl:=Option.some.inj ho
   have y:act.tmps[(18:Nat)]?=_:=dV (hdep 6 (by simp[dL])) rfl
   exact .inl ⟨rfl,owp_ldP (f:=3) rfl y d3.2.2.2.1 d3.2.2.2.2.1 d3.2.2.2.2.2 ⟨_,rfl,rfl,Below.refl _ _⟩⟩
  ·obtain rfl:=Option.some.inj ho
   have y5:act.tmps[(17:Nat)]?=_:=dV (hdep 5 (by simp[dL])) rfl
   have y7:act.tmps[(19:Nat)]?=_:=dV (hdep 7 (by simp[dL])) rfl
   refine .inl ⟨rfl,owp_call rfl (enters Tryz.func94 (by kernel_rfl) (by kernel_rfl)) (map2 y5 y7) ?_⟩
   refine(k6.out U _ _ hbU (m4.2.later hb) (p2.later hb)).mono ?_
   rintro r w' ⟨_,_,_,_,_,rfl,hA,hb'⟩
   exact⟨_,rfl,_,rfl,hA,hb'⟩
  ·obtain rfl:=Option.some.inj ho
   obtain⟨u4,y4,v4⟩:=hdep 4 (by simp[dL])
   have y4':act.tmps[(16:Nat)]?=_:=y4
   obtain⟨u8,y8,v8⟩:=hdep 8 (by simp[dL])
   have y8':act.tmps[(20:Nat)]?=_:=y8
   refine .inl ⟨rfl,owp_call rfl (enters Tryz.func166 (by kernel_rfl) (by kernel_rfl)) (map2 y4' y8') ?_⟩
   refine(k7.out U _ _ hbU v4 v8).mono ?_
   rintro r w' ⟨rfl,hb'⟩
   exact⟨_,rfl,_,rfl,rfl,hb'⟩
 ·intro u W5 hb5 hu
  have u9:u 9=.int .i64 c:=hu 9 (by show 9<10;decide)
  have H3':Hid (W3.heap[w.heap.size]?=some (.cells #[.bool s1,.slice ao1 n1 cp1,.int .i64 e1,.bool s2,.slice ao2 n2 cp2,.int .i64 e2] 104 (0,0))∧PBx W3 (w.heap.size+1) s3 ao3 n3 cp3 e3 ta∧PBx W3 (w.heap.size+1+1) s4 ao4 n4 cp4 e4 tl∧Bw w W3∧PN W3 (.agg #[.bool s1,.slice ao1 n1 cp1,.int .i64 e1]) t1∧PN W3 (.agg #[.bool s2,.slice ao2 n2 cp2,.int .i64 e2]) t2):=H3.out.1
  have H5:Hid (W5.heap[w.heap.size]?=some (.cells #[.bool s1,.slice ao1 n1 cp1,.int .i64 e1,.bool s2,.slice ao2 n2 cp2,.int .i64 e2] 104 (0,0))∧PBx W5 (w.heap.size+1) s3 ao3 n3 cp3 e3 ta∧PBx W5 (w.heap.size+1+1) s4 ao4 n4 cp4 e4 tl∧Bw w W5∧PN W5 (.agg #[.bool s1,.slice ao1 n1 cp1,.int .i64 e1]) t1∧PN W5 (.agg #[.bool s2,.slice ao2 n2 cp2,.int .i64 e2]) t2):=⟨box_later H3'.out.1 hb5 (lt_of_box H3'.out.1),H3'.out.2.1.later hb5,H3'.out.2.2.1.later hb5,H3'.out.2.2.2.1.trans (hb5.mono H3'.out.2.2.2.1.size),H3'.out.2.2.2.2.1.later hb5,H3'.out.2.2.2.2.2.later hb5⟩
  clear hu hb5 m1 m2 m3 m4 hBW p1 p2 H3 H3' k1 k2 k3 k4 k5 k6 k7
  simp only[putL,show List.range 10 = [0,1,2,3,4,5,6,7,8,9] from rfl,show List.range 10 = [0,1,2,3,4,5,6,7,8,9] from rfl,List.length_cons,List.length_nil,List.getD_cons_zero,List.getD_cons_succ,List.map_cons,List.map_nil,List.cons_append,List.nil_append,List.foldl_cons,List.foldl_nil,Nat.reduceLT,Nat.reduceMod,Nat.reduceDiv,Nat.reduceMul,Nat.reduceAdd,Nat.reduceEqDiff,reduceIte,Nat.one_ne_zero,Act.put,List.setIfInBounds_toArray,List.set_cons_zero,List.set_cons_succ]
  rw[u9]
  clear u9
  rcases hres.out with ⟨rfl,rfl⟩|⟨rfl,hr⟩|⟨rfl,rfl⟩
  ·go_wp2
   go_ret
   exact⟨rfl,H5.out.2.2.2.1⟩
  ·obtain⟨⟨c0,c1,c2⟩,-⟩:=box_cells H5.out.2.2.1.1
   have HR:Hid (res=(decide (e4=0)&&decide (sg≠0))):=hr
   clear hr hres
   cases he:(e4==0)
   ·go_wp2
    go_ret
    refine⟨?_,H5.out.2.2.2.1⟩
    rw[HR.out,decide_eq_false (by simpa using he)]
    rfl
   ·have kk:=k8.out W5 H5.out.2.2.2.1 H5.out.2.2.1.2
    have HE:Hid (e4=0):=(by simpa using he:e4=0)
    cases hs:(sg != 0)
    ·go_wp2_with fail
     refine kk.mono ?_
     rintro r w6 ⟨rfl,hb6⟩
     have HB:Hid (Bw w w6):=H5.out.2.2.2.1.trans (hb6.mono H5.out.2.2.2.1.size)
     clear kk hb6
     go_wp2
     go_ret
     refine⟨?_,HB.out⟩
     rw[HR.out,decide_eq_true HE.out,decide_eq_false (by simpa using hs)]
     rfl
    ·go_wp2_with fail
     refine kk.mono ?_
     rintro r w6 ⟨rfl,hb6⟩
     have HB:Hid (Bw w w6):=H5.out.2.2.2.1.trans (hb6.mono H5.out.2.2.2.1.size)
     clear kk hb6
     go_wp2
     go_ret
     refine⟨?_,HB.out⟩
     rw[HR.out,decide_eq_true HE.out,decide_eq_true (by simpa using hs)]
     rfl
  ·go_wp2
   go_ret
   exact⟨rfl,H5.out.2.2.2.1⟩
theorem isP_rowsN (t:Bool×Nat×Int):∀ w u g cs cs',w.heap[g]?=some (.cells cs 50 (0,0))→NC3 cs→isP t w u→isP t (w.setRow g cs') u:=fun w u g cs cs' h hC h2=>PN.row3 h2 h hC cs'
theorem map1k {a:Act} {v:Value} : #[Operand.const v].map a.eval = #[v]:=by simp[Act.eval]
theorem Dunits_1 (f:Nat) (pl m:Int) (t1 t2 ta tn tw ts tr:Bool×Nat×Int) (bx ab up:Bool) (w:World)
  (k1:Hid (∀ W,Bw w W→Calls Tryz.prog 32 #[.float .f64 f] W fun r w'=>OutA W ta r w'))
  (k2:Hid (∀ W,Bw w W→Calls Tryz.prog 77 #[.int .i64 pl] W fun r w'=>OutFv W t1 t2 r w'))
  (k3:Hid (∀ (s1:Bool) (ao1:Option Addr) (n1 cp1:Nat) (e1:Int) (s2:Bool) (ao2:Option Addr) (n2 cp2:Nat) (e2:Int) (s3:Bool) (ao3:Option Addr) (n3 cp3:Nat) (e3:Int) W,Bw w W→PN W (.agg #[.bool s1,.slice ao1 n1 cp1,.int .i64 e1]) t1→PN W (.agg #[.bool s2,.slice ao2 n2 cp2,.int .i64 e2]) t2→PN W (.agg #[.bool s3,.slice ao3 n3 cp3,.int .i64 e3]) ta→Calls Tryz.prog 96 #[.agg #[.bool s1,.slice ao1 n1 cp1,.int .i64 e1,.bool s2,.slice ao2 n2 cp2,.int .i64 e2],.agg #[.bool s3,.slice ao3 n3 cp3,.int .i64 e3]] W fun r w'=>OutFl W tn bx r w'))
  (k4:Hid (∀ (s1:Bool) (ao1:Option Addr) (n1 cp1:Nat) (e1:Int) (s2:Bool) (ao2:Option Addr) (n2 cp2:Nat) (e2:Int) (s3:Bool) (ao3:Option Addr) (n3 cp3:Nat) (e3:Int) (s4:Bool) (ao4:Option Addr) (n4 cp4:Nat) (e4:Int) W,Bw w W→PN W (.agg #[.bool s1,.slice ao1 n1 cp1,.int .i64 e1]) t1→PN W (.agg #[.bool s2,.slice ao2 n2 cp2,.int .i64 e2]) t2→PN W (.agg #[.bool s3,.slice ao3 n3 cp3,.int .i64 e3]) ta→PN W (.agg #[.bool s4,.slice ao4 n4 cp4,.int .i64 e4]) tn→Calls Tryz.prog 97 #[.agg #[.bool s1,.slice ao1 n1 cp1,.int .i64 e1,.bool s2,.slice ao2 n2 cp2,.int .i64 e2],.agg #[.bool s3,.slice ao3 n3 cp3,.int .i64 e3],.agg #[.bool s4,.slice ao4 n4 cp4,.int .i64 e4]] W fun r w'=>r=.returned (.bool ab)∧Bw W w'))
  (k5:Hid (∀ W,Bw w W→Calls Tryz.prog 99 #[.int .i64 1] W fun r w'=>OutP W tw r w'))
  (k6:Hid (∀ W X Y,Bw w W→PN W X tn→PN W Y tw→Calls Tryz.prog 98 #[X,Y] W fun r w'=>OutA W ts r w'))
  (k7:Hid (∀ W X,Bw w W→PN W X (if up then ts else tn)→Calls Tryz.prog 61 #[X] W fun r w'=>OutA W tr r w'))
  (hm:Hid (m=1∨m=2∨m=3)) (hup:Hid (up=(!bx&&(decide (m=3)||decide (m=2)&&ab)))) :
  Calls Tryz.prog 34 #[.float .f64 f,.int .i64 pl,.int .i64 m] w fun r w'=>OutA w tr r w':=by
 obtain⟨W,hW⟩:∃ W,W=w.alloc (.cells #[.bool false,.slice none 0 0,.int .i64 0] 50):=⟨_,rfl⟩
 have H0:Hid (W.heap[w.heap.size]?=some (.cells #[.bool false,.slice none 0 0,.int .i64 0] 50 (0,0))∧Bw w W):=(by rw[hW];exact⟨heap_alloc_new _ _,(Below.refl _ _).alloc (Nat.le_refl _) _⟩:_∧_)
 have kk:=k1.out W H0.out.2
 clear k1
 go_enter Tryz.func34,Tryz.ntmps34
 go_upto_region 1 with fail
 rw[←hW]
 clear hW
 go_wp2_with fail
 refine kk.mono ?_
 rintro r w1 ⟨s3,ao3,n3,cp3,e3,rfl,hA,hb1⟩
 clear kk
 have H1:Hid ((w1.heap[w.heap.size]?=some (.cells #[.bool false,.slice none 0 0,.int .i64 0] 50 (0,0))∧Bw w w1)∧PN w1 (.agg #[.bool s3,.slice ao3 n3 cp3,.int .i64 e3]) ta):=⟨⟨box_later H0.out.1 hb1 (lt_of_box H0.out.1),H0.out.2.trans (hb1.mono H0.out.2.size)⟩,hA⟩
 clear H0 hA hb1
 have kk:=k2.out w1 H1.out.1.2
 clear k2
 go_wp2_with fail
 refine kk.mono ?_
 rintro r w2 ⟨U,rfl,hU,hb2⟩
 obtain⟨s1,ao1,n1,cp1,e1,s2,ao2,n2,cp2,e2,rfl,p1,p2⟩:=hU
 clear kk
 obtain⟨W2,hW2⟩:∃ W2,W2=(w2.alloc (.cells #[.bool s3,.slice ao3 n3 cp3,.int .i64 e3] 50)).alloc (.cells #[.bool s1,.slice ao1 n1 cp1,.int .i64 e1,.bool s2,.slice ao2 n2 cp2,.int .i64 e2] 104):=⟨_,rfl⟩
 obtain⟨z1,z2,z3,z4⟩:=two_new _ _ hW2
 go_upto_region 2 with fail
 rw[←hW2]
 clear hW2
 have hb12:Bw w1 W2:=hb2.trans (z4.mono hb2.size)
 have hl:=lt_of_box H1.out.1.1
 have hsz:=hb2.size
 have q1:=p1.later z4
 have q2:=p2.later z4
 have q3:=(H1.out.2.later hb2).later z4
 clear p1 p2 z3 z4
 generalize w2.heap.size=gqA at *
 have H2:Hid (W2.heap[w.heap.size]?=some (.cells #[.bool false,.slice none 0 0,.int .i64 0] 50 (0,0))∧Bw w W2∧PBx W2 gqA s3 ao3 n3 cp3 e3 ta∧W2.heap[gqA+1]?=some (.cells #[.bool s1,.slice ao1 n1 cp1,.int .i64 e1,.bool s2,.slice ao2 n2 cp2,.int .i64 e2] 104 (0,0))∧PN W2 (.agg #[.bool s1,.slice ao1 n1 cp1,.int .i64 e1]) t1∧PN W2 (.agg #[.bool s2,.slice ao2 n2 cp2,.int .i64 e2]) t2∧w.heap.size<gqA):=⟨box_later H1.out.1.1 hb12 hl,H1.out.1.2.trans (hb12.mono H1.out.1.2.size),⟨z1,q3⟩,z2,q1,q2,by omega⟩
 clear H1 z1 z2 q1 q2 q3 hb2 hb12 hl hsz
 obtain⟨c0,c1,c2,c3,c4,c5⟩:=(cells6F H2.out.2.2.2.1).1
 obtain⟨d0,d1,d2⟩:=(cells3N H2.out.2.2.1.1).1
 have kk:=k3.out s1 ao1 n1 cp1 e1 s2 ao2 n2 cp2 e2 s3 ao3 n3 cp3 e3 W2 H2.out.2.1 H2.out.2.2.2.2.1 H2.out.2.2.2.2.2.1 H2.out.2.2.1.2
 clear k3
 go_wp2_with fail
 refine kk.mono ?_
 rintro r w3 ⟨s4,ao4,n4,cp4,e4,rfl,hA,hb3⟩
 clear kk c0 c1 c2 c3 c4 c5 d0 d1 d2
 obtain⟨W3,hW3⟩:∃ W3,W3=w3.alloc (.cells #[.bool s4,.slice ao4 n4 cp4,.int .i64 e4] 50):=⟨_,rfl⟩
 have hbV:Bw w3 W3:=by rw[hW3];exact(Below.refl _ _).alloc (Nat.le_refl _) _
 have n6:W3.heap[w3.heap.size]?=some (.cells #[.bool s4,.slice ao4 n4 cp4,.int .i64 e4] 50 (0,0)):=by rw[hW3];exact heap_alloc_new _ _
 have hb23:Bw W2 W3:=hb3.trans (hbV.mono hb3.size)
 go_upto_region 3 with fail
 rw[←hW3]
 clear hW3
 have hA':=hA.later hbV
 have hl:=lt_of_box H2.out.2.2.2.1
 have hsz:=hb3.size
 clear hbV hA
 generalize w3.heap.size=gqN at *
 have H3:Hid (W3.heap[w.heap.size]?=some (.cells #[.bool false,.slice none 0 0,.int .i64 0] 50 (0,0))∧Bw w W3∧PBx W3 gqA s3 ao3 n3 cp3 e3 ta∧W3.heap[gqA+1]?=some (.cells #[.bool s1,.slice ao1 n1 cp1,.int .i64 e1,.bool s2,.slice ao2 n2 cp2,.int .i64 e2] 104 (0,0))∧PN W3 (.agg #[.bool s1,.slice ao1 n1 cp1,.int .i64 e1]) t1∧PN W3 (.agg #[.bool s2,.slice ao2 n2 cp2,.int .i64 e2]) t2∧w.heap.size<gqA∧PBx W3 gqN s4 ao4 n4 cp4 e4 tn∧gqA+1<gqN):=⟨box_later H2.out.1 hb23 (lt_of_box H2.out.1),H2.out.2.1.trans (hb23.mono H2.out.2.1.size),H2.out.2.2.1.later hb23,box_later H2.out.2.2.2.1 hb23 (lt_of_box H2.out.2.2.2.1),H2.out.2.2.2.2.1.later hb23,H2.out.2.2.2.2.2.1.later hb23,H2.out.2.2.2.2.2.2,⟨n6,hA'⟩,by omega⟩
 clear H2 n6 hA' hb3 hb23 hl hsz
 go_cut [36] from 21 to 35 (fun v wx=>v=.bool up∧Hid (wx.heap[w.heap.size]?=some (.cells #[.bool false,.slice none 0 0,.int .i64 0] 50 (0,0))∧Bw w wx∧PBx wx gqA s3 ao3 n3 cp3 e3 ta∧wx.heap[gqA+1]?=some (.cells #[.bool s1,.slice ao1 n1 cp1,.int .i64 e1,.bool s2,.slice ao2 n2 cp2,.int .i64 e2] 104 (0,0))∧PN wx (.agg #[.bool s1,.slice ao1 n1 cp1,.int .i64 e1]) t1∧PN wx (.agg #[.bool s2,.slice ao2 n2 cp2,.int .i64 e2]) t2∧w.heap.size<gqA∧PBx wx gqN s4 ao4 n4 cp4 e4 tn∧gqA+1<gqN))
 case first =>
  have hu:=hup.out
  cases bx
  ·rcases hm.out with rfl|rfl|rfl
   ·go_wp2
    go_meet
    exact⟨by rw[hu];rfl,H3⟩
   ·obtain⟨c0,c1,c2,c3,c4,c5⟩:=(cells6F H3.out.2.2.2.1).1
    obtain⟨d0,d1,d2⟩:=(cells3N H3.out.2.2.1.1).1
    obtain⟨x0,x1,x2⟩:=(cells3N H3.out.2.2.2.2.2.2.2.1.1).1
    have kk:=k4.out s1 ao1 n1 cp1 e1 s2 ao2 n2 cp2 e2 s3 ao3 n3 cp3 e3 s4 ao4 n4 cp4 e4 W3 H3.out.2.1 H3.out.2.2.2.2.1 H3.out.2.2.2.2.2.1 H3.out.2.2.1.2 H3.out.2.2.2.2.2.2.2.1.2
    have HU:Hid (up=ab):=(by rw[hu];cases ab <;> rfl:up=ab)
    clear hu hup
    go_wp2_with fail
    refine kk.mono ?_
    rintro r w4 ⟨rfl,hb4⟩
    have H4:Hid (w4.heap[w.heap.size]?=some (.cells #[.bool false,.slice none 0 0,.int .i64 0] 50 (0,0))∧Bw w w4∧PBx w4 gqA s3 ao3 n3 cp3 e3 ta∧w4.heap[gqA+1]?=some (.cells #[.bool s1,.slice ao1 n1 cp1,.int .i64 e1,.bool s2,.slice ao2 n2 cp2,.int .i64 e2] 104 (0,0))∧PN w4 (.agg #[.bool s1,.slice ao1 n1 cp1,.int .i64 e1]) t1∧PN w4 (.agg #[.bool s2,.slice ao2 n2 cp2,.int .i64 e2]) t2∧w.heap.size<gqA∧PBx w4 gqN s4 ao4 n4 cp4 e4 tn∧gqA+1<gqN):=⟨box_later H3.out.1 hb4 (lt_of_box H3.out.1),H3.out.2.1.trans (hb4.mono H3.out.2.1.size),H3.out.2.2.1.later hb4,box_later H3.out.2.2.2.1 hb4 (lt_of_box H3.out.2.2.2.1),H3.out.2.2.2.2.1.later hb4,H3.out.2.2.2.2.2.1.later hb4,H3.out.2.2.2.2.2.2.1,H3.out.2.2.2.2.2.2.2.1.later hb4,H3.out.2.2.2.2.2.2.2.2⟩
    clear kk c0 c1 c2 c3 c4 c5 d0 d1 d2 x0 x1 x2 hb4 H3
    go_wp2
    go_meet
    exact⟨by rw[HU.out],H4⟩
   ·go_wp2
    go_meet
    exact⟨by rw[hu];rfl,H3⟩
  ·go_wp2
   go_meet
   exact⟨by rw[hu];rfl,H3⟩
 case rest =>
 obtain⟨rfl,H4⟩:=hcut
 clear H3 k4 hup hm
 go_upto_if 36 with fail
 go_cut [] from 37 to 39 (fun wx=>∃ (s5:Bool) (ao5:Option Addr) (n5 cp5:Nat) (e5:Int),Hid (wx.heap[w.heap.size]?=some (.cells #[.bool false,.slice none 0 0,.int .i64 0] 50 (0,0))∧Bw w wx∧PBx wx gqA s3 ao3 n3 cp3 e3 ta∧wx.heap[gqA+1]?=some (.cells #[.bool s1,.slice ao1 n1 cp1,.int .i64 e1,.bool s2,.slice ao2 n2 cp2,.int .i64 e2] 104 (0,0))∧PN wx (.agg #[.bool s1,.slice ao1 n1 cp1,.int .i64 e1]) t1∧PN wx (.agg #[.bool s2,.slice ao2 n2 cp2,.int .i64 e2]) t2∧w.heap.size<gqA∧PBx wx gqN s5 ao5 n5 cp5 e5 (if up then ts else tn)∧gqA+1<gqN))
 case first =>
  cases up
  ·go_wp2
   go_meet
   exact⟨_,_,_,_,_,H4⟩
  ·go_upto_region 4 with fail
   obtain⟨a1,a2,a3,a4,a5,a6,a7,a8,a9⟩:=H4.out
   have hbx:∀ i,i<1→∃ cs,wc.heap[(fun _=>gqN:Nat→Nat) i]?=some (.cells cs 50 (0,0))∧NC3 cs:=fun i hi=>⟨_,a8.1,_,_,_,_,_,rfl⟩
   refine q_region follows_mixed [0,1,2] [3] [37,38,39] [[],[],[0,1]] [[0,2]] [2] (fun _=>9) (fun _=>gqN) w.heap.size 50 NC3 3 wc _ [isV (.agg #[.bool s4,.slice ao4 n4 cp4,.int .i64 e4]),isP tw,isP ts] (by kernel_rfl) ⟨isV_stays _,isP_stays _,isP_stays _,trivial⟩ ⟨isV_rows _ _ _,isP_rowsN _,isP_rowsN _,trivial⟩ (by show ∀ s ∈ [37,38,39],s<42;decide) ?_ ?_ Tryz.info50 ?_ ?_ ?_ ?_ a2.size ?_
   ·intro i hi U u h
    obtain rfl:i=0:=Nat.lt_one_iff.1 hi
    obtain⟨ao,cap,rfl,-⟩:=(show PN U u ts from h)
    exact⟨_,rfl,rfl,⟨_,_,_,_,_,rfl⟩,one3 rfl rfl⟩
   ·intro j hj o ho act U hK hoth hdep hrd
    have hj':j<3:=hj
    have hbU:Bw w U:=a2.trans hK.below
    rcases(by omega:j=0∨j=1∨j=2)with rfl|rfl|rfl
    ·obtain rfl:=Option.some.inj ho
     have t9':act.tmps[(9:Nat)]?=some (Value.pointer (some ⟨gqN,0,none⟩)):=(hoth 9 (by decide)).trans rfl
     have hn:=(hrd 0 (by decide) (by simp[dL])).trans a8.1
     have x:=(cells3N hn).1
     exact .inl ⟨rfl,owp_ldP (f:=0) rfl t9' x.1 x.2.1 x.2.2 ⟨_,rfl,rfl,Below.refl _ _⟩⟩
    ·obtain rfl:=Option.some.inj ho
     refine .inl ⟨rfl,owp_call rfl (enters Tryz.func99 (by kernel_rfl) (by kernel_rfl)) map1k ?_⟩
     refine(k5.out U hbU).mono ?_
     rintro r w' ⟨_,_,_,_,_,rfl,hA,hb'⟩
     exact⟨_,rfl,_,rfl,hA,hb'⟩
    ·obtain rfl:=Option.some.inj ho
     have y0:act.tmps[(37:Nat)]?=_:=dV (hdep 0 (by simp[dL])) rfl
     obtain⟨u1,y1,v1⟩:=hdep 1 (by simp[dL])
     have y1':act.tmps[(38:Nat)]?=_:=y1
     refine .inl ⟨rfl,owp_call rfl (enters Tryz.func98 (by kernel_rfl) (by kernel_rfl)) (map2 y0 y1') ?_⟩
     refine(k6.out U _ _ hbU (a8.2.keep3 hK hbx) v1).mono ?_
     rintro r w' ⟨_,_,_,_,_,rfl,hA,hb'⟩
     exact⟨_,rfl,_,rfl,hA,hb'⟩
   ·intro i hi
    obtain rfl:i=0:=Nat.lt_one_iff.1 hi
    exact⟨_,rfl,rfl⟩
   ·intro i hi
    exact⟨rfl,by decide⟩
   ·intro i hi
    exact⟨by show w.heap.size≤gqN;omega,_,a8.1,rfl,_,_,_,_,_,rfl⟩
   ·intro i i' hi hi' _
    exact(Nat.lt_one_iff.1 hi).trans (Nat.lt_one_iff.1 hi').symm
   ·intro u U hK hu hcs
    obtain⟨csa,ya,za⟩:=hcs 0 (by decide)
    have q2:PN U (u 2) ts:=hu 2 (by decide)
    have ya':u 2=.agg csa:=ya
    rw[ya'] at q2
    obtain⟨s5,ao5,n5,cp5,e5,h5⟩:=q2.shape1
    obtain rfl:=Value.agg.inj h5
    have kp:∀ g,g≠gqN→g<wc.heap.size→U.heap[g]?=wc.heap[g]?:=fun g hg hl=>hK.keep g hl (fun i hi=>hg)
    have H6:Hid (U.heap[w.heap.size]?=some (.cells #[.bool false,.slice none 0 0,.int .i64 0] 50 (0,0))∧Bw w U∧PBx U gqA s3 ao3 n3 cp3 e3 ta∧U.heap[gqA+1]?=some (.cells #[.bool s1,.slice ao1 n1 cp1,.int .i64 e1,.bool s2,.slice ao2 n2 cp2,.int .i64 e2] 104 (0,0))∧PN U (.agg #[.bool s1,.slice ao1 n1 cp1,.int .i64 e1]) t1∧PN U (.agg #[.bool s2,.slice ao2 n2 cp2,.int .i64 e2]) t2∧w.heap.size<gqA∧PBx U gqN s5 ao5 n5 cp5 e5 ts∧gqA+1<gqN):=⟨(kp _ (by omega) (lt_of_box a1)).trans a1,a2.trans hK.below,⟨(kp _ (by omega) (lt_of_box a3.1)).trans a3.1,a3.2.keep3 hK hbx⟩,(kp _ (by omega) (lt_of_box a4)).trans a4,a5.keep3 hK hbx,a6.keep3 hK hbx,a7,⟨za,q2⟩,a9⟩
    clear hu hcs ya za ya' q2 h5 hK a1 a2 a3 a4 a5 a6 a8 hbx kp H4
    simp only[putL,show List.range 3 = [0,1,2] from rfl,show List.range 3 = [0,1,2] from rfl,List.length_cons,List.length_nil,List.getD_cons_zero,List.getD_cons_succ,List.map_cons,List.map_nil,List.cons_append,List.nil_append,List.foldl_cons,List.foldl_nil,Nat.reduceLT,Nat.reduceMod,Nat.reduceDiv,Nat.reduceMul,Nat.reduceAdd,Nat.reduceEqDiff,reduceIte,Nat.one_ne_zero,Act.put,List.setIfInBounds_toArray,List.set_cons_zero,List.set_cons_succ]
    go_wp2
    go_meet
    exact⟨_,_,_,_,_,H6⟩
 case rest =>
 obtain⟨s5,ao5,n5,cp5,e5,H6⟩:=hcut
 clear H4
 obtain⟨x0,x1,x2⟩:=(cells3N H6.out.2.2.2.2.2.2.2.1.1).1
 have kk:=k7.out _ _ H6.out.2.1 H6.out.2.2.2.2.2.2.2.1.2
 go_wp2_with fail
 refine kk.mono ?_
 rintro r w7 ⟨s6,ao6,n6,cp6,e6,rfl,hA,hb7⟩
 clear kk x0 x1 x2
 have H7:Hid ((w7.heap[w.heap.size]?=some (.cells #[.bool false,.slice none 0 0,.int .i64 0] 50 (0,0))∧Bw w w7)∧PN w7 (.agg #[.bool s6,.slice ao6 n6 cp6,.int .i64 e6]) tr):=⟨⟨box_later H6.out.1 hb7 (lt_of_box H6.out.1),H6.out.2.1.trans (hb7.mono H6.out.2.1.size)⟩,hA⟩
 clear hA hb7 H6
 obtain⟨⟨x1,x2,x3⟩,x4,x5,x6⟩:=box_cells H7.out.1.1
 go_wp2
 refine bodyPost_ret (results_cell_row rfl _ _ w.heap.size 50 #[.bool s6,.slice ao6 n6 cp6,.int .i64 e6] (0,0) _ rfl (store3 _ _ _ H7.out.1.1) Tryz.underlying50 rfl Tryz.info50) rfl ?_
 exact⟨_,_,_,_,_,rfl,pn_store H7.out.2 H7.out.1.1 _ _ _,below_store3 H7.out.1.2 (Nat.le_refl _) _ _ _⟩
theorem owp_negK {Q:Exit→Act→World→Prop} {o:Oper} {K:Act→World→Prop} {a:Act} {w:World} {s:Tmp} {x:Int} (hx : -4611686018427387904≤x∧x≤4611686018427387904) (hop:o.op=.unOp .neg 3 (.tmp s)) (hs:a.tmps[s]?=some (.int .i64 x)) (h:K (a.put o.dst (.int .i64 (-x))) w):o.wp Tryz.prog a w K Q:=by
 have hw:IntKind.i64.wrap (-x) = -x:=by rw[IntKind.wrap_i64];omega
 exact owp_run1 (w':=w) (by simp[execOp,hop,Act.eval,hs,go_sem,hw]) h
theorem owp_subK {Q:Exit→Act→World→Prop} {o:Oper} {K:Act→World→Prop} {a:Act} {w:World} {s:Tmp} {x c:Int} (hx : -4611686018427387904≤x - c∧x - c≤4611686018427387904) (hop:o.op=.binOp .sub 3 (.tmp s) (.const (.int .i64 c)) 3) (hs:a.tmps[s]?=some (.int .i64 x)) (h:K (a.put o.dst (.int .i64 (x - c))) w):o.wp Tryz.prog a w K Q:=by
 have hw:IntKind.i64.wrap (x - c)=x - c:=by rw[IntKind.wrap_i64];omega
 exact owp_run1 (w':=w) (by simp[execOp,hop,Act.eval,hs,go_sem,hw]) h
theorem isF_rows8 (t t':Bool×Nat×Int):∀ w u g cs',w.heap[g]?=some (.cells #[.bool false,.slice none 0 0,.int .i64 0] 50 (0,0))→isF t t' w u→isF t t' (w.setRow g cs') u:=fun w u g cs' hg ⟨_,_,_,_,_,_,_,_,_,_,h1,h2,h3⟩=>⟨_,_,_,_,_,_,_,_,_,_,h1,PN.row3 h2 hg ⟨_,_,_,_,_,rfl⟩ cs',PN.row3 h3 hg ⟨_,_,_,_,_,rfl⟩ cs'⟩
def isW2 (t:Bool×Nat×Int) (b:Bool):World→Value→Prop:=fun w u=>∃ A,u=.tuple #[A,.bool b]∧PN w A t
theorem isW2_stays (t:Bool×Nat×Int) (b:Bool):Stays (isW2 t b):=fun _ _ _ hb ⟨A,h1,h2⟩=>⟨A,h1,h2.later hb⟩
theorem isW2_rows (t:Bool×Nat×Int) (b:Bool):∀ w u g cs',w.heap[g]?=some (.cells #[.bool false,.slice none 0 0,.int .i64 0] 50 (0,0))→isW2 t b w u→isW2 t b (w.setRow g cs') u:=fun w u g cs' hg ⟨A,h1,h2⟩=>⟨A,h1,PN.row3 h2 hg ⟨_,_,_,_,_,rfl⟩ cs'⟩
theorem map1t8 {a:Act} {s:Tmp} {v:Value} (h:a.tmps[s]?=some v) : #[Operand.tmp s].map a.eval = #[v]:=by simp[eval_get h]
theorem Dworth_1 (s3:Bool) (ao3:Option Addr) (n3 cp3:Nat) (e3:Int) (T X sg:Int) (t1 t2 ta tn:Bool×Nat×Int) (bx:Bool) (w:World) (h3:PN w (.agg #[.bool s3,.slice ao3 n3 cp3,.int .i64 e3]) ta) (hT1 : -70000≤T) (hT2:T≤70000) (hX:Hid ((T - 1)*1262611 / 4194304=X))
  (k1:Hid (∀ W,Bw w W→PN W (.agg #[.bool s3,.slice ao3 n3 cp3,.int .i64 e3]) ta→Calls Tryz.prog 127 #[.agg #[.bool s3,.slice ao3 n3 cp3,.int .i64 e3]] W fun r w'=>r=.returned (.int .i64 T)∧Bw W w'))
  (k2:Hid (∀ W,Bw w W→Calls Tryz.prog 77 #[.int .i64 (-X - 1)] W fun r w'=>OutFv W t1 t2 r w'))
  (k3:Hid (∀ (s1:Bool) (ao1:Option Addr) (n1 cp1:Nat) (e1:Int) (s2:Bool) (ao2:Option Addr) (n2 cp2:Nat) (e2:Int) (s3:Bool) (ao3:Option Addr) (n3 cp3:Nat) (e3:Int) W,Bw w W→PN W (.agg #[.bool s1,.slice ao1 n1 cp1,.int .i64 e1]) t1→PN W (.agg #[.bool s2,.slice ao2 n2 cp2,.int .i64 e2]) t2→PN W (.agg #[.bool s3,.slice ao3 n3 cp3,.int .i64 e3]) ta→Calls Tryz.prog 96 #[.agg #[.bool s1,.slice ao1 n1 cp1,.int .i64 e1,.bool s2,.slice ao2 n2 cp2,.int .i64 e2],.agg #[.bool s3,.slice ao3 n3 cp3,.int .i64 e3]] W fun r w'=>OutFl W tn bx r w'))
  (k4:Hid (∀ W X,Bw w W→PN W X tn→Calls Tryz.prog 89 #[X] W fun r w'=>r=.returned (.int .i64 sg)∧Bw W w')) (hsg:Hid (-1≤sg∧sg≤1)) :
  Calls Tryz.prog 60 #[.agg #[.bool s3,.slice ao3 n3 cp3,.int .i64 e3]] w fun r w'=>r=.returned (.int .i64 (if 0<sg then X+1 else X))∧Bw w w':=by
 obtain⟨R,hR⟩:∃ R,R=(if 0<sg then X+1 else X):=⟨_,rfl⟩
 rw[←hR]
 have HRR:Hid (R=(if 0<sg then X+1 else X)):=hR
 have hXb:Hid (-30000≤X∧X≤30000):=(by rw[←hX.out];omega : -30000≤X∧X≤30000)
 have hw1:IntKind.i64.wrap (T - 1)=T - 1:=by rw[IntKind.wrap_i64];omega
 have hw2:IntKind.i64.wrap ((T - 1)*1262611)=(T - 1)*1262611:=by rw[IntKind.wrap_i64];omega
 obtain⟨W,hW⟩:∃ W,W=w.alloc (.cells #[.bool s3,.slice ao3 n3 cp3,.int .i64 e3] 50):=⟨_,rfl⟩
 have H0:Hid (PBx W w.heap.size s3 ao3 n3 cp3 e3 ta∧Bw w W):=(by
  have hb:Bw w W:=by rw[hW];exact(Below.refl _ _).alloc (Nat.le_refl _) _
  exact⟨⟨by rw[hW];exact heap_alloc_new _ _,h3.later hb⟩,hb⟩:_∧_)
 obtain⟨⟨c0,c1,c2⟩,-⟩:=box_cells H0.out.1.1
 have kk:=k1.out W H0.out.2 H0.out.1.2
 clear k1 h3 hR
 go_enter Tryz.func60,Tryz.ntmps60
 go_upto_region 1 with fail
 rw[←hW]
 clear hW
 go_wp2_with fail
 refine kk.mono ?_
 rintro r w1 ⟨rfl,hb1⟩
 clear kk c0 c1 c2
 have H1:Hid (PBx w1 w.heap.size s3 ao3 n3 cp3 e3 ta∧Bw w w1):=⟨H0.out.1.later hb1,H0.out.2.trans (hb1.mono H0.out.2.size)⟩
 clear H0 hb1
 go_upto_region 2 with fail
 rw[hX.out]
 clear hw1 hw2 hX hT1 hT2
 obtain⟨m1,hBW⟩:=H1.out
 obtain⟨x1,x2⟩:=hXb.out
 refine x_region follows_mixed [0,1,2,3,4,5,6,7,8,11] [9] [10] [12,13,14,15,16,17,11,18,19,5] [4] [[],[0],[1],[2],[],[3,4],[5],[6],[6],[8]] [7] 50 #[.bool false,.slice none 0 0,.int .i64 0] w1 _ [isV (.int .i64 X),isV (.int .i64 (-X)),isV (.int .i64 (-X - 1)),isF t1 t2,isV (.agg #[.bool s3,.slice ao3 n3 cp3,.int .i64 e3]),isW2 tn bx,isW2 tn bx,isP tn,isV (.bool bx),isV (.bool bx)] (by kernel_rfl) ⟨isV_stays _,isV_stays _,isV_stays _,isF_stays _ _,isV_stays _,isW2_stays _ _,isW2_stays _ _,isP_stays _,isV_stays _,isV_stays _,trivial⟩ ⟨fun _ _ _ _ _ h=>h,fun _ _ _ _ _ h=>h,fun _ _ _ _ _ h=>h,isF_rows8 _ _,fun _ _ _ _ _ h=>h,isW2_rows _ _,isW2_rows _ _,isP_rows8 _,fun _ _ _ _ _ h=>h,fun _ _ _ _ _ h=>h,trivial⟩ (by show ∀ s ∈ [12,13,14,15,16,17,11,18,19,5] ++ [4],s<26;decide) ?_ ?_ ?_ zeroN8 Tryz.info50 ?_ ?_
 ·intro k' hk U u h
  obtain rfl:k'=0:=Nat.lt_one_iff.1 hk
  obtain⟨ao,cap,rfl,-⟩:=(show PN U u tn from h)
  exact⟨_,rfl,rfl,one3 rfl rfl⟩
 ·intro j hj o ho act U hb hoth hdep
  have hj':j<10:=hj
  have hbU:Bw w U:=hBW.trans (hb.mono hBW.size)
  have t1':act.tmps[(1:Nat)]?=some (Value.pointer (some ⟨w.heap.size,0,none⟩)):=(hoth 1 (by decide)).trans rfl
  have t3':act.tmps[(3:Nat)]?=some (Value.int .i64 X):=(hoth 3 (by decide)).trans rfl
  have d1:=(cells3N (box_later m1.1 hb (lt_of_box m1.1))).1
  rcases(by omega:j=0∨j=1∨j=2∨j=3∨j=4∨j=5∨j=6∨j=7∨j=8∨j=9)with rfl|rfl|rfl|rfl|rfl|rfl|rfl|rfl|rfl|rfl
  ·obtain rfl:=Option.some.inj ho
   exact .inl ⟨rfl,owp_move rfl t3' ⟨_,rfl,rfl,Below.refl _ _⟩⟩
  ·obtain rfl:=Option.some.inj ho
   have y:act.tmps[(12:Nat)]?=_:=dV (hdep 0 (by simp[dL])) rfl
   exact .inl ⟨rfl,owp_negK (by omega) rfl y ⟨_,rfl,rfl,Below.refl _ _⟩⟩
  ·obtain rfl:=Option.some.inj ho
   have y:act.tmps[(13:Nat)]?=_:=dV (hdep 1 (by simp[dL])) rfl
   exact .inl ⟨rfl,owp_subK (by omega) rfl y ⟨_,rfl,rfl,Below.refl _ _⟩⟩
  ·obtain rfl:=Option.some.inj ho
   have y:act.tmps[(14:Nat)]?=_:=dV (hdep 2 (by simp[dL])) rfl
   refine .inl ⟨rfl,owp_call rfl (enters Tryz.func77 (by kernel_rfl) (by kernel_rfl)) (map1t8 y) ?_⟩
   refine(k2.out U hbU).mono ?_
   rintro r w' ⟨A,rfl,hA,hb'⟩
   exact⟨_,rfl,_,rfl,hA,hb'⟩
  ·obtain rfl:=Option.some.inj ho
   exact .inl ⟨rfl,owp_ldP (f:=0) rfl t1' d1.1 d1.2.1 d1.2.2 ⟨_,rfl,rfl,Below.refl _ _⟩⟩
  ·obtain rfl:=Option.some.inj ho
   obtain⟨u3,y3,v3⟩:=hdep 3 (by simp[dL])
   have y3':act.tmps[(15:Nat)]?=_:=y3
   obtain⟨s1,ao1,n1,cp1,e1,s2,ao2,n2,cp2,e2,rfl,q1,q2⟩:=(show Fv U u3 t1 t2 from v3)
   have y4:act.tmps[(16:Nat)]?=_:=dV (hdep 4 (by simp[dL])) rfl
   refine .inl ⟨rfl,owp_call rfl (enters Tryz.func96 (by kernel_rfl) (by kernel_rfl)) (map2 y3' y4) ?_⟩
   refine(k3.out s1 ao1 n1 cp1 e1 s2 ao2 n2 cp2 e2 s3 ao3 n3 cp3 e3 U hbU q1 q2 (m1.2.later hb)).mono ?_
   rintro r w' ⟨_,_,_,_,_,rfl,hA,hb'⟩
   exact⟨_,rfl,_,rfl,⟨_,rfl,hA⟩,hb'⟩
  ·obtain rfl:=Option.some.inj ho
   obtain⟨u5,y5,v5⟩:=hdep 5 (by simp[dL])
   have y5':act.tmps[(17:Nat)]?=_:=y5
   exact .inl ⟨rfl,owp_move rfl y5' ⟨_,rfl,v5,Below.refl _ _⟩⟩
  ·obtain rfl:=Option.some.inj ho
   obtain⟨u6,y6,A,rfl,vA⟩:=hdep 6 (by simp[dL])
   have y6':act.tmps[(11:Nat)]?=_:=y6
   exact .inl ⟨rfl,owp_extS rfl y6' rfl ⟨_,rfl,vA,Below.refl _ _⟩⟩
  ·obtain rfl:=Option.some.inj ho
   obtain⟨u6,y6,A,rfl,vA⟩:=hdep 6 (by simp[dL])
   have y6':act.tmps[(11:Nat)]?=_:=y6
   exact .inl ⟨rfl,owp_extS rfl y6' rfl ⟨_,rfl,rfl,Below.refl _ _⟩⟩
  ·obtain rfl:=Option.some.inj ho
   have y:act.tmps[(19:Nat)]?=_:=dV (hdep 8 (by simp[dL])) rfl
   exact .inl ⟨rfl,owp_assign rfl y ⟨_,rfl,rfl,Below.refl _ _⟩⟩
 ·intro k' hk
  obtain rfl:k'=0:=Nat.lt_one_iff.1 hk
  exact⟨_,rfl,rfl⟩
 ·intro k' hk
  obtain rfl:k'=0:=Nat.lt_one_iff.1 hk
  exact⟨_,rfl,rfl⟩
 ·intro u g W3 hb3 hu hg hap
  obtain⟨g0,cs0,q0,z0⟩:=hg 0 (by decide)
  have q7:PN W3 (u 7) tn:=hu 7 (by decide)
  have q0':u 7=.agg cs0:=q0
  rw[q0'] at q7
  obtain⟨s5,ao5,n5,cp5,e5,h5⟩:=q7.shape1
  obtain rfl:=Value.agg.inj h5
  obtain⟨gqS,hgS⟩:∃ gqS,gqS=g 0:=⟨_,rfl⟩
  rw[←hgS] at z0 g0
  have H3:Hid (PBx W3 gqS s5 ao5 n5 cp5 e5 tn∧Bw w W3):=⟨⟨z0,q7⟩,hBW.trans (hb3.mono hBW.size)⟩
  clear hu hg hap hb3 m1 hBW H1 q0 q0' z0 g0 q7 h5 k2 k3 x1 x2
  simp only[putL,show List.range 10 = [0,1,2,3,4,5,6,7,8,9] from rfl,show List.range 1 = [0] from rfl,List.length_cons,List.length_nil,List.getD_cons_zero,List.getD_cons_succ,List.map_cons,List.map_nil,List.cons_append,List.nil_append,List.foldl_cons,List.foldl_nil,Nat.reduceLT,Nat.reduceMod,Nat.reduceDiv,Nat.reduceMul,Nat.reduceAdd,Nat.reduceEqDiff,reduceIte,Nat.one_ne_zero,Act.put,List.setIfInBounds_toArray,List.set_cons_zero,List.set_cons_succ]
  rw[←hgS]
  clear hgS
  obtain⟨⟨c0,c1,c2⟩,-⟩:=box_cells H3.out.1.1
  have kk:=k4.out W3 _ H3.out.2 H3.out.1.2
  clear k4
  go_wp2_with fail
  refine kk.mono ?_
  rintro r w4 ⟨rfl,hb4⟩
  have H4:Hid (Bw w w4):=H3.out.2.trans (hb4.mono H3.out.2.size)
  clear kk c0 c1 c2 hb4 H3
  have hw3:IntKind.i64.wrap (X+1)=X+1:=by have:=hXb.out;rw[IntKind.wrap_i64];omega
  by_cases hs:0<sg
  ·obtain rfl:R=X+1:=by rw[HRR.out,if_pos hs]
   go_wp2
   go_ret
   exact⟨rfl,H4.out⟩
  ·obtain rfl:R=X:=by rw[HRR.out,if_neg hs]
   go_wp2
   go_ret
   exact⟨rfl,H4.out⟩
theorem Dword_1 (s1:Bool) (v:Value) (e:Int) (x n:Nat) (w:World) (h:Is w v x) (hn:Hid (dlen x=n)) (hn2:n≤2) (he0:0≤e) (he1:e<64) (hx:Hid (x*2^e.toNat<18446744073709551616)) :
  Calls Tryz.prog 92 #[.agg #[.bool s1,v,.int .i64 e]] w fun r w'=>r=.returned (.int .u64 (x*2^e.toNat:Nat))∧Bw w w':=by
 obtain⟨ao,cap,rfl,-,-,b,o,h3,h4⟩:=h
 rw[hn.out] at h3 h4 ⊢
 obtain⟨W,hW⟩:∃ W,W=w.alloc (.cells #[.bool s1,.slice ao n cap,.int .i64 e] 50):=⟨_,rfl⟩
 have hBW:Bw w W:=by rw[hW];exact(Below.refl _ _).alloc (Nat.le_refl _) _
 have HB:Hid (Bw w W):=hBW
 have hbx:W.heap[w.heap.size]?=some (.cells #[.bool s1,.slice ao n cap,.int .i64 e] 50 (0,0)):=by rw[hW];exact heap_alloc_new _ _
 obtain⟨⟨c0,c1,c2⟩,-⟩:=box_cells hbx
 have g4:∀ i,i<n→W.cell? ⟨b,o+i,none⟩=some (.int .u32 (dg x i:Nat)):=fun i hi=>(hBW.cell (World.block_lt_of_cell? _ _ (h4 i hi))).trans (h4 i hi)
 clear hbx hBW h4
 go_enter Tryz.func92,Tryz.ntmps92
 go_upto_region 1 with fail
 rw[←hW]
 clear hW
 go_wp2
 go_loop [3,9] (fun c s=>∃ i:Nat,i≤n∧c=.int .u64 (x % B^i:Nat)∧s=.int .i64 i) (fun _ s=>n - (intOf s).toNat)
 case atStart=>exact⟨0,Nat.zero_le _,by simp[Nat.mod_one],rfl⟩
 case round =>
  obtain⟨i,hi,rfl,rfl⟩:=hrel
  by_cases hin:i<n
  ·obtain rfl:=h3 (by omega)
   have g:=g4 i hin
   have hii:(i:Int)<(n:Int):=by omega
   have HS:Hid (x % B^(i+1)=x % B^i+B^i*dg x i∧x % B^i<B^i∧dg x i<B):=⟨mod_succ x i,Nat.mod_lt _ (Bpow_pos i),dg_lt _ _⟩
   generalize hq:x % B^i=q at *
   generalize hd:dg x i=d at *
   clear g4 hq hd
   rcases(show i=0∨i=1 by omega)with rfl|rfl
   ·rw[Nat.add_zero] at g
    have hl0:(0:Int)<(n:Int):=by omega
    go_wp2
    exact⟨⟨1,by omega,by rw[tf0 HS.out],rfl⟩,by simp[intOf];omega⟩
   ·have hl1:(1:Int)<(n:Int):=by omega
    go_wp2
    exact⟨⟨2,by omega,by rw[tf1 HS.out],rfl⟩,by simp[intOf];omega⟩
  ·obtain rfl:i=n:=by omega
   have hfull:x % B^i=x:=Nat.mod_eq_of_lt ((dlen_le i x).1 (by rw[hn.out];omega))
   rw[hfull]
   clear h3 g4 hfull
   obtain⟨k,rfl⟩:∃ k:Nat,e=(k:Int):=⟨e.toNat,by omega⟩
   have hx':x*2^k<18446744073709551616:=by have:=hx.out;rwa [Int.toNat_natCast] at this
   have HWR:Hid (IntKind.u64.wrap ((x:Int)*2^k)=(x:Int)*2^k):=(by
    have e1:(x:Int)*2^k=((x*2^k:Nat):Int):=by simp
    rw[e1,IntKind.wrap_u64]
    omega:IntKind.u64.wrap ((x:Int)*2^k)=(x:Int)*2^k)
   clear hx'
   go_wp2
   go_ret
   refine⟨?_,HB.out⟩
   show Ending.returned (Value.int .u64 (IntKind.u64.wrap ((x:Int)*2^k)))=_
   rw[HWR.out]
theorem Dword {N:Nat} {X:Value} {w:World} (hN:N<18446744073709551616) (hX:PN w X (un (N:Int) 0)):Calls Tryz.prog 92 #[X] w fun r w'=>r=.returned (.int .u64 N)∧Bw w w':=by
 obtain⟨ao,cap,rfl,hI⟩:=hX
 by_cases h0:N=0
 ·subst h0
  have e0:un ((0:Nat):Int) 0=nilN:=un_0 0
  rw[e0] at hI ⊢
  have k:=Dword_1 false (.slice ao (dlen nilN.2.1) cap) 0 0 0 w hI dlen_zero (by omega) (by omega) (by omega) (by decide:0*2^(0:Int).toNat<18446744073709551616)
  exact k
 ·have e2:(un (N:Int) 0).2.2=(tz N:Int):=by
   unfold un cn
   rw[Int.natAbs_natCast,if_neg h0]
   simp
  have e1:(un (N:Int) 0).2.1=N / 2^tz N:=by
   unfold un cn
   rw[Int.natAbs_natCast,if_neg h0]
  have sp:=(tz_spec _ _ (Nat.le_refl _) h0).1
  have hle:N / 2^tz N≤N:=Nat.div_le_self _ _
  have htz:tz N<64:=by
   rcases Nat.lt_or_ge (tz N) 64 with h|h
   ·exact h
   ·exfalso
    have h1:2^64≤2^tz N:=Nat.pow_le_pow_right (by decide) h
    have h2:2^tz N≤N:=Nat.le_of_dvd (by omega) ⟨_,sp.symm⟩
    have:(2:Nat)^64=18446744073709551616:=by decide
    omega
  have hm:(N / 2^tz N)*2^((tz N:Int)).toNat=N:=by rw[Int.toNat_natCast,Nat.mul_comm];exact sp
  rw[e1] at hI
  rw[e2,e1]
  have k:=Dword_1 (un (N:Int) 0).1 (.slice ao (dlen (N / 2^tz N)) cap) (tz N:Int) (N / 2^tz N) _ w hI rfl ((dlen_le 2 _).2 (Nat.lt_of_le_of_lt hle (by unfold B;omega))) (by omega) (by omega) (by rw[hm];exact hN)
  rw[hm] at k
  exact k
structure MkB (w wr:World) (n:Nat) (f:Nat→Nat):Prop where
 below:Bw w wr
 size:wr.heap.size=w.heap.size+1
 row:wr.rowIs w.heap.size 5 n (fun i=>.int .u8 (f i:Nat))
theorem MkB.start (w:World) (n:Nat):MkB w (w.alloc (.cells (madeCells #[.int .u8 0] n) 5)) n (fun _=>0) :=
 ⟨(Below.refl _ _).alloc (Nat.le_refl _) _,by simp,World.rowIs_made w _ n 5⟩
theorem MkB.cell {w wr:World} {n:Nat} {f:Nat→Nat} (h:MkB w wr n f) {i:Nat} (hi:i<n):wr.cell? ⟨w.heap.size,i,none⟩=some (.int .u8 (f i:Nat)):=h.row.cell hi
theorem MkB.frozen {w wr:World} {n:Nat} {f:Nat→Nat} (h:MkB w wr n f) (i:Nat):wr.frozen? ⟨w.heap.size,i,none⟩=false:=h.row.frozen i
theorem MkB.set {w wr:World} {n:Nat} {f:Nat→Nat} (h:MkB w wr n f) (i d:Nat):MkB w (wr.setCell ⟨w.heap.size,i,none⟩ (.int .u8 (d:Nat))) n (fun j=>if j=i then d else f j) :=
 ⟨h.below.setCell (Nat.le_refl _) _,by simp[h.size],(h.row.set i _).congr (fun j _=>by split <;> rfl)⟩
theorem MkB.congr {w wr:World} {n:Nat} {f g:Nat→Nat} (h:MkB w wr n f) (e:∀ i,i<n→f i=g i):MkB w wr n g :=
 ⟨h.below,h.size,h.row.congr (fun i hi=>by rw[e i hi])⟩
def ldB (n c j:Nat):Nat:=48+n / 10^(c - 1 - j) % 10
def ldL (n c:Nat):List UInt8:=(List.range c).map (fun j=>UInt8.ofNat (ldB n c j))
theorem Dlast (n c:Nat) (w:World) (hn:n<18446744073709551616) (hc0:0<c) (hc:c≤18) :
  Calls Tryz.prog 91 #[.int .u64 n,.int .i64 c] w fun r w'=>r=.returned (.string ⟨(ldL n c).toArray⟩)∧Bw w w':=by
 have hmk:=run_make_row' (P:=Tryz.prog) 65 5 (.int .u8 0) 1 Tryz.underlying65 (by kernel_rfl) rfl .i64 .i64 c (by omega) (by omega)
 have hw1:IntKind.i64.wrap ((c:Int) - 1)=(c:Int) - 1:=by rw[IntKind.wrap_i64];omega
 go_enter Tryz.func91,Tryz.ntmps91
 go_wp2
 clear hmk
 go_loopw [0,10] (fun d v wr=>∃ i:Nat,i≤c∧d=.int .u64 (n / 10^i:Nat)∧v=.int .i64 i∧Hid (MkB w wr c (fun j=>if c - i≤j then ldB n c j else 0))) (fun _ v _=>c - (intOf v).toNat)
 case atStart=>exact⟨0,Nat.zero_le _,by rw[Nat.pow_zero,Nat.div_one],rfl,(MkB.start w c).congr fun j hj=>by rw[if_neg (by omega)]⟩
 case round =>
  obtain⟨i,hi,rfl,rfl,hM⟩:=hrel
  by_cases hic:i<c
  ·obtain⟨k,hk⟩:∃ k:Nat,(c:Int) - 1 - (i:Int)=(k:Int):=⟨c - 1 - i,by omega⟩
   obtain⟨d,hd⟩:∃ d,d=n / 10^i:=⟨_,rfl⟩
   rw[←hd]
   have hdn:d≤n:=by rw[hd];exact Nat.div_le_self _ _
   have hii:(i:Int)<(c:Int):=by omega
   have hkc:(k:Int)<(c:Int):=by omega
   have hw2:IntKind.i64.wrap ((c:Int) - 1 - (i:Int))=(k:Int):=by rw[IntKind.wrap_i64,hk];omega
   have hr:(d:Int).tmod 10=((d % 10:Nat):Int):=by rw[Int.tmod_eq_emod_of_nonneg (by omega)];rfl
   have hq:(d:Int).tdiv 10=((d / 10:Nat):Int):=by rw[Int.tdiv_eq_ediv_of_nonneg (by omega)];rfl
   obtain⟨m,hm⟩:∃ m,m=d % 10:=⟨_,rfl⟩
   obtain⟨q,hq'⟩:∃ q,q=d / 10:=⟨_,rfl⟩
   rw[←hm] at hr
   rw[←hq'] at hq
   have hm10:m<10:=by omega
   have hw3:IntKind.u8.wrap (m:Int)=(m:Int):=by rw[IntKind.wrap_u8];omega
   have hw4:IntKind.u8.wrap (48+(m:Int))=((48+m:Nat):Int):=by rw[IntKind.wrap_u8];omega
   have hwq:IntKind.u64.wrap (q:Int)=(q:Int):=by rw[IntKind.wrap_u64];omega
   have hwm:IntKind.u64.wrap (m:Int)=(m:Int):=by rw[IntKind.wrap_u64];omega
   have hwi:IntKind.i64.wrap ((i:Int)+1)=(i:Int)+1:=by rw[IntKind.wrap_i64];omega
   have HD:Hid (d=n / 10^i∧m=d % 10∧q=d / 10∧k=c - 1 - i):=⟨hd,hm,hq',by omega⟩
   clear hd hm hq'
   have g:=hM.out.cell (i:=k) (by omega)
   have gf:=hM.out.frozen k
   go_wp2
   obtain⟨e1,e2,e3,e4⟩:=HD.out
   have hst:=hM.out.set k (48+m)
   refine⟨⟨i+1,by omega,?_,by push_cast;rfl,?_⟩,by simp[intOf];omega⟩
   ·rw[e3,e1,Nat.div_div_eq_div_mul,←Nat.pow_succ]
   ·have hst2:MkB w (wr.setCell ⟨w.heap.size,k,none⟩ (.int .u8 (48+(m:Int)))) c (fun j=>if j=k then 48+m else if c - i≤j then ldB n c j else 0):=by
     have e5:((48+m:Nat):Int)=48+(m:Int):=by omega
     rw[e5] at hst
     exact hst
    refine hst2.congr fun j hj=>?_
    by_cases hjk:j=k
    ·rw[if_pos hjk,if_pos (by omega)]
     unfold ldB
     rw[show c - 1 - j=i by omega,←e1,←e2]
    ·rw[if_neg hjk]
     by_cases hji:c - i≤j
     ·rw[if_pos hji,if_pos (by omega)]
     ·rw[if_neg hji,if_neg (by omega)]
  ·obtain rfl:i=c:=by omega
   have hl:(ldL n i).length=i:=by simp[ldL]
   have hcv:=run_convert_bytes_back (P:=Tryz.prog) wr 65 9 5 ⟨w.heap.size,0,none⟩ i (ldL n i) Tryz.underlying65 Tryz.underlying5 Tryz.underlying9 (fun j hj=>by
    have hj':j<i:=by rw[hl] at hj;exact hj
    have g:=hM.out.cell hj'
    have ea:(⟨w.heap.size,0,none⟩:Addr).add j=⟨w.heap.size,j,none⟩:=by
     simp only[Addr.add,Nat.zero_add]
     split
     ·rename_i h;rw[h]
     ·rfl
    rw[ea,g,if_pos (by omega)]
    have hb:ldB n i j<256:=by unfold ldB;omega
    simp[ldL,Nat.mod_eq_of_lt hb])
   rw[hl] at hcv
   have HB:Hid (Bw w wr):=hM.out.below
   have hlt:¬ (i:Int)<(i:Int):=by omega
   clear hM hl
   go_wp2
   go_ret
   exact⟨rfl,HB.out⟩
def wtL (N:Nat):Nat→List UInt8
 | 0 => []
 | k+1=>ldL (N / 10^(18*k) % 10^18) 18++wtL N k
theorem owp_cat {Q:Exit→Act→World→Prop} {o:Oper} {K:Act→World→Prop} {a:Act} {w:World} {s:Tmp} {t:Tmp} {x y:ByteArray} (hsz:x.size+y.size≤9223372036854775807) (hop:o.op=.binOp .add 9 (.tmp s) (.tmp t) 9) (hs:a.tmps[s]?=some (.string x)) (ht:a.tmps[t]?=some (.string y)) (h:K (a.put o.dst (.string (x++y))) w):o.wp Tryz.prog a w K Q :=
 owp_run1 (w':=w) (by simp[execOp,hop,Act.eval,hs,ht,go_sem,hsz]) h
theorem wtL_len (N:Nat):∀ k,(wtL N k).length=18*k
 | 0=>rfl
 | k+1=>by
  unfold wtL
  rw[List.length_append,wtL_len N k]
  simp[ldL]
  omega
theorem cat_small {M N k:Nat} (h:k≤100000):(⟨(ldL M 18).toArray⟩:ByteArray).size+(⟨(wtL N k).toArray⟩:ByteArray).size≤9223372036854775807:=by
 have h1:(ldL M 18).length=18:=by simp[ldL]
 have h2:=wtL_len N k
 simp only[ByteArray.size,List.size_toArray,h1,h2]
 omega
theorem DwholeText_1 (s1:Bool) (ao1:Option Addr) (n1 cp1:Nat) (e1:Int) (N L:Nat) (ts:Bool×Nat×Int) (OUT:ByteArray) (w:World) (h1:PN w (.agg #[.bool s1,.slice ao1 n1 cp1,.int .i64 e1]) (un (N:Int) 0)) (hL:Hid (N<10^(18*L))) (hLb:Hid (L≤100000)) (hmin:Hid (∀ k,k<L→N / 10^(18*k)≠0))
  (k1:Hid (∀ W,Bw w W→Calls Tryz.prog 88 #[.int .i64 10,.int .i64 18] W fun r w'=>OutA W ts r w'))
  (k2:Hid (∀ W X (Y:Nat),Bw w W→PN W X (un (Y:Int) 0)→Y≤N→Calls Tryz.prog 89 #[X] W fun r w'=>r=.returned (.int .i64 (if Y=0 then 0 else 1))∧Bw W w'))
  (k3:Hid (∀ W X S Y,Bw w W→PN W X (un ((Y:Nat):Int) 0)→PN W S ts→Y≤N→Calls Tryz.prog 90 #[X,S,.int .i64 0] W fun r w'=>∃ (s5:Bool) (ao5:Option Addr) (n5 cp5:Nat) (e5:Int) (bx:Bool),r=.returned (.tuple #[.agg #[.bool s5,.slice ao5 n5 cp5,.int .i64 e5],.bool bx,.int .i64 0])∧PN w' (.agg #[.bool s5,.slice ao5 n5 cp5,.int .i64 e5]) (un ((Y / 10^18:Nat):Int) 0)∧Bw W w'))
  (k4:Hid (∀ W X S Y,Bw w W→PN W X (un ((Y:Nat):Int) 0)→PN W S ts→Y≤N→Calls Tryz.prog 94 #[X,S] W fun r w'=>OutA W (un ((Y*10^18:Nat):Int) 0) r w'))
  (k5:Hid (∀ W X Z' Y,Bw w W→PN W X (un ((Y:Nat):Int) 0)→PN W Z' (un ((Y / 10^18*10^18:Nat):Int) 0)→Y≤N→Calls Tryz.prog 93 #[X,Z'] W fun r w'=>OutA W (un ((Y % 10^18:Nat):Int) 0) r w'))
  (k6:Hid (∀ W,Calls Tryz.prog 95 #[.string ⟨(wtL N L).toArray⟩,.string ⟨#[48]⟩] W fun r w'=>r=.returned (.string OUT)∧Bw W w')) :
  Calls Tryz.prog 33 #[.agg #[.bool s1,.slice ao1 n1 cp1,.int .i64 e1]] w fun r w'=>r=.returned (.string OUT)∧Bw w w':=by
 obtain⟨W,hW⟩:∃ W,W=w.alloc (.cells #[.bool s1,.slice ao1 n1 cp1,.int .i64 e1] 50):=⟨_,rfl⟩
 have H0:Hid (PBx W w.heap.size s1 ao1 n1 cp1 e1 (un (N:Int) 0)∧Bw w W):=(by
  have hb:Bw w W:=by rw[hW];exact(Below.refl _ _).alloc (Nat.le_refl _) _
  exact⟨⟨by rw[hW];exact heap_alloc_new _ _,h1.later hb⟩,hb⟩:_∧_)
 have kk:=k1.out W H0.out.2
 clear k1 h1
 go_enter Tryz.func33,Tryz.ntmps33
 go_upto_region 1 with fail
 rw[←hW]
 clear hW
 go_wp2_with fail
 refine kk.mono ?_
 rintro r w1 ⟨s2,ao2,n2,cp2,e2,rfl,hA,hb1⟩
 clear kk
 obtain⟨W1,hW1⟩:∃ W1,W1=w1.alloc (.cells #[.bool s2,.slice ao2 n2 cp2,.int .i64 e2] 50):=⟨_,rfl⟩
 have hbV:Bw w1 W1:=by rw[hW1];exact(Below.refl _ _).alloc (Nat.le_refl _) _
 have n6:W1.heap[w1.heap.size]?=some (.cells #[.bool s2,.slice ao2 n2 cp2,.int .i64 e2] 50 (0,0)):=by rw[hW1];exact heap_alloc_new _ _
 have hb01:Bw W W1:=hb1.trans (hbV.mono hb1.size)
 go_upto_region 2 with fail
 rw[←hW1]
 clear hW1
 have hA':=hA.later hbV
 have hl:=H0.out.1.lt
 have hsz:=hb1.size
 clear hbV hA
 generalize w1.heap.size=gqS at *
 have H1:Hid (PBx W1 w.heap.size s1 ao1 n1 cp1 e1 (un (N:Int) 0)∧PBx W1 gqS s2 ao2 n2 cp2 e2 ts∧Bw w W1∧w.heap.size<gqS):=⟨H0.out.1.later hb01,⟨n6,hA'⟩,H0.out.2.trans (hb01.mono H0.out.2.size),by omega⟩
 clear H0 n6 hA' hb1 hb01 hl hsz
 go_wp2
 go_loopg [4] L (fun m v wr=>∃ (k:Nat) (s3:Bool) (ao3:Option Addr) (n3 cp3:Nat) (e3:Int),k+m=L∧v=.string ⟨(wtL N k).toArray⟩∧Hid (PBx wr w.heap.size s3 ao3 n3 cp3 e3 (un ((N / 10^(18*k):Nat):Int) 0)∧PBx wr gqS s2 ao2 n2 cp2 e2 ts∧Bw w wr∧w.heap.size<gqS))
 case atStart=>exact⟨0,s1,ao1,n1,cp1,e1,by omega,rfl,by rw[Nat.mul_zero,Nat.pow_zero,Nat.div_one];exact H1⟩
 case round =>
  obtain⟨k,s3,ao3,n3,cp3,e3,hk,rfl,HI⟩:=hrel
  clear H1
  obtain⟨Y,hY⟩:∃ Y,Y=N / 10^(18*k):=⟨_,rfl⟩
  have HY:Hid (Y=N / 10^(18*k)∧Y≤N):=⟨hY,by rw[hY];exact Nat.div_le_self _ _⟩
  have HI2:Hid (PBx wr w.heap.size s3 ao3 n3 cp3 e3 (un ((Y:Nat):Int) 0)∧PBx wr gqS s2 ao2 n2 cp2 e2 ts∧Bw w wr∧w.heap.size<gqS):=by rw[hY];exact HI
  have HK:Hid (k+gk=L):=hk
  clear hY HI hk
  obtain⟨⟨a0,a1,a2⟩,-⟩:=box_cells HI2.out.1.1
  have kk:=k2.out wr _ Y HI2.out.2.2.1 HI2.out.1.2 HY.out.2
  by_cases hY0:Y=0
  ·rw[if_pos hY0] at kk
   obtain rfl:k=L:=by
    rcases Nat.lt_or_ge k L with h|h
    ·exact absurd (HY.out.1 ▸ hY0) (hmin.out k h)
    ·have:=HK.out;omega
   clear hY0
   go_wp2_with fail
   refine kk.mono ?_
   rintro r w3 ⟨rfl,hb3⟩
   have HB3:Hid (Bw w w3):=HI2.out.2.2.1.trans (hb3.mono HI2.out.2.2.1.size)
   clear kk hb3 a0 a1 a2 HI2
   have kt:=k6.out w3
   go_wp2_with fail
   refine kt.mono ?_
   rintro r w4 ⟨rfl,hb4⟩
   have HB4:Hid (Bw w w4):=HB3.out.trans (hb4.mono HB3.out.size)
   clear kt hb4
   go_wp2
   go_ret
   exact⟨rfl,HB4.out⟩
  ·rw[if_neg hY0] at kk
   have HY0:Hid (Y≠0):=hY0
   clear hY0
   go_wp2_with fail
   refine kk.mono ?_
   rintro r w3 ⟨rfl,hb3⟩
   have H3:Hid (PBx w3 w.heap.size s3 ao3 n3 cp3 e3 (un ((Y:Nat):Int) 0)∧PBx w3 gqS s2 ao2 n2 cp2 e2 ts∧Bw w w3∧w.heap.size<gqS):=⟨HI2.out.1.later hb3,HI2.out.2.1.later hb3,HI2.out.2.2.1.trans (hb3.mono HI2.out.2.2.1.size),HI2.out.2.2.2⟩
   clear kk hb3 a0 a1 a2 HI2
   obtain⟨⟨a0,a1,a2⟩,-⟩:=box_cells H3.out.1.1
   obtain⟨⟨b0,b1,b2⟩,-⟩:=box_cells H3.out.2.1.1
   have kk:=k3.out w3 _ _ Y H3.out.2.2.1 H3.out.1.2 H3.out.2.1.2 HY.out.2
   go_wp2_with fail
   refine kk.mono ?_
   rintro r w4 ⟨s5,ao5,n5,cp5,e5,bx,rfl,hA,hb4⟩
   clear kk a0 a1 a2 b0 b1 b2
   obtain⟨W4,hW4⟩:∃ W4,W4=w4.alloc (.cells #[.bool s5,.slice ao5 n5 cp5,.int .i64 e5] 50):=⟨_,rfl⟩
   have hbV:Bw w4 W4:=by rw[hW4];exact(Below.refl _ _).alloc (Nat.le_refl _) _
   have n6:W4.heap[w4.heap.size]?=some (.cells #[.bool s5,.slice ao5 n5 cp5,.int .i64 e5] 50 (0,0)):=by rw[hW4];exact heap_alloc_new _ _
   have hb34:Bw w3 W4:=hb4.trans (hbV.mono hb4.size)
   go_upto_region 5 with fail
   rw[←hW4]
   clear hW4
   have hA':=hA.later hbV
   have hl:=H3.out.2.1.lt
   have hsz:=hb4.size
   clear hbV hA
   generalize w4.heap.size=gqH at *
   have H4:Hid (PBx W4 w.heap.size s3 ao3 n3 cp3 e3 (un ((Y:Nat):Int) 0)∧PBx W4 gqS s2 ao2 n2 cp2 e2 ts∧Bw w W4∧w.heap.size<gqS∧PBx W4 gqH s5 ao5 n5 cp5 e5 (un ((Y / 10^18:Nat):Int) 0)∧gqS<gqH):=⟨H3.out.1.later hb34,H3.out.2.1.later hb34,H3.out.2.2.1.trans (hb34.mono H3.out.2.2.1.size),H3.out.2.2.2,⟨n6,hA'⟩,by omega⟩
   clear H3 n6 hA' hb4 hb34 hl hsz
   obtain⟨m1,m2,hBW,m3,m4,m5⟩:=H4.out
   have HSZ:Hid ((⟨(ldL (Y % 10^18) 18).toArray⟩:ByteArray).size+(⟨(wtL N k).toArray⟩:ByteArray).size≤9223372036854775807):=cat_small (by have:=HK.out;have:=hLb.out;omega)
   refine valSL_region follows_mixed 9 [19,20,21,22,23,24,25,26,27] [[],[],[],[1,2],[0,3],[4],[5],[],[6,7]] W4 _ [isV (.agg #[.bool s3,.slice ao3 n3 cp3,.int .i64 e3]),isV (.agg #[.bool s5,.slice ao5 n5 cp5,.int .i64 e5]),isV (.agg #[.bool s2,.slice ao2 n2 cp2,.int .i64 e2]),isP (un ((Y / 10^18*10^18:Nat):Int) 0),isP (un ((Y % 10^18:Nat):Int) 0),isV (.int .u64 ((Y % 10^18:Nat):Int)),isV (.string ⟨(ldL (Y % 10^18) 18).toArray⟩),isV (.string ⟨(wtL N k).toArray⟩),isV (.string (⟨(ldL (Y % 10^18) 18).toArray⟩++⟨(wtL N k).toArray⟩))] (by kernel_rfl) ⟨isV_stays _,isV_stays _,isV_stays _,isP_stays _,isP_stays _,isV_stays _,isV_stays _,isV_stays _,isV_stays _,trivial⟩ ⟨rfl,by decide,by show ∀ s ∈ [19,20,21,22,23,24,25,26,27],s<31;decide⟩ ?_ ?_
   ·intro j hj o ho act U hb hoth hdep
    have hj':j<9:=hj
    have hbU:Bw w U:=hBW.trans (hb.mono hBW.size)
    have t1':act.tmps[(1:Nat)]?=some (Value.pointer (some ⟨w.heap.size,0,none⟩)):=(hoth 1 (by decide)).trans rfl
    have t3':act.tmps[(3:Nat)]?=some (Value.pointer (some ⟨gqS,0,none⟩)):=(hoth 3 (by decide)).trans rfl
    have t5':act.tmps[(5:Nat)]?=some (Value.pointer (some ⟨gqH,0,none⟩)):=(hoth 5 (by decide)).trans rfl
    have d1:=(cells3N (box_later m1.1 hb (lt_of_box m1.1))).1
    have d3:=(cells3N (box_later m2.1 hb (lt_of_box m2.1))).1
    have d5:=(cells3N (box_later m4.1 hb (lt_of_box m4.1))).1
    rcases(by omega:j=0∨j=1∨j=2∨j=3∨j=4∨j=5∨j=6∨j=7∨j=8)with rfl|rfl|rfl|rfl|rfl|rfl|rfl|rfl|rfl
    ·obtain rfl:=Option.some.inj ho
     exact(owp_ldP (f:=0) rfl t1' d1.1 d1.2.1 d1.2.2 ⟨_,rfl,rfl,Below.refl _ _⟩)
    ·obtain rfl:=Option.some.inj ho
     exact(owp_ldP (f:=0) rfl t5' d5.1 d5.2.1 d5.2.2 ⟨_,rfl,rfl,Below.refl _ _⟩)
    ·obtain rfl:=Option.some.inj ho
     exact(owp_ldP (f:=0) rfl t3' d3.1 d3.2.1 d3.2.2 ⟨_,rfl,rfl,Below.refl _ _⟩)
    ·obtain rfl:=Option.some.inj ho
     have y1:act.tmps[(20:Nat)]?=_:=dV (hdep 1 (by simp[dL])) rfl
     have y2:act.tmps[(21:Nat)]?=_:=dV (hdep 2 (by simp[dL])) rfl
     refine(owp_call rfl (enters Tryz.func94 (by kernel_rfl) (by kernel_rfl)) (map2 y1 y2) ?_)
     refine(k4.out U _ _ _ hbU (m4.2.later hb) (m2.2.later hb) (Nat.le_trans (Nat.div_le_self _ _) HY.out.2)).mono ?_
     rintro r w' ⟨_,_,_,_,_,rfl,hA,hb'⟩
     exact⟨_,rfl,_,rfl,hA,hb'⟩
    ·obtain rfl:=Option.some.inj ho
     have y0:act.tmps[(19:Nat)]?=_:=dV (hdep 0 (by simp[dL])) rfl
     obtain⟨u3,y3,v3⟩:=hdep 3 (by simp[dL])
     have y3':act.tmps[(22:Nat)]?=_:=y3
     refine(owp_call rfl (enters Tryz.func93 (by kernel_rfl) (by kernel_rfl)) (map2 y0 y3') ?_)
     refine(k5.out U _ _ _ hbU (m1.2.later hb) v3 HY.out.2).mono ?_
     rintro r w' ⟨_,_,_,_,_,rfl,hA,hb'⟩
     exact⟨_,rfl,_,rfl,hA,hb'⟩
    ·obtain rfl:=Option.some.inj ho
     obtain⟨u4,y4,v4⟩:=hdep 4 (by simp[dL])
     have y4':act.tmps[(23:Nat)]?=_:=y4
     refine(owp_call rfl (enters Tryz.func92 (by kernel_rfl) (by kernel_rfl)) (map1t8 y4') ?_)
     refine(Dword (N:=Y % 10^18) (by omega) v4).mono ?_
     rintro r w' ⟨rfl,hb'⟩
     exact⟨_,rfl,_,rfl,rfl,hb'⟩
    ·obtain rfl:=Option.some.inj ho
     have y5:act.tmps[(24:Nat)]?=_:=dV (hdep 5 (by simp[dL])) rfl
     refine(owp_call rfl (enters Tryz.func91 (by kernel_rfl) (by kernel_rfl)) (map2k y5) ?_)
     refine(Dlast (Y % 10^18) 18 U (by omega) (by omega) (by omega)).mono ?_
     rintro r w' ⟨rfl,hb'⟩
     exact⟨_,rfl,_,rfl,rfl,hb'⟩
    ·obtain rfl:=Option.some.inj ho
     have t4':act.tmps[(4:Nat)]?=some (.string ⟨(wtL N k).toArray⟩):=(hoth 4 (by decide)).trans rfl
     exact(owp_move rfl t4' ⟨_,rfl,rfl,Below.refl _ _⟩)
    ·obtain rfl:=Option.some.inj ho
     have y6:act.tmps[(25:Nat)]?=_:=dV (hdep 6 (by simp[dL])) rfl
     have y7:act.tmps[(26:Nat)]?=_:=dV (hdep 7 (by simp[dL])) rfl
     exact(owp_cat HSZ.out rfl y6 y7 ⟨_,rfl,rfl,Below.refl _ _⟩)
   ·intro o ho u W5 hb5 hu
    obtain rfl:=Option.some.inj ho
    have u8:u 8=.string (⟨(ldL (Y % 10^18) 18).toArray⟩++⟨(wtL N k).toArray⟩):=hu 8 (by decide)
    have H5:Hid (PBx W5 w.heap.size s3 ao3 n3 cp3 e3 (un ((Y:Nat):Int) 0)∧PBx W5 gqS s2 ao2 n2 cp2 e2 ts∧Bw w W5∧w.heap.size<gqS∧PBx W5 gqH s5 ao5 n5 cp5 e5 (un ((Y / 10^18:Nat):Int) 0)∧gqS<gqH):=⟨m1.later hb5,m2.later hb5,hBW.trans (hb5.mono hBW.size),m3,m4.later hb5,m5⟩
    clear hu hb5 m1 m2 m3 m4 m5 hBW H4
    simp only[putL,show List.range 9 = [0,1,2,3,4,5,6,7,8] from rfl,show List.range 9 = [0,1,2,3,4,5,6,7,8] from rfl,List.length_cons,List.length_nil,List.getD_cons_zero,List.getD_cons_succ,List.map_cons,List.map_nil,List.cons_append,List.nil_append,List.foldl_cons,List.foldl_nil,Nat.reduceLT,Nat.reduceMod,Nat.reduceDiv,Nat.reduceMul,Nat.reduceAdd,Nat.reduceEqDiff,reduceIte,Nat.one_ne_zero,Act.put,List.setIfInBounds_toArray,List.set_cons_zero,List.set_cons_succ]
    rw[u8]
    clear u8
    refine owp_assign rfl rfl ?_
    simp only[Act.put,List.setIfInBounds_toArray,List.set_cons_zero,List.set_cons_succ]
    obtain⟨⟨a0,a1,a2⟩,-⟩:=box_cells H5.out.2.2.2.2.1.1
    obtain⟨⟨b0,b1,b2⟩,f0,f1,f2⟩:=box_cells H5.out.1.1
    go_wp2_with fail
    have hkL:k<L:=by
     rcases Nat.lt_or_ge k L with h|h
     ·exact h
     ·exfalso
      refine HY0.out ?_
      rw[HY.out.1]
      exact Nat.div_eq_of_lt (Nat.lt_of_lt_of_le hL.out (Nat.pow_le_pow_right (by decide) (by omega)))
    have eY:Y / 10^18=N / 10^(18*(k+1)):=by
     rw[HY.out.1,Nat.div_div_eq_div_mul,←Nat.pow_add,Nat.mul_succ]
    have e18:(10:Nat)^18=1000000000000000000:=by decide
    go_roundg (gk - 1)
    case measure=>have:=HK.out;omega
    case rel =>
     obtain⟨q1,q2,q3,q4,q5,q6⟩:=H5.out
     refine⟨k+1,s5,ao5,n5,cp5,e5,by have:=HK.out;omega,?_,?_⟩
     ·rw[bytes_cat]
      show Value.string _=Value.string ⟨(ldL (N / 10^(18*k) % 10^18) 18++wtL N k).toArray⟩
      rw[←HY.out.1,e18]
     ·rw[←eY]
      refine⟨⟨store3 _ _ _ q1.1,pn_storeP q5.2 q1.1 _ _ _⟩,⟨(store3_other _ _ _ (by omega)).trans q2.1,pn_storeP q2.2 q1.1 _ _ _⟩,below_store3 q3 (Nat.le_refl _) _ _ _,q4⟩
def nzL (n:Int):List UInt8:=List.replicate n.toNat 48
theorem nzL_len (n:Int):(nzL n).length=n.toNat:=by simp[nzL]
theorem Dnoughts (n:Int) (w:World) (hn : -100000≤n∧n≤100000)
  (kR:∀ W,Calls Tryz.prog 126 #[.string ⟨#[48]⟩,.int .i64 (max 0 n)] W fun r w'=>r=.returned (.string ⟨(nzL n).toArray⟩)∧Bw W w') :
  Calls Tryz.prog 59 #[.int .i64 n] w fun r w'=>r=.returned (.string ⟨(nzL n).toArray⟩)∧Bw w w':=by
 have kk:=kR w
 go_enter Tryz.func59,Tryz.ntmps59
 go_wp2_with fail
 refine kk.mono ?_
 rintro r w1 ⟨rfl,hb1⟩
 have HB:Hid (Bw w w1):=hb1
 clear kk hb1
 go_wp2
 go_ret
 exact⟨rfl,HB.out⟩
theorem bsz (L:List UInt8):(⟨L.toArray⟩:ByteArray).size=L.length:=rfl
def ptL (d:List UInt8) (p:Int):List UInt8:=if p≤0 then nzL (1 - d.length)++d++nzL (-p) else
 let e:=nzL (p+1 - d.length)++d
 e.take (e.length - p.toNat)++46 :: e.drop (e.length - p.toNat)
def KNz (w:World):Prop:=∀ (n:Int) W,-100000≤n∧n≤100000→Bw w W→Calls Tryz.prog 59 #[.int .i64 n] W fun r w'=>r=.returned (.string ⟨(nzL n).toArray⟩)∧Bw W w'
theorem Dpointed_0 (d:List UInt8) (p:Int) (w:World) (hd:d.length≤20000) (hp:p≤0) (hp2 : -20000≤p) (kN:Hid (KNz w)) :
  Calls Tryz.prog 26 #[.string ⟨d.toArray⟩,.int .i64 p] w fun r w'=>r=.returned (.string ⟨(ptL d p).toArray⟩)∧Bw w w':=by
 have hsz:(⟨d.toArray⟩:ByteArray).size=d.length:=rfl
 have hw1:IntKind.i64.wrap (1 - (d.length:Int))=1 - (d.length:Int):=by rw[IntKind.wrap_i64];omega
 have hw2:IntKind.i64.wrap (-p) = -p:=by rw[IntKind.wrap_i64];omega
 have kk:=kN.out (1 - (d.length:Int)) w (by omega) (Below.refl _ _)
 have l1:=nzL_len (1 - (d.length:Int))
 have l2:=nzL_len (-p)
 have hc1:(⟨(nzL (1 - (d.length:Int))).toArray⟩:ByteArray).size+(⟨d.toArray⟩:ByteArray).size≤9223372036854775807:=by simp only[bsz];omega
 have hc2:((⟨(nzL (1 - (d.length:Int))).toArray⟩:ByteArray)++⟨d.toArray⟩).size+(⟨(nzL (-p)).toArray⟩:ByteArray).size≤9223372036854775807:=by rw[bytes_cat];simp only[bsz,List.length_append];omega
 rw[hsz] at hc1
 clear l1 l2
 go_enter Tryz.func26,Tryz.ntmps26
 go_wp2_with fail
 refine kk.mono ?_
 rintro r w1 ⟨rfl,hb1⟩
 have HB:Hid (Bw w w1):=hb1
 clear kk hb1
 have kk:=kN.out (-p) w1 (by omega) HB.out
 go_wp2_with fail
 refine kk.mono ?_
 rintro r w2 ⟨rfl,hb2⟩
 have HB2:Hid (Bw w w2):=HB.out.trans (hb2.mono HB.out.size)
 clear kk hb2
 go_wp2
 go_ret
 refine⟨?_,HB2.out⟩
 show Ending.returned (Value.string _)=Ending.returned (Value.string _)
 rw[bytes_cat,bytes_cat]
 unfold ptL
 rw[if_pos hp]
theorem ext_take (L:List UInt8) (k:Nat):(⟨L.toArray⟩:ByteArray).extract 0 k=⟨(L.take k).toArray⟩:=by
 apply ByteArray.ext
 simp[ByteArray.extract,ByteArray.copySlice]
theorem ext_drop (L:List UInt8) (k:Nat):(⟨L.toArray⟩:ByteArray).extract k L.length=⟨(L.drop k).toArray⟩:=by
 apply ByteArray.ext
 simp[ByteArray.extract,ByteArray.copySlice]
 rw[List.take_of_length_le (by simp)]
theorem Dpointed_1 (d E:List UInt8) (p:Int) (q:Nat) (w:World) (hd:d.length≤20000) (hp:¬ p≤0) (hp2:p≤20000) (hE:Hid (E=nzL (p+1 - d.length)++d)) (hq:Hid ((E.length:Int) - p=(q:Int))) (kN:Hid (KNz w)) :
  Calls Tryz.prog 26 #[.string ⟨d.toArray⟩,.int .i64 p] w fun r w'=>r=.returned (.string ⟨(E.take q++46 :: E.drop q).toArray⟩)∧Bw w w':=by
 have hsz:(⟨d.toArray⟩:ByteArray).size=d.length:=rfl
 have hw1:IntKind.i64.wrap (p+1)=p+1:=by rw[IntKind.wrap_i64];omega
 have hw2:IntKind.i64.wrap (p+1 - (d.length:Int))=p+1 - (d.length:Int):=by rw[IntKind.wrap_i64];omega
 have kk:=kN.out (p+1 - (d.length:Int)) w (by omega) (Below.refl _ _)
 have l1:=nzL_len (p+1 - (d.length:Int))
 have lE:E.length=(p+1 - (d.length:Int)).toNat+d.length:=by rw[hE.out,List.length_append,l1]
 have hc1:(⟨(nzL (p+1 - (d.length:Int))).toArray⟩:ByteArray).size+d.length≤9223372036854775807:=by simp only[bsz];omega
 have eC:(⟨(nzL (p+1 - (d.length:Int))).toArray⟩:ByteArray)++⟨d.toArray⟩=⟨E.toArray⟩:=by rw[bytes_cat,←hE.out]
 have hszE:(⟨E.toArray⟩:ByteArray).size=E.length:=rfl
 have hw3:IntKind.i64.wrap ((E.length:Int) - p)=(q:Int):=by rw[hq.out,IntKind.wrap_i64];have:=hq.out;omega
 have hqE:(q:Int)≤(E.length:Int):=by have:=hq.out;omega
 have hqE':q≤E.length:=by omega
 have HQ:Hid (q≤E.length∧E.length≤60000):=⟨hqE',by omega⟩
 have hc2:((⟨E.toArray⟩:ByteArray).extract 0 q).size+(⟨#[46]⟩:ByteArray).size≤9223372036854775807:=by
  rw[ext_take,bsz,List.length_take,show(⟨#[46]⟩:ByteArray).size=1 from rfl];have:=HQ.out;omega
 have hc3:((⟨E.toArray⟩:ByteArray).extract 0 q++⟨#[46]⟩).size+((⟨E.toArray⟩:ByteArray).extract q E.length).size≤9223372036854775807:=by
  rw[ext_take,ext_drop,show(⟨#[46]⟩:ByteArray)=⟨[46].toArray⟩from rfl,bytes_cat,bsz,bsz,List.length_append,List.length_take,List.length_drop];have:=HQ.out;simp;omega
 have hq0:(0:Int)≤(q:Int):=by omega
 clear l1 lE
 go_enter Tryz.func26,Tryz.ntmps26
 go_wp2_with fail
 refine kk.mono ?_
 rintro r w1 ⟨rfl,hb1⟩
 have HB:Hid (Bw w w1):=hb1
 clear kk hb1
 go_upto_region 5 with fail
 go_quiet (fail)
 go_wp2
 go_ret
 refine⟨?_,bdrewN HB.out nq⟩
 show Ending.returned (Value.string _)=Ending.returned (Value.string _)
 rw[ext_take,ext_drop,show(⟨#[46]⟩:ByteArray)=⟨[46].toArray⟩from rfl,bytes_cat,bytes_cat,List.append_assoc]
 rfl
theorem Dpointed {d:List UInt8} {p:Int} {w:World} (hd:d.length≤20000) (hp : -20000≤p∧p≤20000) (kN:KNz w) :
  Calls Tryz.prog 26 #[.string ⟨d.toArray⟩,.int .i64 p] w fun r w'=>r=.returned (.string ⟨(ptL d p).toArray⟩)∧Bw w w':=by
 by_cases h:p≤0
 ·exact Dpointed_0 d p w hd h hp.1 kN
 ·have l1:=nzL_len (p+1 - (d.length:Int))
  have lE:(nzL (p+1 - d.length)++d).length=(p+1 - (d.length:Int)).toNat+d.length:=by rw[List.length_append,l1]
  have k:=Dpointed_1 d (nzL (p+1 - d.length)++d) p ((nzL (p+1 - d.length)++d).length - p.toNat) w hd h hp.2 rfl (by show _=_;omega) kN
  unfold ptL
  rw[if_neg h]
  exact k
end Go.Proofs.YtfkaogdmlcdceaaGreatDoor
