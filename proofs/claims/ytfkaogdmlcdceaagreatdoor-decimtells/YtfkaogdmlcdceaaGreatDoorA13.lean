/- Own work: contracts of the program's functions, part 13: FR3 FR4 DL5 PV PV2 FR5 FR6 DC1 SB1 SB2 SB3 SC1 RY6 SC2 DE2 PV3 RY7 SD1 SD2 UA8 UA9 UB1 UB2 UB3 SB4 SB5 SH5 SB6 SH6 SH7 SH8 SH9 SI1 SI2 SI3 SI4 UB4 HX W46 W47 W48 RE2 RE5 RE6 RD2 L12 L15 SE1 SE2 SB7 SE3 SF1 SF2 SF3 SF4. -/
import Derived.Test.YtfkaogdmlcdceaaGreatDoorA12
import Derived.Test.YtfkaogdmlcdceaaGreatDoorA4
import Derived.Test.YtfkaogdmlcdceaaGreatDoorA6
import Derived.Deep.MidRow
import Derived.Test.YtfkaogdmlcdceaaGreatDoorA7
import Derived.Test.YtfkaogdmlcdceaaGreatDoorA11
import Derived.Test.YtfkaogdmlcdceaaGreatDoorA10
import Derived.Test.YtfkaogdmlcdceaaGreatDoorA5
import Derived.Test.YtfkaogdmlcdceaaGreatDoorA8
import Derived.Test.YtfkaogdmlcdceaaGreatDoorA3
import Derived.Lib.ItoaNum

set_option maxHeartbeats 16000000
set_option maxRecDepth 200000
set_option linter.unusedVariables false
set_option linter.unusedSimpArgs false
namespace Go.Proofs.YtfkaogdmlcdceaaGreatDoor
open Go.RowKit Go.Fl64
def Fv (W:World) (U:Value) (t1 t2:Bool×Nat×Int):Prop:=∃ (s1:Bool) (ao1:Option Addr) (n1 cp1:Nat) (e1:Int) (s2:Bool) (ao2:Option Addr) (n2 cp2:Nat) (e2:Int),U=.agg #[.bool s1,.slice ao1 n1 cp1,.int .i64 e1,.bool s2,.slice ao2 n2 cp2,.int .i64 e2]∧PN W (.agg #[.bool s1,.slice ao1 n1 cp1,.int .i64 e1]) t1∧PN W (.agg #[.bool s2,.slice ao2 n2 cp2,.int .i64 e2]) t2
theorem Fv.later {W w':World} {U:Value} {t1 t2:Bool×Nat×Int} (h:Fv W U t1 t2) (hb:Bw W w'):Fv w' U t1 t2:=by
 obtain⟨_,_,_,_,_,_,_,_,_,_,e,h1,h2⟩:=h
 exact⟨_,_,_,_,_,_,_,_,_,_,e,h1.later hb,h2.later hb⟩
theorem cells6F {w:World} {g:Nat} {a b c d e f:Value} {T:TypeId} (h:w.heap[g]?=some (.cells #[a,b,c,d,e,f] T (0,0))) :
  (w.cell? ⟨g,0,none⟩=some a∧w.cell? ⟨g,1,none⟩=some b∧w.cell? ⟨g,2,none⟩=some c∧w.cell? ⟨g,3,none⟩=some d∧w.cell? ⟨g,4,none⟩=some e∧w.cell? ⟨g,5,none⟩=some f)∧(w.frozen? ⟨g,0,none⟩=false∧w.frozen? ⟨g,1,none⟩=false∧w.frozen? ⟨g,2,none⟩=false∧w.frozen? ⟨g,3,none⟩=false∧w.frozen? ⟨g,4,none⟩=false∧w.frozen? ⟨g,5,none⟩=false):=by
 simp[World.cell?,World.frozen?,h]
theorem cells3N {w:World} {g:Nat} {a b c:Value} {T:TypeId} (h:w.heap[g]?=some (.cells #[a,b,c] T (0,0))) :
  (w.cell? ⟨g,0,none⟩=some a∧w.cell? ⟨g,1,none⟩=some b∧w.cell? ⟨g,2,none⟩=some c)∧(w.frozen? ⟨g,0,none⟩=false∧w.frozen? ⟨g,1,none⟩=false∧w.frozen? ⟨g,2,none⟩=false):=by
 simp[World.cell?,World.frozen?,h]
theorem two_new {w W:World} (a b:Obj) (hW:W=(w.alloc a).alloc b):W.heap[w.heap.size]?=some a∧W.heap[w.heap.size+1]?=some b∧W.heap.size=w.heap.size+1+1∧Bw w W:=by
 subst hW
 refine⟨?_,?_,by simp,((Below.refl _ _).alloc (Nat.le_refl _) _).alloc (by simp) _⟩
 ·rw[Below.heap_alloc _ _ _ (by simp)];exact heap_alloc_new _ _
 ·have:=heap_alloc_new (w.alloc a) b
  simpa using this
theorem at_cells {W W':World} {ao:Option Addr} {n z g:Nat} {T:TypeId} {s1 s2:Bool} {a1 a2:Option Addr} {m1 c1 m2 c2:Nat} {e1 e2:Int} (h:At W ao n z) (hE:W.heap[g]?=some (.cells #[.bool s1,.slice a1 m1 c1,.int .i64 e1] T (0,0))∨W.heap[g]?=some (.cells #[.bool s1,.slice a1 m1 c1,.int .i64 e1,.bool s2,.slice a2 m2 c2,.int .i64 e2] T (0,0))) (hW:∀ b,b≠g→W'.heap[b]?=W.heap[b]?):At W' ao n z:=by
 obtain⟨bb,o,h1,h2⟩:=h
 refine⟨bb,o,h1,fun i hi=>?_⟩
 have hc:=h2 i hi
 have hne:bb≠g:=by
  rintro rfl
  rcases hE with hE|hE
  ·simp only[World.cell?,hE] at hc
   rcases(show o+i=0∨o+i=1∨o+i=2∨3≤o+i by omega)with e|e|e|e
   ·rw[e] at hc;simp at hc
   ·rw[e] at hc;simp at hc
   ·rw[e] at hc;simp at hc
   ·rw[Array.getElem?_eq_none (by simpa using e)] at hc;cases hc
  ·simp only[World.cell?,hE] at hc
   rcases(show o+i=0∨o+i=1∨o+i=2∨o+i=3∨o+i=4∨o+i=5∨6≤o+i by omega)with e|e|e|e|e|e|e
   ·rw[e] at hc;simp at hc
   ·rw[e] at hc;simp at hc
   ·rw[e] at hc;simp at hc
   ·rw[e] at hc;simp at hc
   ·rw[e] at hc;simp at hc
   ·rw[e] at hc;simp at hc
   ·rw[Array.getElem?_eq_none (by simpa using e)] at hc;cases hc
 unfold World.cell? at hc ⊢
 rw[hW bb hne]
 exact hc
theorem set_other (W:World) (g b i:Nat) (v:Value) (h:b≠g):(W.setCell ⟨g,i,none⟩ v).heap[b]?=W.heap[b]?:=by
 simp[World.setCell,Array.getElem?_modify,Ne.symm h]
theorem PN.cells {W W':World} {A:Value} {t:Bool×Nat×Int} {g:Nat} {T:TypeId} {s1 s2:Bool} {a1 a2:Option Addr} {m1 c1 m2 c2:Nat} {e1 e2:Int} (h:PN W A t) (hE:W.heap[g]?=some (.cells #[.bool s1,.slice a1 m1 c1,.int .i64 e1] T (0,0))∨W.heap[g]?=some (.cells #[.bool s1,.slice a1 m1 c1,.int .i64 e1,.bool s2,.slice a2 m2 c2,.int .i64 e2] T (0,0))) (hW:∀ b,b≠g→W'.heap[b]?=W.heap[b]?):PN W' A t:=by
 obtain⟨ao,cap,rfl,a',c',h1,h2,h3,h4⟩:=h
 exact⟨ao,cap,rfl,a',c',h1,h2,h3,at_cells h4 hE hW⟩
theorem PN.set3 {W:World} {A:Value} {t:Bool×Nat×Int} {g:Nat} {T:TypeId} {s1:Bool} {a1:Option Addr} {m1 c1:Nat} {e1:Int} (h:PN W A t) (hE:W.heap[g]?=some (.cells #[.bool s1,.slice a1 m1 c1,.int .i64 e1] T (0,0))) (x y z:Value):PN (((W.setCell ⟨g,0,none⟩ x).setCell ⟨g,1,none⟩ y).setCell ⟨g,2,none⟩ z) A t :=
 h.cells (s2:=false) (a2:=none) (m2:=0) (c2:=0) (e2:=0) (.inl hE) fun b hb=>by rw[set_other _ _ _ _ _ hb,set_other _ _ _ _ _ hb,set_other _ _ _ _ _ hb]
theorem set6_at {w:World} {g:Nat} {a b c d e f:Value} {T:TypeId} (a1 b1 c1 a2 b2 c2:Value) (h:w.heap[g]?=some (.cells #[a,b,c,d,e,f] T (0,0))) :
  ((((((w.setCell ⟨g,0,none⟩ a1).setCell ⟨g,1,none⟩ b1).setCell ⟨g,2,none⟩ c1).setCell ⟨g,3,none⟩ a2).setCell ⟨g,4,none⟩ b2).setCell ⟨g,5,none⟩ c2).heap[g]?=some (.cells #[a1,b1,c1,a2,b2,c2] T (0,0)):=by
 simp[World.setCell,Array.getElem?_modify,h]
theorem PN.set6 {W:World} {A:Value} {t:Bool×Nat×Int} {g:Nat} {T:TypeId} {s1 s2:Bool} {a1 a2:Option Addr} {m1 c1 m2 c2:Nat} {e1 e2:Int} (h:PN W A t) (hE:W.heap[g]?=some (.cells #[.bool s1,.slice a1 m1 c1,.int .i64 e1,.bool s2,.slice a2 m2 c2,.int .i64 e2] T (0,0))) (x y z x' y' z':Value):PN ((((((W.setCell ⟨g,0,none⟩ x).setCell ⟨g,1,none⟩ y).setCell ⟨g,2,none⟩ z).setCell ⟨g,3,none⟩ x').setCell ⟨g,4,none⟩ y').setCell ⟨g,5,none⟩ z') A t :=
 h.cells (.inr hE) fun b hb=>by rw[set_other _ _ _ _ _ hb,set_other _ _ _ _ _ hb,set_other _ _ _ _ _ hb,set_other _ _ _ _ _ hb,set_other _ _ _ _ _ hb,set_other _ _ _ _ _ hb]
theorem below_set3 {B:Nat} {w0 w:World} {g:Nat} (h:Below B w0 w) (hg:B≤g) (x y z:Value):Below B w0 (((w.setCell ⟨g,0,none⟩ x).setCell ⟨g,1,none⟩ y).setCell ⟨g,2,none⟩ z):=((h.setCell hg _).setCell hg _).setCell hg _
theorem below_set6 {B:Nat} {w0 w:World} {g:Nat} (h:Below B w0 w) (hg:B≤g) (x y z x' y' z':Value):Below B w0 ((((((w.setCell ⟨g,0,none⟩ x).setCell ⟨g,1,none⟩ y).setCell ⟨g,2,none⟩ z).setCell ⟨g,3,none⟩ x').setCell ⟨g,4,none⟩ y').setCell ⟨g,5,none⟩ z'):=(((((h.setCell hg _).setCell hg _).setCell hg _).setCell hg _).setCell hg _).setCell hg _
theorem set3_at {w:World} {g:Nat} {a b c:Value} {T:TypeId} (a1 b1 c1:Value) (h:w.heap[g]?=some (.cells #[a,b,c] T (0,0))) :
  (((w.setCell ⟨g,0,none⟩ a1).setCell ⟨g,1,none⟩ b1).setCell ⟨g,2,none⟩ c1).heap[g]?=some (.cells #[a1,b1,c1] T (0,0)):=by
 simp[World.setCell,Array.getElem?_modify,h]
theorem three_new {w W:World} (a b c:Obj) (hW:W=((w.alloc a).alloc b).alloc c):W.heap[w.heap.size]?=some a∧W.heap[w.heap.size+1]?=some b∧W.heap[w.heap.size+1+1]?=some c∧Bw w W:=by
 obtain⟨V,hV⟩:∃ V,V=(w.alloc a).alloc b:=⟨_,rfl⟩
 obtain⟨h1,h2,h3,h4⟩:=two_new a b hV
 have hb:Bw V W:=by rw[hW,←hV];exact(Below.refl _ _).alloc (Nat.le_refl _) _
 refine⟨box_later h1 hb (by omega),box_later h2 hb (by omega),?_,h4.trans (hb.mono h4.size)⟩
 rw[hW,←hV,←h3];exact heap_alloc_new _ _
def OutP (W:World) (T:Bool×Nat×Int) (r:Ending) (w':World):Prop:=∃ s ao n cap e,r=.returned (.agg #[.bool s,.slice ao n cap,.int .i64 e])∧PN w' (.agg #[.bool s,.slice ao n cap,.int .i64 e]) T∧Bw W w'
def OutFv (W:World) (t1 t2:Bool×Nat×Int) (r:Ending) (w':World):Prop:=∃ U,r=.returned U∧Fv w' U t1 t2∧Bw W w'
end Go.Proofs.YtfkaogdmlcdceaaGreatDoor
namespace Go.Proofs.YtfkaogdmlcdceaaGreatDoor
open Go.RowKit
structure ParL (W0:World) (a0:Act) (m:Nat) (slot:Nat→Tmp) (V:Nat→World→Value→Prop) (listed:Array Bool) (a:Act) (w:World):Prop where
 below:Bw W0 w
 size:a.tmps.size=a0.tmps.size
 defers:a.defers=a0.defers
 other:∀ s,(∀ j,j<m→s≠slot j)→a.tmps[s]?=a0.tmps[s]?
 val:∀ j,j<m→listed.getD j false=true→∃ u,a.tmps[slot j]?=some u∧V j w u
theorem parl_region {P:Program} {ops:Array Oper} {Q:Exit→Act→World→Prop} {id:Nat} (hm:P.follows .mixedOrders=true) (m:Nat) (slot:Nat→Tmp) (dep:Nat→List Nat)
  (W0:World) (a0:Act) (V:Nat→World→Value→Prop) (hsz:ops.size=m+1)
  (hord:∀ (i:Nat) (o:Oper),ops[i]?=some o→∀ e ∈ o.after,e.on<i)
  (hV1:∀ j w w' u,Bw w w'→V j w u→V j w' u)
  (hdep:∀ j,j<m→∀ j' ∈ dep j,j'<m∧∀ o,ops[j]?=some o→∃ e ∈ o.after,e.on=j'∧Region.binds .any e=true)
  (hA:∀ j,j<m→∀ (a:Act) (w:World),Bw W0 w→(∀ s,(∀ j,j<m→s≠slot j)→a.tmps[s]?=a0.tmps[s]?) →
   (∀ j' ∈ dep j,∃ u,a.tmps[slot j']?=some u∧V j' w u)→wpOp P ops Q j (fun a' w'=>∃ u,a'=a.put (some (slot j)) u∧V j w' u∧Bw w w') a w)
  (hlast:∀ o,ops[m]?=some o→∀ j,j<m→∃ e ∈ o.after,e.on=j∧Region.binds .any e=true)
  (hin:∀ j,j<m→slot j<a0.tmps.size)
  (hinj:∀ j j',j<m→j'<m→slot j=slot j'→j=j')
  (hL:∀ (u:Nat→Value) (a:Act) (w:World),Bw W0 w→(∀ j,j<m→a.tmps[slot j]?=some (u j)∧V j w (u j)) →
   a.tmps.size=a0.tmps.size→a.defers=a0.defers→(∀ s,(∀ j,j<m→s≠slot j)→a.tmps[s]?=a0.tmps[s]?)→wpOp P ops Q m (fun a' w'=>Q .normal a' w') a w) :
  (Code.region id ops true).wp P Q a0 W0:=by
 refine wp_region_any hm ?_
 refine wpAny_inv (fun listed a w=>(listed.getD m false=false∧ParL W0 a0 m slot V listed a w)∨((∀ i,i<m+1→listed.getD i false=true)∧Q .normal a w)) ?_ ?_ ops.size _ a0 _ (by simp) ?_ (by simp)
 ·intro listed a w i hl hI hr
  obtain⟨hun,o,ho,hall⟩:=mem_ready.1 hr
  have hunf:=not_listed hun
  have hio:i<ops.size:=(Array.getElem?_eq_some_iff.1 ho).1
  have hil:i<listed.size:=by omega
  have hset:=listed_set hil
  have hne:∀ x,x≠i→(listed.setIfInBounds i true).getD x false=listed.getD x false:=fun x hx=>getD_set_ne false (Ne.symm hx)
  rcases hI with ⟨hm0,hI⟩|⟨hfull,-⟩
  ·by_cases him:i<m
   ·refine wpOp_mono ?_ (hA i him a w hI.below hI.other fun j' hj'=>?_)
    ·rintro a' w' ⟨u,rfl,hu,hb⟩
     have hlt:slot i<a.tmps.size:=by rw[hI.size];exact hin i him
     refine .inl ⟨by rw[hne m (by omega)];exact hm0,hI.below.trans (hb.mono hI.below.size),by rw[put_size];exact hI.size,by rw[put_defers];exact hI.defers,fun s h1=>?_,fun j hj h1=>?_⟩
     ·rw[put_get_ne (h1 i him)];exact hI.other s h1
     ·by_cases e:j=i
      ·subst e;exact⟨u,put_get hlt,hu⟩
      ·rw[hne j e] at h1
       obtain⟨u',g1,g2⟩:=hI.val j hj h1
       exact⟨u',by rw[put_get_ne (fun e2=>e (hinj j i hj him e2))];exact g1,hV1 _ _ _ _ hb g2⟩
    ·obtain⟨h1,h2⟩:=hdep i him j' hj'
     obtain⟨e,he,rfl,hbd⟩:=h2 o ho
     exact hI.val _ h1 (hall e he hbd)
   ·obtain rfl:i=m:=by omega
    have hl2:∀ j,j<i→listed.getD j false=true:=fun j hj=>by
     obtain⟨e,he,rfl,hbd⟩:=hlast o ho j hj
     exact hall e he hbd
    have hval:∀ j,∃ u,j<i→a.tmps[slot j]?=some u∧V j w u:=fun j=>by
     by_cases hj:j<i
     ·obtain⟨u,h1,h2⟩:=hI.val j hj (hl2 j hj)
      exact⟨u,fun _=>⟨h1,h2⟩⟩
     ·exact⟨undef,fun h=>absurd h hj⟩
    obtain⟨u,hu⟩:=Classical.axiomOfChoice hval
    refine wpOp_mono ?_ (hL u a w hI.below hu hI.size hI.defers hI.other)
    intro a' w' hq
    refine .inr ⟨fun j hj=>?_,hq⟩
    by_cases e:j=i
    ·rw[e];exact hset
    ·rw[hne j e];exact hl2 j (by omega)
  ·rw[hfull i (by omega)] at hunf
   cases hunf
 ·intro listed a w hl hI hr
  rcases hI with ⟨hm0,hI⟩|⟨-,hq⟩
  ·exfalso
   have hfull:∀ i,i<ops.size→listed.getD i false=true:=by
    intro i
    induction i using Nat.strongRecOn with
    | _ i ih =>
     intro hi
     cases hx:listed.getD i false with
     | true=>rfl
     | false =>
      exfalso
      have ho:ops[i]?=some ops[i]:=Array.getElem?_eq_getElem hi
      have:i ∈ Region.ready .any ops listed:=by
       refine mem_ready.2 ⟨?_,ops[i],ho,fun e he _=>ih e.on (hord i _ ho e he) (Nat.lt_trans (hord i _ ho e he) hi)⟩
       have hil:i<listed.size:=by omega
       simp only[Array.getD_eq_getD_getElem?,Array.getElem?_eq_getElem hil,Option.getD_some] at hx ⊢
       exact hx
      rw[hr] at this
      cases this
   rw[hfull m (by omega)] at hm0
   cases hm0
  ·exact hq
 ·have h0:∀ x,(Array.replicate ops.size false).getD x false=true→False:=fun x h=>by
   simp[Array.getD_eq_getD_getElem?,Array.getElem?_replicate] at h
   split at h <;> simp at h
  refine .inl ⟨?_,(Below.refl _ _).drew,rfl,rfl,fun _ _=>rfl,fun j _ h=>(h0 _ h).elim⟩
  cases hx:(Array.replicate ops.size false).getD m false with
  | false=>rfl
  | true=>exact(h0 _ hx).elim
def vhas (o:Oper) (j:Nat):Bool:=o.after.any fun e=>e.on==j&&Region.binds .any e
theorem vhas_ex {o:Oper} {j:Nat} (h:vhas o j=true):∃ e ∈ o.after,e.on=j∧Region.binds .any e=true:=by
 unfold vhas at h
 obtain⟨i,hi,h2⟩:=Array.any_eq_true.1 h
 rw[Bool.and_eq_true,beq_iff_eq] at h2
 exact⟨_,Array.getElem_mem hi,h2.1,h2.2⟩
theorem owp_move {P:Program} {Q:Exit→Act→World→Prop} {o:Oper} {K:Act→World→Prop} {a:Act} {w:World} {s:Tmp} {v:Value}
  (hop:o.op=.move (.tmp s)) (hs:a.tmps[s]?=some v) (h:K (a.put o.dst v) w):o.wp P a w K Q:=by
 unfold Oper.wp
 simp[execOp,hop,eval_get hs,Oper.upon,h]
theorem owp_assign {P:Program} {Q:Exit→Act→World→Prop} {o:Oper} {K:Act→World→Prop} {a:Act} {w:World} {s:Tmp} {v:Value}
  (hop:o.op=.assign (.tmp s)) (hs:a.tmps[s]?=some v) (h:K (a.put o.dst v) w):o.wp P a w K Q:=by
 unfold Oper.wp
 simp[execOp,hop,eval_get hs,Oper.upon,h]
theorem owp_call {P:Program} {Q:Exit→Act→World→Prop} {o:Oper} {K:Act→World→Prop} {a:Act} {w:World}
  {f:FuncId} {args:Array Operand} {ts:Array TypeId} (hop:o.op=.call { callee:=.value (.func f),args:=args,argTypes:=ts }) {vs:Array Value}
  (hc:∀ vs w,(callFunc f vs).run P w=.ok (.enter f vs) w) (hv:args.map a.eval=vs) (h:Calls P f vs w fun r w'=>∃ v,r=.returned v∧K (a.put o.dst v) w'):o.wp P a w K Q:=by
 unfold Oper.wp
 have e:(execOp a.eval o).run P w=.ok (.enter f vs) w:=by
  simp[execOp,hop,resolve,Deferred.ofValue,Act.eval,invoke,hv,hc]
 rw[e,Oper.upon_enter]
 refine h.mono ?_
 rintro r w' ⟨v,rfl,hk⟩
 exact hk
theorem owp_run1 {P:Program} {Q:Exit→Act→World→Prop} {o:Oper} {K:Act→World→Prop} {a:Act} {w w':World} {v:Value}
  (hr:(execOp a.eval o).run P w=.ok (.value v) w') (h:K (a.put o.dst v) w'):o.wp P a w K Q:=by
 unfold Oper.wp
 rw[hr]
 exact h
def Stays (P:World→Value→Prop):Prop:=∀ W W' A,Bw W W'→P W A→P W' A
def StaysAll:List (World→Value→Prop)→Prop
 | []=>True
 | P :: r=>Stays P∧StaysAll r
def vL (L:List (World→Value→Prop)) (j:Nat):World→Value→Prop:=L[j]?.getD (fun _ _=>False)
def dL (D:List (List Nat)) (j:Nat):List Nat:=D[j]?.getD []
def isV (x:Value):World→Value→Prop:=fun _ u=>u=x
theorem isV_stays (x:Value):Stays (isV x):=fun _ _ _ _ h=>h
theorem vL_stays:∀ {L:List (World→Value→Prop)},StaysAll L→∀ j,Stays (vL L j)
 | [],_,j=>fun W W' A hb h=>by simp[vL] at h
 | P :: r,hL,0=>hL.1
 | P :: r,hL,j+1=>by
  have:=vL_stays hL.2 j
  exact this
theorem owp_store {P:Program} {Q:Exit→Act→World→Prop} {o:Oper} {K:Act→World→Prop} {a:Act} {w:World}
  {ty:TypeId} {s v:Tmp} (hop:o.op=.store ty (.tmp s) (.tmp v)) {g:Nat} {old cs:Array Value}
  (hs:a.tmps[s]?=some (.pointer (some ⟨g,0,none⟩))) (hv:a.tmps[v]?=some (.agg cs)) (hb:w.heap[g]?=some (.cells old ty (0,0))) (hn:(P.info? ty).map (·.size)=some cs.size) (ho:old.size=cs.size) (h1:cs.all (·.oneCell')=true)
  (h:K (a.put o.dst undef) (w.setRow g cs)):o.wp P a w K Q:=by
 unfold Oper.wp
 simp[execOp,hop,eval_get hs,eval_get hv,Instr.storeAt,Instr.sureAddr,run_storeVar_row w g ty ty old cs hb hn ho h1,Result.andThen,Oper.upon,h]
end Go.Proofs.YtfkaogdmlcdceaaGreatDoor
namespace Go.Proofs.YtfkaogdmlcdceaaGreatDoor
open Go.RowKit Go.Fl64
theorem run_ldN (g o:Nat) (s:Bool) (ao:Option Addr) (n cp:Nat) (e:Int) (w:World) (h0:w.cell? ⟨g,o,none⟩=some (.bool s)) (h1:w.cell? ⟨g,o+1,none⟩=some (.slice ao n cp)) (h2:w.cell? ⟨g,o+2,none⟩=some (.int .i64 e)):(Instr.loadAt 50 (.pointer (some ⟨g,o,none⟩))).run Tryz.prog w=.ok (.agg #[.bool s,.slice ao n cp,.int .i64 e]) w :=
 run_loadAt_mid w g o 50 [.bool s,.slice ao n cp,.int .i64 e] _ (fun j v hv=>by
  match j with
  | 0=>simp at hv;subst hv;exact h0
  | 1=>simp at hv;subst hv;exact h1
  | 2=>simp at hv;subst hv;exact h2
  | k+3=>simp at hv) Tryz.underlying50 rfl Tryz.info50
def isP (T:Bool×Nat×Int):World→Value→Prop:=fun w u=>PN w u T
theorem isP_stays (T:Bool×Nat×Int):Stays (isP T):=fun _ _ _ hb h=>PN.later h hb
def isF (T T':Bool×Nat×Int):World→Value→Prop:=fun w u=>Fv w u T T'
theorem isF_stays (T T':Bool×Nat×Int):Stays (isF T T'):=fun _ _ _ hb h=>Fv.later h hb
theorem nabs {A k:Nat} (h:A<2^k):((A:Nat):Int).natAbs<2^k:=by rw[Int.natAbs_natCast];exact h
theorem mul_lt2 {a b k l:Nat} (h1:a<2^k) (h2:b<2^l):a*b<2^(k+l):=by rw[Nat.pow_add];exact Nat.mul_lt_mul'' h1 h2
theorem paddN {a b p k:Nat} (h1:a<2^k) (h2:b<2^k) (hk:k<60000) (hp:p≤60000):Op2 167 (un (a:Int) p) (un (b:Int) p) (un ((a+b:Nat):Int) p):=by
 have:=padd_un (p:=p) (nabs h1) (nabs h2) hk hp
 rw[←Int.natCast_add] at this
 exact this
theorem psubN {a b p k:Nat} (h1:a<2^k) (hle:b≤a) (hk:k<60000) (hp:p≤60000):Op2 161 (un (a:Int) p) (un (b:Int) p) (un ((a - b:Nat):Int) p):=by
 have:=psub_un (p:=p) (nabs h1) (nabs (Nat.lt_of_le_of_lt hle h1)) hk hp
 rw[←Int.natCast_sub hle] at this
 exact this
theorem Dexact_1 (a:Nat) (t:Bool×Nat×Int) (w:World)
  (k:∀ W,Bw w W→Calls Tryz.prog 87 #[.float .f64 a] W fun r w'=>∃ s ao n cap e,r=.returned (.tuple #[.agg #[.bool s,.slice ao n cap,.int .i64 e],.int .i64 0])∧PN w' (.agg #[.bool s,.slice ao n cap,.int .i64 e]) t∧Bw W w') :
  Calls Tryz.prog 32 #[.float .f64 a] w fun r w'=>OutA w t r w':=by
 obtain⟨W,hW⟩:∃ W,W=w.alloc (.cells #[.bool false,.slice none 0 0,.int .i64 0] 50):=⟨_,rfl⟩
 have HX:Hid (Bw w W∧W.heap[w.heap.size]?=some (.cells #[.bool false,.slice none 0 0,.int .i64 0] 50 (0,0))):=⟨by rw[hW];exact(Below.refl _ _).alloc (Nat.le_refl _) _,by rw[hW];exact heap_alloc_new _ _⟩
 have k1:=k W HX.out.1
 clear k
 go_enter Tryz.func32,Tryz.ntmps32
 go_wp2_with fail
 rw[←hW]
 clear hW
 refine k1.mono ?_
 rintro r w1 ⟨s1,ao1,n1,cap1,ex1,rfl,hA,hb1⟩
 obtain⟨W1,hW1⟩:∃ W1,W1=w1.alloc (.cells #[.bool s1,.slice ao1 n1 cap1,.int .i64 ex1] 50):=⟨_,rfl⟩
 have hb2:Bw W W1:=by rw[hW1];exact hb1.alloc hb1.size _
 have HY:Hid (PN W1 (.agg #[.bool s1,.slice ao1 n1 cap1,.int .i64 ex1]) t∧Bw w W1∧W1.heap[w1.heap.size]?=some (.cells #[.bool s1,.slice ao1 n1 cap1,.int .i64 ex1] 50 (0,0))∧W1.heap[w.heap.size]?=some (.cells #[.bool false,.slice none 0 0,.int .i64 0] 50 (0,0))) :=
  ⟨by rw[hW1];exact hA.later ((Below.refl _ _).alloc (Nat.le_refl _) _),HX.out.1.trans (hb2.mono HX.out.1.size),by rw[hW1];exact heap_alloc_new _ _,box_later HX.out.2 hb2 (lt_of_box HX.out.2)⟩
 clear k1 hA hb1 hb2
 go_upto_region 2 with fail
 rw[←hW1]
 clear hW1
 generalize w1.heap.size=g1 at *
 obtain⟨⟨a0,a1,a2⟩,-⟩:=box_cells HY.out.2.2.1
 obtain⟨⟨x1,x2,x3⟩,x4,x5,x6⟩:=box_cells HY.out.2.2.2
 go_wp2
 refine bodyPost_ret (results_cell_row rfl _ _ w.heap.size 50 #[.bool s1,.slice ao1 n1 cap1,.int .i64 ex1] (0,0) _ rfl (store3 _ _ _ HY.out.2.2.2) Tryz.underlying50 rfl Tryz.info50) rfl ?_
 exact⟨_,_,_,_,_,rfl,pn_store HY.out.1 HY.out.2.2.2 _ _ _,below_store3 HY.out.2.1 (Nat.le_refl _) _ _ _⟩
-- GEN: one call of two numbers each, the error let go
theorem Dadded_1 (na nb:Bool) (ua va:Option Addr) (un uc vn vc:Nat) (ea eb:Int) (t:Bool×Nat×Int) (w:World)
  (k:∀ W,Bw w W→Calls Tryz.prog 167 #[.agg #[.bool na,.slice ua un uc,.int .i64 ea],.agg #[.bool nb,.slice va vn vc,.int .i64 eb]] W fun r w'=>∃ s ao n cap e,r=.returned (.tuple #[.agg #[.bool s,.slice ao n cap,.int .i64 e],.int .i64 0])∧PN w' (.agg #[.bool s,.slice ao n cap,.int .i64 e]) t∧Bw W w') :
  Calls Tryz.prog 98 #[.agg #[.bool na,.slice ua un uc,.int .i64 ea],.agg #[.bool nb,.slice va vn vc,.int .i64 eb]] w fun r w'=>OutA w t r w':=by
 obtain⟨W,hW⟩:∃ W,W=((w.alloc (.cells #[.bool na,.slice ua un uc,.int .i64 ea] 50)).alloc (.cells #[.bool nb,.slice va vn vc,.int .i64 eb] 50)).alloc (.cells #[.bool false,.slice none 0 0,.int .i64 0] 50):=⟨_,rfl⟩
 obtain⟨hA,hB,hC,hsz,hBW⟩:=boxes3 _ _ _ hW
 obtain⟨⟨a0,a1,a2⟩,-⟩:=box_cells hA
 obtain⟨⟨b0,b1,b2⟩,-⟩:=box_cells hB
 have HX:Hid (Bw w W∧W.heap[w.heap.size+1+1]?=some (.cells #[.bool false,.slice none 0 0,.int .i64 0] 50 (0,0))):=⟨hBW,hC⟩
 have k1:=k W HX.out.1
 clear k hA hB hC hBW hsz
 rw[hW] at a0 a1 a2 b0 b1 b2
 go_enter Tryz.func98,Tryz.ntmps98
 go_wp2_with fail
 rw[←hW]
 clear hW a0 a1 a2 b0 b1 b2
 refine k1.mono ?_
 rintro r w1 ⟨s1,ao1,n1,cap1,ex1,rfl,hA,hb1⟩
 obtain⟨W1,hW1⟩:∃ W1,W1=w1.alloc (.cells #[.bool s1,.slice ao1 n1 cap1,.int .i64 ex1] 50):=⟨_,rfl⟩
 have hb2:Bw W W1:=by rw[hW1];exact hb1.alloc hb1.size _
 have HY:Hid (PN W1 (.agg #[.bool s1,.slice ao1 n1 cap1,.int .i64 ex1]) t∧Bw w W1∧W1.heap[w1.heap.size]?=some (.cells #[.bool s1,.slice ao1 n1 cap1,.int .i64 ex1] 50 (0,0))∧W1.heap[w.heap.size+1+1]?=some (.cells #[.bool false,.slice none 0 0,.int .i64 0] 50 (0,0))) :=
  ⟨by rw[hW1];exact hA.later ((Below.refl _ _).alloc (Nat.le_refl _) _),HX.out.1.trans (hb2.mono HX.out.1.size),by rw[hW1];exact heap_alloc_new _ _,box_later HX.out.2 hb2 (lt_of_box HX.out.2)⟩
 clear k1 hA hb1 hb2
 go_upto_region 2 with fail
 rw[←hW1]
 clear hW1
 generalize w1.heap.size=g1 at *
 obtain⟨⟨c0,c1,c2⟩,-⟩:=box_cells HY.out.2.2.1
 obtain⟨⟨x1,x2,x3⟩,x4,x5,x6⟩:=box_cells HY.out.2.2.2
 go_wp2
 refine bodyPost_ret (results_cell_row rfl _ _ (w.heap.size+1+1) 50 #[.bool s1,.slice ao1 n1 cap1,.int .i64 ex1] (0,0) _ rfl (store3 _ _ _ HY.out.2.2.2) Tryz.underlying50 rfl Tryz.info50) rfl ?_
 exact⟨_,_,_,_,_,rfl,pn_store HY.out.1 HY.out.2.2.2 _ _ _,below_store3 HY.out.2.1 (by omega) _ _ _⟩
theorem Dtaken_1 (na nb:Bool) (ua va:Option Addr) (un uc vn vc:Nat) (ea eb:Int) (t:Bool×Nat×Int) (w:World)
  (k:∀ W,Bw w W→Calls Tryz.prog 161 #[.agg #[.bool na,.slice ua un uc,.int .i64 ea],.agg #[.bool nb,.slice va vn vc,.int .i64 eb]] W fun r w'=>∃ s ao n cap e,r=.returned (.tuple #[.agg #[.bool s,.slice ao n cap,.int .i64 e],.int .i64 0])∧PN w' (.agg #[.bool s,.slice ao n cap,.int .i64 e]) t∧Bw W w') :
  Calls Tryz.prog 93 #[.agg #[.bool na,.slice ua un uc,.int .i64 ea],.agg #[.bool nb,.slice va vn vc,.int .i64 eb]] w fun r w'=>OutA w t r w':=by
 obtain⟨W,hW⟩:∃ W,W=((w.alloc (.cells #[.bool na,.slice ua un uc,.int .i64 ea] 50)).alloc (.cells #[.bool nb,.slice va vn vc,.int .i64 eb] 50)).alloc (.cells #[.bool false,.slice none 0 0,.int .i64 0] 50):=⟨_,rfl⟩
 obtain⟨hA,hB,hC,hsz,hBW⟩:=boxes3 _ _ _ hW
 obtain⟨⟨a0,a1,a2⟩,-⟩:=box_cells hA
 obtain⟨⟨b0,b1,b2⟩,-⟩:=box_cells hB
 have HX:Hid (Bw w W∧W.heap[w.heap.size+1+1]?=some (.cells #[.bool false,.slice none 0 0,.int .i64 0] 50 (0,0))):=⟨hBW,hC⟩
 have k1:=k W HX.out.1
 clear k hA hB hC hBW hsz
 rw[hW] at a0 a1 a2 b0 b1 b2
 go_enter Tryz.func93,Tryz.ntmps93
 go_wp2_with fail
 rw[←hW]
 clear hW a0 a1 a2 b0 b1 b2
 refine k1.mono ?_
 rintro r w1 ⟨s1,ao1,n1,cap1,ex1,rfl,hA,hb1⟩
 obtain⟨W1,hW1⟩:∃ W1,W1=w1.alloc (.cells #[.bool s1,.slice ao1 n1 cap1,.int .i64 ex1] 50):=⟨_,rfl⟩
 have hb2:Bw W W1:=by rw[hW1];exact hb1.alloc hb1.size _
 have HY:Hid (PN W1 (.agg #[.bool s1,.slice ao1 n1 cap1,.int .i64 ex1]) t∧Bw w W1∧W1.heap[w1.heap.size]?=some (.cells #[.bool s1,.slice ao1 n1 cap1,.int .i64 ex1] 50 (0,0))∧W1.heap[w.heap.size+1+1]?=some (.cells #[.bool false,.slice none 0 0,.int .i64 0] 50 (0,0))) :=
  ⟨by rw[hW1];exact hA.later ((Below.refl _ _).alloc (Nat.le_refl _) _),HX.out.1.trans (hb2.mono HX.out.1.size),by rw[hW1];exact heap_alloc_new _ _,box_later HX.out.2 hb2 (lt_of_box HX.out.2)⟩
 clear k1 hA hb1 hb2
 go_upto_region 2 with fail
 rw[←hW1]
 clear hW1
 generalize w1.heap.size=g1 at *
 obtain⟨⟨c0,c1,c2⟩,-⟩:=box_cells HY.out.2.2.1
 obtain⟨⟨x1,x2,x3⟩,x4,x5,x6⟩:=box_cells HY.out.2.2.2
 go_wp2
 refine bodyPost_ret (results_cell_row rfl _ _ (w.heap.size+1+1) 50 #[.bool s1,.slice ao1 n1 cap1,.int .i64 ex1] (0,0) _ rfl (store3 _ _ _ HY.out.2.2.2) Tryz.underlying50 rfl Tryz.info50) rfl ?_
 exact⟨_,_,_,_,_,rfl,pn_store HY.out.1 HY.out.2.2.2 _ _ _,below_store3 HY.out.2.1 (by omega) _ _ _⟩
theorem Dmultiplied_1 (na nb:Bool) (ua va:Option Addr) (un uc vn vc:Nat) (ea eb:Int) (t:Bool×Nat×Int) (w:World)
  (k:∀ W,Bw w W→Calls Tryz.prog 162 #[.agg #[.bool na,.slice ua un uc,.int .i64 ea],.agg #[.bool nb,.slice va vn vc,.int .i64 eb]] W fun r w'=>∃ s ao n cap e,r=.returned (.tuple #[.agg #[.bool s,.slice ao n cap,.int .i64 e],.int .i64 0])∧PN w' (.agg #[.bool s,.slice ao n cap,.int .i64 e]) t∧Bw W w') :
  Calls Tryz.prog 94 #[.agg #[.bool na,.slice ua un uc,.int .i64 ea],.agg #[.bool nb,.slice va vn vc,.int .i64 eb]] w fun r w'=>OutA w t r w':=by
 obtain⟨W,hW⟩:∃ W,W=((w.alloc (.cells #[.bool na,.slice ua un uc,.int .i64 ea] 50)).alloc (.cells #[.bool nb,.slice va vn vc,.int .i64 eb] 50)).alloc (.cells #[.bool false,.slice none 0 0,.int .i64 0] 50):=⟨_,rfl⟩
 obtain⟨hA,hB,hC,hsz,hBW⟩:=boxes3 _ _ _ hW
 obtain⟨⟨a0,a1,a2⟩,-⟩:=box_cells hA
 obtain⟨⟨b0,b1,b2⟩,-⟩:=box_cells hB
 have HX:Hid (Bw w W∧W.heap[w.heap.size+1+1]?=some (.cells #[.bool false,.slice none 0 0,.int .i64 0] 50 (0,0))):=⟨hBW,hC⟩
 have k1:=k W HX.out.1
 clear k hA hB hC hBW hsz
 rw[hW] at a0 a1 a2 b0 b1 b2
 go_enter Tryz.func94,Tryz.ntmps94
 go_wp2_with fail
 rw[←hW]
 clear hW a0 a1 a2 b0 b1 b2
 refine k1.mono ?_
 rintro r w1 ⟨s1,ao1,n1,cap1,ex1,rfl,hA,hb1⟩
 obtain⟨W1,hW1⟩:∃ W1,W1=w1.alloc (.cells #[.bool s1,.slice ao1 n1 cap1,.int .i64 ex1] 50):=⟨_,rfl⟩
 have hb2:Bw W W1:=by rw[hW1];exact hb1.alloc hb1.size _
 have HY:Hid (PN W1 (.agg #[.bool s1,.slice ao1 n1 cap1,.int .i64 ex1]) t∧Bw w W1∧W1.heap[w1.heap.size]?=some (.cells #[.bool s1,.slice ao1 n1 cap1,.int .i64 ex1] 50 (0,0))∧W1.heap[w.heap.size+1+1]?=some (.cells #[.bool false,.slice none 0 0,.int .i64 0] 50 (0,0))) :=
  ⟨by rw[hW1];exact hA.later ((Below.refl _ _).alloc (Nat.le_refl _) _),HX.out.1.trans (hb2.mono HX.out.1.size),by rw[hW1];exact heap_alloc_new _ _,box_later HX.out.2 hb2 (lt_of_box HX.out.2)⟩
 clear k1 hA hb1 hb2
 go_upto_region 2 with fail
 rw[←hW1]
 clear hW1
 generalize w1.heap.size=g1 at *
 obtain⟨⟨c0,c1,c2⟩,-⟩:=box_cells HY.out.2.2.1
 obtain⟨⟨x1,x2,x3⟩,x4,x5,x6⟩:=box_cells HY.out.2.2.2
 go_wp2
 refine bodyPost_ret (results_cell_row rfl _ _ (w.heap.size+1+1) 50 #[.bool s1,.slice ao1 n1 cap1,.int .i64 ex1] (0,0) _ rfl (store3 _ _ _ HY.out.2.2.2) Tryz.underlying50 rfl Tryz.info50) rfl ?_
 exact⟨_,_,_,_,_,rfl,pn_store HY.out.1 HY.out.2.2.2 _ _ _,below_store3 HY.out.2.1 (by omega) _ _ _⟩
theorem Dadded_op {t1 t2 t3:Bool×Nat×Int} (h:Op2 167 t1 t2 t3) {X Y:Value} {w:World} (hT:Tab32 w) (h1:PN w X t1) (h2:PN w Y t2):Calls Tryz.prog 98 #[X,Y] w fun r w'=>OutA w t3 r w':=by
 obtain⟨s,ao,n,cap,e,rfl⟩:=h1.shape
 obtain⟨s',ao',n',cap',e',rfl⟩:=h2.shape
 exact Dadded_1 s s' ao ao' n cap n' cap' e e' t3 w fun W hW=>h W _ _ (hT.later hW) (h1.later hW) (h2.later hW)
theorem Dtaken_op {t1 t2 t3:Bool×Nat×Int} (h:Op2 161 t1 t2 t3) {X Y:Value} {w:World} (hT:Tab32 w) (h1:PN w X t1) (h2:PN w Y t2):Calls Tryz.prog 93 #[X,Y] w fun r w'=>OutA w t3 r w':=by
 obtain⟨s,ao,n,cap,e,rfl⟩:=h1.shape
 obtain⟨s',ao',n',cap',e',rfl⟩:=h2.shape
 exact Dtaken_1 s s' ao ao' n cap n' cap' e e' t3 w fun W hW=>h W _ _ (hT.later hW) (h1.later hW) (h2.later hW)
theorem Dmultiplied_op {t1 t2 t3:Bool×Nat×Int} (h:Op2 162 t1 t2 t3) {X Y:Value} {w:World} (hT:Tab32 w) (h1:PN w X t1) (h2:PN w Y t2):Calls Tryz.prog 94 #[X,Y] w fun r w'=>OutA w t3 r w':=by
 obtain⟨s,ao,n,cap,e,rfl⟩:=h1.shape
 obtain⟨s',ao',n',cap',e',rfl⟩:=h2.shape
 exact Dmultiplied_1 s s' ao ao' n cap n' cap' e e' t3 w fun W hW=>h W _ _ (hT.later hW) (h1.later hW) (h2.later hW)
def rtK (t1 t2:Bool×Nat×Int):Nat:=(max 0 (64+(bl t2.2.1:Int) - (bl t1.2.1:Int))).toNat
def rtF (t1 t2:Bool×Nat×Int) (m:Int):Nat:=tfF (t1.1 != t2.1) (decide (t1.2.1*2^rtK t1 t2 % t2.2.1=0)) (t1.2.1*2^rtK t1 t2 / t2.2.1) (t1.2.2 - t2.2.2 - rtK t1 t2) m
theorem pratio {t1 t2:Bool×Nat×Int} {X Y:Value} {m:Int} {w:World} (hT:Tab32 w) (o1:Ok t1) (o2:Ok t2) (h1:PN w X t1) (h2:PN w Y t2) (x0:t1.2.1≠0) (y0:t2.2.1≠0) (hm:1≤m∧m≤3) :
  Calls Tryz.prog 125 #[X,Y,.int .i64 m] w fun r w'=>r=.returned (.tuple #[.float .f64 (rtF t1 t2 m),.int .i64 0])∧Bw w w':=by
 obtain⟨pa,pc,rfl,i1⟩:=h1
 obtain⟨qa,qc,rfl,i2⟩:=h2
 have f1:=o1.facts
 have f2:=o2.facts
 have bx:=bl_le_dlen t1.2.1
 have by':=bl_le_dlen t2.2.1
 have hn0:((dlen t1.2.1:Int)==0)=false:=by
  have:dlen t1.2.1≠0:=fun e=>x0 (dlen_eq_zero.1 e)
  simp;omega
 have hn1:((dlen t2.2.1:Int)==0)=false:=by
  have:dlen t2.2.1≠0:=fun e=>y0 (dlen_eq_zero.1 e)
  simp;omega
 have hk:max 0 (64+(bl t2.2.1:Int) - (bl t1.2.1:Int))=(rtK t1 t2:Int):=by unfold rtK;omega
 refine pratio_1 t1.1 t2.1 pa qa _ pc _ qc _ _ (rtK t1 t2) (bl t1.2.1) (bl t2.2.1) t1.2.2 t2.2.2 m (t1.1 != t2.1) w (rfl:(!(t1.1==t2.1))=(t1.1 != t2.1)) hT i1 i2 (by omega) (by omega) y0 (by omega) (by omega) (by omega) (by omega) (by omega) rfl rfl (by omega) (by omega) hk (by omega) hn0 hn1 (fun W' g hW' hg=>?_)
 have:=maybe2 hg (i1.later hW') (i2.later hW') (by omega) (by omega)
 rw[show okN t1.1 (dlen t1.2.1) t1.2.1 t1.2.2=true from o1,show okN t2.1 (dlen t2.2.1) t2.2.1 t2.2.2=true from o2] at this
 exact this
end Go.Proofs.YtfkaogdmlcdceaaGreatDoor
namespace Go.Proofs.YtfkaogdmlcdceaaGreatDoor
open Go.RowKit Go.Fl64
open Ie
theorem bl_shl' {x k:Nat} (h:x≠0):bl (x*2^k)=bl x+k:=by
 have h1:=lt_bl x
 have h2:=le_bl h
 have hb:=bl_ne h
 have a:bl (x*2^k)≤bl x+k:=(bl_le _ _).2 (by rw[Nat.pow_add];exact Nat.mul_lt_mul_of_pos_right h1 (Nat.two_pow_pos k))
 have b:bl x+k - 1+1≤bl (x*2^k):=bl_ge.2 (by rw[show bl x+k - 1=bl x - 1+k by omega,Nat.pow_add];exact Nat.mul_le_mul_right _ h2)
 omega
theorem bl_quo_lo {N y:Nat} (hy:y≠0):bl N≤bl (N / y)+bl y:=by
 refine(bl_le _ _).2 ?_
 have h1:N<y*(N / y+1):=Nat.lt_mul_div_succ N (Nat.pos_of_ne_zero hy)
 have h2:=lt_bl (N / y)
 have h3:=lt_bl y
 rw[Nat.pow_add,Nat.mul_comm (2^bl (N / y))]
 exact Nat.lt_of_lt_of_le h1 (Nat.mul_le_mul (Nat.le_of_lt h3) h2)
theorem bl_quo_hi {N y:Nat} (hy:y≠0) (hq:N / y≠0):bl (N / y)+bl y≤bl N+1:=by
 have h1:=le_bl hq
 have h2:=le_bl hy
 have b1:=bl_ne hq
 have b2:=bl_ne hy
 have h3:2^(bl (N / y) - 1+(bl y - 1))≤N:=by
  rw[Nat.pow_add]
  exact Nat.le_trans (Nat.mul_le_mul h1 h2) (Nat.div_mul_le_self N y)
 have h4:=Nat.lt_of_le_of_lt h3 (lt_bl N)
 have h5:=(Nat.pow_lt_pow_iff_right (by omega:1<2)).1 h4
 omega
theorem bl_one:bl 1=1:=by rfl
theorem rto_one {W:World} {g:Nat} {s:Bool} {e m:Int} (h:At W (some ⟨g,0,none⟩) 1 1) (he1 : -4000000≤e) (he2:e≤4000000) (hm:1≤m∧m≤3) :
  Calls Tryz.prog 151 #[.agg #[.bool s,.slice (some ⟨g,0,none⟩) 1 1,.int .i64 e],.int .i64 m] W fun r w'=>r=.returned (.float .f64 (tfF s true 1 e m))∧Bw W w':=by
 have:=rto (neg:=s) (uc:=1) (x:=1) (ea:=e) (m:=m) (by rw[dlen_one];exact h) (by rw[dlen_one];exact Nat.le_refl _) rfl (by rw[dlen_one];omega) he1 he2 hm
 rw[←tf_bdy hm,dlen_one] at this
 exact this
theorem rratioto {na nb:Bool} {ua va:Option Addr} {uc vc x y k:Nat} {ea eb m:Int} {w:World} (h1:Arg w ua (dlen x) uc x) (h2:Arg w va (dlen y) vc y) (hx:dlen x≤2048) (hy:dlen y≤2048) (ha : -65536≤ea∧ea≤65536) (hb : -65536≤eb∧eb≤65536) (hx0:x≠0) (hy0:y≠0) (hm:1≤m∧m≤3) (hk:max 0 (64+(bl y:Int) - (bl x:Int))=(k:Int)) :
  Calls Tryz.prog 152 #[.agg #[.bool na,.slice ua (dlen x) uc,.int .i64 ea],.agg #[.bool nb,.slice va (dlen y) vc,.int .i64 eb],.int .i64 m] w fun r w'=>r=.returned (.float .f64 (tfF (na != nb) (decide (x*2^k % y=0)) (x*2^k / y) (ea - eb - k) m))∧Bw w w':=by
 have bx:=bl_le_dlen x
 have by':=bl_le_dlen y
 have bx1:=bl_ne hx0
 have by1:=bl_ne hy0
 have hN:bl (x*2^k)=bl x+k:=bl_shl' hx0
 have q1:=bl_quo_lo (N:=x*2^k) hy0
 have h64:64≤bl (x*2^k / y):=by omega
 have hq0:x*2^k / y≠0:=fun e=>by rw[e] at h64;simp[bl] at h64
 have q2:=bl_quo_hi hy0 hq0
 have hn0:((dlen x:Int)==0)=false:=len_ne (n:=0) hx0
 have kHa:=fun W (hW:Bw w W)=>rhigh (neg:=na) (cap:=uc) (e:=ea) (h1.later hW).at_ hx0 (by omega) ⟨by omega,by omega⟩
 have kHb:=fun W (hW:Bw w W)=>rhigh (neg:=nb) (cap:=vc) (e:=eb) (h2.later hW).at_ hy0 (by omega) ⟨by omega,by omega⟩
 obtain⟨pl,hpl⟩:∃ pl:Int,min (max (60 - ((bl x:Int)+ea)+((bl y:Int)+eb)) (-1100)) 1100=pl:=⟨_,rfl⟩
 by_cases hb1:1100<(bl x:Int)+ea - ((bl y:Int)+eb)
 ·rw[tf_big (s:=na != nb) (y:=1) (f:=1100) hm (.inl h64) (by omega) (by omega) (by rw[bl_one];omega)]
  exact rratioto_f na nb ua va _ uc _ vc _ ea eb m _ _ pl (na != nb) w rfl hn0 (by omega) (by omega) (by omega) (by omega) hpl (by omega) (by omega) _ (.inl ⟨hb1,rfl⟩) kHa kHb (fun g W hW hA=>rto_one hA (by omega) (by omega) hm)
 ·by_cases hb2:(bl x:Int)+ea - ((bl y:Int)+eb) < -1200
  ·rw[tf_tiny (s:=na != nb) (y:=1) (f := -1200) hm (.inl h64) (by omega) (by omega) (by rw[bl_one];omega)]
   exact rratioto_f na nb ua va _ uc _ vc _ ea eb m _ _ pl (na != nb) w rfl hn0 (by omega) (by omega) (by omega) (by omega) hpl (by omega) (by omega) _ (.inr ⟨hb2,rfl⟩) kHa kHb (fun g W hW hA=>rto_one hA (by omega) (by omega) hm)
  ·have hP : -1100≤pl∧pl≤1100:=by omega
   obtain⟨X,hX⟩:∃ X,ovX x ea eb (pl+60)=X:=⟨_,rfl⟩
   obtain⟨Y,hY⟩:∃ Y,ovY y ea eb (pl+60)=Y:=⟨_,rfl⟩
   have bX:(bl X:Int)=bl x+(ea+(pl+60) - min (ea+(pl+60)) eb):=by rw[←hX];unfold ovX;rw[bl_shl' hx0];omega
   have bY:(bl Y:Int)=bl y+(eb - min (ea+(pl+60)) eb):=by rw[←hY];unfold ovY;rw[bl_shl' hy0];omega
   have hX0:X≠0:=by rw[←hX];unfold ovX;exact Nat.mul_ne_zero hx0 (Nat.pos_iff_ne_zero.1 (Nat.two_pow_pos _))
   have hY0:Y≠0:=by rw[←hY];unfold ovY;exact Nat.mul_ne_zero hy0 (Nat.pos_iff_ne_zero.1 (Nat.two_pow_pos _))
   have r1:=bl_quo_lo (N:=X) hY0
   have hzl:dlen (X / Y)≤20000:=by
    refine Nat.le_trans (dlen_mono (Nat.div_le_self X Y)) ?_
    rw[←hX];unfold ovX
    have:=shl_len (x:=x) (k:=(ea+(pl+60) - min (ea+(pl+60)) eb).toNat) rfl
    omega
   have kO:=fun W (hW:Bw w W)=>rover (na:=na) (nb:=nb) (ea:=ea) (eb:=eb) (place:=pl+60) (h1.later hW).at_ h1.le (h2.later hW).at_ h2.le hy0 (by omega) (by omega) ⟨by omega,by omega⟩ ⟨by omega,by omega⟩ ⟨by omega,by omega⟩ hX hY
   have hbq:decide (X % Y=0)=true→X / Y≠0:=fun h e=>by
    have h':=of_decide_eq_true h
    have:=Nat.div_add_mod X Y
    rw[e,h',Nat.mul_zero] at this
    exact hX0 this.symm
   have key:tfF (na != nb) (decide (x*2^k % y=0)) (x*2^k / y) (ea - eb - k) m=if decide (X % Y=0)then tfF (na != nb) true (X / Y) (-(pl+60)) m else tfF (na != nb) true (2*(X / Y)+1) (-(pl+60+1)) m:=by
    by_cases hs:64≤bl (X / Y)
    ·have re:=ratio_eq (s:=na != nb) (x:=x) (y:=y) (k:=k) (ea:=ea) (eb:=eb) (P:=pl+60) hm hy0 h64 (by rw[hX,hY];exact hs)
     rw[hX,hY] at re
     rw[re]
     cases decide (X % Y=0)
     ·rw[if_neg (by decide),tf_sticky hs,show -(pl+60) - 1 = -(pl+60+1) by omega]
     ·rw[if_pos rfl]
    ·have hd:(bl x:Int)+ea - ((bl y:Int)+eb) < -1096:=by omega
     cases hdc:decide (X % Y=0)
     ·rw[if_neg (by decide)]
      refine tf_tiny hm (.inl h64) (by omega) (by omega) ?_
      by_cases hz:X / Y=0
      ·rw[hz,Nat.mul_zero,Nat.zero_add,bl_one];omega
      ·have r2:=bl_quo_hi hY0 hz
       rw[bl_two hz];omega
     ·rw[if_pos rfl]
      have hz:=hbq hdc
      have r2:=bl_quo_hi hY0 hz
      exact tf_tiny hm (.inl h64) hz (by omega) (by omega)
   rw[key]
   refine rratioto_m na nb ua va _ uc _ vc _ ea eb m _ _ pl (na != nb) _ (decide (X % Y=0)) w hn0 (by omega) (by omega) (by omega) (by omega) hpl hP.1 hP.2 (by omega) (by omega) kHa kHb kO (fun W A hW hN=>?_)
   exact rbetween hN hbq hzl (by omega) (by omega) hm
end Go.Proofs.YtfkaogdmlcdceaaGreatDoor
namespace Go.Proofs.YtfkaogdmlcdceaaGreatDoor
open Go.RowKit Go.Fl64
theorem un_parts {a:Int} {p:Nat} (h:a≠0):(un a p).1=decide (a<0)∧(un a p).2.1*2^tz a.natAbs=a.natAbs∧(un a p).2.2 = -(p:Int)+tz a.natAbs:=by
 have h0:a.natAbs≠0:=by omega
 unfold un cn
 rw[if_neg h0]
 refine⟨rfl,?_,rfl⟩
 have h2:=(tz_spec a.natAbs a.natAbs (Nat.le_refl _) h0).1
 rw[Nat.mul_comm];exact h2
theorem un_zero (p:Nat):un 0 p=(false,0,0):=by unfold un cn;rw[if_pos (by decide)]
theorem bl_neD {x:Nat} (h0:x≠0):1≤bl x:=by unfold bl;rw[if_neg h0];omega
theorem bl_shlD {x k:Nat} (h:x≠0):bl (x*2^k)=bl x+k:=by
 have h1:=lt_bl x
 have h2:=le_bl h
 have hb:=bl_neD h
 have a:bl (x*2^k)≤bl x+k:=(bl_le _ _).2 (by rw[Nat.pow_add];exact Nat.mul_lt_mul_of_pos_right h1 (Nat.two_pow_pos k))
 have b:bl x+k - 1<bl (x*2^k):=by
  apply Decidable.byContradiction
  intro hn
  have h3:=lt_bl (x*2^k)
  have h4:x*2^k<2^(bl x+k - 1):=Nat.lt_of_lt_of_le h3 (Nat.pow_le_pow_right (by decide) (by omega))
  rw[show bl x+k - 1=bl x - 1+k by omega,Nat.pow_add] at h4
  have:=Nat.mul_le_mul_right (2^k) h2
  omega
 omega
theorem ghigh {a:Int} {p bA:Nat} {X:Value} {w:World} (ha:a.natAbs<2^bA) (hbA:bA≤90000) (hp:p≤90000) (a0:a≠0) (h1:DN w X (un a p)) :
  Calls Tryz.prog 44 #[X] w fun res w'=>res=.returned (.int .i64 ((bl a.natAbs:Int) - p))∧Bw w w':=by
 obtain⟨ao,cap,rfl,a1⟩:=h1
 have ea:=un_e (p:=p) ha
 have la:=dlen_two9 (un_small (p:=p) ha)
 have hx0:(un a p).2.1≠0:=fun h=>a0 (un_sign.2.1 h)
 obtain⟨pa1,pa2,pa3⟩:=un_parts (a:=a) (p:=p) a0
 refine(rhigh (neg:=(un a p).1) a1.at_ hx0 (by omega) ⟨by omega,by omega⟩).mono ?_
 rintro res w' ⟨rfl,hb⟩
 refine⟨?_,hb⟩
 have hbl:bl a.natAbs=bl (un a p).2.1+tz a.natAbs:=by
  generalize tz a.natAbs=t at *
  rw[←pa2]
  exact bl_shlD hx0
 rw[hbl,pa3]
 congr 2
 omega
end Go.Proofs.YtfkaogdmlcdceaaGreatDoor
namespace Go.Proofs.YtfkaogdmlcdceaaGreatDoor
open Go.RowKit
def vrowS (m:Nat) (SL:List Nat) (dep:Nat→List Nat) (i:Nat) (o:Oper):Bool :=
 o.after.all (fun e=>decide (e.on<i))&&o.guard.isNone&&(i==m||o.dst==some (SL.getD i 0))&&((if i==m then List.range m else dep i).all fun j=>decide (j<m)&&vhas o j)
def vchkS (ops:Array Oper) (m:Nat) (SL:List Nat) (dep:Nat→List Nat):Bool :=
 ops.size==m+1&&(List.range (m+1)).all fun i=>match ops[i]? with|some o=>vrowS m SL dep i o|none=>false
theorem vchkS_row {ops:Array Oper} {m:Nat} {SL:List Nat} {dep:Nat→List Nat} (h:vchkS ops m SL dep=true) {i:Nat} {o:Oper} (ho:ops[i]?=some o):i<m+1∧vrowS m SL dep i o=true:=by
 unfold vchkS at h
 rw[Bool.and_eq_true,beq_iff_eq] at h
 have hi:i<m+1:=by have:=(Array.getElem?_eq_some_iff.1 ho).1;omega
 have h1:=List.all_eq_true.1 h.2 i (List.mem_range.2 hi)
 simp only[ho] at h1
 exact⟨hi,h1⟩
theorem vrowS_split {m:Nat} {SL:List Nat} {dep:Nat→List Nat} {i:Nat} {o:Oper} (h:vrowS m SL dep i o=true) :
  (∀ e ∈ o.after,e.on<i)∧o.guard=none∧(i<m→o.dst=some (SL.getD i 0))∧∀ j ∈ (if i==m then List.range m else dep i),j<m∧∃ e ∈ o.after,e.on=j∧Region.binds .any e=true:=by
 unfold vrowS at h
 rw[Bool.and_eq_true,Bool.and_eq_true,Bool.and_eq_true] at h
 obtain⟨⟨⟨h1,h2⟩,h3⟩,h4⟩:=h
 refine⟨fun e he=>of_decide_eq_true (Array.all_eq_true_iff_forall_mem.1 h1 e he),Option.isNone_iff_eq_none.1 h2,fun hi=>?_,fun j hj=>?_⟩
 ·rw[Bool.or_eq_true] at h3
  rcases h3 with h3|h3
  ·rw[beq_iff_eq] at h3;omega
  ·simpa using h3
 ·have:=List.all_eq_true.1 h4 j hj
  rw[Bool.and_eq_true] at this
  exact⟨of_decide_eq_true this.1,vhas_ex this.2⟩
theorem valS_region {P:Program} {ops:Array Oper} {Q:Exit→Act→World→Prop} {id:Nat} (hm:P.follows .mixedOrders=true) (m:Nat) (SL:List Nat) (dep:Nat→List Nat)
  (W0:World) (a0:Act) (V:Nat→World→Value→Prop) (hchk:vchkS ops m SL dep=true)
  (hV1:∀ j w w' u,Bw w w'→V j w u→V j w' u) (hsl:SL.length=m∧SL.Nodup∧∀ s ∈ SL,s<a0.tmps.size)
  (hA:∀ j,j<m→∀ o,ops[j]?=some o→∀ (a:Act) (w:World),Bw W0 w→(∀ s:Nat,SL.contains s=false→a.tmps[s]?=a0.tmps[s]?) →
   (∀ j' ∈ dep j,∃ u,a.tmps[SL.getD j' 0]?=some u∧V j' w u)→o.wp P a w (fun a' w'=>∃ u,a'=a.put o.dst u∧V j w' u∧Bw w w') Q)
  (hL:∀ o,ops[m]?=some o→∀ (u:Nat→Value) (w:World),Bw W0 w→(∀ j,j<m→V j w (u j)) →
   o.wp P (putL a0 ((List.range m).map (fun j=>(SL.getD j 0,u j)))) w (fun a' w'=>Q .normal a' w') Q) :
  (Code.region id ops true).wp P Q a0 W0:=by
 have hsz:ops.size=m+1:=by
  unfold vchkS at hchk
  rw[Bool.and_eq_true,beq_iff_eq] at hchk
  exact hchk.1
 have hmem:∀ j,j<m→SL.getD j 0 ∈ SL:=fun j hj=>by
  have h1:j<SL.length:=by rw[hsl.1];exact hj
  rw[List.getD_eq_getElem?_getD,List.getElem?_eq_getElem h1]
  exact List.getElem_mem h1
 have hinj:∀ i i',i<m→i'<m→SL.getD i 0=SL.getD i' 0→i=i':=fun i i' h1 h2 h=>by
  have g1:i<SL.length:=by rw[hsl.1];exact h1
  have g2:i'<SL.length:=by rw[hsl.1];exact h2
  rw[List.getD_eq_getElem?_getD,List.getD_eq_getElem?_getD,List.getElem?_eq_getElem g1,List.getElem?_eq_getElem g2] at h
  exact(List.getElem_inj hsl.2.1).1 h
 have hoth:∀ {s:Nat},SL.contains s=false→∀ j,j<m→s≠SL.getD j 0:=fun {s} h j hj e=>by
  have h2:=hmem j hj
  rw[←e] at h2
  have:SL.contains s=true:=by simpa using h2
  rw[h] at this;cases this
 refine parl_region hm m (fun j=>SL.getD j 0) dep W0 a0 V hsz (fun i o ho=>(vrowS_split (vchkS_row hchk ho).2).1) hV1 ?_ ?_ ?_ (fun j hj=>hsl.2.2 _ (hmem j hj)) hinj ?_
 ·intro j hj j' hj'
  obtain⟨o,ho⟩:∃ o,ops[j]?=some o:=⟨ops[j]'(by omega),Array.getElem?_eq_getElem (by omega)⟩
  have h4:=(vrowS_split (vchkS_row hchk ho).2).2.2.2 j' (by rw[if_neg (by rw[beq_iff_eq];omega)];exact hj')
  refine⟨h4.1,fun o' ho'=>?_⟩
  obtain rfl:o=o':=Option.some.inj (ho.symm.trans ho')
  exact h4.2
 ·intro j hj a w hb ho1 hd
  obtain⟨o,ho⟩:∃ o,ops[j]?=some o:=⟨ops[j]'(by omega),Array.getElem?_eq_getElem (by omega)⟩
  obtain⟨-,h2,h3,-⟩:=vrowS_split (vchkS_row hchk ho).2
  refine step_wanted ho h2 ?_
  have h5:=hA j hj o ho a w hb (fun s hs=>ho1 s (hoth hs)) hd
  rw[h3 hj] at h5
  exact h5
 ·intro o ho j hj
  exact((vrowS_split (vchkS_row hchk ho).2).2.2.2 j (by rw[if_pos (by rw[beq_iff_eq])];exact List.mem_range.2 hj)).2
 ·intro u a w hb hu hs hd ho1
  obtain⟨o,ho⟩:∃ o,ops[m]?=some o:=⟨ops[m]'(by omega),Array.getElem?_eq_getElem (by omega)⟩
  obtain⟨-,h2,-,-⟩:=vrowS_split (vchkS_row hchk ho).2
  refine step_wanted ho h2 ?_
  have q1:((List.range m).map (fun j=>((SL.getD j 0,u j):Tmp×Value))).map (fun p:Tmp×Value=>p.1)=(List.range m).map (fun j=>SL.getD j 0):=by simp[Function.comp_def]
  have ha:=act_putL (a:=a) (a0:=a0) (l:=(List.range m).map (fun j=>((SL.getD j 0,u j):Tmp×Value))) (by
    rw[q1]
    refine List.pairwise_map.2 ((List.nodup_range (n:=m)).imp_of_mem ?_)
    intro x y hx hy hne he
    exact hne (hinj x y (List.mem_range.1 hx) (List.mem_range.1 hy) he)) hs hd (by
    intro p hp
    obtain⟨i,hi,rfl⟩:=List.mem_map.1 hp
    exact(hu i (List.mem_range.1 hi)).1) (fun s hsn=>ho1 s (fun i hi he=>hsn (List.mem_map.2 ⟨_,List.mem_map.2 ⟨i,List.mem_range.2 hi,rfl⟩,he.symm⟩)))
  rw[ha]
  exact hL o ho u w hb (fun j hj=>(hu j hj).2)
theorem valSL_region {P:Program} {ops:Array Oper} {Q:Exit→Act→World→Prop} {id:Nat} (hm:P.follows .mixedOrders=true) (m:Nat) (SL:List Nat) (D:List (List Nat))
  (W0:World) (a0:Act) (L:List (World→Value→Prop)) (hchk:vchkS ops m SL (dL D)=true)
  (hV1:StaysAll L) (hsl:SL.length=m∧SL.Nodup∧∀ s ∈ SL,s<a0.tmps.size)
  (hA:∀ j,j<m→∀ o,ops[j]?=some o→∀ (a:Act) (w:World),Bw W0 w→(∀ s:Nat,SL.contains s=false→a.tmps[s]?=a0.tmps[s]?) →
   (∀ j' ∈ dL D j,∃ u,a.tmps[SL.getD j' 0]?=some u∧vL L j' w u)→o.wp P a w (fun a' w'=>∃ u,a'=a.put o.dst u∧vL L j w' u∧Bw w w') Q)
  (hL:∀ o,ops[m]?=some o→∀ (u:Nat→Value) (w:World),Bw W0 w→(∀ j,j<m→vL L j w (u j)) →
   o.wp P (putL a0 ((List.range m).map (fun j=>(SL.getD j 0,u j)))) w (fun a' w'=>Q .normal a' w') Q) :
  (Code.region id ops true).wp P Q a0 W0 :=
 valS_region hm m SL (dL D) W0 a0 (vL L) hchk (fun j w w' u hb h=>vL_stays hV1 j w w' u hb h) hsl hA hL
end Go.Proofs.YtfkaogdmlcdceaaGreatDoor
namespace Go.Proofs.YtfkaogdmlcdceaaGreatDoor
open Go.RowKit Go.Fl64
theorem unought {a:Nat} (ha:a<18446744073709551616):(FloatKind.f64.format.order a 0 != some Ordering.eq) = !decide (mag a=0):=by
 have h:(FloatKind.f64.format.order a 0==some Ordering.eq)=decide (mag a=0):=by
  rw[ord_eq a 0 ha (by decide)]
  have nb:isNaN 0=false:=by decide
  unfold Fl64.eq
  rw[nb]
  have e0:stp 0=0:=by decide
  rw[e0]
  by_cases h:mag a=0
  ·have:stp a=0:=by unfold stp sgn;rw[h];simp
   have na:isNaN a=false:=by unfold isNaN;simp;omega
   simp[this,h,na]
  ·have:stp a≠0:=by unfold stp sgn;split <;> omega
   simp[this,h]
 rw[←h];rfl
end Go.Proofs.YtfkaogdmlcdceaaGreatDoor
namespace Go.Proofs.YtfkaogdmlcdceaaGreatDoor
open Go.RowKit
theorem pSign_no (na:Bool) (ua:Option Addr) (un uc:Nat) (ea:Int) (w:World)
  (k43:∀ W g,Bw w W→W.heap[g]?=some (.cells #[.bool na,.slice ua un uc,.int .i64 ea] 50 (0,0))→Calls Tryz.prog 128 #[.slice (some ⟨g,0,none⟩) 1 1] W fun r w'=>r=.returned (.bool false)∧Bw W w') :
  Calls Tryz.prog 89 #[.agg #[.bool na,.slice ua un uc,.int .i64 ea]] w fun r w'=>r=.returned (.int .i64 0)∧Bw w w':=by
 obtain⟨W,hW⟩:∃ W,W=w.alloc (.cells #[.bool na,.slice ua un uc,.int .i64 ea] 50):=⟨_,rfl⟩
 have hBW:Bw w W:=by rw[hW];exact(Below.refl _ _).alloc (Nat.le_refl _) _
 have hsz:W.heap.size=w.heap.size+1:=by rw[hW];simp
 have hbx:W.heap[w.heap.size]?=some (.cells #[.bool na,.slice ua un uc,.int .i64 ea] 50 (0,0)):=by rw[hW];exact heap_alloc_new _ _
 have k1:=k43 (W.alloc (.cells #[.bool na,.slice ua un uc,.int .i64 ea] 50)) (w.heap.size+1) (hBW.alloc hBW.size _) (by rw[←hsz];exact heap_alloc_new _ _)
 have HX:Hid (Bw w W∧W.heap.size=w.heap.size+1∧W.heap[w.heap.size]?=some (.cells #[.bool na,.slice ua un uc,.int .i64 ea] 50 (0,0))):=⟨hBW,hsz,hbx⟩
 clear hBW hsz hbx k43
 go_enter Tryz.func89,Tryz.ntmps89
 go_wp2_with fail
 rw[←hW]
 clear hW
 refine k1.mono ?_
 rintro r w1 ⟨rfl,hb1⟩
 have HB1:Hid (Bw W w1):=((Below.refl W.heap.size W).alloc (Nat.le_refl _) _).trans (hb1.mono (by simp))
 clear k1 hb1
 obtain⟨⟨x0,x1,x2⟩,-⟩:=box_cells (box_later HX.out.2.2 HB1.out (by have:=HX.out.2.1;omega))
 have HB2:Hid (Bw w w1):=HX.out.1.trans (HB1.out.mono HX.out.1.size)
 go_wp2
 go_ret
 exact⟨rfl,HB2.out⟩
theorem pTop_1 (na:Bool) (ua:Option Addr) (un uc:Nat) (ea c:Int) (w:World)
  (k43:∀ W g,Bw w W→W.heap[g]?=some (.cells #[.bool na,.slice ua un uc,.int .i64 ea] 50 (0,0))→Calls Tryz.prog 128 #[.slice (some ⟨g,0,none⟩) 1 1] W fun r w'=>r=.returned (.bool true)∧Bw W w')
  (kC:∀ W,Bw w W→Calls Tryz.prog 189 #[.agg #[.bool na,.slice ua un uc,.int .i64 ea]] W fun r w'=>r=.returned (.int .i64 c)∧Bw W w') :
  Calls Tryz.prog 127 #[.agg #[.bool na,.slice ua un uc,.int .i64 ea]] w fun r w'=>r=.returned (.int .i64 c)∧Bw w w':=by
 have HKC:Hid _:=kC
 clear kC
 obtain⟨W,hW⟩:∃ W,W=w.alloc (.cells #[.bool na,.slice ua un uc,.int .i64 ea] 50):=⟨_,rfl⟩
 have hBW:Bw w W:=by rw[hW];exact(Below.refl _ _).alloc (Nat.le_refl _) _
 have hsz:W.heap.size=w.heap.size+1:=by rw[hW];simp
 have hbx:W.heap[w.heap.size]?=some (.cells #[.bool na,.slice ua un uc,.int .i64 ea] 50 (0,0)):=by rw[hW];exact heap_alloc_new _ _
 have k1:=k43 (W.alloc (.cells #[.bool na,.slice ua un uc,.int .i64 ea] 50)) (w.heap.size+1) (hBW.alloc hBW.size _) (by rw[←hsz];exact heap_alloc_new _ _)
 have HX:Hid (Bw w W∧W.heap.size=w.heap.size+1∧W.heap[w.heap.size]?=some (.cells #[.bool na,.slice ua un uc,.int .i64 ea] 50 (0,0))):=⟨hBW,hsz,hbx⟩
 clear hBW hsz hbx k43
 go_enter Tryz.func127,Tryz.ntmps127
 go_wp2_with fail
 rw[←hW]
 clear hW
 refine k1.mono ?_
 rintro r w1 ⟨rfl,hb1⟩
 have HB1:Hid (Bw W w1):=((Below.refl W.heap.size W).alloc (Nat.le_refl _) _).trans (hb1.mono (by simp))
 clear k1 hb1
 obtain⟨⟨x0,x1,x2⟩,-⟩:=box_cells (box_later HX.out.2.2 HB1.out (by have:=HX.out.2.1;omega))
 have HB2:Hid (Bw w w1):=HX.out.1.trans (HB1.out.mono HX.out.1.size)
 have k3:=HKC.out w1 HB2.out
 go_wp2_with fail
 refine k3.mono ?_
 rintro r w3 ⟨rfl,hb3⟩
 have HB3:Hid (Bw w w3):=HB2.out.trans (hb3.mono HB2.out.size)
 clear k3 hb3 x0 x1 x2
 go_wp2_with fail
 go_ret
 exact⟨rfl,HB3.out⟩
theorem dec_get (n:Nat) (hn:n<10):(⟨#[48,49,50,51,52,53,54,55,56,57]⟩:ByteArray).extract n (n+1)=⟨[UInt8.ofNat (48+n)].toArray⟩:=by
 rcases(by omega:n=0∨n=1∨n=2∨n=3∨n=4∨n=5∨n=6∨n=7∨n=8∨n=9)with h|h|h|h|h|h|h|h|h|h <;> subst h <;> rfl
theorem bytes_cat (L M:List UInt8):(⟨L.toArray⟩:ByteArray)++⟨M.toArray⟩=⟨(L++M).toArray⟩:=by
 apply ByteArray.ext
 simp
theorem decDigits_len (k:Nat):∀ n,n<10^(k+1)→(Lib.decDigits n).length≤k+1:=by
 induction k with
 | zero=>intro n h;rw[Lib.decDigits,dif_pos (by simpa using h)];simp
 | succ k ih =>
  intro n h
  by_cases h0:n<10
  ·rw[Lib.decDigits,dif_pos h0];simp
  ·rw[Lib.decDigits,dif_neg h0,List.length_append,List.length_singleton]
   have:=ih (n / 10) (by rw[Nat.pow_succ] at h;omega)
   omega
def OB (w wr:World) (v:Value) (L:List UInt8):Prop:=wr.ownsRow w.heap.size 5 1 v L.length (Lib.byteCells L)∧Bw w wr
theorem OB.shape {w wr:World} {v:Value} {L:List UInt8} (h:OB w wr v L):∃ ao cap,v=.slice ao L.length cap:=by
 obtain⟨⟨-,h|⟨g,cap,cur,h,-⟩⟩,-⟩:=h
 ·exact⟨none,0,by rw[h.1,h.2]⟩
 ·exact⟨_,_,h⟩
theorem OB.push {w wr w4:World} {v v':Value} {L:List UInt8} {c:Nat} (h:OB w wr v L) (hc:c<256) (ho':w4.ownsRow w.heap.size 5 1 v' (L.length+1) (Lib.byteCells L ++ [.int .u8 (c:Int)])) (hg:(wr.alloc (.cells #[.int .u8 (c:Int)] 5)).grownBy w4 v.ownBlock):OB w w4 v' (L ++ [UInt8.ofNat c]):=by
 refine⟨?_,(h.2.alloc h.2.size _).grown hg (by simp;have:=h.2.size;omega) (fun k hk=>(h.1.lt k hk).1)⟩
 rw[List.length_append,List.length_singleton]
 have e:Lib.byteCells (L ++ [UInt8.ofNat c])=Lib.byteCells L ++ [.int .u8 (c:Int)]:=by
  simp[Lib.byteCells,UInt8.toNat_ofNat_of_lt' hc]
 rw[e]
 exact ho'
theorem hex16_get (m:Nat) (hm:m<16) (h:m<(⟨#[48,49,50,51,52,53,54,55,56,57,97,98,99,100,101,102]⟩:ByteArray).size):((⟨#[48,49,50,51,52,53,54,55,56,57,97,98,99,100,101,102]⟩:ByteArray)[m]'h).toNat=hx m:=by
 have:m=0∨m=1∨m=2∨m=3∨m=4∨m=5∨m=6∨m=7∨m=8∨m=9∨m=10∨m=11∨m=12∨m=13∨m=14∨m=15:=by omega
 rcases this with rfl|rfl|rfl|rfl|rfl|rfl|rfl|rfl|rfl|rfl|rfl|rfl|rfl|rfl|rfl|rfl <;> rfl
end Go.Proofs.YtfkaogdmlcdceaaGreatDoor
namespace Go.Proofs.YtfkaogdmlcdceaaGreatDoor
open Go.RowKit Go.Fl64
end Go.Proofs.YtfkaogdmlcdceaaGreatDoor
