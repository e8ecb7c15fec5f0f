/- Own work: contracts of the program's functions, part 14: DEI DEJ DEK DEL DEM DEN LGA. -/
import Derived.Test.YtapooodfgcjoaaaGreatA13
import Derived.Deep.MidRow
import Derived.Test.YtapooodfgcjoaaaGreatA12
import Derived.Test.YtapooodfgcjoaaaGreatA11
import Derived.Test.YtapooodfgcjoaaaGreatA6

set_option maxHeartbeats 16000000
set_option maxRecDepth 200000
set_option linter.unusedVariables false
set_option linter.unusedSimpArgs false
namespace Go.Proofs.YtapooodfgcjoaaaGreat
open Go.RowKit Go.Fl64
theorem small_prod {a b:Int} {k l:Nat} (ha:a.natAbs<2^k) (hb:b.natAbs<2^l):(a*b).natAbs<2^(k+l):=by
 rw[Int.natAbs_mul,Nat.pow_add]
 exact Nat.mul_lt_mul'' ha hb
theorem dencTurns {p:Nat} {n:Int} {X Y:Value} {ty:Bool×Nat×Int} {w:World} (hp:p≤30000) (hn:n.natAbs<2^64) (hX:DN w X (un n 0)) (hY:DN w Y ty) :
  Calls Tryz.prog 17 #[.int .i64 25,X,Y,.int .i64 p] w fun r w'=>OutQ w (un (n*piV (p+48+64) - (17592186044416:Nat)*((2^65:Nat):Int)) (p+48+65)) (un (n*piV (p+48+64)+(17592186044416:Nat)*((2^65:Nat):Int)) (p+48+65)) r w':=by
 obtain⟨s1,ao,m,cp,e,rfl⟩:=hX.shape
 obtain⟨s2,ao2,n2,cp2,e2,rfl⟩:=hY.shape
 have hs:=piV_small (p:=p+48+64) (by omega)
 have hm:=small_prod hn hs
 refine denc_turns s1 ao m cp e s2 ao2 n2 cp2 e2 (p:Int) ((p+48:Nat):Int) ((p+48+64:Nat):Int) (un (piV (p+48+64)) (p+48+64)) (un (piV (p+48+64)) (p+48+65)) (un (n*piV (p+48+64)) (p+48+65)) _ _ w (by rw[IntKind.wrap_i64];omega) (by rw[IntKind.wrap_i64];omega)
  (fun W _=>dpi (by omega)) (fun W X _ hX=>dscaled hs (by omega) (by omega) (by omega) (by omega) hX) (fun W Y hb hY=>?_) (fun W X _ hX=>daroundS (u:=17592186044416) (p:=p+48) (d:=65) hm (by omega) (by omega) (by decide) (by omega) hX)
 have k:=dmulZ hn hs (by omega) (by omega) (by omega) (by omega) (hX.later hb) hY
 rw[Nat.zero_add] at k
 exact k
theorem un_one:un 1 0=(false,1,0):=by decide +kernel
theorem dlen_one9:dlen 1=1:=by decide +kernel
theorem dg_one:dg 1 0=1:=by decide +kernel
theorem dfloor_1 (sa:Bool) (aoa:Option Addr) (na cpa:Nat) (ea:Int) (w:World)
  (k1:∀ (W:World),Bw w W→Calls Tryz.prog 32 #[.agg #[.bool sa,.slice aoa na cpa,.int .i64 ea],.int .i64 0] W fun r w'=>OutD W (un 1 0) r w') :
  Calls Tryz.prog 35 #[.agg #[.bool sa,.slice aoa na cpa,.int .i64 ea]] w fun r w'=>r=.returned (.int .i64 1)∧Bw w w':=by
 have Hk1:Hid _:=k1
 clear k1
 obtain⟨W,hW⟩:∃ W,W=w.alloc (.cells #[.bool sa,.slice aoa na cpa,.int .i64 ea] 45):=⟨_,rfl⟩
 have HB:Hid (Bw w W):=(by rw[hW];exact(Below.refl _ _).alloc (Nat.le_refl _) _:Bw w W)
 have hP:W.heap[w.heap.size]?=some (.cells #[.bool sa,.slice aoa na cpa,.int .i64 ea] 45 (0,0)):=by rw[hW];exact heap_alloc_new _ _
 obtain⟨⟨x0,x1,x2⟩,-⟩:=box_cells29 hP
 go_enter Tryz.func35,Tryz.ntmps35
 go_upto_region 1 with fail
 rw[←hW]
 clear hW
 have kk:=Hk1.out W HB.out
 go_wp2_with fail
 refine kk.mono ?_
 rintro r u1 ⟨s1,ao1,n1,cp1,e1,rfl,hd,hb⟩
 clear kk x0 x1 x2 hP
 rw[un_one] at hd
 obtain⟨ao,cap,he,hA⟩:=hd
 obtain⟨bb,o,hao,hcl⟩:=hA.at_
 simp only[Value.agg.injEq,Array.mk.injEq,List.cons.injEq,Value.bool.injEq,Value.slice.injEq,Value.int.injEq,and_true,true_and,dlen_one9] at he
 obtain⟨rfl,⟨rfl,rfl,rfl⟩,rfl⟩:=he
 obtain rfl:=hao (by show 0<dlen 1;rw[dlen_one9];omega)
 have hc0:u1.cell? ⟨bb,o,none⟩=some (.int .u32 1):=by
  have h:=hcl 0 (by show 0<dlen 1;rw[dlen_one9];omega)
  have e:dg (false,1,(0:Int)).2.1 0=1:=dg_one
  rw[e,Nat.add_zero] at h
  exact h
 obtain⟨V3,hV3⟩:∃ V2,V2=u1.alloc (.cells #[.bool false,.slice none 0 0,.int .i64 0] 45):=⟨_,rfl⟩
 have hbV3:Bw u1 V3:=by rw[hV3];exact(Below.refl _ _).alloc (Nat.le_refl _) _
 have hzV3:V3.heap[u1.heap.size]?=some (.cells #[.bool false,.slice none 0 0,.int .i64 0] 45 (0,0)):=by rw[hV3];exact heap_alloc_new _ _
 obtain⟨⟨y0,y1,y2⟩,y3,y4,y5⟩:=box_cells29 hzV3
 have hlt:bb<u1.heap.size:=by
  apply Decidable.byContradiction
  intro hn
  simp only[World.cell?] at hc0
  rw[Array.getElem?_eq_none (by omega)] at hc0
  simp at hc0
 have HZ:Hid (Bw W u1∧Bw u1 V3∧V3.heap[u1.heap.size]?=some (.cells #[.bool false,.slice none 0 0,.int .i64 0] 45 (0,0))∧u1.cell? ⟨bb,o,none⟩=some (.int .u32 1)∧bb<u1.heap.size):=⟨hb,hbV3,hzV3,hc0,hlt⟩
 clear hbV3 hzV3 hc0 hcl hA hb hlt hao Hk1
 go_upto_region 2 with (rw[←hV3];clear hV3)
 obtain⟨gx,hgx⟩:∃ g,g=u1.heap.size:=⟨_,rfl⟩
 obtain⟨W3,hW3⟩:∃ V2,V2=((V3.setCell ⟨u1.heap.size,0,none⟩ (.bool false)).setCell ⟨u1.heap.size,1,none⟩ (.slice (some ⟨bb,o,none⟩) 1 cp1)).setCell ⟨u1.heap.size,2,none⟩ (.int .i64 0):=⟨_,rfl⟩
 have HX:Hid (W3.heap[gx]?=some (.cells #[.bool false,.slice (some ⟨bb,o,none⟩) 1 cp1,.int .i64 0] 45 (0,0))∧W3.cell? ⟨bb,o,none⟩=some (.int .u32 1)∧Bw W W3):=(by
  rw[hW3,hgx]
  refine⟨store3_29 _ _ _ HZ.out.2.2.1,?_,below_store3 (HZ.out.1.trans (HZ.out.2.1.mono HZ.out.1.size)) HZ.out.1.size _ _ _⟩
  rw[cell_far3 (by show bb≠u1.heap.size;have:=HZ.out.2.2.2.2;omega)]
  exact(HZ.out.2.1.cell (p:=⟨bb,o,none⟩) HZ.out.2.2.2.2).trans HZ.out.2.2.2.1:W3.heap[gx]?=some (.cells #[.bool false,.slice (some ⟨bb,o,none⟩) 1 cp1,.int .i64 0] 45 (0,0))∧W3.cell? ⟨bb,o,none⟩=some (.int .u32 1)∧Bw W W3)
 rw[←hW3,←hgx]
 clear hW3 hgx HZ y0 y1 y2 y3 y4 y5
 obtain⟨⟨y0,y1,y2⟩,y3,y4,y5⟩:=box_cells29 HX.out.1
 have hc:=HX.out.2.1
 go_wp2_with fail
 go_loopw [4,5] (fun nv iv wr=>wr=W3∧((nv=.int .i64 0∧iv=.int .i64 0)∨(nv=.int .i64 1∧iv=.int .i64 (-1)))) (fun _ iv _=>(intOf iv+1).toNat)
 case atStart=>exact⟨rfl,.inl ⟨rfl,rfl⟩⟩
 case round =>
  obtain⟨rfl,⟨rfl,rfl⟩|⟨rfl,rfl⟩⟩:=hrel
  ·go_wp2_with fail
   exact⟨⟨trivial,.inr ⟨congrArg (Value.int .i64) (by decide +kernel),rfl⟩⟩,by decide⟩
  ·go_wp2_with fail
   go_ret
   exact⟨rfl,HB.out.trans (HX.out.2.2.mono HB.out.size)⟩
theorem run_bnd0 (g:Nat) (w:World):(Instr.fieldAt 47 (.pointer (some ⟨g,0,none⟩)) 0).run Tryz.prog w=.ok (.pointer (some ⟨g,0,none⟩)) w:=by kernel_rfl
theorem run_bnd1 (g:Nat) (w:World):(Instr.fieldAt 47 (.pointer (some ⟨g,0,none⟩)) 1).run Tryz.prog w=.ok (.pointer (some ⟨g,3,none⟩)) w:=by kernel_rfl
theorem run_loadMid (g o:Nat) (s:Bool) (ao:Option Addr) (n cp:Nat) (e:Int) (w:World) (h0:w.cell? ⟨g,o,none⟩=some (.bool s)) (h1:w.cell? ⟨g,o+1,none⟩=some (.slice ao n cp)) (h2:w.cell? ⟨g,o+2,none⟩=some (.int .i64 e)):(Instr.loadAt 45 (.pointer (some ⟨g,o,none⟩))).run Tryz.prog w=.ok (.agg #[.bool s,.slice ao n cp,.int .i64 e]) w :=
 run_loadAt_mid w g o 45 [.bool s,.slice ao n cp,.int .i64 e] _ (fun j v hv=>by
  match j with
  | 0=>simp at hv;subst hv;exact h0
  | 1=>simp at hv;subst hv;exact h1
  | 2=>simp at hv;subst hv;exact h2
  | k+3=>simp at hv) Tryz.underlying45 rfl Tryz.info45
theorem bstep_field {ops:Array Oper} {Q:Exit→Act→World→Prop} {i:Nat} {o:Oper} {K:Act→World→Prop} {a:Act} {w:World}
  (hi:ops[i]?=some o) (hg:o.guard=none) {s:Tmp} {f:Nat} (hop:o.op=.fieldAddr 47 (.tmp s) f) {g o2:Nat} (hf:∀ w,(Instr.fieldAt 47 (.pointer (some ⟨g,0,none⟩)) f).run Tryz.prog w=.ok (.pointer (some ⟨g,o2,none⟩)) w)
  (hs:a.tmps[s]?=some (.pointer (some ⟨g,0,none⟩))) (h:K (a.put o.dst (.pointer (some ⟨g,o2,none⟩))) w):wpOp Tryz.prog ops Q i K a w:=by
 refine step_wanted hi hg ?_
 unfold Oper.wp
 simp[execOp,hop,eval_get hs,hf,Result.andThen,Oper.upon,h]
def scV (g:Nat) (k:Int) (A B:Value) (T1 T2 TL TH:Bool×Nat×Int) (j:Nat) (w:World) (u:Value):Prop :=
 match j with
 | 0=>u=.pointer (some ⟨g,0,none⟩)
 | 1=>u=A∧DN w u T1
 | 2=>u=.int .i64 k
 | 3=>DN w u TL
 | 4=>u=.pointer (some ⟨g,3,none⟩)
 | 5=>u=B∧DN w u T2
 | 6=>u=.int .i64 k
 | 7=>DN w u TH
 | _=>DB w u TL TH
def scD (j:Nat):List Nat :=
 match j with
 | 1 => [0]
 | 3 => [1,2]
 | 5 => [4]
 | 7 => [5,6]
 | 8 => [3,7]
 | _ => []
theorem scV_cases (i:Nat):i=0∨i=1∨i=2∨i=3∨i=4∨i=5∨i=6∨i=7∨∃ k,i=k+8:=by
 by_cases h:8≤i
 ·exact .inr (.inr (.inr (.inr (.inr (.inr (.inr (.inr ⟨i - 8,by omega⟩)))))))
 ·omega
theorem lt9D {i:Nat} (h:i<9):i=0∨i=1∨i=2∨i=3∨i=4∨i=5∨i=6∨i=7∨i=8:=by omega
structure ScOps (ops:Array Oper) (sl:Nat) (p1 pk tgt:Tmp):Prop where
 o0:∃ o,ops[0]?=some o∧o.guard=none∧o.op=.fieldAddr 47 (.tmp p1) 0∧o.dst=some sl
 o1:∃ o,ops[1]?=some o∧o.guard=none∧o.op=.load 45 (.tmp sl)∧o.dst=some (sl+1)∧∃ e ∈ o.after,e.on=0∧Region.binds .any e=true
 o2:∃ o,ops[2]?=some o∧o.guard=none∧o.op=.move (.tmp pk)∧o.dst=some (sl+2)
 o3:∃ o,ops[3]?=some o∧o.guard=none∧(∃ ts,o.op=.call { callee:=.value (.func 40),args:=#[.tmp (sl+1),.tmp (sl+2)],argTypes:=ts })∧o.dst=some (sl+3)∧(∃ e ∈ o.after,e.on=1∧Region.binds .any e=true)∧∃ e ∈ o.after,e.on=2∧Region.binds .any e=true
 o4:∃ o,ops[4]?=some o∧o.guard=none∧o.op=.fieldAddr 47 (.tmp p1) 1∧o.dst=some (sl+4)
 o5:∃ o,ops[5]?=some o∧o.guard=none∧o.op=.load 45 (.tmp (sl+4))∧o.dst=some (sl+5)∧∃ e ∈ o.after,e.on=4∧Region.binds .any e=true
 o6:∃ o,ops[6]?=some o∧o.guard=none∧o.op=.move (.tmp pk)∧o.dst=some (sl+6)
 o7:∃ o,ops[7]?=some o∧o.guard=none∧(∃ ts,o.op=.call { callee:=.value (.func 40),args:=#[.tmp (sl+5),.tmp (sl+6)],argTypes:=ts })∧o.dst=some (sl+7)∧(∃ e ∈ o.after,e.on=5∧Region.binds .any e=true)∧∃ e ∈ o.after,e.on=6∧Region.binds .any e=true
 o8:∃ o,ops[8]?=some o∧o.guard=none∧o.op=.build 47 #[(0,.tmp (sl+3)),(1,.tmp (sl+7))]∧o.dst=some (sl+8)∧(∃ e ∈ o.after,e.on=3∧Region.binds .any e=true)∧∃ e ∈ o.after,e.on=7∧Region.binds .any e=true
 o9:∃ o,ops[9]?=some o∧o.guard=none∧o.op=.store 47 (.tmp tgt) (.tmp (sl+8))∧o.dst=none∧∀ j,j<9→∃ e ∈ o.after,e.on=j∧Region.binds .any e=true
theorem sc_region {ops:Array Oper} {Q:Exit→Act→World→Prop} {id:Nat} (k:Int) (sl:Nat) (p1 pk tgt:Tmp) (g1 gT:Nat) (s1:Bool) (ao1:Option Addr) (n1 cp1:Nat) (e1:Int) (s2:Bool) (ao2:Option Addr) (n2 cp2:Nat) (e2:Int) (T1 T2 TL TH:Bool×Nat×Int) (W0:World) (a0:Act)
  (hsz:ops.size=10) (hord:∀ (i:Nat) (o:Oper),ops[i]?=some o→∀ e ∈ o.after,e.on<i) (h:ScOps ops sl p1 pk tgt)
  (hp1:a0.tmps[p1]?=some (.pointer (some ⟨g1,0,none⟩))) (hpk:a0.tmps[pk]?=some (.int .i64 k)) (htgt:a0.tmps[tgt]?=some (.pointer (some ⟨gT,0,none⟩)))
  (hfr:∀ j,j<9→p1≠sl+j∧pk≠sl+j∧tgt≠sl+j) (hin:∀ j,j<9→sl+j<a0.tmps.size)
  (hb1:W0.heap[g1]?=some (.cells #[.bool s1,.slice ao1 n1 cp1,.int .i64 e1,.bool s2,.slice ao2 n2 cp2,.int .i64 e2] 47 (0,0))) (hd1:DN W0 (.agg #[.bool s1,.slice ao1 n1 cp1,.int .i64 e1]) T1) (hd2:DN W0 (.agg #[.bool s2,.slice ao2 n2 cp2,.int .i64 e2]) T2) (hbT:W0.heap[gT]?=some (.cells #[.bool false,.slice none 0 0,.int .i64 0,.bool false,.slice none 0 0,.int .i64 0] 47 (0,0)))
  (kL:∀ (W:World) X,Bw W0 W→DN W X T1→Calls Tryz.prog 40 #[X,.int .i64 k] W fun r w'=>OutD W TL r w')
  (kH:∀ (W:World) X,Bw W0 W→DN W X T2→Calls Tryz.prog 40 #[X,.int .i64 k] W fun r w'=>OutD W TH r w')
  (hQ:∀ (u:Nat→Value) (W:World) (cs:Array Value),Bw W0 W→DB W (.agg cs) TL TH→Q .normal (putL a0 ((List.range 9).map (fun j=>(sl+j,u j)))) (W.setRow gT cs)) :
  (Code.region id ops true).wp Tryz.prog Q a0 W0:=by
 have ld:∀ {W:World} {g:Nat} {o:Obj},Bw W0 W→W0.heap[g]?=some o→W.heap[g]?=some o:=fun hb h=>(hb.block _ (Array.getElem?_eq_some_iff.1 h).1).trans h
 refine parl_region follows_mixed 9 (fun j=>sl+j) scD W0 a0 (scV g1 k (.agg #[.bool s1,.slice ao1 n1 cp1,.int .i64 e1]) (.agg #[.bool s2,.slice ao2 n2 cp2,.int .i64 e2]) T1 T2 TL TH) hsz hord ?_ ?_ ?_ ?_ hin (fun i i' _ _ h=>Nat.add_left_cancel h) ?_
 ·intro i W W' u hb h
  rcases scV_cases i with rfl|rfl|rfl|rfl|rfl|rfl|rfl|rfl|⟨k,rfl⟩
  ·exact h
  ·exact⟨h.1,h.2.later hb⟩
  ·exact h
  ·exact DN.later (t:=TL) h hb
  ·exact h
  ·exact⟨h.1,h.2.later hb⟩
  ·exact h
  ·exact DN.later (t:=TH) h hb
  ·exact DB.later (tl:=TL) (th:=TH) h hb
 ·intro i hi j' hj'
  rcases lt9D hi with rfl|rfl|rfl|rfl|rfl|rfl|rfl|rfl|rfl
  ·simp[scD] at hj'
  ·obtain rfl:j'=0:=by simpa [scD] using hj'
   refine⟨by omega,fun o ho=>?_⟩
   obtain⟨o',ho',-,-,-,e1⟩:=h.o1
   obtain rfl:o'=o:=Option.some.inj (ho'.symm.trans ho)
   exact e1
  ·simp[scD] at hj'
  ·obtain⟨o',ho',-,-,-,e1,e2⟩:=h.o3
   have:j'=1∨j'=2:=by simpa [scD] using hj'
   refine⟨by omega,fun o ho=>?_⟩
   obtain rfl:o'=o:=Option.some.inj (ho'.symm.trans ho)
   rcases this with rfl|rfl
   ·exact e1
   ·exact e2
  ·simp[scD] at hj'
  ·obtain rfl:j'=4:=by simpa [scD] using hj'
   refine⟨by omega,fun o ho=>?_⟩
   obtain⟨o',ho',-,-,-,e1⟩:=h.o5
   obtain rfl:o'=o:=Option.some.inj (ho'.symm.trans ho)
   exact e1
  ·simp[scD] at hj'
  ·obtain⟨o',ho',-,-,-,e1,e2⟩:=h.o7
   have:j'=5∨j'=6:=by simpa [scD] using hj'
   refine⟨by omega,fun o ho=>?_⟩
   obtain rfl:o'=o:=Option.some.inj (ho'.symm.trans ho)
   rcases this with rfl|rfl
   ·exact e1
   ·exact e2
  ·obtain⟨o',ho',-,-,-,e1,e2⟩:=h.o8
   have:j'=3∨j'=7:=by simpa [scD] using hj'
   refine⟨by omega,fun o ho=>?_⟩
   obtain rfl:o'=o:=Option.some.inj (ho'.symm.trans ho)
   rcases this with rfl|rfl
   ·exact e1
   ·exact e2
 ·intro i hi a' W hb hoth hdep
  rcases lt9D hi with rfl|rfl|rfl|rfl|rfl|rfl|rfl|rfl|rfl
  ·obtain⟨o,ho,hg,hop,hd⟩:=h.o0
   exact bstep_field ho hg hop (run_bnd0 g1) (by rw[hoth p1 (fun j hj=>(hfr j hj).1)];exact hp1) ⟨_,by rw[hd];rfl,rfl,Below.refl _ _⟩
  ·obtain⟨o,ho,hg,hop,hd,-⟩:=h.o1
   obtain⟨u,hu,hv⟩:=hdep 0 (by simp[scD])
   obtain rfl:u=_:=hv
   have hx:=(box_cells6 (ld hb hb1)).1
   exact ostep_load ho hg hop (run_loadMid g1 0 _ _ _ _ _ W hx.1 hx.2.1 hx.2.2.1) (show a'.tmps[sl]?=_ from hu) ⟨_,by rw[hd],⟨rfl,hd1.later hb⟩,Below.refl _ _⟩
  ·obtain⟨o,ho,hg,hop,hd⟩:=h.o2
   exact ostep_move ho hg hop (by rw[hoth pk (fun j hj=>(hfr j hj).2.1)];exact hpk) ⟨_,by rw[hd],rfl,Below.refl _ _⟩
  ·obtain⟨o,ho,hg,⟨ts,hop⟩,hd,-⟩:=h.o3
   obtain⟨u1,hu1,hv1⟩:=hdep 1 (by simp[scD])
   obtain⟨u2,hu2,hv2⟩:=hdep 2 (by simp[scD])
   obtain rfl:u2=_:=hv2
   refine step_call ho hg hop (enters Tryz.func40 (by kernel_rfl) (by kernel_rfl)) (vs:=#[u1,.int .i64 k]) (by simp only[List.map_toArray,List.map_cons,List.map_nil];rw[eval_get hu1,eval_get hu2]) ?_
   refine(kL W u1 hb hv1.2).mono ?_
   rintro r w' ⟨_,_,_,_,_,rfl,hE,hb'⟩
   exact⟨_,rfl,_,by rw[hd],hE,hb'⟩
  ·obtain⟨o,ho,hg,hop,hd⟩:=h.o4
   exact bstep_field ho hg hop (run_bnd1 g1) (by rw[hoth p1 (fun j hj=>(hfr j hj).1)];exact hp1) ⟨_,by rw[hd],rfl,Below.refl _ _⟩
  ·obtain⟨o,ho,hg,hop,hd,-⟩:=h.o5
   obtain⟨u,hu,hv⟩:=hdep 4 (by simp[scD])
   obtain rfl:u=_:=hv
   have hx:=(box_cells6 (ld hb hb1)).1
   exact ostep_load ho hg hop (run_loadMid g1 3 _ _ _ _ _ W hx.2.2.2.1 hx.2.2.2.2.1 hx.2.2.2.2.2) hu ⟨_,by rw[hd],⟨rfl,hd2.later hb⟩,Below.refl _ _⟩
  ·obtain⟨o,ho,hg,hop,hd⟩:=h.o6
   exact ostep_move ho hg hop (by rw[hoth pk (fun j hj=>(hfr j hj).2.1)];exact hpk) ⟨_,by rw[hd],rfl,Below.refl _ _⟩
  ·obtain⟨o,ho,hg,⟨ts,hop⟩,hd,-⟩:=h.o7
   obtain⟨u1,hu1,hv1⟩:=hdep 5 (by simp[scD])
   obtain⟨u2,hu2,hv2⟩:=hdep 6 (by simp[scD])
   obtain rfl:u2=_:=hv2
   refine step_call ho hg hop (enters Tryz.func40 (by kernel_rfl) (by kernel_rfl)) (vs:=#[u1,.int .i64 k]) (by simp only[List.map_toArray,List.map_cons,List.map_nil];rw[eval_get hu1,eval_get hu2]) ?_
   refine(kH W u1 hb hv1.2).mono ?_
   rintro r w' ⟨_,_,_,_,_,rfl,hE,hb'⟩
   exact⟨_,rfl,_,by rw[hd],hE,hb'⟩
  ·obtain⟨o,ho,hg,hop,hd,-⟩:=h.o8
   obtain⟨u0,hu0,hv0⟩:=hdep 3 (by simp[scD])
   obtain⟨u1,hu1,hv1⟩:=hdep 7 (by simp[scD])
   have hv0':DN W u0 TL:=hv0
   have hv1':DN W u1 TH:=hv1
   obtain⟨t1,bo1,m1,dp1,f1,rfl⟩:=hv0'.shape
   obtain⟨t2,bo2,m2,dp2,f2,rfl⟩:=hv1'.shape
   exact step_build ho hg hop hu0 hu1 (run_buildB _ _ _ _ _ _ _ _ _ _ W) ⟨_,by rw[hd],⟨_,_,_,_,_,_,_,_,_,_,rfl,hv0',hv1'⟩,Below.refl _ _⟩
 ·intro o ho
  obtain⟨o',ho',-,-,-,e⟩:=h.o9
  obtain rfl:o'=o:=Option.some.inj (ho'.symm.trans ho)
  exact e
 ·intro u a' W hb hu hs' hd' hoth
  obtain⟨o,ho,hg,hop,hd,-⟩:=h.o9
  have e6:DB W (u 8) TL TH:=(hu 8 (by omega)).2
  obtain⟨t1,bo1,m1,dp1,f1,t2,bo2,m2,dp2,f2,hsh,h1,h2⟩:=e6
  have hv:=(hu 8 (by omega)).1
  rw[hsh] at hv
  refine step_store ho hg hop (by rw[hoth tgt (fun j hj=>(hfr j hj).2.2)];exact htgt) hv (ld hb hbT) (by kernel_rfl) rfl (one6 _ _ _ _ _ _ _ _ _ _) ?_
  rw[hd]
  have q1:((List.range 9).map (fun j=>((sl+j,u j):Tmp×Value))).map (fun p:Tmp×Value=>p.1)=(List.range 9).map (fun j=>sl+j):=by simp[Function.comp_def]
  have ha:=act_putL (a:=a') (a0:=a0) (l:=(List.range 9).map (fun j=>((sl+j,u j):Tmp×Value))) (by
    rw[q1]
    refine List.pairwise_map.2 ((List.nodup_range (n:=9)).imp_of_mem ?_)
    intro x y hx hy hne he
    exact hne (Nat.add_left_cancel he)) hs' hd' (by
    intro p hp
    obtain⟨i,hi,rfl⟩:=List.mem_map.1 hp
    exact(hu i (List.mem_range.1 hi)).1) (fun s hsn=>hoth s (fun i hi he=>hsn (List.mem_map.2 ⟨_,List.mem_map.2 ⟨i,List.mem_range.2 hi,rfl⟩,he.symm⟩)))
  show Q .normal a' _
  rw[ha]
  exact hQ u W _ hb ⟨_,_,_,_,_,_,_,_,_,_,rfl,h1,h2⟩
def rsV (k:Int) (A B:Value) (Tx Tl Tw Tt Tr:Bool×Nat×Int) (j:Nat) (w:World) (u:Value):Prop :=
 match j with
 | 0=>u=A∧DN w u Tx
 | 1=>u=.int .i64 k
 | 2=>DN w u Tw
 | 3=>u=B∧DN w u Tl
 | 4=>DN w u Tt
 | _=>DN w u Tr
def rsD (j:Nat):List Nat :=
 match j with
 | 2 => [1]
 | 4 => [2,3]
 | 5 => [0,4]
 | _ => []
structure RsOps (ops:Array Oper) (sl:Nat) (p1 pk p2 bx:Tmp):Prop where
 o0:∃ o,ops[0]?=some o∧o.guard=none∧o.op=.load 45 (.tmp p1)∧o.dst=some sl
 o1:∃ o,ops[1]?=some o∧o.guard=none∧o.op=.move (.tmp pk)∧o.dst=some (sl+1)
 o2:∃ o,ops[2]?=some o∧o.guard=none∧(∃ ts,o.op=.call { callee:=.value (.func 24),args:=#[.tmp (sl+1)],argTypes:=ts })∧o.dst=some (sl+2)∧∃ e ∈ o.after,e.on=1∧Region.binds .any e=true
 o3:∃ o,ops[3]?=some o∧o.guard=none∧o.op=.load 45 (.tmp p2)∧o.dst=some (sl+3)
 o4:∃ o,ops[4]?=some o∧o.guard=none∧(∃ ts,o.op=.call { callee:=.value (.func 33),args:=#[.tmp (sl+2),.tmp (sl+3)],argTypes:=ts })∧o.dst=some (sl+4)∧(∃ e ∈ o.after,e.on=2∧Region.binds .any e=true)∧∃ e ∈ o.after,e.on=3∧Region.binds .any e=true
 o5:∃ o,ops[5]?=some o∧o.guard=none∧(∃ ts,o.op=.call { callee:=.value (.func 57),args:=#[.tmp sl,.tmp (sl+4)],argTypes:=ts })∧o.dst=some (sl+5)∧(∃ e ∈ o.after,e.on=0∧Region.binds .any e=true)∧∃ e ∈ o.after,e.on=4∧Region.binds .any e=true
 o6:∃ o,ops[6]?=some o∧o.guard=none∧o.op=.alloc 45∧o.dst=some bx
 o7:∃ o,ops[7]?=some o∧o.guard=none∧o.op=.store 45 (.tmp bx) (.tmp (sl+5))∧o.dst=none∧(∃ e ∈ o.after,e.on=6∧Region.binds .any e=true)∧∃ e ∈ o.after,e.on=5∧Region.binds .any e=true
theorem rs_region {ops:Array Oper} {Q:Exit→Act→World→Prop} {id:Nat} (k:Int) (sl:Nat) (p1 pk p2 bx:Tmp) (g1 g2:Nat) (sa:Bool) (aoa:Option Addr) (na cpa:Nat) (ea:Int) (sb:Bool) (aob:Option Addr) (nb cpb:Nat) (eb:Int) (Tx Tl Tw Tt Tr:Bool×Nat×Int) (W0:World) (a0:Act)
  (hsz:ops.size=8) (hord:∀ (i:Nat) (o:Oper),ops[i]?=some o→∀ e ∈ o.after,e.on<i) (h:RsOps ops sl p1 pk p2 bx)
  (hp1:a0.tmps[p1]?=some (.pointer (some ⟨g1,0,none⟩))) (hpk:a0.tmps[pk]?=some (.int .i64 k)) (hp2:a0.tmps[p2]?=some (.pointer (some ⟨g2,0,none⟩)))
  (hfr:∀ j,j<6→p1≠sl+j∧pk≠sl+j∧p2≠sl+j∧sl+j≠bx) (hfb:p1≠bx∧pk≠bx∧p2≠bx) (hin:∀ j,j<6→sl+j<a0.tmps.size) (hbin:bx<a0.tmps.size)
  (hb1:NbD W0 g1 sa aoa na cpa ea Tx) (hb2:NbD W0 g2 sb aob nb cpb eb Tl)
  (kW:∀ W:World,Bw W0 W→Calls Tryz.prog 24 #[.int .i64 k] W fun r w'=>OutD W Tw r w')
  (kT:∀ (W:World) X Y,Bw W0 W→DN W X Tw→DN W Y Tl→Calls Tryz.prog 33 #[X,Y] W fun r w'=>OutD W Tt r w')
  (kL:∀ (W:World) X Y,Bw W0 W→DN W X Tx→DN W Y Tt→Calls Tryz.prog 57 #[X,Y] W fun r w'=>OutD W Tr r w')
  (hQ:∀ (u:Nat→Value) (W:World) (g:Nat) s' ao' n' cp' e',Bw W0 W→W0.heap.size≤g→NbD W g s' ao' n' cp' e' Tr→Q .normal (putL a0 ((List.range 6).map (fun j=>(sl+j,u j)) ++ [(bx,.pointer (some ⟨g,0,none⟩))])) W) :
  (Code.region id ops true).wp Tryz.prog Q a0 W0:=by
 have ld:∀ {W:World} {g:Nat} {o:Obj},Bw W0 W→W0.heap[g]?=some o→W.heap[g]?=some o:=fun hb h=>(hb.block _ (Array.getElem?_eq_some_iff.1 h).1).trans h
 refine parz_region follows_mixed 6 1 (fun j=>sl+j) (fun _=>bx) (fun _=>5) rsD 45 #[.bool false,.slice none 0 0,.int .i64 0] W0 a0 (rsV k (.agg #[.bool sa,.slice aoa na cpa,.int .i64 ea]) (.agg #[.bool sb,.slice aob nb cpb,.int .i64 eb]) Tx Tl Tw Tt Tr) hsz hord ?_ ?_ ?_ ?_ ?_ ?_ gzero_num Tryz.info45 ?_ hin (fun _ _=>hbin) (fun i i' _ _ h=>Nat.add_left_cancel h) (fun k k' hk hk' _=>by omega) (fun j k hj _=>(hfr j hj).2.2.2) ?_
 ·intro i W W' u hb h
  rcases lnV_cases i with rfl|rfl|rfl|rfl|rfl|⟨k,rfl⟩
  ·exact⟨h.1,h.2.later hb⟩
  ·exact h
  ·exact DN.later (t:=Tw) h hb
  ·exact⟨h.1,h.2.later hb⟩
  ·exact DN.later (t:=Tt) h hb
  ·exact DN.later (t:=Tr) h hb
 ·intro i W u g cs' hg h
  have hC:NumC #[.bool false,.slice none 0 0,.int .i64 0]:=⟨_,_,_,_,_,rfl⟩
  rcases lnV_cases i with rfl|rfl|rfl|rfl|rfl|⟨k,rfl⟩
  ·exact⟨h.1,h.2.grow hg hC _⟩
  ·exact h
  ·exact DN.grow (t:=Tw) h hg hC _
  ·exact⟨h.1,h.2.grow hg hC _⟩
  ·exact DN.grow (t:=Tt) h hg hC _
  ·exact DN.grow (t:=Tr) h hg hC _
 ·intro k hk W u h
  obtain⟨cs,e,h1,-,h2⟩:=DN.cells (show DN W u Tr from h)
  exact⟨cs,e,h1,h2⟩
 ·intro i hi j' hj'
  rcases glt6 hi with rfl|rfl|rfl|rfl|rfl|rfl
  ·simp[rsD] at hj'
  ·simp[rsD] at hj'
  ·obtain rfl:j'=1:=by simpa [rsD] using hj'
   refine⟨by omega,fun o ho=>?_⟩
   obtain⟨o',ho',-,-,-,e1⟩:=h.o2
   obtain rfl:o'=o:=Option.some.inj (ho'.symm.trans ho)
   exact e1
  ·simp[rsD] at hj'
  ·obtain⟨o',ho',-,-,-,e1,e2⟩:=h.o4
   have:j'=2∨j'=3:=by simpa [rsD] using hj'
   refine⟨by omega,fun o ho=>?_⟩
   obtain rfl:o'=o:=Option.some.inj (ho'.symm.trans ho)
   rcases this with rfl|rfl
   ·exact e1
   ·exact e2
  ·obtain⟨o',ho',-,-,-,e1,e2⟩:=h.o5
   have:j'=0∨j'=4:=by simpa [rsD] using hj'
   refine⟨by omega,fun o ho=>?_⟩
   obtain rfl:o'=o:=Option.some.inj (ho'.symm.trans ho)
   rcases this with rfl|rfl
   ·exact e1
   ·exact e2
 ·intro i hi a' W hb hoth hdep
  rcases glt6 hi with rfl|rfl|rfl|rfl|rfl|rfl
  ·obtain⟨o,ho,hg,hop,hd⟩:=h.o0
   exact ostep_load ho hg hop (run_loadNum _ _ _ _ _ _ W (ld hb hb1.1)) (by rw[hoth p1 (fun j hj=>(hfr j hj).1) (fun _ _=>hfb.1)];exact hp1) ⟨_,by rw[hd];rfl,⟨rfl,hb1.2.later hb⟩,Below.refl _ _⟩
  ·obtain⟨o,ho,hg,hop,hd⟩:=h.o1
   exact ostep_move ho hg hop (by rw[hoth pk (fun j hj=>(hfr j hj).2.1) (fun _ _=>hfb.2.1)];exact hpk) ⟨_,by rw[hd],rfl,Below.refl _ _⟩
  ·obtain⟨o,ho,hg,⟨ts,hop⟩,hd,-⟩:=h.o2
   obtain⟨u,hu,hv⟩:=hdep 1 (by simp[rsD])
   obtain rfl:u=_:=hv
   refine step_call ho hg hop (enters Tryz.func24 (by kernel_rfl) (by kernel_rfl)) (vs:=#[.int .i64 k]) (by simp only[List.map_toArray,List.map_cons,List.map_nil];rw[eval_get hu]) ?_
   refine(kW W hb).mono ?_
   rintro r w' ⟨_,_,_,_,_,rfl,hE,hb'⟩
   exact⟨_,rfl,_,by rw[hd],hE,hb'⟩
  ·obtain⟨o,ho,hg,hop,hd⟩:=h.o3
   exact ostep_load ho hg hop (run_loadNum _ _ _ _ _ _ W (ld hb hb2.1)) (by rw[hoth p2 (fun j hj=>(hfr j hj).2.2.1) (fun _ _=>hfb.2.2)];exact hp2) ⟨_,by rw[hd],⟨rfl,hb2.2.later hb⟩,Below.refl _ _⟩
  ·obtain⟨o,ho,hg,⟨ts,hop⟩,hd,-⟩:=h.o4
   obtain⟨u1,hu1,hv1⟩:=hdep 2 (by simp[rsD])
   obtain⟨u2,hu2,hv2⟩:=hdep 3 (by simp[rsD])
   refine step_call ho hg hop (enters Tryz.func33 (by kernel_rfl) (by kernel_rfl)) (vs:=#[u1,u2]) (by simp only[List.map_toArray,List.map_cons,List.map_nil];rw[eval_get hu1,eval_get hu2]) ?_
   refine(kT W u1 u2 hb hv1 hv2.2).mono ?_
   rintro r w' ⟨_,_,_,_,_,rfl,hE,hb'⟩
   exact⟨_,rfl,_,by rw[hd],hE,hb'⟩
  ·obtain⟨o,ho,hg,⟨ts,hop⟩,hd,-⟩:=h.o5
   obtain⟨u1,hu1,hv1⟩:=hdep 0 (by simp[rsD])
   obtain⟨u2,hu2,hv2⟩:=hdep 4 (by simp[rsD])
   refine step_call ho hg hop (enters Tryz.func57 (by kernel_rfl) (by kernel_rfl)) (vs:=#[u1,u2]) (by simp only[List.map_toArray,List.map_cons,List.map_nil];rw[eval_get (show a'.tmps[sl]?=_ from hu1),eval_get hu2]) ?_
   refine(kL W u1 u2 hb hv1.2 hv2).mono ?_
   rintro r w' ⟨_,_,_,_,_,rfl,hE,hb'⟩
   exact⟨_,rfl,_,by rw[hd],hE,hb'⟩
 ·intro k hk
  obtain rfl:k=0:=by omega
  exact h.o6
 ·intro k hk
  obtain rfl:k=0:=by omega
  obtain⟨o,ho,hg,hop,hd,e1,e2⟩:=h.o7
  exact⟨by omega,o,ho,hg,hop,hd,e1,e2⟩
 ·intro u g a' W hb hu hg hs' hd' hoth
  obtain⟨q1,q2,cs,q3,q4⟩:=hg 0 (by omega)
  have e5:DN W (u 5) Tr:=(hu 5 (by omega)).2
  obtain⟨st,aot,nt,cpt,et,hsh⟩:=e5.shape
  have hcs:cs = #[.bool st,.slice aot nt cpt,.int .i64 et]:=Value.agg.inj (q3.symm.trans hsh)
  rw[hcs] at q4
  rw[hsh] at e5
  have ha:a'=putL a0 ((List.range 6).map (fun j=>((sl+j,u j):Tmp×Value)) ++ [(bx,.pointer (some ⟨g 0,0,none⟩))]):=by
   refine act_putL ?_ hs' hd' ?_ ?_
   ·rw[List.map_append]
    refine List.pairwise_append.2 ⟨?_,by simp,?_⟩
    ·have e:((List.range 6).map (fun j=>((sl+j,u j):Tmp×Value))).map (·.1)=(List.range 6).map (fun j=>sl+j):=by simp[Function.comp_def]
     rw[e]
     refine List.pairwise_map.2 ((List.nodup_range (n:=6)).imp_of_mem ?_)
     intro x y hx hy hne he
     exact hne (Nat.add_left_cancel he)
    ·intro x hx y hy
     obtain⟨p,hp,rfl⟩:=List.mem_map.1 hx
     obtain⟨j,hj,rfl⟩:=List.mem_map.1 hp
     simp only[List.map_cons,List.map_nil,List.mem_singleton] at hy
     rw[hy]
     exact(hfr j (List.mem_range.1 hj)).2.2.2
   ·intro p hp
    rcases List.mem_append.1 hp with h|h
    ·obtain⟨j,hj,rfl⟩:=List.mem_map.1 h
     exact(hu j (List.mem_range.1 hj)).1
    ·rw[List.mem_singleton.1 h]
     exact q1
   ·intro s hsn
    refine hoth s (fun j hj he=>hsn ?_) (fun k hk he=>hsn ?_)
    ·rw[List.map_append]
     exact List.mem_append_left _ (List.mem_map.2 ⟨_,List.mem_map.2 ⟨j,List.mem_range.2 hj,rfl⟩,he.symm⟩)
    ·rw[List.map_append]
     exact List.mem_append_right _ (by rw[he];simp)
  rw[ha]
  exact hQ u W (g 0) _ _ _ _ _ hb q2 ⟨q4,e5⟩
theorem dexp_1 (sa:Bool) (aoa:Option Addr) (na cpa:Nat) (ea:Int) (p q k:Int) (J:Nat) (Ta Tl Tc Tv Tw Tt Tr UL UH TL TH:Bool×Nat×Int) (ss ts tt Tk:Nat→Bool×Nat×Int) (w:World) (hJ:J≤1000000) (hq:IntKind.i64.wrap (p+48)=q) (ha:DN w (.agg #[.bool sa,.slice aoa na cpa,.int .i64 ea]) Ta)
  (kl:∀ W:World,Calls Tryz.prog 42 #[.int .i64 q] W fun r w'=>OutD W Tl r w')
  (kc:∀ W:World,Bw w W→Calls Tryz.prog 32 #[.agg #[.bool sa,.slice aoa na cpa,.int .i64 ea],.int .i64 q] W fun r w'=>OutD W Tc r w')
  (ko:∀ (W:World) X Y,DN W X Tc→DN W Y Tl→Calls Tryz.prog 93 #[X,Y,.int .i64 4] W fun r w'=>OutD W Tv r w')
  (kf:∀ (W:World) X,DN W X Tv→Calls Tryz.prog 35 #[X] W fun r w'=>r=.returned (.int .i64 k)∧Bw W w')
  (kW:∀ W:World,Calls Tryz.prog 24 #[.int .i64 k] W fun r w'=>OutD W Tw r w')
  (kT:∀ (W:World) X Y,DN W X Tw→DN W Y Tl→Calls Tryz.prog 33 #[X,Y] W fun r w'=>OutD W Tt r w')
  (kL:∀ (W:World) X Y,DN W X Tc→DN W Y Tt→Calls Tryz.prog 57 #[X,Y] W fun r w'=>OutD W Tr r w')
  (k1s:∀ W:World,Calls Tryz.prog 24 #[.int .i64 1] W fun r w'=>OutD W (ss 0) r w')
  (k1t:∀ W:World,Calls Tryz.prog 24 #[.int .i64 1] W fun r w'=>OutD W (ts 0) r w')
  (kLe:∀ (j:Nat) (W:World) X,j≤J→DN W X (ts j)→Calls Tryz.prog 94 #[X,.int .i64 q] W fun r w'=>r=.returned (.bool (decide (j=J)))∧Bw W w')
  (kM:∀ (j:Nat) (W:World) X Y,j<J→DN W X (ts j)→DN W Y Tr→Calls Tryz.prog 47 #[X,Y,.int .i64 q] W fun r w'=>OutD W (tt j) r w')
  (kI:∀ (j:Nat) (W:World),j<J→Calls Tryz.prog 24 #[.int .i64 ((j:Int)+1)] W fun r w'=>OutD W (Tk j) r w')
  (kO:∀ (j:Nat) (W:World) X Y,j<J→DN W X (tt j)→DN W Y (Tk j)→Calls Tryz.prog 93 #[X,Y,.int .i64 q] W fun r w'=>OutD W (ts (j+1)) r w')
  (kP:∀ (j:Nat) (W:World) X Y,j<J→DN W X (ss j)→DN W Y (ts (j+1))→Calls Tryz.prog 45 #[X,Y] W fun r w'=>OutD W (ss (j+1)) r w')
  (kA:∀ (W:World) X,DN W X (ss J)→Calls Tryz.prog 38 #[X,.int .i64 4294967296,.int .i64 q] W fun r w'=>OutQ W UL UH r w')
  (kSL:∀ (W:World) X,DN W X UL→Calls Tryz.prog 40 #[X,.int .i64 k] W fun r w'=>OutD W TL r w')
  (kSH:∀ (W:World) X,DN W X UH→Calls Tryz.prog 40 #[X,.int .i64 k] W fun r w'=>OutD W TH r w') :
  Calls Tryz.prog 41 #[.agg #[.bool sa,.slice aoa na cpa,.int .i64 ea],.int .i64 p] w fun r w'=>OutQ w TL TH r w':=by
 have Hkl:Hid _:=kl
 have Hkc:Hid _:=kc
 have Hko:Hid _:=ko
 have Hkf:Hid _:=kf
 have HkW:Hid _:=kW
 have HkT:Hid _:=kT
 have HkL:Hid _:=kL
 have Hk1s:Hid _:=k1s
 have Hk1t:Hid _:=k1t
 have HkLe:Hid _:=kLe
 have HkM:Hid _:=kM
 have HkI:Hid _:=kI
 have HkO:Hid _:=kO
 have HkP:Hid _:=kP
 have HkA:Hid _:=kA
 have HkSL:Hid _:=kSL
 have HkSH:Hid _:=kSH
 clear kl kc ko kf kW kT kL k1s k1t kLe kM kI kO kP kA kSL kSH
 obtain⟨W,hW⟩:∃ W,W=(w.alloc (.cells #[.bool sa,.slice aoa na cpa,.int .i64 ea] 45)).alloc (.cells #[.bool false,.slice none 0 0,.int .i64 0,.bool false,.slice none 0 0,.int .i64 0] 47):=⟨_,rfl⟩
 have HB:Hid (Bw w W):=(by rw[hW];exact((Below.refl _ _).alloc (Nat.le_refl _) _).alloc (by simp) _:Bw w W)
 have HP0:Hid (W.heap[w.heap.size]?=some (.cells #[.bool sa,.slice aoa na cpa,.int .i64 ea] 45 (0,0))):=(two29 _ _ hW).1
 have HC0:Hid (W.heap[w.heap.size+1]?=some (.cells #[.bool false,.slice none 0 0,.int .i64 0,.bool false,.slice none 0 0,.int .i64 0] 47 (0,0))):=(two29 _ _ hW).2.1
 have HA:Hid (DN W (.agg #[.bool sa,.slice aoa na cpa,.int .i64 ea]) Ta):=ha.later HB.out
 clear ha
 go_enter Tryz.func41,Tryz.ntmps41
 go_upto_region 1 with fail
 rw[←hW]
 clear hW
 have kk:=Hkl.out W
 go_wp2_with fail
 refine kk.mono ?_
 rintro r u3 ⟨sl,aol,nl,cpl,el,rfl,hd3,hb3⟩
 clear kk Hkl
 obtain⟨V3,hV3⟩:∃ V2,V2=u3.alloc (.cells #[.bool false,.slice none 0 0,.int .i64 0] 45):=⟨_,rfl⟩
 have hbV3:Bw u3 V3:=by rw[hV3];exact(Below.refl _ _).alloc (Nat.le_refl _) _
 have hzV3:V3.heap[u3.heap.size]?=some (.cells #[.bool false,.slice none 0 0,.int .i64 0] 45 (0,0)):=by rw[hV3];exact heap_alloc_new _ _
 obtain⟨⟨y0,y1,y2⟩,y3,y4,y5⟩:=box_cells29 hzV3
 have HZ:Hid (Bw W u3∧Bw u3 V3∧V3.heap[u3.heap.size]?=some (.cells #[.bool false,.slice none 0 0,.int .i64 0] 45 (0,0))∧DN u3 (.agg #[.bool sl,.slice aol nl cpl,.int .i64 el]) Tl):=⟨hb3,hbV3,hzV3,hd3⟩
 clear hb3 hbV3 hzV3 hd3
 go_upto_region 3 with (rw[←hV3];clear hV3)
 obtain⟨gl,hgl⟩:∃ g,g=u3.heap.size:=⟨_,rfl⟩
 obtain⟨W3,hW3⟩:∃ V2,V2=((V3.setCell ⟨u3.heap.size,0,none⟩ (.bool sl)).setCell ⟨u3.heap.size,1,none⟩ (.slice aol nl cpl)).setCell ⟨u3.heap.size,2,none⟩ (.int .i64 el):=⟨_,rfl⟩
 have HX:Hid (NbD W3 gl sl aol nl cpl el (Tl)∧Bw W W3∧W.heap.size≤gl∧w.heap.size+1<W.heap.size):=(by
  rw[hW3,hgl]
  exact⟨⟨store3_29 _ _ _ HZ.out.2.2.1,(HZ.out.2.2.2.later HZ.out.2.1).store3 HZ.out.2.2.1 _ _ _⟩,below_store3 (HZ.out.1.trans (HZ.out.2.1.mono HZ.out.1.size)) HZ.out.1.size _ _ _,HZ.out.1.size,(Array.getElem?_eq_some_iff.1 HC0.out).1⟩:NbD W3 gl sl aol nl cpl el (Tl)∧Bw W W3∧W.heap.size≤gl∧w.heap.size+1<W.heap.size)
 rw[←hW3,←hgl]
 clear hW3 hgl HZ y0 y1 y2 y3 y4 y5
 have HP3:Hid (NbD W3 w.heap.size sa aoa na cpa ea (Ta)):=⟨box_later HP0.out HX.out.2.1 (Array.getElem?_eq_some_iff.1 HP0.out).1,HA.out.later HX.out.2.1⟩
 have HC3:Hid (W3.heap[w.heap.size+1]?=some (.cells #[.bool false,.slice none 0 0,.int .i64 0,.bool false,.slice none 0 0,.int .i64 0] 47 (0,0))):=(HX.out.2.1.block _ (Array.getElem?_eq_some_iff.1 HC0.out).1).trans HC0.out
 have HB3:Hid (Bw w W3):=HB.out.trans (HX.out.2.1.mono HB.out.size)
 clear HP0 HC0 HB HA
 obtain⟨⟨y0,y1,y2⟩,-⟩:=box_cells29 HP3.out.1
 have kk:=Hkc.out W3 HB3.out
 clear Hkc
 go_wp2_with fail
 refine kk.mono ?_
 rintro r u4 ⟨sc,aoc,nc,cpc,ec,rfl,hd4,hb4⟩
 clear kk y0 y1 y2
 have HD:Hid (NbD u4 gl sl aol nl cpl el (Tl)∧NbD u4 w.heap.size sa aoa na cpa ea (Ta)∧DN u4 (.agg #[.bool sc,.slice aoc nc cpc,.int .i64 ec]) Tc∧u4.heap[w.heap.size+1]?=some (.cells #[.bool false,.slice none 0 0,.int .i64 0,.bool false,.slice none 0 0,.int .i64 0] 47 (0,0))∧Bw w u4∧w.heap.size+1<gl):=⟨HX.out.1.later hb4,HP3.out.later hb4,hd4,(hb4.block _ (Array.getElem?_eq_some_iff.1 HC3.out).1).trans HC3.out,HB3.out.trans (hb4.mono HB3.out.size),by have:=HX.out.2.2;omega⟩
 clear hd4 hb4 HX HP3 HC3 HB3
 obtain⟨⟨y0,y1,y2⟩,y3,y4,y5⟩:=box_cells29 HD.out.2.1.1
 go_upto_region 4 with fail
 obtain⟨W4,hW4⟩:∃ V,V=((u4.setCell ⟨w.heap.size,0,none⟩ (.bool sc)).setCell ⟨w.heap.size,1,none⟩ (.slice aoc nc cpc)).setCell ⟨w.heap.size,2,none⟩ (.int .i64 ec):=⟨_,rfl⟩
 have HE:Hid (NbD W4 gl sl aol nl cpl el (Tl)∧NbD W4 w.heap.size sc aoc nc cpc ec (Tc)∧W4.heap[w.heap.size+1]?=some (.cells #[.bool false,.slice none 0 0,.int .i64 0,.bool false,.slice none 0 0,.int .i64 0] 47 (0,0))∧Bw w W4∧w.heap.size+1<gl):=(by
  have hg:=HD.out.2.2.2.2.2
  rw[hW4]
  exact⟨HD.out.1.other HD.out.2.1.1 (by omega) _ _ _,HD.out.2.1.put HD.out.2.2.1,heap_other3 HD.out.2.2.2.1 (by omega) _ _ _,below_store3 HD.out.2.2.2.2.1 (Nat.le_refl _) _ _ _,hg⟩:NbD W4 gl sl aol nl cpl el (Tl)∧NbD W4 w.heap.size sc aoc nc cpc ec (Tc)∧W4.heap[w.heap.size+1]?=some (.cells #[.bool false,.slice none 0 0,.int .i64 0,.bool false,.slice none 0 0,.int .i64 0] 47 (0,0))∧Bw w W4∧w.heap.size+1<gl)
 rw[←hW4]
 clear hW4 HD y0 y1 y2 y3 y4 y5
 obtain⟨⟨y0,y1,y2⟩,-⟩:=box_cells29 HE.out.2.1.1
 obtain⟨⟨z0,z1,z2⟩,-⟩:=box_cells29 HE.out.1.1
 have kk:=Hko.out W4 _ _ HE.out.2.1.2 HE.out.1.2
 clear Hko
 go_wp2_with fail
 refine kk.mono ?_
 rintro r u5 ⟨sv,aov,nv,cpv,ev,rfl,hd5,hb5⟩
 clear kk y0 y1 y2 z0 z1 z2
 have B5:Hid (Bw W4 u5):=hb5
 have kk:=Hkf.out u5 _ hd5
 clear Hkf hd5 hb5
 go_wp2_with fail
 refine kk.mono ?_
 rintro r u6 ⟨rfl,hb6⟩
 clear kk
 have HF:Hid (NbD u6 gl sl aol nl cpl el (Tl)∧NbD u6 w.heap.size sc aoc nc cpc ec (Tc)∧u6.heap[w.heap.size+1]?=some (.cells #[.bool false,.slice none 0 0,.int .i64 0,.bool false,.slice none 0 0,.int .i64 0] 47 (0,0))∧Bw w u6∧w.heap.size+1<gl):=(by
  have hb:=B5.out.trans (hb6.mono B5.out.size)
  exact⟨HE.out.1.later hb,HE.out.2.1.later hb,(hb.block _ (Array.getElem?_eq_some_iff.1 HE.out.2.2.1).1).trans HE.out.2.2.1,HE.out.2.2.2.1.trans (hb.mono HE.out.2.2.2.1.size),HE.out.2.2.2.2⟩:NbD u6 gl sl aol nl cpl el (Tl)∧NbD u6 w.heap.size sc aoc nc cpc ec (Tc)∧u6.heap[w.heap.size+1]?=some (.cells #[.bool false,.slice none 0 0,.int .i64 0,.bool false,.slice none 0 0,.int .i64 0] 47 (0,0))∧Bw w u6∧w.heap.size+1<gl)
 clear hb6 B5 HE
 go_upto_region 5 with fail
 go_cut [8] from 24 to 29 (fun p' wx=>∃ (g:Nat) (sr:Bool) (aor:Option Addr) (nr cpr:Nat) (er:Int),p'=.pointer (some ⟨g,0,none⟩)∧Hid (NbD wx g sr aor nr cpr er Tr∧Bw u6 wx∧u6.heap.size≤g))
 case first =>
  refine rs_region k 24 2 7 6 8 w.heap.size gl sc aoc nc cpc ec sl aol nl cpl el Tc Tl Tw Tt Tr u6 _ rfl (gord_of (by kernel_rfl)) ?_ rfl rfl rfl ?_ ?_ ?_ ?_ HF.out.2.1 HF.out.1 ?_ ?_ ?_ ?_
  ·exact⟨⟨_,rfl,rfl,rfl,rfl⟩,⟨_,rfl,rfl,rfl,rfl⟩,⟨_,rfl,rfl,⟨_,rfl⟩,rfl,⟨1,.data⟩,by simp,rfl,rfl⟩,⟨_,rfl,rfl,rfl,rfl⟩,⟨_,rfl,rfl,⟨_,rfl⟩,rfl,⟨⟨2,.data⟩,by simp,rfl,rfl⟩,⟨3,.data⟩,by simp,rfl,rfl⟩,⟨_,rfl,rfl,⟨_,rfl⟩,rfl,⟨⟨0,.data⟩,by simp,rfl,rfl⟩,⟨4,.data⟩,by simp,rfl,rfl⟩,⟨_,rfl,rfl,rfl,rfl⟩,⟨_,rfl,rfl,rfl,rfl,⟨⟨6,.data⟩,by simp,rfl,rfl⟩,⟨5,.data⟩,by simp,rfl,rfl⟩⟩
  ·decide
  ·decide
  ·intro j hj
   rcases glt6 hj with rfl|rfl|rfl|rfl|rfl|rfl <;> exact Nat.le_of_ble_eq_true rfl
  ·exact Nat.le_of_ble_eq_true rfl
  ·intro V hb
   exact HkW.out V
  ·intro V X Y hb hX hY
   exact HkT.out V X Y hX hY
  ·intro V X Y hb hX hY
   exact HkL.out V X Y hX hY
  ·intro u V g sr aor nr cpr er hb hg hn
   have HR:Hid (NbD V g sr aor nr cpr er Tr∧Bw u6 V∧u6.heap.size≤g):=⟨hn,hb,hg⟩
   clear hn hb hg
   simp only[putL,show List.range 6 = [0,1,2,3,4,5] from rfl,List.map_cons,List.map_nil,List.cons_append,List.nil_append,List.foldl_cons,List.foldl_nil,Nat.reduceLT,Nat.reduceMod,Nat.reduceDiv,Nat.reduceMul,Nat.reduceAdd,Nat.reduceEqDiff,reduceIte,Nat.one_ne_zero,Act.put,List.setIfInBounds_toArray,List.set_cons_zero,List.set_cons_succ]
   go_wp2_with fail
   go_meet
   exact⟨_,_,_,_,_,_,rfl,HR⟩
 case rest =>
  obtain⟨v1,hv1⟩:∃ v2:World,v2=wc:=⟨_,rfl⟩
  subst hv1
  obtain⟨gr,sr,aor,nr,cpr,er,rfl,HR⟩:=hcut
  have HG:Hid (NbD v1 gr sr aor nr cpr er Tr∧v1.heap[w.heap.size+1]?=some (.cells #[.bool false,.slice none 0 0,.int .i64 0,.bool false,.slice none 0 0,.int .i64 0] 47 (0,0))∧Bw w v1∧w.heap.size+1<gr):=⟨HR.out.1,(HR.out.2.1.block _ (Array.getElem?_eq_some_iff.1 HF.out.2.2.1).1).trans HF.out.2.2.1,HF.out.2.2.2.1.trans (HR.out.2.1.mono HF.out.2.2.2.1.size),by have h1:=HF.out.1.lt;have h2:=HF.out.2.2.2.2;have h3:=HR.out.2.2;omega⟩
  clear HR HF HkW HkT HkL
  have kk:=Hk1s.out v1
  clear Hk1s
  go_wp2_with fail
  refine kk.mono ?_
  rintro r u7 ⟨sd,aod,nd,cpd,ed,rfl,hd7,hb7⟩
  clear kk
  have B7:Hid (DN u7 (.agg #[.bool sd,.slice aod nd cpd,.int .i64 ed]) (ss 0)∧Bw v1 u7):=⟨hd7,hb7⟩
  clear hd7 hb7
  have kk:=Hk1t.out u7
  clear Hk1t
  go_wp2_with fail
  refine kk.mono ?_
  rintro r u8 ⟨sf,aof,nf,cpf,ef,rfl,hd8,hb8⟩
  clear kk
  obtain⟨V8,hV8⟩:∃ V2,V2=(u8.alloc (.cells #[.bool false,.slice none 0 0,.int .i64 0] 45)).alloc (.cells #[.bool false,.slice none 0 0,.int .i64 0] 45):=⟨_,rfl⟩
  have hbV8:Bw u8 V8:=by rw[hV8];exact((Below.refl _ _).alloc (Nat.le_refl _) _).alloc (by simp) _
  obtain⟨hz1,hz2,-⟩:=two29 _ _ hV8
  obtain⟨⟨y0,y1,y2⟩,y3,y4,y5⟩:=box_cells29 hz1
  obtain⟨⟨z0,z1,z2⟩,z3,z4,z5⟩:=box_cells29 hz2
  have HZ:Hid (DN u7 (.agg #[.bool sd,.slice aod nd cpd,.int .i64 ed]) (ss 0)∧DN u8 (.agg #[.bool sf,.slice aof nf cpf,.int .i64 ef]) (ts 0)∧Bw v1 u7∧Bw u7 u8∧Bw u8 V8∧V8.heap[u8.heap.size]?=some (.cells #[.bool false,.slice none 0 0,.int .i64 0] 45 (0,0))∧V8.heap[u8.heap.size+1]?=some (.cells #[.bool false,.slice none 0 0,.int .i64 0] 45 (0,0))):=⟨B7.out.1,hd8,B7.out.2,hb8,hbV8,hz1,hz2⟩
  clear hd8 hb8 hbV8 hz1 hz2 B7
  go_upto_region 7 with (rw[←hV8];clear hV8)
  obtain⟨W9,hW9⟩:∃ V2,V2=(((((V8.setCell ⟨u8.heap.size,0,none⟩ (.bool sd)).setCell ⟨u8.heap.size,1,none⟩ (.slice aod nd cpd)).setCell ⟨u8.heap.size,2,none⟩ (.int .i64 ed)).setCell ⟨u8.heap.size+1,0,none⟩ (.bool sf)).setCell ⟨u8.heap.size+1,1,none⟩ (.slice aof nf cpf)).setCell ⟨u8.heap.size+1,2,none⟩ (.int .i64 ef):=⟨_,rfl⟩
  rw[←hW9]
  obtain⟨gs,hgs⟩:∃ g,g=u8.heap.size:=⟨_,rfl⟩
  obtain⟨gt,hgt⟩:∃ g,g=u8.heap.size+1:=⟨_,rfl⟩
  have HI0:Hid ((NbD W9 gr sr aor nr cpr er Tr∧NbD W9 gs sd aod nd cpd ed (ss 0)∧NbD W9 gt sf aof nf cpf ef (ts 0)∧W9.heap[w.heap.size+1]?=some (.cells #[.bool false,.slice none 0 0,.int .i64 0,.bool false,.slice none 0 0,.int .i64 0] 47 (0,0))∧Bw w W9)∧w.heap.size+1<gr∧gr<gs∧gs<gt):=(by
   obtain⟨q1,q2,q3,q4,q5,q6,q7⟩:=HZ.out
   have hb2:Bw v1 u8:=q3.trans (q4.mono q3.size)
   have hb18:Bw v1 V8:=hb2.trans (q5.mono hb2.size)
   have hsz:=hb2.size
   have hr:=HG.out.1.lt
   have hr2:=HG.out.2.2.2
   have hz2':(((V8.setCell ⟨u8.heap.size,0,none⟩ (.bool sd)).setCell ⟨u8.heap.size,1,none⟩ (.slice aod nd cpd)).setCell ⟨u8.heap.size,2,none⟩ (.int .i64 ed)).heap[u8.heap.size+1]?=some (.cells #[.bool false,.slice none 0 0,.int .i64 0] 45 (0,0)):=heap_other3 q7 (by omega) _ _ _
   have n1:NbD (((V8.setCell ⟨u8.heap.size,0,none⟩ (.bool sd)).setCell ⟨u8.heap.size,1,none⟩ (.slice aod nd cpd)).setCell ⟨u8.heap.size,2,none⟩ (.int .i64 ed)) u8.heap.size sd aod nd cpd ed (ss 0):=⟨store3_29 _ _ _ q6,((q1.later q4).later q5).store3 q6 _ _ _⟩
   have n2:NbD ((((((V8.setCell ⟨u8.heap.size,0,none⟩ (.bool sd)).setCell ⟨u8.heap.size,1,none⟩ (.slice aod nd cpd)).setCell ⟨u8.heap.size,2,none⟩ (.int .i64 ed)).setCell ⟨u8.heap.size+1,0,none⟩ (.bool sf)).setCell ⟨u8.heap.size+1,1,none⟩ (.slice aof nf cpf)).setCell ⟨u8.heap.size+1,2,none⟩ (.int .i64 ef)) (u8.heap.size+1) sf aof nf cpf ef (ts 0):=⟨store3_29 _ _ _ hz2',((q2.later q5).store3 q6 _ _ _).store3 hz2' _ _ _⟩
   rw[hW9,hgs,hgt]
   refine⟨⟨((HG.out.1.later hb18).other q6 (by omega) _ _ _).other hz2' (by omega) _ _ _,n1.other hz2' (by omega) _ _ _,n2,heap_other3 (heap_other3 ((hb18.block _ (Array.getElem?_eq_some_iff.1 HG.out.2.1).1).trans HG.out.2.1) (by omega) _ _ _) (by omega) _ _ _,below_store3 (below_store3 (HG.out.2.2.1.trans (hb18.mono HG.out.2.2.1.size)) (by omega) _ _ _) (by omega) _ _ _⟩,hr2,by omega,by omega⟩:(NbD W9 gr sr aor nr cpr er Tr∧NbD W9 gs sd aod nd cpd ed (ss 0)∧NbD W9 gt sf aof nf cpf ef (ts 0)∧W9.heap[w.heap.size+1]?=some (.cells #[.bool false,.slice none 0 0,.int .i64 0,.bool false,.slice none 0 0,.int .i64 0] 47 (0,0))∧Bw w W9)∧w.heap.size+1<gr∧gr<gs∧gs<gt)
  rw[←hgt,←hgs]
  clear hW9 hgs hgt HZ HG y0 y1 y2 y3 y4 y5 z0 z1 z2 z3 z4 z5
  have HO:Hid (w.heap.size+1<gr∧gr<gs∧gs<gt):=HI0.out.2
  go_wp2_with fail
  go_loopw [11] (fun iv wr=>∃ (j:Nat) (sx:Bool) (aox:Option Addr) (nx cpx:Nat) (ex:Int) (sy:Bool) (aoy:Option Addr) (ny cpy:Nat) (ey:Int),iv=.int .i64 ((j:Int)+1)∧j≤J∧Hid (NbD wr gr sr aor nr cpr er Tr∧NbD wr gs sx aox nx cpx ex (ss j)∧NbD wr gt sy aoy ny cpy ey (ts j)∧wr.heap[w.heap.size+1]?=some (.cells #[.bool false,.slice none 0 0,.int .i64 0,.bool false,.slice none 0 0,.int .i64 0] 47 (0,0))∧Bw w wr)) (fun iv _=>J+2 - (intOf iv).toNat)
  case atStart=>exact⟨0,_,_,_,_,_,_,_,_,_,_,rfl,by omega,HI0.out.1⟩
  case round =>
   obtain⟨j,sx,aox,nx,cpx,ex,sy,aoy,ny,cpy,ey,rfl,hj,HI⟩:=hrel
   clear HI0
   obtain⟨⟨y0,y1,y2⟩,-⟩:=box_cells29 HI.out.2.2.1.1
   have kk:=HkLe.out j wr _ hj HI.out.2.2.1.2
   clear HkLe
   go_wp2_with fail
   refine kk.mono ?_
   rintro r v2 ⟨rfl,hb2⟩
   have HI2:Hid (NbD v2 gr sr aor nr cpr er Tr∧NbD v2 gs sx aox nx cpx ex (ss j)∧NbD v2 gt sy aoy ny cpy ey (ts j)∧v2.heap[w.heap.size+1]?=some (.cells #[.bool false,.slice none 0 0,.int .i64 0,.bool false,.slice none 0 0,.int .i64 0] 47 (0,0))∧Bw w v2):=⟨HI.out.1.later hb2,HI.out.2.1.later hb2,HI.out.2.2.1.later hb2,(hb2.block _ (Array.getElem?_eq_some_iff.1 HI.out.2.2.2.1).1).trans HI.out.2.2.2.1,HI.out.2.2.2.2.trans (hb2.mono HI.out.2.2.2.2.size)⟩
   clear kk hb2 HI y0 y1 y2
   by_cases hjJ:j=J
   ·have hd:decide (j=J)=true:=decide_eq_true hjJ
    subst hjJ
    clear HkM HkI HkO HkP
    obtain⟨⟨y0,y1,y2⟩,-⟩:=box_cells29 HI2.out.2.1.1
    have kk:=HkA.out v2 _ HI2.out.2.1.2
    clear HkA
    go_wp2_with fail
    refine kk.mono ?_
    rintro r v3 ⟨U,rfl,⟨s1,ao1,n1,cp1,e1,s2,ao2,n2,cp2,e2,rfl,hd1,hd2⟩,hb3⟩
    clear kk y0 y1 y2 hd
    obtain⟨V4,hV4⟩:∃ V,V=v3.alloc (.cells #[.bool false,.slice none 0 0,.int .i64 0,.bool false,.slice none 0 0,.int .i64 0] 47):=⟨_,rfl⟩
    have hbV4:Bw v3 V4:=by rw[hV4];exact(Below.refl _ _).alloc (Nat.le_refl _) _
    have hzV4:V4.heap[v3.heap.size]?=some (.cells #[.bool false,.slice none 0 0,.int .i64 0,.bool false,.slice none 0 0,.int .i64 0] 47 (0,0)):=by rw[hV4];exact heap_alloc_new _ _
    obtain⟨⟨y0,y1,y2,y3,y4,y5⟩,f0,f1,f2,f3,f4,f5⟩:=box_cells6 hzV4
    have HZ:Hid (DN v3 (.agg #[.bool s1,.slice ao1 n1 cp1,.int .i64 e1]) UL∧DN v3 (.agg #[.bool s2,.slice ao2 n2 cp2,.int .i64 e2]) UH∧Bw v2 v3∧Bw v3 V4∧V4.heap[v3.heap.size]?=some (.cells #[.bool false,.slice none 0 0,.int .i64 0,.bool false,.slice none 0 0,.int .i64 0] 47 (0,0))):=⟨hd1,hd2,hb3,hbV4,hzV4⟩
    clear hd1 hd2 hb3 hbV4 hzV4
    go_upto_region 13 with (rw[←hV4];clear hV4)
    obtain⟨gb,hgb⟩:∃ g,g=v3.heap.size:=⟨_,rfl⟩
    obtain⟨W5,hW5⟩:∃ V,V=(((((V4.setCell ⟨v3.heap.size,0,none⟩ (.bool s1)).setCell ⟨v3.heap.size,1,none⟩ (.slice ao1 n1 cp1)).setCell ⟨v3.heap.size,2,none⟩ (.int .i64 e1)).setCell ⟨v3.heap.size,3,none⟩ (.bool s2)).setCell ⟨v3.heap.size,4,none⟩ (.slice ao2 n2 cp2)).setCell ⟨v3.heap.size,5,none⟩ (.int .i64 e2):=⟨_,rfl⟩
    have HF:Hid (W5.heap[gb]?=some (.cells #[.bool s1,.slice ao1 n1 cp1,.int .i64 e1,.bool s2,.slice ao2 n2 cp2,.int .i64 e2] 47 (0,0))∧DN W5 (.agg #[.bool s1,.slice ao1 n1 cp1,.int .i64 e1]) UL∧DN W5 (.agg #[.bool s2,.slice ao2 n2 cp2,.int .i64 e2]) UH∧W5.heap[w.heap.size+1]?=some (.cells #[.bool false,.slice none 0 0,.int .i64 0,.bool false,.slice none 0 0,.int .i64 0] 47 (0,0))∧Bw w W5):=(by
     obtain⟨q1,q2,q3,q4,q5⟩:=HZ.out
     have hb:Bw v2 W5:=by rw[hW5];exact below_store6 (q3.trans (q4.mono q3.size)) q3.size _ _ _ _ _ _
     refine⟨?_,?_,?_,(hb.block _ (Array.getElem?_eq_some_iff.1 HI2.out.2.2.2.1).1).trans HI2.out.2.2.2.1,HI2.out.2.2.2.2.trans (hb.mono HI2.out.2.2.2.2.size)⟩
     ·rw[hW5,hgb];exact store6 _ _ _ _ _ _ q5
     ·rw[hW5];exact(q1.later q4).store6 q5 _ _ _ _ _ _
     ·rw[hW5];exact(q2.later q4).store6 q5 _ _ _ _ _ _:W5.heap[gb]?=some (.cells #[.bool s1,.slice ao1 n1 cp1,.int .i64 e1,.bool s2,.slice ao2 n2 cp2,.int .i64 e2] 47 (0,0))∧DN W5 (.agg #[.bool s1,.slice ao1 n1 cp1,.int .i64 e1]) UL∧DN W5 (.agg #[.bool s2,.slice ao2 n2 cp2,.int .i64 e2]) UH∧W5.heap[w.heap.size+1]?=some (.cells #[.bool false,.slice none 0 0,.int .i64 0,.bool false,.slice none 0 0,.int .i64 0] 47 (0,0))∧Bw w W5)
    rw[←hW5,←hgb]
    clear hW5 hgb HZ HI2 y0 y1 y2 y3 y4 y5 f0 f1 f2 f3 f4 f5
    go_cut [4] from 52 to 60 (fun p' wx=>∃ cs,p'=.pointer (some ⟨w.heap.size+1,0,none⟩)∧Hid (wx.heap[w.heap.size+1]?=some (.cells cs 47 (0,0))∧DB wx (.agg cs) TL TH∧Bw w wx))
    case first =>
     refine sc_region k 52 12 7 4 gb (w.heap.size+1) s1 ao1 n1 cp1 e1 s2 ao2 n2 cp2 e2 UL UH TL TH W5 _ rfl (gord_of (by kernel_rfl)) ?_ rfl rfl rfl ?_ ?_ HF.out.1 HF.out.2.1 HF.out.2.2.1 HF.out.2.2.2.1 ?_ ?_ ?_
     ·refine⟨⟨_,rfl,rfl,rfl,rfl⟩,⟨_,rfl,rfl,rfl,rfl,⟨0,.data⟩,by simp,rfl,rfl⟩,⟨_,rfl,rfl,rfl,rfl⟩,⟨_,rfl,rfl,⟨_,rfl⟩,rfl,⟨⟨1,.data⟩,by simp,rfl,rfl⟩,⟨2,.data⟩,by simp,rfl,rfl⟩,⟨_,rfl,rfl,rfl,rfl⟩,⟨_,rfl,rfl,rfl,rfl,⟨4,.data⟩,by simp,rfl,rfl⟩,⟨_,rfl,rfl,rfl,rfl⟩,⟨_,rfl,rfl,⟨_,rfl⟩,rfl,⟨⟨5,.data⟩,by simp,rfl,rfl⟩,⟨6,.data⟩,by simp,rfl,rfl⟩,⟨_,rfl,rfl,rfl,rfl,⟨⟨3,.data⟩,by simp,rfl,rfl⟩,⟨7,.data⟩,by simp,rfl,rfl⟩,⟨_,rfl,rfl,rfl,rfl,?_⟩⟩
      intro i hi
      rcases lt9D hi with rfl|rfl|rfl|rfl|rfl|rfl|rfl|rfl|rfl
      ·exact⟨⟨0,.phase⟩,by simp,rfl,rfl⟩
      ·exact⟨⟨1,.phase⟩,by simp,rfl,rfl⟩
      ·exact⟨⟨2,.phase⟩,by simp,rfl,rfl⟩
      ·exact⟨⟨3,.phase⟩,by simp,rfl,rfl⟩
      ·exact⟨⟨4,.phase⟩,by simp,rfl,rfl⟩
      ·exact⟨⟨5,.phase⟩,by simp,rfl,rfl⟩
      ·exact⟨⟨6,.phase⟩,by simp,rfl,rfl⟩
      ·exact⟨⟨7,.phase⟩,by simp,rfl,rfl⟩
      ·exact⟨⟨8,.phase⟩,by simp,rfl,rfl⟩
     ·decide
     ·intro i hi
      rcases lt9D hi with rfl|rfl|rfl|rfl|rfl|rfl|rfl|rfl|rfl <;> exact Nat.le_of_ble_eq_true rfl
     ·intro V X hb hX
      exact HkSL.out V X hX
     ·intro V X hb hX
      exact HkSH.out V X hX
     ·intro u V cs hb hdb
      have hCV:V.heap[w.heap.size+1]?=some (.cells #[.bool false,.slice none 0 0,.int .i64 0,.bool false,.slice none 0 0,.int .i64 0] 47 (0,0)):=(hb.block _ (Array.getElem?_eq_some_iff.1 HF.out.2.2.2.1).1).trans HF.out.2.2.2.1
      obtain⟨s1',ao1',n1',cp1',e1',s2',ao2',n2',cp2',e2',hcs,q1,q2⟩:=hdb
      obtain⟨wx,hwx⟩:∃ wx,wx=V.setRow (w.heap.size+1) cs:=⟨_,rfl⟩
      have HR:Hid (wx.heap[w.heap.size+1]?=some (.cells cs 47 (0,0))∧DB wx (.agg cs) TL TH∧Bw w wx):=(by
       rw[hwx]
       exact⟨setRow_heap _ _ _ cs _ _ hCV,⟨_,_,_,_,_,_,_,_,_,_,hcs,q1.row6 hCV _,q2.row6 hCV _⟩,below_row (HF.out.2.2.2.2.trans (hb.mono HF.out.2.2.2.2.size)) (by omega) _⟩:wx.heap[w.heap.size+1]?=some (.cells cs 47 (0,0))∧DB wx (.agg cs) TL TH∧Bw w wx)
      rw[←hwx]
      clear hwx hcs q1 q2 hCV hb
      simp only[putL,show List.range 9 = [0,1,2,3,4,5,6,7,8] from rfl,List.map_cons,List.map_nil,List.cons_append,List.nil_append,List.foldl_cons,List.foldl_nil,Nat.reduceLT,Nat.reduceMod,Nat.reduceDiv,Nat.reduceMul,Nat.reduceAdd,Nat.reduceEqDiff,reduceIte,Nat.one_ne_zero,Act.put,List.setIfInBounds_toArray,List.set_cons_zero,List.set_cons_succ]
      go_wp2_with fail
      go_meet
      exact⟨_,rfl,HR⟩
    case rest =>
     obtain⟨v9,hv9⟩:∃ v3:World,v3=wc:=⟨_,rfl⟩
     subst hv9
     obtain⟨cs,rfl,HR⟩:=hcut
     have hsz:cs.size=6:=by
      obtain⟨_,_,_,_,_,_,_,_,_,_,hcs,-⟩:=HR.out.2.1
      rw[Value.agg.inj hcs];rfl
     go_wp2_with fail
     obtain⟨d,hd1,hd2⟩:=undB
     refine bodyPost_ret (results_cell_row rfl _ _ (w.heap.size+1) 47 cs (0,0) d rfl HR.out.1 hd1 (by cases d <;> exact hd2) (by rw[hsz];kernel_rfl)) rfl ?_
     exact⟨_,rfl,HR.out.2.1,HR.out.2.2⟩
   ·have hd:decide (j=J)=false:=decide_eq_false hjJ
    have HLT:Hid (j<J):=(by omega:j<J)
    clear HkA HkSL HkSH
    obtain⟨⟨y0,y1,y2⟩,-⟩:=box_cells29 HI2.out.2.2.1.1
    obtain⟨⟨z0,z1,z2⟩,-⟩:=box_cells29 HI2.out.1.1
    have kk:=HkM.out j v2 _ _ HLT.out HI2.out.2.2.1.2 HI2.out.1.2
    clear HkM
    go_wp2_with fail
    refine kk.mono ?_
    rintro r v3 ⟨s4,ao4,n4,cp4,e4,rfl,hd3,hb3⟩
    have HI3:Hid ((NbD v3 gr sr aor nr cpr er Tr∧NbD v3 gs sx aox nx cpx ex (ss j)∧NbD v3 gt sy aoy ny cpy ey (ts j)∧v3.heap[w.heap.size+1]?=some (.cells #[.bool false,.slice none 0 0,.int .i64 0,.bool false,.slice none 0 0,.int .i64 0] 47 (0,0))∧Bw w v3)∧DN v3 (.agg #[.bool s4,.slice ao4 n4 cp4,.int .i64 e4]) (tt j)):=⟨⟨HI2.out.1.later hb3,HI2.out.2.1.later hb3,HI2.out.2.2.1.later hb3,(hb3.block _ (Array.getElem?_eq_some_iff.1 HI2.out.2.2.2.1).1).trans HI2.out.2.2.2.1,HI2.out.2.2.2.2.trans (hb3.mono HI2.out.2.2.2.2.size)⟩,hd3⟩
    clear kk hd3 hb3 HI2 y0 y1 y2 z0 z1 z2
    have kk:=HkI.out j v3 HLT.out
    clear HkI
    go_wp2_with fail
    refine kk.mono ?_
    rintro r v4 ⟨s5,ao5,n5,cp5,e5,rfl,hd4,hb4⟩
    have HI4:Hid ((NbD v4 gr sr aor nr cpr er Tr∧NbD v4 gs sx aox nx cpx ex (ss j)∧NbD v4 gt sy aoy ny cpy ey (ts j)∧v4.heap[w.heap.size+1]?=some (.cells #[.bool false,.slice none 0 0,.int .i64 0,.bool false,.slice none 0 0,.int .i64 0] 47 (0,0))∧Bw w v4)∧DN v4 (.agg #[.bool s4,.slice ao4 n4 cp4,.int .i64 e4]) (tt j)∧DN v4 (.agg #[.bool s5,.slice ao5 n5 cp5,.int .i64 e5]) (Tk j)):=⟨⟨HI3.out.1.1.later hb4,HI3.out.1.2.1.later hb4,HI3.out.1.2.2.1.later hb4,(hb4.block _ (Array.getElem?_eq_some_iff.1 HI3.out.1.2.2.2.1).1).trans HI3.out.1.2.2.2.1,HI3.out.1.2.2.2.2.trans (hb4.mono HI3.out.1.2.2.2.2.size)⟩,HI3.out.2.later hb4,hd4⟩
    clear kk hd4 hb4 HI3
    have kk:=HkO.out j v4 _ _ HLT.out HI4.out.2.1 HI4.out.2.2
    clear HkO
    go_wp2_with fail
    refine kk.mono ?_
    rintro r v5 ⟨s6,ao6,n6,cp6,e6,rfl,hd5,hb5⟩
    have HI5:Hid ((NbD v5 gr sr aor nr cpr er Tr∧NbD v5 gs sx aox nx cpx ex (ss j)∧NbD v5 gt sy aoy ny cpy ey (ts j)∧v5.heap[w.heap.size+1]?=some (.cells #[.bool false,.slice none 0 0,.int .i64 0,.bool false,.slice none 0 0,.int .i64 0] 47 (0,0))∧Bw w v5)∧DN v5 (.agg #[.bool s6,.slice ao6 n6 cp6,.int .i64 e6]) (ts (j+1))):=⟨⟨HI4.out.1.1.later hb5,HI4.out.1.2.1.later hb5,HI4.out.1.2.2.1.later hb5,(hb5.block _ (Array.getElem?_eq_some_iff.1 HI4.out.1.2.2.2.1).1).trans HI4.out.1.2.2.2.1,HI4.out.1.2.2.2.2.trans (hb5.mono HI4.out.1.2.2.2.2.size)⟩,hd5⟩
    clear kk hd5 hb5 HI4
    obtain⟨⟨y0,y1,y2⟩,y3,y4,y5⟩:=box_cells29 HI5.out.1.2.2.1.1
    go_upto_region 11 with fail
    obtain⟨v6,hv6⟩:∃ V,V=((v5.setCell ⟨gt,0,none⟩ (.bool s6)).setCell ⟨gt,1,none⟩ (.slice ao6 n6 cp6)).setCell ⟨gt,2,none⟩ (.int .i64 e6):=⟨_,rfl⟩
    have HI6:Hid (NbD v6 gr sr aor nr cpr er Tr∧NbD v6 gs sx aox nx cpx ex (ss j)∧NbD v6 gt s6 ao6 n6 cp6 e6 (ts (j+1))∧v6.heap[w.heap.size+1]?=some (.cells #[.bool false,.slice none 0 0,.int .i64 0,.bool false,.slice none 0 0,.int .i64 0] 47 (0,0))∧Bw w v6):=(by
     have hg:=HO.out
     rw[hv6]
     exact⟨HI5.out.1.1.other HI5.out.1.2.2.1.1 (by omega) _ _ _,HI5.out.1.2.1.other HI5.out.1.2.2.1.1 (by omega) _ _ _,HI5.out.1.2.2.1.put HI5.out.2,heap_other3 HI5.out.1.2.2.2.1 (by omega) _ _ _,below_store3 HI5.out.1.2.2.2.2 (by omega) _ _ _⟩:NbD v6 gr sr aor nr cpr er Tr∧NbD v6 gs sx aox nx cpx ex (ss j)∧NbD v6 gt s6 ao6 n6 cp6 e6 (ts (j+1))∧v6.heap[w.heap.size+1]?=some (.cells #[.bool false,.slice none 0 0,.int .i64 0,.bool false,.slice none 0 0,.int .i64 0] 47 (0,0))∧Bw w v6)
    rw[←hv6]
    clear hv6 HI5 y0 y1 y2 y3 y4 y5
    obtain⟨⟨y0,y1,y2⟩,-⟩:=box_cells29 HI6.out.2.1.1
    obtain⟨⟨z0,z1,z2⟩,-⟩:=box_cells29 HI6.out.2.2.1.1
    have kk:=HkP.out j v6 _ _ HLT.out HI6.out.2.1.2 HI6.out.2.2.1.2
    clear HkP
    go_wp2_with fail
    refine kk.mono ?_
    rintro r v7 ⟨s7,ao7,n7,cp7,e7,rfl,hd7,hb7⟩
    have HI7:Hid ((NbD v7 gr sr aor nr cpr er Tr∧NbD v7 gs sx aox nx cpx ex (ss j)∧NbD v7 gt s6 ao6 n6 cp6 e6 (ts (j+1))∧v7.heap[w.heap.size+1]?=some (.cells #[.bool false,.slice none 0 0,.int .i64 0,.bool false,.slice none 0 0,.int .i64 0] 47 (0,0))∧Bw w v7)∧DN v7 (.agg #[.bool s7,.slice ao7 n7 cp7,.int .i64 e7]) (ss (j+1))):=⟨⟨HI6.out.1.later hb7,HI6.out.2.1.later hb7,HI6.out.2.2.1.later hb7,(hb7.block _ (Array.getElem?_eq_some_iff.1 HI6.out.2.2.2.1).1).trans HI6.out.2.2.2.1,HI6.out.2.2.2.2.trans (hb7.mono HI6.out.2.2.2.2.size)⟩,hd7⟩
    clear kk hd7 hb7 HI6 y0 y1 y2 z0 z1 z2
    obtain⟨⟨y0,y1,y2⟩,y3,y4,y5⟩:=box_cells29 HI7.out.1.2.1.1
    obtain⟨v8,hv8⟩:∃ V,V=((v7.setCell ⟨gs,0,none⟩ (.bool s7)).setCell ⟨gs,1,none⟩ (.slice ao7 n7 cp7)).setCell ⟨gs,2,none⟩ (.int .i64 e7):=⟨_,rfl⟩
    have HI8:Hid (NbD v8 gr sr aor nr cpr er Tr∧NbD v8 gs s7 ao7 n7 cp7 e7 (ss (j+1))∧NbD v8 gt s6 ao6 n6 cp6 e6 (ts (j+1))∧v8.heap[w.heap.size+1]?=some (.cells #[.bool false,.slice none 0 0,.int .i64 0,.bool false,.slice none 0 0,.int .i64 0] 47 (0,0))∧Bw w v8):=(by
     have hg:=HO.out
     rw[hv8]
     exact⟨HI7.out.1.1.other HI7.out.1.2.1.1 (by omega) _ _ _,HI7.out.1.2.1.put HI7.out.2,HI7.out.1.2.2.1.other HI7.out.1.2.1.1 (by omega) _ _ _,heap_other3 HI7.out.1.2.2.2.1 (by omega) _ _ _,below_store3 HI7.out.1.2.2.2.2 (by omega) _ _ _⟩:NbD v8 gr sr aor nr cpr er Tr∧NbD v8 gs s7 ao7 n7 cp7 e7 (ss (j+1))∧NbD v8 gt s6 ao6 n6 cp6 e6 (ts (j+1))∧v8.heap[w.heap.size+1]?=some (.cells #[.bool false,.slice none 0 0,.int .i64 0,.bool false,.slice none 0 0,.int .i64 0] 47 (0,0))∧Bw w v8)
    clear HI7
    have hw2:IntKind.i64.wrap ((j:Int)+1+1)=((j+1:Nat):Int)+1:=by rw[IntKind.wrap_i64];have:=HLT.out;omega
    go_wp2_with fail
    rw[←hv8]
    clear hv8
    exact⟨⟨j+1,_,_,_,_,_,_,_,_,_,_,rfl,by have:=HLT.out;omega,HI8⟩,by have:=HLT.out;simp[intOf];omega⟩
def eT (q R:Nat):Nat→Nat
 | 0=>2^q
 | j+1=>eT q R j*R / 2^q / (j+1)
def eS (q R:Nat):Nat→Nat
 | 0=>2^q
 | j+1=>eS q R j+eT q R (j+1)
theorem eT_mul {q R:Nat} (hR:R≤2^q) {x:Nat} (hx:x≤2^q):x*R / 2^q≤2^q:=by
 refine Nat.div_le_of_le_mul ?_
 exact Nat.mul_le_mul hx hR
theorem eT_le {q R:Nat} (hR:R≤2^q) (j:Nat):eT q R j≤2^q:=by
 induction j with
 | zero=>exact Nat.le_refl _
 | succ j ih=>exact Nat.le_trans (Nat.div_le_self _ _) (eT_mul hR ih)
theorem eS_le {q R:Nat} (hR:R≤2^q) (j:Nat):eS q R j≤(j+1)*2^q:=by
 induction j with
 | zero=>unfold eS;omega
 | succ j ih =>
  have h:=eT_le hR (j+1)
  unfold eS
  rw[Nat.add_mul (j+1) 1]
  omega
theorem dfloor23 {X:Value} {w:World} (hX:DN w X (un 23 4)):Calls Tryz.prog 35 #[X] w fun r w'=>r=.returned (.int .i64 1)∧Bw w w':=by
 obtain⟨s,ao,n,cp,e,rfl⟩:=hX.shape
 refine dfloor_1 s ao n cp e w fun W hb=>?_
 have k:=dcut (a:=23) (p:=4) (r:=0) (bA:=5) (by decide) (by omega) (by omega) (by omega) (hX.later hb)
 rw[show(23:Int) / ((2^(4 - 0):Nat):Int)=1 by decide] at k
 exact k
theorem dexpE {p l R J : Nat} {X : Value} {w : World} (hp : p ≤ 20000) (hl : ln2V (p + 48) = l) (h1 : 23 * l ≤ 16 * 2 ^ (p + 48)) (h2 : 16 * 2 ^ (p + 48) < 24 * l) (hR : 2 ^ (p + 48) - l = R) (hJ : J ≤ 1000000) (hJ1 : eT (p + 48) R J < 2) (hJ2 : ∀ j, j < J → 2 ≤ eT (p + 48) R j) (hX : DN w X (un 1 0)) :
    Calls Tryz.prog 41 #[X, .int .i64 p] w fun r w' => OutQ w (un ((eS (p + 48) R J : Nat) - (4294967296 : Nat)) (p + 47)) (un ((eS (p + 48) R J : Nat) + (4294967296 : Nat)) (p + 47)) r w' := by
  obtain ⟨q, hq⟩ : ∃ q, q = p + 48 := ⟨_, rfl⟩
  rw [← hq] at hl h1 h2 hR hJ1 hJ2 ⊢
  have hP := Nat.two_pow_pos q
  have hlq : l ≤ 2 ^ q := by omega
  have hl0 : 0 < l := by omega
  have hRq : R ≤ 2 ^ q := by omega
  have b1 : 2 ^ q < 2 ^ (q + 1) := by rw [Nat.pow_succ]; omega
  have bT : ∀ x : Nat, x ≤ 2 ^ q → ((x : Nat) : Int).natAbs < 2 ^ (q + 1) := fun x hx => by rw [Int.natAbs_natCast]; omega
  have bS : ∀ j, j ≤ J → ((eS q R j : Nat) : Int).natAbs < 2 ^ (q + 21) := fun j hj => by
    rw [Int.natAbs_natCast, Nat.pow_add]
    refine Nat.lt_of_le_of_lt (eS_le hRq j) ?_
    rw [Nat.mul_comm]
    exact Nat.mul_lt_mul_of_pos_left (by have : (2 : Nat) ^ 21 = 2097152 := by decide
                                         omega) hP
  obtain ⟨s, ao, n, cp, e, rfl⟩ := hX.shape
  have hc : un (1 : Int) 0 = un ((2 ^ q : Nat) : Int) q := by
    have h := un_shift 1 0 q
    rw [Nat.zero_add, Int.one_mul] at h
    exact h
  have h23 : ((2 ^ q : Nat) : Int) * ((2 ^ (4 + q) : Nat) : Int) / ((l : Int) * ((2 ^ q : Nat) : Int)) = 23 := by
    rw [Int.mul_comm, Int.mul_ediv_mul_of_pos_left _ _ (by omega), ← Int.natCast_ediv, show (23 : Int) = ((23 : Nat) : Int) from rfl, Int.natCast_inj, Nat.pow_add]
    refine Nat.div_eq_of_lt_le ?_ ?_
    · have : (2 : Nat) ^ 4 = 16 := by decide
      rw [this]; omega
    · have : (2 : Nat) ^ 4 = 16 := by decide
      rw [this]; omega
  refine dexp_1 s ao n cp e (p : Int) (q : Int) 1 J (un 1 0) (un (l : Int) q) (un ((2 ^ q : Nat) : Int) q) (un 23 4) (un ((1 : Nat) : Int) 0) (un (l : Int) q) (un (R : Int) q) (un ((eS q R J : Nat) - (4294967296 : Nat)) q) (un ((eS q R J : Nat) + (4294967296 : Nat)) q) _ _ (fun j => un ((eS q R j : Nat) : Int) q) (fun j => un ((eT q R j : Nat) : Int) q) (fun j => un ((eT q R j * R / 2 ^ q : Nat) : Int) q) (fun j => un ((j + 1 : Nat) : Int) 0) w hJ (by rw [IntKind.wrap_i64]; omega) hX
    (fun W => by rw [← hl]; exact dln2 (by omega)) (fun W hb => ?_) (fun W X Y hX hY => ?_) (fun W X hX => dfloor23 hX) (fun W => dwhole (k := 1) (by omega)) (fun W X Y hX hY => ?_) (fun W X Y hX hY => ?_) (fun W => ?_) (fun W => ?_) (fun j W X hj hX => ?_) (fun j W X Y hj hX hY => ?_) (fun j W hj => ?_) (fun j W X Y hj hX hY => ?_) (fun j W X Y hj hX hY => ?_) (fun W X hX => ?_) (fun W X hX => ?_) (fun W X hX => ?_)
  · have hx := hX.later hb
    rw [hc] at hx
    have k := dcut (r := q) (bT _ (Nat.le_refl _)) (by omega) (by omega) (Nat.le_refl _) hx
    rw [Nat.sub_self, Nat.pow_zero, show ((1 : Nat) : Int) = 1 from rfl, Int.ediv_one] at k
    exact k
  · have k := dover (r := 4) (by omega) (bT _ (Nat.le_refl _)) (bT l hlq) (by omega) (by omega) (by omega) (by omega) (by omega) hX hY
    rw [h23] at k
    exact k
  · have k := dmulk (k := 1) (by omega) (bT l hlq) (by omega) (by omega) hX hY
    rw [show ((1 : Nat) : Int) * (l : Int) = l by simp] at k
    exact k
  · have k := dlessZ (bT _ (Nat.le_refl _)) (bT l hlq) (by omega) (by omega) hX hY
    rw [show ((2 ^ q : Nat) : Int) - (l : Int) = (R : Int) by omega] at k
    exact k
  · show Calls _ _ _ _ fun r w' => OutD W (un ((2 ^ q : Nat) : Int) q) r w'
    rw [← hc]
    exact dwhole (k := 1) (by omega)
  · show Calls _ _ _ _ fun r w' => OutD W (un ((2 ^ q : Nat) : Int) q) r w'
    rw [← hc]
    exact dwhole (k := 1) (by omega)
  · refine (dleast (bT _ (eT_le hRq j)) (by omega) (by omega) hX).mono fun r w' ⟨e, hb⟩ => ⟨?_, hb⟩
    rw [e, Int.natAbs_natCast]
    congr 2
    by_cases h : j = J
    · rw [decide_eq_true h, h, decide_eq_true hJ1]
    · rw [decide_eq_false h, decide_eq_false (by have := hJ2 j (by omega); omega)]
  · have k := dtimes9 (bT _ (eT_le hRq j)) (bT R hRq) (by omega) (by omega) hX hY
    rw [show ((eT q R j : Nat) : Int) * (R : Int) / ((2 ^ q : Nat) : Int) = ((eT q R j * R / 2 ^ q : Nat) : Int) by simp] at k
    exact k
  · have k := dwhole (k := j + 1) (W := W) (by omega)
    rw [show ((j + 1 : Nat) : Int) = (j : Int) + 1 by omega] at k
    show Calls _ _ _ _ fun r w' => OutD W (un ((j + 1 : Nat) : Int) 0) r w'
    rw [show ((j + 1 : Nat) : Int) = (j : Int) + 1 by omega]
    exact k
  · have h32 : j + 1 < 2 ^ 32 := by
      have : (2 : Nat) ^ 32 = 4294967296 := by decide
      omega
    have k := dover1 (k := j + 1) (bB := 32) (by omega) (bT _ (eT_mul hRq (eT_le hRq j))) h32 (by omega) (by omega) (by omega) hX hY
    rw [← Int.natCast_ediv] at k
    exact k
  · have k := dplusZ (k := q + 21) (bS j (by omega)) (Nat.lt_of_lt_of_le (bT _ (eT_le hRq (j + 1))) (Nat.pow_le_pow_right (by omega) (by omega))) (by omega) (by omega) hX hY
    rw [← Int.natCast_add] at k
    exact k
  · exact daround (u := 4294967296) (bS J (Nat.le_refl _)) (by omega) (by omega) (by decide) (by omega) hX
  · exact dscaled (b := q + 22) (q := p + 47) (by rw [Nat.pow_succ 2 (q + 21)]; have := bS J (Nat.le_refl _); have h3 : (4294967296 : Nat) < 2 ^ (q + 21) := Nat.lt_of_lt_of_le (by decide : 4294967296 < 2 ^ 33) (Nat.pow_le_pow_right (by omega) (by omega)); omega) (by omega) (by omega) (by omega) (by omega) hX
  · exact dscaled (b := q + 22) (q := p + 47) (by rw [Nat.pow_succ 2 (q + 21)]; have := bS J (Nat.le_refl _); have h3 : (4294967296 : Nat) < 2 ^ (q + 21) := Nat.lt_of_lt_of_le (by decide : 4294967296 < 2 ^ 33) (Nat.pow_le_pow_right (by omega) (by omega)); omega) (by omega) (by omega) (by omega) (by omega) hX
theorem dencE {p l R J:Nat} {X Y:Value} {tx ty:Bool×Nat×Int} {w:World} (hp:p≤20000) (hl:ln2V (p+48)=l) (h1:23*l≤16*2^(p+48)) (h2:16*2^(p+48)<24*l) (hR:2^(p+48) - l=R) (hJ:J≤1000000) (hJ1:eT (p+48) R J<2) (hJ2:∀ j,j<J→2≤eT (p+48) R j) (hX:DN w X tx) (hY:DN w Y ty) :
  Calls Tryz.prog 17 #[.int .i64 4,X,Y,.int .i64 p] w fun r w'=>OutQ w (un ((eS (p+48) R J:Nat) - (4294967296:Nat)) (p+47)) (un ((eS (p+48) R J:Nat)+(4294967296:Nat)) (p+47)) r w':=by
 obtain⟨s,ao,n,cp,e,rfl⟩:=hX.shape
 obtain⟨s2,ao2,n2,cp2,e2,rfl⟩:=hY.shape
 exact denc_e s ao n cp e s2 ao2 n2 cp2 e2 (p:Int) ((p+48:Nat):Int) (un ((1:Nat):Int) 0) _ _ w (by rw[IntKind.wrap_i64];omega)
  (fun W _=>dwhole (k:=1) (by omega)) (fun W X _ hX=>dexpE hp hl h1 h2 hR hJ hJ1 hJ2 hX)
end Go.Proofs.YtapooodfgcjoaaaGreat
namespace Go.Proofs.YtapooodfgcjoaaaGreat
open Go Go.RowKit Go.Fl64
def NC3 (cs:Array Value):Prop:=∃ (s1:Bool) (ao1:Option Addr) (n1 cp1:Nat) (e1:Int),cs = #[.bool s1,.slice ao1 n1 cp1,.int .i64 e1]
theorem DN.row3 {W:World} {A:Value} {t:Bool×Nat×Int} {g:Nat} {T:TypeId} {cs:Array Value} (h:DN W A t) (hE:W.heap[g]?=some (.cells cs T (0,0))) (hC:NC3 cs) (cs':Array Value):DN (W.setRow g cs') A t:=by
 obtain⟨ao,cap,rfl,h1⟩:=h
 obtain⟨bb,o,h4,h5⟩:=h1.at_
 obtain⟨_,_,_,_,_,rfl⟩:=hC
 refine⟨ao,cap,rfl,h1.nil,⟨bb,o,h4,fun i hi=>?_⟩,h1.le,h1.small⟩
 have hc:=h5 i hi
 have hne:bb≠g:=by
  rintro rfl
  simp only[World.cell?,hE] at hc
  rcases(show o+i=0∨o+i=1∨o+i=2∨3≤o+i by omega)with e|e|e|e
  ·rw[e] at hc;simp at hc
  ·rw[e] at hc;simp at hc
  ·rw[e] at hc;simp at hc
  ·rw[Array.getElem?_eq_none (by simpa using e)] at hc;cases hc
 have hs:=setRow_other W g bb cs' hne
 unfold World.cell? at hc ⊢
 rw[hs]
 exact hc
def isD (T:Bool×Nat×Int):World→Value→Prop:=fun w u=>DN w u T
theorem isD_stays (T:Bool×Nat×Int):Stays (isD T):=fun _ _ _ hb h=>DN.later h hb
theorem isD_rows3 (t:Bool×Nat×Int):∀ w u g cs cs',w.heap[g]?=some (.cells cs 45 (0,0))→NC3 cs→isD t w u→isD t (w.setRow g cs') u:=fun w u g cs cs' h hC h2=>DN.row3 h2 h hC _
theorem isD_rows8 (t:Bool×Nat×Int):∀ w u g cs',w.heap[g]?=some (.cells #[.bool false,.slice none 0 0,.int .i64 0] 45 (0,0))→isD t w u→isD t (w.setRow g cs') u:=fun w u g cs' hg h2=>DN.row3 h2 hg ⟨_,_,_,_,_,rfl⟩ cs'
theorem rowsF (T:TypeId):∀ L:List (World→Value→Prop),RowsAll T (fun _=>False) L
 | []=>trivial
 | _ :: r=>⟨fun _ _ _ _ _ _ h=>h.elim,rowsF T r⟩
theorem r_region {ops:Array Oper} {Q:Exit→Act→World→Prop} {id:Nat} (PVL SL:List Nat) (D:List (List Nat))
  (W0:World) (a0:Act) (L:List (World→Value→Prop)) (hchk:qchk ops PVL [] SL D [] []=true)
  (hV1:StaysAll L) (hsl:∀ s ∈ SL,s<a0.tmps.size)
  (hA:∀ j,j<PVL.length→∀ o,ops[PVL.getD j 0]?=some o→∀ (a:Act) (w:World),Bw W0 w→(∀ s:Nat,SL.contains s=false→a.tmps[s]?=a0.tmps[s]?) →
   (∀ j' ∈ dL D j,∃ u,a.tmps[SL.getD j' 0]?=some u∧vL L j' w u) →
   (o.guard=none∧o.wp Tryz.prog a w (fun a' w'=>∃ u,a'=a.put o.dst u∧vL L j w' u∧Bw w w') Q)∨wpOp Tryz.prog ops Q (PVL.getD j 0) (fun a' w'=>∃ u,a'=a.put o.dst u∧vL L j w' u∧Bw w w') a w)
  (hQ:∀ (u:Nat→Value) (w:World),Bw W0 w→(∀ j,j<PVL.length→vL L j w (u j))→Q .normal (putL a0 ((List.range PVL.length).map (fun j=>(SL.getD j 0,u j)))) w) :
  (Code.region id ops true).wp Tryz.prog Q a0 W0 :=
 q_region follows_mixed PVL [] SL D [] [] (fun _=>0) (fun _=>0) W0.heap.size 45 (fun _=>False) 3 W0 a0 L hchk hV1 (rowsF _ L) hsl
  (fun k hk=>absurd hk (Nat.not_lt_zero _)) (fun j hj o ho a w hk ho1 hd _=>hA j hj o ho a w hk.below ho1 hd) Tryz.info45
  (fun k hk=>absurd hk (Nat.not_lt_zero _)) (fun k hk=>absurd hk (Nat.not_lt_zero _)) (fun k hk=>absurd hk (Nat.not_lt_zero _)) (fun k k' hk=>absurd hk (Nat.not_lt_zero _)) (Nat.le_refl _)
  (fun u w hk hu _=>hQ u w hk.below hu)
theorem run_ldD (g o:Nat) (s:Bool) (ao:Option Addr) (n cp:Nat) (e:Int) (w:World) (h0:w.cell? ⟨g,o,none⟩=some (.bool s)) (h1:w.cell? ⟨g,o+1,none⟩=some (.slice ao n cp)) (h2:w.cell? ⟨g,o+2,none⟩=some (.int .i64 e)):(Instr.loadAt 45 (.pointer (some ⟨g,o,none⟩))).run Tryz.prog w=.ok (.agg #[.bool s,.slice ao n cp,.int .i64 e]) w :=
 run_loadAt_mid w g o 45 [.bool s,.slice ao n cp,.int .i64 e] _ (fun j v hv=>by
  match j with
  | 0=>simp at hv;subst hv;exact h0
  | 1=>simp at hv;subst hv;exact h1
  | 2=>simp at hv;subst hv;exact h2
  | k+3=>simp at hv) Tryz.underlying45 rfl Tryz.info45
theorem owp_ldD {Q:Exit→Act→World→Prop} {o:Oper} {K:Act→World→Prop} {a:Act} {w:World} {s:Tmp} {g:Nat} {s':Bool} {ao:Option Addr} {n cp:Nat} {e:Int} (hop:o.op=.load 45 (.tmp s)) (hs:a.tmps[s]?=some (.pointer (some ⟨g,0,none⟩))) (h0:w.cell? ⟨g,0,none⟩=some (.bool s')) (h1:w.cell? ⟨g,1,none⟩=some (.slice ao n cp)) (h2:w.cell? ⟨g,2,none⟩=some (.int .i64 e)) (h:K (a.put o.dst (.agg #[.bool s',.slice ao n cp,.int .i64 e])) w):o.wp Tryz.prog a w K Q :=
 owp_run1 (w':=w) (by simp[execOp,hop,eval_get hs,run_ldD g 0 s' ao n cp e w h0 h1 h2]) h
theorem dV {a:Act} {s:Tmp} {L:List (World→Value→Prop)} {j:Nat} {w:World} {x:Value} (h:∃ u,a.tmps[s]?=some u∧vL L j w u) (e:vL L j=isV x):a.tmps[s]?=some x:=by
 obtain⟨u,h1,h2⟩:=h
 rw[e] at h2
 obtain rfl:u=x:=h2
 exact h1
theorem eval_cst (a:Act) (v:Value):a.eval (.const v)=v:=rfl
end Go.Proofs.YtapooodfgcjoaaaGreat
