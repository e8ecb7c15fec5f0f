/- Own work: contracts of the program's functions, part 11: FR3 FR4 DL5 PV PV2 FR5 FR6 FL2 SA2 SA1 SA4 SA5 SA6 L9 RW7. -/
import Derived.Test.YtcdkkpjilgmncaaGreatDoorA10
import Derived.Test.YtcdkkpjilgmncaaGreatDoorA4
import Derived.Test.YtcdkkpjilgmncaaGreatDoorA6
import Derived.Deep.MidRow
import Derived.Test.YtcdkkpjilgmncaaGreatDoorA8
import Derived.Test.YtcdkkpjilgmncaaGreatDoorA3
import Derived.Test.YtcdkkpjilgmncaaGreatDoorA9

set_option maxHeartbeats 16000000
set_option maxRecDepth 200000
set_option linter.unusedVariables false
set_option linter.unusedSimpArgs false
namespace Go.Proofs.YtcdkkpjilgmncaaGreatDoor
open Go.RowKit Go.Fl64
def Fv (W:World) (U:Value) (t1 t2:Bool×Nat×Int):Prop:=∃ (s1:Bool) (ao1:Option Addr) (n1 cp1:Nat) (e1:Int) (s2:Bool) (ao2:Option Addr) (n2 cp2:Nat) (e2:Int),U=.agg #[.bool s1,.slice ao1 n1 cp1,.int .i64 e1,.bool s2,.slice ao2 n2 cp2,.int .i64 e2]∧PN W (.agg #[.bool s1,.slice ao1 n1 cp1,.int .i64 e1]) t1∧PN W (.agg #[.bool s2,.slice ao2 n2 cp2,.int .i64 e2]) t2
theorem Fv.later {W w':World} {U:Value} {t1 t2:Bool×Nat×Int} (h:Fv W U t1 t2) (hb:Bw W w'):Fv w' U t1 t2:=by
 obtain⟨_,_,_,_,_,_,_,_,_,_,e,h1,h2⟩:=h
 exact⟨_,_,_,_,_,_,_,_,_,_,e,h1.later hb,h2.later hb⟩
theorem cells6F {w:World} {g:Nat} {a b c d e f:Value} {T:TypeId} (h:w.heap[g]?=some (.cells #[a,b,c,d,e,f] T (0,0))) :
  (w.cell? ⟨g,0,none⟩=some a∧w.cell? ⟨g,1,none⟩=some b∧w.cell? ⟨g,2,none⟩=some c∧w.cell? ⟨g,3,none⟩=some d∧w.cell? ⟨g,4,none⟩=some e∧w.cell? ⟨g,5,none⟩=some f)∧(w.frozen? ⟨g,0,none⟩=false∧w.frozen? ⟨g,1,none⟩=false∧w.frozen? ⟨g,2,none⟩=false∧w.frozen? ⟨g,3,none⟩=false∧w.frozen? ⟨g,4,none⟩=false∧w.frozen? ⟨g,5,none⟩=false):=by
 simp[World.cell?,World.frozen?,h]
theorem cells3N {w:World} {g:Nat} {a b c:Value} {T:TypeId} (h:w.heap[g]?=some (.cells #[a,b,c] T (0,0))) :
  (w.cell? ⟨g,0,none⟩=some a∧w.cell? ⟨g,1,none⟩=some b∧w.cell? ⟨g,2,none⟩=some c)∧(w.frozen? ⟨g,0,none⟩=false∧w.frozen? ⟨g,1,none⟩=false∧w.frozen? ⟨g,2,none⟩=false):=by
 simp[World.cell?,World.frozen?,h]
theorem two_new {w W:World} (a b:Obj) (hW:W=(w.alloc a).alloc b):W.heap[w.heap.size]?=some a∧W.heap[w.heap.size+1]?=some b∧W.heap.size=w.heap.size+1+1∧Bw w W:=by
 subst hW
 refine⟨?_,?_,by simp,((Below.refl _ _).alloc (Nat.le_refl _) _).alloc (by simp) _⟩
 ·rw[Below.heap_alloc _ _ _ (by simp)];exact heap_alloc_new _ _
 ·have:=heap_alloc_new (w.alloc a) b
  simpa using this
theorem fbelow_1 (s1:Bool) (ao1:Option Addr) (n1 cp1:Nat) (e1:Int) (s2:Bool) (ao2:Option Addr) (n2 cp2:Nat) (e2:Int) (s3:Bool) (ao3:Option Addr) (n3 cp3:Nat) (e3 c:Int) (T:Bool×Nat×Int) (w:World)
  (k1:∀ W,Bw w W→Calls Tryz.prog 84 #[.agg #[.bool s3,.slice ao3 n3 cp3,.int .i64 e3],.agg #[.bool s2,.slice ao2 n2 cp2,.int .i64 e2]] W fun r w'=>∃ s ao n cap e,r=.returned (.tuple #[.agg #[.bool s,.slice ao n cap,.int .i64 e],.int .i64 0])∧PN w' (.agg #[.bool s,.slice ao n cap,.int .i64 e]) T∧Bw W w')
  (k2:∀ W Y,Bw w W→PN W Y T→Calls Tryz.prog 85 #[.agg #[.bool s1,.slice ao1 n1 cp1,.int .i64 e1],Y] W fun r w'=>r=.returned (.int .i64 c)∧Bw W w') :
  Calls Tryz.prog 40 #[.agg #[.bool s1,.slice ao1 n1 cp1,.int .i64 e1,.bool s2,.slice ao2 n2 cp2,.int .i64 e2],.agg #[.bool s3,.slice ao3 n3 cp3,.int .i64 e3]] w fun r w'=>r=.returned (.bool (decide (c<0)))∧Bw w w':=by
 obtain⟨W,hW⟩:∃ W,W=(w.alloc (.cells #[.bool s1,.slice ao1 n1 cp1,.int .i64 e1,.bool s2,.slice ao2 n2 cp2,.int .i64 e2] 45)).alloc (.cells #[.bool s3,.slice ao3 n3 cp3,.int .i64 e3] 28):=⟨_,rfl⟩
 obtain⟨hF,hN,hsz,hBW⟩:=two_new _ _ hW
 obtain⟨⟨a0,a1,a2,a3,a4,a5⟩,-⟩:=cells6F hF
 obtain⟨⟨b0,b1,b2⟩,-⟩:=cells3N hN
 have HK2:Hid _:=k2
 have HF:Hid (W.heap[w.heap.size]?=some (.cells #[.bool s1,.slice ao1 n1 cp1,.int .i64 e1,.bool s2,.slice ao2 n2 cp2,.int .i64 e2] 45 (0,0))∧Bw w W):=⟨hF,hBW⟩
 have kk:=k1 W hBW
 clear k1 k2 hF hN hsz hBW
 go_enter Tryz.func40,Tryz.ntmps40
 go_upto_region 1 with fail
 rw[←hW]
 clear hW
 go_wp2_with fail
 refine kk.mono ?_
 rintro r w1 ⟨s4,ao4,n4,cp4,e4,rfl,hP,hb1⟩
 clear kk a0 a1 a2 a3 a4 a5 b0 b1 b2
 obtain⟨W1,hW1⟩:∃ W1,W1=w1.alloc (.cells #[.bool s4,.slice ao4 n4 cp4,.int .i64 e4] 28):=⟨_,rfl⟩
 have hbW:Bw W W1:=by rw[hW1];exact hb1.alloc hb1.size _
 obtain⟨⟨a0,a1,a2,a3,a4,a5⟩,-⟩:=cells6F (box_later HF.out.1 hbW (lt_of_box HF.out.1))
 obtain⟨⟨b0,b1,b2⟩,-⟩:=cells3N (by rw[hW1];exact heap_alloc_new _ _:W1.heap[w1.heap.size]?=some (.cells #[.bool s4,.slice ao4 n4 cp4,.int .i64 e4] 28 (0,0)))
 have HB:Hid (Bw w W1):=HF.out.2.trans (hbW.mono HF.out.2.size)
 have kk:=HK2.out W1 _ HB.out (hP.later (by rw[hW1];exact(Below.refl _ _).alloc (Nat.le_refl _) _))
 clear hP hb1 hbW
 rw[hW1] at a0 a1 a2 a3 a4 a5 b0 b1 b2
 go_wp2_with fail
 rw[←hW1]
 clear hW1 a0 a1 a2 a3 a4 a5 b0 b1 b2
 refine kk.mono ?_
 rintro r w2 ⟨rfl,hb2⟩
 have HB2:Hid (Bw w w2):=HB.out.trans (hb2.mono HB.out.size)
 clear kk hb2
 go_wp2_with fail
 go_ret
 exact⟨rfl,HB2.out⟩
theorem at_cells {W W':World} {ao:Option Addr} {n z g:Nat} {T:TypeId} {s1 s2:Bool} {a1 a2:Option Addr} {m1 c1 m2 c2:Nat} {e1 e2:Int} (h:At W ao n z) (hE:W.heap[g]?=some (.cells #[.bool s1,.slice a1 m1 c1,.int .i64 e1] T (0,0))∨W.heap[g]?=some (.cells #[.bool s1,.slice a1 m1 c1,.int .i64 e1,.bool s2,.slice a2 m2 c2,.int .i64 e2] T (0,0))) (hW:∀ b,b≠g→W'.heap[b]?=W.heap[b]?):At W' ao n z:=by
 obtain⟨bb,o,h1,h2⟩:=h
 refine⟨bb,o,h1,fun i hi=>?_⟩
 have hc:=h2 i hi
 have hne:bb≠g:=by
  rintro rfl
  rcases hE with hE|hE
  ·simp only[World.cell?,hE] at hc
   rcases(show o+i=0∨o+i=1∨o+i=2∨3≤o+i by omega)with e|e|e|e
   ·rw[e] at hc;simp at hc
   ·rw[e] at hc;simp at hc
   ·rw[e] at hc;simp at hc
   ·rw[Array.getElem?_eq_none (by simpa using e)] at hc;cases hc
  ·simp only[World.cell?,hE] at hc
   rcases(show o+i=0∨o+i=1∨o+i=2∨o+i=3∨o+i=4∨o+i=5∨6≤o+i by omega)with e|e|e|e|e|e|e
   ·rw[e] at hc;simp at hc
   ·rw[e] at hc;simp at hc
   ·rw[e] at hc;simp at hc
   ·rw[e] at hc;simp at hc
   ·rw[e] at hc;simp at hc
   ·rw[e] at hc;simp at hc
   ·rw[Array.getElem?_eq_none (by simpa using e)] at hc;cases hc
 unfold World.cell? at hc ⊢
 rw[hW bb hne]
 exact hc
theorem set_other (W:World) (g b i:Nat) (v:Value) (h:b≠g):(W.setCell ⟨g,i,none⟩ v).heap[b]?=W.heap[b]?:=by
 simp[World.setCell,Array.getElem?_modify,Ne.symm h]
theorem PN.cells {W W':World} {A:Value} {t:Bool×Nat×Int} {g:Nat} {T:TypeId} {s1 s2:Bool} {a1 a2:Option Addr} {m1 c1 m2 c2:Nat} {e1 e2:Int} (h:PN W A t) (hE:W.heap[g]?=some (.cells #[.bool s1,.slice a1 m1 c1,.int .i64 e1] T (0,0))∨W.heap[g]?=some (.cells #[.bool s1,.slice a1 m1 c1,.int .i64 e1,.bool s2,.slice a2 m2 c2,.int .i64 e2] T (0,0))) (hW:∀ b,b≠g→W'.heap[b]?=W.heap[b]?):PN W' A t:=by
 obtain⟨ao,cap,rfl,a',c',h1,h2,h3,h4⟩:=h
 exact⟨ao,cap,rfl,a',c',h1,h2,h3,at_cells h4 hE hW⟩
theorem PN.set3 {W:World} {A:Value} {t:Bool×Nat×Int} {g:Nat} {T:TypeId} {s1:Bool} {a1:Option Addr} {m1 c1:Nat} {e1:Int} (h:PN W A t) (hE:W.heap[g]?=some (.cells #[.bool s1,.slice a1 m1 c1,.int .i64 e1] T (0,0))) (x y z:Value):PN (((W.setCell ⟨g,0,none⟩ x).setCell ⟨g,1,none⟩ y).setCell ⟨g,2,none⟩ z) A t :=
 h.cells (s2:=false) (a2:=none) (m2:=0) (c2:=0) (e2:=0) (.inl hE) fun b hb=>by rw[set_other _ _ _ _ _ hb,set_other _ _ _ _ _ hb,set_other _ _ _ _ _ hb]
theorem set6_at {w:World} {g:Nat} {a b c d e f:Value} {T:TypeId} (a1 b1 c1 a2 b2 c2:Value) (h:w.heap[g]?=some (.cells #[a,b,c,d,e,f] T (0,0))) :
  ((((((w.setCell ⟨g,0,none⟩ a1).setCell ⟨g,1,none⟩ b1).setCell ⟨g,2,none⟩ c1).setCell ⟨g,3,none⟩ a2).setCell ⟨g,4,none⟩ b2).setCell ⟨g,5,none⟩ c2).heap[g]?=some (.cells #[a1,b1,c1,a2,b2,c2] T (0,0)):=by
 simp[World.setCell,Array.getElem?_modify,h]
theorem PN.set6 {W:World} {A:Value} {t:Bool×Nat×Int} {g:Nat} {T:TypeId} {s1 s2:Bool} {a1 a2:Option Addr} {m1 c1 m2 c2:Nat} {e1 e2:Int} (h:PN W A t) (hE:W.heap[g]?=some (.cells #[.bool s1,.slice a1 m1 c1,.int .i64 e1,.bool s2,.slice a2 m2 c2,.int .i64 e2] T (0,0))) (x y z x' y' z':Value):PN ((((((W.setCell ⟨g,0,none⟩ x).setCell ⟨g,1,none⟩ y).setCell ⟨g,2,none⟩ z).setCell ⟨g,3,none⟩ x').setCell ⟨g,4,none⟩ y').setCell ⟨g,5,none⟩ z') A t :=
 h.cells (.inr hE) fun b hb=>by rw[set_other _ _ _ _ _ hb,set_other _ _ _ _ _ hb,set_other _ _ _ _ _ hb,set_other _ _ _ _ _ hb,set_other _ _ _ _ _ hb,set_other _ _ _ _ _ hb]
theorem below_set3 {B:Nat} {w0 w:World} {g:Nat} (h:Below B w0 w) (hg:B≤g) (x y z:Value):Below B w0 (((w.setCell ⟨g,0,none⟩ x).setCell ⟨g,1,none⟩ y).setCell ⟨g,2,none⟩ z):=((h.setCell hg _).setCell hg _).setCell hg _
theorem below_set6 {B:Nat} {w0 w:World} {g:Nat} (h:Below B w0 w) (hg:B≤g) (x y z x' y' z':Value):Below B w0 ((((((w.setCell ⟨g,0,none⟩ x).setCell ⟨g,1,none⟩ y).setCell ⟨g,2,none⟩ z).setCell ⟨g,3,none⟩ x').setCell ⟨g,4,none⟩ y').setCell ⟨g,5,none⟩ z'):=(((((h.setCell hg _).setCell hg _).setCell hg _).setCell hg _).setCell hg _).setCell hg _
theorem set3_at {w:World} {g:Nat} {a b c:Value} {T:TypeId} (a1 b1 c1:Value) (h:w.heap[g]?=some (.cells #[a,b,c] T (0,0))) :
  (((w.setCell ⟨g,0,none⟩ a1).setCell ⟨g,1,none⟩ b1).setCell ⟨g,2,none⟩ c1).heap[g]?=some (.cells #[a1,b1,c1] T (0,0)):=by
 simp[World.setCell,Array.getElem?_modify,h]
def CN2 (w:World) (f:FuncId) (X Y:Value) (T:Bool×Nat×Int):Prop:=∀ W,Bw w W→Calls Tryz.prog f #[X,Y] W fun r w'=>∃ s ao n cap e,r=.returned (.tuple #[.agg #[.bool s,.slice ao n cap,.int .i64 e],.int .i64 0])∧PN w' (.agg #[.bool s,.slice ao n cap,.int .i64 e]) T∧Bw W w'
theorem ffloor_1 (s1:Bool) (ao1:Option Addr) (n1 cp1:Nat) (e1:Int) (s2:Bool) (ao2:Option Addr) (n2 cp2:Nat) (e2:Int) (x:Bool) (T:Bool×Nat×Int) (w:World)
  (k1:∀ W,Bw w W→Calls Tryz.prog 81 #[.agg #[.bool s1,.slice ao1 n1 cp1,.int .i64 e1],.agg #[.bool s2,.slice ao2 n2 cp2,.int .i64 e2],.int .i64 0] W fun r w'=>∃ s ao n cap e,r=.returned (.tuple #[.agg #[.bool s,.slice ao n cap,.int .i64 e],.bool x,.int .i64 0])∧PN w' (.agg #[.bool s,.slice ao n cap,.int .i64 e]) T∧Bw W w') :
  Calls Tryz.prog 38 #[.agg #[.bool s1,.slice ao1 n1 cp1,.int .i64 e1,.bool s2,.slice ao2 n2 cp2,.int .i64 e2]] w fun r w'=>∃ s ao n cap e,r=.returned (.tuple #[.agg #[.bool s,.slice ao n cap,.int .i64 e],.bool x])∧PN w' (.agg #[.bool s,.slice ao n cap,.int .i64 e]) T∧Bw w w':=by
 obtain⟨W,hW⟩:∃ W,W=(w.alloc (.cells #[.bool s1,.slice ao1 n1 cp1,.int .i64 e1,.bool s2,.slice ao2 n2 cp2,.int .i64 e2] 45)).alloc (.cells #[.bool false,.slice none 0 0,.int .i64 0] 28):=⟨_,rfl⟩
 obtain⟨hF,hN,hsz,hBW⟩:=two_new _ _ hW
 obtain⟨⟨a0,a1,a2,a3,a4,a5⟩,-⟩:=cells6F hF
 have HF:Hid (W.heap[w.heap.size+1]?=some (.cells #[.bool false,.slice none 0 0,.int .i64 0] 28 (0,0))∧Bw w W):=⟨hN,hBW⟩
 have kk:=k1 W hBW
 clear k1 hF hN hsz hBW
 go_enter Tryz.func38,Tryz.ntmps38
 go_upto_region 1 with fail
 rw[←hW]
 clear hW
 go_wp2_with fail
 refine kk.mono ?_
 rintro r w1 ⟨s4,ao4,n4,cp4,e4,rfl,hP,hb1⟩
 clear kk a0 a1 a2 a3 a4 a5
 obtain⟨W1,hW1⟩:∃ W1,W1=w1.alloc (.cells #[.bool s4,.slice ao4 n4 cp4,.int .i64 e4] 28):=⟨_,rfl⟩
 have hbW:Bw W W1:=by rw[hW1];exact hb1.alloc hb1.size _
 have HG:Hid (W1.heap[w.heap.size+1]?=some (.cells #[.bool false,.slice none 0 0,.int .i64 0] 28 (0,0))∧Bw w W1∧PN W1 (.agg #[.bool s4,.slice ao4 n4 cp4,.int .i64 e4]) T):=⟨box_later HF.out.1 hbW (lt_of_box HF.out.1),HF.out.2.trans (hbW.mono HF.out.2.size),hP.later (by rw[hW1];exact(Below.refl _ _).alloc (Nat.le_refl _) _)⟩
 obtain⟨⟨a0,a1,a2⟩,a3,a4,a5⟩:=cells3N HG.out.1
 obtain⟨⟨b0,b1,b2⟩,-⟩:=cells3N (by rw[hW1];exact heap_alloc_new _ _:W1.heap[w1.heap.size]?=some (.cells #[.bool s4,.slice ao4 n4 cp4,.int .i64 e4] 28 (0,0)))
 clear hP hb1 hbW
 rw[hW1] at a0 a1 a2 a3 a4 a5 b0 b1 b2
 go_wp2_with fail
 rw[←hW1]
 refine bodyPost_ret (results_cell_tmp_row rfl _ _ (w.heap.size+1) 28 #[.bool s4,.slice ao4 n4 cp4,.int .i64 e4] (0,0) _ rfl (set3_at _ _ _ HG.out.1) Tryz.underlying28 rfl Tryz.info28) rfl ?_
 exact⟨_,_,_,_,_,rfl,HG.out.2.2.set3 HG.out.1 _ _ _,below_set3 HG.out.2.1 (by omega) _ _ _⟩
theorem three_new {w W:World} (a b c:Obj) (hW:W=((w.alloc a).alloc b).alloc c):W.heap[w.heap.size]?=some a∧W.heap[w.heap.size+1]?=some b∧W.heap[w.heap.size+1+1]?=some c∧Bw w W:=by
 obtain⟨V,hV⟩:∃ V,V=(w.alloc a).alloc b:=⟨_,rfl⟩
 obtain⟨h1,h2,h3,h4⟩:=two_new a b hV
 have hb:Bw V W:=by rw[hW,←hV];exact(Below.refl _ _).alloc (Nat.le_refl _) _
 refine⟨box_later h1 hb (by omega),box_later h2 hb (by omega),?_,h4.trans (hb.mono h4.size)⟩
 rw[hW,←hV,←h3];exact heap_alloc_new _ _
theorem four_new {w W:World} (a b c d:Obj) (hW:W=(((w.alloc a).alloc b).alloc c).alloc d):W.heap[w.heap.size]?=some a∧W.heap[w.heap.size+1]?=some b∧W.heap[w.heap.size+1+1]?=some c∧W.heap[w.heap.size+1+1+1]?=some d∧Bw w W:=by
 obtain⟨V,hV⟩:∃ V,V=((w.alloc a).alloc b).alloc c:=⟨_,rfl⟩
 obtain⟨h1,h2,h3,h4⟩:=three_new a b c hV
 have hs:V.heap.size=w.heap.size+1+1+1:=by rw[hV];simp
 have hb:Bw V W:=by rw[hW,←hV];exact(Below.refl _ _).alloc (Nat.le_refl _) _
 refine⟨box_later h1 hb (by omega),box_later h2 hb (by omega),box_later h3 hb (by omega),?_,h4.trans (hb.mono h4.size)⟩
 rw[hW,←hV,←hs];exact heap_alloc_new _ _
def OutP (W:World) (T:Bool×Nat×Int) (r:Ending) (w':World):Prop:=∃ s ao n cap e,r=.returned (.agg #[.bool s,.slice ao n cap,.int .i64 e])∧PN w' (.agg #[.bool s,.slice ao n cap,.int .i64 e]) T∧Bw W w'
def OutFv (W:World) (t1 t2:Bool×Nat×Int) (r:Ending) (w':World):Prop:=∃ U,r=.returned U∧Fv w' U t1 t2∧Bw W w'
theorem frest_1 (s1:Bool) (ao1:Option Addr) (n1 cp1:Nat) (e1:Int) (s2:Bool) (ao2:Option Addr) (n2 cp2:Nat) (e2:Int) (s3:Bool) (ao3:Option Addr) (n3 cp3:Nat) (e3:Int) (T2 T T':Bool×Nat×Int) (w:World)
  (hq:PN w (.agg #[.bool s2,.slice ao2 n2 cp2,.int .i64 e2]) T2)
  (k1:CN2 w 84 (.agg #[.bool s3,.slice ao3 n3 cp3,.int .i64 e3]) (.agg #[.bool s2,.slice ao2 n2 cp2,.int .i64 e2]) T)
  (k2:∀ W Y,Bw w W→PN W Y T→Calls Tryz.prog 87 #[.agg #[.bool s1,.slice ao1 n1 cp1,.int .i64 e1],Y] W fun r w'=>∃ s ao n cap e,r=.returned (.tuple #[.agg #[.bool s,.slice ao n cap,.int .i64 e],.int .i64 0])∧PN w' (.agg #[.bool s,.slice ao n cap,.int .i64 e]) T'∧Bw W w') :
  Calls Tryz.prog 42 #[.agg #[.bool s1,.slice ao1 n1 cp1,.int .i64 e1,.bool s2,.slice ao2 n2 cp2,.int .i64 e2],.agg #[.bool s3,.slice ao3 n3 cp3,.int .i64 e3]] w fun r w'=>OutFv w T2 T' r w':=by
 obtain⟨W,hW⟩:∃ W,W=((w.alloc (.cells #[.bool s1,.slice ao1 n1 cp1,.int .i64 e1,.bool s2,.slice ao2 n2 cp2,.int .i64 e2] 45)).alloc (.cells #[.bool s3,.slice ao3 n3 cp3,.int .i64 e3] 28)).alloc (.cells #[.bool false,.slice none 0 0,.int .i64 0,.bool false,.slice none 0 0,.int .i64 0] 45):=⟨_,rfl⟩
 obtain⟨hF,hN,hR,hBW⟩:=three_new _ _ _ hW
 obtain⟨⟨a0,a1,a2,a3,a4,a5⟩,-⟩:=cells6F hF
 obtain⟨⟨b0,b1,b2⟩,-⟩:=cells3N hN
 have HK2:Hid _:=k2
 have HF:Hid (W.heap[w.heap.size]?=some (.cells #[.bool s1,.slice ao1 n1 cp1,.int .i64 e1,.bool s2,.slice ao2 n2 cp2,.int .i64 e2] 45 (0,0))∧W.heap[w.heap.size+1+1]?=some (.cells #[.bool false,.slice none 0 0,.int .i64 0,.bool false,.slice none 0 0,.int .i64 0] 45 (0,0))∧Bw w W):=⟨hF,hR,hBW⟩
 have HQ:Hid (PN w (.agg #[.bool s2,.slice ao2 n2 cp2,.int .i64 e2]) T2):=hq
 have kk:=k1 W hBW
 clear k1 k2 hF hN hR hBW hq
 go_enter Tryz.func42,Tryz.ntmps42
 go_upto_region 1 with fail
 rw[←hW]
 clear hW
 go_wp2_with fail
 refine kk.mono ?_
 rintro r w1 ⟨s4,ao4,n4,cp4,e4,rfl,hP,hb1⟩
 clear kk a0 a1 a2 a3 a4 a5 b0 b1 b2
 obtain⟨W1,hW1⟩:∃ W1,W1=w1.alloc (.cells #[.bool s4,.slice ao4 n4 cp4,.int .i64 e4] 28):=⟨_,rfl⟩
 have hbW:Bw W W1:=by rw[hW1];exact hb1.alloc hb1.size _
 have HG:Hid (W1.heap[w.heap.size]?=some (.cells #[.bool s1,.slice ao1 n1 cp1,.int .i64 e1,.bool s2,.slice ao2 n2 cp2,.int .i64 e2] 45 (0,0))∧W1.heap[w.heap.size+1+1]?=some (.cells #[.bool false,.slice none 0 0,.int .i64 0,.bool false,.slice none 0 0,.int .i64 0] 45 (0,0))∧Bw w W1):=⟨box_later HF.out.1 hbW (lt_of_box HF.out.1),box_later HF.out.2.1 hbW (lt_of_box HF.out.2.1),HF.out.2.2.trans (hbW.mono HF.out.2.2.size)⟩
 obtain⟨⟨a0,a1,a2,a3,a4,a5⟩,-⟩:=cells6F HG.out.1
 obtain⟨⟨b0,b1,b2⟩,-⟩:=cells3N (by rw[hW1];exact heap_alloc_new _ _:W1.heap[w1.heap.size]?=some (.cells #[.bool s4,.slice ao4 n4 cp4,.int .i64 e4] 28 (0,0)))
 have kk:=HK2.out W1 _ HG.out.2.2 (hP.later (by rw[hW1];exact(Below.refl _ _).alloc (Nat.le_refl _) _))
 clear hP hb1 hbW HF
 rw[hW1] at a0 a1 a2 a3 a4 a5 b0 b1 b2
 go_wp2_with fail
 rw[←hW1]
 clear hW1 a0 a1 a2 a3 a4 a5 b0 b1 b2
 refine kk.mono ?_
 rintro r w2 ⟨s5,ao5,n5,cp5,e5,rfl,hP,hb2⟩
 clear kk
 obtain⟨W2,hW2⟩:∃ W2,W2=w2.alloc (.cells #[.bool s5,.slice ao5 n5 cp5,.int .i64 e5] 28):=⟨_,rfl⟩
 have hbW:Bw W1 W2:=by rw[hW2];exact hb2.alloc hb2.size _
 have HH:Hid (W2.heap[w.heap.size]?=some (.cells #[.bool s1,.slice ao1 n1 cp1,.int .i64 e1,.bool s2,.slice ao2 n2 cp2,.int .i64 e2] 45 (0,0))∧W2.heap[w.heap.size+1+1]?=some (.cells #[.bool false,.slice none 0 0,.int .i64 0,.bool false,.slice none 0 0,.int .i64 0] 45 (0,0))∧Bw w W2∧PN W2 (.agg #[.bool s5,.slice ao5 n5 cp5,.int .i64 e5]) T'):=⟨box_later HG.out.1 hbW (lt_of_box HG.out.1),box_later HG.out.2.1 hbW (lt_of_box HG.out.2.1),HG.out.2.2.trans (hbW.mono HG.out.2.2.size),hP.later (by rw[hW2];exact(Below.refl _ _).alloc (Nat.le_refl _) _)⟩
 obtain⟨⟨a0,a1,a2,a3,a4,a5⟩,-⟩:=cells6F HH.out.1
 obtain⟨⟨c0,c1,c2,c3,c4,c5⟩,d0,d1,d2,d3,d4,d5⟩:=cells6F HH.out.2.1
 obtain⟨⟨b0,b1,b2⟩,-⟩:=cells3N (by rw[hW2];exact heap_alloc_new _ _:W2.heap[w2.heap.size]?=some (.cells #[.bool s5,.slice ao5 n5 cp5,.int .i64 e5] 28 (0,0)))
 clear hP hb2 hbW HG
 rw[hW2] at a0 a1 a2 a3 a4 a5 b0 b1 b2 c0 c1 c2 c3 c4 c5 d0 d1 d2 d3 d4 d5
 go_wp2_with fail
 rw[←hW2]
 refine bodyPost_ret (results_cell_row rfl _ _ (w.heap.size+1+1) 45 #[.bool s2,.slice ao2 n2 cp2,.int .i64 e2,.bool s5,.slice ao5 n5 cp5,.int .i64 e5] (0,0) _ rfl (set6_at _ _ _ _ _ _ HH.out.2.1) Tryz.underlying45 rfl (by kernel_rfl)) rfl ?_
 exact⟨_,rfl,⟨_,_,_,_,_,_,_,_,_,_,rfl,(HQ.out.later HH.out.2.2.1).set6 HH.out.2.1 _ _ _ _ _ _,HH.out.2.2.2.set6 HH.out.2.1 _ _ _ _ _ _⟩,below_set6 HH.out.2.2.1 (by omega) _ _ _ _ _ _⟩
theorem andtimes_1 (s1:Bool) (ao1:Option Addr) (n1 cp1:Nat) (e1:Int) (s2:Bool) (ao2:Option Addr) (n2 cp2:Nat) (e2:Int) (s3:Bool) (ao3:Option Addr) (n3 cp3:Nat) (e3:Int) (T T':Bool×Nat×Int) (w:World)
  (k1:CN2 w 84 (.agg #[.bool s2,.slice ao2 n2 cp2,.int .i64 e2]) (.agg #[.bool s3,.slice ao3 n3 cp3,.int .i64 e3]) T)
  (k2:∀ W Y,Bw w W→PN W Y T→Calls Tryz.prog 39 #[.agg #[.bool s1,.slice ao1 n1 cp1,.int .i64 e1],Y] W fun r w'=>∃ s ao n cap e,r=.returned (.tuple #[.agg #[.bool s,.slice ao n cap,.int .i64 e],.int .i64 0])∧PN w' (.agg #[.bool s,.slice ao n cap,.int .i64 e]) T'∧Bw W w') :
  Calls Tryz.prog 86 #[.agg #[.bool s1,.slice ao1 n1 cp1,.int .i64 e1],.agg #[.bool s2,.slice ao2 n2 cp2,.int .i64 e2],.agg #[.bool s3,.slice ao3 n3 cp3,.int .i64 e3]] w fun r w'=>OutP w T' r w':=by
 obtain⟨W,hW⟩:∃ W,W=(((w.alloc (.cells #[.bool s1,.slice ao1 n1 cp1,.int .i64 e1] 28)).alloc (.cells #[.bool s2,.slice ao2 n2 cp2,.int .i64 e2] 28)).alloc (.cells #[.bool s3,.slice ao3 n3 cp3,.int .i64 e3] 28)).alloc (.cells #[.bool false,.slice none 0 0,.int .i64 0] 28):=⟨_,rfl⟩
 obtain⟨hF,hN,hM,hR,hBW⟩:=four_new _ _ _ _ hW
 obtain⟨⟨a0,a1,a2⟩,-⟩:=cells3N hN
 obtain⟨⟨b0,b1,b2⟩,-⟩:=cells3N hM
 have HK2:Hid _:=k2
 have HF:Hid (W.heap[w.heap.size]?=some (.cells #[.bool s1,.slice ao1 n1 cp1,.int .i64 e1] 28 (0,0))∧W.heap[w.heap.size+1+1+1]?=some (.cells #[.bool false,.slice none 0 0,.int .i64 0] 28 (0,0))∧Bw w W):=⟨hF,hR,hBW⟩
 have kk:=k1 W hBW
 clear k1 k2 hF hN hM hR hBW
 go_enter Tryz.func86,Tryz.ntmps86
 go_upto_region 1 with fail
 rw[←hW]
 clear hW
 go_wp2_with fail
 refine kk.mono ?_
 rintro r w1 ⟨s4,ao4,n4,cp4,e4,rfl,hP,hb1⟩
 clear kk a0 a1 a2 b0 b1 b2
 obtain⟨W1,hW1⟩:∃ W1,W1=w1.alloc (.cells #[.bool s4,.slice ao4 n4 cp4,.int .i64 e4] 28):=⟨_,rfl⟩
 have hbW:Bw W W1:=by rw[hW1];exact hb1.alloc hb1.size _
 have HG:Hid (W1.heap[w.heap.size]?=some (.cells #[.bool s1,.slice ao1 n1 cp1,.int .i64 e1] 28 (0,0))∧W1.heap[w.heap.size+1+1+1]?=some (.cells #[.bool false,.slice none 0 0,.int .i64 0] 28 (0,0))∧Bw w W1):=⟨box_later HF.out.1 hbW (lt_of_box HF.out.1),box_later HF.out.2.1 hbW (lt_of_box HF.out.2.1),HF.out.2.2.trans (hbW.mono HF.out.2.2.size)⟩
 obtain⟨⟨a0,a1,a2⟩,-⟩:=cells3N HG.out.1
 obtain⟨⟨b0,b1,b2⟩,-⟩:=cells3N (by rw[hW1];exact heap_alloc_new _ _:W1.heap[w1.heap.size]?=some (.cells #[.bool s4,.slice ao4 n4 cp4,.int .i64 e4] 28 (0,0)))
 have kk:=HK2.out W1 _ HG.out.2.2 (hP.later (by rw[hW1];exact(Below.refl _ _).alloc (Nat.le_refl _) _))
 clear hP hb1 hbW HF
 rw[hW1] at a0 a1 a2 b0 b1 b2
 go_wp2_with fail
 rw[←hW1]
 clear hW1 a0 a1 a2 b0 b1 b2
 refine kk.mono ?_
 rintro r w2 ⟨s5,ao5,n5,cp5,e5,rfl,hP,hb2⟩
 clear kk
 obtain⟨W2,hW2⟩:∃ W2,W2=w2.alloc (.cells #[.bool s5,.slice ao5 n5 cp5,.int .i64 e5] 28):=⟨_,rfl⟩
 have hbW:Bw W1 W2:=by rw[hW2];exact hb2.alloc hb2.size _
 have HH:Hid (W2.heap[w.heap.size+1+1+1]?=some (.cells #[.bool false,.slice none 0 0,.int .i64 0] 28 (0,0))∧Bw w W2∧PN W2 (.agg #[.bool s5,.slice ao5 n5 cp5,.int .i64 e5]) T'):=⟨box_later HG.out.2.1 hbW (lt_of_box HG.out.2.1),HG.out.2.2.trans (hbW.mono HG.out.2.2.size),hP.later (by rw[hW2];exact(Below.refl _ _).alloc (Nat.le_refl _) _)⟩
 obtain⟨⟨a0,a1,a2⟩,a3,a4,a5⟩:=cells3N HH.out.1
 obtain⟨⟨b0,b1,b2⟩,-⟩:=cells3N (by rw[hW2];exact heap_alloc_new _ _:W2.heap[w2.heap.size]?=some (.cells #[.bool s5,.slice ao5 n5 cp5,.int .i64 e5] 28 (0,0)))
 clear hP hb2 hbW HG
 rw[hW2] at a0 a1 a2 a3 a4 a5 b0 b1 b2
 go_wp2_with fail
 rw[←hW2]
 refine bodyPost_ret (results_cell_row rfl _ _ (w.heap.size+1+1+1) 28 #[.bool s5,.slice ao5 n5 cp5,.int .i64 e5] (0,0) _ rfl (set3_at _ _ _ HH.out.1) Tryz.underlying28 rfl Tryz.info28) rfl ?_
 exact⟨_,_,_,_,_,rfl,HH.out.2.2.set3 HH.out.1 _ _ _,below_set3 HH.out.2.1 (by omega) _ _ _⟩
end Go.Proofs.YtcdkkpjilgmncaaGreatDoor
namespace Go.Proofs.YtcdkkpjilgmncaaGreatDoor
open Go.RowKit
structure ParL (W0:World) (a0:Act) (m:Nat) (slot:Nat→Tmp) (V:Nat→World→Value→Prop) (listed:Array Bool) (a:Act) (w:World):Prop where
 below:Bw W0 w
 size:a.tmps.size=a0.tmps.size
 defers:a.defers=a0.defers
 other:∀ s,(∀ j,j<m→s≠slot j)→a.tmps[s]?=a0.tmps[s]?
 val:∀ j,j<m→listed.getD j false=true→∃ u,a.tmps[slot j]?=some u∧V j w u
theorem parl_region {P:Program} {ops:Array Oper} {Q:Exit→Act→World→Prop} {id:Nat} (hm:P.follows .mixedOrders=true) (m:Nat) (slot:Nat→Tmp) (dep:Nat→List Nat)
  (W0:World) (a0:Act) (V:Nat→World→Value→Prop) (hsz:ops.size=m+1)
  (hord:∀ (i:Nat) (o:Oper),ops[i]?=some o→∀ e ∈ o.after,e.on<i)
  (hV1:∀ j w w' u,Bw w w'→V j w u→V j w' u)
  (hdep:∀ j,j<m→∀ j' ∈ dep j,j'<m∧∀ o,ops[j]?=some o→∃ e ∈ o.after,e.on=j'∧Region.binds .any e=true)
  (hA:∀ j,j<m→∀ (a:Act) (w:World),Bw W0 w→(∀ s,(∀ j,j<m→s≠slot j)→a.tmps[s]?=a0.tmps[s]?) →
   (∀ j' ∈ dep j,∃ u,a.tmps[slot j']?=some u∧V j' w u)→wpOp P ops Q j (fun a' w'=>∃ u,a'=a.put (some (slot j)) u∧V j w' u∧Bw w w') a w)
  (hlast:∀ o,ops[m]?=some o→∀ j,j<m→∃ e ∈ o.after,e.on=j∧Region.binds .any e=true)
  (hin:∀ j,j<m→slot j<a0.tmps.size)
  (hinj:∀ j j',j<m→j'<m→slot j=slot j'→j=j')
  (hL:∀ (u:Nat→Value) (a:Act) (w:World),Bw W0 w→(∀ j,j<m→a.tmps[slot j]?=some (u j)∧V j w (u j)) →
   a.tmps.size=a0.tmps.size→a.defers=a0.defers→(∀ s,(∀ j,j<m→s≠slot j)→a.tmps[s]?=a0.tmps[s]?)→wpOp P ops Q m (fun a' w'=>Q .normal a' w') a w) :
  (Code.region id ops true).wp P Q a0 W0:=by
 refine wp_region_any hm ?_
 refine wpAny_inv (fun listed a w=>(listed.getD m false=false∧ParL W0 a0 m slot V listed a w)∨((∀ i,i<m+1→listed.getD i false=true)∧Q .normal a w)) ?_ ?_ ops.size _ a0 _ (by simp) ?_ (by simp)
 ·intro listed a w i hl hI hr
  obtain⟨hun,o,ho,hall⟩:=mem_ready.1 hr
  have hunf:=not_listed hun
  have hio:i<ops.size:=(Array.getElem?_eq_some_iff.1 ho).1
  have hil:i<listed.size:=by omega
  have hset:=listed_set hil
  have hne:∀ x,x≠i→(listed.setIfInBounds i true).getD x false=listed.getD x false:=fun x hx=>getD_set_ne false (Ne.symm hx)
  rcases hI with ⟨hm0,hI⟩|⟨hfull,-⟩
  ·by_cases him:i<m
   ·refine wpOp_mono ?_ (hA i him a w hI.below hI.other fun j' hj'=>?_)
    ·rintro a' w' ⟨u,rfl,hu,hb⟩
     have hlt:slot i<a.tmps.size:=by rw[hI.size];exact hin i him
     refine .inl ⟨by rw[hne m (by omega)];exact hm0,hI.below.trans (hb.mono hI.below.size),by rw[put_size];exact hI.size,by rw[put_defers];exact hI.defers,fun s h1=>?_,fun j hj h1=>?_⟩
     ·rw[put_get_ne (h1 i him)];exact hI.other s h1
     ·by_cases e:j=i
      ·subst e;exact⟨u,put_get hlt,hu⟩
      ·rw[hne j e] at h1
       obtain⟨u',g1,g2⟩:=hI.val j hj h1
       exact⟨u',by rw[put_get_ne (fun e2=>e (hinj j i hj him e2))];exact g1,hV1 _ _ _ _ hb g2⟩
    ·obtain⟨h1,h2⟩:=hdep i him j' hj'
     obtain⟨e,he,rfl,hbd⟩:=h2 o ho
     exact hI.val _ h1 (hall e he hbd)
   ·obtain rfl:i=m:=by omega
    have hl2:∀ j,j<i→listed.getD j false=true:=fun j hj=>by
     obtain⟨e,he,rfl,hbd⟩:=hlast o ho j hj
     exact hall e he hbd
    have hval:∀ j,∃ u,j<i→a.tmps[slot j]?=some u∧V j w u:=fun j=>by
     by_cases hj:j<i
     ·obtain⟨u,h1,h2⟩:=hI.val j hj (hl2 j hj)
      exact⟨u,fun _=>⟨h1,h2⟩⟩
     ·exact⟨undef,fun h=>absurd h hj⟩
    obtain⟨u,hu⟩:=Classical.axiomOfChoice hval
    refine wpOp_mono ?_ (hL u a w hI.below hu hI.size hI.defers hI.other)
    intro a' w' hq
    refine .inr ⟨fun j hj=>?_,hq⟩
    by_cases e:j=i
    ·rw[e];exact hset
    ·rw[hne j e];exact hl2 j (by omega)
  ·rw[hfull i (by omega)] at hunf
   cases hunf
 ·intro listed a w hl hI hr
  rcases hI with ⟨hm0,hI⟩|⟨-,hq⟩
  ·exfalso
   have hfull:∀ i,i<ops.size→listed.getD i false=true:=by
    intro i
    induction i using Nat.strongRecOn with
    | _ i ih =>
     intro hi
     cases hx:listed.getD i false with
     | true=>rfl
     | false =>
      exfalso
      have ho:ops[i]?=some ops[i]:=Array.getElem?_eq_getElem hi
      have:i ∈ Region.ready .any ops listed:=by
       refine mem_ready.2 ⟨?_,ops[i],ho,fun e he _=>ih e.on (hord i _ ho e he) (Nat.lt_trans (hord i _ ho e he) hi)⟩
       have hil:i<listed.size:=by omega
       simp only[Array.getD_eq_getD_getElem?,Array.getElem?_eq_getElem hil,Option.getD_some] at hx ⊢
       exact hx
      rw[hr] at this
      cases this
   rw[hfull m (by omega)] at hm0
   cases hm0
  ·exact hq
 ·have h0:∀ x,(Array.replicate ops.size false).getD x false=true→False:=fun x h=>by
   simp[Array.getD_eq_getD_getElem?,Array.getElem?_replicate] at h
   split at h <;> simp at h
  refine .inl ⟨?_,(Below.refl _ _).drew,rfl,rfl,fun _ _=>rfl,fun j _ h=>(h0 _ h).elim⟩
  cases hx:(Array.replicate ops.size false).getD m false with
  | false=>rfl
  | true=>exact(h0 _ hx).elim
def vhas (o:Oper) (j:Nat):Bool:=o.after.any fun e=>e.on==j&&Region.binds .any e
def vrow (m sl:Nat) (dep:Nat→List Nat) (i:Nat) (o:Oper):Bool :=
 o.after.all (fun e=>decide (e.on<i))&&o.guard.isNone&&(i==m||o.dst==some (sl+i))&&((if i==m then List.range m else dep i).all fun j=>decide (j<m)&&vhas o j)
def vchk (ops:Array Oper) (m sl:Nat) (dep:Nat→List Nat):Bool :=
 ops.size==m+1&&(List.range (m+1)).all fun i=>match ops[i]? with|some o=>vrow m sl dep i o|none=>false
theorem vhas_ex {o:Oper} {j:Nat} (h:vhas o j=true):∃ e ∈ o.after,e.on=j∧Region.binds .any e=true:=by
 unfold vhas at h
 obtain⟨i,hi,h2⟩:=Array.any_eq_true.1 h
 rw[Bool.and_eq_true,beq_iff_eq] at h2
 exact⟨_,Array.getElem_mem hi,h2.1,h2.2⟩
theorem vchk_row {ops:Array Oper} {m sl:Nat} {dep:Nat→List Nat} (h:vchk ops m sl dep=true) {i:Nat} {o:Oper} (ho:ops[i]?=some o):i<m+1∧vrow m sl dep i o=true:=by
 unfold vchk at h
 rw[Bool.and_eq_true,beq_iff_eq] at h
 have hi:i<m+1:=by have:=(Array.getElem?_eq_some_iff.1 ho).1;omega
 have h1:=List.all_eq_true.1 h.2 i (List.mem_range.2 hi)
 simp only[ho] at h1
 exact⟨hi,h1⟩
theorem vrow_split {m sl:Nat} {dep:Nat→List Nat} {i:Nat} {o:Oper} (h:vrow m sl dep i o=true) :
  (∀ e ∈ o.after,e.on<i)∧o.guard=none∧(i<m→o.dst=some (sl+i))∧∀ j ∈ (if i==m then List.range m else dep i),j<m∧∃ e ∈ o.after,e.on=j∧Region.binds .any e=true:=by
 unfold vrow at h
 rw[Bool.and_eq_true,Bool.and_eq_true,Bool.and_eq_true] at h
 obtain⟨⟨⟨h1,h2⟩,h3⟩,h4⟩:=h
 refine⟨fun e he=>of_decide_eq_true (Array.all_eq_true_iff_forall_mem.1 h1 e he),Option.isNone_iff_eq_none.1 h2,fun hi=>?_,fun j hj=>?_⟩
 ·rw[Bool.or_eq_true] at h3
  rcases h3 with h3|h3
  ·rw[beq_iff_eq] at h3;omega
  ·simpa using h3
 ·have:=List.all_eq_true.1 h4 j hj
  rw[Bool.and_eq_true] at this
  exact⟨of_decide_eq_true this.1,vhas_ex this.2⟩
theorem val_region {P:Program} {ops:Array Oper} {Q:Exit→Act→World→Prop} {id:Nat} (hm:P.follows .mixedOrders=true) (m sl:Nat) (dep:Nat→List Nat)
  (W0:World) (a0:Act) (V:Nat→World→Value→Prop) (hchk:vchk ops m sl dep=true)
  (hV1:∀ j w w' u,Bw w w'→V j w u→V j w' u) (hin:sl+m≤a0.tmps.size)
  (hA:∀ j,j<m→∀ o,ops[j]?=some o→∀ (a:Act) (w:World),Bw W0 w→(∀ s:Nat,(s<sl∨sl+m≤s)→a.tmps[s]?=a0.tmps[s]?) →
   (∀ j' ∈ dep j,∃ u,a.tmps[sl+j']?=some u∧V j' w u)→o.wp P a w (fun a' w'=>∃ u,a'=a.put o.dst u∧V j w' u∧Bw w w') Q)
  (hL:∀ o,ops[m]?=some o→∀ (u:Nat→Value) (w:World),Bw W0 w→(∀ j,j<m→V j w (u j)) →
   o.wp P (putL a0 ((List.range m).map (fun j=>(sl+j,u j)))) w (fun a' w'=>Q .normal a' w') Q) :
  (Code.region id ops true).wp P Q a0 W0:=by
 have hsz:ops.size=m+1:=by
  unfold vchk at hchk
  rw[Bool.and_eq_true,beq_iff_eq] at hchk
  exact hchk.1
 have hoth:∀ {s:Nat},(s<sl∨sl+m≤s)→∀ j,j<m→s≠sl+j:=fun h j hj=>by omega
 refine parl_region hm m (fun j=>sl+j) dep W0 a0 V hsz (fun i o ho=>(vrow_split (vchk_row hchk ho).2).1) hV1 ?_ ?_ ?_ (fun j hj=>Nat.lt_of_lt_of_le (Nat.add_lt_add_left hj sl) hin) (fun i i' _ _ h=>Nat.add_left_cancel h) ?_
 ·intro j hj j' hj'
  obtain⟨o,ho⟩:∃ o,ops[j]?=some o:=⟨ops[j]'(by omega),Array.getElem?_eq_getElem (by omega)⟩
  have h4:=(vrow_split (vchk_row hchk ho).2).2.2.2 j' (by rw[if_neg (by rw[beq_iff_eq];omega)];exact hj')
  refine⟨h4.1,fun o' ho'=>?_⟩
  obtain rfl:o=o':=Option.some.inj (ho.symm.trans ho')
  exact h4.2
 ·intro j hj a w hb ho1 hd
  obtain⟨o,ho⟩:∃ o,ops[j]?=some o:=⟨ops[j]'(by omega),Array.getElem?_eq_getElem (by omega)⟩
  obtain⟨-,h2,h3,-⟩:=vrow_split (vchk_row hchk ho).2
  refine step_wanted ho h2 ?_
  have h5:=hA j hj o ho a w hb (fun s hs=>ho1 s (hoth hs)) hd
  rw[h3 hj] at h5
  exact h5
 ·intro o ho j hj
  exact((vrow_split (vchk_row hchk ho).2).2.2.2 j (by rw[if_pos (by rw[beq_iff_eq])];exact List.mem_range.2 hj)).2
 ·intro u a w hb hu hs hd ho1
  obtain⟨o,ho⟩:∃ o,ops[m]?=some o:=⟨ops[m]'(by omega),Array.getElem?_eq_getElem (by omega)⟩
  obtain⟨-,h2,-,-⟩:=vrow_split (vchk_row hchk ho).2
  refine step_wanted ho h2 ?_
  have q1:((List.range m).map (fun j=>((sl+j,u j):Tmp×Value))).map (fun p:Tmp×Value=>p.1)=(List.range m).map (fun j=>sl+j):=by simp[Function.comp_def]
  have ha:=act_putL (a:=a) (a0:=a0) (l:=(List.range m).map (fun j=>((sl+j,u j):Tmp×Value))) (by
    rw[q1]
    refine List.pairwise_map.2 ((List.nodup_range (n:=m)).imp_of_mem ?_)
    intro x y hx hy hne he
    exact hne (Nat.add_left_cancel he)) hs hd (by
    intro p hp
    obtain⟨i,hi,rfl⟩:=List.mem_map.1 hp
    exact(hu i (List.mem_range.1 hi)).1) (fun s hsn=>ho1 s (fun i hi he=>hsn (List.mem_map.2 ⟨_,List.mem_map.2 ⟨i,List.mem_range.2 hi,rfl⟩,he.symm⟩)))
  rw[ha]
  exact hL o ho u w hb (fun j hj=>(hu j hj).2)
theorem owp_move {P:Program} {Q:Exit→Act→World→Prop} {o:Oper} {K:Act→World→Prop} {a:Act} {w:World} {s:Tmp} {v:Value}
  (hop:o.op=.move (.tmp s)) (hs:a.tmps[s]?=some v) (h:K (a.put o.dst v) w):o.wp P a w K Q:=by
 unfold Oper.wp
 simp[execOp,hop,eval_get hs,Oper.upon,h]
theorem owp_assign {P:Program} {Q:Exit→Act→World→Prop} {o:Oper} {K:Act→World→Prop} {a:Act} {w:World} {s:Tmp} {v:Value}
  (hop:o.op=.assign (.tmp s)) (hs:a.tmps[s]?=some v) (h:K (a.put o.dst v) w):o.wp P a w K Q:=by
 unfold Oper.wp
 simp[execOp,hop,eval_get hs,Oper.upon,h]
theorem owp_call {P:Program} {Q:Exit→Act→World→Prop} {o:Oper} {K:Act→World→Prop} {a:Act} {w:World}
  {f:FuncId} {args:Array Operand} {ts:Array TypeId} (hop:o.op=.call { callee:=.value (.func f),args:=args,argTypes:=ts }) {vs:Array Value}
  (hc:∀ vs w,(callFunc f vs).run P w=.ok (.enter f vs) w) (hv:args.map a.eval=vs) (h:Calls P f vs w fun r w'=>∃ v,r=.returned v∧K (a.put o.dst v) w'):o.wp P a w K Q:=by
 unfold Oper.wp
 have e:(execOp a.eval o).run P w=.ok (.enter f vs) w:=by
  simp[execOp,hop,resolve,Deferred.ofValue,Act.eval,invoke,hv,hc]
 rw[e,Oper.upon_enter]
 refine h.mono ?_
 rintro r w' ⟨v,rfl,hk⟩
 exact hk
theorem owp_run1 {P:Program} {Q:Exit→Act→World→Prop} {o:Oper} {K:Act→World→Prop} {a:Act} {w w':World} {v:Value}
  (hr:(execOp a.eval o).run P w=.ok (.value v) w') (h:K (a.put o.dst v) w'):o.wp P a w K Q:=by
 unfold Oper.wp
 rw[hr]
 exact h
def Stays (P:World→Value→Prop):Prop:=∀ W W' A,Bw W W'→P W A→P W' A
def StaysAll:List (World→Value→Prop)→Prop
 | []=>True
 | P :: r=>Stays P∧StaysAll r
def vL (L:List (World→Value→Prop)) (j:Nat):World→Value→Prop:=L[j]?.getD (fun _ _=>False)
def dL (D:List (List Nat)) (j:Nat):List Nat:=D[j]?.getD []
def isV (x:Value):World→Value→Prop:=fun _ u=>u=x
theorem isV_stays (x:Value):Stays (isV x):=fun _ _ _ _ h=>h
theorem vL_stays:∀ {L:List (World→Value→Prop)},StaysAll L→∀ j,Stays (vL L j)
 | [],_,j=>fun W W' A hb h=>by simp[vL] at h
 | P :: r,hL,0=>hL.1
 | P :: r,hL,j+1=>by
  have:=vL_stays hL.2 j
  exact this
theorem valL_region {P:Program} {ops:Array Oper} {Q:Exit→Act→World→Prop} {id:Nat} (hm:P.follows .mixedOrders=true) (m sl:Nat) (D:List (List Nat))
  (W0:World) (a0:Act) (L:List (World→Value→Prop)) (hchk:vchk ops m sl (dL D)=true)
  (hV1:StaysAll L) (hin:sl+m≤a0.tmps.size)
  (hA:∀ j,j<m→∀ o,ops[j]?=some o→∀ (a:Act) (w:World),Bw W0 w→(∀ s:Nat,(s<sl∨sl+m≤s)→a.tmps[s]?=a0.tmps[s]?) →
   (∀ j' ∈ dL D j,∃ u,a.tmps[sl+j']?=some u∧vL L j' w u)→o.wp P a w (fun a' w'=>∃ u,a'=a.put o.dst u∧vL L j w' u∧Bw w w') Q)
  (hL:∀ o,ops[m]?=some o→∀ (u:Nat→Value) (w:World),Bw W0 w→(∀ j,j<m→vL L j w (u j)) →
   o.wp P (putL a0 ((List.range m).map (fun j=>(sl+j,u j)))) w (fun a' w'=>Q .normal a' w') Q) :
  (Code.region id ops true).wp P Q a0 W0 :=
 val_region hm m sl (dL D) W0 a0 (vL L) hchk (fun j w w' u hb h=>vL_stays hV1 j w w' u hb h) hin hA hL
theorem owp_store {P:Program} {Q:Exit→Act→World→Prop} {o:Oper} {K:Act→World→Prop} {a:Act} {w:World}
  {ty:TypeId} {s v:Tmp} (hop:o.op=.store ty (.tmp s) (.tmp v)) {g:Nat} {old cs:Array Value}
  (hs:a.tmps[s]?=some (.pointer (some ⟨g,0,none⟩))) (hv:a.tmps[v]?=some (.agg cs)) (hb:w.heap[g]?=some (.cells old ty (0,0))) (hn:(P.info? ty).map (·.size)=some cs.size) (ho:old.size=cs.size) (h1:cs.all (·.oneCell')=true)
  (h:K (a.put o.dst undef) (w.setRow g cs)):o.wp P a w K Q:=by
 unfold Oper.wp
 simp[execOp,hop,eval_get hs,eval_get hv,Instr.storeAt,Instr.sureAddr,run_storeVar_row w g ty ty old cs hb hn ho h1,Result.andThen,Oper.upon,h]
end Go.Proofs.YtcdkkpjilgmncaaGreatDoor
namespace Go.Proofs.YtcdkkpjilgmncaaGreatDoor
open Go.RowKit Go.Fl64
theorem run_fr0 (g:Nat) (w:World):(Instr.fieldAt 45 (.pointer (some ⟨g,0,none⟩)) 0).run Tryz.prog w=.ok (.pointer (some ⟨g,0,none⟩)) w:=by kernel_rfl
theorem run_fr1 (g:Nat) (w:World):(Instr.fieldAt 45 (.pointer (some ⟨g,0,none⟩)) 1).run Tryz.prog w=.ok (.pointer (some ⟨g,3,none⟩)) w:=by kernel_rfl
theorem run_ldN (g o:Nat) (s:Bool) (ao:Option Addr) (n cp:Nat) (e:Int) (w:World) (h0:w.cell? ⟨g,o,none⟩=some (.bool s)) (h1:w.cell? ⟨g,o+1,none⟩=some (.slice ao n cp)) (h2:w.cell? ⟨g,o+2,none⟩=some (.int .i64 e)):(Instr.loadAt 28 (.pointer (some ⟨g,o,none⟩))).run Tryz.prog w=.ok (.agg #[.bool s,.slice ao n cp,.int .i64 e]) w :=
 run_loadAt_mid w g o 28 [.bool s,.slice ao n cp,.int .i64 e] _ (fun j v hv=>by
  match j with
  | 0=>simp at hv;subst hv;exact h0
  | 1=>simp at hv;subst hv;exact h1
  | 2=>simp at hv;subst hv;exact h2
  | k+3=>simp at hv) Tryz.underlying28 rfl Tryz.info28
theorem run_bF (s1:Bool) (ao1:Option Addr) (n1 cp1:Nat) (e1:Int) (s2:Bool) (ao2:Option Addr) (n2 cp2:Nat) (e2:Int) (w:World) :
  (Instr.build 45 #[(0,.agg #[.bool s1,.slice ao1 n1 cp1,.int .i64 e1]),(1,.agg #[.bool s2,.slice ao2 n2 cp2,.int .i64 e2])]).run Tryz.prog w=.ok (.agg #[.bool s1,.slice ao1 n1 cp1,.int .i64 e1,.bool s2,.slice ao2 n2 cp2,.int .i64 e2]) w:=run_build w _ _ _ (by kernel_rfl)
theorem one6F (s1:Bool) (ao1:Option Addr) (n1 cp1:Nat) (e1:Int) (s2:Bool) (ao2:Option Addr) (n2 cp2:Nat) (e2:Int):(#[.bool s1,.slice ao1 n1 cp1,.int .i64 e1,.bool s2,.slice ao2 n2 cp2,.int .i64 e2]:Array Value).all (·.oneCell')=true:=by
 have c1:∀ b,(Value.bool b).oneCell'=true:=fun _=>rfl
 have c2:∀ a n c,(Value.slice a n c).oneCell'=true:=fun _ _ _=>rfl
 have c3:∀ e,(Value.int .i64 e).oneCell'=true:=fun _=>rfl
 simp only[List.all_toArray,List.all_cons,List.all_nil,c1,c2,c3,Bool.and_self]
def isP (T:Bool×Nat×Int):World→Value→Prop:=fun w u=>PN w u T
theorem isP_stays (T:Bool×Nat×Int):Stays (isP T):=fun _ _ _ hb h=>PN.later h hb
def isF (T T':Bool×Nat×Int):World→Value→Prop:=fun w u=>Fv w u T T'
theorem isF_stays (T T':Bool×Nat×Int):Stays (isF T T'):=fun _ _ _ hb h=>Fv.later h hb
theorem PN.row6 {W:World} {A:Value} {t:Bool×Nat×Int} {g:Nat} {T:TypeId} {s1 s2:Bool} {a1 a2:Option Addr} {m1 c1 m2 c2:Nat} {e1 e2:Int} (h:PN W A t) (hE:W.heap[g]?=some (.cells #[.bool s1,.slice a1 m1 c1,.int .i64 e1,.bool s2,.slice a2 m2 c2,.int .i64 e2] T (0,0))) (cs:Array Value):PN (W.setRow g cs) A t :=
 h.cells (.inr hE) fun b hb=>setRow_other W g b cs hb
theorem Fv.row6 {W:World} {U:Value} {t1 t2:Bool×Nat×Int} {g:Nat} {T:TypeId} {s1 s2:Bool} {a1 a2:Option Addr} {m1 c1 m2 c2:Nat} {e1 e2:Int} (h:Fv W U t1 t2) (hE:W.heap[g]?=some (.cells #[.bool s1,.slice a1 m1 c1,.int .i64 e1,.bool s2,.slice a2 m2 c2,.int .i64 e2] T (0,0))) (cs:Array Value):Fv (W.setRow g cs) U t1 t2:=by
 obtain⟨_,_,_,_,_,_,_,_,_,_,e,h1,h2⟩:=h
 exact⟨_,_,_,_,_,_,_,_,_,_,e,h1.row6 hE _,h2.row6 hE _⟩
theorem lt13 {k:Nat} (h:k<13):k=0∨k=1∨k=2∨k=3∨k=4∨k=5∨k=6∨k=7∨k=8∨k=9∨k=10∨k=11∨k=12:=by omega
theorem cont_1 (s1:Bool) (ao1:Option Addr) (n1 cp1:Nat) (e1:Int) (s2:Bool) (ao2:Option Addr) (n2 cp2:Nat) (e2:Int) (s3:Bool) (ao3:Option Addr) (n3 cp3:Nat) (e3:Int) (s4:Bool) (ao4:Option Addr) (n4 cp4:Nat) (e4:Int) (s5:Bool) (ao5:Option Addr) (n5 cp5:Nat) (e5:Int) (TP TQ:Bool×Nat×Int) (w:World)
  (k1:∀ W,Bw w W→Calls Tryz.prog 86 #[(.agg #[.bool s1,.slice ao1 n1 cp1,.int .i64 e1]),(.agg #[.bool s3,.slice ao3 n3 cp3,.int .i64 e3]),(.agg #[.bool s5,.slice ao5 n5 cp5,.int .i64 e5])] W fun r w'=>OutP W TP r w')
  (k2:∀ W,Bw w W→Calls Tryz.prog 86 #[(.agg #[.bool s2,.slice ao2 n2 cp2,.int .i64 e2]),(.agg #[.bool s4,.slice ao4 n4 cp4,.int .i64 e4]),(.agg #[.bool s5,.slice ao5 n5 cp5,.int .i64 e5])] W fun r w'=>OutP W TQ r w') :
  Calls Tryz.prog 41 #[.agg #[.bool s1,.slice ao1 n1 cp1,.int .i64 e1,.bool s2,.slice ao2 n2 cp2,.int .i64 e2],.agg #[.bool s3,.slice ao3 n3 cp3,.int .i64 e3,.bool s4,.slice ao4 n4 cp4,.int .i64 e4],.agg #[.bool s5,.slice ao5 n5 cp5,.int .i64 e5]] w fun r w'=>OutFv w TP TQ r w':=by
 obtain⟨W,hW⟩:∃ W,W=(((w.alloc (.cells #[.bool s1,.slice ao1 n1 cp1,.int .i64 e1,.bool s2,.slice ao2 n2 cp2,.int .i64 e2] 45)).alloc (.cells #[.bool s3,.slice ao3 n3 cp3,.int .i64 e3,.bool s4,.slice ao4 n4 cp4,.int .i64 e4] 45)).alloc (.cells #[.bool s5,.slice ao5 n5 cp5,.int .i64 e5] 28)).alloc (.cells #[.bool false,.slice none 0 0,.int .i64 0,.bool false,.slice none 0 0,.int .i64 0] 45):=⟨_,rfl⟩
 obtain⟨hF,hG,hN,hR,hBW⟩:=four_new _ _ _ _ hW
 have HK1:Hid _:=k1
 have HK2:Hid _:=k2
 have HH:Hid (W.heap[w.heap.size]?=some (.cells #[.bool s1,.slice ao1 n1 cp1,.int .i64 e1,.bool s2,.slice ao2 n2 cp2,.int .i64 e2] 45 (0,0))∧W.heap[w.heap.size+1]?=some (.cells #[.bool s3,.slice ao3 n3 cp3,.int .i64 e3,.bool s4,.slice ao4 n4 cp4,.int .i64 e4] 45 (0,0))∧W.heap[w.heap.size+1+1]?=some (.cells #[.bool s5,.slice ao5 n5 cp5,.int .i64 e5] 28 (0,0))∧W.heap[w.heap.size+1+1+1]?=some (.cells #[.bool false,.slice none 0 0,.int .i64 0,.bool false,.slice none 0 0,.int .i64 0] 45 (0,0))∧Bw w W):=⟨hF,hG,hN,hR,hBW⟩
 clear k1 k2 hF hG hN hR hBW
 go_enter Tryz.func41,Tryz.ntmps41
 go_upto_region 1 with fail
 rw[←hW]
 clear hW
 obtain⟨hF,hG,hN,hR,hBW⟩:=HH.out
 have ld:∀ {V:World} {g:Nat} {o:Obj},Bw W V→W.heap[g]?=some o→V.heap[g]?=some o:=fun hb h=>(hb.block _ (Array.getElem?_eq_some_iff.1 h).1).trans h
 refine valL_region follows_mixed 13 7 [[],[0],[],[2],[],[1,3,4],[],[6],[],[8],[],[7,9,10],[5,11]] W _
  [isV (.pointer (some ⟨w.heap.size,0,none⟩)),isV (.agg #[.bool s1,.slice ao1 n1 cp1,.int .i64 e1]),isV (.pointer (some ⟨w.heap.size+1,0,none⟩)),isV (.agg #[.bool s3,.slice ao3 n3 cp3,.int .i64 e3]),isV (.agg #[.bool s5,.slice ao5 n5 cp5,.int .i64 e5]),isP TP,isV (.pointer (some ⟨w.heap.size,3,none⟩)),isV (.agg #[.bool s2,.slice ao2 n2 cp2,.int .i64 e2]),isV (.pointer (some ⟨w.heap.size+1,3,none⟩)),isV (.agg #[.bool s4,.slice ao4 n4 cp4,.int .i64 e4]),isV (.agg #[.bool s5,.slice ao5 n5 cp5,.int .i64 e5]),isP TQ,isF TP TQ] (by kernel_rfl)
  ⟨isV_stays _,isV_stays _,isV_stays _,isV_stays _,isV_stays _,isP_stays _,isV_stays _,isV_stays _,isV_stays _,isV_stays _,isV_stays _,isP_stays _,isF_stays _ _,trivial⟩ (by show 20≤20;decide) ?_ ?_
 ·intro k hk o ho a V hbV hoth hdep
  have c1:=(cells6F (ld hbV hF)).1
  have c2:=(cells6F (ld hbV hG)).1
  have c3:=(cells3N (ld hbV hN)).1
  rcases lt13 hk with rfl|rfl|rfl|rfl|rfl|rfl|rfl|rfl|rfl|rfl|rfl|rfl|rfl
  ·obtain rfl:=Option.some.inj ho
   have h0:a.tmps[(3:Nat)]?=some (Value.pointer (some ⟨w.heap.size,0,none⟩)):=(hoth 3 (by omega)).trans rfl
   exact owp_run1 (w':=V) (v:=_) (by simp[execOp,eval_get h0,run_fr0]) ⟨_,rfl,rfl,Below.refl _ _⟩
  ·obtain rfl:=Option.some.inj ho
   obtain⟨u0,h0,v0⟩:=hdep 0 (by simp[dL])
   obtain rfl:u0=_:=v0
   exact owp_run1 (w':=V) (v:=(.agg #[.bool s1,.slice ao1 n1 cp1,.int .i64 e1])) (by simp[execOp,eval_get h0,run_ldN _ 0 s1 ao1 n1 cp1 e1 V c1.1 c1.2.1 c1.2.2.1]) ⟨_,rfl,rfl,Below.refl _ _⟩
  ·obtain rfl:=Option.some.inj ho
   have h0:a.tmps[(4:Nat)]?=some (Value.pointer (some ⟨w.heap.size+1,0,none⟩)):=(hoth 4 (by omega)).trans rfl
   exact owp_run1 (w':=V) (v:=_) (by simp[execOp,eval_get h0,run_fr0]) ⟨_,rfl,rfl,Below.refl _ _⟩
  ·obtain rfl:=Option.some.inj ho
   obtain⟨u0,h0,v0⟩:=hdep 2 (by simp[dL])
   obtain rfl:u0=_:=v0
   exact owp_run1 (w':=V) (v:=(.agg #[.bool s3,.slice ao3 n3 cp3,.int .i64 e3])) (by simp[execOp,eval_get h0,run_ldN _ 0 s3 ao3 n3 cp3 e3 V c2.1 c2.2.1 c2.2.2.1]) ⟨_,rfl,rfl,Below.refl _ _⟩
  ·obtain rfl:=Option.some.inj ho
   have h0:a.tmps[(5:Nat)]?=some (Value.pointer (some ⟨w.heap.size+1+1,0,none⟩)):=(hoth 5 (by omega)).trans rfl
   exact owp_run1 (w':=V) (v:=(.agg #[.bool s5,.slice ao5 n5 cp5,.int .i64 e5])) (by simp[execOp,eval_get h0,run_ldN _ 0 s5 ao5 n5 cp5 e5 V c3.1 c3.2.1 c3.2.2]) ⟨_,rfl,rfl,Below.refl _ _⟩
  ·obtain rfl:=Option.some.inj ho
   obtain⟨u0,h0,v0⟩:=hdep 1 (by simp[dL])
   obtain rfl:u0=_:=v0
   obtain⟨u1,h1,v1⟩:=hdep 3 (by simp[dL])
   obtain rfl:u1=_:=v1
   obtain⟨u2,h2,v2⟩:=hdep 4 (by simp[dL])
   obtain rfl:u2=_:=v2
   refine owp_call rfl (enters Tryz.func86 (by kernel_rfl) (by kernel_rfl)) (vs:=#[(.agg #[.bool s1,.slice ao1 n1 cp1,.int .i64 e1]),(.agg #[.bool s3,.slice ao3 n3 cp3,.int .i64 e3]),(.agg #[.bool s5,.slice ao5 n5 cp5,.int .i64 e5])]) (by simp only[List.map_toArray,List.map_cons,List.map_nil];rw[eval_get h0,eval_get h1,eval_get h2]) ?_
   refine(HK1.out V (hBW.trans (hbV.mono hBW.size))).mono ?_
   rintro r w' ⟨s',ao',n',cap',e',rfl,hP,hb'⟩
   exact⟨_,rfl,_,rfl,hP,hb'⟩
  ·obtain rfl:=Option.some.inj ho
   have h0:a.tmps[(3:Nat)]?=some (Value.pointer (some ⟨w.heap.size,0,none⟩)):=(hoth 3 (by omega)).trans rfl
   exact owp_run1 (w':=V) (v:=_) (by simp[execOp,eval_get h0,run_fr1]) ⟨_,rfl,rfl,Below.refl _ _⟩
  ·obtain rfl:=Option.some.inj ho
   obtain⟨u0,h0,v0⟩:=hdep 6 (by simp[dL])
   obtain rfl:u0=_:=v0
   exact owp_run1 (w':=V) (v:=(.agg #[.bool s2,.slice ao2 n2 cp2,.int .i64 e2])) (by simp[execOp,eval_get h0,run_ldN _ 3 s2 ao2 n2 cp2 e2 V c1.2.2.2.1 c1.2.2.2.2.1 c1.2.2.2.2.2]) ⟨_,rfl,rfl,Below.refl _ _⟩
  ·obtain rfl:=Option.some.inj ho
   have h0:a.tmps[(4:Nat)]?=some (Value.pointer (some ⟨w.heap.size+1,0,none⟩)):=(hoth 4 (by omega)).trans rfl
   exact owp_run1 (w':=V) (v:=_) (by simp[execOp,eval_get h0,run_fr1]) ⟨_,rfl,rfl,Below.refl _ _⟩
  ·obtain rfl:=Option.some.inj ho
   obtain⟨u0,h0,v0⟩:=hdep 8 (by simp[dL])
   obtain rfl:u0=_:=v0
   exact owp_run1 (w':=V) (v:=(.agg #[.bool s4,.slice ao4 n4 cp4,.int .i64 e4])) (by simp[execOp,eval_get h0,run_ldN _ 3 s4 ao4 n4 cp4 e4 V c2.2.2.2.1 c2.2.2.2.2.1 c2.2.2.2.2.2]) ⟨_,rfl,rfl,Below.refl _ _⟩
  ·obtain rfl:=Option.some.inj ho
   have h0:a.tmps[(5:Nat)]?=some (Value.pointer (some ⟨w.heap.size+1+1,0,none⟩)):=(hoth 5 (by omega)).trans rfl
   exact owp_run1 (w':=V) (v:=(.agg #[.bool s5,.slice ao5 n5 cp5,.int .i64 e5])) (by simp[execOp,eval_get h0,run_ldN _ 0 s5 ao5 n5 cp5 e5 V c3.1 c3.2.1 c3.2.2]) ⟨_,rfl,rfl,Below.refl _ _⟩
  ·obtain rfl:=Option.some.inj ho
   obtain⟨u0,h0,v0⟩:=hdep 7 (by simp[dL])
   obtain rfl:u0=_:=v0
   obtain⟨u1,h1,v1⟩:=hdep 9 (by simp[dL])
   obtain rfl:u1=_:=v1
   obtain⟨u2,h2,v2⟩:=hdep 10 (by simp[dL])
   obtain rfl:u2=_:=v2
   refine owp_call rfl (enters Tryz.func86 (by kernel_rfl) (by kernel_rfl)) (vs:=#[(.agg #[.bool s2,.slice ao2 n2 cp2,.int .i64 e2]),(.agg #[.bool s4,.slice ao4 n4 cp4,.int .i64 e4]),(.agg #[.bool s5,.slice ao5 n5 cp5,.int .i64 e5])]) (by simp only[List.map_toArray,List.map_cons,List.map_nil];rw[eval_get h0,eval_get h1,eval_get h2]) ?_
   refine(HK2.out V (hBW.trans (hbV.mono hBW.size))).mono ?_
   rintro r w' ⟨s',ao',n',cap',e',rfl,hP,hb'⟩
   exact⟨_,rfl,_,rfl,hP,hb'⟩
  ·obtain rfl:=Option.some.inj ho
   obtain⟨u0,h0,v0⟩:=hdep 5 (by simp[dL])
   obtain⟨u1,h1,v1⟩:=hdep 11 (by simp[dL])
   have v0':PN V u0 TP:=v0
   have v1':PN V u1 TQ:=v1
   obtain⟨sa,aoa,na,cpa,ea,rfl⟩:=v0'.shape
   obtain⟨sb,aob,nb,cpb,eb,rfl⟩:=v1'.shape
   exact owp_run1 (w':=V) (v:=.agg #[.bool sa,.slice aoa na cpa,.int .i64 ea,.bool sb,.slice aob nb cpb,.int .i64 eb]) (by simp[execOp,eval_get h0,eval_get h1,run_bF]) ⟨_,rfl,⟨_,_,_,_,_,_,_,_,_,_,rfl,v0',v1'⟩,Below.refl _ _⟩
 ·intro o ho u V hbV hu
  have hop:o.op=.store 45 (.tmp 6) (.tmp 19):=by rw[←Option.some.inj ho];rfl
  have hds:o.dst=none:=by rw[←Option.some.inj ho];rfl
  clear ho
  have e12:Fv V (u 12) TP TQ:=hu 12 (by omega)
  obtain⟨sa,aoa,na,cpa,ea,sb,aob,nb,cpb,eb,hsh,q1,q2⟩:=e12
  have hCV:=ld hbV hR
  obtain⟨V1,hV1⟩:∃ V1,V1=V.setRow (w.heap.size+1+1+1) #[.bool sa,.slice aoa na cpa,.int .i64 ea,.bool sb,.slice aob nb cpb,.int .i64 eb]:=⟨_,rfl⟩
  have HX:Hid (V1.heap[w.heap.size+1+1+1]?=some (.cells #[.bool sa,.slice aoa na cpa,.int .i64 ea,.bool sb,.slice aob nb cpb,.int .i64 eb] 45 (0,0))∧Fv V1 (.agg #[.bool sa,.slice aoa na cpa,.int .i64 ea,.bool sb,.slice aob nb cpb,.int .i64 eb]) TP TQ∧Bw w V1):=(by
   rw[hV1]
   exact⟨setRow_heap _ _ _ _ _ _ hCV,⟨_,_,_,_,_,_,_,_,_,_,rfl,q1.row6 hCV _,q2.row6 hCV _⟩,below_row (hBW.trans (hbV.mono hBW.size)) (by omega) _⟩:V1.heap[w.heap.size+1+1+1]?=some (.cells #[.bool sa,.slice aoa na cpa,.int .i64 ea,.bool sb,.slice aob nb cpb,.int .i64 eb] 45 (0,0))∧Fv V1 (.agg #[.bool sa,.slice aoa na cpa,.int .i64 ea,.bool sb,.slice aob nb cpb,.int .i64 eb]) TP TQ∧Bw w V1)
  clear hu q1 q2 hF hG hN hR
  simp only[putL,show List.range 13 = [0,1,2,3,4,5,6,7,8,9,10,11,12] from rfl,List.map_cons,List.map_nil,List.cons_append,List.nil_append,List.foldl_cons,List.foldl_nil,Nat.reduceLT,Nat.reduceMod,Nat.reduceDiv,Nat.reduceMul,Nat.reduceAdd,Nat.reduceEqDiff,reduceIte,Nat.one_ne_zero,Act.put,List.setIfInBounds_toArray,List.set_cons_zero,List.set_cons_succ]
  rw[hsh]
  refine owp_store hop (g:=w.heap.size+1+1+1) (cs:=#[.bool sa,.slice aoa na cpa,.int .i64 ea,.bool sb,.slice aob nb cpb,.int .i64 eb]) rfl rfl hCV (by kernel_rfl) rfl (one6F _ _ _ _ _ _ _ _ _ _) ?_
  rw[hds,←hV1]
  simp only[Act.put]
  clear hV1 hCV
  go_wp2_with fail
  refine bodyPost_ret (results_cell_row rfl _ _ (w.heap.size+1+1+1) 45 #[.bool sa,.slice aoa na cpa,.int .i64 ea,.bool sb,.slice aob nb cpb,.int .i64 eb] (0,0) _ rfl HX.out.1 Tryz.underlying45 rfl (by kernel_rfl)) rfl ?_
  exact⟨_,rfl,HX.out.2.1,HX.out.2.2⟩
theorem nabs {A k:Nat} (h:A<2^k):((A:Nat):Int).natAbs<2^k:=by rw[Int.natAbs_natCast];exact h
theorem CN2.of {f:FuncId} {t1 t2 t3:Bool×Nat×Int} (h:Op2 f t1 t2 t3) {w:World} {X Y:Value} (hT:Tab32 w) (hX:PN w X t1) (hY:PN w Y t2):CN2 w f X Y t3:=fun W hW=>h W X Y (hT.later hW) (hX.later hW) (hY.later hW)
theorem mul_lt2 {a b k l:Nat} (h1:a<2^k) (h2:b<2^l):a*b<2^(k+l):=by rw[Nat.pow_add];exact Nat.mul_lt_mul'' h1 h2
theorem pmulN {a b p k l:Nat} (h1:a<2^k) (h2:b<2^l) (hk:k+l≤60000) (hp:p≤60000):Op2 84 (un (a:Int) 0) (un (b:Int) p) (un ((a*b:Nat):Int) p):=by
 have:=pmul_un (p:=0) (q:=p) (nabs h1) (nabs h2) hk (by omega)
 rw[Nat.zero_add,←Int.natCast_mul] at this
 exact this
theorem paddN {a b p k:Nat} (h1:a<2^k) (h2:b<2^k) (hk:k<60000) (hp:p≤60000):Op2 39 (un (a:Int) p) (un (b:Int) p) (un ((a+b:Nat):Int) p):=by
 have:=padd_un (p:=p) (nabs h1) (nabs h2) hk hp
 rw[←Int.natCast_add] at this
 exact this
theorem psubN {a b p k:Nat} (h1:a<2^k) (hle:b≤a) (hk:k<60000) (hp:p≤60000):Op2 87 (un (a:Int) p) (un (b:Int) p) (un ((a - b:Nat):Int) p):=by
 have:=psub_un (p:=p) (nabs h1) (nabs (Nat.lt_of_le_of_lt hle h1)) hk hp
 rw[←Int.natCast_sub hle] at this
 exact this
theorem cmpI_nat {a b:Nat}:decide (cmpI (a:Int) (b:Int)<0)=decide (a<b):=by
 rcases cmpI_cases (a:Int) (b:Int)with h|h|h
 ·rw[h.2,decide_eq_true (show a<b by omega)];rfl
 ·rw[h.2,decide_eq_false (show ¬ a<b by omega)];rfl
 ·rw[h.2,decide_eq_false (show ¬ a<b by omega)];rfl
theorem floor_un {A B k:Nat} {W:World} {U:Value} (hT:Tab32 W) (h:Fv W U (un (A:Int) 1074) (un (B:Int) 1074)) (h1:A<2^k) (h2:B<2^k) (h0:0<B) (hk:k≤20000) :
  Calls Tryz.prog 38 #[U] W fun r w'=>∃ s ao n cap e,r=.returned (.tuple #[.agg #[.bool s,.slice ao n cap,.int .i64 e],.bool (decide (A % B=0))])∧PN w' (.agg #[.bool s,.slice ao n cap,.int .i64 e]) (un ((A / B:Nat):Int) 0)∧Bw W w':=by
 obtain⟨s1,ao1,n1,cp1,e1,s2,ao2,n2,cp2,e2,rfl,p1,p2⟩:=h
 exact ffloor_1 s1 ao1 n1 cp1 e1 s2 ao2 n2 cp2 e2 _ _ W fun V hV=>pquo_un h1 h2 h0 (by omega) (by omega) (hT.later hV) (p1.later hV) (p2.later hV)
theorem below_un {C D n k:Nat} {W:World} {U N:Value} (hT:Tab32 W) (h:Fv W U (un (C:Int) 1074) (un (D:Int) 1074)) (hN:PN W N (un (n:Int) 0)) (h1:C<2^k) (h2:D<2^k) (h3:n<2^k) (hk:k≤20000) :
  Calls Tryz.prog 40 #[U,N] W fun r w'=>r=.returned (.bool (decide (C<n*D)))∧Bw W w':=by
 obtain⟨s1,ao1,n1,cp1,e1,s2,ao2,n2,cp2,e2,rfl,p1,p2⟩:=h
 obtain⟨s3,ao3,n3,cp3,e3,rfl⟩:=hN.shape
 have:=fbelow_1 s1 ao1 n1 cp1 e1 s2 ao2 n2 cp2 e2 s3 ao3 n3 cp3 e3 (cmpI (C:Int) ((n*D:Nat):Int)) (un ((n*D:Nat):Int) 1074) W (CN2.of (pmulN h3 h2 (by omega) (by omega)) hT hN p2) fun V Y hV hY=>pcmp_un (k:=k+k) (nabs (pow_grow k h1)) (nabs (mul_lt2 h3 h2)) (by omega) (by omega) (p1.later hV) hY
 rw[cmpI_nat] at this
 exact this
theorem rest_un {C D n k:Nat} {W:World} {U N:Value} (hT:Tab32 W) (h:Fv W U (un (C:Int) 1074) (un (D:Int) 1074)) (hN:PN W N (un (n:Int) 0)) (h1:C<2^k) (h2:D<2^k) (h3:n<2^k) (hle:n*D≤C) (hk:k≤20000) :
  Calls Tryz.prog 42 #[U,N] W fun r w'=>OutFv W (un (D:Int) 1074) (un ((C - n*D:Nat):Int) 1074) r w':=by
 obtain⟨s1,ao1,n1,cp1,e1,s2,ao2,n2,cp2,e2,rfl,p1,p2⟩:=h
 obtain⟨s3,ao3,n3,cp3,e3,rfl⟩:=hN.shape
 exact frest_1 s1 ao1 n1 cp1 e1 s2 ao2 n2 cp2 e2 s3 ao3 n3 cp3 e3 _ (un ((n*D:Nat):Int) 1074) _ W p2 (CN2.of (pmulN h3 h2 (by omega) (by omega)) hT hN p2) fun V Y hV hY=>psubN h1 hle (by omega) (by omega) V _ _ (hT.later hV) (p1.later hV) hY
theorem andtimes_un {a b n k:Nat} {W:World} {X Y N:Value} (hT:Tab32 W) (hX:PN W X (un (a:Int) 0)) (hY:PN W Y (un (b:Int) 0)) (hN:PN W N (un (n:Int) 0)) (h1:a<2^k) (h2:b<2^k) (h3:n<2^k) (hk:k≤20000) :
  Calls Tryz.prog 86 #[X,Y,N] W fun r w'=>OutP W (un ((a+b*n:Nat):Int) 0) r w':=by
 obtain⟨s1,ao1,n1,cp1,e1,rfl⟩:=hX.shape
 obtain⟨s2,ao2,n2,cp2,e2,rfl⟩:=hY.shape
 obtain⟨s3,ao3,n3,cp3,e3,rfl⟩:=hN.shape
 exact andtimes_1 s1 ao1 n1 cp1 e1 s2 ao2 n2 cp2 e2 s3 ao3 n3 cp3 e3 (un ((b*n:Nat):Int) 0) _ W (CN2.of (pmulN h2 h3 (by omega) (by omega)) hT hY hN) fun V Z hV hZ=>paddN (k:=k+k) (pow_grow k h1) (mul_lt2 h2 h3) (by omega) (by omega) V _ _ (hT.later hV) (hX.later hV) hZ
theorem cont_un {bp bq lp lq n k:Nat} {W:World} {U V N:Value} (hT:Tab32 W) (hU:Fv W U (un (bp:Int) 0) (un (bq:Int) 0)) (hV:Fv W V (un (lp:Int) 0) (un (lq:Int) 0)) (hN:PN W N (un (n:Int) 0)) (h1:bp<2^k) (h2:bq<2^k) (h3:lp<2^k) (h4:lq<2^k) (h5:n<2^k) (hk:k≤20000) :
  Calls Tryz.prog 41 #[U,V,N] W fun r w'=>OutFv W (un ((bp+lp*n:Nat):Int) 0) (un ((bq+lq*n:Nat):Int) 0) r w':=by
 obtain⟨s1,ao1,n1,cp1,e1,s2,ao2,n2,cp2,e2,rfl,p1,p2⟩:=hU
 obtain⟨s3,ao3,n3,cp3,e3,s4,ao4,n4,cp4,e4,rfl,p3,p4⟩:=hV
 obtain⟨s5,ao5,n5,cp5,e5,rfl⟩:=hN.shape
 exact cont_1 s1 ao1 n1 cp1 e1 s2 ao2 n2 cp2 e2 s3 ao3 n3 cp3 e3 s4 ao4 n4 cp4 e4 s5 ao5 n5 cp5 e5 _ _ W
  (fun X hX=>andtimes_un (hT.later hX) (p1.later hX) (p3.later hX) (hN.later hX) h1 h3 h5 hk)
  (fun X hX=>andtimes_un (hT.later hX) (p2.later hX) (p4.later hX) (hN.later hX) h2 h4 h5 hk)
end Go.Proofs.YtcdkkpjilgmncaaGreatDoor
/- Products and quotients of floats of which one is nought or not finite. -/
namespace Go.Fl64
def pln (a:Nat):Bool:=decide (mag a<9218868437227405312)&&decide (mag a≠0)
theorem pln_false {a:Nat}:pln a=false↔(¬ mag a<9218868437227405312∨mag a=0):=by
 unfold pln
 by_cases h1:mag a<9218868437227405312 <;> by_cases h2:mag a=0 <;> simp[h1,h2]
theorem pln_true {a:Nat}:pln a=true↔(mag a<9218868437227405312∧mag a≠0):=by
 unfold pln
 by_cases h1:mag a<9218868437227405312 <;> by_cases h2:mag a=0 <;> simp[h1,h2]
theorem write_inf (s:Bool):Ieee.double.write (.infinity s)=sig s 9218868437227405312:=by cases s <;> decide +kernel
theorem write_nought (s:Bool) (e:Int):Ieee.double.write (.number s 0 e)=sig s 0:=by
 have:Ieee.double.write (.number s 0 e)=Ieee.double.word s 0:=by
  show Ieee.double.nearest s 0 e=_
  unfold Ieee.Format.nearest
  rw[if_pos rfl]
 rw[this]
 cases s <;> decide +kernel
theorem prod_nan_left (d:Ieee.Datum) (s:Bool) (f:Nat):Ieee.Datum.product (.nan s f) d=none:=by cases d <;> rfl
theorem prod_nan_right (d:Ieee.Datum) (s:Bool) (f:Nat):Ieee.Datum.product d (.nan s f)=none:=by cases d <;> rfl
theorem quot_nan_left (n:Nat) (d:Ieee.Datum) (s:Bool) (f:Nat):Ieee.Datum.quotient n (.nan s f) d=none:=by cases d <;> rfl
theorem quot_nan_right (n:Nat) (d:Ieee.Datum) (s:Bool) (f:Nat):Ieee.Datum.quotient n d (.nan s f)=none:=by cases d <;> rfl
def mulX (a b:Nat):Nat :=
 if isNaN a||isNaN b then 9221120237041090560
 else if mag a=9218868437227405312∨mag b=9218868437227405312 then(if mag a=0∨mag b=0 then 9221120237041090560 else sig (neg a != neg b) 9218868437227405312)
 else sig (neg a != neg b) 0
def divX (a b:Nat):Nat :=
 if isNaN a||isNaN b||(decide (mag a=9218868437227405312)&&decide (mag b=9218868437227405312))||(decide (mag a=0)&&decide (mag b=0))then 9221120237041090560
 else if mag a=9218868437227405312∨mag b=0 then sig (neg a != neg b) 9218868437227405312
 else sig (neg a != neg b) 0
theorem xor_bne (s t:Bool):(s ^^ t)=(s != t):=by cases s <;> cases t <;> rfl
theorem nan_of {a:Nat} (h:9218868437227405312<mag a):isNaN a=true:=by unfold isNaN;simp;omega
theorem nan_no {a:Nat} (h:mag a≤9218868437227405312):isNaN a=false:=by unfold isNaN;simp;omega
theorem num_nought {a m k:Nat} (e:m*2^k=val (mag a)):m=0↔mag a=0:=by
 have hp:=Nat.two_pow_pos k
 constructor
 ·intro h
  rw[h,Nat.zero_mul] at e
  exact(val_eq_zero _).1 e.symm
 ·intro h
  rw[h,val_zero] at e
  rcases Nat.mul_eq_zero.1 e with h|h
  ·exact h
  ·omega
theorem mul_non {a b:Nat} (ha:a<18446744073709551616) (hb:b<18446744073709551616) (h:pln a=false∨pln b=false) :
  (FloatKind.f64.format.mul a b=none∧isNaN (mulX a b)=true)∨FloatKind.f64.format.mul a b=some (mulX a b):=by
 rw[f64]
 unfold Ieee.Format.mul mulX
 rcases cases3 a with h1|h1|h1
 ·obtain⟨m,k,e1,e2⟩:=read_number a ha h1
  have n1:=nan_no (a:=a) (by omega)
  rw[e1,n1]
  rcases cases3 b with g1|g1|g1
  ·obtain⟨n,j,e3,e4⟩:=read_number b hb g1
   have n2:=nan_no (a:=b) (by omega)
   rw[e3,n2,if_neg (by decide),if_neg (by omega)]
   refine .inr ?_
   simp only[Ieee.Datum.product,Option.map_some]
   have hz:m*n=0:=by
    rcases h with h|h
    ·rcases pln_false.1 h with h|h
     ·omega
     ·rw[(num_nought e2).2 h,Nat.zero_mul]
    ·rcases pln_false.1 h with h|h
     ·omega
     ·rw[(num_nought e4).2 h,Nat.mul_zero]
   rw[hz,write_nought,xor_bne]
  ·have n2:=nan_no (a:=b) (by omega)
   rw[read_infinity b hb g1,n2,if_neg (by decide),if_pos (.inr g1)]
   simp only[Ieee.Datum.product]
   by_cases hz:mag a=0
   ·rw[if_pos ((num_nought e2).2 hz),if_pos (.inl hz)]
    exact .inl ⟨rfl,nan_x⟩
   ·rw[if_neg (fun h=>hz ((num_nought e2).1 h)),if_neg (by omega)]
    refine .inr ?_
    simp only[Option.map_some,write_inf,xor_bne]
    cases neg a <;> cases neg b <;> rfl
  ·obtain⟨s,f,e⟩:=read_nan b g1
   rw[e,nan_of g1,prod_nan_right]
   exact .inl ⟨rfl,by rw[Bool.or_true,if_pos rfl];exact nan_x⟩
 ·have n1:=nan_no (a:=a) (by omega)
  rw[read_infinity a ha h1,n1]
  rcases cases3 b with g1|g1|g1
  ·obtain⟨n,j,e3,e4⟩:=read_number b hb g1
   have n2:=nan_no (a:=b) (by omega)
   rw[e3,n2,if_neg (by decide),if_pos (.inl h1)]
   simp only[Ieee.Datum.product]
   by_cases hz:mag b=0
   ·rw[if_pos ((num_nought e4).2 hz),if_pos (.inr hz)]
    exact .inl ⟨rfl,nan_x⟩
   ·rw[if_neg (fun h=>hz ((num_nought e4).1 h)),if_neg (by omega)]
    refine .inr ?_
    simp only[Option.map_some,write_inf,xor_bne]
  ·have n2:=nan_no (a:=b) (by omega)
   rw[read_infinity b hb g1,n2,if_neg (by decide),if_pos (.inl h1),if_neg (by omega)]
   refine .inr ?_
   simp only[Ieee.Datum.product,Option.map_some,write_inf,xor_bne]
  ·obtain⟨s,f,e⟩:=read_nan b g1
   rw[e,nan_of g1,prod_nan_right]
   exact .inl ⟨rfl,by rw[Bool.or_true,if_pos rfl];exact nan_x⟩
 ·obtain⟨s,f,e⟩:=read_nan a h1
  rw[e,nan_of h1,prod_nan_left]
  exact .inl ⟨rfl,by rw[Bool.true_or,if_pos rfl];exact nan_x⟩
theorem div_non {a b:Nat} (ha:a<18446744073709551616) (hb:b<18446744073709551616) (h:pln a=false∨pln b=false) :
  (FloatKind.f64.format.div a b=none∧isNaN (divX a b)=true)∨FloatKind.f64.format.div a b=some (divX a b):=by
 rw[f64]
 unfold Ieee.Format.div divX
 rcases cases3 a with h1|h1|h1
 ·obtain⟨m,k,e1,e2⟩:=read_number a ha h1
  have n1:=nan_no (a:=a) (by omega)
  rw[e1,n1,decide_eq_false (show ¬ mag a=9218868437227405312 by omega)]
  rcases cases3 b with g1|g1|g1
  ·obtain⟨n,j,e3,e4⟩:=read_number b hb g1
   have n2:=nan_no (a:=b) (by omega)
   rw[e3,n2]
   simp only[Ieee.Datum.quotient]
   by_cases hb0:mag b=0
   ·rw[if_pos ((num_nought e4).2 hb0)]
    by_cases ha0:mag a=0
    ·rw[if_pos ((num_nought e2).2 ha0),decide_eq_true ha0,decide_eq_true hb0]
     exact .inl ⟨rfl,nan_x⟩
    ·rw[if_neg (fun h=>ha0 ((num_nought e2).1 h)),decide_eq_false ha0]
     refine .inr ?_
     simp only[Option.map_some,write_inf,xor_bne]
     rw[if_neg (by simp),if_pos (.inr hb0)]
   ·rw[if_neg (fun h=>hb0 ((num_nought e4).1 h)),decide_eq_false hb0]
    have ha0:mag a=0:=by
     rcases h with h|h
     ·rcases pln_false.1 h with h|h
      ·omega
      ·exact h
     ·rcases pln_false.1 h with h|h
      ·omega
      ·exact absurd h hb0
    have hm0:=(num_nought e2).2 ha0
    refine .inr ?_
    rw[hm0]
    simp only[Nat.zero_shiftLeft,Nat.zero_div,Nat.zero_mod,Option.map_some]
    rw[if_neg (by simp),if_neg (by omega)]
    simp only[bne_self_eq_false,Bool.toNat_false,Nat.mul_zero,Nat.add_zero,write_nought,xor_bne]
  ·have n2:=nan_no (a:=b) (by omega)
   rw[read_infinity b hb g1,n2,if_neg (by simp;omega),if_neg (by omega)]
   refine .inr ?_
   simp only[Ieee.Datum.quotient,Option.map_some,write_nought,xor_bne]
  ·obtain⟨s,f,e⟩:=read_nan b g1
   rw[e,nan_of g1,quot_nan_right]
   exact .inl ⟨rfl,by rw[if_pos (by simp)];exact nan_x⟩
 ·have n1:=nan_no (a:=a) (by omega)
  rw[read_infinity a ha h1,n1,decide_eq_true h1,decide_eq_false (show ¬ mag a=0 by omega)]
  rcases cases3 b with g1|g1|g1
  ·obtain⟨n,j,e3,e4⟩:=read_number b hb g1
   have n2:=nan_no (a:=b) (by omega)
   rw[e3,n2,if_neg (by simp;omega),if_pos (.inl h1)]
   refine .inr ?_
   simp only[Ieee.Datum.quotient,Option.map_some,write_inf,xor_bne]
  ·have n2:=nan_no (a:=b) (by omega)
   rw[read_infinity b hb g1,n2,if_pos (by simp[g1])]
   exact .inl ⟨rfl,nan_x⟩
  ·obtain⟨s,f,e⟩:=read_nan b g1
   rw[e,nan_of g1,quot_nan_right]
   exact .inl ⟨rfl,by rw[if_pos (by simp)];exact nan_x⟩
 ·obtain⟨s,f,e⟩:=read_nan a h1
  rw[e,nan_of h1,quot_nan_left]
  exact .inl ⟨rfl,by rw[if_pos (by simp)];exact nan_x⟩
end Go.Fl64
namespace Go.Proofs.YtcdkkpjilgmncaaGreatDoor
open Go.RowKit Go.Fl64
def OutA (W:World) (t:Bool×Nat×Int) (r:Ending) (w':World):Prop:=∃ s ao n cap e,r=.returned (.agg #[.bool s,.slice ao n cap,.int .i64 e])∧PN w' (.agg #[.bool s,.slice ao n cap,.int .i64 e]) t∧Bw W w'
theorem at_boxP {w:World} {ao:Option Addr} {n z g:Nat} {p q r:Value} (h:At w ao n z) (hg:w.heap[g]?=some (.cells #[p,q,r] 28 (0,0))) (hp:∀ k,p ≠ .int .u32 k) (hq:∀ k,q ≠ .int .u32 k) (hr:∀ k,r ≠ .int .u32 k) (a b c:Value):At (((w.setCell ⟨g,0,none⟩ a).setCell ⟨g,1,none⟩ b).setCell ⟨g,2,none⟩ c) ao n z:=by
 obtain⟨bb,o,h1,h2⟩:=h
 refine⟨bb,o,h1,fun i hi=>?_⟩
 by_cases hb:bb=g
 ·subst hb
  have:=h2 i hi
  simp only[World.cell?,hg] at this
  exfalso
  have hlt:o+i<3:=by
   rcases Nat.lt_or_ge (o+i) 3 with h|h
   ·exact h
   ·rw[Array.getElem?_eq_none (by simpa using h)] at this;simp at this
  rcases(show o+i=0∨o+i=1∨o+i=2 by omega)with h|h|h
  ·rw[h] at this;simp at this;exact hp _ this
  ·rw[h] at this;simp at this;exact hq _ this
  ·rw[h] at this;simp at this;exact hr _ this
 ·rw[World.cell?_setCell_other _ _ _ _ (by intro e;simp at e <;> omega),World.cell?_setCell_other _ _ _ _ (by intro e;simp at e <;> omega),World.cell?_setCell_other _ _ _ _ (by intro e;simp at e <;> omega)]
  exact h2 i hi
theorem pn_store {w:World} {A:Value} {t:Bool×Nat×Int} {g:Nat} (h:PN w A t) (hg:w.heap[g]?=some (.cells #[.bool false,.slice none 0 0,.int .i64 0] 28 (0,0))) (a b c:Value):PN (((w.setCell ⟨g,0,none⟩ a).setCell ⟨g,1,none⟩ b).setCell ⟨g,2,none⟩ c) A t:=by
 obtain⟨ao,cap,h1,ao',cap',e',h2,h3,h4⟩:=h
 exact⟨ao,cap,h1,ao',cap',e',h2,h3,at_boxP h4 hg (by simp) (by simp) (by simp) a b c⟩
theorem exact_1 (a:Nat) (t:Bool×Nat×Int) (w:World)
  (k:∀ W,Bw w W→Calls Tryz.prog 78 #[.float .f64 a] W fun r w'=>∃ s ao n cap e,r=.returned (.tuple #[.agg #[.bool s,.slice ao n cap,.int .i64 e],.int .i64 0])∧PN w' (.agg #[.bool s,.slice ao n cap,.int .i64 e]) t∧Bw W w') :
  Calls Tryz.prog 120 #[.float .f64 a] w fun r w'=>OutA w t r w':=by
 obtain⟨W,hW⟩:∃ W,W=w.alloc (.cells #[.bool false,.slice none 0 0,.int .i64 0] 28):=⟨_,rfl⟩
 have HX:Hid (Bw w W∧W.heap[w.heap.size]?=some (.cells #[.bool false,.slice none 0 0,.int .i64 0] 28 (0,0))):=⟨by rw[hW];exact(Below.refl _ _).alloc (Nat.le_refl _) _,by rw[hW];exact heap_alloc_new _ _⟩
 have k1:=k W HX.out.1
 clear k
 go_enter Tryz.func120,Tryz.ntmps120
 go_wp2_with fail
 rw[←hW]
 clear hW
 refine k1.mono ?_
 rintro r w1 ⟨s1,ao1,n1,cap1,ex1,rfl,hA,hb1⟩
 obtain⟨W1,hW1⟩:∃ W1,W1=w1.alloc (.cells #[.bool s1,.slice ao1 n1 cap1,.int .i64 ex1] 28):=⟨_,rfl⟩
 have hb2:Bw W W1:=by rw[hW1];exact hb1.alloc hb1.size _
 have HY:Hid (PN W1 (.agg #[.bool s1,.slice ao1 n1 cap1,.int .i64 ex1]) t∧Bw w W1∧W1.heap[w1.heap.size]?=some (.cells #[.bool s1,.slice ao1 n1 cap1,.int .i64 ex1] 28 (0,0))∧W1.heap[w.heap.size]?=some (.cells #[.bool false,.slice none 0 0,.int .i64 0] 28 (0,0))) :=
  ⟨by rw[hW1];exact hA.later ((Below.refl _ _).alloc (Nat.le_refl _) _),HX.out.1.trans (hb2.mono HX.out.1.size),by rw[hW1];exact heap_alloc_new _ _,box_later HX.out.2 hb2 (lt_of_box HX.out.2)⟩
 clear k1 hA hb1 hb2
 go_upto_region 2 with fail
 rw[←hW1]
 clear hW1
 generalize w1.heap.size=g1 at *
 obtain⟨⟨a0,a1,a2⟩,-⟩:=box_cells HY.out.2.2.1
 obtain⟨⟨x1,x2,x3⟩,x4,x5,x6⟩:=box_cells HY.out.2.2.2
 go_wp2
 refine bodyPost_ret (results_cell_row rfl _ _ w.heap.size 28 #[.bool s1,.slice ao1 n1 cap1,.int .i64 ex1] (0,0) _ rfl (store3 _ _ _ HY.out.2.2.2) Tryz.underlying28 rfl Tryz.info28) rfl ?_
 exact⟨_,_,_,_,_,rfl,pn_store HY.out.1 HY.out.2.2.2 _ _ _,below_store3 HY.out.2.1 (Nat.le_refl _) _ _ _⟩
-- GEN: one call of two numbers each, the error let go
theorem added_1 (na nb:Bool) (ua va:Option Addr) (un uc vn vc:Nat) (ea eb:Int) (t:Bool×Nat×Int) (w:World)
  (k:∀ W,Bw w W→Calls Tryz.prog 39 #[.agg #[.bool na,.slice ua un uc,.int .i64 ea],.agg #[.bool nb,.slice va vn vc,.int .i64 eb]] W fun r w'=>∃ s ao n cap e,r=.returned (.tuple #[.agg #[.bool s,.slice ao n cap,.int .i64 e],.int .i64 0])∧PN w' (.agg #[.bool s,.slice ao n cap,.int .i64 e]) t∧Bw W w') :
  Calls Tryz.prog 142 #[.agg #[.bool na,.slice ua un uc,.int .i64 ea],.agg #[.bool nb,.slice va vn vc,.int .i64 eb]] w fun r w'=>OutA w t r w':=by
 obtain⟨W,hW⟩:∃ W,W=((w.alloc (.cells #[.bool na,.slice ua un uc,.int .i64 ea] 28)).alloc (.cells #[.bool nb,.slice va vn vc,.int .i64 eb] 28)).alloc (.cells #[.bool false,.slice none 0 0,.int .i64 0] 28):=⟨_,rfl⟩
 obtain⟨hA,hB,hC,hsz,hBW⟩:=boxes3 _ _ _ hW
 obtain⟨⟨a0,a1,a2⟩,-⟩:=box_cells hA
 obtain⟨⟨b0,b1,b2⟩,-⟩:=box_cells hB
 have HX:Hid (Bw w W∧W.heap[w.heap.size+1+1]?=some (.cells #[.bool false,.slice none 0 0,.int .i64 0] 28 (0,0))):=⟨hBW,hC⟩
 have k1:=k W HX.out.1
 clear k hA hB hC hBW hsz
 rw[hW] at a0 a1 a2 b0 b1 b2
 go_enter Tryz.func142,Tryz.ntmps142
 go_wp2_with fail
 rw[←hW]
 clear hW a0 a1 a2 b0 b1 b2
 refine k1.mono ?_
 rintro r w1 ⟨s1,ao1,n1,cap1,ex1,rfl,hA,hb1⟩
 obtain⟨W1,hW1⟩:∃ W1,W1=w1.alloc (.cells #[.bool s1,.slice ao1 n1 cap1,.int .i64 ex1] 28):=⟨_,rfl⟩
 have hb2:Bw W W1:=by rw[hW1];exact hb1.alloc hb1.size _
 have HY:Hid (PN W1 (.agg #[.bool s1,.slice ao1 n1 cap1,.int .i64 ex1]) t∧Bw w W1∧W1.heap[w1.heap.size]?=some (.cells #[.bool s1,.slice ao1 n1 cap1,.int .i64 ex1] 28 (0,0))∧W1.heap[w.heap.size+1+1]?=some (.cells #[.bool false,.slice none 0 0,.int .i64 0] 28 (0,0))) :=
  ⟨by rw[hW1];exact hA.later ((Below.refl _ _).alloc (Nat.le_refl _) _),HX.out.1.trans (hb2.mono HX.out.1.size),by rw[hW1];exact heap_alloc_new _ _,box_later HX.out.2 hb2 (lt_of_box HX.out.2)⟩
 clear k1 hA hb1 hb2
 go_upto_region 2 with fail
 rw[←hW1]
 clear hW1
 generalize w1.heap.size=g1 at *
 obtain⟨⟨c0,c1,c2⟩,-⟩:=box_cells HY.out.2.2.1
 obtain⟨⟨x1,x2,x3⟩,x4,x5,x6⟩:=box_cells HY.out.2.2.2
 go_wp2
 refine bodyPost_ret (results_cell_row rfl _ _ (w.heap.size+1+1) 28 #[.bool s1,.slice ao1 n1 cap1,.int .i64 ex1] (0,0) _ rfl (store3 _ _ _ HY.out.2.2.2) Tryz.underlying28 rfl Tryz.info28) rfl ?_
 exact⟨_,_,_,_,_,rfl,pn_store HY.out.1 HY.out.2.2.2 _ _ _,below_store3 HY.out.2.1 (by omega) _ _ _⟩
theorem multiplied_1 (na nb:Bool) (ua va:Option Addr) (un uc vn vc:Nat) (ea eb:Int) (t:Bool×Nat×Int) (w:World)
  (k:∀ W,Bw w W→Calls Tryz.prog 84 #[.agg #[.bool na,.slice ua un uc,.int .i64 ea],.agg #[.bool nb,.slice va vn vc,.int .i64 eb]] W fun r w'=>∃ s ao n cap e,r=.returned (.tuple #[.agg #[.bool s,.slice ao n cap,.int .i64 e],.int .i64 0])∧PN w' (.agg #[.bool s,.slice ao n cap,.int .i64 e]) t∧Bw W w') :
  Calls Tryz.prog 119 #[.agg #[.bool na,.slice ua un uc,.int .i64 ea],.agg #[.bool nb,.slice va vn vc,.int .i64 eb]] w fun r w'=>OutA w t r w':=by
 obtain⟨W,hW⟩:∃ W,W=((w.alloc (.cells #[.bool na,.slice ua un uc,.int .i64 ea] 28)).alloc (.cells #[.bool nb,.slice va vn vc,.int .i64 eb] 28)).alloc (.cells #[.bool false,.slice none 0 0,.int .i64 0] 28):=⟨_,rfl⟩
 obtain⟨hA,hB,hC,hsz,hBW⟩:=boxes3 _ _ _ hW
 obtain⟨⟨a0,a1,a2⟩,-⟩:=box_cells hA
 obtain⟨⟨b0,b1,b2⟩,-⟩:=box_cells hB
 have HX:Hid (Bw w W∧W.heap[w.heap.size+1+1]?=some (.cells #[.bool false,.slice none 0 0,.int .i64 0] 28 (0,0))):=⟨hBW,hC⟩
 have k1:=k W HX.out.1
 clear k hA hB hC hBW hsz
 rw[hW] at a0 a1 a2 b0 b1 b2
 go_enter Tryz.func119,Tryz.ntmps119
 go_wp2_with fail
 rw[←hW]
 clear hW a0 a1 a2 b0 b1 b2
 refine k1.mono ?_
 rintro r w1 ⟨s1,ao1,n1,cap1,ex1,rfl,hA,hb1⟩
 obtain⟨W1,hW1⟩:∃ W1,W1=w1.alloc (.cells #[.bool s1,.slice ao1 n1 cap1,.int .i64 ex1] 28):=⟨_,rfl⟩
 have hb2:Bw W W1:=by rw[hW1];exact hb1.alloc hb1.size _
 have HY:Hid (PN W1 (.agg #[.bool s1,.slice ao1 n1 cap1,.int .i64 ex1]) t∧Bw w W1∧W1.heap[w1.heap.size]?=some (.cells #[.bool s1,.slice ao1 n1 cap1,.int .i64 ex1] 28 (0,0))∧W1.heap[w.heap.size+1+1]?=some (.cells #[.bool false,.slice none 0 0,.int .i64 0] 28 (0,0))) :=
  ⟨by rw[hW1];exact hA.later ((Below.refl _ _).alloc (Nat.le_refl _) _),HX.out.1.trans (hb2.mono HX.out.1.size),by rw[hW1];exact heap_alloc_new _ _,box_later HX.out.2 hb2 (lt_of_box HX.out.2)⟩
 clear k1 hA hb1 hb2
 go_upto_region 2 with fail
 rw[←hW1]
 clear hW1
 generalize w1.heap.size=g1 at *
 obtain⟨⟨c0,c1,c2⟩,-⟩:=box_cells HY.out.2.2.1
 obtain⟨⟨x1,x2,x3⟩,x4,x5,x6⟩:=box_cells HY.out.2.2.2
 go_wp2
 refine bodyPost_ret (results_cell_row rfl _ _ (w.heap.size+1+1) 28 #[.bool s1,.slice ao1 n1 cap1,.int .i64 ex1] (0,0) _ rfl (store3 _ _ _ HY.out.2.2.2) Tryz.underlying28 rfl Tryz.info28) rfl ?_
 exact⟨_,_,_,_,_,rfl,pn_store HY.out.1 HY.out.2.2.2 _ _ _,below_store3 HY.out.2.1 (by omega) _ _ _⟩
theorem prounded_1 (na:Bool) (ua:Option Addr) (un uc F:Nat) (ea m:Int) (w:World)
  (k:∀ W,Bw w W→Calls Tryz.prog 140 #[.agg #[.bool na,.slice ua un uc,.int .i64 ea],.int .i64 m] W fun r w'=>r=.returned (.tuple #[.float .f64 F,.int .i64 0])∧Bw W w') :
  Calls Tryz.prog 118 #[.agg #[.bool na,.slice ua un uc,.int .i64 ea],.int .i64 m] w fun r w'=>r=.returned (.float .f64 F)∧Bw w w':=by
 obtain⟨W,hW⟩:∃ W,W=w.alloc (.cells #[.bool na,.slice ua un uc,.int .i64 ea] 28):=⟨_,rfl⟩
 have HX:Hid (Bw w W):=(by rw[hW];exact(Below.refl _ _).alloc (Nat.le_refl _) _:Bw w W)
 have hA:W.heap[w.heap.size]?=some (.cells #[.bool na,.slice ua un uc,.int .i64 ea] 28 (0,0)):=by rw[hW];exact heap_alloc_new _ _
 obtain⟨⟨a0,a1,a2⟩,-⟩:=box_cells hA
 have k1:=k W HX.out
 clear k hA
 rw[hW] at a0 a1 a2
 go_enter Tryz.func118,Tryz.ntmps118
 go_wp2_with fail
 rw[←hW]
 clear hW a0 a1 a2
 refine k1.mono ?_
 rintro r w1 ⟨rfl,hb1⟩
 have HY:Hid (Bw w w1):=HX.out.trans (hb1.mono HX.out.size)
 clear k1 hb1
 go_wp2
 go_ret
 exact⟨rfl,HY.out⟩
theorem pround {t:Bool×Nat×Int} {A:Value} {m:Int} {w:World} (hT:Tab32 w) (ok:Ok t) (h:PN w A t) (hm:1≤m∧m≤3) :
  Calls Tryz.prog 140 #[A,.int .i64 m] w fun r w'=>r=.returned (.tuple #[.float .f64 (tfF t.1 true t.2.1 t.2.2 m),.int .i64 0])∧Bw w w':=by
 obtain⟨pa,pc,rfl,i1⟩:=h
 obtain⟨f1,f2,f3,-,-⟩:=ok.facts
 refine c24_1 t.1 pa _ pc _ t.2.2 m w (fun W' g hW' hg=>?_) (fun W'=>c48 m (by omega) W') (fun W' hW'=>?_)
 ·have:=maybe1 hg (i1.later hW') (by omega)
  rw[show okN t.1 (dlen t.2.1) t.2.1 t.2.2=true from ok] at this
  exact this
 ·exact c106 (neg:=t.1) (e:=t.2.2) (mode:=m) (hT.later hW') (i1.later hW') (by omega) (by omega) (by omega)
theorem prounded {t:Bool×Nat×Int} {A:Value} {m:Int} {w:World} (hT:Tab32 w) (ok:Ok t) (h:PN w A t) (hm:1≤m∧m≤3) :
  Calls Tryz.prog 118 #[A,.int .i64 m] w fun r w'=>r=.returned (.float .f64 (tfF t.1 true t.2.1 t.2.2 m))∧Bw w w':=by
 obtain⟨s,ao,n,cap,e,rfl⟩:=h.shape
 exact prounded_1 s ao n cap _ e m w fun W hW=>pround (hT.later hW) ok (h.later hW) hm
theorem added_op {t1 t2 t3:Bool×Nat×Int} (h:Op2 39 t1 t2 t3) {X Y:Value} {w:World} (hT:Tab32 w) (h1:PN w X t1) (h2:PN w Y t2):Calls Tryz.prog 142 #[X,Y] w fun r w'=>OutA w t3 r w':=by
 obtain⟨s,ao,n,cap,e,rfl⟩:=h1.shape
 obtain⟨s',ao',n',cap',e',rfl⟩:=h2.shape
 exact added_1 s s' ao ao' n cap n' cap' e e' t3 w fun W hW=>h W _ _ (hT.later hW) (h1.later hW) (h2.later hW)
theorem multiplied_op {t1 t2 t3:Bool×Nat×Int} (h:Op2 84 t1 t2 t3) {X Y:Value} {w:World} (hT:Tab32 w) (h1:PN w X t1) (h2:PN w Y t2):Calls Tryz.prog 119 #[X,Y] w fun r w'=>OutA w t3 r w':=by
 obtain⟨s,ao,n,cap,e,rfl⟩:=h1.shape
 obtain⟨s',ao',n',cap',e',rfl⟩:=h2.shape
 exact multiplied_1 s s' ao ao' n cap n' cap' e e' t3 w fun W hW=>h W _ _ (hT.later hW) (h1.later hW) (h2.later hW)
end Go.Proofs.YtcdkkpjilgmncaaGreatDoor
/- The document's small functions on floats, call by call. -/
namespace Go.Proofs.YtcdkkpjilgmncaaGreatDoor.Ie
open Go.RowKit Go.Fl64
end Go.Proofs.YtcdkkpjilgmncaaGreatDoor.Ie
namespace Go.Proofs.YtcdkkpjilgmncaaGreatDoor
open Go.RowKit Go.Fl64
def isM (m:Int):Bool:=(m==1)||(m==2)||(m==3)
theorem isM_iff {m:Int}:isM m=true↔(1≤m∧m≤3):=by
 unfold isM;simp only[Bool.or_eq_true,beq_iff_eq];omega
theorem pvalid (m:Int) (w:World):Calls Tryz.prog 115 #[.int .i64 m] w fun r w'=>r=.returned (.int .i64 (if isM m then 0 else 1))∧w'=w:=by
 unfold isM
 by_cases h1:m=1
 ·subst h1
  go_enter Tryz.func115,Tryz.ntmps115
  go_wp2
  go_ret
  exact⟨rfl,rfl⟩
 ·have e1:(m==1)=false:=by simpa using h1
  by_cases h2:m=2
  ·subst h2
   go_enter Tryz.func115,Tryz.ntmps115
   go_wp2
   go_ret
   exact⟨rfl,rfl⟩
  ·have e2:(m==2)=false:=by simpa using h2
   by_cases h3:m=3
   ·subst h3
    go_enter Tryz.func115,Tryz.ntmps115
    go_wp2
    go_ret
    exact⟨rfl,rfl⟩
   ·have e3:(m==3)=false:=by simpa using h3
    rw[show((m==1)||(m==2)||(m==3))=false by rw[e1,e2,e3];rfl]
    go_enter Tryz.func115,Tryz.ntmps115
    go_wp2
    go_ret
    exact⟨rfl,rfl⟩
theorem eq_nought0:(FloatKind.f64.format.order 0 0==some Ordering.eq)=true:=by decide +kernel
theorem pfin_y (a:Nat) (ha:a<18446744073709551616) (hf:mag a<9218868437227405312) (w:World):Calls Tryz.prog 139 #[.float .f64 a] w fun r w'=>r=.returned (.bool true)∧w'=w:=by
 have hs:∀ w,(binOp .sub 22 (.float .f64 a) (.float .f64 a)).run Tryz.prog w=.ok (.float .f64 0) w:=fun w=>run_float_arith w .sub 22 .f64 a a _ (sub_fin ha hf)
 have he:=eq_nought0
 go_enter Tryz.func139,Tryz.ntmps139
 go_wp2
 go_ret
 exact⟨rfl,rfl⟩
theorem pfin_n (a:Nat) (ha:a<18446744073709551616) (hf:¬ mag a<9218868437227405312) (w:World):Calls Tryz.prog 139 #[.float .f64 a] w fun r w'=>r=.returned (.bool false)∧w'=w.drew:=by
 obtain⟨n,n1,n2,hs⟩:=run_nan (P:=Tryz.prog) w .sub 22 a a (by simp) (sub_non ha (by omega))
 have he:=ord_eq n 0 n1 (by decide)
 have hq:eq n 0=false:=by unfold Fl64.eq;rw[n2];rfl
 rw[hq] at he
 go_enter Tryz.func139,Tryz.ntmps139
 go_wp2
 go_ret
 exact⟨rfl,rfl⟩
def z0 (na nb:Bool) (m:Int):Bool:=if na=nb then na else(m==1)
theorem mk_nought {s:Bool} {m:Int} (hm:1≤m∧m≤3):Ie.mk s 0 0 m 9221120237041090561=sig s 0:=by
 unfold Ie.mk
 rw[if_pos (by omega),if_pos rfl]
theorem pnought (na nb:Bool) (m:Int) (hm:1≤m∧m≤3) (w:World):Calls Tryz.prog 144 #[.bool na,.bool nb,.int .i64 m] w fun r w'=>r=.returned (.float .f64 (sig (z0 na nb m) 0))∧w'=w:=by
 have k:∀ s W,Calls Tryz.prog 108 #[.bool s,.int .u64 0,.int .i64 0,.int .i64 m] W fun r w'=>r=.returned (.float .f64 (sig s 0))∧w'=W:=fun s W=>by
  have:=Ie.c24 s 0 0 m (by omega) W
  rw[mk_nought hm] at this
  exact this
 cases na <;> cases nb
 all_goals
  go_enter Tryz.func144,Tryz.ntmps144
  go_wp2_with (go_at_call 108;refine(k _ _).mono ?_;rintro e w' ⟨rfl,rfl⟩)
  go_ret
  exact⟨rfl,rfl⟩
theorem padd_a (a b F:Nat) (m:Int) (w:World) (hm:isM m=true) (hfa:∀ W,Calls Tryz.prog 139 #[.float .f64 a] W fun r w'=>r=.returned (.bool false)∧w'=W.drew)
  (h:(∀ W,(binOp .add 22 (.float .f64 a) (.float .f64 b)).run Tryz.prog W=.ok (.float .f64 F) W)∨∀ W,∃ n,lk n F∧(binOp .add 22 (.float .f64 a) (.float .f64 b)).run Tryz.prog W=.ok (.float .f64 n) W.drew) (hF:F<18446744073709551616) :
  Calls Tryz.prog 122 #[.float .f64 a,.float .f64 b,.int .i64 m] w fun r w'=>∃ n,r=.returned (.float .f64 n)∧lk n F∧Bw w w':=by
 have kV:=pvalid m w
 rw[hm] at kV
 have HB:Hid (Bw w w.drew):=(Below.refl _ _).drew
 have HB2:Hid (Bw w w.drew.drew):=(Below.refl _ _).drew.drew
 have HF:Hid (F<18446744073709551616):=hF
 clear hF
 rcases h with h|h
 ·go_enter Tryz.func122,Tryz.ntmps122
  go_wp2_with fail
  refine kV.mono ?_
  rintro r w' ⟨rfl,hw⟩
  rw[hw]
  clear hw kV
  have kN:=hfa w
  go_wp2_with fail
  refine kN.mono ?_
  rintro r w' ⟨rfl,hw⟩
  rw[hw]
  clear hw kN hfa
  go_wp2_with fail
  go_ret
  exact⟨_,rfl,lk.refl HF.out,HB.out⟩
 ·obtain⟨n,hn,hr⟩:=h w.drew
  have HN:Hid (lk n F):=hn
  clear hn h
  go_enter Tryz.func122,Tryz.ntmps122
  go_wp2_with fail
  refine kV.mono ?_
  rintro r w' ⟨rfl,hw⟩
  rw[hw]
  clear hw kV
  have kN:=hfa w
  go_wp2_with fail
  refine kN.mono ?_
  rintro r w' ⟨rfl,hw⟩
  rw[hw]
  clear hw kN hfa
  go_wp2_with fail
  go_ret
  exact⟨_,rfl,HN.out,HB2.out⟩
theorem padd_b (a b F:Nat) (m:Int) (w:World) (hm:isM m=true) (hfa:∀ W,Calls Tryz.prog 139 #[.float .f64 a] W fun r w'=>r=.returned (.bool true)∧w'=W) (hfb:∀ W,Calls Tryz.prog 139 #[.float .f64 b] W fun r w'=>r=.returned (.bool false)∧w'=W.drew)
  (h:(∀ W,(binOp .add 22 (.float .f64 a) (.float .f64 b)).run Tryz.prog W=.ok (.float .f64 F) W)∨∀ W,∃ n,lk n F∧(binOp .add 22 (.float .f64 a) (.float .f64 b)).run Tryz.prog W=.ok (.float .f64 n) W.drew) (hF:F<18446744073709551616) :
  Calls Tryz.prog 122 #[.float .f64 a,.float .f64 b,.int .i64 m] w fun r w'=>∃ n,r=.returned (.float .f64 n)∧lk n F∧Bw w w':=by
 have kV:=pvalid m w
 rw[hm] at kV
 have HB:Hid (Bw w w.drew):=(Below.refl _ _).drew
 have HB2:Hid (Bw w w.drew.drew):=(Below.refl _ _).drew.drew
 have HF:Hid (F<18446744073709551616):=hF
 clear hF
 rcases h with h|h
 ·go_enter Tryz.func122,Tryz.ntmps122
  go_wp2_with fail
  refine kV.mono ?_
  rintro r w' ⟨rfl,hw⟩
  rw[hw]
  clear hw kV
  have kN:=hfa w
  go_wp2_with fail
  refine kN.mono ?_
  rintro r w' ⟨rfl,hw⟩
  rw[hw]
  clear hw kN hfa
  have kN:=hfb w
  go_wp2_with fail
  refine kN.mono ?_
  rintro r w' ⟨rfl,hw⟩
  rw[hw]
  clear hw kN hfb
  go_wp2_with fail
  go_ret
  exact⟨_,rfl,lk.refl HF.out,HB.out⟩
 ·obtain⟨n,hn,hr⟩:=h w.drew
  have HN:Hid (lk n F):=hn
  clear hn h
  go_enter Tryz.func122,Tryz.ntmps122
  go_wp2_with fail
  refine kV.mono ?_
  rintro r w' ⟨rfl,hw⟩
  rw[hw]
  clear hw kV
  have kN:=hfa w
  go_wp2_with fail
  refine kN.mono ?_
  rintro r w' ⟨rfl,hw⟩
  rw[hw]
  clear hw kN hfa
  have kN:=hfb w
  go_wp2_with fail
  refine kN.mono ?_
  rintro r w' ⟨rfl,hw⟩
  rw[hw]
  clear hw kN hfb
  go_wp2_with fail
  go_ret
  exact⟨_,rfl,HN.out,HB2.out⟩
theorem padd_z (a b F:Nat) (m sg:Int) (ta tb t3:Bool×Nat×Int) (w:World) (hm:isM m=true) (ha:a<18446744073709551616) (hb:b<18446744073709551616)
  (hfa:∀ W,Calls Tryz.prog 139 #[.float .f64 a] W fun r w'=>r=.returned (.bool true)∧w'=W)
  (hfb:∀ W,Calls Tryz.prog 139 #[.float .f64 b] W fun r w'=>r=.returned (.bool true)∧w'=W)
  (kA:Calls Tryz.prog 120 #[.float .f64 a] w fun r w'=>OutA w ta r w')
  (kB:∀ W,Bw w W→Calls Tryz.prog 120 #[.float .f64 b] W fun r w'=>OutA W tb r w')
  (kC:∀ W X Y,Bw w W→PN W X ta→PN W Y tb→Calls Tryz.prog 142 #[X,Y] W fun r w'=>OutA W t3 r w')
  (kS:∀ W X,PN W X t3→Calls Tryz.prog 143 #[X] W fun r w'=>r=.returned (.int .i64 sg)∧Bw W w')
  (hs:(sg==0)=true) (kZ:∀ W,Calls Tryz.prog 144 #[.bool (neg a),.bool (neg b),.int .i64 m] W fun r w'=>r=.returned (.float .f64 F)∧w'=W) :
  Calls Tryz.prog 122 #[.float .f64 a,.float .f64 b,.int .i64 m] w fun r w'=>r=.returned (.float .f64 F)∧Bw w w':=by
 have kV:=pvalid m w
 rw[hm] at kV
 have HAB:Hid (a<18446744073709551616∧b<18446744073709551616):=⟨ha,hb⟩
 have HKB:Hid _:=kB
 have HKC:Hid _:=kC
 have HKS:Hid _:=kS
 clear ha hb kB kC kS
 go_enter Tryz.func122,Tryz.ntmps122
 go_wp2_with fail
 refine kV.mono ?_
 rintro r w' ⟨rfl,hw⟩
 rw[hw]
 clear hw kV
 have kN:=hfa w
 go_wp2_with fail
 refine kN.mono ?_
 rintro r w' ⟨rfl,hw⟩
 rw[hw]
 clear hw kN hfa
 have kN:=hfb w
 go_wp2_with fail
 refine kN.mono ?_
 rintro r w' ⟨rfl,hw⟩
 rw[hw]
 clear hw kN hfb
 go_wp2_with fail
 refine kA.mono ?_
 rintro r w1 ⟨s1,ao1,n1,cap1,ex1,rfl,hP1,hb1⟩
 have k2:=HKB.out w1 hb1
 clear kA
 go_wp2_with fail
 refine k2.mono ?_
 rintro r w2 ⟨s2,ao2,n2,cap2,ex2,rfl,hP2,hb2⟩
 have HB2:Hid (Bw w w2):=hb1.trans (hb2.mono hb1.size)
 have k3:=HKC.out w2 _ _ HB2.out (hP1.later hb2) hP2
 clear k2 hP1 hP2 hb1 hb2
 go_wp2_with fail
 refine k3.mono ?_
 rintro r w3 ⟨s3,ao3,n3,cap3,ex3,rfl,hP3,hb3⟩
 clear k3
 obtain⟨W3,hW3⟩:∃ W3,W3=w3.alloc (.cells #[.bool s3,.slice ao3 n3 cap3,.int .i64 ex3] 28):=⟨_,rfl⟩
 have HX:Hid (PN W3 (.agg #[.bool s3,.slice ao3 n3 cap3,.int .i64 ex3]) t3∧Bw w W3∧W3.heap[w3.heap.size]?=some (.cells #[.bool s3,.slice ao3 n3 cap3,.int .i64 ex3] 28 (0,0))) :=
  ⟨by rw[hW3];exact hP3.later ((Below.refl _ _).alloc (Nat.le_refl _) _),by rw[hW3];exact HB2.out.trans ((hb3.alloc hb3.size _).mono HB2.out.size),by rw[hW3];exact heap_alloc_new _ _⟩
 clear hP3 hb3
 go_upto_region 6 with fail
 rw[←hW3]
 clear hW3
 generalize w3.heap.size=g3 at *
 obtain⟨⟨a0,a1,a2⟩,-⟩:=box_cells HX.out.2.2
 have k4:=HKS.out W3 _ HX.out.1
 go_wp2_with fail
 refine k4.mono ?_
 rintro r w5 ⟨rfl,hb5⟩
 have HB5:Hid (Bw w w5):=HX.out.2.1.trans (hb5.mono HX.out.2.1.size)
 have HP5:Hid (PN w5 (.agg #[.bool s3,.slice ao3 n3 cap3,.int .i64 ex3]) t3):=HX.out.1.later hb5
 obtain⟨⟨a0,a1,a2⟩,-⟩:=box_cells (box_later HX.out.2.2 hb5 (lt_of_box HX.out.2.2))
 clear k4 hb5
 have kz:=kZ w5
 have sa:=Ie.c33 a HAB.out.1 w5
 have sb:=Ie.c33 b HAB.out.2 w5
 clear kZ a0 a1 a2
 go_wp2_with fail
 refine sa.mono ?_
 rintro r w6 ⟨rfl,hw⟩
 rw[hw]
 clear hw sa
 go_wp2_with fail
 refine sb.mono ?_
 rintro r w6 ⟨rfl,hw⟩
 rw[hw]
 clear hw sb
 go_wp2_with fail
 refine kz.mono ?_
 rintro r w6 ⟨rfl,hw⟩
 rw[hw]
 clear hw kz
 go_wp2_with fail
 go_ret
 exact⟨rfl,HB5.out⟩
theorem padd_r (a b F:Nat) (m sg:Int) (ta tb t3:Bool×Nat×Int) (w:World) (hm:isM m=true) (ha:a<18446744073709551616) (hb:b<18446744073709551616)
  (hfa:∀ W,Calls Tryz.prog 139 #[.float .f64 a] W fun r w'=>r=.returned (.bool true)∧w'=W)
  (hfb:∀ W,Calls Tryz.prog 139 #[.float .f64 b] W fun r w'=>r=.returned (.bool true)∧w'=W)
  (kA:Calls Tryz.prog 120 #[.float .f64 a] w fun r w'=>OutA w ta r w')
  (kB:∀ W,Bw w W→Calls Tryz.prog 120 #[.float .f64 b] W fun r w'=>OutA W tb r w')
  (kC:∀ W X Y,Bw w W→PN W X ta→PN W Y tb→Calls Tryz.prog 142 #[X,Y] W fun r w'=>OutA W t3 r w')
  (kS:∀ W X,PN W X t3→Calls Tryz.prog 143 #[X] W fun r w'=>r=.returned (.int .i64 sg)∧Bw W w')
  (hs:(sg==0)=false) (kR:∀ W X,Bw w W→PN W X t3→Calls Tryz.prog 118 #[X,.int .i64 m] W fun r w'=>r=.returned (.float .f64 F)∧Bw W w') :
  Calls Tryz.prog 122 #[.float .f64 a,.float .f64 b,.int .i64 m] w fun r w'=>r=.returned (.float .f64 F)∧Bw w w':=by
 have kV:=pvalid m w
 rw[hm] at kV
 have HAB:Hid (a<18446744073709551616∧b<18446744073709551616):=⟨ha,hb⟩
 have HKB:Hid _:=kB
 have HKC:Hid _:=kC
 have HKS:Hid _:=kS
 clear ha hb kB kC kS
 have HR:Hid _:=kR
 clear kR
 go_enter Tryz.func122,Tryz.ntmps122
 go_wp2_with fail
 refine kV.mono ?_
 rintro r w' ⟨rfl,hw⟩
 rw[hw]
 clear hw kV
 have kN:=hfa w
 go_wp2_with fail
 refine kN.mono ?_
 rintro r w' ⟨rfl,hw⟩
 rw[hw]
 clear hw kN hfa
 have kN:=hfb w
 go_wp2_with fail
 refine kN.mono ?_
 rintro r w' ⟨rfl,hw⟩
 rw[hw]
 clear hw kN hfb
 go_wp2_with fail
 refine kA.mono ?_
 rintro r w1 ⟨s1,ao1,n1,cap1,ex1,rfl,hP1,hb1⟩
 have k2:=HKB.out w1 hb1
 clear kA
 go_wp2_with fail
 refine k2.mono ?_
 rintro r w2 ⟨s2,ao2,n2,cap2,ex2,rfl,hP2,hb2⟩
 have HB2:Hid (Bw w w2):=hb1.trans (hb2.mono hb1.size)
 have k3:=HKC.out w2 _ _ HB2.out (hP1.later hb2) hP2
 clear k2 hP1 hP2 hb1 hb2
 go_wp2_with fail
 refine k3.mono ?_
 rintro r w3 ⟨s3,ao3,n3,cap3,ex3,rfl,hP3,hb3⟩
 clear k3
 obtain⟨W3,hW3⟩:∃ W3,W3=w3.alloc (.cells #[.bool s3,.slice ao3 n3 cap3,.int .i64 ex3] 28):=⟨_,rfl⟩
 have HX:Hid (PN W3 (.agg #[.bool s3,.slice ao3 n3 cap3,.int .i64 ex3]) t3∧Bw w W3∧W3.heap[w3.heap.size]?=some (.cells #[.bool s3,.slice ao3 n3 cap3,.int .i64 ex3] 28 (0,0))) :=
  ⟨by rw[hW3];exact hP3.later ((Below.refl _ _).alloc (Nat.le_refl _) _),by rw[hW3];exact HB2.out.trans ((hb3.alloc hb3.size _).mono HB2.out.size),by rw[hW3];exact heap_alloc_new _ _⟩
 clear hP3 hb3
 go_upto_region 6 with fail
 rw[←hW3]
 clear hW3
 generalize w3.heap.size=g3 at *
 obtain⟨⟨a0,a1,a2⟩,-⟩:=box_cells HX.out.2.2
 have k4:=HKS.out W3 _ HX.out.1
 go_wp2_with fail
 refine k4.mono ?_
 rintro r w5 ⟨rfl,hb5⟩
 have HB5:Hid (Bw w w5):=HX.out.2.1.trans (hb5.mono HX.out.2.1.size)
 have HP5:Hid (PN w5 (.agg #[.bool s3,.slice ao3 n3 cap3,.int .i64 ex3]) t3):=HX.out.1.later hb5
 obtain⟨⟨a0,a1,a2⟩,-⟩:=box_cells (box_later HX.out.2.2 hb5 (lt_of_box HX.out.2.2))
 clear k4 hb5
 have kr:=HR.out w5 _ HB5.out HP5.out
 go_wp2_with fail
 refine kr.mono ?_
 rintro r w6 ⟨rfl,hb6⟩
 have HB6:Hid (Bw w w6):=HB5.out.trans (hb6.mono HB5.out.size)
 clear kr hb6 a0 a1 a2
 go_wp2_with fail
 go_ret
 exact⟨rfl,HB6.out⟩
end Go.Proofs.YtcdkkpjilgmncaaGreatDoor
namespace Go.Proofs.YtcdkkpjilgmncaaGreatDoor
open Go.RowKit
def Lasts (P:World→Value→Prop):Prop:=∀ W W' A,Bw W W'→P W A→P W' A
end Go.Proofs.YtcdkkpjilgmncaaGreatDoor
