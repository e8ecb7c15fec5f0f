/- Own work: contracts of the program's functions, part 13: DCP DCQ DCR DCS DCW DCZ DCT DCU DD1. -/
import Derived.Test.YtfkaogdmlcdceaaGreatDoorA12
import Derived.BigQuiet
import Derived.Test.YtfkaogdmlcdceaaGreatDoorA7

set_option maxHeartbeats 16000000
set_option maxRecDepth 200000
set_option linter.unusedVariables false
set_option linter.unusedSimpArgs false
namespace Go.Proofs.YtfkaogdmlcdceaaGreatDoor
open Go.RowKit Go.Fl64
def csS (s:List UInt8):Int:=if s.head?=some 45 then -1 else 1
def csD (s:List UInt8):List UInt8:=if s.head?=some 45∨s.head?=some 43 then s.tail else s
theorem DcutSign_1 (s:List UInt8) (w:World) (hL:s.length≤2000000)
  (k1:∀ W,Calls Tryz.prog 116 #[.string ⟨s.toArray⟩,.string ⟨#[45]⟩] W fun r w'=>r=.returned (.bool (s.head?==some 45))∧w'=W)
  (k2:∀ W,Calls Tryz.prog 116 #[.string ⟨s.toArray⟩,.string ⟨#[43]⟩] W fun r w'=>r=.returned (.bool (s.head?==some 43))∧w'=W) :
  Calls Tryz.prog 52 #[.string ⟨s.toArray⟩] w fun r w'=>r=.returned (.tuple #[.int .i64 (csS s),.string ⟨(csD s).toArray⟩])∧Bw w w':=by
 have ed:=ext_drop s 1
 rw[List.drop_one] at ed
 have hsz:(⟨s.toArray⟩:ByteArray).size=s.length:=rfl
 by_cases h1:s.head?=some 45
 ·have hl:(1:Int)≤(s.length:Int):=by cases s with|nil=>simp at h1|cons a t=>rw[List.length_cons];omega
  have e1:csS s = -1:=by unfold csS;rw[if_pos h1]
  have e2:csD s=s.tail:=by unfold csD;rw[if_pos (.inl h1)]
  have hb:(s.head?==some 45)=true:=by rw[h1];rfl
  rw[hb] at k1
  rw[e1,e2]
  clear e1 e2 h1 hb k2
  go_enter Tryz.func52,Tryz.ntmps52
  go_wp2_with (first|(go_at_call 116;refine(k1 _).mono ?_;rintro r w' ⟨rfl,rfl⟩))
  go_quiet (fail)
  go_wp2
  refine bodyPost_ret (results_tmp2 rfl _ _ _) rfl ?_
  exact⟨rfl,bdrewN (Below.refl _ _) nq⟩
 ·have hb:(s.head?==some 45)=false:=by simp[h1]
  have e1:csS s=1:=by unfold csS;rw[if_neg h1]
  rw[hb] at k1
  rw[e1]
  by_cases h2:s.head?=some 43
  ·have hl:(1:Int)≤(s.length:Int):=by cases s with|nil=>simp at h2|cons a t=>rw[List.length_cons];omega
   have e2:csD s=s.tail:=by unfold csD;rw[if_pos (.inr h2)]
   have hb2:(s.head?==some 43)=true:=by rw[h2];rfl
   rw[hb2] at k2
   rw[e2]
   clear e1 e2 h1 h2 hb hb2
   go_enter Tryz.func52,Tryz.ntmps52
   go_wp2_with fail
   refine(k1 _).mono ?_
   rintro r w1 ⟨rfl,rfl⟩
   go_wp2_with fail
   refine(k2 _).mono ?_
   rintro r w2 ⟨rfl,rfl⟩
   go_wp2_with fail
   go_quiet (fail)
   go_wp2
   refine bodyPost_ret (results_tmp2 rfl _ _ _) rfl ?_
   exact⟨rfl,bdrewN (Below.refl _ _) nq⟩
  ·have e2:csD s=s:=by unfold csD;rw[if_neg (fun h=>h.elim h1 h2)]
   have hb2:(s.head?==some 43)=false:=by simp[h2]
   rw[hb2] at k2
   rw[e2]
   clear e1 e2 h1 h2 hb hb2
   go_enter Tryz.func52,Tryz.ntmps52
   go_wp2_with fail
   refine(k1 _).mono ?_
   rintro r w1 ⟨rfl,rfl⟩
   go_wp2_with fail
   refine(k2 _).mono ?_
   rintro r w2 ⟨rfl,rfl⟩
   go_wp2
   refine bodyPost_ret (results_tmp2 rfl _ _ _) rfl ?_
   exact⟨rfl,Below.refl _ _⟩
theorem DtwoTo_1 (k:Int) (T1 T2:Bool×Nat×Int) (w:World)
  (k1:∀ W,Bw w W→Calls Tryz.prog 99 #[.int .i64 1] W fun r w'=>OutP W T1 r w') (k2:Hid (∀ W X,Bw w W→PN W X T1→Calls Tryz.prog 140 #[X,.int .i64 k] W fun r w'=>OutA W T2 r w')):Calls Tryz.prog 179 #[.int .i64 k] w fun r w'=>OutFv w T2 T1 r w':=by
 obtain⟨W,hW⟩:∃ W,W=w.alloc (.cells #[.bool false,.slice none 0 0,.int .i64 0,.bool false,.slice none 0 0,.int .i64 0] 104):=⟨_,rfl⟩
 have HC:Hid (W.heap[w.heap.size]?=some (.cells #[.bool false,.slice none 0 0,.int .i64 0,.bool false,.slice none 0 0,.int .i64 0] 104 (0,0))∧Bw w W):=(by rw[hW];exact⟨heap_alloc_new _ _,(Below.refl _ _).alloc (Nat.le_refl _) _⟩:_∧_)
 have kk0:=k1 W HC.out.2
 have HK2:Hid _:=k1
 clear k1
 go_enter Tryz.func179,Tryz.ntmps179
 go_upto_region 1 with fail
 rw[←hW]
 clear hW
 go_wp2_with fail
 refine kk0.mono ?_
 rintro r w0 ⟨s0,ao0,n0,cp0,e0,rfl,hp0,hb0⟩
 clear kk0
 have HC0:Hid (w0.heap[w.heap.size]?=some (.cells #[.bool false,.slice none 0 0,.int .i64 0,.bool false,.slice none 0 0,.int .i64 0] 104 (0,0))∧Bw w w0):=⟨box_later HC.out.1 hb0 (lt_of_box HC.out.1),HC.out.2.trans (hb0.mono HC.out.2.size)⟩
 have kk:=k2.out w0 _ HC0.out.2 hp0
 clear hp0 hb0 HC k2
 go_wp2_with fail
 refine kk.mono ?_
 rintro r w1 ⟨s1,ao1,n1,cp1,e1,rfl,hp,hb1⟩
 clear kk
 have HG:Hid (w1.heap[w.heap.size]?=some (.cells #[.bool false,.slice none 0 0,.int .i64 0,.bool false,.slice none 0 0,.int .i64 0] 104 (0,0))∧Bw w w1∧PN w1 (.agg #[.bool s1,.slice ao1 n1 cp1,.int .i64 e1]) T2):=⟨box_later HC0.out.1 hb1 (lt_of_box HC0.out.1),HC0.out.2.trans (hb1.mono HC0.out.2.size),hp⟩
 have kk:=HK2.out w1 HG.out.2.1
 clear hp hb1 HC0 HK2
 go_wp2_with fail
 refine kk.mono ?_
 rintro r w2 ⟨s2,ao2,n2,cp2,e2,rfl,hp,hb2⟩
 clear kk
 have HH:Hid (w2.heap[w.heap.size]?=some (.cells #[.bool false,.slice none 0 0,.int .i64 0,.bool false,.slice none 0 0,.int .i64 0] 104 (0,0))∧Bw w w2∧PN w2 (.agg #[.bool s1,.slice ao1 n1 cp1,.int .i64 e1]) T2∧PN w2 (.agg #[.bool s2,.slice ao2 n2 cp2,.int .i64 e2]) T1):=⟨box_later HG.out.1 hb2 (lt_of_box HG.out.1),HG.out.2.1.trans (hb2.mono HG.out.2.1.size),HG.out.2.2.later hb2,hp⟩
 clear hp hb2 HG
 obtain⟨⟨c0,c1,c2,c3,c4,c5⟩,d0,d1,d2,d3,d4,d5⟩:=cells6F HH.out.1
 go_wp2_with fail
 refine bodyPost_ret (results_cell_row rfl _ _ w.heap.size 104 #[.bool s1,.slice ao1 n1 cp1,.int .i64 e1,.bool s2,.slice ao2 n2 cp2,.int .i64 e2] (0,0) _ rfl (set6_at _ _ _ _ _ _ HH.out.1) Tryz.underlying104 rfl (by kernel_rfl)) rfl ?_
 exact⟨_,rfl,⟨_,_,_,_,_,_,_,_,_,_,rfl,HH.out.2.2.1.set6 HH.out.1 _ _ _ _ _ _,HH.out.2.2.2.set6 HH.out.1 _ _ _ _ _ _⟩,below_set6 HH.out.2.1 (Nat.le_refl _) _ _ _ _ _ _⟩
theorem cells4R {w:World} {g:Nat} {a b c d:Value} {T:TypeId} (h:w.heap[g]?=some (.cells #[a,b,c,d] T (0,0))):w.cell? ⟨g,0,none⟩=some a∧w.cell? ⟨g,1,none⟩=some b∧w.cell? ⟨g,2,none⟩=some c∧w.cell? ⟨g,3,none⟩=some d:=by
 simp[World.cell?,h]
theorem Dscale_t (b h e:Int) (d:ByteArray) (t1 t2:Bool×Nat×Int) (w:World) (hb:¬ b=16) (hh:0≤h∧h≤1000000) (he : -1000000≤e∧e≤1000000)
  (k1:Hid (∀ W,Bw w W→Calls Tryz.prog 77 #[.int .i64 (e - h)] W fun r w'=>OutFv W t1 t2 r w')) :
  Calls Tryz.prog 124 #[.agg #[.int .i64 b,.string d,.int .i64 h,.int .i64 e]] w fun r w'=>OutFv w t1 t2 r w':=by
 obtain⟨W,hW⟩:∃ W,W=(w.alloc (.cells #[.int .i64 b,.string d,.int .i64 h,.int .i64 e] 75)).alloc (.cells #[.bool false,.slice none 0 0,.int .i64 0,.bool false,.slice none 0 0,.int .i64 0] 104):=⟨_,rfl⟩
 obtain⟨m1,m2,m3,m4⟩:=two_new _ _ hW
 obtain⟨c0,c1,c2,c3⟩:=cells4R m1
 have HC:Hid (W.heap[w.heap.size+1]?=some (.cells #[.bool false,.slice none 0 0,.int .i64 0,.bool false,.slice none 0 0,.int .i64 0] 104 (0,0))∧Bw w W):=⟨m2,m4⟩
 have hw1:IntKind.i64.wrap (4*h)=4*h:=by rw[IntKind.wrap_i64];omega
 have hw2:IntKind.i64.wrap (e - 4*h)=e - 4*h:=by rw[IntKind.wrap_i64];omega
 have hw3:IntKind.i64.wrap (e - h)=e - h:=by rw[IntKind.wrap_i64];omega
 have kk:=k1.out W m4
 clear m1 m2 m3 m4 k1 hh he
 skip
 go_enter Tryz.func124,Tryz.ntmps124
 go_upto_region 1 with fail
 rw[←hW]
 clear hW
 go_wp2_with fail
 refine kk.mono ?_
 rintro r w1 ⟨_,rfl,⟨s1,ao1,n1,cp1,e1,s2,ao2,n2,cp2,e2,rfl,hp,hq⟩,hb1⟩
 clear kk c0 c1 c2 c3
 have HH:Hid (w1.heap[w.heap.size+1]?=some (.cells #[.bool false,.slice none 0 0,.int .i64 0,.bool false,.slice none 0 0,.int .i64 0] 104 (0,0))∧Bw w w1∧PN w1 (.agg #[.bool s1,.slice ao1 n1 cp1,.int .i64 e1]) t1∧PN w1 (.agg #[.bool s2,.slice ao2 n2 cp2,.int .i64 e2]) t2):=⟨box_later HC.out.1 hb1 (lt_of_box HC.out.1),HC.out.2.trans (hb1.mono HC.out.2.size),hp,hq⟩
 clear hp hq hb1 HC
 obtain⟨⟨c0,c1,c2,c3,c4,c5⟩,d0,d1,d2,d3,d4,d5⟩:=cells6F HH.out.1
 go_wp2_with fail
 refine bodyPost_ret (results_cell_row rfl _ _ (w.heap.size+1) 104 #[.bool s1,.slice ao1 n1 cp1,.int .i64 e1,.bool s2,.slice ao2 n2 cp2,.int .i64 e2] (0,0) _ rfl (set6_at _ _ _ _ _ _ HH.out.1) Tryz.underlying104 rfl (by kernel_rfl)) rfl ?_
 exact⟨_,rfl,⟨_,_,_,_,_,_,_,_,_,_,rfl,HH.out.2.2.1.set6 HH.out.1 _ _ _ _ _ _,HH.out.2.2.2.set6 HH.out.1 _ _ _ _ _ _⟩,below_set6 HH.out.2.1 (Nat.le_succ _) _ _ _ _ _ _⟩
theorem Dscale_x (b h e:Int) (d:ByteArray) (t1 t2:Bool×Nat×Int) (w:World) (hb:b=16) (hh:0≤h∧h≤1000000) (he : -1000000≤e∧e≤1000000)
  (k1:Hid (∀ W,Bw w W→Calls Tryz.prog 179 #[.int .i64 (e - 4*h)] W fun r w'=>OutFv W t1 t2 r w')) :
  Calls Tryz.prog 124 #[.agg #[.int .i64 b,.string d,.int .i64 h,.int .i64 e]] w fun r w'=>OutFv w t1 t2 r w':=by
 obtain⟨W,hW⟩:∃ W,W=(w.alloc (.cells #[.int .i64 b,.string d,.int .i64 h,.int .i64 e] 75)).alloc (.cells #[.bool false,.slice none 0 0,.int .i64 0,.bool false,.slice none 0 0,.int .i64 0] 104):=⟨_,rfl⟩
 obtain⟨m1,m2,m3,m4⟩:=two_new _ _ hW
 obtain⟨c0,c1,c2,c3⟩:=cells4R m1
 have HC:Hid (W.heap[w.heap.size+1]?=some (.cells #[.bool false,.slice none 0 0,.int .i64 0,.bool false,.slice none 0 0,.int .i64 0] 104 (0,0))∧Bw w W):=⟨m2,m4⟩
 have hw1:IntKind.i64.wrap (4*h)=4*h:=by rw[IntKind.wrap_i64];omega
 have hw2:IntKind.i64.wrap (e - 4*h)=e - 4*h:=by rw[IntKind.wrap_i64];omega
 have hw3:IntKind.i64.wrap (e - h)=e - h:=by rw[IntKind.wrap_i64];omega
 have kk:=k1.out W m4
 clear m1 m2 m3 m4 k1 hh he
 subst hb
 go_enter Tryz.func124,Tryz.ntmps124
 go_upto_region 1 with fail
 rw[←hW]
 clear hW
 go_wp2_with fail
 refine kk.mono ?_
 rintro r w1 ⟨_,rfl,⟨s1,ao1,n1,cp1,e1,s2,ao2,n2,cp2,e2,rfl,hp,hq⟩,hb1⟩
 clear kk c0 c1 c2 c3
 have HH:Hid (w1.heap[w.heap.size+1]?=some (.cells #[.bool false,.slice none 0 0,.int .i64 0,.bool false,.slice none 0 0,.int .i64 0] 104 (0,0))∧Bw w w1∧PN w1 (.agg #[.bool s1,.slice ao1 n1 cp1,.int .i64 e1]) t1∧PN w1 (.agg #[.bool s2,.slice ao2 n2 cp2,.int .i64 e2]) t2):=⟨box_later HC.out.1 hb1 (lt_of_box HC.out.1),HC.out.2.trans (hb1.mono HC.out.2.size),hp,hq⟩
 clear hp hq hb1 HC
 obtain⟨⟨c0,c1,c2,c3,c4,c5⟩,d0,d1,d2,d3,d4,d5⟩:=cells6F HH.out.1
 go_wp2_with fail
 refine bodyPost_ret (results_cell_row rfl _ _ (w.heap.size+1) 104 #[.bool s1,.slice ao1 n1 cp1,.int .i64 e1,.bool s2,.slice ao2 n2 cp2,.int .i64 e2] (0,0) _ rfl (set6_at _ _ _ _ _ _ HH.out.1) Tryz.underlying104 rfl (by kernel_rfl)) rfl ?_
 exact⟨_,rfl,⟨_,_,_,_,_,_,_,_,_,_,rfl,HH.out.2.2.1.set6 HH.out.1 _ _ _ _ _ _,HH.out.2.2.2.set6 HH.out.1 _ _ _ _ _ _⟩,below_set6 HH.out.2.1 (Nat.le_succ _) _ _ _ _ _ _⟩
def isR2 (f:Nat) (er:Int):World→Value→Prop:=isV (.tuple #[.float .f64 f,.int .i64 er])
theorem Drounded_1 (b h e m sg er:Int) (d:ByteArray) (neg:Bool) (tw tz t1 t2 tm:Bool×Nat×Int) (f:Nat) (w:World) (hsg:Hid (¬ sg=0))
  (k1:Hid (∀ W,Bw w W→Calls Tryz.prog 121 #[.agg #[.int .i64 b,.string d,.int .i64 h,.int .i64 e]] W fun r w'=>OutA W tw r w'))
  (k2:Hid (∀ W X,Bw w W→PN W X tw→Calls Tryz.prog 89 #[X] W fun r w'=>r=.returned (.int .i64 sg)∧Bw W w'))
  (k3:Hid (neg=true→∀ W X,Bw w W→PN W X tw→Calls Tryz.prog 123 #[X] W fun r w'=>OutA W tz r w')) (hz:Hid (neg=false→tz=tw))
  (k4:Hid (∀ W,Bw w W→Calls Tryz.prog 124 #[.agg #[.int .i64 b,.string d,.int .i64 h,.int .i64 e]] W fun r w'=>OutFv W t1 t2 r w'))
  (k5:Hid (∀ W X Y,Bw w W→PN W X tz→PN W Y t1→Calls Tryz.prog 94 #[X,Y] W fun r w'=>OutA W tm r w'))
  (k6:Hid (∀ W X Y,Bw w W→PN W X tm→PN W Y t2→Calls Tryz.prog 125 #[X,Y,.int .i64 m] W fun r w'=>r=.returned (.tuple #[.float .f64 f,.int .i64 er])∧Bw W w')) :
  Calls Tryz.prog 56 #[.agg #[.int .i64 b,.string d,.int .i64 h,.int .i64 e],.bool neg,.int .i64 m] w fun r w'=>r=.returned (.float .f64 f)∧Bw w w':=by
 obtain⟨W,hW⟩:∃ W,W=w.alloc (.cells #[.int .i64 b,.string d,.int .i64 h,.int .i64 e] 75):=⟨_,rfl⟩
 have m1:W.heap[w.heap.size]?=some (.cells #[.int .i64 b,.string d,.int .i64 h,.int .i64 e] 75 (0,0)):=by rw[hW];exact heap_alloc_new _ _
 have m4:Bw w W:=by rw[hW];exact(Below.refl _ _).alloc (Nat.le_refl _) _
 obtain⟨c0,c1,c2,c3⟩:=cells4R m1
 have HC:Hid (W.heap[w.heap.size]?=some (.cells #[.int .i64 b,.string d,.int .i64 h,.int .i64 e] 75 (0,0))∧Bw w W):=⟨m1,m4⟩
 have kk:=k1.out W m4
 clear m1 m4 k1
 go_enter Tryz.func56,Tryz.ntmps56
 go_upto_region 1 with fail
 rw[←hW]
 clear hW
 go_wp2_with fail
 refine kk.mono ?_
 rintro r w1 ⟨s1,ao1,n1,cp1,e1,rfl,hA,hb1⟩
 clear kk c0 c1 c2 c3
 obtain⟨W1,hW1⟩:∃ W1,W1=w1.alloc (.cells #[.bool s1,.slice ao1 n1 cp1,.int .i64 e1] 50):=⟨_,rfl⟩
 have hbV:Bw w1 W1:=by rw[hW1];exact(Below.refl _ _).alloc (Nat.le_refl _) _
 have n6:W1.heap[w1.heap.size]?=some (.cells #[.bool s1,.slice ao1 n1 cp1,.int .i64 e1] 50 (0,0)):=by rw[hW1];exact heap_alloc_new _ _
 go_upto_region 2 with fail
 rw[←hW1]
 clear hW1
 have hA':=hA.later hbV
 have hb1':Bw W W1:=hb1.trans (hbV.mono hb1.size)
 have hlt:w.heap.size<w1.heap.size:=Nat.lt_of_lt_of_le (lt_of_box HC.out.1) hb1.size
 clear hbV hA hb1
 generalize w1.heap.size=gqA at *
 have H1:Hid (W1.heap[w.heap.size]?=some (.cells #[.int .i64 b,.string d,.int .i64 h,.int .i64 e] 75 (0,0))∧PBx W1 gqA s1 ao1 n1 cp1 e1 tw∧Bw w W1∧w.heap.size<gqA):=⟨box_later HC.out.1 hb1' (lt_of_box HC.out.1),⟨n6,hA'⟩,HC.out.2.trans (hb1'.mono HC.out.2.size),hlt⟩
 obtain⟨⟨c0,c1,c2⟩,-⟩:=box_cells H1.out.2.1.1
 have kk:=k2.out W1 _ H1.out.2.2.1 hA'
 have hsg':=hsg.out
 clear k2 n6 hA' hb1' hlt HC hsg
 go_wp2_with fail
 refine kk.mono ?_
 rintro r w2 ⟨rfl,hb2⟩
 have H2:Hid (w2.heap[w.heap.size]?=some (.cells #[.int .i64 b,.string d,.int .i64 h,.int .i64 e] 75 (0,0))∧PBx w2 gqA s1 ao1 n1 cp1 e1 tw∧Bw w w2∧w.heap.size<gqA):=⟨box_later H1.out.1 hb2 (lt_of_box H1.out.1),H1.out.2.1.later hb2,H1.out.2.2.1.trans (hb2.mono H1.out.2.2.1.size),H1.out.2.2.2⟩
 clear kk hb2 H1 c0 c1 c2
 go_upto_if 19 with fail
 go_cut [] from 11 to 21 (fun wx=>∃ (s5:Bool) (ao5:Option Addr) (n5 cp5:Nat) (e5:Int),Hid (wx.heap[w.heap.size]?=some (.cells #[.int .i64 b,.string d,.int .i64 h,.int .i64 e] 75 (0,0))∧PBx wx gqA s5 ao5 n5 cp5 e5 tz∧Bw w wx∧w.heap.size<gqA))
 case first =>
  cases neg
  ·go_wp2
   go_meet
   obtain rfl:=hz.out (by first|rfl|trivial)
   exact⟨_,_,_,_,_,H2⟩
  ·obtain⟨⟨c0,c1,c2⟩,g0,g1,g2⟩:=box_cells H2.out.2.1.1
   have kk:=k3.out rfl w2 _ H2.out.2.2.1 H2.out.2.1.2
   clear k3
   go_wp2_with fail
   refine kk.mono ?_
   rintro r w3 ⟨s3,ao3,n3,cp3,e3,rfl,hA,hb3⟩
   have H3:Hid ((w3.heap[w.heap.size]?=some (.cells #[.int .i64 b,.string d,.int .i64 h,.int .i64 e] 75 (0,0))∧PBx w3 gqA s1 ao1 n1 cp1 e1 tw∧Bw w w3∧w.heap.size<gqA)∧PN w3 (.agg #[.bool s3,.slice ao3 n3 cp3,.int .i64 e3]) tz):=⟨⟨box_later H2.out.1 hb3 (lt_of_box H2.out.1),H2.out.2.1.later hb3,H2.out.2.2.1.trans (hb3.mono H2.out.2.2.1.size),H2.out.2.2.2⟩,hA⟩
   clear kk hA hb3 H2 c0 c1 c2 g0 g1 g2
   obtain⟨⟨c0,c1,c2⟩,g0,g1,g2⟩:=box_cells H3.out.1.2.1.1
   go_wp2
   go_meet
   have a:=H3.out
   exact⟨_,_,_,_,_,⟨by rw[store3_other _ _ _ (Nat.ne_of_lt a.1.2.2.2)];exact a.1.1,⟨set3_at _ _ _ a.1.2.1.1,a.2.set3 a.1.2.1.1 _ _ _⟩,below_set3 a.1.2.2.1 (Nat.le_of_lt a.1.2.2.2) _ _ _,a.1.2.2.2⟩⟩
 case rest =>
 obtain⟨s5,ao5,n5,cp5,e5,H4⟩:=hcut
 clear H2 k3 hz
 obtain⟨c0,c1,c2,c3⟩:=cells4R H4.out.1
 have kk:=k4.out _ H4.out.2.2.1
 clear k4
 go_wp2_with fail
 refine kk.mono ?_
 rintro r w5 ⟨_,rfl,⟨s1,ao1,n1,cp1,e1,s2,ao2,n2,cp2,e2,rfl,hp,hq⟩,hb5⟩
 clear kk c0 c1 c2 c3
 obtain⟨W5,hW5⟩:∃ W5,W5=w5.alloc (.cells #[.bool s1,.slice ao1 n1 cp1,.int .i64 e1,.bool s2,.slice ao2 n2 cp2,.int .i64 e2] 104):=⟨_,rfl⟩
 have hbV:Bw w5 W5:=by rw[hW5];exact(Below.refl _ _).alloc (Nat.le_refl _) _
 have n6:W5.heap[w5.heap.size]?=some (.cells #[.bool s1,.slice ao1 n1 cp1,.int .i64 e1,.bool s2,.slice ao2 n2 cp2,.int .i64 e2] 104 (0,0)):=by rw[hW5];exact heap_alloc_new _ _
 go_upto_region 7 with fail
 rw[←hW5]
 clear hW5
 have hb5':=hb5.trans (hbV.mono hb5.size)
 have p1:=hp.later hbV
 have p2:=hq.later hbV
 clear hbV hp hq hb5
 generalize w5.heap.size=gqS at *
 have m1:=H4.out.2.1.later hb5'
 have hBW:=H4.out.2.2.1.trans (hb5'.mono H4.out.2.2.1.size)
 clear H4 hb5'
 refine r_region [0,1,2,3,4,5,6,7,8,9,10,11,12] [25,26,27,28,29,30,31,32,24,33,34,9,10] [[],[],[1],[0,2],[],[4],[],[3,5,6],[7],[8],[8],[9],[10]] W5 _ [isV (.agg #[.bool s5,.slice ao5 n5 cp5,.int .i64 e5]),isV (.pointer (some ⟨gqS,0,none⟩)),isV (.agg #[.bool s1,.slice ao1 n1 cp1,.int .i64 e1]),isP tm,isV (.pointer (some ⟨gqS,3,none⟩)),isV (.agg #[.bool s2,.slice ao2 n2 cp2,.int .i64 e2]),isV (.int .i64 m),isR2 f er,isR2 f er,isV (.float .f64 f),isV (.int .i64 er),isV (.float .f64 f),isV (.int .i64 er)] (by kernel_rfl) ⟨isV_stays _,isV_stays _,isV_stays _,isP_stays _,isV_stays _,isV_stays _,isV_stays _,isV_stays _,isV_stays _,isV_stays _,isV_stays _,isV_stays _,isV_stays _,trivial⟩ (by show ∀ s ∈ [25,26,27,28,29,30,31,32,24,33,34,9,10],s<36;decide) ?_ ?_
 ·intro j hj o ho act U hb hoth hdep
  have hj':j<13:=hj
  have hbU:Bw w U:=hBW.trans (hb.mono hBW.size)
  have t2':act.tmps[(2:Nat)]?=some (Value.int .i64 m):=(hoth 2 (by decide)).trans rfl
  have t7':act.tmps[(7:Nat)]?=some (Value.pointer (some ⟨gqA,0,none⟩)):=(hoth 7 (by decide)).trans rfl
  have t8':act.tmps[(8:Nat)]?=some (Value.pointer (some ⟨gqS,0,none⟩)):=(hoth 8 (by decide)).trans rfl
  have d7:=(cells3N (box_later m1.1 hb (lt_of_box m1.1))).1
  have d8:=(cells6F (box_later n6 hb (lt_of_box n6))).1
  rcases(by omega:j=0∨j=1∨j=2∨j=3∨j=4∨j=5∨j=6∨j=7∨j=8∨j=9∨j=10∨j=11∨j=12)with rfl|rfl|rfl|rfl|rfl|rfl|rfl|rfl|rfl|rfl|rfl|rfl|rfl
  ·obtain rfl:=Option.some.inj ho
   exact .inl ⟨rfl,owp_ldP (f:=0) rfl t7' d7.1 d7.2.1 d7.2.2 ⟨_,rfl,rfl,Below.refl _ _⟩⟩
  ·obtain rfl:=Option.some.inj ho
   exact .inl ⟨rfl,owp_fldS0 rfl t8' ⟨_,rfl,rfl,Below.refl _ _⟩⟩
  ·obtain rfl:=Option.some.inj ho
   have y1:act.tmps[(26:Nat)]?=_:=dV (hdep 1 (by simp[dL])) rfl
   exact .inl ⟨rfl,owp_ldP (f:=0) rfl y1 d8.1 d8.2.1 d8.2.2.1 ⟨_,rfl,rfl,Below.refl _ _⟩⟩
  ·obtain rfl:=Option.some.inj ho
   have y0:act.tmps[(25:Nat)]?=_:=dV (hdep 0 (by simp[dL])) rfl
   have y2:act.tmps[(27:Nat)]?=_:=dV (hdep 2 (by simp[dL])) rfl
   refine .inl ⟨rfl,owp_call rfl (enters Tryz.func94 (by kernel_rfl) (by kernel_rfl)) (map2 y0 y2) ?_⟩
   refine(k5.out U _ _ hbU (m1.2.later hb) (p1.later hb)).mono ?_
   rintro r w' ⟨_,_,_,_,_,rfl,hA,hb'⟩
   exact⟨_,rfl,_,rfl,hA,hb'⟩
  ·obtain rfl:=Option.some.inj ho
   exact .inl ⟨rfl,owp_fldS1 rfl t8' ⟨_,rfl,rfl,Below.refl _ _⟩⟩
  ·obtain rfl:=Option.some.inj ho
   have y4:act.tmps[(29:Nat)]?=_:=dV (hdep 4 (by simp[dL])) rfl
   exact .inl ⟨rfl,owp_ldP (f:=3) rfl y4 d8.2.2.2.1 d8.2.2.2.2.1 d8.2.2.2.2.2 ⟨_,rfl,rfl,Below.refl _ _⟩⟩
  ·obtain rfl:=Option.some.inj ho
   exact .inl ⟨rfl,owp_move rfl t2' ⟨_,rfl,rfl,Below.refl _ _⟩⟩
  ·obtain rfl:=Option.some.inj ho
   obtain⟨u3,y3,v3⟩:=hdep 3 (by simp[dL])
   have y3':act.tmps[(28:Nat)]?=_:=y3
   have y5:act.tmps[(30:Nat)]?=_:=dV (hdep 5 (by simp[dL])) rfl
   have y6:act.tmps[(31:Nat)]?=_:=dV (hdep 6 (by simp[dL])) rfl
   refine .inl ⟨rfl,owp_call rfl (enters Tryz.func125 (by kernel_rfl) (by kernel_rfl)) (map3t y3' y5 y6) ?_⟩
   refine(k6.out U _ _ hbU v3 (p2.later hb)).mono ?_
   rintro r w' ⟨rfl,hb'⟩
   exact⟨_,rfl,_,rfl,rfl,hb'⟩
  ·obtain rfl:=Option.some.inj ho
   have y7:act.tmps[(32:Nat)]?=_:=dV (hdep 7 (by simp[dL])) rfl
   exact .inl ⟨rfl,owp_move rfl y7 ⟨_,rfl,rfl,Below.refl _ _⟩⟩
  ·obtain rfl:=Option.some.inj ho
   have y8:act.tmps[(24:Nat)]?=_:=dV (hdep 8 (by simp[dL])) rfl
   exact .inl ⟨rfl,owp_extS rfl y8 rfl ⟨_,rfl,rfl,Below.refl _ _⟩⟩
  ·obtain rfl:=Option.some.inj ho
   have y8:act.tmps[(24:Nat)]?=_:=dV (hdep 8 (by simp[dL])) rfl
   exact .inl ⟨rfl,owp_extS rfl y8 rfl ⟨_,rfl,rfl,Below.refl _ _⟩⟩
  ·obtain rfl:=Option.some.inj ho
   have y9:act.tmps[(33:Nat)]?=_:=dV (hdep 9 (by simp[dL])) rfl
   exact .inl ⟨rfl,owp_assign rfl y9 ⟨_,rfl,rfl,Below.refl _ _⟩⟩
  ·obtain rfl:=Option.some.inj ho
   have y10:act.tmps[(34:Nat)]?=_:=dV (hdep 10 (by simp[dL])) rfl
   exact .inl ⟨rfl,owp_assign rfl y10 ⟨_,rfl,rfl,Below.refl _ _⟩⟩
 ·intro u W6 hb6 hu
  have u11:u 11=.float .f64 f:=hu 11 (by show 11<13;decide)
  have HB:Hid (Bw w W6):=hBW.trans (hb6.mono hBW.size)
  clear hu hb6 k5 k6 m1 hBW n6 p1 p2
  simp only[putL,show List.range 13 = [0,1,2,3,4,5,6,7,8,9,10,11,12] from rfl,show List.range 13 = [0,1,2,3,4,5,6,7,8,9,10,11,12] from rfl,List.length_cons,List.length_nil,List.getD_cons_zero,List.getD_cons_succ,List.map_cons,List.map_nil,List.cons_append,List.nil_append,List.foldl_cons,List.foldl_nil,Nat.reduceLT,Nat.reduceMod,Nat.reduceDiv,Nat.reduceMul,Nat.reduceAdd,Nat.reduceEqDiff,reduceIte,Nat.one_ne_zero,Act.put,List.setIfInBounds_toArray,List.set_cons_zero,List.set_cons_succ]
  rw[u11]
  clear u11
  go_wp2
  go_ret
  exact⟨rfl,HB.out⟩
end Go.Proofs.YtfkaogdmlcdceaaGreatDoor
namespace Go.Proofs.YtfkaogdmlcdceaaGreatDoor
open Go Go.RowKit Go.Fl64
theorem DofWord_1 (N:Nat) (d0 d1:Int) (t:Bool×Nat×Int) (w:World) (hN:N<18446744073709551616) (hd0:(N:Int) % 4294967296=d0) (hd1:(N:Int) / 4294967296=d1)
  (kK:∀ W g,Bw w W→W.heap[g]?=some (.cells #[.int .u32 d0,.int .u32 d1] 96 (0,0))→Calls Tryz.prog 138 #[.bool false,.slice (some ⟨g,0,none⟩) 2 2,.int .i64 0] W fun r w'=>OutN8 W t r w') :
  Calls Tryz.prog 75 #[.int .u64 N] w fun r w'=>OutA w t r w':=by
 obtain⟨w1,hw1⟩:∃ w1,w1=w.alloc (.cells #[.bool false,.slice none 0 0,.int .i64 0] 50):=⟨_,rfl⟩
 have HA:Hid (Bw w w1∧w1.heap[w.heap.size]?=some (.cells #[.bool false,.slice none 0 0,.int .i64 0] 50 (0,0))):=⟨by rw[hw1];exact(Below.refl _ _).alloc (Nat.le_refl _) _,by rw[hw1];exact heap_alloc_new _ _⟩
 obtain⟨W,hW⟩:∃ W,W=w1.alloc (.cells #[.int .u32 d0,.int .u32 d1] 96):=⟨_,rfl⟩
 have hbV:Bw w1 W:=by rw[hW];exact(Below.refl _ _).alloc (Nat.le_refl _) _
 have HBW:Hid (Bw w W∧W.heap[w.heap.size]?=some (.cells #[.bool false,.slice none 0 0,.int .i64 0] 50 (0,0))):=⟨HA.out.1.trans (hbV.mono HA.out.1.size),box_later HA.out.2 hbV (lt_of_box HA.out.2)⟩
 have k1:=kK W w1.heap.size HBW.out.1 (by rw[hW];exact heap_alloc_new _ _)
 clear kK hbV
 go_enter Tryz.func75,Tryz.ntmps75
 go_upto_region 1 with fail
 rw[←hw1]
 clear hw1
 go_wp2_with fail
 rw[←hW]
 clear hW HA
 refine k1.mono ?_
 rintro r w2 ⟨s1,ao1,n1,cp1,e1,rfl,hp,hb⟩
 clear k1 hd0 hd1 hN
 obtain⟨V,hV⟩:∃ V,V=w2.alloc (.cells #[.bool s1,.slice ao1 n1 cp1,.int .i64 e1] 50):=⟨_,rfl⟩
 have hbV:Bw w2 V:=by rw[hV];exact(Below.refl _ _).alloc (Nat.le_refl _) _
 have n6:V.heap[w2.heap.size]?=some (.cells #[.bool s1,.slice ao1 n1 cp1,.int .i64 e1] 50 (0,0)):=by rw[hV];exact heap_alloc_new _ _
 go_upto_region 2 with fail
 rw[←hV]
 clear hV
 have hb':=hb.trans (hbV.mono hb.size)
 have hlt:w.heap.size<w2.heap.size:=Nat.lt_of_lt_of_le (lt_of_box HBW.out.2) hb.size
 have hp':=hp.later hbV
 clear hp hb hbV
 generalize w2.heap.size=gqA at *
 have H1:Hid (V.heap[w.heap.size]?=some (.cells #[.bool false,.slice none 0 0,.int .i64 0] 50 (0,0))∧PBx V gqA s1 ao1 n1 cp1 e1 t∧Bw w V):=⟨box_later HBW.out.2 hb' (lt_of_box HBW.out.2),⟨n6,hp'⟩,HBW.out.1.trans (hb'.mono HBW.out.1.size)⟩
 clear HBW n6 hp' hb'
 obtain⟨⟨c0,c1,c2⟩,-⟩:=box_cells H1.out.2.1.1
 obtain⟨⟨z0,z1,z2⟩,y0,y1,y2⟩:=box_cells H1.out.1
 go_wp2
 refine bodyPost_ret (results_cell_row rfl _ _ w.heap.size 50 #[.bool s1,.slice ao1 n1 cp1,.int .i64 e1] (0,0) _ rfl (set3_at _ _ _ H1.out.1) Tryz.underlying50 rfl Tryz.info50) rfl ?_
 exact⟨_,_,_,_,_,rfl,H1.out.2.1.2.set3 H1.out.1 _ _ _,below_set3 H1.out.2.2 (Nat.le_refl _) _ _ _⟩
theorem DofWord {N:Nat} {w:World} (hT:Tab32 w) (hN:N<18446744073709551616):Calls Tryz.prog 75 #[.int .u64 N] w fun r w'=>OutA w (un (N:Int) 0) r w':=by
 refine DofWord_1 N _ _ (un (N:Int) 0) w hN rfl rfl ?_
 intro W g hW hg
 have hcell:∀ i,i<2→W.cell? ⟨g,0+i,none⟩=some (.int .u32 (dg N i:Nat)):=by
  intro i hi
  rcases(show i=0∨i=1 by omega)with rfl|rfl
  ·rw[show(dg N 0:Nat)=N % 4294967296 by unfold dg B;simp]
   simp[World.cell?,hg]
  ·rw[show(dg N 1:Nat)=N / 4294967296 by unfold dg B;rw[Nat.pow_one,Nat.mod_eq_of_lt (by omega)]]
   simp[World.cell?,hg]
 have hR:okR false N 0=true:=by
  have:=okR_un (Z:=(N:Int)) (p:=0) (b:=64) (by rw[Int.natAbs_natCast];omega) (by omega) (by omega)
  rwa [Int.natAbs_natCast,show decide ((N:Int)<0)=false from decide_eq_false (by omega)] at this
 have key:Calls Tryz.prog 138 #[.bool false,.slice (some ⟨g,0,none⟩) 2 2,.int .i64 0] W fun r w'=>Mk25 W w' false N 0 r∧Bw W w':=by
  by_cases h:N=0
  ·subst h
   exact c15_0 false (some ⟨g,0,none⟩) 2 2 0 W ⟨g,0,fun _=>rfl,hcell⟩ (by omega) (by omega)
  ·exact c15_1 false g 0 2 2 N 0 W hcell ((dlen_le 2 N).2 (by unfold B;omega)) (by omega) (by omega) (by omega) h (by omega) (hT.later hW)
 refine key.mono ?_
 rintro r w' ⟨⟨-,A,rfl,hN'⟩|⟨h,-⟩,hb⟩
 ·have hp:=hN'.pn
  have e1:cn false N 0=un (N:Int) 0:=by unfold un;rw[Int.natAbs_natCast,show decide ((N:Int)<0)=false from decide_eq_false (by omega)];rfl
  rw[e1] at hp
  obtain⟨s,ao,n,cap,e,rfl⟩:=hp.shape
  exact⟨s,ao,n,cap,e,rfl,hp,hb⟩
 ·rw[hR] at h;cases h
theorem dvP_app (b:Nat) (L:List UInt8) (k:Nat):∀ m,dvP b L (k+m)=dvP b L k*b^m+dvP b (L.drop k) m
 | 0=>by simp[dvP]
 | m+1=>by
  show dvP b L (k+m)*b+dgB (bL L (k+m))=dvP b L k*b^(m+1)+(dvP b (L.drop k) m*b+dgB (bL (L.drop k) m))
  have e:bL (L.drop k) m=bL L (k+m):=by unfold bL;rw[List.getElem?_drop]
  rw[dvP_app b L k m,e,Nat.pow_succ,Nat.add_mul,Nat.mul_assoc,Nat.add_assoc]
theorem dvP_take (b:Nat) (L:List UInt8) (n:Nat):∀ m,m≤n→dvP b (L.take n) m=dvP b L m
 | 0,_=>rfl
 | m+1,h=>by
  show dvP b (L.take n) m*b+dgB (bL (L.take n) m)=dvP b L m*b+dgB (bL L m)
  have e:bL (L.take n) m=bL L m:=by unfold bL;rw[List.getElem?_take_of_lt (by omega)]
  rw[dvP_take b L n m (by omega),e]
theorem bytes_empty (L:List UInt8):(⟨L.toArray⟩:ByteArray).toList.isEmpty=L.isEmpty:=by rw[Lib.toList_data]
theorem Dwhole_1 (B:Nat) (L:List UInt8) (h e:Int) (P Qn V:Nat→Bool×Nat×Int) (Rk:Nat→Nat→Bool×Nat×Int) (w:World) (hP0:P 0=nilN) (hL:L.length≤5000)
  (k1:Hid (∀ W (pt:List UInt8) k,pt=(L.drop k).take (min 15 (L.length - k))→k<L.length→Calls Tryz.prog 176 #[.string ⟨pt.toArray⟩,.int .i64 (B:Int),.int .i64 64] W fun r w'=>r=.returned (.tuple #[.int .u64 ((dvP B pt pt.length:Nat):Int),.nilIface])∧Bw W w'))
  (k2:Hid (∀ W n,Bw w W→n≤15→Calls Tryz.prog 88 #[.int .i64 (B:Int),.int .i64 (n:Nat)] W fun r w'=>OutA W (Qn n) r w'))
  (k3:Hid (∀ W X Y k n,Bw w W→PN W X (P k)→PN W Y (Qn n)→k+n≤L.length→n≤15→Calls Tryz.prog 94 #[X,Y] W fun r w'=>OutA W (Rk k n) r w'))
  (k4:Hid (∀ W (pt:List UInt8) k,pt=(L.drop k).take (min 15 (L.length - k))→k<L.length→Bw w W→Calls Tryz.prog 75 #[.int .u64 ((dvP B pt pt.length:Nat):Int)] W fun r w'=>OutA W (V k) r w'))
  (k5:Hid (∀ W X Y k n,Bw w W→PN W X (Rk k n)→PN W Y (V k)→n=min 15 (L.length - k)→k<L.length→Calls Tryz.prog 98 #[X,Y] W fun r w'=>OutA W (P (k+n)) r w')) :
  Calls Tryz.prog 121 #[.agg #[.int .i64 (B:Int),.string ⟨L.toArray⟩,.int .i64 h,.int .i64 e]] w fun r w'=>OutA w (P L.length) r w':=by
 obtain⟨W,hW⟩:∃ W,W=(w.alloc (.cells #[.int .i64 (B:Int),.string ⟨L.toArray⟩,.int .i64 h,.int .i64 e] 75)).alloc (.cells #[.bool false,.slice none 0 0,.int .i64 0] 50):=⟨_,rfl⟩
 obtain⟨z1,z2,z3,z4⟩:=two_new _ _ hW
 obtain⟨W1,hW1⟩:∃ W1,W1=W.alloc (.cells #[.bool false,.slice none 0 0,.int .i64 0] 50):=⟨_,rfl⟩
 have hb1:Bw W W1:=by rw[hW1];exact(Below.refl _ _).alloc (Nat.le_refl _) _
 have n6:W1.heap[W.heap.size]?=some (.cells #[.bool false,.slice none 0 0,.int .i64 0] 50 (0,0)):=by rw[hW1];exact heap_alloc_new _ _
 obtain⟨gqS,hgq⟩:∃ g,g=W.heap.size:=⟨_,rfl⟩
 rw[←hgq] at n6
 have H0:Hid (W1.heap[w.heap.size]?=some (.cells #[.int .i64 (B:Int),.string ⟨L.toArray⟩,.int .i64 h,.int .i64 e] 75 (0,0))∧PBx W1 gqS false none 0 0 0 (P 0)∧Bw w W1∧w.heap.size+1<gqS∧W1.heap[w.heap.size+1]?=some (.cells #[.bool false,.slice none 0 0,.int .i64 0] 50 (0,0))):=⟨box_later z1 hb1 (lt_of_box z1),⟨n6,by rw[hP0];exact pn_nilN _⟩,z4.trans (hb1.mono z4.size),by rw[hgq];omega,box_later z2 hb1 (lt_of_box z2)⟩
 obtain⟨c0,c1,c2,c3⟩:=cells4R H0.out.1
 clear z1 z2 z3 z4 hb1 n6
 go_enter Tryz.func121,Tryz.ntmps121
 go_upto_region 1 with fail
 rw[←hW]
 clear hW
 go_upto_region 2 with fail
 rw[←hW1,←hgq]
 clear hW1 hgq
 go_wp2
 clear c0 c1 c2 c3
 go_loopg [4] L.length (fun m v wr=>∃ (k:Nat) (s3:Bool) (ao3:Option Addr) (n3 cp3:Nat) (e3:Int),k+m=L.length∧v=.string ⟨(L.drop k).toArray⟩∧Hid (wr.heap[w.heap.size]?=some (.cells #[.int .i64 (B:Int),.string ⟨L.toArray⟩,.int .i64 h,.int .i64 e] 75 (0,0))∧PBx wr gqS s3 ao3 n3 cp3 e3 (P k)∧Bw w wr∧w.heap.size+1<gqS∧wr.heap[w.heap.size+1]?=some (.cells #[.bool false,.slice none 0 0,.int .i64 0] 50 (0,0))))
 case atStart=>exact⟨0,false,none,0,0,0,by omega,by rw[List.drop_zero],H0⟩
 case round =>
  obtain⟨k,s3,ao3,n3,cp3,e3,hk,rfl,HI⟩:=hrel
  clear H0
  obtain⟨R,hR⟩:∃ R:ByteArray,R=⟨(L.drop k).toArray⟩:=⟨_,rfl⟩
  have hRe:R.toList.isEmpty=(L.drop k).isEmpty:=by rw[hR];exact bytes_empty _
  have hRs:R.size=L.length - k:=by rw[hR];show(L.drop k).length=_;rw[List.length_drop]
  rw[←hR]
  by_cases hkl:k<L.length
  ·have hRe':R.toList.isEmpty=false:=by rw[hRe];cases hq:L.drop k with|nil=>rw[List.drop_eq_nil_iff] at hq;omega|cons a t=>rfl
   obtain⟨m,hm⟩:∃ m,m=min 15 (L.length - k):=⟨_,rfl⟩
   obtain⟨pt,hP⟩:∃ pt:List UInt8,pt=(L.drop k).take m:=⟨_,rfl⟩
   have hPl:pt.length=m:=by rw[hP,List.length_take,List.length_drop];omega
   have hm0:0<m:=by omega
   have hmi:min (15:Int) ((R.size:Nat):Int)=(m:Int):=by rw[hRs];omega
   have hx1:R.extract 0 m=⟨pt.toArray⟩:=by rw[hR,hP];exact ext_take _ _
   have hx2:R.extract m R.size=⟨(L.drop (k+m)).toArray⟩:=by
    rw[hRs,hR]
    have:=ext_drop (L.drop k) m
    rw[List.length_drop,List.drop_drop] at this
    exact this
   have hPs:(⟨pt.toArray⟩:ByteArray).size=m:=hPl
   have hle:(m:Int)≤(R.size:Int):=by rw[hRs];omega
   have HM:Hid (m=min 15 (L.length - k)∧pt=(L.drop k).take m∧pt.length=m∧k<L.length∧k+gk=L.length∧0<m∧k+m≤L.length∧m≤15∧pt=(L.drop k).take (min 15 (L.length - k))):=⟨hm,hP,hPl,hkl,hk,hm0,by omega,by omega,by rw[←hm];exact hP⟩
   obtain⟨c0,c1,c2,c3⟩:=cells4R HI.out.1
   have kk:=fun W=>k1.out W pt k HM.out.2.2.2.2.2.2.2.2 hkl
   rw[hPl] at kk
   obtain⟨v,hv⟩:∃ v,v=dvP B pt m:=⟨_,rfl⟩
   have HV:Hid (v=dvP B pt m):=hv
   rw[←hv] at kk
   clear hRe hkl hm hP hPl hm0 hk hv hR
   generalize hRz:R.size=rz at *
   clear hRs
   go_wp2_with fail
   refine(kk _).mono ?_
   rintro r w1 ⟨rfl,hb1⟩
   have H1:Hid (w1.heap[w.heap.size]?=some (.cells #[.int .i64 (B:Int),.string ⟨L.toArray⟩,.int .i64 h,.int .i64 e] 75 (0,0))∧PBx w1 gqS s3 ao3 n3 cp3 e3 (P k)∧Bw w w1∧w.heap.size+1<gqS∧w1.heap[w.heap.size+1]?=some (.cells #[.bool false,.slice none 0 0,.int .i64 0] 50 (0,0))):=⟨box_later HI.out.1 hb1 (lt_of_box HI.out.1),HI.out.2.1.later hb1,HI.out.2.2.1.trans (hb1.mono HI.out.2.2.1.size),HI.out.2.2.2.1,box_later HI.out.2.2.2.2 hb1 (lt_of_box HI.out.2.2.2.2)⟩
   clear kk hb1 HI c0 c1 c2 c3 hx1 hx2 hmi hle hRe'
   go_upto_region 7 with fail
   obtain⟨m1,m2,hBW,m3,m4⟩:=H1.out
   refine valSL_region follows_mixed 10 [29,30,31,32,33,34,35,36,37,38] [[],[],[1],[],[3],[2,4],[0,5],[],[7],[6,8]] w1 _ [isV (.agg #[.bool s3,.slice ao3 n3 cp3,.int .i64 e3]),isV (.pointer (some ⟨w.heap.size,0,none⟩)),isV (.int .i64 (B:Int)),isV (.string ⟨pt.toArray⟩),isV (.int .i64 (m:Nat)),isP (Qn m),isP (Rk k m),isV (.int .u64 (v:Nat)),isP (V k),isP (P (k+m))] (by kernel_rfl) ⟨isV_stays _,isV_stays _,isV_stays _,isV_stays _,isV_stays _,isP_stays _,isP_stays _,isV_stays _,isP_stays _,isP_stays _,trivial⟩ ⟨rfl,by decide,by show ∀ s ∈ [29,30,31,32,33,34,35,36,37,38],s<40;decide⟩ ?_ ?_
   ·intro j hj o ho act U hb hoth hdep
    have hj':j<10:=hj
    have hbU:Bw w U:=hBW.trans (hb.mono hBW.size)
    have t1':act.tmps[(1:Nat)]?=some (Value.pointer (some ⟨w.heap.size,0,none⟩)):=(hoth 1 (by decide)).trans rfl
    have t3':act.tmps[(3:Nat)]?=some (Value.pointer (some ⟨gqS,0,none⟩)):=(hoth 3 (by decide)).trans rfl
    have t5':act.tmps[(5:Nat)]?=some (Value.string ⟨pt.toArray⟩):=(hoth 5 (by decide)).trans rfl
    have t6':act.tmps[(6:Nat)]?=some (Value.int .u64 (v:Nat)):=(hoth 6 (by decide)).trans rfl
    have d3:=(cells3N (box_later m2.1 hb (lt_of_box m2.1))).1
    have d1:=cells4R (box_later m1 hb (lt_of_box m1))
    rcases(by omega:j=0∨j=1∨j=2∨j=3∨j=4∨j=5∨j=6∨j=7∨j=8∨j=9)with rfl|rfl|rfl|rfl|rfl|rfl|rfl|rfl|rfl|rfl
    ·obtain rfl:=Option.some.inj ho
     exact(owp_ldP (f:=0) rfl t3' d3.1 d3.2.1 d3.2.2 ⟨_,rfl,rfl,Below.refl _ _⟩)
    ·obtain rfl:=Option.some.inj ho
     exact(owp_run1 (w':=U) (by simp[execOp,Act.eval,t1',go_sem]) ⟨_,rfl,rfl,Below.refl _ _⟩)
    ·obtain rfl:=Option.some.inj ho
     have y1:act.tmps[(30:Nat)]?=_:=dV (hdep 1 (by simp[dL])) rfl
     exact(owp_run1 (w':=U) (by simp[execOp,Act.eval,y1,go_sem,d1.1]) ⟨_,rfl,rfl,Below.refl _ _⟩)
    ·obtain rfl:=Option.some.inj ho
     exact(owp_move rfl t5' ⟨_,rfl,rfl,Below.refl _ _⟩)
    ·obtain rfl:=Option.some.inj ho
     have y3:act.tmps[(32:Nat)]?=_:=dV (hdep 3 (by simp[dL])) rfl
     exact(owp_run1 (w':=U) (by simp[execOp,Act.eval,y3,go_sem,hPs]) ⟨_,rfl,rfl,Below.refl _ _⟩)
    ·obtain rfl:=Option.some.inj ho
     have y2:act.tmps[(31:Nat)]?=_:=dV (hdep 2 (by simp[dL])) rfl
     have y4:act.tmps[(33:Nat)]?=_:=dV (hdep 4 (by simp[dL])) rfl
     refine(owp_call rfl (enters Tryz.func88 (by kernel_rfl) (by kernel_rfl)) (map2 y2 y4) ?_)
     refine(k2.out U m hbU HM.out.2.2.2.2.2.2.2.1).mono ?_
     rintro r w' ⟨_,_,_,_,_,rfl,hA,hb'⟩
     exact⟨_,rfl,_,rfl,hA,hb'⟩
    ·obtain rfl:=Option.some.inj ho
     have y0:act.tmps[(29:Nat)]?=_:=dV (hdep 0 (by simp[dL])) rfl
     obtain⟨u5,y5,v5⟩:=hdep 5 (by simp[dL])
     have y5':act.tmps[(34:Nat)]?=_:=y5
     refine(owp_call rfl (enters Tryz.func94 (by kernel_rfl) (by kernel_rfl)) (map2 y0 y5') ?_)
     refine(k3.out U _ _ k m hbU (m2.2.later hb) v5 HM.out.2.2.2.2.2.2.1 HM.out.2.2.2.2.2.2.2.1).mono ?_
     rintro r w' ⟨_,_,_,_,_,rfl,hA,hb'⟩
     exact⟨_,rfl,_,rfl,hA,hb'⟩
    ·obtain rfl:=Option.some.inj ho
     exact(owp_move rfl t6' ⟨_,rfl,rfl,Below.refl _ _⟩)
    ·obtain rfl:=Option.some.inj ho
     have y7:act.tmps[(36:Nat)]?=_:=dV (hdep 7 (by simp[dL])) rfl
     refine(owp_call rfl (enters Tryz.func75 (by kernel_rfl) (by kernel_rfl)) (map1t8 y7) ?_)
     have k9:=k4.out U pt k HM.out.2.2.2.2.2.2.2.2 HM.out.2.2.2.1 hbU
     rw[HM.out.2.2.1,←HV.out] at k9
     refine k9.mono ?_
     rintro r w' ⟨_,_,_,_,_,rfl,hA,hb'⟩
     exact⟨_,rfl,_,rfl,hA,hb'⟩
    ·obtain rfl:=Option.some.inj ho
     obtain⟨u6,y6,v6⟩:=hdep 6 (by simp[dL])
     have y6':act.tmps[(35:Nat)]?=_:=y6
     obtain⟨u8,y8,v8⟩:=hdep 8 (by simp[dL])
     have y8':act.tmps[(37:Nat)]?=_:=y8
     refine(owp_call rfl (enters Tryz.func98 (by kernel_rfl) (by kernel_rfl)) (map2 y6' y8') ?_)
     refine(k5.out U _ _ k m hbU v6 v8 HM.out.1 HM.out.2.2.2.1).mono ?_
     rintro r w' ⟨_,_,_,_,_,rfl,hA,hb'⟩
     exact⟨_,rfl,_,rfl,hA,hb'⟩
   ·intro o ho u W5 hb5 hu
    have hop:o.op=.store 50 (.tmp 3) (.tmp 38):=by rw[←Option.some.inj ho];rfl
    have hds:o.dst=none:=by rw[←Option.some.inj ho];rfl
    clear ho
    have q9:PN W5 (u 9) (P (k+m)):=hu 9 (by decide)
    obtain⟨s5,ao5,n5,cp5,e5,h5⟩:=q9.shape
    rw[h5] at q9
    have H5:Hid ((W5.heap[w.heap.size]?=some (.cells #[.int .i64 (B:Int),.string ⟨L.toArray⟩,.int .i64 h,.int .i64 e] 75 (0,0))∧PBx W5 gqS s3 ao3 n3 cp3 e3 (P k)∧Bw w W5∧w.heap.size+1<gqS∧W5.heap[w.heap.size+1]?=some (.cells #[.bool false,.slice none 0 0,.int .i64 0] 50 (0,0)))∧PN W5 (.agg #[.bool s5,.slice ao5 n5 cp5,.int .i64 e5]) (P (k+m))):=⟨⟨box_later m1 hb5 (lt_of_box m1),m2.later hb5,hBW.trans (hb5.mono hBW.size),m3,box_later m4 hb5 (lt_of_box m4)⟩,q9⟩
    clear hu hb5 m1 m2 m3 m4 hBW H1 q9
    simp only[putL,show List.range 10 = [0,1,2,3,4,5,6,7,8,9] from rfl,List.length_cons,List.length_nil,List.getD_cons_zero,List.getD_cons_succ,List.map_cons,List.map_nil,List.cons_append,List.nil_append,List.foldl_cons,List.foldl_nil,Nat.reduceLT,Nat.reduceMod,Nat.reduceDiv,Nat.reduceMul,Nat.reduceAdd,Nat.reduceEqDiff,reduceIte,Nat.one_ne_zero,Act.put,List.setIfInBounds_toArray,List.set_cons_zero,List.set_cons_succ]
    rw[h5]
    clear h5
    refine owp_store hop (g:=gqS) (cs:=#[.bool s5,.slice ao5 n5 cp5,.int .i64 e5]) rfl rfl H5.out.1.2.1.1 (by kernel_rfl) rfl (one3 rfl rfl) ?_
    rw[hds]
    simp only[Act.put]
    have H6:Hid ((W5.setRow gqS #[.bool s5,.slice ao5 n5 cp5,.int .i64 e5]).heap[w.heap.size]?=some (.cells #[.int .i64 (B:Int),.string ⟨L.toArray⟩,.int .i64 h,.int .i64 e] 75 (0,0))∧PBx (W5.setRow gqS #[.bool s5,.slice ao5 n5 cp5,.int .i64 e5]) gqS s5 ao5 n5 cp5 e5 (P (k+m))∧Below w.heap.size w (W5.setRow gqS #[.bool s5,.slice ao5 n5 cp5,.int .i64 e5])∧w.heap.size+1<gqS∧(W5.setRow gqS #[.bool s5,.slice ao5 n5 cp5,.int .i64 e5]).heap[w.heap.size+1]?=some (.cells #[.bool false,.slice none 0 0,.int .i64 0] 50 (0,0))):=by
     obtain⟨⟨a1,a2,a3,a4,a5⟩,a6⟩:=H5.out
     have hlt:=lt_of_box a2.1
     exact⟨(setRow_other _ _ _ _ (by omega)).trans a1,⟨setRow_heap _ _ _ _ _ _ a2.1,PN.row3 a6 a2.1 ⟨_,_,_,_,_,rfl⟩ _⟩,below_row a3 (by omega) _,a4,(setRow_other _ _ _ _ (by omega)).trans a5⟩
    clear H5
    generalize W5.setRow gqS #[.bool s5,.slice ao5 n5 cp5,.int .i64 e5]=W6 at *
    go_wp2_with fail
    go_roundg (gk - m)
    case measure=>have:=HM.out;omega
    case rel=>exact⟨k+m,s5,ao5,n5,cp5,e5,by have:=HM.out;omega,rfl,H6⟩
  ·obtain rfl:k=L.length:=by omega
   have hRe':R.toList.isEmpty=true:=by rw[hRe,List.drop_length];rfl
   obtain⟨⟨a0,a1,a2⟩,-⟩:=box_cells HI.out.2.1.1
   obtain⟨⟨b0,b1,b2⟩,f0,f1,f2⟩:=box_cells HI.out.2.2.2.2
   clear hRe hRs hR hk hkl
   go_wp2
   refine bodyPost_ret (results_cell_row rfl _ _ (w.heap.size+1) 50 #[.bool s3,.slice ao3 n3 cp3,.int .i64 e3] (0,0) _ rfl (set3_at _ _ _ HI.out.2.2.2.2) Tryz.underlying50 rfl Tryz.info50) rfl ?_
   exact⟨_,_,_,_,_,rfl,HI.out.2.1.2.set3 HI.out.2.2.2.2 _ _ _,below_set3 HI.out.2.2.1 (by omega) _ _ _⟩
def SpO (w:World) (S M:List UInt8) (PP:Int→Int→List UInt8→Int→Int→Bool→Prop) (r:Ending) (w':World):Prop:=∃ (v b':Int) (D:List UInt8) (h x:Int) (ok:Bool),r=.returned (.tuple #[.agg #[.int .i64 b',.string ⟨D.toArray⟩,.int .i64 h,.int .i64 x],.bool ok])∧IxA S M v∧PP v b' D h x ok∧Bw w w'
theorem one4z {a b c d:Value} (h1:a.oneCell'=true) (h2:b.oneCell'=true) (h3:c.oneCell'=true) (h4:d.oneCell'=true):(#[a,b,c,d]:Array Value).all (·.oneCell')=true:=by simp[h1,h2,h3,h4]
theorem box_cells4 {w:World} {g:Nat} {a b c d:Value} {T:TypeId} (h:w.heap[g]?=some (.cells #[a,b,c,d] T (0,0))) :
  (w.cell? ⟨g,0,none⟩=some a∧w.cell? ⟨g,1,none⟩=some b∧w.cell? ⟨g,2,none⟩=some c∧w.cell? ⟨g,3,none⟩=some d)∧(w.frozen? ⟨g,0,none⟩=false∧w.frozen? ⟨g,1,none⟩=false∧w.frozen? ⟨g,2,none⟩=false∧w.frozen? ⟨g,3,none⟩=false):=by
 simp[World.cell?,World.frozen?,h]
theorem set4_0 {w:World} {g:Nat} {a b c d:Value} {T:TypeId} (h:w.heap[g]?=some (.cells #[a,b,c,d] T (0,0))) (v:Value):(w.setCell ⟨g,0,none⟩ v).heap[g]?=some (.cells #[v,b,c,d] T (0,0)):=by
 simp[World.setCell,Array.getElem?_modify,h]
theorem set4_1 {w:World} {g:Nat} {a b c d:Value} {T:TypeId} (h:w.heap[g]?=some (.cells #[a,b,c,d] T (0,0))) (v:Value):(w.setCell ⟨g,1,none⟩ v).heap[g]?=some (.cells #[a,v,c,d] T (0,0)):=by
 simp[World.setCell,Array.getElem?_modify,h]
theorem set4_2 {w:World} {g:Nat} {a b c d:Value} {T:TypeId} (h:w.heap[g]?=some (.cells #[a,b,c,d] T (0,0))) (v:Value):(w.setCell ⟨g,2,none⟩ v).heap[g]?=some (.cells #[a,b,v,d] T (0,0)):=by
 simp[World.setCell,Array.getElem?_modify,h]
theorem set4_3 {w:World} {g:Nat} {a b c d:Value} {T:TypeId} (h:w.heap[g]?=some (.cells #[a,b,c,d] T (0,0))) (v:Value):(w.setCell ⟨g,3,none⟩ v).heap[g]?=some (.cells #[a,b,c,v] T (0,0)):=by
 simp[World.setCell,Array.getElem?_modify,h]
theorem set4_all {w:World} {g:Nat} {a b c d:Value} {T:TypeId} (h:w.heap[g]?=some (.cells #[a,b,c,d] T (0,0))) (x y z u:Value):((((w.setCell ⟨g,0,none⟩ x).setCell ⟨g,1,none⟩ y).setCell ⟨g,2,none⟩ z).setCell ⟨g,3,none⟩ u).heap[g]?=some (.cells #[x,y,z,u] T (0,0)):=set4_3 (set4_2 (set4_1 (set4_0 h _) _) _) _
theorem Dsplit_1 (L S:List UInt8) (p1 p2 hex:Bool) (b:Int) (c0 c1:UInt8) (PP:Int→Int→List UInt8→Int→Int→Bool→Prop) (xE:List UInt8→Int) (oE:List UInt8→Bool) (cA cB:List UInt8→List UInt8) (dG:List UInt8→Bool) (w:World) (hL:L.length≤1048576)
  (hhex:Hid (hex=(p1||p2))) (hS:Hid (S=if hex then L.drop 2 else L)) (hb:Hid (b=if hex then 16 else 10)) (hc0:Hid (c0=if hex then 112 else 101)) (hc1:Hid (c1=if hex then 80 else 69)) (hp:Hid (hex=true→2≤L.length))
  (k1:∀ W,Calls Tryz.prog 116 #[.string ⟨L.toArray⟩,.string ⟨#[48,120]⟩] W fun r w'=>r=.returned (.bool p1)∧w'=W)
  (k2:∀ W,Calls Tryz.prog 116 #[.string ⟨L.toArray⟩,.string ⟨#[48,88]⟩] W fun r w'=>r=.returned (.bool p2)∧w'=W)
  (k3:Hid (∀ W,Calls Tryz.prog 117 #[.string ⟨S.toArray⟩,.string ⟨#[c0,c1]⟩] W fun r w'=>∃ v:Int,r=.returned (.int .i64 v)∧IxA S [c0,c1] v∧Bw W w'))
  (k4:Hid (∀ W i,i<S.length→Calls Tryz.prog 118 #[.string ⟨(S.drop (i+1)).toArray⟩] W fun r w'=>r=.returned (.tuple #[.int .i64 (xE (S.drop (i+1))),.bool (oE (S.drop (i+1)))])∧Bw W w'))
  (k5:Hid (∀ W (D:List UInt8),D.length≤1048576→Calls Tryz.prog 119 #[.string ⟨D.toArray⟩,.string ⟨#[46]⟩] W fun r w'=>∃ bb,r=.returned (.tuple #[.string ⟨(cA D).toArray⟩,.string ⟨(cB D).toArray⟩,.bool bb])∧Bw W w')) (hcutL:Hid (∀ D,(cA D).length+(cB D).length≤D.length))
  (k6:Hid (∀ W (D:List UInt8),D.length≤1048576→Calls Tryz.prog 120 #[.string ⟨D.toArray⟩,.int .i64 b] W fun r w'=>r=.returned (.bool (dG D))∧w'=W))
  (hP1:Hid (∀ i,i<S.length→PP (i:Int) b (cA (S.take i)++cB (S.take i)) (cB (S.take i)).length (xE (S.drop (i+1))) (oE (S.drop (i+1))&&dG (cA (S.take i)++cB (S.take i)))))
  (hP2:Hid (hex=true→PP (-1) 0 [] 0 0 false)) (hP3:Hid (hex=false→PP (-1) b (cA S++cB S) (cB S).length 0 (dG (cA S++cB S)))) :
  Calls Tryz.prog 55 #[.string ⟨L.toArray⟩] w fun r w'=>SpO w S [c0,c1] PP r w':=by
 obtain⟨W,hW⟩:∃ W,W=(w.alloc (.cells #[.int .i64 0,.string ⟨#[]⟩,.int .i64 0,.int .i64 0] 75)).alloc (.cells #[.int .i64 10,.string ⟨#[]⟩,.int .i64 0,.int .i64 0] 75):=⟨_,rfl⟩
 obtain⟨z1,z2,z3,z4⟩:=two_new _ _ hW
 have H0:Hid (W.heap[w.heap.size]?=some (.cells #[.int .i64 0,.string ⟨#[]⟩,.int .i64 0,.int .i64 0] 75 (0,0))∧W.heap[w.heap.size+1]?=some (.cells #[.int .i64 10,.string ⟨#[]⟩,.int .i64 0,.int .i64 0] 75 (0,0))∧Bw w W):=⟨z1,z2,z4⟩
 clear z1 z2 z3 z4
 have hsz:(⟨L.toArray⟩:ByteArray).size=L.length:=rfl
 go_enter Tryz.func55,Tryz.ntmps55
 go_upto_region 2 with fail
 rw[←hW]
 clear hW
 go_cut [17] from 12 to 16 (fun v wx=>v=.bool hex∧wx=W)
 case first =>
  have hh:=hhex.out
  cases p1
  ·have hh':hex=p2:=hh
   go_wp2_with (first|(go_at_call 116;first|(with_reducible refine(k1 _).mono ?_;rintro r w' ⟨rfl,hw⟩;replace hw:=hw.symm;subst hw)|(with_reducible refine(k2 _).mono ?_;rintro r w' ⟨rfl,hw⟩;replace hw:=hw.symm;subst hw)))
   go_meet
   exact⟨by rw[hh'],rfl⟩
  ·have hh':hex=true:=hh
   go_wp2_with (first|(go_at_call 116;(with_reducible refine(k1 _).mono ?_;rintro r w' ⟨rfl,hw⟩;replace hw:=hw.symm;subst hw)))
   go_meet
   exact⟨by rw[hh'],rfl⟩
 case rest =>
 obtain⟨rfl,hw⟩:=hcut
 replace hw:=hw.symm
 subst hw
 clear k1 k2 hhex
 go_upto_if 17 with fail
 go_cut [0,5] from 18 to 20 (fun v0 v5 wx=>v0=.string ⟨S.toArray⟩∧v5=.string ⟨#[c0,c1]⟩∧Hid (wx.heap[w.heap.size]?=some (.cells #[.int .i64 0,.string ⟨#[]⟩,.int .i64 0,.int .i64 0] 75 (0,0))∧wx.heap[w.heap.size+1]?=some (.cells #[.int .i64 b,.string ⟨#[]⟩,.int .i64 0,.int .i64 0] 75 (0,0))∧Bw w wx))
 case first =>
  cases hex
  ·obtain rfl:S=L:=hS.out
   obtain rfl:b=10:=hb.out
   obtain rfl:c0=101:=hc0.out
   obtain rfl:c1=69:=hc1.out
   go_wp2
   go_meet
   exact⟨rfl,rfl,H0⟩
  ·obtain rfl:S=L.drop 2:=hS.out
   obtain rfl:b=16:=hb.out
   obtain rfl:c0=112:=hc0.out
   obtain rfl:c1=80:=hc1.out
   have hl2:(2:Int)≤(L.length:Int):=by have:=hp.out rfl;omega
   have ed:=ext_drop L 2
   obtain⟨⟨e0,e1,e2,e3⟩,q0,q1,q2,q3⟩:=box_cells4 H0.out.2.1
   clear k3 hL
   go_upto_region 3 with fail
   go_region
   all_goals go_wp2
   go_meet
   have a:=H0.out
   exact⟨rfl,rfl,⟨(set_other _ _ _ _ _ (by omega)).trans a.1,set4_0 a.2.1 _,((a.2.2.setCell (by show w.heap.size≤w.heap.size+1;omega) _)).drew⟩⟩
 case rest =>
 obtain⟨rfl,rfl,H1⟩:=hcut
 clear H0 hsz hc0 hc1
 have kk:=k3.out
 clear k3
 go_wp2_with fail
 refine(kk _).mono ?_
 rintro r w2 ⟨v,rfl,hv,hb2⟩
 have H2:Hid ((w2.heap[w.heap.size]?=some (.cells #[.int .i64 0,.string ⟨#[]⟩,.int .i64 0,.int .i64 0] 75 (0,0))∧w2.heap[w.heap.size+1]?=some (.cells #[.int .i64 b,.string ⟨#[]⟩,.int .i64 0,.int .i64 0] 75 (0,0))∧Bw w w2)∧IxA S [c0,c1] v):=⟨⟨box_later H1.out.1 hb2 (lt_of_box H1.out.1),box_later H1.out.2.1 hb2 (lt_of_box H1.out.2.1),H1.out.2.2.trans (hb2.mono H1.out.2.2.size)⟩,hv⟩
 have HV:Hid (v = -1∨∃ i,i<S.length∧v=(i:Int)):=(hv.2.elim .inl fun⟨i,a,b',_⟩=>.inr ⟨i,a,b'⟩:v = -1∨∃ i,i<S.length∧v=(i:Int))
 clear kk hb2 H1 hv
 have hSL:S.length≤1048576:=by rw[hS.out];split <;> (try rw[List.length_drop]) <;> omega
 have hszS:(⟨S.toArray⟩:ByteArray).size=S.length:=rfl
 go_upto_region 6 with fail
 go_upto_if 25 with fail
 go_cut [0,6] from 26 to 41 (fun v0 v6 wx=>∃ (D:List UInt8) (x:Int) (o:Bool),v0=.string ⟨D.toArray⟩∧v6=.bool o∧D.length≤1048576∧Hid (((wx.heap[w.heap.size]?=some (.cells #[.int .i64 0,.string ⟨#[]⟩,.int .i64 0,.int .i64 0] 75 (0,0))∧wx.heap[w.heap.size+1]?=some (.cells #[.int .i64 b,.string ⟨#[]⟩,.int .i64 0,.int .i64 x] 75 (0,0))∧Bw w wx)∧IxA S [c0,c1] v)∧PP v b (cA D++cB D) (cB D).length x (o&&dG (cA D++cB D))))
 case first =>
  rcases HV.out with rfl|⟨i,hi,rfl⟩
  ·obtain⟨⟨e0,e1,e2,e3⟩,-⟩:=box_cells4 H2.out.1.2.1
   obtain⟨⟨z0,z1,z2,z3⟩,y0,y1,y2,y3⟩:=box_cells4 H2.out.1.1
   cases hex
   ·have H3:=hP3.out rfl
    obtain rfl:b=10:=hb.out
    clear hP1 hP2 hP3 k4 k5 k6
    have HH3:Hid _:=H3
    clear H3
    go_wp2
    go_meet
    exact⟨S,0,true,rfl,rfl,hSL,⟨H2.out,by rw[Bool.true_and];exact HH3.out⟩⟩
   ·have HH3:Hid _:=hP2.out rfl
    obtain rfl:b=16:=hb.out
    clear hP1 hP2 hP3 k4 k5 k6
    go_wp2
    have a:=H2.out
    refine bodyPost_ret (results_cell_tmp_row rfl _ _ w.heap.size 75 #[.int .i64 0,.string ⟨#[]⟩,.int .i64 0,.int .i64 0] (0,0) _ rfl (set4_all a.1.1 _ _ _ _) Tryz.underlying75 rfl (by kernel_rfl)) rfl ?_
    exact⟨-1,0,[],0,0,false,rfl,a.2,HH3.out,(((a.1.2.2.setCell (Nat.le_refl _) _).setCell (Nat.le_refl _) _).setCell (Nat.le_refl _) _).setCell (Nat.le_refl _) _⟩
  ·obtain⟨⟨e0,e1,e2,e3⟩,f0,f1,f2,f3⟩:=box_cells4 H2.out.1.2.1
   have hge:(0:Int)≤(i:Int):=by omega
   have hw1:IntKind.i64.wrap ((i:Int)+1)=(i:Int)+1:=by rw[IntKind.wrap_i64];omega
   have hle1:(i:Int)+1≤(S.length:Int):=by omega
   have hle2:(i:Int)≤(S.length:Int):=by omega
   have et:=ext_take S i
   have ed:=ext_drop S (i+1)
   have kk:=k4.out w2 i hi
   have HH3:Hid _:=hP1.out i hi
   have HI:Hid (i<S.length):=hi
   clear hP1 hP2 hP3 k4 k5 k6 hi HV
   generalize xE (S.drop (i+1))=x at *
   generalize oE (S.drop (i+1))=o at *
   go_wp2_with fail
   refine kk.mono ?_
   rintro r w3 ⟨rfl,hb3⟩
   have H3:Hid ((w3.heap[w.heap.size]?=some (.cells #[.int .i64 0,.string ⟨#[]⟩,.int .i64 0,.int .i64 0] 75 (0,0))∧w3.heap[w.heap.size+1]?=some (.cells #[.int .i64 b,.string ⟨#[]⟩,.int .i64 0,.int .i64 0] 75 (0,0))∧Bw w w3)∧IxA S [c0,c1] (i:Int)):=⟨⟨box_later H2.out.1.1 hb3 (lt_of_box H2.out.1.1),box_later H2.out.1.2.1 hb3 (lt_of_box H2.out.1.2.1),H2.out.1.2.2.trans (hb3.mono H2.out.1.2.2.size)⟩,H2.out.2⟩
   clear kk hb3 H2 e0 e1 e2 e3 f0 f1 f2 f3
   obtain⟨⟨e0,e1,e2,e3⟩,f0,f1,f2,f3⟩:=box_cells4 H3.out.1.2.1
   go_wp2
   go_meet
   have a:=H3.out
   exact⟨S.take i,x,o,rfl,rfl,by rw[List.length_take];omega,⟨⟨⟨(set_other _ _ _ _ _ (by omega)).trans a.1.1,set4_3 a.1.2.1 _,a.1.2.2.setCell (by show w.heap.size≤w.heap.size+1;omega) _⟩,a.2⟩,HH3.out⟩⟩
 case rest =>
 obtain⟨D,x,o,rfl,rfl,hDL,H3⟩:=hcut
 have kk:=k5.out
 clear H2 hP1 hP2 hP3 k4 k5 HV hszS hSL
 go_wp2_with fail
 refine(kk _ D hDL).mono ?_
 rintro r w4 ⟨bb,rfl,hb4⟩
 have H4:Hid (((w4.heap[w.heap.size]?=some (.cells #[.int .i64 0,.string ⟨#[]⟩,.int .i64 0,.int .i64 0] 75 (0,0))∧w4.heap[w.heap.size+1]?=some (.cells #[.int .i64 b,.string ⟨#[]⟩,.int .i64 0,.int .i64 x] 75 (0,0))∧Bw w w4)∧IxA S [c0,c1] v)∧PP v b (cA D++cB D) (cB D).length x (o&&dG (cA D++cB D))):=⟨⟨⟨box_later H3.out.1.1.1 hb4 (lt_of_box H3.out.1.1.1),box_later H3.out.1.1.2.1 hb4 (lt_of_box H3.out.1.1.2.1),H3.out.1.1.2.2.trans (hb4.mono H3.out.1.1.2.2.size)⟩,H3.out.1.2⟩,H3.out.2⟩
 clear kk hb4 H3
 obtain⟨dd,hdd⟩:∃ dd,dd=cA D++cB D:=⟨_,rfl⟩
 obtain⟨hh,hhh⟩:∃ hh,hh=(cB D).length:=⟨_,rfl⟩
 have hcc:=hcutL.out D
 have hc1':(⟨(cA D).toArray⟩:ByteArray).size+(⟨(cB D).toArray⟩:ByteArray).size≤9223372036854775807:=by rw[bsz,bsz];omega
 have hc2':(⟨(cA D).toArray⟩:ByteArray)++⟨(cB D).toArray⟩=⟨dd.toArray⟩:=by rw[bytes_cat,hdd]
 have hc3':(⟨(cB D).toArray⟩:ByteArray).size=hh:=by rw[hhh];rfl
 have hddL:dd.length≤1048576:=by rw[hdd,List.length_append];omega
 have kD:=fun W=>k6.out W dd hddL
 have H4':Hid (((w4.heap[w.heap.size]?=some (.cells #[.int .i64 0,.string ⟨#[]⟩,.int .i64 0,.int .i64 0] 75 (0,0))∧w4.heap[w.heap.size+1]?=some (.cells #[.int .i64 b,.string ⟨#[]⟩,.int .i64 0,.int .i64 x] 75 (0,0))∧Bw w w4)∧IxA S [c0,c1] v)∧PP v b dd (hh:Nat) x (o&&dG dd)):=by rw[hdd,hhh];exact H4
 clear k6 H4 hcc hdd hhh hcutL
 generalize dG dd=gd at *
 generalize hA9:cA D=A9 at *
 generalize hB9:cB D=B9 at *
 obtain⟨⟨e0,e1,e2,e3⟩,f0,f1,f2,f3⟩:=box_cells4 H4'.out.1.1.2.1
 obtain⟨W5,hW5⟩:∃ W5,W5=(w4.setCell ⟨w.heap.size+1,1,none⟩ (.string ⟨dd.toArray⟩)).setCell ⟨w.heap.size+1,2,none⟩ (.int .i64 (hh:Nat)):=⟨_,rfl⟩
 have H5:Hid (((W5.heap[w.heap.size]?=some (.cells #[.int .i64 0,.string ⟨#[]⟩,.int .i64 0,.int .i64 0] 75 (0,0))∧W5.heap[w.heap.size+1]?=some (.cells #[.int .i64 b,.string ⟨dd.toArray⟩,.int .i64 (hh:Nat),.int .i64 x] 75 (0,0))∧Bw w W5)∧IxA S [c0,c1] v)∧PP v b dd (hh:Nat) x (o&&gd)):=(by
  have a:=H4'.out
  rw[hW5]
  exact⟨⟨⟨(set_other _ _ _ _ _ (by omega)).trans ((set_other _ _ _ _ _ (by omega)).trans a.1.1.1),set4_2 (set4_1 a.1.1.2.1 _) _,(a.1.1.2.2.setCell (by show w.heap.size≤w.heap.size+1;omega) _).setCell (by show w.heap.size≤w.heap.size+1;omega) _⟩,a.1.2⟩,a.2⟩:_∧_)
 clear H4'
 go_upto_region 13 with fail
 rw[←hW5]
 clear hW5 hc1' hc2' hc3' e0 e1 e2 e3 f0 f1 f2 f3
 obtain⟨⟨⟨m0,m1,hBW⟩,hIx⟩,hPP⟩:=H5.out
 cases o
 ·refine q_region follows_mixed [0,1,2,3,4,5,6,7,8,10] [9] [55,56,57,58,59,60,61,62,63,3] [[],[],[1],[2],[3,2],[2],[5,2],[4,6,2],[2,7],[8]] [[0]] [0] (fun _=>2) (fun _=>w.heap.size) w.heap.size 75 (fun _=>True) 4 W5 _ [isV (.agg #[.int .i64 b,.string ⟨dd.toArray⟩,.int .i64 (hh:Nat),.int .i64 x]),isV (.bool false),isV (.bool false),isV (undef),isV (undef),isV (undef),isV (undef),isV (undef),isV (.bool false),isV (.bool false)] (by kernel_rfl) ⟨isV_stays _,isV_stays _,isV_stays _,isV_stays _,isV_stays _,isV_stays _,isV_stays _,isV_stays _,isV_stays _,isV_stays _,trivial⟩ ⟨fun _ _ _ _ _ _ _ h=>h,fun _ _ _ _ _ _ _ h=>h,fun _ _ _ _ _ _ _ h=>h,fun _ _ _ _ _ _ _ h=>h,fun _ _ _ _ _ _ _ h=>h,fun _ _ _ _ _ _ _ h=>h,fun _ _ _ _ _ _ _ h=>h,fun _ _ _ _ _ _ _ h=>h,fun _ _ _ _ _ _ _ h=>h,fun _ _ _ _ _ _ _ h=>h,trivial⟩ (by show ∀ s ∈ [55,56,57,58,59,60,61,62,63,3],s<64;decide) ?_ ?_ (by kernel_rfl) ?_ ?_ ?_ (fun k k' h h' _=>by have h1:k<1:=h;have h2:k'<1:=h';omega) hBW.size ?_
  ·intro i hi V u h
   obtain rfl:i=0:=Nat.lt_one_iff.1 hi
   obtain rfl:u=_:=h
   exact⟨_,rfl,rfl,trivial,one4z rfl rfl rfl rfl⟩
  ·intro j hj o ho act V hK hoth hdep hrd
   have hj':j<10:=hj
   have hbx:V.heap[w.heap.size+1]?=_:=(hK.keep (w.heap.size+1) (lt_of_box m1) (fun k _=>by omega)).trans m1
   obtain⟨⟨c0',c1',c2',c3'⟩,-⟩:=box_cells4 hbx
   have t4':act.tmps[(4:Nat)]?=some (Value.pointer (some ⟨w.heap.size+1,0,none⟩)):=(hoth 4 (by decide)).trans rfl
   have t6':act.tmps[(6:Nat)]?=some (Value.bool false):=(hoth 6 (by decide)).trans rfl
   rcases(by omega:j=0∨j=1∨j=2∨j=3∨j=4∨j=5∨j=6∨j=7∨j=8∨j=9)with rfl|rfl|rfl|rfl|rfl|rfl|rfl|rfl|rfl|rfl
   ·obtain rfl:=Option.some.inj ho
    exact .inl ⟨rfl,(owp_run1 (w':=V) (by simp[execOp,Act.eval,t4',c0',c1',c2',c3',go_sem]) ⟨_,rfl,rfl,Below.refl _ _⟩)⟩
   ·obtain rfl:=Option.some.inj ho
    exact .inl ⟨rfl,owp_move rfl t6' ⟨_,rfl,rfl,Below.refl _ _⟩⟩
   ·obtain rfl:=Option.some.inj ho
    have y1:act.tmps[(56:Nat)]?=_:=dV (hdep 1 (by simp[dL])) rfl
    exact .inl ⟨rfl,owp_move rfl y1 ⟨_,rfl,rfl,Below.refl _ _⟩⟩
   ·obtain rfl:=Option.some.inj ho
    have y2:act.tmps[(57:Nat)]?=_:=dV (hdep 2 (by simp[dL])) rfl
    exact .inr (wpOp_skip rfl rfl rfl rfl y2 (by decide) ⟨_,rfl,rfl,Below.refl _ _⟩)
   ·obtain rfl:=Option.some.inj ho
    have y2:act.tmps[(57:Nat)]?=_:=dV (hdep 2 (by simp[dL])) rfl
    exact .inr (wpOp_skip rfl rfl rfl rfl y2 (by decide) ⟨_,rfl,rfl,Below.refl _ _⟩)
   ·obtain rfl:=Option.some.inj ho
    have y2:act.tmps[(57:Nat)]?=_:=dV (hdep 2 (by simp[dL])) rfl
    exact .inr (wpOp_skip rfl rfl rfl rfl y2 (by decide) ⟨_,rfl,rfl,Below.refl _ _⟩)
   ·obtain rfl:=Option.some.inj ho
    have y2:act.tmps[(57:Nat)]?=_:=dV (hdep 2 (by simp[dL])) rfl
    exact .inr (wpOp_skip rfl rfl rfl rfl y2 (by decide) ⟨_,rfl,rfl,Below.refl _ _⟩)
   ·obtain rfl:=Option.some.inj ho
    have y2:act.tmps[(57:Nat)]?=_:=dV (hdep 2 (by simp[dL])) rfl
    exact .inr (wpOp_skip rfl rfl rfl rfl y2 (by decide) ⟨_,rfl,rfl,Below.refl _ _⟩)
   ·obtain rfl:=Option.some.inj ho
    have y2:act.tmps[(57:Nat)]?=_:=dV (hdep 2 (by simp[dL])) rfl
    have y7:act.tmps[(62:Nat)]?=_:=dV (hdep 7 (by simp[dL])) rfl
    exact .inl ⟨rfl,(owp_run1 (w':=V) (by simp[execOp,Act.eval,y2,y7,go_sem]) ⟨_,rfl,rfl,Below.refl _ _⟩)⟩
   ·obtain rfl:=Option.some.inj ho
    have y8:act.tmps[(63:Nat)]?=_:=dV (hdep 8 (by simp[dL])) rfl
    exact .inl ⟨rfl,owp_assign rfl y8 ⟨_,rfl,rfl,Below.refl _ _⟩⟩
  ·intro k hk
   obtain rfl:k=0:=Nat.lt_one_iff.1 hk
   exact⟨_,rfl,rfl⟩
  ·intro k hk
   exact⟨rfl,by decide⟩
  ·intro k hk
   exact⟨Nat.le_refl _,_,m0,rfl,trivial⟩
  ·intro u V hK hu hcs
   obtain⟨cs,y0,z0⟩:=hcs 0 (by decide)
   have u0:u 0=.agg #[.int .i64 b,.string ⟨dd.toArray⟩,.int .i64 (hh:Nat),.int .i64 x]:=hu 0 (by decide)
   have u9:u 9=.bool false:=hu 9 (by decide)
   have y0':u 0=.agg cs:=y0
   rw[u0] at y0'
   obtain rfl:=Value.agg.inj y0'
   have HZ:Hid (V.heap[w.heap.size]?=some (.cells #[.int .i64 b,.string ⟨dd.toArray⟩,.int .i64 (hh:Nat),.int .i64 x] 75 (0,0))∧Bw w V):=⟨z0,hBW.trans hK.below⟩
   clear hcs hK y0 y0' z0 hu
   simp only[putL,show List.range 10 = [0,1,2,3,4,5,6,7,8,9] from rfl,List.length_cons,List.length_nil,List.getD_cons_zero,List.getD_cons_succ,List.map_cons,List.map_nil,List.cons_append,List.nil_append,List.foldl_cons,List.foldl_nil,Nat.reduceLT,Nat.reduceMod,Nat.reduceDiv,Nat.reduceMul,Nat.reduceAdd,Nat.reduceEqDiff,reduceIte,Nat.one_ne_zero,Act.put,List.setIfInBounds_toArray,List.set_cons_zero,List.set_cons_succ]
   rw[u9]
   clear u9 u0
   go_wp2
   refine bodyPost_ret (results_cell_tmp_row rfl _ _ w.heap.size 75 #[.int .i64 b,.string ⟨dd.toArray⟩,.int .i64 (hh:Nat),.int .i64 x] (0,0) _ rfl HZ.out.1 Tryz.underlying75 rfl (by kernel_rfl)) rfl ?_
   exact⟨v,b,dd,hh,x,false,rfl,hIx,hPP,HZ.out.2⟩
 ·refine q_region follows_mixed [0,1,2,3,4,5,6,7,8,10] [9] [55,56,57,58,59,60,61,62,63,3] [[],[],[1],[2],[3,2],[2],[5,2],[4,6,2],[2,7],[8]] [[0]] [0] (fun _=>2) (fun _=>w.heap.size) w.heap.size 75 (fun _=>True) 4 W5 _ [isV (.agg #[.int .i64 b,.string ⟨dd.toArray⟩,.int .i64 (hh:Nat),.int .i64 x]),isV (.bool true),isV (.bool true),isV (.pointer (some ⟨w.heap.size+1,1,none⟩)),isV (.string ⟨dd.toArray⟩),isV (.pointer (some ⟨w.heap.size+1,0,none⟩)),isV (.int .i64 b),isV (.bool gd),isV (.bool gd),isV (.bool gd)] (by kernel_rfl) ⟨isV_stays _,isV_stays _,isV_stays _,isV_stays _,isV_stays _,isV_stays _,isV_stays _,isV_stays _,isV_stays _,isV_stays _,trivial⟩ ⟨fun _ _ _ _ _ _ _ h=>h,fun _ _ _ _ _ _ _ h=>h,fun _ _ _ _ _ _ _ h=>h,fun _ _ _ _ _ _ _ h=>h,fun _ _ _ _ _ _ _ h=>h,fun _ _ _ _ _ _ _ h=>h,fun _ _ _ _ _ _ _ h=>h,fun _ _ _ _ _ _ _ h=>h,fun _ _ _ _ _ _ _ h=>h,fun _ _ _ _ _ _ _ h=>h,trivial⟩ (by show ∀ s ∈ [55,56,57,58,59,60,61,62,63,3],s<64;decide) ?_ ?_ (by kernel_rfl) ?_ ?_ ?_ (fun k k' h h' _=>by have h1:k<1:=h;have h2:k'<1:=h';omega) hBW.size ?_
  ·intro i hi V u h
   obtain rfl:i=0:=Nat.lt_one_iff.1 hi
   obtain rfl:u=_:=h
   exact⟨_,rfl,rfl,trivial,one4z rfl rfl rfl rfl⟩
  ·intro j hj o ho act V hK hoth hdep hrd
   have hj':j<10:=hj
   have hbx:V.heap[w.heap.size+1]?=_:=(hK.keep (w.heap.size+1) (lt_of_box m1) (fun k _=>by omega)).trans m1
   obtain⟨⟨c0',c1',c2',c3'⟩,-⟩:=box_cells4 hbx
   have t4':act.tmps[(4:Nat)]?=some (Value.pointer (some ⟨w.heap.size+1,0,none⟩)):=(hoth 4 (by decide)).trans rfl
   have t6':act.tmps[(6:Nat)]?=some (Value.bool true):=(hoth 6 (by decide)).trans rfl
   rcases(by omega:j=0∨j=1∨j=2∨j=3∨j=4∨j=5∨j=6∨j=7∨j=8∨j=9)with rfl|rfl|rfl|rfl|rfl|rfl|rfl|rfl|rfl|rfl
   ·obtain rfl:=Option.some.inj ho
    exact .inl ⟨rfl,(owp_run1 (w':=V) (by simp[execOp,Act.eval,t4',c0',c1',c2',c3',go_sem]) ⟨_,rfl,rfl,Below.refl _ _⟩)⟩
   ·obtain rfl:=Option.some.inj ho
    exact .inl ⟨rfl,owp_move rfl t6' ⟨_,rfl,rfl,Below.refl _ _⟩⟩
   ·obtain rfl:=Option.some.inj ho
    have y1:act.tmps[(56:Nat)]?=_:=dV (hdep 1 (by simp[dL])) rfl
    exact .inl ⟨rfl,owp_move rfl y1 ⟨_,rfl,rfl,Below.refl _ _⟩⟩
   ·obtain rfl:=Option.some.inj ho
    have y2:act.tmps[(57:Nat)]?=_:=dV (hdep 2 (by simp[dL])) rfl
    exact .inr (wpOp_take rfl rfl rfl rfl y2 (owp_run1 (w':=V) (by simp[execOp,Act.eval,t4',go_sem]) ⟨_,rfl,rfl,Below.refl _ _⟩))
   ·obtain rfl:=Option.some.inj ho
    have y2:act.tmps[(57:Nat)]?=_:=dV (hdep 2 (by simp[dL])) rfl
    have y3:act.tmps[(58:Nat)]?=_:=dV (hdep 3 (by simp[dL])) rfl
    exact .inr (wpOp_take rfl rfl rfl rfl y2 (owp_run1 (w':=V) (by simp[execOp,Act.eval,y3,c1',go_sem]) ⟨_,rfl,rfl,Below.refl _ _⟩))
   ·obtain rfl:=Option.some.inj ho
    have y2:act.tmps[(57:Nat)]?=_:=dV (hdep 2 (by simp[dL])) rfl
    exact .inr (wpOp_take rfl rfl rfl rfl y2 (owp_run1 (w':=V) (by simp[execOp,Act.eval,t4',go_sem]) ⟨_,rfl,rfl,Below.refl _ _⟩))
   ·obtain rfl:=Option.some.inj ho
    have y2:act.tmps[(57:Nat)]?=_:=dV (hdep 2 (by simp[dL])) rfl
    have y5:act.tmps[(60:Nat)]?=_:=dV (hdep 5 (by simp[dL])) rfl
    exact .inr (wpOp_take rfl rfl rfl rfl y2 (owp_run1 (w':=V) (by simp[execOp,Act.eval,y5,c0',go_sem]) ⟨_,rfl,rfl,Below.refl _ _⟩))
   ·obtain rfl:=Option.some.inj ho
    have y2:act.tmps[(57:Nat)]?=_:=dV (hdep 2 (by simp[dL])) rfl
    have y4:act.tmps[(59:Nat)]?=_:=dV (hdep 4 (by simp[dL])) rfl
    have y6:act.tmps[(61:Nat)]?=_:=dV (hdep 6 (by simp[dL])) rfl
    refine .inr (wpOp_take rfl rfl rfl rfl y2 (owp_call rfl (enters Tryz.func120 (by kernel_rfl) (by kernel_rfl)) (map2 y4 y6) ?_))
    refine(kD V).mono ?_
    rintro r w' ⟨rfl,rfl⟩
    exact⟨_,rfl,_,rfl,rfl,Below.refl _ _⟩
   ·obtain rfl:=Option.some.inj ho
    have y2:act.tmps[(57:Nat)]?=_:=dV (hdep 2 (by simp[dL])) rfl
    have y7:act.tmps[(62:Nat)]?=_:=dV (hdep 7 (by simp[dL])) rfl
    exact .inl ⟨rfl,(owp_run1 (w':=V) (by simp[execOp,Act.eval,y2,y7,go_sem]) ⟨_,rfl,rfl,Below.refl _ _⟩)⟩
   ·obtain rfl:=Option.some.inj ho
    have y8:act.tmps[(63:Nat)]?=_:=dV (hdep 8 (by simp[dL])) rfl
    exact .inl ⟨rfl,owp_assign rfl y8 ⟨_,rfl,rfl,Below.refl _ _⟩⟩
  ·intro k hk
   obtain rfl:k=0:=Nat.lt_one_iff.1 hk
   exact⟨_,rfl,rfl⟩
  ·intro k hk
   exact⟨rfl,by decide⟩
  ·intro k hk
   exact⟨Nat.le_refl _,_,m0,rfl,trivial⟩
  ·intro u V hK hu hcs
   obtain⟨cs,y0,z0⟩:=hcs 0 (by decide)
   have u0:u 0=.agg #[.int .i64 b,.string ⟨dd.toArray⟩,.int .i64 (hh:Nat),.int .i64 x]:=hu 0 (by decide)
   have u9:u 9=.bool gd:=hu 9 (by decide)
   have y0':u 0=.agg cs:=y0
   rw[u0] at y0'
   obtain rfl:=Value.agg.inj y0'
   have HZ:Hid (V.heap[w.heap.size]?=some (.cells #[.int .i64 b,.string ⟨dd.toArray⟩,.int .i64 (hh:Nat),.int .i64 x] 75 (0,0))∧Bw w V):=⟨z0,hBW.trans hK.below⟩
   clear hcs hK y0 y0' z0 hu
   simp only[putL,show List.range 10 = [0,1,2,3,4,5,6,7,8,9] from rfl,List.length_cons,List.length_nil,List.getD_cons_zero,List.getD_cons_succ,List.map_cons,List.map_nil,List.cons_append,List.nil_append,List.foldl_cons,List.foldl_nil,Nat.reduceLT,Nat.reduceMod,Nat.reduceDiv,Nat.reduceMul,Nat.reduceAdd,Nat.reduceEqDiff,reduceIte,Nat.one_ne_zero,Act.put,List.setIfInBounds_toArray,List.set_cons_zero,List.set_cons_succ]
   rw[u9]
   clear u9 u0
   go_wp2
   refine bodyPost_ret (results_cell_tmp_row rfl _ _ w.heap.size 75 #[.int .i64 b,.string ⟨dd.toArray⟩,.int .i64 (hh:Nat),.int .i64 x] (0,0) _ rfl HZ.out.1 Tryz.underlying75 rfl (by kernel_rfl)) rfl ?_
   exact⟨v,b,dd,hh,x,gd,rfl,hIx,hPP,HZ.out.2⟩
end Go.Proofs.YtfkaogdmlcdceaaGreatDoor
namespace Go.Proofs.YtfkaogdmlcdceaaGreatDoor
open Go.RowKit Go.Fl64
theorem Drounded_0 (b h e m:Int) (d:ByteArray) (neg:Bool) (tw:Bool×Nat×Int) (f:Nat) (w:World)
  (k1:Hid (∀ W,Bw w W→Calls Tryz.prog 121 #[.agg #[.int .i64 b,.string d,.int .i64 h,.int .i64 e]] W fun r w'=>OutA W tw r w'))
  (k2:Hid (∀ W X,Bw w W→PN W X tw→Calls Tryz.prog 89 #[X] W fun r w'=>r=.returned (.int .i64 0)∧Bw W w'))
  (k3:Hid (∀ W,Bw w W→Calls Tryz.prog 122 #[.bool neg,.int .u64 0,.int .i64 0,.int .i64 m] W fun r w'=>r=.returned (.float .f64 f)∧Bw W w')) :
  Calls Tryz.prog 56 #[.agg #[.int .i64 b,.string d,.int .i64 h,.int .i64 e],.bool neg,.int .i64 m] w fun r w'=>r=.returned (.float .f64 f)∧Bw w w':=by
 obtain⟨W,hW⟩:∃ W,W=w.alloc (.cells #[.int .i64 b,.string d,.int .i64 h,.int .i64 e] 75):=⟨_,rfl⟩
 have m1:W.heap[w.heap.size]?=some (.cells #[.int .i64 b,.string d,.int .i64 h,.int .i64 e] 75 (0,0)):=by rw[hW];exact heap_alloc_new _ _
 have m4:Bw w W:=by rw[hW];exact(Below.refl _ _).alloc (Nat.le_refl _) _
 obtain⟨c0,c1,c2,c3⟩:=cells4R m1
 have HC:Hid (W.heap[w.heap.size]?=some (.cells #[.int .i64 b,.string d,.int .i64 h,.int .i64 e] 75 (0,0))∧Bw w W):=⟨m1,m4⟩
 have kk:=k1.out W m4
 clear m1 m4 k1
 go_enter Tryz.func56,Tryz.ntmps56
 go_upto_region 1 with fail
 rw[←hW]
 clear hW
 go_wp2_with fail
 refine kk.mono ?_
 rintro r w1 ⟨s1,ao1,n1,cp1,e1,rfl,hA,hb1⟩
 clear kk c0 c1 c2 c3
 obtain⟨W1,hW1⟩:∃ W1,W1=w1.alloc (.cells #[.bool s1,.slice ao1 n1 cp1,.int .i64 e1] 50):=⟨_,rfl⟩
 have hbV:Bw w1 W1:=by rw[hW1];exact(Below.refl _ _).alloc (Nat.le_refl _) _
 have n6:W1.heap[w1.heap.size]?=some (.cells #[.bool s1,.slice ao1 n1 cp1,.int .i64 e1] 50 (0,0)):=by rw[hW1];exact heap_alloc_new _ _
 go_upto_region 2 with fail
 rw[←hW1]
 clear hW1
 have hA':=hA.later hbV
 have hb1':Bw W W1:=hb1.trans (hbV.mono hb1.size)
 have hlt:w.heap.size<w1.heap.size:=Nat.lt_of_lt_of_le (lt_of_box HC.out.1) hb1.size
 clear hbV hA hb1
 generalize w1.heap.size=gqA at *
 have H1:Hid (W1.heap[w.heap.size]?=some (.cells #[.int .i64 b,.string d,.int .i64 h,.int .i64 e] 75 (0,0))∧PBx W1 gqA s1 ao1 n1 cp1 e1 tw∧Bw w W1∧w.heap.size<gqA):=⟨box_later HC.out.1 hb1' (lt_of_box HC.out.1),⟨n6,hA'⟩,HC.out.2.trans (hb1'.mono HC.out.2.size),hlt⟩
 obtain⟨⟨c0,c1,c2⟩,-⟩:=box_cells H1.out.2.1.1
 have kk:=k2.out W1 _ H1.out.2.2.1 hA'
 clear k2 n6 hA' hb1' hlt HC
 go_wp2_with fail
 refine kk.mono ?_
 rintro r w2 ⟨rfl,hb2⟩
 have H2:Hid (w2.heap[w.heap.size]?=some (.cells #[.int .i64 b,.string d,.int .i64 h,.int .i64 e] 75 (0,0))∧PBx w2 gqA s1 ao1 n1 cp1 e1 tw∧Bw w w2∧w.heap.size<gqA):=⟨box_later H1.out.1 hb2 (lt_of_box H1.out.1),H1.out.2.1.later hb2,H1.out.2.2.1.trans (hb2.mono H1.out.2.2.1.size),H1.out.2.2.2⟩
 have kk3:=k3.out w2 H2.out.2.2.1
 have HB:Hid (Bw w w2):=H2.out.2.2.1
 clear kk hb2 H1 H2 c0 c1 c2 k3
 go_wp2_with fail
 refine kk3.mono ?_
 rintro r w3 ⟨rfl,hb3⟩
 have HB3:Hid (Bw w w3):=HB.out.trans (hb3.mono HB.out.size)
 clear kk3 hb3 HB
 go_wp2
 go_ret
 exact⟨rfl,HB3.out⟩
theorem DRead_mode (s:List UInt8) (m:Int) (w:World) (k0:∀ W,Calls Tryz.prog 51 #[.int .i64 m] W fun r w'=>r=.returned (.bool false)∧w'=W) :
  Calls Tryz.prog 14 #[.string ⟨s.toArray⟩,.int .i64 m] w fun r w'=>r=.returned (.tuple #[.float .f64 0,.int .i64 1])∧Bw w w':=by
 go_enter Tryz.func14,Tryz.ntmps14
 go_wp2_with (first|(go_at_call 51;refine(k0 _).mono ?_;rintro r w' ⟨rfl,rfl⟩))
 refine bodyPost_ret (results_tmp2 rfl _ _ _) rfl ?_
 exact⟨rfl,Below.refl _ _⟩
theorem DRead_long (s:List UInt8) (m:Int) (w:World) (hL:1048576<s.length) (k0:∀ W,Calls Tryz.prog 51 #[.int .i64 m] W fun r w'=>r=.returned (.bool true)∧w'=W) :
  Calls Tryz.prog 14 #[.string ⟨s.toArray⟩,.int .i64 m] w fun r w'=>r=.returned (.tuple #[.float .f64 0,.int .i64 2])∧Bw w w':=by
 have hsz:(⟨s.toArray⟩:ByteArray).size=s.length:=rfl
 have hlen:(1048576:Int)<(s.length:Int):=by omega
 go_enter Tryz.func14,Tryz.ntmps14
 go_wp2_with (first|(go_at_call 51;refine(k0 _).mono ?_;rintro r w' ⟨rfl,rfl⟩))
 refine bodyPost_ret (results_tmp2 rfl _ _ _) rfl ?_
 exact⟨rfl,Below.refl _ _⟩
theorem DRead_inf (s D:List UInt8) (m sg:Int) (f:Nat) (w:World) (hL:s.length≤1048576) (k0:∀ W,Calls Tryz.prog 51 #[.int .i64 m] W fun r w'=>r=.returned (.bool true)∧w'=W) (kC:∀ W,Calls Tryz.prog 52 #[.string ⟨s.toArray⟩] W fun r w'=>r=.returned (.tuple #[.int .i64 sg,.string ⟨D.toArray⟩])∧Bw W w') (hD:D = [105,110,102])
  (kI:∀ W,Calls Tryz.prog 53 #[.int .i64 sg] W fun r w'=>r=.returned (.float .f64 f)∧w'=W) :
  Calls Tryz.prog 14 #[.string ⟨s.toArray⟩,.int .i64 m] w fun r w'=>r=.returned (.tuple #[.float .f64 f,.int .i64 0])∧Bw w w':=by
 subst hD
 have hsz:(⟨s.toArray⟩:ByteArray).size=s.length:=rfl
 have hlen:¬ (1048576:Int)<(s.length:Int):=by omega
 go_enter Tryz.func14,Tryz.ntmps14
 go_wp2_with (first|(go_at_call 51;refine(k0 _).mono ?_;rintro r w' ⟨rfl,rfl⟩)|(go_at_call 52;refine(kC _).mono ?_;rintro r w1 ⟨rfl,hb1⟩)|(go_at_call 53;refine(kI _).mono ?_;rintro r w' ⟨rfl,rfl⟩))
 refine bodyPost_ret (results_tmp2 rfl _ _ _) rfl ?_
 exact⟨rfl,hb1⟩
theorem DRead_nan (s D:List UInt8) (m sg:Int) (f:Nat) (w:World) (hL:s.length≤1048576) (k0:∀ W,Calls Tryz.prog 51 #[.int .i64 m] W fun r w'=>r=.returned (.bool true)∧w'=W) (kC:∀ W,Calls Tryz.prog 52 #[.string ⟨s.toArray⟩] W fun r w'=>r=.returned (.tuple #[.int .i64 sg,.string ⟨D.toArray⟩])∧Bw W w') (hD:D = [110,97,110])
  (kI:∀ W,Calls Tryz.prog 54 #[] W fun r w'=>r=.returned (.float .f64 f)∧w'=W) :
  Calls Tryz.prog 14 #[.string ⟨s.toArray⟩,.int .i64 m] w fun r w'=>r=.returned (.tuple #[.float .f64 f,.int .i64 0])∧Bw w w':=by
 subst hD
 have hsz:(⟨s.toArray⟩:ByteArray).size=s.length:=rfl
 have hlen:¬ (1048576:Int)<(s.length:Int):=by omega
 go_enter Tryz.func14,Tryz.ntmps14
 go_wp2_with (first|(go_at_call 51;refine(k0 _).mono ?_;rintro r w' ⟨rfl,rfl⟩)|(go_at_call 52;refine(kC _).mono ?_;rintro r w1 ⟨rfl,hb1⟩)|(go_at_call 54;refine(kI _).mono ?_;rintro r w' ⟨rfl,rfl⟩))
 refine bodyPost_ret (results_tmp2 rfl _ _ _) rfl ?_
 exact⟨rfl,hb1⟩
theorem DRead_form (s D:List UInt8) (m sg:Int) (w:World) (hL:s.length≤1048576) (k0:∀ W,Calls Tryz.prog 51 #[.int .i64 m] W fun r w'=>r=.returned (.bool true)∧w'=W) (kC:∀ W,Calls Tryz.prog 52 #[.string ⟨s.toArray⟩] W fun r w'=>r=.returned (.tuple #[.int .i64 sg,.string ⟨D.toArray⟩])∧Bw W w') (hD1:(D == [105,110,102])=false) (hD2:(D == [110,97,110])=false)
  (kS:Hid (∀ W,Bw w W→Calls Tryz.prog 55 #[.string ⟨D.toArray⟩] W fun r w'=>∃ (b:Int) (d:List UInt8) (h e:Int),r=.returned (.tuple #[.agg #[.int .i64 b,.string ⟨d.toArray⟩,.int .i64 h,.int .i64 e],.bool false])∧Bw W w'))  :
  Calls Tryz.prog 14 #[.string ⟨s.toArray⟩,.int .i64 m] w fun r w'=>r=.returned (.tuple #[.float .f64 0,.int .i64 3])∧Bw w w':=by
 have hsz:(⟨s.toArray⟩:ByteArray).size=s.length:=rfl
 have hlen:¬ (1048576:Int)<(s.length:Int):=by omega
 go_enter Tryz.func14,Tryz.ntmps14
 go_wp2_with (first|(go_at_call 51;refine(k0 _).mono ?_;rintro r w' ⟨rfl,rfl⟩)|(go_at_call 52;refine(kC _).mono ?_;rintro r w1 ⟨rfl,hb1⟩))
 have HB:Hid (Below _ _ w1):=hb1
 have kk:=kS.out w1 hb1
 clear kS hb1 kC
 refine kk.mono ?_
 rintro r w2 ⟨b,d,h,e,rfl,hb2⟩
 clear kk
 obtain⟨W2,hW2⟩:∃ W2,W2=w2.alloc (.cells #[.int .i64 b,.string ⟨d.toArray⟩,.int .i64 h,.int .i64 e] 75):=⟨_,rfl⟩
 have hbV:Bw w2 W2:=by rw[hW2];exact(Below.refl _ _).alloc (Nat.le_refl _) _
 have n6:W2.heap[w2.heap.size]?=some (.cells #[.int .i64 b,.string ⟨d.toArray⟩,.int .i64 h,.int .i64 e] 75 (0,0)):=by rw[hW2];exact heap_alloc_new _ _
 go_upto_region 12 with fail
 rw[←hW2]
 clear hW2
 have hb2':=HB.out.trans (hb2.mono HB.out.size)
 have HB2:Hid (Below _ _ W2):=hb2'.trans (hbV.mono hb2'.size)
 clear hbV hb2 hb2' HB
 generalize w2.heap.size=gqN at *
 obtain⟨c0,c1,c2,c3⟩:=cells4R n6
 clear n6
 go_wp2
 refine bodyPost_ret (results_tmp2 rfl _ _ _) rfl ?_
 exact⟨rfl,HB2.out⟩
theorem DRead_digits (s D d:List UInt8) (m sg b h e:Int) (w:World) (hL:s.length≤1048576) (k0:∀ W,Calls Tryz.prog 51 #[.int .i64 m] W fun r w'=>r=.returned (.bool true)∧w'=W) (kC:∀ W,Calls Tryz.prog 52 #[.string ⟨s.toArray⟩] W fun r w'=>r=.returned (.tuple #[.int .i64 sg,.string ⟨D.toArray⟩])∧Bw W w') (hD1:(D == [105,110,102])=false) (hD2:(D == [110,97,110])=false)
  (kS:Hid (∀ W,Bw w W→Calls Tryz.prog 55 #[.string ⟨D.toArray⟩] W fun r w'=>r=.returned (.tuple #[.agg #[.int .i64 b,.string ⟨d.toArray⟩,.int .i64 h,.int .i64 e],.bool true])∧Bw W w')) (hd:1100<d.length) :
  Calls Tryz.prog 14 #[.string ⟨s.toArray⟩,.int .i64 m] w fun r w'=>r=.returned (.tuple #[.float .f64 0,.int .i64 2])∧Bw w w':=by
 have hsz:(⟨s.toArray⟩:ByteArray).size=s.length:=rfl
 have hlen:¬ (1048576:Int)<(s.length:Int):=by omega
 have hsd:(⟨d.toArray⟩:ByteArray).size=d.length:=rfl
 have hdl:(1100:Int)<(d.length:Int):=by omega
 go_enter Tryz.func14,Tryz.ntmps14
 go_wp2_with (first|(go_at_call 51;refine(k0 _).mono ?_;rintro r w' ⟨rfl,rfl⟩)|(go_at_call 52;refine(kC _).mono ?_;rintro r w1 ⟨rfl,hb1⟩))
 have HB:Hid (Below _ _ w1):=hb1
 have kk:=kS.out w1 hb1
 clear kS hb1 kC
 refine kk.mono ?_
 rintro r w2 ⟨rfl,hb2⟩
 clear kk
 obtain⟨W2,hW2⟩:∃ W2,W2=w2.alloc (.cells #[.int .i64 b,.string ⟨d.toArray⟩,.int .i64 h,.int .i64 e] 75):=⟨_,rfl⟩
 have hbV:Bw w2 W2:=by rw[hW2];exact(Below.refl _ _).alloc (Nat.le_refl _) _
 have n6:W2.heap[w2.heap.size]?=some (.cells #[.int .i64 b,.string ⟨d.toArray⟩,.int .i64 h,.int .i64 e] 75 (0,0)):=by rw[hW2];exact heap_alloc_new _ _
 go_upto_region 12 with fail
 rw[←hW2]
 clear hW2
 have hb2':=HB.out.trans (hb2.mono HB.out.size)
 have HB2:Hid (Below _ _ W2):=hb2'.trans (hbV.mono hb2'.size)
 clear hbV hb2 hb2' HB
 generalize w2.heap.size=gqN at *
 obtain⟨c0,c1,c2,c3⟩:=cells4R n6
 clear n6
 go_wp2
 refine bodyPost_ret (results_tmp2 rfl _ _ _) rfl ?_
 exact⟨rfl,HB2.out⟩
theorem DRead_ok (s D d:List UInt8) (m sg b h e:Int) (w:World) (hL:s.length≤1048576) (k0:∀ W,Calls Tryz.prog 51 #[.int .i64 m] W fun r w'=>r=.returned (.bool true)∧w'=W) (kC:∀ W,Calls Tryz.prog 52 #[.string ⟨s.toArray⟩] W fun r w'=>r=.returned (.tuple #[.int .i64 sg,.string ⟨D.toArray⟩])∧Bw W w') (hD1:(D == [105,110,102])=false) (hD2:(D == [110,97,110])=false)
  (kS:Hid (∀ W,Bw w W→Calls Tryz.prog 55 #[.string ⟨D.toArray⟩] W fun r w'=>r=.returned (.tuple #[.agg #[.int .i64 b,.string ⟨d.toArray⟩,.int .i64 h,.int .i64 e],.bool true])∧Bw W w')) (f:Nat) (hd:d.length≤1100) (kR:Hid (∀ W,Bw w W→Calls Tryz.prog 56 #[.agg #[.int .i64 b,.string ⟨d.toArray⟩,.int .i64 h,.int .i64 e],.bool (decide (sg<0)),.int .i64 m] W fun r w'=>r=.returned (.float .f64 f)∧Bw W w')) :
  Calls Tryz.prog 14 #[.string ⟨s.toArray⟩,.int .i64 m] w fun r w'=>r=.returned (.tuple #[.float .f64 f,.int .i64 0])∧Bw w w':=by
 have hsz:(⟨s.toArray⟩:ByteArray).size=s.length:=rfl
 have hlen:¬ (1048576:Int)<(s.length:Int):=by omega
 have hsd:(⟨d.toArray⟩:ByteArray).size=d.length:=rfl
 have hdl:¬ (1100:Int)<(d.length:Int):=by omega
 go_enter Tryz.func14,Tryz.ntmps14
 go_wp2_with (first|(go_at_call 51;refine(k0 _).mono ?_;rintro r w' ⟨rfl,rfl⟩)|(go_at_call 52;refine(kC _).mono ?_;rintro r w1 ⟨rfl,hb1⟩))
 have HB:Hid (Below _ _ w1):=hb1
 have kk:=kS.out w1 hb1
 clear kS hb1 kC
 refine kk.mono ?_
 rintro r w2 ⟨rfl,hb2⟩
 clear kk
 obtain⟨W2,hW2⟩:∃ W2,W2=w2.alloc (.cells #[.int .i64 b,.string ⟨d.toArray⟩,.int .i64 h,.int .i64 e] 75):=⟨_,rfl⟩
 have hbV:Bw w2 W2:=by rw[hW2];exact(Below.refl _ _).alloc (Nat.le_refl _) _
 have n6:W2.heap[w2.heap.size]?=some (.cells #[.int .i64 b,.string ⟨d.toArray⟩,.int .i64 h,.int .i64 e] 75 (0,0)):=by rw[hW2];exact heap_alloc_new _ _
 go_upto_region 12 with fail
 rw[←hW2]
 clear hW2
 have hb2':=HB.out.trans (hb2.mono HB.out.size)
 have HB2:Hid (Below _ _ W2):=hb2'.trans (hbV.mono hb2'.size)
 clear hbV hb2 hb2' HB
 generalize w2.heap.size=gqN at *
 obtain⟨c0,c1,c2,c3⟩:=cells4R n6
 clear n6
 have kk:=kR.out W2 HB2.out
 clear kR
 go_wp2_with fail
 refine kk.mono ?_
 rintro r w3 ⟨rfl,hb3⟩
 have HB3:Hid (Below _ _ w3):=HB2.out.trans (hb3.mono HB2.out.size)
 clear kk hb3 HB2
 go_wp2
 refine bodyPost_ret (results_tmp2 rfl _ _ _) rfl ?_
 exact⟨rfl,HB3.out⟩
end Go.Proofs.YtfkaogdmlcdceaaGreatDoor
namespace Go.Proofs.YtfkaogdmlcdceaaGreatDoor
open Go Go.RowKit Go.Fl64
theorem hasP_one (s:List UInt8) (c:UInt8):Lib.hasPrefix s [c]=(s.head?==some c):=by
 cases s with
 | nil=>rfl
 | cons a t =>
  show([c].isPrefixOf (a :: t))=_
  by_cases h:c=a
  ·subst h;simp[List.isPrefixOf]
  ·have h1:(c==a)=false:=by rw[beq_eq_false_iff_ne];exact h
   have h2:(some a==some c)=false:=by rw[beq_eq_false_iff_ne];exact fun e=>h (Option.some.inj e).symm
   simp[List.isPrefixOf,h1,h2]
theorem DcutSign (s:List UInt8) (w:World) (hL:s.length≤2000000):Calls Tryz.prog 52 #[.string ⟨s.toArray⟩] w fun r w'=>r=.returned (.tuple #[.int .i64 (csS s),.string ⟨(csD s).toArray⟩])∧Bw w w':=by
 refine DcutSign_1 s w hL (fun W=>?_) (fun W=>?_)
 ·have h:=Tryz.strings_HasPrefix ⟨s.toArray⟩ ⟨#[45]⟩ W
  rw[←hasP_one]
  exact h
 ·have h:=Tryz.strings_HasPrefix ⟨s.toArray⟩ ⟨#[43]⟩ W
  rw[←hasP_one]
  exact h
theorem csD_len (s:List UInt8):(csD s).length≤s.length:=by
 unfold csD
 split
 ·rw[List.length_tail];omega
 ·exact Nat.le_refl _
def dgO (b:Int) (D:List UInt8):Bool:=allDg D b&&decide (D ≠ [])
def exO (E:List UInt8):Bool:=dgO 10 (csD E)
def exX (E:List UInt8):Int:=if exO E then csS E*rdE (csD E) (csD E).length else 0
theorem DreadExp (E:List UInt8) (w:World) (hL:E.length≤1048576):Calls Tryz.prog 118 #[.string ⟨E.toArray⟩] w fun r w'=>r=.returned (.tuple #[.int .i64 (exX E),.bool (exO E)])∧Bw w w':=by
 have hl:=csD_len E
 have k1:=fun W=>DcutSign E W (by omega)
 have k2:=fun W=>DareDigits (csD E) 10 W (by omega)
 have hsg:csS E=1∨csS E = -1:=by unfold csS;split <;> simp
 by_cases h:exO E=true
 ·have h':(allDg (csD E) 10&&decide (csD E ≠ []))=true:=h
  rw[h'] at k2
  unfold exX
  rw[if_pos h,h]
  exact DreadExp_1 E (csD E) (csS E) w (by omega) hsg k1 k2 ((allDg_iff _ _).1 (by rw[Bool.and_eq_true] at h';exact h'.1))
 ·have h0:exO E=false:=by simpa using h
  have h':(allDg (csD E) 10&&decide (csD E ≠ []))=false:=h0
  rw[h'] at k2
  unfold exX
  rw[if_neg h,h0]
  exact DreadExp_no E (csD E) (csS E) w k1 k2
def hexP (L:List UInt8):Bool:=Lib.hasPrefix L [48,120]||Lib.hasPrefix L [48,88]
def psS (L:List UInt8):List UInt8:=if hexP L then L.drop 2 else L
def psb (L:List UInt8):Int:=if hexP L then 16 else 10
def psM (L:List UInt8):List UInt8:=if hexP L then [112,80] else [101,69]
def psV (L:List UInt8):Int:=Lib.indexAny (psS L) (psM L)
def psD0 (L:List UInt8):List UInt8:=if 0≤psV L then(psS L).take (psV L).toNat else psS L
def psE (L:List UInt8):List UInt8:=(psS L).drop ((psV L).toNat+1)
def psD (L:List UInt8):List UInt8:=cuA (psD0 L)++cuB (psD0 L)
def psH (L:List UInt8):Nat:=(cuB (psD0 L)).length
def psX (L:List UInt8):Int:=if 0≤psV L then exX (psE L)else 0
def psOk (L:List UInt8):Bool:=(if 0≤psV L then exO (psE L)else !hexP L)&&dgO (psb L) (psD L)
theorem isDg_asc {c:Nat} {b:Int} (h:isDg c b=true):c<128:=by
 unfold isDg at h
 simp only[Bool.or_eq_true,Bool.and_eq_true,decide_eq_true_eq] at h
 omega
theorem asc_app (A B:List UInt8):asc (A++B)=(asc A&&asc B):=by unfold asc;rw[List.all_append]
theorem asc_dg {b:Int} {D:List UInt8} (h:dgO b D=true):asc D=true:=by
 unfold dgO at h
 rw[Bool.and_eq_true] at h
 unfold allDg at h
 unfold asc
 rw[List.all_eq_true] at h ⊢
 intro x hx
 exact decide_eq_true (isDg_asc (h.1 x hx))
theorem ix_get {L:List UInt8} {c:UInt8} {i:Nat} (h:Lib.indexByte L c=(i:Int)):∃ t,L=L.take i++c :: t∧t=L.drop (i+1):=by
 induction L generalizing i with
 | nil=>exact absurd h (by show ¬ (-1:Int)=i;omega)
 | cons b l ih =>
  unfold Lib.indexByte at h
  by_cases h1:(b==c)=true
  ·rw[if_pos h1] at h
   obtain rfl:i=0:=by omega
   obtain rfl:b=c:=eq_of_beq h1
   exact⟨l,rfl,rfl⟩
  ·rw[if_neg h1] at h
   rcases ixbD l c with h2|⟨k,h2,h3⟩
   ·rw[h2] at h
    exact absurd h (by show ¬ (-1:Int)=i;omega)
   ·rw[h2,if_neg (by rw[beq_iff_eq];omega)] at h
    obtain rfl:i=k+1:=by omega
    obtain⟨t,e1,e2⟩:=ih h2
    refine⟨t,?_,e2⟩
    rw[List.take_succ_cons,List.cons_append,←e1]
theorem cu_join (T:List UInt8):(Lib.indexByte T 46 = -1∧cuA T=T∧cuB T = [])∨(T=cuA T++46 :: cuB T):=by
 rcases ixbD T 46 with h|⟨i,h,h2⟩
 ·refine .inl ⟨h,?_,?_⟩
  ·unfold cuA;rw[h,if_pos (by decide)]
  ·unfold cuB;rw[h,if_pos (by decide)]
 ·obtain⟨t,e1,e2⟩:=ix_get h
  refine .inr ?_
  have a:cuA T=T.take i:=by unfold cuA;rw[h,if_neg (by omega),Int.toNat_natCast]
  have b:cuB T=T.drop (i+1):=by unfold cuB;rw[h,if_neg (by omega),Int.toNat_natCast]
  rw[a,b,←e2]
  exact e1
theorem asc_cut {b:Int} {T:List UInt8} (h:dgO b (cuA T++cuB T)=true):asc T=true:=by
 have h2:=asc_dg h
 rw[asc_app,Bool.and_eq_true] at h2
 rcases cu_join T with ⟨_,e1,e2⟩|e
 ·rw[e1] at h2;exact h2.1
 ·rw[e,asc_app,h2.1,Bool.true_and]
  show(decide ((46:UInt8).toNat<128)&&asc (cuB T))=true
  rw[h2.2];rfl
theorem asc_ex {E:List UInt8} (h:exO E=true):asc E=true:=by
 have h2:=asc_dg h
 unfold csD at h2
 by_cases hc:E.head?=some 45∨E.head?=some 43
 ·rw[if_pos hc] at h2
  cases E with
  | nil=>rfl
  | cons a t =>
   have ha:a=45∨a=43:=by simpa using hc
   show(decide (a.toNat<128)&&asc t)=true
   have h3:asc t=true:=h2
   rw[h3]
   rcases ha with rfl|rfl <;> rfl
 ·rw[if_neg hc] at h2;exact h2
theorem asc_ok {b:Int} {S:List UInt8} {i:Nat} {c:UInt8} (hi:S[i]?=some c) (hc:c.toNat<128) (h1:exO (S.drop (i+1))=true) (h2:dgO b (cuA (S.take i)++cuB (S.take i))=true):asc S=true:=by
 have hl:i<S.length:=(List.getElem?_eq_some_iff.1 hi).1
 have e:S=S.take i++c :: S.drop (i+1):=by
  rw[←(List.getElem?_eq_some_iff.1 hi).2,List.getElem_cons_drop,List.take_append_drop]
 rw[e,asc_app,asc_cut h2,Bool.true_and]
 show(decide (c.toNat<128)&&asc (S.drop (i+1)))=true
 rw[asc_ex h1,decide_eq_true hc];rfl
theorem psM_asc {L:List UInt8} {c:UInt8} (h:(psM L).contains c=true):c.toNat<128:=by
 unfold psM at h
 split at h
 ·have:c=112∨c=80:=by simpa using h
  rcases this with rfl|rfl <;> decide
 ·have:c=101∨c=69:=by simpa using h
  rcases this with rfl|rfl <;> decide
def spP (hex:Bool) (S:List UInt8) (b:Int) (v b':Int) (D:List UInt8) (h x:Int) (ok:Bool):Prop :=
 (∃ i,i<S.length∧v=(i:Int)∧b'=b∧D=cuA (S.take i)++cuB (S.take i)∧h=(cuB (S.take i)).length∧x=exX (S.drop (i+1))∧ok=(exO (S.drop (i+1))&&dgO b D))∨(v = -1∧hex=true∧ok=false)∨(v = -1∧hex=false∧b'=b∧D=cuA S++cuB S∧h=(cuB S).length∧x=0∧ok=dgO b D)
theorem spP_ps {L D:List UInt8} {b' h x:Int} {ok:Bool} (hv:spP (hexP L) (psS L) (psb L) (psV L) b' D h x ok):ok=psOk L∧(psOk L=true→b'=psb L∧D=psD L∧h=psH L∧x=psX L):=by
 unfold psOk psD psH psX psD0 psE
 rcases hv with ⟨i,hi,e1,e2,e3,e4,e5,e6⟩|⟨e1,e2,e3⟩|⟨e1,e2,e3,e4,e5,e6,e7⟩
 ·rw[e1,if_pos (by omega),if_pos (by omega),if_pos (by omega),Int.toNat_natCast]
  exact⟨by rw[e6,e3],fun _=>⟨e2,e3,e4,e5⟩⟩
 ·rw[e1,if_neg (by decide),e2,e3]
  exact⟨rfl,fun h=>by cases h⟩
 ·rw[e1,if_neg (by decide),if_neg (by decide),if_neg (by decide),e2]
  exact⟨by rw[e7,e4];rfl,fun _=>⟨e3,e4,e5,e6⟩⟩
theorem spP_asc {L D:List UInt8} {v b' h x:Int} (hix:v = -1∨∃ i,i<(psS L).length∧v=(i:Int)∧∃ c,(psS L)[i]?=some c∧(psM L).contains c=true) (hv:spP (hexP L) (psS L) (psb L) v b' D h x true):asc (psS L)=true:=by
 rcases hv with ⟨i,hi,e1,e2,e3,e4,e5,e6⟩|⟨e1,e2,e3⟩|⟨e1,e2,e3,e4,e5,e6,e7⟩
 ·rcases hix with h1|⟨j,hj,ej,c,h3,h4⟩
  ·omega
  ·obtain rfl:j=i:=by omega
   have e6':=e6.symm
   rw[Bool.and_eq_true,e3] at e6'
   exact asc_ok h3 (psM_asc h4) e6'.1 e6'.2
 ·cases e3
 ·rw[e4] at e7
  exact asc_cut e7.symm
theorem Dsplit (L:List UInt8) (w:World) (hL:L.length≤1048576):Calls Tryz.prog 55 #[.string ⟨L.toArray⟩] w fun r w'=>∃ (b':Int) (D:List UInt8) (h x:Int),r=.returned (.tuple #[.agg #[.int .i64 b',.string ⟨D.toArray⟩,.int .i64 h,.int .i64 x],.bool (psOk L)])∧(psOk L=true→b'=psb L∧D=psD L∧h=psH L∧x=psX L)∧Bw w w':=by
 have hSL:(psS L).length≤L.length:=by unfold psS;split <;> (try rw[List.length_drop]) <;> omega
 obtain⟨c0,c1,hc,hc0,hc1⟩:∃ c0 c1:UInt8,psM L = [c0,c1]∧c0=(if hexP L then 112 else 101)∧c1=(if hexP L then 80 else 69):=by
  unfold psM
  split
  ·exact⟨_,_,rfl,rfl,rfl⟩
  ·exact⟨_,_,rfl,rfl,rfl⟩
 have h0:c0.toNat<128:=psM_asc (L:=L) (by rw[hc];simp)
 have h1:c1.toNat<128:=psM_asc (L:=L) (by rw[hc];simp)
 have hp:hexP L=true→2≤L.length:=by
  intro h
  unfold hexP Lib.hasPrefix at h
  rw[Bool.or_eq_true] at h
  rcases h with h|h
  ·have:=(List.isPrefixOf_iff_prefix.1 h).length_le;simpa using this
  ·have:=(List.isPrefixOf_iff_prefix.1 h).length_le;simpa using this
 refine(Dsplit_1 L (psS L) (Lib.hasPrefix L [48,120]) (Lib.hasPrefix L [48,88]) (hexP L) (psb L) c0 c1 (spP (hexP L) (psS L) (psb L)) exX exO cuA cuB (dgO (psb L)) w hL rfl rfl rfl hc0 hc1 hp (fun W=>Tryz.strings_HasPrefix ⟨L.toArray⟩ ⟨#[48,120]⟩ W) (fun W=>Tryz.strings_HasPrefix ⟨L.toArray⟩ ⟨#[48,88]⟩ W) (fun W=>Dany _ c0 c1 h0 h1 W (by omega)) (fun W i hi=>DreadExp _ W (by rw[List.length_drop];omega)) (fun W D hD=>Dcut D W (by omega)) cu_len (fun W D hD=>DareDigits D _ W (by omega)) (fun i hi=>.inl ⟨i,hi,rfl,rfl,rfl,rfl,rfl,rfl⟩) (fun h=>.inr (.inl ⟨rfl,h,rfl⟩)) (fun h=>.inr (.inr ⟨rfl,h,rfl,rfl,rfl,rfl,rfl⟩))).mono ?_
 rintro r w' ⟨v,b',D,h,x,ok,rfl,hix,hv,hb⟩
 rw[←hc] at hix
 by_cases ha:asc (psS L)=true∨8<(psS L).length
 ·have e:v=psV L:=hix.1 ha
  subst e
  obtain⟨e1,e2⟩:=spP_ps hv
  exact⟨b',D,h,x,by rw[e1],e2,hb⟩
 ·have hn:asc (psS L)≠true:=fun h=>ha (.inl h)
  have hok:ok=false:=by
   cases ok
   ·rfl
   ·exact absurd (spP_asc hix.2 hv) hn
  have hps:psOk L=false:=by
   cases h9:psOk L
   ·rfl
   ·exfalso
    have hV:spP (hexP L) (psS L) (psb L) (psV L) (psb L) (psD L) (psH L) (psX L) (psOk L):=by
     unfold psOk psD psH psX psD0 psE
     rcases indexAny_in (psS L) (psM L)with h1|⟨i,h1,h2,h3⟩
     ·have h1':psV L = -1:=h1
      rw[h1',if_neg (by decide),if_neg (by decide),if_neg (by decide)]
      cases hx:hexP L
      ·exact .inr (.inr ⟨rfl,rfl,rfl,rfl,rfl,rfl,rfl⟩)
      ·exact .inr (.inl ⟨rfl,rfl,rfl⟩)
     ·have h2':psV L=(i:Int):=h2
      rw[h2',if_pos (by omega),if_pos (by omega),if_pos (by omega),Int.toNat_natCast]
      exact .inl ⟨i,h1,rfl,rfl,rfl,rfl,rfl,rfl⟩
    rw[h9] at hV
    exact hn (spP_asc (indexAny_in _ _) hV)
  exact⟨b',D,h,x,by rw[hok,hps],fun h=>absurd h (by rw[hps];decide),hb⟩
end Go.Proofs.YtfkaogdmlcdceaaGreatDoor
