/- Own work: contracts of the program's functions, part 17: DCZ DCT DCU DD1 DD2 DD4 DD5 DD6 DD7. -/
import Derived.Test.YtbanebginnakhaaGreatDoorA16
import Derived.Test.YtbanebginnakhaaGreatDoorA15
import Derived.Test.YtbanebginnakhaaGreatDoorA12
import Derived.Test.YtbanebginnakhaaGreatDoorA7
import Derived.Test.YtbanebginnakhaaGreatDoorA14
import Derived.Test.YtbanebginnakhaaGreatDoorA13
import Derived.Lib.ItoaLen

set_option maxHeartbeats 16000000
set_option maxRecDepth 200000
set_option linter.unusedVariables false
set_option linter.unusedSimpArgs false
namespace Go.Proofs.YtbanebginnakhaaGreatDoor
open Go Go.RowKit Go.Fl64
def SpO (w:World) (S M:List UInt8) (PP:Int→Int→List UInt8→Int→Int→Bool→Prop) (r:Ending) (w':World):Prop:=∃ (v b':Int) (D:List UInt8) (h x:Int) (ok:Bool),r=.returned (.tuple #[.agg #[.int .i64 b',.string ⟨D.toArray⟩,.int .i64 h,.int .i64 x],.bool ok])∧IxA S M v∧PP v b' D h x ok∧Bw w w'
theorem xH8 {a b c d:Value} (h1:a.oneCell'=true) (h2:b.oneCell'=true) (h3:c.oneCell'=true) (h4:d.oneCell'=true):(#[a,b,c,d]:Array Value).all (·.oneCell')=true:=by simp[h1,h2,h3,h4]
theorem qJ2 {w:World} {g:Nat} {a b c d:Value} {T:TypeId} (h:w.heap[g]?=some (.cells #[a,b,c,d] T (0,0))) :
  (w.cell? ⟨g,0,none⟩=some a∧w.cell? ⟨g,1,none⟩=some b∧w.cell? ⟨g,2,none⟩=some c∧w.cell? ⟨g,3,none⟩=some d)∧(w.frozen? ⟨g,0,none⟩=false∧w.frozen? ⟨g,1,none⟩=false∧w.frozen? ⟨g,2,none⟩=false∧w.frozen? ⟨g,3,none⟩=false):=by
 simp[World.cell?,World.frozen?,h]
theorem yD1 {w:World} {g:Nat} {a b c d:Value} {T:TypeId} (h:w.heap[g]?=some (.cells #[a,b,c,d] T (0,0))) (v:Value):(w.setCell ⟨g,0,none⟩ v).heap[g]?=some (.cells #[v,b,c,d] T (0,0)):=by
 simp[World.setCell,Array.getElem?_modify,h]
theorem yD0 {w:World} {g:Nat} {a b c d:Value} {T:TypeId} (h:w.heap[g]?=some (.cells #[a,b,c,d] T (0,0))) (v:Value):(w.setCell ⟨g,1,none⟩ v).heap[g]?=some (.cells #[a,v,c,d] T (0,0)):=by
 simp[World.setCell,Array.getElem?_modify,h]
theorem yD {w:World} {g:Nat} {a b c d:Value} {T:TypeId} (h:w.heap[g]?=some (.cells #[a,b,c,d] T (0,0))) (v:Value):(w.setCell ⟨g,2,none⟩ v).heap[g]?=some (.cells #[a,b,v,d] T (0,0)):=by
 simp[World.setCell,Array.getElem?_modify,h]
theorem yP9 {w:World} {g:Nat} {a b c d:Value} {T:TypeId} (h:w.heap[g]?=some (.cells #[a,b,c,d] T (0,0))) (v:Value):(w.setCell ⟨g,3,none⟩ v).heap[g]?=some (.cells #[a,b,c,v] T (0,0)):=by
 simp[World.setCell,Array.getElem?_modify,h]
theorem yV8 {w:World} {g:Nat} {a b c d:Value} {T:TypeId} (h:w.heap[g]?=some (.cells #[a,b,c,d] T (0,0))) (x y z u:Value):((((w.setCell ⟨g,0,none⟩ x).setCell ⟨g,1,none⟩ y).setCell ⟨g,2,none⟩ z).setCell ⟨g,3,none⟩ u).heap[g]?=some (.cells #[x,y,z,u] T (0,0)):=yP9 (yD (yD0 (yD1 h _) _) _) _
theorem yN7 (L S:List UInt8) (p1 p2 hex:Bool) (b:Int) (c0 c1:UInt8) (PP:Int→Int→List UInt8→Int→Int→Bool→Prop) (xE:List UInt8→Int) (oE:List UInt8→Bool) (cA cB:List UInt8→List UInt8) (dG:List UInt8→Bool) (w:World) (hL:L.length≤1048576)
  (hhex:Hid (hex=(p1||p2))) (hS:Hid (S=if hex then L.drop 2 else L)) (hb:Hid (b=if hex then 16 else 10)) (hc0:Hid (c0=if hex then 112 else 101)) (hc1:Hid (c1=if hex then 80 else 69)) (hp:Hid (hex=true→2≤L.length))
  (k1:∀ W,Calls Tryz.prog 41 #[.string ⟨L.toArray⟩,.string ⟨#[48,120]⟩] W fun r w'=>r=.returned (.bool p1)∧w'=W)
  (k2:∀ W,Calls Tryz.prog 41 #[.string ⟨L.toArray⟩,.string ⟨#[48,88]⟩] W fun r w'=>r=.returned (.bool p2)∧w'=W)
  (k3:Hid (∀ W,Calls Tryz.prog 42 #[.string ⟨S.toArray⟩,.string ⟨#[c0,c1]⟩] W fun r w'=>∃ v:Int,r=.returned (.int .i64 v)∧IxA S [c0,c1] v∧Bw W w'))
  (k4:Hid (∀ W i,i<S.length→Calls Tryz.prog 43 #[.string ⟨(S.drop (i+1)).toArray⟩] W fun r w'=>r=.returned (.tuple #[.int .i64 (xE (S.drop (i+1))),.bool (oE (S.drop (i+1)))])∧Bw W w'))
  (k5:Hid (∀ W (D:List UInt8),D.length≤1048576→Calls Tryz.prog 44 #[.string ⟨D.toArray⟩,.string ⟨#[46]⟩] W fun r w'=>∃ bb,r=.returned (.tuple #[.string ⟨(cA D).toArray⟩,.string ⟨(cB D).toArray⟩,.bool bb])∧Bw W w')) (hcutL:Hid (∀ D,(cA D).length+(cB D).length≤D.length))
  (k6:Hid (∀ W (D:List UInt8),D.length≤1048576→Calls Tryz.prog 45 #[.string ⟨D.toArray⟩,.int .i64 b] W fun r w'=>r=.returned (.bool (dG D))∧w'=W))
  (hP1:Hid (∀ i,i<S.length→PP (i:Int) b (cA (S.take i)++cB (S.take i)) (cB (S.take i)).length (xE (S.drop (i+1))) (oE (S.drop (i+1))&&dG (cA (S.take i)++cB (S.take i)))))
  (hP2:Hid (hex=true→PP (-1) 0 [] 0 0 false)) (hP3:Hid (hex=false→PP (-1) b (cA S++cB S) (cB S).length 0 (dG (cA S++cB S)))) :
  Calls Tryz.prog 26 #[.string ⟨L.toArray⟩] w fun r w'=>SpO w S [c0,c1] PP r w':=by
 obtain⟨W,hW⟩:∃ W,W=(w.alloc (.cells #[.int .i64 0,.string ⟨#[]⟩,.int .i64 0,.int .i64 0] 59)).alloc (.cells #[.int .i64 10,.string ⟨#[]⟩,.int .i64 0,.int .i64 0] 59):=⟨_,rfl⟩;obtain⟨z1,z2,z3,z4⟩:=qG9 _ _ hW;have H0:Hid (W.heap[w.heap.size]?=some (.cells #[.int .i64 0,.string ⟨#[]⟩,.int .i64 0,.int .i64 0] 59 (0,0))∧W.heap[w.heap.size+1]?=some (.cells #[.int .i64 10,.string ⟨#[]⟩,.int .i64 0,.int .i64 0] 59 (0,0))∧Bw w W):=⟨z1,z2,z4⟩;clear z1 z2 z3 z4;have hsz:(⟨L.toArray⟩:ByteArray).size=L.length:=rfl
 go_enter Tryz.func26,Tryz.ntmps26
 go_upto_region 2 with fail;rw[←hW];clear hW
 go_cut [17] from 12 to 16 (fun v wx=>v=.bool hex∧wx=W)
 case first =>
  have hh:=hhex.out;cases p1
  ·have hh':hex=p2:=hh
   go_wp2_with (first|(go_at_call 41;first|(with_reducible refine(k1 _).mono ?_;rintro r w' ⟨rfl,hw⟩;replace hw:=hw.symm;subst hw)|(with_reducible refine(k2 _).mono ?_;rintro r w' ⟨rfl,hw⟩;replace hw:=hw.symm;subst hw)))
   go_meet
   exact⟨by rw[hh'],rfl⟩
  ·have hh':hex=true:=hh
   go_wp2_with (first|(go_at_call 41;(with_reducible refine(k1 _).mono ?_;rintro r w' ⟨rfl,hw⟩;replace hw:=hw.symm;subst hw)))
   go_meet
   exact⟨by rw[hh'],rfl⟩
 case rest =>
 obtain⟨rfl,hw⟩:=hcut;replace hw:=hw.symm;subst hw;clear k1 k2 hhex
 go_upto_if 17 with fail
 go_cut [0,5] from 18 to 20 (fun v0 v5 wx=>v0=.string ⟨S.toArray⟩∧v5=.string ⟨#[c0,c1]⟩∧Hid (wx.heap[w.heap.size]?=some (.cells #[.int .i64 0,.string ⟨#[]⟩,.int .i64 0,.int .i64 0] 59 (0,0))∧wx.heap[w.heap.size+1]?=some (.cells #[.int .i64 b,.string ⟨#[]⟩,.int .i64 0,.int .i64 0] 59 (0,0))∧Bw w wx))
 case first =>
  cases hex
  ·obtain rfl:S=L:=hS.out;obtain rfl:b=10:=hb.out;obtain rfl:c0=101:=hc0.out;obtain rfl:c1=69:=hc1.out
   go_wp2
   go_meet
   exact⟨rfl,rfl,H0⟩
  ·obtain rfl:S=L.drop 2:=hS.out;obtain rfl:b=16:=hb.out;obtain rfl:c0=112:=hc0.out;obtain rfl:c1=80:=hc1.out;have hl2:(2:Int)≤(L.length:Int):=by have:=hp.out rfl;omega
   have ed:=qJ0 L 2;obtain⟨⟨e0,e1,e2,e3⟩,q0,q1,q2,q3⟩:=qJ2 H0.out.2.1;clear k3 hL
   go_upto_region 3 with fail
   go_region
   all_goals go_wp2
   go_meet
   have a:=H0.out;exact⟨rfl,rfl,⟨(qY5 _ _ _ _ _ (by omega)).trans a.1,yD1 a.2.1 _,((a.2.2.setCell (by show w.heap.size≤w.heap.size+1;omega) _)).drew⟩⟩
 case rest =>
 obtain⟨rfl,rfl,H1⟩:=hcut;clear H0 hsz hc0 hc1;have kk:=k3.out;clear k3
 go_wp2_with fail;refine(kk _).mono ?_
 rintro r w2 ⟨v,rfl,hv,hb2⟩;have H2:Hid ((w2.heap[w.heap.size]?=some (.cells #[.int .i64 0,.string ⟨#[]⟩,.int .i64 0,.int .i64 0] 59 (0,0))∧w2.heap[w.heap.size+1]?=some (.cells #[.int .i64 b,.string ⟨#[]⟩,.int .i64 0,.int .i64 0] 59 (0,0))∧Bw w w2)∧IxA S [c0,c1] v):=⟨⟨qQ H1.out.1 hb2 (qQ6 H1.out.1),qQ H1.out.2.1 hb2 (qQ6 H1.out.2.1),H1.out.2.2.trans (hb2.mono H1.out.2.2.size)⟩,hv⟩;have HV:Hid (v = -1∨∃ i,i<S.length∧v=(i:Int)):=(hv.2.elim .inl fun⟨i,a,b',_⟩=>.inr ⟨i,a,b'⟩:v = -1∨∃ i,i<S.length∧v=(i:Int));clear kk hb2 H1 hv;have hSL:S.length≤1048576:=by rw[hS.out];split <;> (try rw[List.length_drop]) <;> omega
 have hszS:(⟨S.toArray⟩:ByteArray).size=S.length:=rfl
 go_upto_region 6 with fail
 go_upto_if 25 with fail
 go_cut [0,6] from 26 to 41 (fun v0 v6 wx=>∃ (D:List UInt8) (x:Int) (o:Bool),v0=.string ⟨D.toArray⟩∧v6=.bool o∧D.length≤1048576∧Hid (((wx.heap[w.heap.size]?=some (.cells #[.int .i64 0,.string ⟨#[]⟩,.int .i64 0,.int .i64 0] 59 (0,0))∧wx.heap[w.heap.size+1]?=some (.cells #[.int .i64 b,.string ⟨#[]⟩,.int .i64 0,.int .i64 x] 59 (0,0))∧Bw w wx)∧IxA S [c0,c1] v)∧PP v b (cA D++cB D) (cB D).length x (o&&dG (cA D++cB D))))
 case first =>
  rcases HV.out with rfl|⟨i,hi,rfl⟩
  ·obtain⟨⟨e0,e1,e2,e3⟩,-⟩:=qJ2 H2.out.1.2.1;obtain⟨⟨z0,z1,z2,z3⟩,y0,y1,y2,y3⟩:=qJ2 H2.out.1.1;cases hex
   ·have H3:=hP3.out rfl;obtain rfl:b=10:=hb.out;clear hP1 hP2 hP3 k4 k5 k6;have HH3:Hid _:=H3;clear H3
    go_wp2
    go_meet
    exact⟨S,0,true,rfl,rfl,hSL,⟨H2.out,by rw[Bool.true_and];exact HH3.out⟩⟩
   ·have HH3:Hid _:=hP2.out rfl;obtain rfl:b=16:=hb.out;clear hP1 hP2 hP3 k4 k5 k6
    go_wp2;have a:=H2.out;refine xW9 (qQ4 rfl _ _ w.heap.size 59 #[.int .i64 0,.string ⟨#[]⟩,.int .i64 0,.int .i64 0] (0,0) _ rfl (yV8 a.1.1 _ _ _ _) Tryz.underlying59 rfl (by kernel_rfl)) rfl ?_
    exact⟨-1,0,[],0,0,false,rfl,a.2,HH3.out,(((a.1.2.2.setCell (xL0 _) _).setCell (xL0 _) _).setCell (xL0 _) _).setCell (xL0 _) _⟩
  ·obtain⟨⟨e0,e1,e2,e3⟩,f0,f1,f2,f3⟩:=qJ2 H2.out.1.2.1;have hge:(0:Int)≤(i:Int):=by omega
   have hw1:IntKind.i64.wrap ((i:Int)+1)=(i:Int)+1:=by rw[xW6];omega
   have hle1:(i:Int)+1≤(S.length:Int):=by omega
   have hle2:(i:Int)≤(S.length:Int):=by omega
   have et:=qJ4 S i;have ed:=qJ0 S (i+1);have kk:=k4.out w2 i hi;have HH3:Hid _:=hP1.out i hi;have HI:Hid (i<S.length):=hi;clear hP1 hP2 hP3 k4 k5 k6 hi HV;generalize xE (S.drop (i+1))=x at *;generalize oE (S.drop (i+1))=o at *
   go_wp2_with fail;refine kk.mono ?_;rintro r w3 ⟨rfl,hb3⟩;have H3:Hid ((w3.heap[w.heap.size]?=some (.cells #[.int .i64 0,.string ⟨#[]⟩,.int .i64 0,.int .i64 0] 59 (0,0))∧w3.heap[w.heap.size+1]?=some (.cells #[.int .i64 b,.string ⟨#[]⟩,.int .i64 0,.int .i64 0] 59 (0,0))∧Bw w w3)∧IxA S [c0,c1] (i:Int)):=⟨⟨qQ H2.out.1.1 hb3 (qQ6 H2.out.1.1),qQ H2.out.1.2.1 hb3 (qQ6 H2.out.1.2.1),H2.out.1.2.2.trans (hb3.mono H2.out.1.2.2.size)⟩,H2.out.2⟩;clear kk hb3 H2 e0 e1 e2 e3 f0 f1 f2 f3;obtain⟨⟨e0,e1,e2,e3⟩,f0,f1,f2,f3⟩:=qJ2 H3.out.1.2.1
   go_wp2
   go_meet
   have a:=H3.out;exact⟨S.take i,x,o,rfl,rfl,by rw[List.length_take];omega,⟨⟨⟨(qY5 _ _ _ _ _ (by omega)).trans a.1.1,yP9 a.1.2.1 _,a.1.2.2.setCell (by show w.heap.size≤w.heap.size+1;omega) _⟩,a.2⟩,HH3.out⟩⟩
 case rest =>
 obtain⟨D,x,o,rfl,rfl,hDL,H3⟩:=hcut;have kk:=k5.out;clear H2 hP1 hP2 hP3 k4 k5 HV hszS hSL
 go_wp2_with fail;refine(kk _ D hDL).mono ?_
 rintro r w4 ⟨bb,rfl,hb4⟩;have H4:Hid (((w4.heap[w.heap.size]?=some (.cells #[.int .i64 0,.string ⟨#[]⟩,.int .i64 0,.int .i64 0] 59 (0,0))∧w4.heap[w.heap.size+1]?=some (.cells #[.int .i64 b,.string ⟨#[]⟩,.int .i64 0,.int .i64 x] 59 (0,0))∧Bw w w4)∧IxA S [c0,c1] v)∧PP v b (cA D++cB D) (cB D).length x (o&&dG (cA D++cB D))):=⟨⟨⟨qQ H3.out.1.1.1 hb4 (qQ6 H3.out.1.1.1),qQ H3.out.1.1.2.1 hb4 (qQ6 H3.out.1.1.2.1),H3.out.1.1.2.2.trans (hb4.mono H3.out.1.1.2.2.size)⟩,H3.out.1.2⟩,H3.out.2⟩;clear kk hb4 H3;obtain⟨dd,hdd⟩:∃ dd,dd=cA D++cB D:=⟨_,rfl⟩;obtain⟨hh,hhh⟩:∃ hh,hh=(cB D).length:=⟨_,rfl⟩;have hcc:=hcutL.out D;have hc1':(⟨(cA D).toArray⟩:ByteArray).size+(⟨(cB D).toArray⟩:ByteArray).size≤9223372036854775807:=by rw[bsz,bsz];omega
 have hc2':(⟨(cA D).toArray⟩:ByteArray)++⟨(cB D).toArray⟩=⟨dd.toArray⟩:=by rw[qY3,hdd]
 have hc3':(⟨(cB D).toArray⟩:ByteArray).size=hh:=by rw[hhh];rfl
 have hddL:dd.length≤1048576:=by rw[hdd,xE0];omega
 have kD:=fun W=>k6.out W dd hddL;have H4':Hid (((w4.heap[w.heap.size]?=some (.cells #[.int .i64 0,.string ⟨#[]⟩,.int .i64 0,.int .i64 0] 59 (0,0))∧w4.heap[w.heap.size+1]?=some (.cells #[.int .i64 b,.string ⟨#[]⟩,.int .i64 0,.int .i64 x] 59 (0,0))∧Bw w w4)∧IxA S [c0,c1] v)∧PP v b dd (hh:Nat) x (o&&dG dd)):=by rw[hdd,hhh];exact H4
 clear k6 H4 hcc hdd hhh hcutL;generalize dG dd=gd at *;generalize hA9:cA D=A9 at *;generalize hB9:cB D=B9 at *;obtain⟨⟨e0,e1,e2,e3⟩,f0,f1,f2,f3⟩:=qJ2 H4'.out.1.1.2.1;obtain⟨W5,hW5⟩:∃ W5,W5=(w4.setCell ⟨w.heap.size+1,1,none⟩ (.string ⟨dd.toArray⟩)).setCell ⟨w.heap.size+1,2,none⟩ (.int .i64 (hh:Nat)):=⟨_,rfl⟩;have H5:Hid (((W5.heap[w.heap.size]?=some (.cells #[.int .i64 0,.string ⟨#[]⟩,.int .i64 0,.int .i64 0] 59 (0,0))∧W5.heap[w.heap.size+1]?=some (.cells #[.int .i64 b,.string ⟨dd.toArray⟩,.int .i64 (hh:Nat),.int .i64 x] 59 (0,0))∧Bw w W5)∧IxA S [c0,c1] v)∧PP v b dd (hh:Nat) x (o&&gd)):=(by
  have a:=H4'.out;rw[hW5];exact⟨⟨⟨(qY5 _ _ _ _ _ (by omega)).trans ((qY5 _ _ _ _ _ (by omega)).trans a.1.1.1),yD (yD0 a.1.1.2.1 _) _,(a.1.1.2.2.setCell (by show w.heap.size≤w.heap.size+1;omega) _).setCell (by show w.heap.size≤w.heap.size+1;omega) _⟩,a.1.2⟩,a.2⟩:_∧_)
 clear H4'
 go_upto_region 13 with fail;rw[←hW5];clear hW5 hc1' hc2' hc3' e0 e1 e2 e3 f0 f1 f2 f3;obtain⟨⟨⟨m0,m1,hBW⟩,hIx⟩,hPP⟩:=H5.out;cases o
 ·refine qE9 qX7 [0,1,2,3,4,5,6,7,8,10] [9] [55,56,57,58,59,60,61,62,63,3] [[],[],[1],[2],[3,2],[2],[5,2],[4,6,2],[2,7],[8]] [[0]] [0] (fun _=>2) (fun _=>w.heap.size) w.heap.size 59 (fun _=>True) 4 W5 _ [isV (.agg #[.int .i64 b,.string ⟨dd.toArray⟩,.int .i64 (hh:Nat),.int .i64 x]),isV (.bool false),isV (.bool false),isV (undef),isV (undef),isV (undef),isV (undef),isV (undef),isV (.bool false),isV (.bool false)] (by kernel_rfl) ⟨qQ2 _,qQ2 _,qQ2 _,qQ2 _,qQ2 _,qQ2 _,qQ2 _,qQ2 _,qQ2 _,qQ2 _,trivial⟩ ⟨fun _ _ _ _ _ _ _ h=>h,fun _ _ _ _ _ _ _ h=>h,fun _ _ _ _ _ _ _ h=>h,fun _ _ _ _ _ _ _ h=>h,fun _ _ _ _ _ _ _ h=>h,fun _ _ _ _ _ _ _ h=>h,fun _ _ _ _ _ _ _ h=>h,fun _ _ _ _ _ _ _ h=>h,fun _ _ _ _ _ _ _ h=>h,fun _ _ _ _ _ _ _ h=>h,trivial⟩ (by show ∀ s ∈ [55,56,57,58,59,60,61,62,63,3],s<64;decide) ?_ ?_ (by kernel_rfl) ?_ ?_ ?_ (fun k k' h h' _=>by have h1:k<1:=h;have h2:k'<1:=h';omega) hBW.size ?_
  ·intro i hi V u h;obtain rfl:i=0:=Nat.lt_one_iff.1 hi;obtain rfl:u=_:=h;exact⟨_,rfl,rfl,trivial,xH8 rfl rfl rfl rfl⟩
  ·intro j hj o ho act V hK hoth hdep hrd;have hj':j<10:=hj;have hbx:V.heap[w.heap.size+1]?=_:=(hK.keep (w.heap.size+1) (qQ6 m1) (fun k _=>by omega)).trans m1
   obtain⟨⟨c0',c1',c2',c3'⟩,-⟩:=qJ2 hbx;have t4':act.tmps[(4:Nat)]?=some (Value.pointer (some ⟨w.heap.size+1,0,none⟩)):=(hoth 4 (by decide)).trans rfl
   have t6':act.tmps[(6:Nat)]?=some (Value.bool false):=(hoth 6 (by decide)).trans rfl
   rcases(by omega:j=0∨j=1∨j=2∨j=3∨j=4∨j=5∨j=6∨j=7∨j=8∨j=9)with rfl|rfl|rfl|rfl|rfl|rfl|rfl|rfl|rfl|rfl
   ·obtain rfl:=xL2 ho;exact .inl ⟨rfl,(qZ7 (w':=V) (by simp[execOp,Act.eval,t4',c0',c1',c2',c3',go_sem]) ⟨_,rfl,rfl,xL1 _ _⟩)⟩
   ·obtain rfl:=xL2 ho;exact .inl ⟨rfl,qZ5 rfl t6' ⟨_,rfl,rfl,xL1 _ _⟩⟩
   ·obtain rfl:=xL2 ho;have y1:act.tmps[(56:Nat)]?=_:=dV (hdep 1 (by simp[dL])) rfl
    exact .inl ⟨rfl,qZ5 rfl y1 ⟨_,rfl,rfl,xL1 _ _⟩⟩
   ·obtain rfl:=xL2 ho;have y2:act.tmps[(57:Nat)]?=_:=dV (hdep 2 (by simp[dL])) rfl
    exact .inr (qH7 rfl rfl rfl rfl y2 (by decide) ⟨_,rfl,rfl,xL1 _ _⟩)
   ·obtain rfl:=xL2 ho;have y2:act.tmps[(57:Nat)]?=_:=dV (hdep 2 (by simp[dL])) rfl
    exact .inr (qH7 rfl rfl rfl rfl y2 (by decide) ⟨_,rfl,rfl,xL1 _ _⟩)
   ·obtain rfl:=xL2 ho;have y2:act.tmps[(57:Nat)]?=_:=dV (hdep 2 (by simp[dL])) rfl
    exact .inr (qH7 rfl rfl rfl rfl y2 (by decide) ⟨_,rfl,rfl,xL1 _ _⟩)
   ·obtain rfl:=xL2 ho;have y2:act.tmps[(57:Nat)]?=_:=dV (hdep 2 (by simp[dL])) rfl
    exact .inr (qH7 rfl rfl rfl rfl y2 (by decide) ⟨_,rfl,rfl,xL1 _ _⟩)
   ·obtain rfl:=xL2 ho;have y2:act.tmps[(57:Nat)]?=_:=dV (hdep 2 (by simp[dL])) rfl
    exact .inr (qH7 rfl rfl rfl rfl y2 (by decide) ⟨_,rfl,rfl,xL1 _ _⟩)
   ·obtain rfl:=xL2 ho;have y2:act.tmps[(57:Nat)]?=_:=dV (hdep 2 (by simp[dL])) rfl
    have y7:act.tmps[(62:Nat)]?=_:=dV (hdep 7 (by simp[dL])) rfl
    exact .inl ⟨rfl,(qZ7 (w':=V) (by simp[execOp,Act.eval,y2,y7,go_sem]) ⟨_,rfl,rfl,xL1 _ _⟩)⟩
   ·obtain rfl:=xL2 ho;have y8:act.tmps[(63:Nat)]?=_:=dV (hdep 8 (by simp[dL])) rfl
    exact .inl ⟨rfl,qX3 rfl y8 ⟨_,rfl,rfl,xL1 _ _⟩⟩
  ·intro k hk;obtain rfl:k=0:=Nat.lt_one_iff.1 hk;exact⟨_,rfl,rfl⟩
  ·intro k hk;exact⟨rfl,by decide⟩
  ·intro k hk;exact⟨xL0 _,_,m0,rfl,trivial⟩
  ·intro u V hK hu hcs;obtain⟨cs,y0,z0⟩:=hcs 0 (by decide)
   have u0:u 0=.agg #[.int .i64 b,.string ⟨dd.toArray⟩,.int .i64 (hh:Nat),.int .i64 x]:=hu 0 (by decide)
   have u9:u 9=.bool false:=hu 9 (by decide)
   have y0':u 0=.agg cs:=y0;rw[u0] at y0';obtain rfl:=Value.agg.inj y0';have HZ:Hid (V.heap[w.heap.size]?=some (.cells #[.int .i64 b,.string ⟨dd.toArray⟩,.int .i64 (hh:Nat),.int .i64 x] 59 (0,0))∧Bw w V):=⟨z0,hBW.trans hK.below⟩;clear hcs hK y0 y0' z0 hu;simp only[putL,show List.range 10 = [0,1,2,3,4,5,6,7,8,9] from rfl,List.length_cons,List.length_nil,List.getD_cons_zero,List.getD_cons_succ,List.map_cons,List.map_nil,List.cons_append,List.nil_append,List.foldl_cons,List.foldl_nil,Nat.reduceLT,Nat.reduceMod,Nat.reduceDiv,Nat.reduceMul,Nat.reduceAdd,Nat.reduceEqDiff,reduceIte,Nat.one_ne_zero,Act.put,List.setIfInBounds_toArray,List.set_cons_zero,List.set_cons_succ];rw[u9];clear u9 u0
   go_wp2;refine xW9 (qQ4 rfl _ _ w.heap.size 59 #[.int .i64 b,.string ⟨dd.toArray⟩,.int .i64 (hh:Nat),.int .i64 x] (0,0) _ rfl HZ.out.1 Tryz.underlying59 rfl (by kernel_rfl)) rfl ?_
   exact⟨v,b,dd,hh,x,false,rfl,hIx,hPP,HZ.out.2⟩
 ·refine qE9 qX7 [0,1,2,3,4,5,6,7,8,10] [9] [55,56,57,58,59,60,61,62,63,3] [[],[],[1],[2],[3,2],[2],[5,2],[4,6,2],[2,7],[8]] [[0]] [0] (fun _=>2) (fun _=>w.heap.size) w.heap.size 59 (fun _=>True) 4 W5 _ [isV (.agg #[.int .i64 b,.string ⟨dd.toArray⟩,.int .i64 (hh:Nat),.int .i64 x]),isV (.bool true),isV (.bool true),isV (.pointer (some ⟨w.heap.size+1,1,none⟩)),isV (.string ⟨dd.toArray⟩),isV (.pointer (some ⟨w.heap.size+1,0,none⟩)),isV (.int .i64 b),isV (.bool gd),isV (.bool gd),isV (.bool gd)] (by kernel_rfl) ⟨qQ2 _,qQ2 _,qQ2 _,qQ2 _,qQ2 _,qQ2 _,qQ2 _,qQ2 _,qQ2 _,qQ2 _,trivial⟩ ⟨fun _ _ _ _ _ _ _ h=>h,fun _ _ _ _ _ _ _ h=>h,fun _ _ _ _ _ _ _ h=>h,fun _ _ _ _ _ _ _ h=>h,fun _ _ _ _ _ _ _ h=>h,fun _ _ _ _ _ _ _ h=>h,fun _ _ _ _ _ _ _ h=>h,fun _ _ _ _ _ _ _ h=>h,fun _ _ _ _ _ _ _ h=>h,fun _ _ _ _ _ _ _ h=>h,trivial⟩ (by show ∀ s ∈ [55,56,57,58,59,60,61,62,63,3],s<64;decide) ?_ ?_ (by kernel_rfl) ?_ ?_ ?_ (fun k k' h h' _=>by have h1:k<1:=h;have h2:k'<1:=h';omega) hBW.size ?_
  ·intro i hi V u h;obtain rfl:i=0:=Nat.lt_one_iff.1 hi;obtain rfl:u=_:=h;exact⟨_,rfl,rfl,trivial,xH8 rfl rfl rfl rfl⟩
  ·intro j hj o ho act V hK hoth hdep hrd;have hj':j<10:=hj;have hbx:V.heap[w.heap.size+1]?=_:=(hK.keep (w.heap.size+1) (qQ6 m1) (fun k _=>by omega)).trans m1
   obtain⟨⟨c0',c1',c2',c3'⟩,-⟩:=qJ2 hbx;have t4':act.tmps[(4:Nat)]?=some (Value.pointer (some ⟨w.heap.size+1,0,none⟩)):=(hoth 4 (by decide)).trans rfl
   have t6':act.tmps[(6:Nat)]?=some (Value.bool true):=(hoth 6 (by decide)).trans rfl
   rcases(by omega:j=0∨j=1∨j=2∨j=3∨j=4∨j=5∨j=6∨j=7∨j=8∨j=9)with rfl|rfl|rfl|rfl|rfl|rfl|rfl|rfl|rfl|rfl
   ·obtain rfl:=xL2 ho;exact .inl ⟨rfl,(qZ7 (w':=V) (by simp[execOp,Act.eval,t4',c0',c1',c2',c3',go_sem]) ⟨_,rfl,rfl,xL1 _ _⟩)⟩
   ·obtain rfl:=xL2 ho;exact .inl ⟨rfl,qZ5 rfl t6' ⟨_,rfl,rfl,xL1 _ _⟩⟩
   ·obtain rfl:=xL2 ho;have y1:act.tmps[(56:Nat)]?=_:=dV (hdep 1 (by simp[dL])) rfl
    exact .inl ⟨rfl,qZ5 rfl y1 ⟨_,rfl,rfl,xL1 _ _⟩⟩
   ·obtain rfl:=xL2 ho;have y2:act.tmps[(57:Nat)]?=_:=dV (hdep 2 (by simp[dL])) rfl
    exact .inr (qH6 rfl rfl rfl rfl y2 (qZ7 (w':=V) (by simp[execOp,Act.eval,t4',go_sem]) ⟨_,rfl,rfl,xL1 _ _⟩))
   ·obtain rfl:=xL2 ho;have y2:act.tmps[(57:Nat)]?=_:=dV (hdep 2 (by simp[dL])) rfl
    have y3:act.tmps[(58:Nat)]?=_:=dV (hdep 3 (by simp[dL])) rfl
    exact .inr (qH6 rfl rfl rfl rfl y2 (qZ7 (w':=V) (by simp[execOp,Act.eval,y3,c1',go_sem]) ⟨_,rfl,rfl,xL1 _ _⟩))
   ·obtain rfl:=xL2 ho;have y2:act.tmps[(57:Nat)]?=_:=dV (hdep 2 (by simp[dL])) rfl
    exact .inr (qH6 rfl rfl rfl rfl y2 (qZ7 (w':=V) (by simp[execOp,Act.eval,t4',go_sem]) ⟨_,rfl,rfl,xL1 _ _⟩))
   ·obtain rfl:=xL2 ho;have y2:act.tmps[(57:Nat)]?=_:=dV (hdep 2 (by simp[dL])) rfl
    have y5:act.tmps[(60:Nat)]?=_:=dV (hdep 5 (by simp[dL])) rfl
    exact .inr (qH6 rfl rfl rfl rfl y2 (qZ7 (w':=V) (by simp[execOp,Act.eval,y5,c0',go_sem]) ⟨_,rfl,rfl,xL1 _ _⟩))
   ·obtain rfl:=xL2 ho;have y2:act.tmps[(57:Nat)]?=_:=dV (hdep 2 (by simp[dL])) rfl
    have y4:act.tmps[(59:Nat)]?=_:=dV (hdep 4 (by simp[dL])) rfl
    have y6:act.tmps[(61:Nat)]?=_:=dV (hdep 6 (by simp[dL])) rfl
    refine .inr (qH6 rfl rfl rfl rfl y2 (qZ1 rfl (qX2 Tryz.func45 (by kernel_rfl) (by kernel_rfl)) (map2 y4 y6) ?_))
    refine(kD V).mono ?_
    rintro r w' ⟨rfl,rfl⟩;exact⟨_,rfl,_,rfl,rfl,xL1 _ _⟩
   ·obtain rfl:=xL2 ho;have y2:act.tmps[(57:Nat)]?=_:=dV (hdep 2 (by simp[dL])) rfl
    have y7:act.tmps[(62:Nat)]?=_:=dV (hdep 7 (by simp[dL])) rfl
    exact .inl ⟨rfl,(qZ7 (w':=V) (by simp[execOp,Act.eval,y2,y7,go_sem]) ⟨_,rfl,rfl,xL1 _ _⟩)⟩
   ·obtain rfl:=xL2 ho;have y8:act.tmps[(63:Nat)]?=_:=dV (hdep 8 (by simp[dL])) rfl
    exact .inl ⟨rfl,qX3 rfl y8 ⟨_,rfl,rfl,xL1 _ _⟩⟩
  ·intro k hk;obtain rfl:k=0:=Nat.lt_one_iff.1 hk;exact⟨_,rfl,rfl⟩
  ·intro k hk;exact⟨rfl,by decide⟩
  ·intro k hk;exact⟨xL0 _,_,m0,rfl,trivial⟩
  ·intro u V hK hu hcs;obtain⟨cs,y0,z0⟩:=hcs 0 (by decide)
   have u0:u 0=.agg #[.int .i64 b,.string ⟨dd.toArray⟩,.int .i64 (hh:Nat),.int .i64 x]:=hu 0 (by decide)
   have u9:u 9=.bool gd:=hu 9 (by decide)
   have y0':u 0=.agg cs:=y0;rw[u0] at y0';obtain rfl:=Value.agg.inj y0';have HZ:Hid (V.heap[w.heap.size]?=some (.cells #[.int .i64 b,.string ⟨dd.toArray⟩,.int .i64 (hh:Nat),.int .i64 x] 59 (0,0))∧Bw w V):=⟨z0,hBW.trans hK.below⟩;clear hcs hK y0 y0' z0 hu;simp only[putL,show List.range 10 = [0,1,2,3,4,5,6,7,8,9] from rfl,List.length_cons,List.length_nil,List.getD_cons_zero,List.getD_cons_succ,List.map_cons,List.map_nil,List.cons_append,List.nil_append,List.foldl_cons,List.foldl_nil,Nat.reduceLT,Nat.reduceMod,Nat.reduceDiv,Nat.reduceMul,Nat.reduceAdd,Nat.reduceEqDiff,reduceIte,Nat.one_ne_zero,Act.put,List.setIfInBounds_toArray,List.set_cons_zero,List.set_cons_succ];rw[u9];clear u9 u0
   go_wp2;refine xW9 (qQ4 rfl _ _ w.heap.size 59 #[.int .i64 b,.string ⟨dd.toArray⟩,.int .i64 (hh:Nat),.int .i64 x] (0,0) _ rfl HZ.out.1 Tryz.underlying59 rfl (by kernel_rfl)) rfl ?_
   exact⟨v,b,dd,hh,x,gd,rfl,hIx,hPP,HZ.out.2⟩
end Go.Proofs.YtbanebginnakhaaGreatDoor
namespace Go.Proofs.YtbanebginnakhaaGreatDoor
open Go.RowKit Go.Fl64
theorem zS8 (b h e m:Int) (d:ByteArray) (neg:Bool) (tw:Bool×Nat×Int) (f:Nat) (w:World)
  (k1:Hid (∀ W,Bw w W→Calls Tryz.prog 46 #[.agg #[.int .i64 b,.string d,.int .i64 h,.int .i64 e]] W fun r w'=>OutA W tw r w'))
  (k2:Hid (∀ W X,Bw w W→PN W X tw→Calls Tryz.prog 47 #[X] W fun r w'=>r=.returned (.int .i64 0)∧Bw W w'))
  (k3:Hid (∀ W,Bw w W→Calls Tryz.prog 48 #[.bool neg,.int .u64 0,.int .i64 0,.int .i64 m] W fun r w'=>r=.returned (.float .f64 f)∧Bw W w')) :
  Calls Tryz.prog 27 #[.agg #[.int .i64 b,.string d,.int .i64 h,.int .i64 e],.bool neg,.int .i64 m] w fun r w'=>r=.returned (.float .f64 f)∧Bw w w':=by
 obtain⟨W,hW⟩:∃ W,W=w.alloc (.cells #[.int .i64 b,.string d,.int .i64 h,.int .i64 e] 59):=⟨_,rfl⟩;have m1:W.heap[w.heap.size]?=some (.cells #[.int .i64 b,.string d,.int .i64 h,.int .i64 e] 59 (0,0)):=by rw[hW];exact xW8 _ _
 have m4:Bw w W:=by rw[hW];exact(xL1 _ _).alloc (xL0 _) _
 obtain⟨c0,c1,c2,c3⟩:=qU m1;have HC:Hid (W.heap[w.heap.size]?=some (.cells #[.int .i64 b,.string d,.int .i64 h,.int .i64 e] 59 (0,0))∧Bw w W):=⟨m1,m4⟩;have kk:=k1.out W m4;clear m1 m4 k1
 go_enter Tryz.func27,Tryz.ntmps27
 go_upto_region 1 with fail;rw[←hW];clear hW
 go_wp2_with fail;refine kk.mono ?_;rintro r w1 ⟨s1,ao1,n1,cp1,e1,rfl,hA,hb1⟩;clear kk c0 c1 c2 c3;obtain⟨W1,hW1⟩:∃ W1,W1=w1.alloc (.cells #[.bool s1,.slice ao1 n1 cp1,.int .i64 e1] 84):=⟨_,rfl⟩;have hbV:Bw w1 W1:=by rw[hW1];exact(xL1 _ _).alloc (xL0 _) _
 have n6:W1.heap[w1.heap.size]?=some (.cells #[.bool s1,.slice ao1 n1 cp1,.int .i64 e1] 84 (0,0)):=by rw[hW1];exact xW8 _ _
 go_upto_region 2 with fail;rw[←hW1];clear hW1;have hA':=hA.later hbV;have hb1':Bw W W1:=hb1.trans (hbV.mono hb1.size);have hlt:w.heap.size<w1.heap.size:=xL8 (qQ6 HC.out.1) hb1.size;clear hbV hA hb1;generalize w1.heap.size=gqA at *;have H1:Hid (W1.heap[w.heap.size]?=some (.cells #[.int .i64 b,.string d,.int .i64 h,.int .i64 e] 59 (0,0))∧PBx W1 gqA s1 ao1 n1 cp1 e1 tw∧Bw w W1∧w.heap.size<gqA):=⟨qQ HC.out.1 hb1' (qQ6 HC.out.1),⟨n6,hA'⟩,HC.out.2.trans (hb1'.mono HC.out.2.size),hlt⟩;obtain⟨⟨c0,c1,c2⟩,-⟩:=qQ1 H1.out.2.1.1;have kk:=k2.out W1 _ H1.out.2.2.1 hA';clear k2 n6 hA' hb1' hlt HC
 go_wp2_with fail;refine kk.mono ?_;rintro r w2 ⟨rfl,hb2⟩;have H2:Hid (w2.heap[w.heap.size]?=some (.cells #[.int .i64 b,.string d,.int .i64 h,.int .i64 e] 59 (0,0))∧PBx w2 gqA s1 ao1 n1 cp1 e1 tw∧Bw w w2∧w.heap.size<gqA):=⟨qQ H1.out.1 hb2 (qQ6 H1.out.1),H1.out.2.1.later hb2,H1.out.2.2.1.trans (hb2.mono H1.out.2.2.1.size),H1.out.2.2.2⟩;have kk3:=k3.out w2 H2.out.2.2.1;have HB:Hid (Bw w w2):=H2.out.2.2.1;clear kk hb2 H1 H2 c0 c1 c2 k3
 go_wp2_with fail;refine kk3.mono ?_;rintro r w3 ⟨rfl,hb3⟩;have HB3:Hid (Bw w w3):=HB.out.trans (hb3.mono HB.out.size);clear kk3 hb3 HB
 go_wp2
 go_ret;exact⟨rfl,HB3.out⟩
theorem zR2 (s:List UInt8) (m:Int) (w:World) (k0:∀ W,Calls Tryz.prog 24 #[.int .i64 m] W fun r w'=>r=.returned (.bool false)∧w'=W) :
  Calls Tryz.prog 10 #[.string ⟨s.toArray⟩,.int .i64 m] w fun r w'=>r=.returned (.tuple #[.float .f64 0,.int .i64 1])∧Bw w w':=by
 go_enter Tryz.func10,Tryz.ntmps10
 go_wp2_with (first|(go_at_call 24;refine(k0 _).mono ?_;rintro r w' ⟨rfl,rfl⟩))
 refine xW9 (xE3 rfl _ _ _) rfl ?_;exact⟨rfl,xL1 _ _⟩
theorem zR3 (s:List UInt8) (m:Int) (w:World) (hL:1048576<s.length) (k0:∀ W,Calls Tryz.prog 24 #[.int .i64 m] W fun r w'=>r=.returned (.bool true)∧w'=W) :
  Calls Tryz.prog 10 #[.string ⟨s.toArray⟩,.int .i64 m] w fun r w'=>r=.returned (.tuple #[.float .f64 0,.int .i64 2])∧Bw w w':=by
 have hsz:(⟨s.toArray⟩:ByteArray).size=s.length:=rfl;have hlen:(1048576:Int)<(s.length:Int):=by omega
 go_enter Tryz.func10,Tryz.ntmps10
 go_wp2_with (first|(go_at_call 24;refine(k0 _).mono ?_;rintro r w' ⟨rfl,rfl⟩))
 refine xW9 (xE3 rfl _ _ _) rfl ?_;exact⟨rfl,xL1 _ _⟩
theorem yJ6 (s D:List UInt8) (m sg:Int) (f:Nat) (w:World) (hL:s.length≤1048576) (k0:∀ W,Calls Tryz.prog 24 #[.int .i64 m] W fun r w'=>r=.returned (.bool true)∧w'=W) (kC:∀ W,Calls Tryz.prog 25 #[.string ⟨s.toArray⟩] W fun r w'=>r=.returned (.tuple #[.int .i64 sg,.string ⟨D.toArray⟩])∧Bw W w') (hD:D = [105,110,102])
  (kI:∀ W,Calls Tryz.prog 19 #[.int .i64 sg] W fun r w'=>r=.returned (.float .f64 f)∧w'=W) :
  Calls Tryz.prog 10 #[.string ⟨s.toArray⟩,.int .i64 m] w fun r w'=>r=.returned (.tuple #[.float .f64 f,.int .i64 0])∧Bw w w':=by
 subst hD;have hsz:(⟨s.toArray⟩:ByteArray).size=s.length:=rfl;have hlen:¬ (1048576:Int)<(s.length:Int):=by omega
 go_enter Tryz.func10,Tryz.ntmps10
 go_wp2_with (first|(go_at_call 24;refine(k0 _).mono ?_;rintro r w' ⟨rfl,rfl⟩)|(go_at_call 25;refine(kC _).mono ?_;rintro r w1 ⟨rfl,hb1⟩)|(go_at_call 19;refine(kI _).mono ?_;rintro r w' ⟨rfl,rfl⟩))
 refine xW9 (xE3 rfl _ _ _) rfl ?_;exact⟨rfl,hb1⟩
theorem yJ5 (s D:List UInt8) (m sg:Int) (f:Nat) (w:World) (hL:s.length≤1048576) (k0:∀ W,Calls Tryz.prog 24 #[.int .i64 m] W fun r w'=>r=.returned (.bool true)∧w'=W) (kC:∀ W,Calls Tryz.prog 25 #[.string ⟨s.toArray⟩] W fun r w'=>r=.returned (.tuple #[.int .i64 sg,.string ⟨D.toArray⟩])∧Bw W w') (hD:D = [110,97,110])
  (kI:∀ W,Calls Tryz.prog 20 #[] W fun r w'=>r=.returned (.float .f64 f)∧w'=W) :
  Calls Tryz.prog 10 #[.string ⟨s.toArray⟩,.int .i64 m] w fun r w'=>r=.returned (.tuple #[.float .f64 f,.int .i64 0])∧Bw w w':=by
 subst hD;have hsz:(⟨s.toArray⟩:ByteArray).size=s.length:=rfl;have hlen:¬ (1048576:Int)<(s.length:Int):=by omega
 go_enter Tryz.func10,Tryz.ntmps10
 go_wp2_with (first|(go_at_call 24;refine(k0 _).mono ?_;rintro r w' ⟨rfl,rfl⟩)|(go_at_call 25;refine(kC _).mono ?_;rintro r w1 ⟨rfl,hb1⟩)|(go_at_call 20;refine(kI _).mono ?_;rintro r w' ⟨rfl,rfl⟩))
 refine xW9 (xE3 rfl _ _ _) rfl ?_;exact⟨rfl,hb1⟩
theorem zR4 (s D:List UInt8) (m sg:Int) (w:World) (hL:s.length≤1048576) (k0:∀ W,Calls Tryz.prog 24 #[.int .i64 m] W fun r w'=>r=.returned (.bool true)∧w'=W) (kC:∀ W,Calls Tryz.prog 25 #[.string ⟨s.toArray⟩] W fun r w'=>r=.returned (.tuple #[.int .i64 sg,.string ⟨D.toArray⟩])∧Bw W w') (hD1:(D == [105,110,102])=false) (hD2:(D == [110,97,110])=false)
  (kS:Hid (∀ W,Bw w W→Calls Tryz.prog 26 #[.string ⟨D.toArray⟩] W fun r w'=>∃ (b:Int) (d:List UInt8) (h e:Int),r=.returned (.tuple #[.agg #[.int .i64 b,.string ⟨d.toArray⟩,.int .i64 h,.int .i64 e],.bool false])∧Bw W w'))  :
  Calls Tryz.prog 10 #[.string ⟨s.toArray⟩,.int .i64 m] w fun r w'=>r=.returned (.tuple #[.float .f64 0,.int .i64 3])∧Bw w w':=by
 have hsz:(⟨s.toArray⟩:ByteArray).size=s.length:=rfl;have hlen:¬ (1048576:Int)<(s.length:Int):=by omega
 go_enter Tryz.func10,Tryz.ntmps10
 go_wp2_with (first|(go_at_call 24;refine(k0 _).mono ?_;rintro r w' ⟨rfl,rfl⟩)|(go_at_call 25;refine(kC _).mono ?_;rintro r w1 ⟨rfl,hb1⟩))
 have HB:Hid (Below _ _ w1):=hb1;have kk:=kS.out w1 hb1;clear kS hb1 kC;refine kk.mono ?_;rintro r w2 ⟨b,d,h,e,rfl,hb2⟩;clear kk;obtain⟨W2,hW2⟩:∃ W2,W2=w2.alloc (.cells #[.int .i64 b,.string ⟨d.toArray⟩,.int .i64 h,.int .i64 e] 59):=⟨_,rfl⟩;have hbV:Bw w2 W2:=by rw[hW2];exact(xL1 _ _).alloc (xL0 _) _
 have n6:W2.heap[w2.heap.size]?=some (.cells #[.int .i64 b,.string ⟨d.toArray⟩,.int .i64 h,.int .i64 e] 59 (0,0)):=by rw[hW2];exact xW8 _ _
 go_upto_region 12 with fail;rw[←hW2];clear hW2;have hb2':=HB.out.trans (hb2.mono HB.out.size);have HB2:Hid (Below _ _ W2):=hb2'.trans (hbV.mono hb2'.size);clear hbV hb2 hb2' HB;generalize w2.heap.size=gqN at *;obtain⟨c0,c1,c2,c3⟩:=qU n6;clear n6
 go_wp2;refine xW9 (xE3 rfl _ _ _) rfl ?_;exact⟨rfl,HB2.out⟩
theorem zX6 (s D d:List UInt8) (m sg b h e:Int) (w:World) (hL:s.length≤1048576) (k0:∀ W,Calls Tryz.prog 24 #[.int .i64 m] W fun r w'=>r=.returned (.bool true)∧w'=W) (kC:∀ W,Calls Tryz.prog 25 #[.string ⟨s.toArray⟩] W fun r w'=>r=.returned (.tuple #[.int .i64 sg,.string ⟨D.toArray⟩])∧Bw W w') (hD1:(D == [105,110,102])=false) (hD2:(D == [110,97,110])=false)
  (kS:Hid (∀ W,Bw w W→Calls Tryz.prog 26 #[.string ⟨D.toArray⟩] W fun r w'=>r=.returned (.tuple #[.agg #[.int .i64 b,.string ⟨d.toArray⟩,.int .i64 h,.int .i64 e],.bool true])∧Bw W w')) (hd:1100<d.length) :
  Calls Tryz.prog 10 #[.string ⟨s.toArray⟩,.int .i64 m] w fun r w'=>r=.returned (.tuple #[.float .f64 0,.int .i64 2])∧Bw w w':=by
 have hsz:(⟨s.toArray⟩:ByteArray).size=s.length:=rfl;have hlen:¬ (1048576:Int)<(s.length:Int):=by omega
 have hsd:(⟨d.toArray⟩:ByteArray).size=d.length:=rfl;have hdl:(1100:Int)<(d.length:Int):=by omega
 go_enter Tryz.func10,Tryz.ntmps10
 go_wp2_with (first|(go_at_call 24;refine(k0 _).mono ?_;rintro r w' ⟨rfl,rfl⟩)|(go_at_call 25;refine(kC _).mono ?_;rintro r w1 ⟨rfl,hb1⟩))
 have HB:Hid (Below _ _ w1):=hb1;have kk:=kS.out w1 hb1;clear kS hb1 kC;refine kk.mono ?_;rintro r w2 ⟨rfl,hb2⟩;clear kk;obtain⟨W2,hW2⟩:∃ W2,W2=w2.alloc (.cells #[.int .i64 b,.string ⟨d.toArray⟩,.int .i64 h,.int .i64 e] 59):=⟨_,rfl⟩;have hbV:Bw w2 W2:=by rw[hW2];exact(xL1 _ _).alloc (xL0 _) _
 have n6:W2.heap[w2.heap.size]?=some (.cells #[.int .i64 b,.string ⟨d.toArray⟩,.int .i64 h,.int .i64 e] 59 (0,0)):=by rw[hW2];exact xW8 _ _
 go_upto_region 12 with fail;rw[←hW2];clear hW2;have hb2':=HB.out.trans (hb2.mono HB.out.size);have HB2:Hid (Below _ _ W2):=hb2'.trans (hbV.mono hb2'.size);clear hbV hb2 hb2' HB;generalize w2.heap.size=gqN at *;obtain⟨c0,c1,c2,c3⟩:=qU n6;clear n6
 go_wp2;refine xW9 (xE3 rfl _ _ _) rfl ?_;exact⟨rfl,HB2.out⟩
theorem yM8 (s D d:List UInt8) (m sg b h e:Int) (w:World) (hL:s.length≤1048576) (k0:∀ W,Calls Tryz.prog 24 #[.int .i64 m] W fun r w'=>r=.returned (.bool true)∧w'=W) (kC:∀ W,Calls Tryz.prog 25 #[.string ⟨s.toArray⟩] W fun r w'=>r=.returned (.tuple #[.int .i64 sg,.string ⟨D.toArray⟩])∧Bw W w') (hD1:(D == [105,110,102])=false) (hD2:(D == [110,97,110])=false)
  (kS:Hid (∀ W,Bw w W→Calls Tryz.prog 26 #[.string ⟨D.toArray⟩] W fun r w'=>r=.returned (.tuple #[.agg #[.int .i64 b,.string ⟨d.toArray⟩,.int .i64 h,.int .i64 e],.bool true])∧Bw W w')) (f:Nat) (hd:d.length≤1100) (kR:Hid (∀ W,Bw w W→Calls Tryz.prog 27 #[.agg #[.int .i64 b,.string ⟨d.toArray⟩,.int .i64 h,.int .i64 e],.bool (decide (sg<0)),.int .i64 m] W fun r w'=>r=.returned (.float .f64 f)∧Bw W w')) :
  Calls Tryz.prog 10 #[.string ⟨s.toArray⟩,.int .i64 m] w fun r w'=>r=.returned (.tuple #[.float .f64 f,.int .i64 0])∧Bw w w':=by
 have hsz:(⟨s.toArray⟩:ByteArray).size=s.length:=rfl;have hlen:¬ (1048576:Int)<(s.length:Int):=by omega
 have hsd:(⟨d.toArray⟩:ByteArray).size=d.length:=rfl;have hdl:¬ (1100:Int)<(d.length:Int):=by omega
 go_enter Tryz.func10,Tryz.ntmps10
 go_wp2_with (first|(go_at_call 24;refine(k0 _).mono ?_;rintro r w' ⟨rfl,rfl⟩)|(go_at_call 25;refine(kC _).mono ?_;rintro r w1 ⟨rfl,hb1⟩))
 have HB:Hid (Below _ _ w1):=hb1;have kk:=kS.out w1 hb1;clear kS hb1 kC;refine kk.mono ?_;rintro r w2 ⟨rfl,hb2⟩;clear kk;obtain⟨W2,hW2⟩:∃ W2,W2=w2.alloc (.cells #[.int .i64 b,.string ⟨d.toArray⟩,.int .i64 h,.int .i64 e] 59):=⟨_,rfl⟩;have hbV:Bw w2 W2:=by rw[hW2];exact(xL1 _ _).alloc (xL0 _) _
 have n6:W2.heap[w2.heap.size]?=some (.cells #[.int .i64 b,.string ⟨d.toArray⟩,.int .i64 h,.int .i64 e] 59 (0,0)):=by rw[hW2];exact xW8 _ _
 go_upto_region 12 with fail;rw[←hW2];clear hW2;have hb2':=HB.out.trans (hb2.mono HB.out.size);have HB2:Hid (Below _ _ W2):=hb2'.trans (hbV.mono hb2'.size);clear hbV hb2 hb2' HB;generalize w2.heap.size=gqN at *;obtain⟨c0,c1,c2,c3⟩:=qU n6;clear n6;have kk:=kR.out W2 HB2.out;clear kR
 go_wp2_with fail;refine kk.mono ?_;rintro r w3 ⟨rfl,hb3⟩;have HB3:Hid (Below _ _ w3):=HB2.out.trans (hb3.mono HB2.out.size);clear kk hb3 HB2
 go_wp2;refine xW9 (xE3 rfl _ _ _) rfl ?_;exact⟨rfl,HB3.out⟩
end Go.Proofs.YtbanebginnakhaaGreatDoor
namespace Go.Proofs.YtbanebginnakhaaGreatDoor
open Go Go.RowKit Go.Fl64
theorem zF9 (s:List UInt8) (c:UInt8):Lib.hasPrefix s [c]=(s.head?==some c):=by
 cases s with
 | nil=>rfl
 | cons a t =>
  show([c].isPrefixOf (a :: t))=_
  by_cases h:c=a
  ·subst h;simp[List.isPrefixOf]
  ·have h1:(c==a)=false:=by rw[xC2];exact h
   have h2:(some a==some c)=false:=by rw[xC2];exact fun e=>h (xL2 e).symm
   simp[List.isPrefixOf,h1,h2]
theorem zM3 (s:List UInt8) (w:World) (hL:s.length≤2000000):Calls Tryz.prog 25 #[.string ⟨s.toArray⟩] w fun r w'=>r=.returned (.tuple #[.int .i64 (csS s),.string ⟨(csD s).toArray⟩])∧Bw w w':=by
 refine zR1 s w hL (fun W=>?_) (fun W=>?_)
 ·have h:=Tryz.strings_HasPrefix ⟨s.toArray⟩ ⟨#[45]⟩ W;rw[←zF9];exact h
 ·have h:=Tryz.strings_HasPrefix ⟨s.toArray⟩ ⟨#[43]⟩ W;rw[←zF9];exact h
theorem yZ4 (s:List UInt8):(csD s).length≤s.length:=by
 unfold csD;split
 ·rw[List.length_tail];omega
 ·exact xL0 _
def dgO (b:Int) (D:List UInt8):Bool:=qZ8 D b&&decide (D ≠ [])
def exO (E:List UInt8):Bool:=dgO 10 (csD E)
def exX (E:List UInt8):Int:=if exO E then csS E*rdE (csD E) (csD E).length else 0
theorem yM (E:List UInt8) (w:World) (hL:E.length≤1048576):Calls Tryz.prog 43 #[.string ⟨E.toArray⟩] w fun r w'=>r=.returned (.tuple #[.int .i64 (exX E),.bool (exO E)])∧Bw w w':=by
 have hl:=yZ4 E;have k1:=fun W=>zM3 E W (by omega)
 have k2:=fun W=>qE0 (csD E) 10 W (by omega)
 have hsg:csS E=1∨csS E = -1:=by unfold csS;split <;> simp
 by_cases h:exO E=true
 ·have h':(qZ8 (csD E) 10&&decide (csD E ≠ []))=true:=h;rw[h'] at k2;unfold exX;rw[if_pos h,h];exact zS9 E (csD E) (csS E) w (by omega) hsg k1 k2 ((qU1 _ _).1 (by rw[xC] at h';exact h'.1))
 ·have h0:exO E=false:=by simpa using h
  have h':(qZ8 (csD E) 10&&decide (csD E ≠ []))=false:=h0;rw[h'] at k2;unfold exX;rw[if_neg h,h0];exact zU8 E (csD E) (csS E) w k1 k2
def hexP (L:List UInt8):Bool:=Lib.hasPrefix L [48,120]||Lib.hasPrefix L [48,88]
def psS (L:List UInt8):List UInt8:=if hexP L then L.drop 2 else L
def psb (L:List UInt8):Int:=if hexP L then 16 else 10
def psM (L:List UInt8):List UInt8:=if hexP L then [112,80] else [101,69]
def psV (L:List UInt8):Int:=Lib.indexAny (psS L) (psM L)
def psD0 (L:List UInt8):List UInt8:=if 0≤psV L then(psS L).take (psV L).toNat else psS L
def psE (L:List UInt8):List UInt8:=(psS L).drop ((psV L).toNat+1)
def psD (L:List UInt8):List UInt8:=cuA (psD0 L)++cuB (psD0 L)
def psH (L:List UInt8):Nat:=(cuB (psD0 L)).length
def psX (L:List UInt8):Int:=if 0≤psV L then exX (psE L)else 0
def psOk (L:List UInt8):Bool:=(if 0≤psV L then exO (psE L)else !hexP L)&&dgO (psb L) (psD L)
theorem yH2 {c:Nat} {b:Int} (h:isDg c b=true):c<128:=by
 unfold isDg at h;simp only[Bool.or_eq_true,xC,decide_eq_true_eq] at h;omega
theorem zU1 (A B:List UInt8):asc (A++B)=(asc A&&asc B):=by unfold asc;rw[List.all_append]
theorem yT1 {b:Int} {D:List UInt8} (h:dgO b D=true):asc D=true:=by
 unfold dgO at h;rw[xC] at h;unfold qZ8 at h;unfold asc;rw[List.all_eq_true] at h ⊢;intro x hx;exact xL4 (yH2 (h.1 x hx))
theorem xB4 {L:List UInt8} {c:UInt8} {i:Nat} (h:Lib.indexByte L c=(i:Int)):∃ t,L=L.take i++c :: t∧t=L.drop (i+1):=by
 induction L generalizing i with
 | nil=>exact absurd h (by show ¬ (-1:Int)=i;omega)
 | cons b l ih =>
  unfold Lib.indexByte at h;by_cases h1:(b==c)=true
  ·rw[if_pos h1] at h;obtain rfl:i=0:=by omega
   obtain rfl:b=c:=eq_of_beq h1;exact⟨l,rfl,rfl⟩
  ·rw[if_neg h1] at h;rcases ixbD l c with h2|⟨k,h2,h3⟩
   ·rw[h2] at h;exact absurd h (by show ¬ (-1:Int)=i;omega)
   ·rw[h2,if_neg (by rw[beq_iff_eq];omega)] at h
    obtain rfl:i=k+1:=by omega
    obtain⟨t,e1,e2⟩:=ih h2;refine⟨t,?_,e2⟩
    rw[List.take_succ_cons,List.cons_append,←e1]
theorem yZ3 (T:List UInt8):(Lib.indexByte T 46 = -1∧cuA T=T∧cuB T = [])∨(T=cuA T++46 :: cuB T):=by
 rcases ixbD T 46 with h|⟨i,h,h2⟩
 ·refine .inl ⟨h,?_,?_⟩
  ·unfold cuA;rw[h,if_pos (by decide)]
  ·unfold cuB;rw[h,if_pos (by decide)]
 ·obtain⟨t,e1,e2⟩:=xB4 h;refine .inr ?_;have a:cuA T=T.take i:=by unfold cuA;rw[h,if_neg (by omega),xC9]
  have b:cuB T=T.drop (i+1):=by unfold cuB;rw[h,if_neg (by omega),xC9]
  rw[a,b,←e2];exact e1
theorem yY7 {b:Int} {T:List UInt8} (h:dgO b (cuA T++cuB T)=true):asc T=true:=by
 have h2:=yT1 h;rw[zU1,xC] at h2;rcases yZ3 T with ⟨_,e1,e2⟩|e
 ·rw[e1] at h2;exact h2.1
 ·rw[e,zU1,h2.1,Bool.true_and];show(decide ((46:UInt8).toNat<128)&&asc (cuB T))=true
  rw[h2.2];rfl
theorem xR5 {E:List UInt8} (h:exO E=true):asc E=true:=by
 have h2:=yT1 h;unfold csD at h2;by_cases hc:E.head?=some 45∨E.head?=some 43
 ·rw[if_pos hc] at h2;cases E with
  | nil=>rfl
  | cons a t =>
   have ha:a=45∨a=43:=by simpa using hc
   show(decide (a.toNat<128)&&asc t)=true
   have h3:asc t=true:=h2;rw[h3];rcases ha with rfl|rfl <;> rfl
 ·rw[if_neg hc] at h2;exact h2
theorem xR4 {b:Int} {S:List UInt8} {i:Nat} {c:UInt8} (hi:S[i]?=some c) (hc:c.toNat<128) (h1:exO (S.drop (i+1))=true) (h2:dgO b (cuA (S.take i)++cuB (S.take i))=true):asc S=true:=by
 have hl:i<S.length:=(List.getElem?_eq_some_iff.1 hi).1;have e:S=S.take i++c :: S.drop (i+1):=by
  rw[←(List.getElem?_eq_some_iff.1 hi).2,List.getElem_cons_drop,List.take_append_drop]
 rw[e,zU1,yY7 h2,Bool.true_and];show(decide (c.toNat<128)&&asc (S.drop (i+1)))=true
 rw[xR5 h1,xL4 hc];rfl
theorem zY6 {L:List UInt8} {c:UInt8} (h:(psM L).contains c=true):c.toNat<128:=by
 unfold psM at h;split at h
 ·have:c=112∨c=80:=by simpa using h
  rcases this with rfl|rfl <;> decide
 ·have:c=101∨c=69:=by simpa using h
  rcases this with rfl|rfl <;> decide
def spP (hex:Bool) (S:List UInt8) (b:Int) (v b':Int) (D:List UInt8) (h x:Int) (ok:Bool):Prop :=
 (∃ i,i<S.length∧v=(i:Int)∧b'=b∧D=cuA (S.take i)++cuB (S.take i)∧h=(cuB (S.take i)).length∧x=exX (S.drop (i+1))∧ok=(exO (S.drop (i+1))&&dgO b D))∨(v = -1∧hex=true∧ok=false)∨(v = -1∧hex=false∧b'=b∧D=cuA S++cuB S∧h=(cuB S).length∧x=0∧ok=dgO b D)
theorem xJ1 {L D:List UInt8} {b' h x:Int} {ok:Bool} (hv:spP (hexP L) (psS L) (psb L) (psV L) b' D h x ok):ok=psOk L∧(psOk L=true→b'=psb L∧D=psD L∧h=psH L∧x=psX L):=by
 unfold psOk psD psH psX psD0 psE;rcases hv with ⟨i,hi,e1,e2,e3,e4,e5,e6⟩|⟨e1,e2,e3⟩|⟨e1,e2,e3,e4,e5,e6,e7⟩
 ·rw[e1,if_pos (by omega),if_pos (by omega),if_pos (by omega),xC9]
  exact⟨by rw[e6,e3],fun _=>⟨e2,e3,e4,e5⟩⟩
 ·rw[e1,if_neg (by decide),e2,e3]
  exact⟨rfl,fun h=>by cases h⟩
 ·rw[e1,if_neg (by decide),if_neg (by decide),if_neg (by decide),e2]
  exact⟨by rw[e7,e4];rfl,fun _=>⟨e3,e4,e5,e6⟩⟩
theorem zL7 {L D:List UInt8} {v b' h x:Int} (hix:v = -1∨∃ i,i<(psS L).length∧v=(i:Int)∧∃ c,(psS L)[i]?=some c∧(psM L).contains c=true) (hv:spP (hexP L) (psS L) (psb L) v b' D h x true):asc (psS L)=true:=by
 rcases hv with ⟨i,hi,e1,e2,e3,e4,e5,e6⟩|⟨e1,e2,e3⟩|⟨e1,e2,e3,e4,e5,e6,e7⟩
 ·rcases hix with h1|⟨j,hj,ej,c,h3,h4⟩
  ·omega
  ·obtain rfl:j=i:=by omega
   have e6':=e6.symm;rw[xC,e3] at e6';exact xR4 h3 (zY6 h4) e6'.1 e6'.2
 ·cases e3
 ·rw[e4] at e7;exact yY7 e7.symm
theorem yT5 (L:List UInt8) (w:World) (hL:L.length≤1048576):Calls Tryz.prog 26 #[.string ⟨L.toArray⟩] w fun r w'=>∃ (b':Int) (D:List UInt8) (h x:Int),r=.returned (.tuple #[.agg #[.int .i64 b',.string ⟨D.toArray⟩,.int .i64 h,.int .i64 x],.bool (psOk L)])∧(psOk L=true→b'=psb L∧D=psD L∧h=psH L∧x=psX L)∧Bw w w':=by
 have hSL:(psS L).length≤L.length:=by unfold psS;split <;> (try rw[List.length_drop]) <;> omega
 obtain⟨c0,c1,hc,hc0,hc1⟩:∃ c0 c1:UInt8,psM L = [c0,c1]∧c0=(if hexP L then 112 else 101)∧c1=(if hexP L then 80 else 69):=by
  unfold psM;split
  ·exact⟨_,_,rfl,rfl,rfl⟩
  ·exact⟨_,_,rfl,rfl,rfl⟩
 have h0:c0.toNat<128:=zY6 (L:=L) (by rw[hc];simp)
 have h1:c1.toNat<128:=zY6 (L:=L) (by rw[hc];simp)
 have hp:hexP L=true→2≤L.length:=by
  intro h;unfold hexP Lib.hasPrefix at h;rw[Bool.or_eq_true] at h;rcases h with h|h
  ·have:=(List.isPrefixOf_iff_prefix.1 h).length_le;simpa using this
  ·have:=(List.isPrefixOf_iff_prefix.1 h).length_le;simpa using this
 refine(yN7 L (psS L) (Lib.hasPrefix L [48,120]) (Lib.hasPrefix L [48,88]) (hexP L) (psb L) c0 c1 (spP (hexP L) (psS L) (psb L)) exX exO cuA cuB (dgO (psb L)) w hL rfl rfl rfl hc0 hc1 hp (fun W=>Tryz.strings_HasPrefix ⟨L.toArray⟩ ⟨#[48,120]⟩ W) (fun W=>Tryz.strings_HasPrefix ⟨L.toArray⟩ ⟨#[48,88]⟩ W) (fun W=>Dany _ c0 c1 h0 h1 W (by omega)) (fun W i hi=>yM _ W (by rw[List.length_drop];omega)) (fun W D hD=>Dcut D W (by omega)) xP (fun W D hD=>qE0 D _ W (by omega)) (fun i hi=>.inl ⟨i,hi,rfl,rfl,rfl,rfl,rfl,rfl⟩) (fun h=>.inr (.inl ⟨rfl,h,rfl⟩)) (fun h=>.inr (.inr ⟨rfl,h,rfl,rfl,rfl,rfl,rfl⟩))).mono ?_
 rintro r w' ⟨v,b',D,h,x,ok,rfl,hix,hv,hb⟩;rw[←hc] at hix;by_cases ha:asc (psS L)=true∨8<(psS L).length
 ·have e:v=psV L:=hix.1 ha;subst e;obtain⟨e1,e2⟩:=xJ1 hv;exact⟨b',D,h,x,by rw[e1],e2,hb⟩
 ·have hn:asc (psS L)≠true:=fun h=>ha (.inl h);have hok:ok=false:=by
   cases ok
   ·rfl
   ·exact absurd (zL7 hix.2 hv) hn
  have hps:psOk L=false:=by
   cases h9:psOk L
   ·rfl
   ·exfalso;have hV:spP (hexP L) (psS L) (psb L) (psV L) (psb L) (psD L) (psH L) (psX L) (psOk L):=by
     unfold psOk psD psH psX psD0 psE;rcases qV8 (psS L) (psM L)with h1|⟨i,h1,h2,h3⟩
     ·have h1':psV L = -1:=h1;rw[h1',if_neg (by decide),if_neg (by decide),if_neg (by decide)]
      cases hx:hexP L
      ·exact .inr (.inr ⟨rfl,rfl,rfl,rfl,rfl,rfl,rfl⟩)
      ·exact .inr (.inl ⟨rfl,rfl,rfl⟩)
     ·have h2':psV L=(i:Int):=h2;rw[h2',if_pos (by omega),if_pos (by omega),if_pos (by omega),xC9]
      exact .inl ⟨i,h1,rfl,rfl,rfl,rfl,rfl,rfl⟩
    rw[h9] at hV;exact hn (zL7 (qV8 _ _) hV)
  exact⟨b',D,h,x,by rw[hok,hps],fun h=>absurd h (by rw[hps];decide),hb⟩
theorem qH9 (a:Int) (p d:Nat):un a p=un (a*((2^d:Nat):Int)) (p+d):=by
 refine zT1 (K:=p+d) (by omega) ?_ ?_
 ·omega
 ·rw[Nat.sub_self,xC7];have e1:vz (p+d) (decide (a<0)) a.natAbs (-(p:Int))=a*((2^d:Nat):Int):=by
   unfold vz;rw[zL5,show(-(p:Int)+((p+d:Nat):Int)).toNat=d by omega]
  rw[e1];simp
theorem xY3 (m:Int) (w:World):Calls Tryz.prog 24 #[.int .i64 m] w fun r w'=>r=.returned (.bool (decide (1≤m∧m≤3)))∧w'=w:=by
 by_cases h:1≤m∧m≤3
 ·rw[xL4 h];rcases(by omega:m=1∨m=2∨m=3)with rfl|rfl|rfl
  all_goals
   go_enter Tryz.func24,Tryz.ntmps24
   go_wp2
   go_ret;exact⟨rfl,rfl⟩
 ·rw[xL3 h];have h1:(m==1)=false:=by rw[xC2];omega
  have h2:(m==2)=false:=by rw[xC2];omega
  have h3:(m==3)=false:=by rw[xC2];omega
  clear h
  go_enter Tryz.func24,Tryz.ntmps24
  go_wp2
  go_ret;exact⟨rfl,rfl⟩
theorem klen {n:Nat} (h:n≤7500):KLen n:=fun W=>c156 n (by omega) W
theorem qA {Z:Int} {p b:Nat} (h:Z.natAbs<2^b) (hb:b≤60000) (hp:p≤60000) {W:World} {X:Value} (hX:PN W X (un Z p)) :
  Calls Tryz.prog 47 #[X] W fun r w'=>r=.returned (.int .i64 (if Z=0 then 0 else if Z<0 then -1 else 1))∧Bw W w':=by
 have k:=psign (qG0 h hb hp) hX;have e:sgI (un Z p).1 (dlen (un Z p).2.1)=(if Z=0 then 0 else if Z<0 then -1 else 1):=by
  unfold sgI;have h1:=(qG8 (Z:=Z) (p:=p)).2;by_cases hz:Z=0
  ·rw[if_pos hz,if_pos (qQ7.2 (h1.2 hz))]
  ·rw[if_neg hz,if_neg (fun h=>hz (h1.1 (qQ7.1 h)))];have e1:(un Z p).1=decide (Z<0):=by unfold un cn;rw[if_neg (show ¬ Z.natAbs=0 by omega)]
   rw[e1];by_cases hn:Z<0
   ·rw[if_pos hn,if_pos (xL4 hn)]
   ·rw[if_neg hn,if_neg (by simpa using hn)]
 rw[e] at k;exact k
theorem yH1 {c:Nat} {b:Nat} (hb:b=10∨b=16) (hc:c<256) (h:isDg c (b:Int)=true):dgB c<b:=by
 have key:∀ c:Fin 256,(isDg c.val 10=true→dgB c.val<10)∧(isDg c.val 16=true→dgB c.val<16):=by decide +kernel
 have:=key ⟨c,hc⟩
 rcases hb with rfl|rfl
 ·exact this.1 h
 ·exact this.2 h
theorem yR5 {b:Nat} {D:List UInt8} (hb:b=10∨b=16) (h:qZ8 D (b:Int)=true):∀ j,j<D.length→dgB (bL D j)<b:=fun j hj=>yH1 hb (yY4 D j) ((qU1 _ _).1 h j hj)
theorem xH4 (n:Nat):16^n=2^(4*n):=by rw[Nat.pow_mul]
theorem zI8 {b:Nat} {D:List UInt8} (hb:b=10∨b=16) (h:qZ8 D (b:Int)=true) (k:Nat) (hk:k≤D.length):dvP b D k<2^(4*k):=by
 have h1:dvP b D k<b^k:=zZ2 fun j hj=>yR5 hb h j (by omega)
 have h2:b^k≤16^k:=Nat.pow_le_pow_left (by rcases hb with rfl|rfl <;> omega) k
 rw[←xH4];omega
theorem zV7 {b n:Nat} (hb:b=10∨b=16):b^n<2^(4*n+1):=by
 have h2:b^n≤16^n:=Nat.pow_le_pow_left (by rcases hb with rfl|rfl <;> omega) n
 rw[xH4] at h2;rw[xC5];have:0<2^(4*n):=Nat.pow_pos (by decide)
 omega
theorem yT4 {b:Nat} {D:List UInt8} {h e:Int} {w:World} (hT:Tab32 w) (hb:b=10∨b=16) (hd:qZ8 D (b:Int)=true) (hl:D.length≤1100) :
  Calls Tryz.prog 46 #[.agg #[.int .i64 (b:Int),.string ⟨D.toArray⟩,.int .i64 h,.int .i64 e]] w fun r w'=>OutA w (un ((dvP b D D.length:Nat):Int) 0) r w':=by
 have hpart:∀ (P:List UInt8) (k:Nat),P=(D.drop k).take (min 15 (D.length - k))→k<D.length→P.length≤15∧0<P.length∧(∀ j,j<P.length→dgB (bL P j)<b):=by
  intro P k hP hk;have hlen:P.length=min 15 (D.length - k):=by rw[hP,List.length_take,List.length_drop];omega
  refine⟨by omega,by omega,fun j hj=>?_⟩
  have e:bL P j=bL D (k+j):=by
   unfold bL;rw[hP,List.getElem?_take_of_lt (by omega),List.getElem?_drop]
  rw[e];exact yR5 hb hd _ (by omega)
 have hval:∀ (P:List UInt8) (k:Nat),P=(D.drop k).take (min 15 (D.length - k))→k<D.length→dvP b P P.length<18446744073709551616:=by
  intro P k hP hk;obtain⟨a1,a2,a3⟩:=hpart P k hP hk;have h1:dvP b P P.length<b^P.length:=zZ2 a3;have h2:b^P.length≤16^P.length:=Nat.pow_le_pow_left (by rcases hb with rfl|rfl <;> omega) _
  have h3:16^P.length≤16^15:=xL6 (by decide) a1
  have h4:(16:Nat)^15<18446744073709551616:=by decide
  omega
 refine yN2 b D h e (fun k=>un ((dvP b D k:Nat):Int) 0) (fun n=>un ((b^n:Nat):Int) 0) (fun k=>un ((dvP b ((D.drop k).take (min 15 (D.length - k))) (min 15 (D.length - k)):Nat):Int) 0) (fun k n=>un ((dvP b D k*b^n:Nat):Int) 0) w (un_0 0) (by omega) ?_ ?_ ?_ ?_ ?_
 ·intro W P k hP hk;obtain⟨a1,a2,a3⟩:=hpart P k hP hk;rcases hb with rfl|rfl
  ·exact xY0 P W a1 a2 a3
  ·exact xY P W a1 a2 a3
 ·intro W n hW hn;exact zM1 (hT.later hW) (by rcases hb with rfl|rfl <;> omega) (by rcases hb with rfl|rfl <;> omega) (by omega) (zV7 hb) (by omega) (fun V=>c156 n (by omega) V)
 ·intro W X Y k n hW hX hY hkn hn;have:=qU2 (k:=4*k) (l:=4*n+1) (nabs (zI8 hb hd k (by omega))) (nabs (zV7 (n:=n) hb)) (by omega) (by omega) (hT.later hW) hX hY
  rw[←xC8] at this;exact this
 ·intro W P k hP hk hW;have hlen:P.length=min 15 (D.length - k):=by rw[hP,List.length_take,List.length_drop];omega
  have h1:=yJ (hT.later hW) (hval P k hP hk);show Calls _ _ _ _ fun r w'=>OutA W (un ((dvP b ((D.drop k).take (min 15 (D.length - k))) (min 15 (D.length - k)):Nat):Int) 0) r w'
  rw[←hP,←hlen];exact h1
 ·intro W X Y k n hW hX hY hn hk;have e:dvP b D (k+n)=dvP b D k*b^n+dvP b ((D.drop k).take (min 15 (D.length - k))) (min 15 (D.length - k)):=by
   rw[zI9,←hn,zB8 _ _ _ _ (xL0 _)]
  obtain⟨q,hq⟩:∃ q:Nat,q=4500:=⟨_,rfl⟩;have b1:dvP b D k*b^n<2^q:=xL8 (zE5 (zI8 hb hd k (by omega)) (zV7 (n:=n) hb)) (xL6 (by decide) (by omega))
  have b2:dvP b ((D.drop k).take (min 15 (D.length - k))) (min 15 (D.length - k))<2^q:=by
   have h1:=hval _ k rfl hk;rw[show((D.drop k).take (min 15 (D.length - k))).length=min 15 (D.length - k) by rw[List.length_take,List.length_drop];omega] at h1
   exact xL8 h1 (xW (by decide:18446744073709551616≤2^64) (xL6 (by decide) (by omega)))
  have:=qW0 (paddN (p:=0) b1 b2 (by omega) (by omega)) (hT.later hW) hX hY
  rw[←e] at this;exact this
def rK (b:Int) (h:Nat) (x:Int):Int:=if b=16 then x - 4*h else x - h
def rO (b:Int) (h:Nat) (x:Int):Nat:=if b=16 then 2^(rK b h x).toNat else tnO (rK b h x)
def rP (b:Int) (h:Nat) (x:Int):Nat:=if b=16 then(-(rK b h x)).toNat else 0
def rU (b:Int) (h:Nat) (x:Int):Nat:=if b=16 then 1 else tnU (rK b h x)
def rdFl (neg:Bool) (b:Int) (D:List UInt8) (h:Nat) (x m:Int):Nat :=
 if dvP b.toNat D D.length=0 then sig neg 0 else rtF (un ((if neg then -((dvP b.toNat D D.length:Nat):Int) else(dvP b.toNat D D.length:Nat))*(rO b h x:Nat)) (rP b h x)) (un ((rU b h x:Nat):Int) 0) m
theorem xT5 {k:Int} {w:World} (hT:Tab32 w) (h1 : -20000≤k) (h2:k≤20000) :
  Calls Tryz.prog 82 #[.int .i64 k] w fun r w'=>qS7 w (un ((2^k.toNat:Nat):Int) (-k).toNat) (un ((1:Nat):Int) 0) r w':=by
 refine yN3 k _ _ w (fun W hW=>qR3 (n:=1) (hT.later hW) (by omega)) ?_
 intro W X hW hX;have e:un ((1:Nat):Int) 0=un ((2^k.toNat:Nat):Int) k.toNat:=by
  have:=qH9 1 0 k.toNat
  rw[Int.one_mul,Nat.zero_add] at this;exact this
 rw[e] at hX;exact qT1 (b:=k.toNat+1) (nabs (Nat.pow_lt_pow_right (by decide) (by omega))) (by omega) (by omega) (by omega) (by omega) hX
theorem xT6 {b:Int} {h:Nat} {x:Int} {d:ByteArray} {w:World} (hT:Tab32 w) (hb:b=10∨b=16) (hh:h≤1100) (hx : -6000≤x∧x≤6000) :
  Calls Tryz.prog 50 #[.agg #[.int .i64 b,.string d,.int .i64 (h:Int),.int .i64 x]] w fun r w'=>qS7 w (un ((rO b h x:Nat):Int) (rP b h x)) (un ((rU b h x:Nat):Int) 0) r w':=by
 unfold rO rP rU;rcases hb with rfl|rfl
 ·rw[if_neg (by decide),if_neg (by decide),if_neg (by decide)]
  refine yN9 10 h x d _ _ w (by decide) (by omega) (by omega) ?_
  intro W hW;have e:rK 10 h x=x - h:=by unfold rK;rw[if_neg (by decide)]
  rw[e];exact yK5 (hT.later hW) (by omega) (by omega) (fun n hn=>klen hn)
 ·rw[if_pos rfl,if_pos rfl,if_pos rfl];refine yN8 16 h x d _ _ w rfl (by omega) (by omega) ?_
  intro W hW;have e:rK 16 h x=x - 4*h:=by unfold rK;rw[if_pos rfl]
  rw[e];exact xT5 (hT.later hW) (by omega) (by omega)
def dQ:Nat:=25000
theorem zK9:dQ=25000:=rfl
theorem xG2 {b:Int} {h:Nat} {x:Int} (hb:b=10∨b=16) (hh:h≤1100) (hx : -6000≤x∧x≤6000):rO b h x<2^dQ∧rU b h x<2^dQ∧rP b h x≤20000∧0<rU b h x∧0<rO b h x:=by
 unfold rO rU rP;rcases hb with rfl|rfl
 ·rw[if_neg (by decide),if_neg (by decide),if_neg (by decide)]
  have e:rK 10 h x=x - h:=by unfold rK;rw[if_neg (by decide)]
  rw[e];have hd:(2:Nat)^dB≤2^dQ:=xL6 (by decide) (by rw[zK9];exact zD1)
  refine⟨xL8 (qO3 (by omega)) hd,xL8 (qO3 (by omega)) hd,by omega,Nat.pow_pos (by decide),Nat.pow_pos (by decide)⟩
 ·rw[if_pos rfl,if_pos rfl,if_pos rfl];have e:rK 16 h x=x - 4*h:=by unfold rK;rw[if_pos rfl]
  rw[e];exact⟨Nat.pow_lt_pow_right (by decide) (by rw[zK9];omega),Nat.one_lt_two_pow (by rw[zK9];omega),by omega,by omega,Nat.pow_pos (by decide)⟩
theorem zM0 {b:Nat} {D:List UInt8} {h:Nat} {x m:Int} {neg:Bool} {w:World} (hT:Tab32 w) (hb:b=10∨b=16) (hd:qZ8 D (b:Int)=true) (hl:D.length≤1100) (hh:h≤1100) (hx : -6000≤x∧x≤6000) (hm:1≤m∧m≤3) :
  Calls Tryz.prog 27 #[.agg #[.int .i64 (b:Int),.string ⟨D.toArray⟩,.int .i64 (h:Int),.int .i64 x],.bool neg,.int .i64 m] w fun r w'=>r=.returned (.float .f64 (rdFl neg b D h x m))∧Bw w w':=by
 obtain⟨q,hq⟩:∃ q:Nat,q=4400:=⟨_,rfl⟩;have hN:dvP b D D.length<2^q:=xL8 (zI8 hb hd D.length (xL0 _)) (xL6 (by decide) (by omega))
 have hb':(b:Int)=10∨(b:Int)=16:=by omega
 obtain⟨o1,o2,o3,o4,o5⟩:=xG2 hb' hh hx;unfold rdFl;rw[xC9];generalize hNN:dvP b D D.length=N at *;by_cases h0:N=0
 ·rw[if_pos h0];refine zS8 _ _ _ _ _ _ (un ((N:Nat):Int) 0) _ w ?_ ?_ ?_
  ·intro W hW;have:=yT4 (h:=(h:Int)) (e:=x) (hT.later hW) hb hd hl
   rw[hNN] at this;exact this
  ·intro W X hW hX;have:=qA (b:=q) (nabs hN) (by omega) (by omega) hX
   rw[if_pos (by omega)] at this
   exact this
  ·intro W hW;have:=Ie.c24 neg 0 0 m (by omega) W
   rw[zE6 hm] at this;refine this.mono ?_;rintro r w' ⟨rfl,rfl⟩;exact⟨rfl,xL1 _ _⟩
 ·rw[if_neg h0];generalize hO:rO (b:Int) h x=O at *;generalize hU:rU (b:Int) h x=U at *;generalize hP:rP (b:Int) h x=P at *;have hz:(if neg=true then -(N:Int) else(N:Int)).natAbs<2^q:=by split <;> omega
  have hz0:(if neg=true then -(N:Int) else(N:Int))≠0:=by split <;> omega
  refine zS7 _ _ _ _ 1 0 _ _ (un ((N:Nat):Int) 0) (un (if neg=true then -(N:Int) else(N:Int)) 0) (un ((O:Nat):Int) P) (un ((U:Nat):Int) 0) (un ((if neg=true then -(N:Int) else(N:Int))*((O:Nat):Int)) P) _ w (by decide:¬ (1:Int)=0) ?_ ?_ ?_ ?_ ?_ ?_ ?_
  ·intro W hW;have:=yT4 (h:=(h:Int)) (e:=x) (hT.later hW) hb hd hl
   rw[hNN] at this;exact this
  ·intro W X hW hX;have:=qA (b:=q) (nabs hN) (by omega) (by omega) hX
   rw[if_neg (by omega),if_neg (by omega)] at this
   exact this
  ·intro hn W X hW hX;have:=yE8 (b:=q) (nabs hN) (by omega) hX
   rw[if_pos hn];exact this
  ·intro hn;show un (if neg=true then -(N:Int) else(N:Int)) 0=un ((N:Nat):Int) 0
   rw[hn];rfl
  ·intro W hW;have:=xT6 (d:=⟨D.toArray⟩) (hT.later hW) hb' hh hx
   rw[hO,hP,hU] at this;exact this
  ·intro W X Y hW hX hY;have:=qU2 (k:=q) (l:=dQ) (p:=0) (q:=P) hz (nabs o1) (by rw[zK9];omega) (by omega) (hT.later hW) hX hY
   rw[Nat.zero_add] at this;exact this
  ·intro W X Y hW hX hY;have hprod:((if neg=true then -(N:Int) else(N:Int))*((O:Nat):Int)).natAbs<2^(q+dQ):=qI5 hz (nabs o1);refine xH2 (hT.later hW) (qG0 hprod (by rw[zK9];omega) (by omega)) (qG0 (nabs o2) (by rw[zK9];omega) (by omega)) hX hY ?_ ?_ hm
   ·rw[Ne,(qG8 (p:=P)).2];exact Int.mul_ne_zero hz0 (by omega)
   ·rw[Ne,(qG8 (p:=0)).2];omega
theorem yE7 {A B p k:Nat} (hA0:0<A) (h1:A<2^k) (h2:B<2^k) (h0:0<B) (hk:k≤60000) (hp:p≤60000) {W:World} {X Y:Value} (hT:Tab32 W) (hX:PN W X (un (-(A:Int)) p)) (hY:PN W Y (un (B:Int) p)) :
  Calls Tryz.prog 154 #[X,Y,.int .i64 0] W fun r w'=>∃ s ao n cap e,r=.returned (.tuple #[.agg #[.bool s,.slice ao n cap,.int .i64 e],.bool (decide (A % B=0)),.int .i64 0])∧PN w' (.agg #[.bool s,.slice ao n cap,.int .i64 e]) (un (-((if A % B=0 then A / B else A / B+1:Nat):Int)) 0)∧Bw W w':=by
 have a1:(-((A:Nat):Int)).natAbs<2^k:=by rw[Int.natAbs_neg,xC1];exact h1
 have b1:((B:Nat):Int).natAbs<2^k:=by rw[xC1];exact h2
 have o1:=qG0 (p:=p) a1 hk hp;have o2:=qG0 (p:=p) b1 hk hp;have f1:=o1.facts;have f2:=o2.facts;have v1:=qW2 (K:=p) (p:=p) (-(A:Int)) (xL0 _);have v2:=qW2 (K:=p) (p:=p) (B:Int) (xL0 _);have g1:=(un_e (p:=p) a1).2.2;have g2:=(un_e (p:=p) b1).2.2;have n1:(un (-(A:Int)) p).1=true:=by unfold un cn;rw[if_neg (show ¬ (-(A:Int)).natAbs=0 by omega)];exact xL4 (by omega)
 have n2:=zT0 (A:=B) (p:=p);have z2:(un (B:Int) p).2.1≠0:=fun h=>by have:=qG8.2.1 h;omega
 obtain⟨ua,uc,rfl,i1⟩:=hX;obtain⟨va,vc,rfl,i2⟩:=hY;obtain⟨t1,ht1⟩:∃ t,t=un (-(A:Int)) p:=⟨_,rfl⟩;obtain⟨t2,ht2⟩:∃ t,t=un (B:Int) p:=⟨_,rfl⟩;rw[←ht1] at o1 f1 v1 g1 n1 i1 ⊢;rw[←ht2] at o2 f2 v2 g2 n2 z2 i2 ⊢;obtain⟨s1,x,ea⟩:=t1;obtain⟨s2,y,eb⟩:=t2;simp only at o1 f1 v1 g1 n1 i1 o2 f2 v2 g2 n2 z2 i2 ⊢
 subst n1;subst n2;have eA:x*2^(ea+(p:Int)).toNat=A:=by
  unfold vz sv at v1;rw[Nat.sub_self,xC7] at v1;simp only[if_true,Int.mul_one] at v1;have:((x*2^(ea+(p:Int)).toNat:Nat):Int)=(A:Int):=by
   have v1' : -((x:Int))*((2^(ea+(p:Int)).toNat:Nat):Int) = -(A:Int):=by simpa using v1
   rw[Int.neg_mul] at v1';rw[xC8];omega
  exact Int.ofNat.inj this
 have eB:y*2^(eb+(p:Int)).toNat=B:=by
  unfold vz sv at v2;rw[Nat.sub_self,xC7] at v2;simp only[Bool.false_eq_true,if_false,Int.mul_one] at v2;have:((y*2^(eb+(p:Int)).toNat:Nat):Int)=(B:Int):=by
   rw[xC8];simpa using v2
  exact Int.ofNat.inj this
 obtain⟨P,hP⟩:∃ P,x*2^(ea+0 - min (ea+0) eb).toNat=P:=⟨_,rfl⟩;obtain⟨Q,hQ⟩:∃ Q,y*2^(eb - min (ea+0) eb).toNat=Q:=⟨_,rfl⟩;have hQ0:0<Q:=by rw[←hQ];exact Nat.mul_pos (xW1 z2) (xL5 _)
 have hcr:P*B=A*Q:=by
  rw[←hP,←hQ,←eA,←eB];have e1:(ea+0 - min (ea+0) eb).toNat+(eb+(p:Int)).toNat=(ea+(p:Int)).toNat+(eb - min (ea+0) eb).toNat:=by omega
  generalize (ea+0 - min (ea+0) eb).toNat=j1 at *;generalize (eb+(p:Int)).toNat=j2 at *;generalize (ea+(p:Int)).toNat=j3 at *;generalize (eb - min (ea+0) eb).toNat=j4 at *;have e2:(2:Nat)^j1*2^j2=2^j3*2^j4:=by rw[←xC3,←xC3,e1]
  calc x*2^j1*(y*2^j2)=x*y*(2^j1*2^j2):=by ac_rfl
   _=x*y*(2^j3*2^j4):=by rw[e2]
   _=x*2^j3*(y*2^j4):=by ac_rfl
 obtain⟨d1,d2⟩:=zZ8 hQ0 h0 hcr;refine(c44 (na:=true) (nb:=false) (place:=0) i1 i2 hT z2 (by omega) (by omega) o1 o2 ⟨f1.2.1,f1.2.2.1⟩ ⟨f2.2.1,f2.2.2.1⟩ (by omega) P Q hP hQ).mono ?_
 rintro r w' ⟨N,rfl,hN,hb⟩;have hz:(if((true:Bool) != false) && !(decide (P % Q=0))then P / Q+1 else P / Q)=(if A % B=0 then A / B else A / B+1):=by
  rw[←d1];by_cases h:A % B=0
  ·rw[if_pos h,xL4 (d2.2 h)];rfl
  ·rw[if_neg h,xL3 (fun g=>h (d2.1 g))];rfl
 have hdec:decide (P % Q=0)=decide (A % B=0):=by
  by_cases h:A % B=0
  ·rw[xL4 h,xL4 (d2.2 h)]
  ·rw[xL3 h,xL3 (fun g=>h (d2.1 g))]
 obtain⟨R,hR⟩:∃ R,R=(if A % B=0 then A / B else A / B+1):=⟨_,rfl⟩;have hR0:0<R:=by
  rw[hR];by_cases h:A % B=0
  ·rw[if_pos h];have:=Nat.div_add_mod A B
   rw[h] at this;apply xW1
   intro h9;rw[h9,Nat.mul_zero] at this;omega
  ·rw[if_neg h];exact Nat.succ_pos _
 have hR2:R≤A:=by
  have hle:=xW0 A B;rw[hR];by_cases h:A % B=0
  ·rw[if_pos h];exact hle
  ·rw[if_neg h];have h9:=Nat.div_add_mod A B;have h8:A / B≤B*(A / B):=Nat.le_mul_of_pos_left _ h0;omega
 rw[hz,←hR] at hN;rw[←hR];have hq1:(-((R:Nat):Int)).natAbs<2^k:=by rw[Int.natAbs_neg,xC1];omega
 have hokq:okR ((true:Bool) != false) R (-(0:Int))=true:=by
  have:=zF2 (p:=0) hq1 hk (by omega)
  rw[xL4 (by omega),Int.natAbs_neg,xC1] at this
  exact this
 rw[hz,←hR,hokq,hdec];have hpn:=hN.pn;have he:cn ((true:Bool) != false) R (-(0:Int))=un (-((R:Nat):Int)) 0:=by
  unfold un;rw[xL4 (by omega),Int.natAbs_neg,xC1]
  rfl
 rw[he] at hpn;obtain⟨s',ao,n,cap,e',rfl⟩:=hpn.shape;exact⟨s',ao,n,cap,e',by rw[Bool.and_true];rfl,hpn,hb⟩
theorem xH3 {Z:Int} {B p k:Nat} (h1:Z.natAbs<2^k) (h2:B<2^k) (h0:0<B) (hk:k≤60000) (hp:p≤60000) {W:World} {X Y:Value} (hT:Tab32 W) (hX:PN W X (un Z p)) (hY:PN W Y (un (B:Int) p)) :
  Calls Tryz.prog 154 #[X,Y,.int .i64 0] W fun r w'=>∃ A,r=.returned (.tuple #[A,.bool (decide (Z % (B:Int)=0)),.int .i64 0])∧PN w' A (un (Z / (B:Int)) 0)∧Bw W w':=by
 have hB:(0:Int)<(B:Int):=by omega
 by_cases hz:Z<0
 ·obtain⟨A,hA⟩:∃ A:Nat,Z = -(A:Int):=⟨Z.natAbs,by omega⟩
  subst hA;rw[Int.natAbs_neg,xC1] at h1;refine(yE7 (by omega) h1 h2 h0 hk hp hT hX hY).mono ?_
  rintro r w' ⟨s,ao,n,cap,e,rfl,hp',hb⟩;have d1:=Nat.div_add_mod A B;have d2:=xW4 A h0;have d3:((B*(A / B):Nat):Int)+((A % B:Nat):Int)=(A:Int):=by rw[←Int.natCast_add,d1]
  rw[xC8] at d3;obtain⟨q,hq⟩:∃ q:Nat,q=A / B:=⟨_,rfl⟩;obtain⟨c,hc⟩:∃ c:Nat,c=A % B:=⟨_,rfl⟩;rw[←hq,←hc] at d3;rw[←hc] at d2;have key:(-(A:Int)) / (B:Int) = -((if A % B=0 then A / B else A / B+1:Nat):Int)∧((-(A:Int)) % (B:Int)=0↔A % B=0):=by
   rw[←hq,←hc];by_cases h:c=0
   ·rw[if_pos h];have:=(Int.ediv_emod_unique (a := -(A:Int)) (b:=(B:Int)) (r:=0) (q := -(q:Int)) hB).2 ⟨by rw[h] at d3;rw[Int.mul_neg];omega,by omega,hB⟩
    exact⟨this.1,by rw[this.2];simp[h]⟩
   ·rw[if_neg h];have:=(Int.ediv_emod_unique (a := -(A:Int)) (b:=(B:Int)) (r:=(B:Int) - (c:Int)) (q := -((q:Int)+1)) hB).2 ⟨by rw[Int.mul_neg,Int.mul_add,Int.mul_one];omega,by omega,by omega⟩
    refine⟨by rw[this.1];push_cast;rfl,?_⟩
    rw[this.2];constructor
    ·intro h9;omega
    ·intro h9;exact absurd h9 h
  refine⟨_,?_,by rw[key.1];exact hp',hb⟩
  have:decide (A % B=0)=decide ((-(A:Int)) % (B:Int)=0):=by
   by_cases h:A % B=0
   ·rw[xL4 h,xL4 (key.2.2 h)]
   ·rw[xL3 h,xL3 (fun g=>h (key.2.1 g))]
  rw[this]
 ·obtain⟨A,hA⟩:∃ A:Nat,Z=(A:Int):=⟨Z.natAbs,by omega⟩
  subst hA;rw[xC1] at h1;refine(zC8 h1 h2 h0 hk hp hT hX hY).mono ?_
  rintro r w' ⟨s,ao,n,cap,e,rfl,hp',hb⟩;refine⟨_,?_,by rw[←Int.natCast_ediv];exact hp',hb⟩
  have:decide (A % B=0)=decide ((A:Int) % (B:Int)=0):=by
   by_cases h:A % B=0
   ·rw[xL4 h,xL4 (by omega)]
   ·rw[xL3 h,xL3 (by omega)]
  rw[this]
def kP:Nat:=1074
theorem zA2:kP=1074:=rfl
theorem yJ0 {Z:Int} {O U p k l:Nat} {W:World} {S X:Value} (hT:Tab32 W) (hS:Fv W S (un ((O:Nat):Int) 0) (un ((U:Nat):Int) 0)) (hX:PN W X (un Z p)) (h1:Z.natAbs<2^k) (h2:O<2^l) (h3:U<2^l) (h0:0<U) (hk:k+l+p≤60000) :
  Calls Tryz.prog 153 #[S,X] W fun r w'=>zU5 W (un (Z*(O:Int) / ((U*2^p:Nat):Int)) 0) (decide (Z*(O:Int) % ((U*2^p:Nat):Int)=0)) r w':=by
 obtain⟨s1,ao1,n1,cp1,e1,s2,ao2,n2,cp2,e2,rfl,p1,p2⟩:=hS;obtain⟨s3,ao3,n3,cp3,e3,rfl⟩:=hX.shape;refine yM4 s1 ao1 n1 cp1 e1 s2 ao2 n2 cp2 e2 s3 ao3 n3 cp3 e3 _ _ _ (un (Z*(O:Int)) p) _ _ W p1 p2 hX ?_ ?_
 ·intro V X Y hV hX hY;have:=qU2 (p:=p) (q:=0) h1 (nabs h2) (by omega) (by omega) (hT.later hV) hX hY
  exact this
 ·intro V X Y hV hX hY;have e:un ((U:Nat):Int) 0=un ((U*2^p:Nat):Int) p:=by
   rw[qH9 _ 0 p,←xC8,Nat.zero_add]
  rw[e] at hY;have hm:(Z*(O:Int)).natAbs<2^(k+l+p):=qB p (qI5 h1 (nabs h2));have hu:U*2^p<2^(k+l+p):=by
   have h9:U*2^p<2^l*2^p:=xE4 h3 (xL5 _);rw[←xC3] at h9;exact xL8 h9 (xL6 (by decide) (by omega))
  exact xH3 hm hu (Nat.mul_pos h0 (xL5 _)) hk (by omega) (hT.later hV) hX hY
def sZ (a:Nat):Int:=if neg a then -((fU a:Nat):Int) else((fU a:Nat):Int)
theorem tF_sZ {a:Nat} (hl : -1074≤Ie.lp a):tF a=un (sZ a) kP:=by
 unfold tF kP;refine zT1 (K:=1074) (xL0 _) (by omega) ?_
 unfold sZ vz sv fU;rw[Nat.sub_self,xC7,xC8];cases neg a
 ·simp
 ·simp[Int.neg_mul]
theorem xV1 (a:Nat):(sZ a).natAbs=fU a:=by unfold sZ;split <;> omega
theorem qT9 (a:Nat):(sZ a).natAbs<2^bU:=by rw[xV1];exact yO a
theorem zM2 {a:Nat} {w:World} (hT:Tab32 w) (hI:Ie.Tab w) (ha:a<18446744073709551616) (hf:mag a<9218868437227405312):Calls Tryz.prog 103 #[.float .f64 a] w fun r w'=>OutA w (un (sZ a) kP) r w':=by
 refine yM6 a _ w fun W hW=>?_;have:=ofN a ha hf W (hT.later hW) (fun i hi=>(hW.cell (World.block_lt_of_cell? _ _ (hI i hi))).trans (hI i hi))
 rw[tF_sZ (yV2 a hf).2.1] at this;exact this
def kP1:Nat:=1073
theorem xB2:(kP:Int) - 1=kP1:=rfl
def unF (Z:Int) (O U:Nat):Int:=Z*(O:Int) / ((U*2^kP:Nat):Int)
def unX (Z:Int) (O U:Nat):Bool:=decide (Z*(O:Int) % ((U*2^kP:Nat):Int)=0)
theorem xK {Z:Int} {O U k l:Nat} (h1:Z.natAbs<2^k) (h2:O<2^l) (h0:0<U):(unF Z O U).natAbs<2^(k+l+1):=by
 have hm:(Z*(O:Int)).natAbs<2^(k+l):=qI5 h1 (nabs h2);have hB:(0:Int)<((U*2^kP:Nat):Int):=by
  have:=Nat.mul_pos h0 (xL5 kP)
  omega
 unfold unF;generalize Z*(O:Int)=a at *;generalize ((U*2^kP:Nat):Int)=b at *;rw[xC5];have h3:a / b≤a.natAbs:=by
  rcases Int.lt_or_le a 0 with h|h
  ·have:=Int.ediv_neg_of_neg_of_pos h hB;omega
  ·have:=Int.ediv_le_self b h;omega
 have h4 : -(a.natAbs:Int)≤a / b:=by
  rcases Int.lt_or_le a 0 with h|h
  ·rw[Int.le_ediv_iff_mul_le hB];have : -(a.natAbs:Int)=a:=by omega
   rw[this];have h5:a*b≤a*1:=Int.mul_le_mul_of_nonpos_left (by omega) (by omega)
   omega
  ·have:=Int.ediv_nonneg h (Int.le_of_lt hB);omega
 omega
theorem qW5:bU=2200:=rfl
theorem dk1:bU+dB+kP≤60000:=by have h1:=zA2;have h2:=qW5;have h3:=zD1;generalize kP=x at *; generalize bU=y at *; generalize dB=z at *; omega
theorem dk3:bU+dB+1<60000:=by have h1:=zA2;have h2:=qW5;have h3:=zD1;generalize kP=x at *; generalize bU=y at *; generalize dB=z at *; omega
theorem yL2 {pl:Int} (h1 : -7500≤pl) (h2:pl≤7500):tnO pl<2^dB∧tnU pl<2^dB∧0<tnU pl∧0<tnO pl:=by
 unfold tnO tnU;exact⟨qO3 (by omega),qO3 (by omega),Nat.pow_pos (by decide),Nat.pow_pos (by decide)⟩
def eiF:Nat→Nat→Nat
 | 0,_=>0
 | f+1,N=>if N=0 then 0 else eiF f (N / 10^18)+1
def eiN (N:Nat):Nat:=eiF N N
theorem zB6:∀ (f N:Nat),N≤f→N<10^(18*eiF f N)∧(∀ k,k<eiF f N→N / 10^(18*k)≠0)∧eiF f N≤N:=by
 intro f;induction f with
 | zero =>
  intro N h;obtain rfl:N=0:=by omega
  exact⟨by decide,fun k hk=>absurd hk (Nat.not_lt_zero _),xL0 _⟩
 | succ f ih =>
  intro N h;unfold eiF;by_cases h0:N=0
  ·rw[if_pos h0,h0];exact⟨by decide,fun k hk=>absurd hk (Nat.not_lt_zero _),xL0 _⟩
  ·rw[if_neg h0];have hlt:N / 10^18<N:=Nat.div_lt_self (by omega) (by decide)
   obtain⟨a,b,c⟩:=ih (N / 10^18) (by omega)
   refine⟨?_,?_,by omega⟩
   ·rw[Nat.mul_succ,xC3];exact(xE6 (by decide)).1 a
   ·intro k hk;cases k with
    | zero=>simpa using h0
    | succ k =>
     rw[Nat.mul_succ,xC3,xC4,←xC0];exact b k (by omega)
def dcT (N:Nat):List UInt8:=Lib.trimLeftB (wtL N (eiN N)) 48
theorem yR3 {N b:Nat} (h:N<2^b):eiN N≤b / 59+1:=by
 obtain⟨-,h2,-⟩:=zB6 N N (xL0 _);rcases Nat.lt_or_ge (b / 59+1) (eiN N)with h9|h9
 ·exfalso;refine h2 (b / 59+1) h9 (Nat.div_eq_of_lt (xL8 h ?_));have e1:(2:Nat)^b≤2^(59*(b / 59+1)):=xL6 (by decide) (by omega)
  have e2:(2:Nat)^(59*(b / 59+1))≤10^(18*(b / 59+1)):=by
   rw[Nat.pow_mul,Nat.pow_mul];exact Nat.pow_le_pow_left (by decide) _
  exact xW e1 e2
 ·exact h9
theorem zS5 {N b:Nat} {X:Value} {w:World} (hT:Tab32 w) (hN:N<2^b) (hb:b≤59000) (hX:PN w X (un ((N:Nat):Int) 0)) :
  Calls Tryz.prog 105 #[X] w fun r w'=>r=.returned (.string ⟨(dcT N).toArray⟩)∧Bw w w':=by
 obtain⟨s1,ao1,n1,cp1,e1,rfl⟩:=hX.shape;obtain⟨q1,q2,q3⟩:=zB6 N N (xL0 _);have hle:=yR3 hN;have e18:(10:Nat)^18<2^60:=by decide
 refine zX3 s1 ao1 n1 cp1 e1 N (eiN N) (un ((10^18:Nat):Int) 0) ⟨(dcT N).toArray⟩ w hX q1 (by show eiN N≤100000;omega) q2 ?_ ?_ ?_ ?_ ?_ ?_
 ·intro W hW;exact zM1 (bs:=10) (n:=18) (b:=60) (hT.later hW) (by omega) (by omega) (by omega) e18 (by omega) (fun V=>c156 18 (by omega) V)
 ·intro W X Y hW hX hY;have:=qA (b:=b) (nabs (xL9 hY hN)) (by omega) (by omega) hX
  refine this.mono ?_;rintro r w' ⟨rfl,hb'⟩;refine⟨?_,hb'⟩
  by_cases h:Y=0
  ·rw[if_pos h,if_pos (by omega)]
  ·rw[if_neg h,if_neg (by omega),if_neg (by omega)]
 ·intro W X S Y hW hX hS hY;have hY':Y<2^(b+60):=qB 60 (xL9 hY hN);have h18:(10:Nat)^18<2^(b+60):=by rw[Nat.add_comm];exact qB b e18
  refine(zC8 (p:=0) hY' h18 (by decide) (by omega) (by omega) (hT.later hW) hX hS).mono ?_
  rintro r w' ⟨s,ao,n,cap,e,rfl,hp,hb'⟩;exact⟨s,ao,n,cap,e,_,rfl,hp,hb'⟩
 ·intro W X S Y hW hX hS hY;have:=qU2 (p:=0) (q:=0) (k:=b) (l:=60) (nabs (xL9 hY hN)) (nabs e18) (by omega) (by omega) (hT.later hW) hX hS
  rw[←xC8] at this;exact this
 ·intro W X Z' Y hW hX hZ hY;have:=yK6 (psubN (p:=0) (k:=b) (b:=Y / 10^18*10^18) (xL9 hY hN) (xE9 _ _) (by omega) (by omega)) (hT.later hW) hX hZ
  rw[show Y - Y / 10^18*10^18=Y % 10^18 by have:=Nat.div_add_mod Y (10^18);omega] at this
  exact this
 ·intro W;have:=Tryz.strings_TrimLeft_one ⟨(wtL N (eiN N)).toArray⟩ 48 (by decide) W
  refine this.mono ?_;rintro r w' ⟨rfl,rfl⟩;exact⟨rfl,xL1 _ _⟩
theorem zP3 (n:Nat) (c:UInt8):Lib.repeatL [c] n=List.replicate n c:=by
 induction n with
 | zero=>rfl
 | succ n ih=>rw[Lib.repeatL,ih,List.replicate_succ];rfl
theorem knz (w:World):KNz w:=by
 intro n W hn hW;refine yM2 n W hn (fun V=>?_);have h:=Tryz.strings_Repeat ⟨#[48]⟩ n.toNat V (by omega) (by show 1*n.toNat≤_;omega)
 have e1:max 0 n=(n.toNat:Int):=by omega
 rw[e1];have e2:Lib.repeatL (⟨#[48]⟩:ByteArray).data.toList n.toNat=nzL n:=zP3 n.toNat 48;rw[e2] at h;exact h
theorem Ditoa {n:Int} {w:World} (hn : -100000≤n∧n≤100000) (h10:Tab10 w):Calls Tryz.prog 108 #[.int .i64 n] w fun r w'=>r=.returned (.string ⟨(Lib.itoa n).toArray⟩)∧Bw w w':=by
 refine(Tryz.strconv_Itoa n (by omega) (by omega) w h10).mono ?_
 rintro r w' ⟨rfl,k,os,rfl⟩;exact⟨rfl,zS2 w k os⟩
theorem zV0 {a:Nat} (hf:mag a<9218868437227405312):¬ cls a=1∧¬ cls a=2∧cneg a=neg a:=by
 have h1:¬ (9218868437227405312:Int)<(mag a:Int):=by omega
 have h2:((mag a:Int)==9218868437227405312)=false:=by rw[xC2];omega
 unfold cls cneg;rw[if_neg h1,if_neg h1,h2];refine⟨?_,?_,rfl⟩
 ·repeat' split
  all_goals first|omega|contradiction
 ·repeat' split
  all_goals first|omega|contradiction
theorem zT8 (L:List UInt8) (c:UInt8):(Lib.trimLeftB L c).length≤L.length:=by
 unfold Lib.trimLeftB;exact(List.dropWhile_sublist _).length_le
theorem xQ1 {N b:Nat} (h:N<2^b):(dcT N).length≤18*(b / 59+1):=by
 have h1:=zT8 (wtL N (eiN N)) 48;rw[zX7] at h1;have:=yR3 h
 unfold dcT;omega
theorem zE2 (n:Int):(nzL n).length=n.toNat:=by unfold nzL;simp
theorem xG7 {d:List UInt8} {p:Int}:(ptL d p).length≤d.length+p.natAbs+2:=by
 unfold ptL;split
 ·rw[xE0,xE0,zE2,zE2];omega
 ·simp only[];rw[xE0,List.length_cons,List.length_take,List.length_drop,xE0,zE2];omega
end Go.Proofs.YtbanebginnakhaaGreatDoor
