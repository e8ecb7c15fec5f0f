/- Own work: contracts of the program's functions, part 21: DRO DRP DRQ DRR DRS DRT DRU DRV DRW. -/
import Derived.Test.YtkcmhaknalomjaaGreatDoorA20

set_option maxHeartbeats 16000000
set_option maxRecDepth 200000
set_option linter.unusedVariables false
set_option linter.unusedSimpArgs false
namespace Go.Proofs.YtkcmhaknalomjaaGreatDoor
open Go Go.RowKit Go.Fl64
theorem qB5 {W:World} {g:Nat} {a b c d e f:Value} {T:TypeId} (h:W.heap[g]?=some (.cells #[a,b,c,d,e,f] T (0,0))):W.frozen? ⟨g,0,none⟩=false∧W.frozen? ⟨g,1,none⟩=false∧W.frozen? ⟨g,2,none⟩=false∧W.frozen? ⟨g,3,none⟩=false∧W.frozen? ⟨g,4,none⟩=false∧W.frozen? ⟨g,5,none⟩=false:=by
 simp[World.frozen?,h]
def TkB (w wx:World) (C:Array Value):Prop:=wx.heap[w.heap.size]?=some (.cells #[.bool false,.string ⟨#[]⟩,.bool false,.string ⟨#[]⟩,.int .i64 0,.int .i64 0] 50 (0,0))∧wx.heap[w.heap.size+1]?=some (.cells C 50 (0,0))∧Bw w wx
theorem TkB.later {w wx w':World} {C:Array Value} (h:TkB w wx C) (hb:Bw wx w'):TkB w w' C:=⟨qQ h.1 hb (qQ6 h.1),qQ h.2.1 hb (qQ6 h.2.1),h.2.2.trans (hb.mono h.2.2.size)⟩
theorem TkB.put0 {w wx:World} {a b c d e f:Value} (h:TkB w wx #[a,b,c,d,e,f]) (x:Value):TkB w (wx.setCell ⟨w.heap.size+1,0,none⟩ x) #[x,b,c,d,e,f]:=by
 obtain⟨h1,h2,h3⟩:=h;refine⟨?_,?_,h3.setCell (show w.heap.size≤w.heap.size+1 by omega) _⟩
 ·simp[World.setCell,Array.getElem?_modify,h1]
 ·simp[World.setCell,Array.getElem?_modify,h2]
theorem TkB.put1 {w wx:World} {a b c d e f:Value} (h:TkB w wx #[a,b,c,d,e,f]) (x:Value):TkB w (wx.setCell ⟨w.heap.size+1,1,none⟩ x) #[a,x,c,d,e,f]:=by
 obtain⟨h1,h2,h3⟩:=h;refine⟨?_,?_,h3.setCell (show w.heap.size≤w.heap.size+1 by omega) _⟩
 ·simp[World.setCell,Array.getElem?_modify,h1]
 ·simp[World.setCell,Array.getElem?_modify,h2]
theorem TkB.put2 {w wx:World} {a b c d e f:Value} (h:TkB w wx #[a,b,c,d,e,f]) (x:Value):TkB w (wx.setCell ⟨w.heap.size+1,2,none⟩ x) #[a,b,x,d,e,f]:=by
 obtain⟨h1,h2,h3⟩:=h;refine⟨?_,?_,h3.setCell (show w.heap.size≤w.heap.size+1 by omega) _⟩
 ·simp[World.setCell,Array.getElem?_modify,h1]
 ·simp[World.setCell,Array.getElem?_modify,h2]
theorem TkB.put3 {w wx:World} {a b c d e f:Value} (h:TkB w wx #[a,b,c,d,e,f]) (x:Value):TkB w (wx.setCell ⟨w.heap.size+1,3,none⟩ x) #[a,b,c,x,e,f]:=by
 obtain⟨h1,h2,h3⟩:=h;refine⟨?_,?_,h3.setCell (show w.heap.size≤w.heap.size+1 by omega) _⟩
 ·simp[World.setCell,Array.getElem?_modify,h1]
 ·simp[World.setCell,Array.getElem?_modify,h2]
theorem TkB.put4 {w wx:World} {a b c d e f:Value} (h:TkB w wx #[a,b,c,d,e,f]) (x:Value):TkB w (wx.setCell ⟨w.heap.size+1,4,none⟩ x) #[a,b,c,d,x,f]:=by
 obtain⟨h1,h2,h3⟩:=h;refine⟨?_,?_,h3.setCell (show w.heap.size≤w.heap.size+1 by omega) _⟩
 ·simp[World.setCell,Array.getElem?_modify,h1]
 ·simp[World.setCell,Array.getElem?_modify,h2]
theorem TkB.put5 {w wx:World} {a b c d e f:Value} (h:TkB w wx #[a,b,c,d,e,f]) (x:Value):TkB w (wx.setCell ⟨w.heap.size+1,5,none⟩ x) #[a,b,c,d,e,x]:=by
 obtain⟨h1,h2,h3⟩:=h;refine⟨?_,?_,h3.setCell (show w.heap.size≤w.heap.size+1 by omega) _⟩
 ·simp[World.setCell,Array.getElem?_modify,h1]
 ·simp[World.setCell,Array.getElem?_modify,h2]
theorem qS9 {W:World} {g:Nat} {a b c d e f:Value} {T:TypeId} (h:W.heap[g]?=some (.cells #[a,b,c,d,e,f] T (0,0))) (x0 x1 x2 x3 x4 x5:Value):((((((W.setCell ⟨g,0,none⟩ x0).setCell ⟨g,1,none⟩ x1).setCell ⟨g,2,none⟩ x2).setCell ⟨g,3,none⟩ x3).setCell ⟨g,4,none⟩ x4).setCell ⟨g,5,none⟩ x5).heap[g]?=some (.cells #[x0,x1,x2,x3,x4,x5] T (0,0)):=by
 simp[World.setCell,Array.getElem?_modify,h]
theorem zF2 {B:Nat} {w w':World} {g:Nat} (h:Below B w w') (hg:B≤g) (x0 x1 x2 x3 x4 x5:Value):Below B w ((((((w'.setCell ⟨g,0,none⟩ x0).setCell ⟨g,1,none⟩ x1).setCell ⟨g,2,none⟩ x2).setCell ⟨g,3,none⟩ x3).setCell ⟨g,4,none⟩ x4).setCell ⟨g,5,none⟩ x5) :=
 (((((h.setCell hg _).setCell hg _).setCell hg _).setCell hg _).setCell hg _).setCell hg _
def TkO (w:World) (C:Array Value) (k:Int) (r:Ending) (w':World):Prop:=r=.returned (.tuple #[.agg C,.int .i64 k])∧Bw w w'
theorem qG0 (L:List UInt8) (R:ByteArray) (n a:Nat) (neg sg iw hx re:Bool) (wd t1 t3:ByteArray) (t2:Bool) (t4 t5 kk:Int) (w:World)
  (hR:Hid (R=⟨L.toArray⟩)) (hn:R.size=n) (hL:n≤1048576) (hRe:R.toList.isEmpty=re)
  (hsg:Hid ((sg=false∧a=0∧neg=false∧(re=true∨(re=false∧0<n∧bL L 0≠43∧bL L 0≠45)))∨(sg=true∧a=1∧0<n∧re=false∧((bL L 0=45∧neg=true)∨(bL L 0=43∧neg=false)))))
  (hiw:Hid ((n<a+3∧iw=false)∨(a+3≤n∧R.extract a (a+3)=wd∧((iw=true∧(wd.toList == [105,110,102])=true)∨(iw=true∧(wd.toList == [105,110,102])=false∧(wd.toList == [110,97,110])=true)∨(iw=false∧(wd.toList == [105,110,102])=false∧(wd.toList == [110,97,110])=false)))))
  (hW:Hid (iw=true→t1=wd∧t2=false∧t3=⟨#[]⟩∧t4=0∧t5=0∧kk=((a+3:Nat):Int)))
  (hhx:Hid ((n<a+2∧hx=false)∨(a+2≤n∧((hx=false∧bL L a≠48)∨(bL L a=48∧((hx=true∧bL L (a+1)=120)∨(hx=true∧bL L (a+1)≠120∧bL L (a+1)=88)∨(hx=false∧bL L (a+1)≠120∧bL L (a+1)≠88)))))))
  (dH dD:ByteArray) (bH bD vH vD:Int) (eH lH eD lD:Nat) (mH oH mD oD zH zD:Bool) (hzH:dH.toList.isEmpty=zH) (hzD:dD.toList.isEmpty=zD) (heH:eH≤n) (heD:eD≤n)
  (kH:Hid (hx=true→∀ W,Calls Tryz.prog 82 #[.string R,.int .i64 ((a+2:Nat):Int),.int .i64 16] W fun r w'=>r=.returned (.tuple #[.string dH,.int .i64 bH,.int .i64 (eH:Nat)])∧Bw W w'))
  (hmH:Hid ((mH=true∧zH=false∧eH<n∧(bL L eH=112∨(bL L eH≠112∧bL L eH=80)))∨(mH=false∧(zH=true∨(zH=false∧n≤eH)∨(zH=false∧eH<n∧bL L eH≠112∧bL L eH≠80)))))
  (kHe:Hid (mH=true→∀ W,Calls Tryz.prog 83 #[.string R,.int .i64 ((eH+1:Nat):Int)] W fun r w'=>r=.returned (.tuple #[.int .i64 vH,.int .i64 (lH:Nat),.bool oH])∧w'=W))
  (hH:Hid (iw=false→hx=true→mH=true→oH=true→t1=⟨#[]⟩∧t2=true∧t3=dH∧t4=bH∧t5=vH∧kk=(lH:Nat)))
  (kD:Hid (∀ W,Calls Tryz.prog 82 #[.string R,.int .i64 (a:Nat),.int .i64 10] W fun r w'=>r=.returned (.tuple #[.string dD,.int .i64 bD,.int .i64 (eD:Nat)])∧Bw W w'))
  (hmD:Hid ((mD=true∧eD<n∧(bL L eD=101∨(bL L eD≠101∧bL L eD=69)))∨(mD=false∧(n≤eD∨(eD<n∧bL L eD≠101∧bL L eD≠69)))))
  (kDe:Hid (mD=true→∀ W,Calls Tryz.prog 83 #[.string R,.int .i64 ((eD+1:Nat):Int)] W fun r w'=>r=.returned (.tuple #[.int .i64 vD,.int .i64 (lD:Nat),.bool oD])∧w'=W))
  (hD:Hid (iw=false→¬ (hx=true∧mH=true∧oH=true)→t1=⟨#[]⟩∧t2=false∧((zD=true∧t3=⟨#[]⟩∧t4=0∧t5=0∧kk=0)∨(zD=false∧t3=dD∧t4=bD∧((mD=true∧oD=true∧t5=vD∧kk=(lD:Nat))∨(¬ (mD=true∧oD=true)∧t5=0∧kk=(eD:Nat))))))) :
  Calls Tryz.prog 30 #[.string R] w fun r w'=>TkO w #[.bool neg,.string t1,.bool t2,.string t3,.int .i64 t4,.int .i64 t5] kk r w':=by
 obtain⟨W,hW0⟩:∃ W,W=(w.alloc (.cells #[.bool false,.string ⟨#[]⟩,.bool false,.string ⟨#[]⟩,.int .i64 0,.int .i64 0] 50)).alloc (.cells #[.bool false,.string ⟨#[]⟩,.bool false,.string ⟨#[]⟩,.int .i64 0,.int .i64 0] 50):=⟨_,rfl⟩;have HW:Hid (TkB w W #[.bool false,.string ⟨#[]⟩,.bool false,.string ⟨#[]⟩,.int .i64 0,.int .i64 0]):=by
  obtain⟨z1,z2,z3,z4⟩:=qU3 _ _ hW0;exact⟨z1,z2,z4⟩
 have hRg:∀ k (h:k<R.size),(R[k]'h).toNat=bL L k:=by rw[hR.out];exact qP8 L
 have HRg:Hid (∀ k (h:k<R.size),(R[k]'h).toNat=bL L k):=hRg;clear hRg
 go_enter Tryz.func30,Tryz.ntmps30
 go_upto_region 2 with fail;rw[←hW0];clear hW0
 go_upto_region 3 with fail
 go_cut [30] from 19 to 29 (fun v wx=>v=.bool sg∧wx=W)
 case first =>
  rcases hsg.out with ⟨rfl,ha,hng,hq|⟨hq,hn0,h43,h45⟩⟩|⟨rfl,ha,hn0,hq,⟨hq2,hng⟩|⟨hq2,hng⟩⟩
  ·subst hq;clear ha hng
   go_wp2_with fail
   go_meet
   exact⟨rfl,rfl⟩
  ·subst hq;have hg0:=HRg.out 0;have h0:0<R.size:=by omega
   obtain⟨c,hc⟩:∃ c,c=bL L 0:=⟨_,rfl⟩;rw[←hc] at hg0 h43 h45;have z1:¬ (c:Int)=43:=by omega
   have z2:¬ (c:Int)=45:=by omega
   clear ha hng hc h43 h45
   go_wp2_with fail
   go_meet
   exact⟨by simp[z1,z2],rfl⟩
  ·subst hq;have hg0:=HRg.out 0;have h0:0<R.size:=by omega
   rw[hq2] at hg0;clear ha hng hq2
   go_wp2_with fail
   go_meet
   exact⟨rfl,rfl⟩
  ·subst hq;have hg0:=HRg.out 0;have h0:0<R.size:=by omega
   rw[hq2] at hg0;clear ha hng hq2
   go_wp2_with fail
   go_meet
   exact⟨rfl,rfl⟩
 case rest =>
 obtain⟨rfl,rfl⟩:=hcut
 go_upto_if 30 with fail
 go_cut [5] from 31 to 34 (fun v wx=>v=.int .i64 (a:Nat)∧Hid (TkB w wx #[.bool neg,.string ⟨#[]⟩,.bool false,.string ⟨#[]⟩,.int .i64 0,.int .i64 0]))
 case first =>
  rcases hsg.out with ⟨rfl,ha,hng,-⟩|⟨rfl,ha,hn0,hq,hq3⟩
  ·subst ha hng
   go_wp2_with fail
   go_meet
   exact⟨rfl,HW⟩
  ·have hg0:=HRg.out 0;have h0:0<R.size:=by omega
   obtain⟨c0,c1,c2,c3,c4,c5⟩:=qX7 HW.out.2.1;obtain⟨f0,f1,f2,f3,f4,f5⟩:=qB5 HW.out.2.1;rcases hq3 with ⟨hq2,hng⟩|⟨hq2,hng⟩
   ·rw[hq2] at hg0;subst ha hng hq;clear hq2;have HP:Hid (TkB w (wc.setCell ⟨w.heap.size+1,0,none⟩ (.bool true)) #[.bool true,.string ⟨#[]⟩,.bool false,.string ⟨#[]⟩,.int .i64 0,.int .i64 0]):=HW.out.put0 _
    go_wp2_with fail
    go_meet
    exact⟨rfl,HP⟩
   ·rw[hq2] at hg0;subst ha hng hq;clear hq2;have HP:Hid (TkB w (wc.setCell ⟨w.heap.size+1,0,none⟩ (.bool false)) #[.bool false,.string ⟨#[]⟩,.bool false,.string ⟨#[]⟩,.int .i64 0,.int .i64 0]):=HW.out.put0 _
    go_wp2_with fail
    go_meet
    exact⟨rfl,HP⟩
 case rest =>
 obtain⟨rfl,HV⟩:=hcut;have ha1:a≤1:=by rcases hsg.out with ⟨-,h,-⟩|⟨-,h,-⟩ <;> omega
 clear HW hsg;obtain⟨a2,ha2⟩:∃ a2,a2=a+2:=⟨_,rfl⟩;obtain⟨a3,ha3⟩:∃ a3,a3=a+3:=⟨_,rfl⟩;obtain⟨aa,ha4⟩:∃ aa,aa=a+1:=⟨_,rfl⟩;have hwa2:IntKind.i64.wrap ((a:Int)+2)=(a2:Int):=by rw[xM1];omega
 have hwa3:IntKind.i64.wrap ((a:Int)+3)=(a3:Int):=by rw[xM1];omega
 have hwa1:IntKind.i64.wrap ((a:Int)+1)=(aa:Int):=by rw[xM1];omega
 rw[←ha2] at kH hhx;rw[←ha3] at hiw hW;rw[←ha4] at hhx;have HA:Hid (a2=a+2∧a3=a+3∧aa=a+1):=⟨ha2,ha3,ha4⟩;clear ha2 ha3 ha4
 go_upto_region 6 with fail
 go_cut [55] from 35 to 54 (fun v wx=>v=.bool iw∧wx=wc)
 case first =>
  clear hH hD hW kH kHe kD kDe hmH hmD hhx;rcases hiw.out with ⟨h1,rfl⟩|⟨h1,h2,⟨rfl,h3⟩|⟨rfl,h3,h4⟩|⟨rfl,h3,h4⟩⟩
  ·have h1':¬ (a3:Int)≤(n:Int):=by omega
   go_wp2_with fail
   go_meet
   exact⟨rfl,rfl⟩
  ·have h1':(a3:Int)≤(n:Int):=by omega
   have ha30:(a:Int)≤(a3:Int):=by have:=HA.out;omega
   go_wp2_with fail
   go_meet
   exact⟨rfl,rfl⟩
  ·have h1':(a3:Int)≤(n:Int):=by omega
   have ha30:(a:Int)≤(a3:Int):=by have:=HA.out;omega
   go_wp2_with fail
   go_meet
   exact⟨rfl,rfl⟩
  ·have h1':(a3:Int)≤(n:Int):=by omega
   have ha30:(a:Int)≤(a3:Int):=by have:=HA.out;omega
   go_wp2_with fail
   go_meet
   exact⟨rfl,rfl⟩
 case rest =>
 obtain⟨rfl,rfl⟩:=hcut;obtain⟨c0,c1,c2,c3,c4,c5⟩:=qX7 HV.out.2.1;obtain⟨f0,f1,f2,f3,f4,f5⟩:=qB5 HV.out.2.1;obtain⟨b0,b1,b2,b3,b4,b5⟩:=qX7 HV.out.1;obtain⟨g0,g1,g2,g3,g4,g5⟩:=qB5 HV.out.1;cases iw
 case true =>
  obtain⟨rfl,rfl,rfl,rfl,rfl,rfl⟩:=hW.out rfl;have h2:a3≤n∧R.extract a a3=t1:=hiw.out.elim (fun h=>absurd h.2 (by decide)) (fun h=>⟨h.1,h.2.1⟩)
  obtain⟨h1,h2⟩:=h2;have h1':(a3:Int)≤(n:Int):=by omega
  have ha30:(a:Int)≤(a3:Int):=by have:=HA.out;omega
  have HP:Hid (TkB w (wc.setCell ⟨w.heap.size+1,1,none⟩ (.string t1)) #[.bool neg,.string t1,.bool false,.string ⟨#[]⟩,.int .i64 0,.int .i64 0]):=HV.out.put1 _;clear hH hD hW kH kHe kD kDe hmH hmD hhx hiw
  go_upto_region 8 with fail;obtain⟨U,hU⟩:∃ U,U=wc.setCell ⟨w.heap.size+1,1,none⟩ (.string t1):=⟨_,rfl⟩;rw[←hU] at HP ⊢;clear hU c0 c1 c2 c3 c4 c5 f0 f1 f2 f3 f4 f5 b0 b1 b2 b3 b4 b5 g0 g1 g2 g3 g4 g5;obtain⟨c0,c1,c2,c3,c4,c5⟩:=qX7 HP.out.2.1;obtain⟨b0,b1,b2,b3,b4,b5⟩:=qX7 HP.out.1;obtain⟨g0,g1,g2,g3,g4,g5⟩:=qB5 HP.out.1
  go_wp2_with fail;refine xM4 (qQ4 rfl _ _ w.heap.size 50 #[.bool neg,.string t1,.bool false,.string ⟨#[]⟩,.int .i64 0,.int .i64 0] (0,0) _ rfl (qS9 HP.out.1 _ _ _ _ _ _) Tryz.underlying50 rfl (by kernel_rfl)) rfl ?_
  exact⟨rfl,zF2 HP.out.2.2 (xB6 _) _ _ _ _ _ _⟩
 case false =>
 clear hW hiw
 go_upto_region 9 with fail
 go_cut [89] from 65 to 88 (fun v wx=>v=.bool hx∧wx=wc)
 case first =>
  clear hH hD kH kHe kD kDe hmH hmD;rcases hhx.out with ⟨h1,rfl⟩|⟨h1,⟨rfl,h2⟩|⟨h2,⟨rfl,h3⟩|⟨rfl,h3,h4⟩|⟨rfl,h3,h4⟩⟩⟩
  ·have h1':¬ (a2:Int)≤(n:Int):=by omega
   go_wp2_with fail
   go_meet
   exact⟨rfl,rfl⟩
  ·have h1':(a2:Int)≤(n:Int):=by omega
   have hga:=HRg.out a;have haR:a<R.size:=by have:=HA.out;omega
   obtain⟨c,hc⟩:∃ c,c=bL L a:=⟨_,rfl⟩;rw[←hc] at hga h2;have z1:¬ (c:Int)=48:=by omega
   clear hc h2
   go_wp2_with fail
   go_meet
   exact⟨by simp[z1],rfl⟩
  ·have h1':(a2:Int)≤(n:Int):=by omega
   have hga:=HRg.out a;have haR:a<R.size:=by have:=HA.out;omega
   have hgb:=HRg.out aa;have hbR:aa<R.size:=by have:=HA.out;omega
   rw[h2] at hga;rw[h3] at hgb;clear h2 h3 
   go_wp2_with fail
   go_meet
   exact⟨rfl,rfl⟩
  ·have h1':(a2:Int)≤(n:Int):=by omega
   have hga:=HRg.out a;have haR:a<R.size:=by have:=HA.out;omega
   have hgb:=HRg.out aa;have hbR:aa<R.size:=by have:=HA.out;omega
   rw[h2] at hga;rw[h4] at hgb;clear h2 h4 h3
   go_wp2_with fail
   go_meet
   exact⟨rfl,rfl⟩
  ·have h1':(a2:Int)≤(n:Int):=by omega
   have hga:=HRg.out a;have haR:a<R.size:=by have:=HA.out;omega
   have hgb:=HRg.out aa;have hbR:aa<R.size:=by have:=HA.out;omega
   rw[h2] at hga;obtain⟨c,hc⟩:∃ c,c=bL L aa:=⟨_,rfl⟩;rw[←hc] at hgb h3 h4;have z1:¬ (c:Int)=120:=by omega
   have z2:¬ (c:Int)=88:=by omega
   clear hc h2 h3 h4
   go_wp2_with fail
   go_meet
   exact⟨by simp[z1,z2],rfl⟩
 case rest =>
 obtain⟨rfl,rfl⟩:=hcut;clear hhx c0 c1 c2 c3 c4 c5 f0 f1 f2 f3 f4 f5 b0 b1 b2 b3 b4 b5 g0 g1 g2 g3 g4 g5;obtain⟨eH1,heH1⟩:∃ x,x=eH+1:=⟨_,rfl⟩;obtain⟨eD1,heD1⟩:∃ x,x=eD+1:=⟨_,rfl⟩;have hwH:IntKind.i64.wrap ((eH:Int)+1)=(eH1:Int):=by rw[xM1];omega
 have hwD:IntKind.i64.wrap ((eD:Int)+1)=(eD1:Int):=by rw[xM1];omega
 rw[←heH1] at kHe;rw[←heD1] at kDe;clear heH1 heD1
 go_upto_if 89 with fail
 go_cut [6,7,8,9,10,11] from 90 to 135 (fun v6 v7 v8 v9 v10 v11 wx=>¬ (hx=true∧mH=true∧oH=true)∧Hid (TkB w wx #[.bool neg,.string ⟨#[]⟩,.bool false,.string ⟨#[]⟩,.int .i64 0,.int .i64 0]))
 case first =>
  clear hD kD kDe hmD;cases hx
  case false =>
   go_wp2_with fail
   go_meet
   exact⟨fun h=>absurd h.1 (by decide),HV⟩
  case true =>
   have kh:=kH.out rfl wc;clear kH
   go_wp2_with fail;refine kh.mono ?_;rintro r w2 ⟨rfl,hb2⟩;have HV2:Hid (TkB w w2 #[.bool neg,.string ⟨#[]⟩,.bool false,.string ⟨#[]⟩,.int .i64 0,.int .i64 0]):=HV.out.later hb2;clear kh hb2 HV
   go_upto_region 11 with fail
   go_cut [117] from 98 to 116 (fun v wx=>v=.bool mH∧wx=w2)
   case first =>
    clear hH kHe;rcases hmH.out with ⟨rfl,hz0,h1,h2|⟨h2,h3⟩⟩|⟨rfl,hz0|⟨hz0,h1⟩|⟨hz0,h1,h2,h3⟩⟩
    ·subst hz0;have hge:=HRg.out eH;have heR:eH<R.size:=by omega
     have h1':(eH:Int)<(n:Int):=by omega
     rw[h2] at hge;clear h2
     go_wp2_with fail
     go_meet
     exact⟨rfl,rfl⟩
    ·subst hz0;have hge:=HRg.out eH;have heR:eH<R.size:=by omega
     have h1':(eH:Int)<(n:Int):=by omega
     rw[h3] at hge;clear h2 h3
     go_wp2_with fail
     go_meet
     exact⟨rfl,rfl⟩
    ·subst hz0
     go_wp2_with fail
     go_meet
     exact⟨rfl,rfl⟩
    ·subst hz0;have h1':¬ (eH:Int)<(n:Int):=by omega
     go_wp2_with fail
     go_meet
     exact⟨rfl,rfl⟩
    ·subst hz0;have hge:=HRg.out eH;have heR:eH<R.size:=by omega
     have h1':(eH:Int)<(n:Int):=by omega
     obtain⟨c,hc⟩:∃ c,c=bL L eH:=⟨_,rfl⟩;rw[←hc] at hge h2 h3;have z1:¬ (c:Int)=112:=by omega
     have z2:¬ (c:Int)=80:=by omega
     clear hc h2 h3
     go_wp2_with fail
     go_meet
     exact⟨by simp[z1,z2],rfl⟩
   case rest =>
   obtain⟨rfl,rfl⟩:=hcut;cases mH
   case false =>
    go_wp2_with fail
    go_meet
    exact⟨fun h=>absurd h.2.1 (by decide),HV2⟩
   case true =>
    have ke:=kHe.out rfl wc;clear kHe hmH
    go_wp2_with fail;refine ke.mono ?_;rintro r w3 ⟨rfl,hw⟩;replace hw:=hw.symm;subst hw;clear ke;cases oH
    case false =>
     clear hH
     go_wp2_with fail
     go_meet
     exact⟨fun h=>absurd h.2.2 (by decide),HV2⟩
    case true =>
     obtain⟨rfl,rfl,rfl,rfl,rfl,rfl⟩:=hH.out (by first|rfl|trivial) (by first|rfl|trivial) (by first|rfl|trivial) (by first|rfl|trivial)
     clear hH;have HP:Hid (TkB w ((((wc.setCell ⟨w.heap.size+1,2,none⟩ (.bool true)).setCell ⟨w.heap.size+1,3,none⟩ (.string t3)).setCell ⟨w.heap.size+1,4,none⟩ (.int .i64 t4)).setCell ⟨w.heap.size+1,5,none⟩ (.int .i64 t5)) #[.bool neg,.string ⟨#[]⟩,.bool true,.string t3,.int .i64 t4,.int .i64 t5]):=(((HV2.out.put2 _).put3 _).put4 _).put5 _;obtain⟨c0,c1,c2,c3,c4,c5⟩:=qX7 HV2.out.2.1;obtain⟨f0,f1,f2,f3,f4,f5⟩:=qB5 HV2.out.2.1
     go_upto_region 18 with fail;obtain⟨U,hU⟩:∃ U,U=(((wc.setCell ⟨w.heap.size+1,2,none⟩ (.bool true)).setCell ⟨w.heap.size+1,3,none⟩ (.string t3)).setCell ⟨w.heap.size+1,4,none⟩ (.int .i64 t4)).setCell ⟨w.heap.size+1,5,none⟩ (.int .i64 t5):=⟨_,rfl⟩;rw[←hU] at HP ⊢;clear hU c0 c1 c2 c3 c4 c5 f0 f1 f2 f3 f4 f5;obtain⟨c0,c1,c2,c3,c4,c5⟩:=qX7 HP.out.2.1;obtain⟨b0,b1,b2,b3,b4,b5⟩:=qX7 HP.out.1;obtain⟨g0,g1,g2,g3,g4,g5⟩:=qB5 HP.out.1
     go_wp2_with fail;refine xM4 (qQ4 rfl _ _ w.heap.size 50 #[.bool neg,.string ⟨#[]⟩,.bool true,.string t3,.int .i64 t4,.int .i64 t5] (0,0) _ rfl (qS9 HP.out.1 _ _ _ _ _ _) Tryz.underlying50 rfl (by kernel_rfl)) rfl ?_
     exact⟨rfl,zF2 HP.out.2.2 (xB6 _) _ _ _ _ _ _⟩
 case rest =>
 obtain⟨hna,HV3⟩:=hcut;obtain⟨rfl,rfl,hdd⟩:=hD.out rfl hna;have HDD:Hid _:=hdd;have kd:=kD.out wc;clear HV hna hdd hD hH kH kHe hmH kD
 go_wp2_with fail;refine kd.mono ?_;rintro r w2 ⟨rfl,hb2⟩;have HV2:Hid (TkB w w2 #[.bool neg,.string ⟨#[]⟩,.bool false,.string ⟨#[]⟩,.int .i64 0,.int .i64 0]):=HV3.out.later hb2;clear kd hb2 HV3;obtain⟨c0,c1,c2,c3,c4,c5⟩:=qX7 HV2.out.2.1;obtain⟨f0,f1,f2,f3,f4,f5⟩:=qB5 HV2.out.2.1;rcases HDD.out with ⟨hz0,rfl,rfl,rfl,rfl⟩|⟨hz0,rfl,rfl,hee⟩
 ·subst hz0;clear HDD kDe hmD;obtain⟨b0,b1,b2,b3,b4,b5⟩:=qX7 HV2.out.1;obtain⟨g0,g1,g2,g3,g4,g5⟩:=qB5 HV2.out.1
  go_wp2_with fail;refine xM4 (qQ4 rfl _ _ w.heap.size 50 #[.bool neg,.string ⟨#[]⟩,.bool false,.string ⟨#[]⟩,.int .i64 0,.int .i64 0] (0,0) _ rfl (qS9 HV2.out.1 _ _ _ _ _ _) Tryz.underlying50 rfl (by kernel_rfl)) rfl ?_
  exact⟨rfl,zF2 HV2.out.2.2 (xB6 _) _ _ _ _ _ _⟩
 ·subst hz0;have HEE:Hid ((mD=true∧oD=true∧t5=vD∧kk=(lD:Nat))∨(¬ (mD=true∧oD=true)∧t5=0∧kk=(eD:Nat))):=hee;clear HDD hee;have HP:Hid (TkB w ((w2.setCell ⟨w.heap.size+1,3,none⟩ (.string t3)).setCell ⟨w.heap.size+1,4,none⟩ (.int .i64 t4)) #[.bool neg,.string ⟨#[]⟩,.bool false,.string t3,.int .i64 t4,.int .i64 0]):=(HV2.out.put3 _).put4 _
  go_upto_region 24 with fail;obtain⟨U,hU⟩:∃ U,U=(w2.setCell ⟨w.heap.size+1,3,none⟩ (.string t3)).setCell ⟨w.heap.size+1,4,none⟩ (.int .i64 t4):=⟨_,rfl⟩;rw[←hU] at HP ⊢;clear hU c0 c1 c2 c3 c4 c5 f0 f1 f2 f3 f4 f5 HV2
  go_cut [165] from 150 to 164 (fun v wx=>v=.bool mD∧wx=U)
  case first =>
   clear kDe HEE;rcases hmD.out with ⟨rfl,h1,h2|⟨h2,h3⟩⟩|⟨rfl,h1|⟨h1,h2,h3⟩⟩
   ·have hge:=HRg.out eD;have heR:eD<R.size:=by omega
    have h1':(eD:Int)<(n:Int):=by omega
    rw[h2] at hge;clear h2
    go_wp2_with fail
    go_meet
    exact⟨rfl,rfl⟩
   ·have hge:=HRg.out eD;have heR:eD<R.size:=by omega
    have h1':(eD:Int)<(n:Int):=by omega
    rw[h3] at hge;clear h2 h3
    go_wp2_with fail
    go_meet
    exact⟨rfl,rfl⟩
   ·have h1':¬ (eD:Int)<(n:Int):=by omega
    go_wp2_with fail
    go_meet
    exact⟨rfl,rfl⟩
   ·have hge:=HRg.out eD;have heR:eD<R.size:=by omega
    have h1':(eD:Int)<(n:Int):=by omega
    obtain⟨c,hc⟩:∃ c,c=bL L eD:=⟨_,rfl⟩;rw[←hc] at hge h2 h3;have z1:¬ (c:Int)=101:=by omega
    have z2:¬ (c:Int)=69:=by omega
    clear hc h2 h3
    go_wp2_with fail
    go_meet
    exact⟨by simp[z1,z2],rfl⟩
  case rest =>
  obtain⟨rfl,rfl⟩:=hcut;clear hmD
  go_upto_if 165 with fail
  go_cut [14,15,16,17] from 166 to 177 (fun v14 v15 v16 v17 wx=>v14=.int .i64 kk∧Hid (TkB w wx #[.bool neg,.string ⟨#[]⟩,.bool false,.string t3,.int .i64 t4,.int .i64 t5]))
  case first =>
   cases mD
   case false =>
    obtain⟨rfl,rfl⟩:t5=0∧kk=(eD:Nat):=HEE.out.elim (fun h=>absurd h.1 (by simp)) (fun h=>h.2)
    clear HEE kDe
    go_wp2_with fail
    go_meet
    exact⟨rfl,HP⟩
   case true =>
    have ke:=kDe.out (by first|rfl|trivial) wc
    clear kDe
    go_wp2_with fail;refine ke.mono ?_;rintro r w3 ⟨rfl,hw⟩;replace hw:=hw.symm;subst hw;clear ke;cases oD
    case false =>
     obtain⟨rfl,rfl⟩:t5=0∧kk=(eD:Nat):=HEE.out.elim (fun h=>absurd h.2.1 (by simp)) (fun h=>h.2)
     clear HEE
     go_wp2_with fail
     go_meet
     exact⟨rfl,HP⟩
    case true =>
     obtain⟨rfl,rfl⟩:t5=vD∧kk=(lD:Nat):=HEE.out.elim (fun h=>⟨h.2.2.1,h.2.2.2⟩) (fun h=>absurd (And.intro (by first|rfl|trivial) (by first|rfl|trivial)) h.1)
     clear HEE;have HP2:Hid (TkB w (wc.setCell ⟨w.heap.size+1,5,none⟩ (.int .i64 t5)) #[.bool neg,.string ⟨#[]⟩,.bool false,.string t3,.int .i64 t4,.int .i64 t5]):=HP.out.put5 _;obtain⟨c0,c1,c2,c3,c4,c5⟩:=qX7 HP.out.2.1;obtain⟨f0,f1,f2,f3,f4,f5⟩:=qB5 HP.out.2.1
     go_wp2_with fail
     go_meet
     exact⟨rfl,HP2⟩
  case rest =>
  obtain⟨rfl,HF⟩:=hcut;clear HP HEE kDe;obtain⟨c0,c1,c2,c3,c4,c5⟩:=qX7 HF.out.2.1;obtain⟨b0,b1,b2,b3,b4,b5⟩:=qX7 HF.out.1;obtain⟨g0,g1,g2,g3,g4,g5⟩:=qB5 HF.out.1
  go_wp2_with fail;refine xM4 (qQ4 rfl _ _ w.heap.size 50 #[.bool neg,.string ⟨#[]⟩,.bool false,.string t3,.int .i64 t4,.int .i64 t5] (0,0) _ rfl (qS9 HF.out.1 _ _ _ _ _ _) Tryz.underlying50 rfl (by kernel_rfl)) rfl ?_
  exact⟨rfl,zF2 HF.out.2.2 (xB6 _) _ _ _ _ _ _⟩
def mkL (b:Int):List UInt8:=if b=16 then [112,80] else [101,69]
theorem xY5 {b:Int} (hb:b=10∨b=16) {x:UInt8} (h:isDg x.toNat b=true):(mkL b).contains x=false:=by
 have key:∀ n:Fin 256,(isDg n.val 10=true→n.val≠101∧n.val≠69)∧(isDg n.val 16=true→n.val≠112∧n.val≠80):=by decide +kernel
 have h1:=key ⟨x.toNat,x.toNat_lt⟩;have ne:∀ {y:UInt8},x.toNat≠y.toNat→x≠y:=fun h e=>h (by rw[e])
 rcases hb with rfl|rfl
 ·have h2:=h1.1 h;have e1:x≠101:=ne h2.1;have e2:x≠69:=ne h2.2;simp[mkL,e1,e2]
 ·have h2:=h1.2 h;have e1:x≠112:=ne h2.1;have e2:x≠80:=ne h2.2;simp[mkL,e1,e2]
theorem xY4 {b:Int} (hb:b=10∨b=16):(mkL b).contains 46=false:=by rcases hb with rfl|rfl <;> decide
theorem mk_x {b:Int} (hb:b=10∨b=16) {A B:List UInt8} {dt:Bool} (hA:qX9 A b=true) (hB:qX9 B b=true):∀ x ∈ A++dtL dt B,(mkL b).contains x=false:=by
 intro x hx;rcases List.mem_append.1 hx with h|h
 ·exact xY5 hb (qV9 hA x h)
 ·cases dt
  ·simp[dtL] at h
  ·rcases List.mem_cons.1 (show x ∈ 46 :: B from h)with h|h
   ·rw[h];exact xY4 hb
   ·exact xY5 hb (qV9 hB x h)
theorem zX4 {S T A B Rr:List UInt8} {b:Int} {dt:Bool} (hb:b=10∨b=16) (hT:psS S=T) (hM:psM S=mkL b) (hpb:psb S=b) (hTX:T=A++dtL dt B++Rr) (hA:qX9 A b=true) (hB:qX9 B b=true) (hdt:dt=false→B = []) (hst:zO3 b dt Rr) :
  (Rr = []∧psOk S=(!hexP S&&decide (A++B ≠ []))∧psD S=A++B∧psH S=B.length∧psX S=0) ∨
  (∃ c R',Rr=c :: R'∧(mkL b).contains c=true∧psOk S=(exO R'&&decide (A++B ≠ []))∧psD S=A++B∧psH S=B.length∧psX S=exX R') ∨
  (∃ c R',Rr=c :: R'∧(mkL b).contains c=false∧psOk S=false):=by
 obtain⟨cA,cB⟩:=cu_dt (A:=A) (B:=B) (dt:=dt) hA hdt;have hall:qX9 (A++B) b=true:=by rw[zZ0,hA,hB];rfl
 have hdg:dgO b (A++B)=decide (A++B ≠ []):=by unfold dgO;rw[hall,Bool.true_and]
 rcases hst with h0|⟨c,R',h1,h2,h3⟩
 ·left
  have hv:psV S = -1:=by unfold psV;rw[hT,hM,hTX,h0,List.append_nil];exact zG9 (mk_x hb hA hB)
  have hD0:psD0 S=A++dtL dt B:=by unfold psD0;rw[hv,if_neg (by decide),hT,hTX,h0,List.append_nil]
  refine⟨h0,?_,?_,?_,?_⟩
  ·unfold psOk psD;rw[hv,if_neg (by decide),hD0,cA,cB,hpb,hdg]
  ·unfold psD;rw[hD0,cA,cB]
  ·unfold psH;rw[hD0,cB]
  ·unfold psX;rw[hv,if_neg (by decide)]
 ·right
  by_cases hc:(mkL b).contains c=true
  ·left
   have hv:psV S=((A++dtL dt B).length:Nat):=by unfold psV;rw[hT,hM,hTX,h1];exact zL8 hc (mk_x hb hA hB)
   have hD0:psD0 S=A++dtL dt B:=by unfold psD0;rw[hv,if_pos (by omega),hT,hTX,xP4,List.take_append,List.take_of_length_le (xB6 _),Nat.sub_self,List.take_zero,List.append_nil]
   have hE:psE S=R':=by
    unfold psE;rw[hv,hT,hTX,h1,xP4,List.drop_append,List.drop_eq_nil_of_le (by omega)]
    simp
   refine⟨c,R',h1,hc,?_,?_,?_,?_⟩
   ·unfold psOk psD;rw[hv,if_pos (by omega),hD0,cA,cB,hpb,hdg,hE]
   ·unfold psD;rw[hD0,cA,cB]
   ·unfold psH;rw[hD0,cB]
   ·unfold psX;rw[hv,if_pos (by omega),hE]
  ·right
   have hc':(mkL b).contains c=false:=by simpa using hc
   refine⟨c,R',h1,hc',?_⟩
   have key:∃ R'',psD0 S=A++dtL dt B++c :: R'':=by
    unfold psD0;rw[hT,hTX,h1];by_cases hv:0≤psV S
    ·rw[if_pos hv];rcases qV7 (psS S) (psM S)with h4|⟨i,h4,h5,y,h6,h7⟩
     ·have:psV S = -1:=h4
      omega
     ·have hvi:psV S=(i:Int):=h5;rw[hvi,xP4];rw[hT,hTX,h1] at h6;rw[hM] at h7;have hi:(A++dtL dt B).length<i:=by
       rcases Nat.lt_trichotomy i (A++dtL dt B).length with h8|h8|h8
       ·rw[List.getElem?_append_left h8] at h6;have:=mk_x hb hA hB y (List.mem_of_getElem? h6)
        rw[h7] at this;cases this
       ·rw[List.getElem?_append_right (by omega),h8,Nat.sub_self] at h6
        obtain rfl:c=y:=xB8 h6;rw[h7] at hc';cases hc'
       ·exact h8
      obtain⟨d,hd⟩:∃ d,i=(A++dtL dt B).length+(d+1):=⟨i - (A++dtL dt B).length - 1,by omega⟩
      refine⟨R'.take d,?_⟩
      rw[hd,List.take_append,List.take_of_length_le (by omega)]
      congr 1
      rw[show(A++dtL dt B).length+(d+1) - (A++dtL dt B).length=d+1 by omega]
      rfl
    ·rw[if_neg hv];exact⟨R',rfl⟩
   obtain⟨R'',hR⟩:=key;unfold psOk psD;rw[hR,hpb,xV2 hA hB hdt h2 h3,Bool.and_false]
def TkS (s:List UInt8) (t1:ByteArray) (t2:Bool) (t3:ByteArray) (t4 t5 k:Int):Prop :=
 (csD s = [105,110,102]→t1=⟨#[105,110,102]⟩∧t3=⟨#[]⟩∧k=(s.length:Nat)∧k≠0) ∧
 (csD s = [110,97,110]→t1=⟨#[110,97,110]⟩∧t3=⟨#[]⟩∧k=(s.length:Nat)∧k≠0) ∧
 (csD s ≠ [105,110,102]→csD s ≠ [110,97,110]→psOk (csD s)=true→t1=⟨#[]⟩∧t2=hexP (csD s)∧t3=⟨(psD (csD s)).toArray⟩∧t4=(psH (csD s):Nat)∧psX (csD s)=max (-6000) (min 6000 t5)∧(-1000000000≤t5∧t5≤1000000000)∧k=(s.length:Nat)∧k≠0) ∧
 (csD s ≠ [105,110,102]→csD s ≠ [110,97,110]→psOk (csD s)=false→k=0∨k≠(s.length:Nat))
theorem qJ3 (L:List UInt8):(⟨L.toArray⟩:ByteArray).toList.isEmpty=L.isEmpty:=by rw[qW]
theorem yH9 (L:List UInt8) (n a:Nat) (b:Int) (hb:b=10∨b=16) (hn:n=L.length) (hL:n≤2000000) (ha:a≤n) :
  ∃ A B dt Rr,L.drop a=A++dtL dt B++Rr∧qX9 A b=true∧qX9 B b=true∧(dt=false→B = [])∧zO3 b dt Rr ∧
   ∀ w,Calls Tryz.prog 82 #[.string ⟨L.toArray⟩,.int .i64 a,.int .i64 b] w fun r w'=>r=.returned (.tuple #[.string ⟨(A++B).toArray⟩,.int .i64 (B.length:Nat),.int .i64 ((a+(A++dtL dt B).length:Nat):Int)])∧Bw w w':=by
 obtain⟨A,B,dt,Rr,h1,h2,h3,h4,h5,h6⟩:=sp1 hb (L.drop a) [] a;refine⟨A,B,dt,Rr,h1,h2,h3,h4,h5,fun w=>?_⟩
 have k:=xJ8 L n a b w hn hL ha;rw[h6] at k;simp only[List.nil_append,List.length_nil] at k;rw[bh_dt h4] at k;exact k
theorem qL1 {L X Rr:List UInt8} {a:Nat} (h:L.drop a=X++Rr) (ha:a≤L.length):L.drop (a+X.length)=Rr∧a+X.length+Rr.length=L.length:=by
 constructor
 ·rw[←List.drop_drop,h,List.drop_append,List.drop_eq_nil_of_le (xB6 _)];simp
 ·have:=congrArg List.length h
  rw[List.length_drop,xP5] at this;omega
theorem yJ8 (s:List UInt8):∃ (a:Nat) (sg:Bool),csD s=s.drop a∧a≤s.length∧((sg=false∧a=0∧decide (csS s<0)=false∧(s = []∨(0<s.length∧bL s 0≠43∧bL s 0≠45)))∨(sg=true∧a=1∧0<s.length∧((bL s 0=45∧decide (csS s<0)=true)∨(bL s 0=43∧decide (csS s<0)=false)))):=by
 cases s with
 | nil=>exact⟨0,false,rfl,xB6 _,.inl ⟨rfl,rfl,by decide,.inl rfl⟩⟩
 | cons c r =>
  by_cases h45:c=45
  ·subst h45;exact⟨1,true,rfl,by simp,.inr ⟨rfl,rfl,by simp,.inl ⟨rfl,rfl⟩⟩⟩
  ·by_cases h43:c=43
   ·subst h43;exact⟨1,true,rfl,by simp,.inr ⟨rfl,rfl,by simp,.inr ⟨rfl,rfl⟩⟩⟩
   ·have h1:¬ (some c=some (45:UInt8)):=fun h=>h45 (xB8 h);have h2:¬ (some c=some (43:UInt8)):=fun h=>h43 (xB8 h);refine⟨0,false,?_,xM0 _,.inl ⟨rfl,rfl,?_,.inr ⟨by simp,?_,?_⟩⟩⟩
    ·unfold csD;rw[if_neg (by rw[List.head?_cons];exact fun h=>h.elim h1 h2)];rfl
    ·unfold csS;rw[List.head?_cons,if_neg h1];rfl
    ·intro h;exact h43 (UInt8.toNat_inj.1 (show c.toNat=(43:UInt8).toNat from h))
    ·intro h;exact h45 (UInt8.toNat_inj.1 (show c.toNat=(45:UInt8).toNat from h))
def Pk (s:List UInt8) (n a:Nat) (b:Int) (A B:List UInt8) (dt:Bool) (Rr:List UInt8) (v:Int) (e l:Nat) (m o:Bool):Prop :=
 e=a+(A++dtL dt B).length∧e≤n ∧
 (m=true→∃ c R',Rr=c :: R'∧(mkL b).contains c=true∧e<n∧bL s e=c.toNat∧R'=s.drop (e+1)∧ExA s n (e+1) v l o) ∧
 (m=false→(Rr = []∧e=n)∨∃ c R',Rr=c :: R'∧(mkL b).contains c=false∧e<n∧bL s e=c.toNat)
theorem xX4 {s:List UInt8} {n a:Nat} {b:Int} {A B:List UInt8} {dt:Bool} {Rr:List UInt8} (hn:n=s.length) (hL:n≤2000000) (ha:a≤n) (h:s.drop a=A++dtL dt B++Rr):∃ v e l m o,Pk s n a b A B dt Rr v e l m o:=by
 obtain⟨h1,h2⟩:=qL1 h (by omega)
 cases Rr with
 | nil =>
  rw[List.length_nil] at h2;exact⟨0,_,0,false,false,rfl,by omega,(fun h=>by cases h),fun _=>.inl ⟨rfl,by omega⟩⟩
 | cons c R' =>
  rw[List.length_cons] at h2;have hb:bL s (a+(A++dtL dt B).length)=c.toNat:=by
   have:=qH0 s (a+(A++dtL dt B).length) 0
   rw[h1,Nat.add_zero] at this;rw[←this];rfl
  have hd:R'=s.drop (a+(A++dtL dt B).length+1):=by rw[←List.drop_drop,h1];rfl
  by_cases hc:(mkL b).contains c=true
  ·obtain⟨v,l,o,hE⟩:=zE6 s n (a+(A++dtL dt B).length+1) hn hL (by omega)
   exact⟨v,_,l,true,o,rfl,by omega,fun _=>⟨c,R',rfl,hc,by omega,hb,hd,hE⟩,(fun h=>by cases h)⟩
  ·exact⟨0,_,0,false,false,rfl,by omega,(fun h=>by cases h),fun _=>.inr ⟨c,R',rfl,by simpa using hc,by omega,hb⟩⟩
theorem mk10 {c:UInt8}:((mkL 10).contains c=true→c.toNat=101∨(c.toNat≠101∧c.toNat=69))∧((mkL 10).contains c=false→c.toNat≠101∧c.toNat≠69):=by
 have key:∀ n:Fin 256,(([101,69]:List UInt8).contains (UInt8.ofNat n.val)=true→n.val=101∨(n.val≠101∧n.val=69))∧(([101,69]:List UInt8).contains (UInt8.ofNat n.val)=false→n.val≠101∧n.val≠69):=by decide +kernel
 have h:=key ⟨c.toNat,c.toNat_lt⟩;simp only[UInt8.ofNat_toNat] at h;exact h
theorem mk16 {c:UInt8}:((mkL 16).contains c=true→c.toNat=112∨(c.toNat≠112∧c.toNat=80))∧((mkL 16).contains c=false→c.toNat≠112∧c.toNat≠80):=by
 have key:∀ n:Fin 256,(([112,80]:List UInt8).contains (UInt8.ofNat n.val)=true→n.val=112∨(n.val≠112∧n.val=80))∧(([112,80]:List UInt8).contains (UInt8.ofNat n.val)=false→n.val≠112∧n.val≠80):=by decide +kernel
 have h:=key ⟨c.toNat,c.toNat_lt⟩;simp only[UInt8.ofNat_toNat] at h;exact h
theorem qB0 (S:List UInt8):(hexP S=true∧∃ c T,S=48 :: c :: T∧(c=120∨c=88))∨(hexP S=false∧∀ c T,S=48 :: c :: T→c≠120∧c≠88):=by
 match S with
 | []=>right;exact⟨by decide,fun c T h=>by cases h⟩
 | [x]=>right;exact⟨by unfold hexP Lib.hasPrefix;simp[List.isPrefixOf],fun c T h=>by cases h⟩
 | x :: c :: T =>
  by_cases h1:x=48
  ·subst h1;by_cases h2:c=120
   ·subst h2;left;exact⟨by unfold hexP Lib.hasPrefix;simp,_,_,rfl,.inl rfl⟩
   ·by_cases h3:c=88
    ·subst h3;left;exact⟨by unfold hexP Lib.hasPrefix;simp,_,_,rfl,.inr rfl⟩
    ·right
     refine⟨by unfold hexP Lib.hasPrefix;simp[List.isPrefixOf,Ne.symm h2,Ne.symm h3],?_⟩
     intro c' T' h;injection h with _ h;injection h with h _;subst h;exact⟨h2,h3⟩
  ·right
   refine⟨by unfold hexP Lib.hasPrefix;simp[List.isPrefixOf,Ne.symm h1],?_⟩
   intro c' T' h;injection h with h _;exact absurd h h1
theorem yB7 {S:List UInt8} (h:hexP S=true):psS S=S.drop 2∧psM S=mkL 16∧psb S=16:=by
 unfold psS psM psb mkL;rw[if_pos h,if_pos h,if_pos h];exact⟨rfl,rfl,rfl⟩
theorem zT0 {S:List UInt8} (h:hexP S=false):psS S=S∧psM S=mkL 10∧psb S=10:=by
 have h':¬ hexP S=true:=by rw[h];decide
 unfold psS psM psb mkL;rw[if_neg h',if_neg h',if_neg h'];exact⟨rfl,rfl,rfl⟩
theorem yR0 {S:List UInt8} {c:UInt8} {r:List UInt8} (h:S=c :: r) (hc:c=105∨c=110):psOk S=false:=by
 have hx:hexP S=false:=by
  rw[h];unfold hexP Lib.hasPrefix;rcases hc with rfl|rfl <;> cases r <;> simp[List.isPrefixOf]
 obtain⟨p1,p2,p3⟩:=zT0 hx;have hd:isDg c.toNat 10=false:=by rcases hc with rfl|rfl <;> decide
 have hm:(mkL 10).contains c=false:=by rcases hc with rfl|rfl <;> decide
 have h46:c≠46:=by rcases hc with rfl|rfl <;> decide
 rcases zX4 (A := []) (B := []) (dt:=false) (Rr:=c :: r) (.inl rfl) p1 p2 p3 (by rw[h];rfl) rfl rfl (fun _=>rfl) (.inr ⟨c,r,rfl,hd,fun _=>h46⟩)with ⟨h1,-⟩|⟨c',R',h1,h2,-⟩|⟨c',R',h1,h2,h3⟩
 ·cases h1
 ·injection h1 with h1 _;rw[←h1,hm] at h2;cases h2
 ·exact h3
def TkC (s:List UInt8) (t1:ByteArray) (t2:Bool) (t3:ByteArray) (t4 t5 k:Int):Prop:=∀ w,Calls Tryz.prog 30 #[.string ⟨s.toArray⟩] w fun r w'=>TkO w #[.bool (decide (csS s<0)),.string t1,.bool t2,.string t3,.int .i64 t4,.int .i64 t5] k r w'
theorem yN4 {s:List UInt8} {a:Nat}:(⟨s.toArray⟩:ByteArray).extract a (a+3)=⟨((s.drop a).take 3).toArray⟩:=by
 apply ByteArray.ext
 rw[ByteArray.data_extract];apply Array.ext'
 rw[Array.toList_extract];simp[List.extract_eq_take_drop]
theorem xK1 {s:List UInt8} {n a:Nat} {sg:Bool} (hn:n=s.length) (h:(sg=false∧a=0∧decide (csS s<0)=false∧(s = []∨(0<s.length∧bL s 0≠43∧bL s 0≠45)))∨(sg=true∧a=1∧0<s.length∧((bL s 0=45∧decide (csS s<0)=true)∨(bL s 0=43∧decide (csS s<0)=false)))) :
  (sg=false∧a=0∧decide (csS s<0)=false∧(s.isEmpty=true∨(s.isEmpty=false∧0<n∧bL s 0≠43∧bL s 0≠45)))∨(sg=true∧a=1∧0<n∧s.isEmpty=false∧((bL s 0=45∧decide (csS s<0)=true)∨(bL s 0=43∧decide (csS s<0)=false))):=by
 have he:0<s.length→s.isEmpty=false:=fun h=>by cases s with
  | nil=>simp at h
  | cons _ _=>rfl
 rcases h with ⟨h1,h2,h3,h4|⟨h4,h5⟩⟩|⟨h1,h2,h3,h4⟩
 ·exact .inl ⟨h1,h2,h3,.inl (by rw[h4];rfl)⟩
 ·exact .inl ⟨h1,h2,h3,.inr ⟨he h4,by omega,h5⟩⟩
 ·exact .inr ⟨h1,h2,by omega,he h3,h4⟩
theorem xK2 {s S:List UInt8} {n a:Nat} (hn:n=s.length) (hS:S=s.drop a) (ha:a≤n) :
  (n<a+2∧hexP S=false)∨(a+2≤n∧((hexP S=false∧bL s a≠48)∨(bL s a=48∧((hexP S=true∧bL s (a+1)=120)∨(hexP S=true∧bL s (a+1)≠120∧bL s (a+1)=88)∨(hexP S=false∧bL s (a+1)≠120∧bL s (a+1)≠88))))):=by
 have hlen:S.length=n - a:=by rw[hS,List.length_drop,←hn]
 have e0:bL s a=bL S 0:=by rw[hS,qH0,Nat.add_zero]
 have e1:bL s (a+1)=bL S 1:=by rw[hS,qH0]
 rw[e0,e1];rcases qB0 S with ⟨h1,c,T,h2,h3⟩|⟨h1,h2⟩
 ·right
  refine⟨by rw[h2] at hlen;simp at hlen;omega,.inr ⟨by rw[h2];rfl,?_⟩⟩
  rcases h3 with rfl|rfl
  ·exact .inl ⟨h1,by rw[h2];rfl⟩
  ·exact .inr (.inl ⟨h1,by rw[h2];show(88:Nat)≠120;decide,by rw[h2];rfl⟩)
 ·by_cases hn2:n<a+2
  ·exact .inl ⟨hn2,h1⟩
  ·right
   refine⟨by omega,?_⟩
   match S,hlen,h1,h2 with
   | [],hl,_,_=>simp at hl;omega
   | [_],hl,_,_=>simp at hl;omega
   | x :: c :: T,hl,h1,h2 =>
    by_cases hx:x=48
    ·subst hx;obtain⟨h4,h5⟩:=h2 c T rfl;refine .inr ⟨rfl,.inr (.inr ⟨h1,?_,?_⟩)⟩
     ·intro h;exact h4 (UInt8.toNat_inj.1 (show c.toNat=(120:UInt8).toNat from h))
     ·intro h;exact h5 (UInt8.toNat_inj.1 (show c.toNat=(88:UInt8).toNat from h))
    ·exact .inl ⟨h1,fun h=>hx (UInt8.toNat_inj.1 (show x.toNat=(48:UInt8).toNat from h))⟩
theorem hm10 {s:List UInt8} {n a e l:Nat} {A B Rr:List UInt8} {dt m o:Bool} {v:Int} (h:Pk s n a 10 A B dt Rr v e l m o):(m=true∧e<n∧(bL s e=101∨(bL s e≠101∧bL s e=69)))∨(m=false∧(n≤e∨(e<n∧bL s e≠101∧bL s e≠69))):=by
 obtain⟨-,-,h3,h4⟩:=h;cases m
 ·rcases h4 rfl with ⟨-,h5⟩|⟨c,R',-,h6,h7,h8⟩
  ·exact .inr ⟨rfl,.inl (by omega)⟩
  ·exact .inr ⟨rfl,.inr ⟨h7,by rw[h8];exact mk10.2 h6⟩⟩
 ·obtain⟨c,R',-,h6,h7,h8,-⟩:=h3 rfl;exact .inl ⟨rfl,h7,by rw[h8];exact mk10.1 h6⟩
theorem hm16 {s:List UInt8} {n a e l:Nat} {A B Rr:List UInt8} {dt m o z:Bool} {v:Int} (h:Pk s n a 16 A B dt Rr v e l m o):((m && !z)=true∧z=false∧e<n∧(bL s e=112∨(bL s e≠112∧bL s e=80)))∨((m && !z)=false∧(z=true∨(z=false∧n≤e)∨(z=false∧e<n∧bL s e≠112∧bL s e≠80))):=by
 obtain⟨-,-,h3,h4⟩:=h;cases z
 ·cases m
  ·rcases h4 rfl with ⟨-,h5⟩|⟨c,R',-,h6,h7,h8⟩
   ·exact .inr ⟨rfl,.inr (.inl ⟨rfl,by omega⟩)⟩
   ·exact .inr ⟨rfl,.inr (.inr ⟨rfl,h7,by rw[h8];exact mk16.2 h6⟩)⟩
  ·obtain⟨c,R',-,h6,h7,h8,-⟩:=h3 rfl;exact .inl ⟨rfl,rfl,h7,by rw[h8];exact mk16.1 h6⟩
 ·exact .inr ⟨by simp,.inl rfl⟩
theorem qO5 {s:List UInt8} {n a e l:Nat} {b:Int} {A B Rr:List UInt8} {dt m o:Bool} {v:Int} (h:Pk s n a b A B dt Rr v e l m o):m=true→∀ W,Calls Tryz.prog 83 #[.string ⟨s.toArray⟩,.int .i64 ((e+1:Nat):Int)] W fun r w'=>r=.returned (.tuple #[.int .i64 v,.int .i64 (l:Nat),.bool o])∧w'=W:=by
 intro hm;obtain⟨c,R',-,-,-,-,-,hE⟩:=h.2.2.1 hm;exact hE.1
theorem dec_x {s:List UInt8} {n a e l:Nat} {A B Rr T:List UInt8} {dt m o:Bool} {v:Int} {c:UInt8} (hn:n=s.length) (hc:c=120∨c=88) (hS:s.drop a=48 :: c :: T) (h:s.drop a=A++dtL dt B++Rr) (hA:qX9 A 10=true) (hB:qX9 B 10=true) (hdt:dt=false→B = []) (hst:zO3 10 dt Rr) (hp:Pk s n a 10 A B dt Rr v e l m o):(A++B).isEmpty=false∧m=false∧e≠n:=by
 have hcd:isDg c.toNat 10=false:=by rcases hc with rfl|rfl <;> decide
 have hcm:(mkL 10).contains c=false:=by rcases hc with rfl|rfl <;> decide
 have hc46:c≠46:=by rcases hc with rfl|rfl <;> decide
 have h48:qX9 [48] 10=true:=by decide
 have e1 : [48]++c :: T=A++dtL dt B++Rr:=by rw[←h,hS];rfl
 have key:A = [48]∧∃ R',Rr=c :: R':=by
  cases dt
  ·rw[show A++dtL false B++Rr=A++Rr by simp[dtL]] at e1
   rcases hst with h0|⟨x,R',h1,h2,-⟩
   ·rw[h0,List.append_nil] at e1;have:=qV9 hA c (by rw[←e1];simp)
    rw[hcd] at this;cases this
   ·rw[h1] at e1;obtain⟨h3,h4,h5⟩:=qM4 h48 hA hcd h2 e1;exact⟨h3.symm,R',by rw[h1,h4]⟩
  ·rw[show A++dtL true B++Rr=A++46 :: (B++Rr) by simp[dtL]] at e1
   obtain⟨-,h4,-⟩:=qM4 h48 hA hcd (show isDg (46:UInt8).toNat 10=false from zC6) e1;exact absurd h4 hc46
 obtain⟨hA1,R',hR⟩:=key;refine⟨by rw[hA1];rfl,?_,?_⟩
 ·cases m
  ·rfl
  ·obtain⟨c',R'',h1,h2,-⟩:=hp.2.2.1 rfl;rw[hR] at h1;injection h1 with h1 _;rw[←h1,hcm] at h2;cases h2
 ·obtain⟨-,h2⟩:=qL1 h (by
   have:=congrArg List.length hS
   rw[List.length_drop,List.length_cons,List.length_cons] at this;omega)
  rw[hR,List.length_cons] at h2;have:=hp.1
  omega
theorem yW7 (s:List UInt8) (hL:s.length≤1048576):∃ t1 t2 t3 t4 t5 k,TkS s t1 t2 t3 t4 t5 k∧TkC s t1 t2 t3 t4 t5 k:=by
 obtain⟨n,hn⟩:∃ n,n=s.length:=⟨_,rfl⟩;obtain⟨a,sg,hS,ha,hsg⟩:=yJ8 s;have hsz:(⟨s.toArray⟩:ByteArray).size=n:=by rw[hn];rfl
 have hsg':=xK1 hn hsg;have hhx:=xK2 (S:=csD s) hn hS (by omega)
 have hlenS:(csD s).length=n - a:=by rw[hS,List.length_drop,←hn]
 obtain⟨A,B,dt,Rr,d1,d2,d3,d4,d5,kD⟩:=yH9 s n a 10 (.inl rfl) hn (by omega) (by omega)
 obtain⟨v,e,l,m,o,hp⟩:=xX4 (b:=10) hn (by omega) (by omega) d1
 have kD':∀ w,Calls Tryz.prog 82 #[.string ⟨s.toArray⟩,.int .i64 (a:Nat),.int .i64 10] w fun r w'=>r=.returned (.tuple #[.string ⟨(A++B).toArray⟩,.int .i64 (B.length:Nat),.int .i64 (e:Nat)])∧Bw w w':=by
  intro w;rw[hp.1];exact kD w
 by_cases hw:a+3≤n∧((csD s).take 3 = [105,110,102]∨(csD s).take 3 = [110,97,110])
 ·obtain⟨hw1,hw2⟩:=hw;have hwd:(⟨s.toArray⟩:ByteArray).extract a (a+3)=⟨((csD s).take 3).toArray⟩:=by rw[yN4,hS]
  refine⟨⟨((csD s).take 3).toArray⟩,false,⟨#[]⟩,0,0,((a+3:Nat):Int),?_,fun w=>?_⟩
  ·have hne:csD s ≠ [105,110,102]→csD s ≠ [110,97,110]→psOk (csD s)=false∧a+3≠n:=by
    intro h1 h2;refine⟨?_,?_⟩
    ·cases hc:csD s with
     | nil=>rw[hc] at hw2;simp at hw2
     | cons c r =>
      refine yR0 (c:=c) (r:=r) rfl ?_;rw[hc] at hw2;rcases hw2 with h|h
      ·injection h with h _;exact .inl h
      ·injection h with h _;exact .inr h
    ·intro h;have h3:(csD s).take 3=csD s:=List.take_of_length_le (by omega)
     rw[h3] at hw2;rcases hw2 with h4|h4
     ·exact h1 h4
     ·exact h2 h4
   refine⟨fun h=>?_,fun h=>?_,fun h1 h2 h3=>?_,fun h1 h2 h3=>?_⟩
   ·rw[h] at hlenS ⊢;simp at hlenS
    exact⟨rfl,rfl,by omega,by omega⟩
   ·rw[h] at hlenS ⊢;simp at hlenS
    exact⟨rfl,rfl,by omega,by omega⟩
   ·rw[(hne h1 h2).1] at h3;cases h3
   ·right
    have:=(hne h1 h2).2
    omega
  ·have hlist:(⟨((csD s).take 3).toArray⟩:ByteArray).toList=(csD s).take 3:=qW _;refine qG0 s ⟨s.toArray⟩ n a (decide (csS s<0)) sg true (hexP (csD s)) s.isEmpty ⟨((csD s).take 3).toArray⟩ _ _ _ _ _ _ w rfl hsz (by omega) (qJ3 s) hsg' ?_ (fun _=>⟨rfl,rfl,rfl,rfl,rfl,rfl⟩) hhx ⟨#[]⟩ ⟨(A++B).toArray⟩ 0 (B.length:Nat) 0 v 0 0 e l false false m o true ((A++B).isEmpty) (qJ3 []) (qJ3 _) (by omega) hp.2.1 ?_ (.inr ⟨rfl,.inl rfl⟩) (fun h=>by cases h) (fun h=>by cases h) kD' (hm10 hp) (qO5 hp) (fun h=>by cases h)
   ·refine .inr ⟨hw1,hwd,?_⟩;rw[hlist];rcases hw2 with h|h
    ·exact .inl ⟨rfl,by rw[h];rfl⟩
    ·exact .inr (.inl ⟨rfl,by rw[h];rfl,by rw[h];rfl⟩)
   ·intro hx;exfalso;rcases qB0 (csD s)with ⟨-,c,T,h2,-⟩|⟨h1,-⟩
    ·rw[h2] at hw2;rcases hw2 with h|h
     ·injection h with h _;exact absurd h (by decide)
     ·injection h with h _;exact absurd h (by decide)
    ·rw[hx] at h1;cases h1
 ·have hni:csD s ≠ [105,110,102]:=fun h=>hw ⟨by rw[h] at hlenS;simp at hlenS;omega,.inl (by rw[h];rfl)⟩
  have hnn:csD s ≠ [110,97,110]:=fun h=>hw ⟨by rw[h] at hlenS;simp at hlenS;omega,.inr (by rw[h];rfl)⟩
  have hiw:(n<a+3∧false=false)∨(a+3≤n∧(⟨s.toArray⟩:ByteArray).extract a (a+3)=⟨((csD s).take 3).toArray⟩∧((false=true∧((⟨((csD s).take 3).toArray⟩:ByteArray).toList == [105,110,102])=true)∨(false=true∧((⟨((csD s).take 3).toArray⟩:ByteArray).toList == [105,110,102])=false∧((⟨((csD s).take 3).toArray⟩:ByteArray).toList == [110,97,110])=true)∨(false=false∧((⟨((csD s).take 3).toArray⟩:ByteArray).toList == [105,110,102])=false∧((⟨((csD s).take 3).toArray⟩:ByteArray).toList == [110,97,110])=false))):=by
   by_cases h3:a+3≤n
   ·refine .inr ⟨h3,by rw[yN4,hS],.inr (.inr ⟨rfl,?_,?_⟩)⟩
    ·rw[qW,xM8];exact fun h=>hw ⟨h3,.inl h⟩
    ·rw[qW,xM8];exact fun h=>hw ⟨h3,.inr h⟩
   ·exact .inl ⟨by omega,rfl⟩
  rcases qB0 (csD s)with ⟨hx,c,T,hcT,hc⟩|⟨hx,-⟩
  ·have hlen2:a+2≤n:=by rw[hcT] at hlenS;simp at hlenS;omega
   obtain⟨A',B',dt',Rr',x1,x2,x3,x4,x5,kH⟩:=yH9 s n (a+2) 16 (.inr rfl) hn (by omega) hlen2
   obtain⟨v',e',l',m',o',hp'⟩:=xX4 (b:=16) hn (by omega) hlen2 x1
   have kH':∀ w,Calls Tryz.prog 82 #[.string ⟨s.toArray⟩,.int .i64 ((a+2:Nat):Int),.int .i64 16] w fun r w'=>r=.returned (.tuple #[.string ⟨(A'++B').toArray⟩,.int .i64 (B'.length:Nat),.int .i64 (e':Nat)])∧Bw w w':=by
    intro w;rw[hp'.1];exact kH w
   obtain⟨y1,y2,y3⟩:=dec_x hn hc (by rw[←hS,hcT]) d1 d2 d3 d4 d5 hp
   obtain⟨p1,p2,p3⟩:=yB7 hx;have hT:psS (csD s)=s.drop (a+2):=by rw[p1,hS,List.drop_drop]
   have hps:=zX4 (S:=csD s) (T:=s.drop (a+2)) (.inr rfl) hT p2 p3 x1 x2 x3 x4 x5;have hz:(A'++B').isEmpty = !decide (A'++B' ≠ []):=by cases h:A'++B' <;> simp
   by_cases hacc:(m' && !(A'++B').isEmpty)=true∧o'=true
   ·refine⟨⟨#[]⟩,true,⟨(A'++B').toArray⟩,(B'.length:Nat),v',(l':Nat),⟨fun h=>absurd h hni,fun h=>absurd h hnn,fun _ _ hok=>?_,fun _ _ hok=>?_⟩,fun w=>qG0 s ⟨s.toArray⟩ n a (decide (csS s<0)) sg false true s.isEmpty ⟨((csD s).take 3).toArray⟩ _ _ _ _ _ _ w rfl hsz (by omega) (qJ3 s) hsg' hiw (fun h=>by cases h) (by rw[hx] at hhx;exact hhx) ⟨(A'++B').toArray⟩ ⟨(A++B).toArray⟩ (B'.length:Nat) (B.length:Nat) v' v e' l' e l (m' && !(A'++B').isEmpty) o' m o ((A'++B').isEmpty) ((A++B).isEmpty) (qJ3 _) (qJ3 _) hp'.2.1 hp.2.1 (fun _=>kH') (hm16 hp') (fun h=>qO5 hp' (by rw[xM5] at h;exact h.1)) (fun _ _ _ _=>⟨rfl,rfl,rfl,rfl,rfl,rfl⟩) kD' (hm10 hp) (qO5 hp) (fun _ h=>absurd ⟨rfl,hacc.1,hacc.2⟩ h)⟩
    ·have hm1:m'=true:=by have:=hacc.1;rw[xM5] at this;exact this.1
     obtain⟨c',R',r1,r2,r3,r4,r5,hE⟩:=hp'.2.2.1 hm1;obtain⟨E1,E2,E3,E4,E5⟩:=hE;rcases hps with ⟨q1,-⟩|⟨c'',R'',q1,q2,q3,q4,q5,q6⟩|⟨c'',R'',q1,q2,q3⟩
     ·rw[q1] at r1;cases r1
     ·rw[q1] at r1;injection r1 with _ r1;rw[hok] at q3;have hex:exO R''=true:=by
       have:=q3.symm
       rw[xM5] at this;exact this.1
      rw[r1,r5] at hex;obtain⟨-,F2,F3⟩:=E4 hex;refine⟨rfl,hx.symm,by rw[q4],by rw[q5],by rw[q6,r1,r5];exact F3,E3,by rw[F2,hn],by rw[F2];omega⟩
     ·rw[hok] at q3;cases q3
    ·have hm1:m'=true:=by have:=hacc.1;rw[xM5] at this;exact this.1
     have hz1:(A'++B').isEmpty=false:=by have:=hacc.1;rw[xM5] at this;simpa using this.2
     obtain⟨c',R',r1,r2,r3,r4,r5,hE⟩:=hp'.2.2.1 hm1;obtain⟨E1,E2,E3,E4,E5⟩:=hE;right
     rcases hps with ⟨q1,-⟩|⟨c'',R'',q1,q2,q3,q4,q5,q6⟩|⟨c'',R'',q1,q2,q3⟩
     ·rw[q1] at r1;cases r1
     ·rw[q1] at r1;injection r1 with _ r1;rw[hok] at q3;have hd:decide (A'++B' ≠ [])=true:=by rw[hz1] at hz;cases h:decide (A'++B' ≠ []) <;> rw[h] at hz <;> simp at hz ⊢
      rw[hd,Bool.and_true] at q3;have hex:exO (s.drop (e'+1))=false:=by rw[←r5,←r1];exact q3.symm
      rcases E5 hex with h|h
      ·rw[hacc.2] at h;cases h
      ·omega
     ·rw[q1] at r1;injection r1 with r1 _;rw[←r1,q2] at r2;cases r2
   ·refine⟨⟨#[]⟩,false,⟨(A++B).toArray⟩,(B.length:Nat),0,(e:Nat),⟨fun h=>absurd h hni,fun h=>absurd h hnn,fun _ _ hok=>?_,fun _ _ hok=>.inr (by omega)⟩,fun w=>qG0 s ⟨s.toArray⟩ n a (decide (csS s<0)) sg false true s.isEmpty ⟨((csD s).take 3).toArray⟩ _ _ _ _ _ _ w rfl hsz (by omega) (qJ3 s) hsg' hiw (fun h=>by cases h) (by rw[hx] at hhx;exact hhx) ⟨(A'++B').toArray⟩ ⟨(A++B).toArray⟩ (B'.length:Nat) (B.length:Nat) v' v e' l' e l (m' && !(A'++B').isEmpty) o' m o ((A'++B').isEmpty) ((A++B).isEmpty) (qJ3 _) (qJ3 _) hp'.2.1 hp.2.1 (fun _=>kH') (hm16 hp') (fun h=>qO5 hp' (by rw[xM5] at h;exact h.1)) (fun _ _ h1 h2=>absurd ⟨h1,h2⟩ hacc) kD' (hm10 hp) (qO5 hp) (fun _ _=>⟨rfl,rfl,.inr ⟨y1,rfl,rfl,.inr ⟨fun h=>by rw[y2] at h;exact absurd h.1 (by decide),rfl,rfl⟩⟩⟩)⟩
    exfalso;rcases hps with ⟨q1,q2,-⟩|⟨c'',R'',q1,q2,q3,-⟩|⟨c'',R'',q1,q2,q3⟩
    ·rw[hok,hx] at q2;cases q2
    ·rw[hok] at q3;have hh:=q3.symm;rw[xM5] at hh;cases hm:m' with
     | false =>
      rcases hp'.2.2.2 hm with ⟨r1,-⟩|⟨c3,R3,r1,r2,-⟩
      ·rw[q1] at r1;cases r1
      ·rw[q1] at r1;injection r1 with r1 _;rw[←r1,q2] at r2;cases r2
     | true =>
      obtain⟨c',R',r1,r2,r3,r4,r5,hE⟩:=hp'.2.2.1 hm;obtain⟨E1,E2,E3,E4,E5⟩:=hE;rw[q1] at r1;injection r1 with _ r1;have hex:exO (s.drop (e'+1))=true:=by rw[←r5,←r1];exact hh.1
      apply hacc
      refine⟨?_,(E4 hex).1⟩
      rw[hm,hz,hh.2];rfl
    ·rw[hok] at q3;cases q3
  ·obtain⟨p1,p2,p3⟩:=zT0 hx;have hT:psS (csD s)=s.drop a:=by rw[p1,hS]
   have hps:=zX4 (S:=csD s) (T:=s.drop a) (.inl rfl) hT p2 p3 d1 d2 d3 d4 d5;have hz:(A++B).isEmpty = !decide (A++B ≠ []):=by cases h:A++B <;> simp
   have hne:∀ {c R'},Rr=c :: R'→e<n:=by
    intro c R' h;cases hm:m with
    | false =>
     rcases hp.2.2.2 hm with ⟨r1,-⟩|⟨c3,R3,r1,r2,r3,-⟩
     ·rw[h] at r1;cases r1
     ·exact r3
    | true =>
     obtain⟨c',R',r1,r2,r3,-⟩:=hp.2.2.1 hm;exact r3
   by_cases hz0:(A++B).isEmpty=true
   ·have hd0:decide (A++B ≠ [])=false:=by rw[hz0] at hz;cases h:decide (A++B ≠ []) <;> rw[h] at hz <;> simp at hz ⊢
    refine⟨⟨#[]⟩,false,⟨#[]⟩,0,0,0,⟨fun h=>absurd h hni,fun h=>absurd h hnn,fun _ _ hok=>?_,fun _ _ hok=>.inl rfl⟩,fun w=>qG0 s ⟨s.toArray⟩ n a (decide (csS s<0)) sg false false s.isEmpty ⟨((csD s).take 3).toArray⟩ _ _ _ _ _ _ w rfl hsz (by omega) (qJ3 s) hsg' hiw (fun h=>by cases h) (by rw[hx] at hhx;exact hhx) ⟨#[]⟩ ⟨(A++B).toArray⟩ 0 (B.length:Nat) 0 v 0 0 e l false false m o true ((A++B).isEmpty) (qJ3 []) (qJ3 _) (by omega) hp.2.1 (fun h=>by cases h) (.inr ⟨rfl,.inl rfl⟩) (fun h=>by cases h) (fun _ h=>by cases h) kD' (hm10 hp) (qO5 hp) (fun _ _=>⟨rfl,rfl,.inl ⟨hz0,rfl,rfl,rfl,rfl⟩⟩)⟩
    exfalso;rcases hps with ⟨q1,q2,-⟩|⟨c'',R'',q1,q2,q3,-⟩|⟨c'',R'',q1,q2,q3⟩
    ·rw[hok,hd0,Bool.and_false] at q2;cases q2
    ·rw[hok,hd0,Bool.and_false] at q3;cases q3
    ·rw[hok] at q3;cases q3
   ·have hz1:(A++B).isEmpty=false:=by simpa using hz0
    have hd1:decide (A++B ≠ [])=true:=by rw[hz1] at hz;cases h:decide (A++B ≠ []) <;> rw[h] at hz <;> simp at hz ⊢
    by_cases hacc:m=true∧o=true
    ·obtain⟨c',R',r1,r2,r3,r4,r5,hE⟩:=hp.2.2.1 hacc.1;obtain⟨E1,E2,E3,E4,E5⟩:=hE;refine⟨⟨#[]⟩,false,⟨(A++B).toArray⟩,(B.length:Nat),v,(l:Nat),⟨fun h=>absurd h hni,fun h=>absurd h hnn,fun _ _ hok=>?_,fun _ _ hok=>.inr ?_⟩,fun w=>qG0 s ⟨s.toArray⟩ n a (decide (csS s<0)) sg false false s.isEmpty ⟨((csD s).take 3).toArray⟩ _ _ _ _ _ _ w rfl hsz (by omega) (qJ3 s) hsg' hiw (fun h=>by cases h) (by rw[hx] at hhx;exact hhx) ⟨#[]⟩ ⟨(A++B).toArray⟩ 0 (B.length:Nat) 0 v 0 0 e l false false m o true ((A++B).isEmpty) (qJ3 []) (qJ3 _) (by omega) hp.2.1 (fun h=>by cases h) (.inr ⟨rfl,.inl rfl⟩) (fun h=>by cases h) (fun _ h=>by cases h) kD' (hm10 hp) (qO5 hp) (fun _ _=>⟨rfl,rfl,.inr ⟨hz1,rfl,rfl,.inl ⟨hacc.1,hacc.2,rfl,rfl⟩⟩⟩)⟩
     ·rcases hps with ⟨q1,-⟩|⟨c'',R'',q1,q2,q3,q4,q5,q6⟩|⟨c'',R'',q1,q2,q3⟩
      ·rw[q1] at r1;cases r1
      ·rw[q1] at r1;injection r1 with _ r1;rw[hok,hd1,Bool.and_true] at q3;have hex:exO (s.drop (e+1))=true:=by rw[←r5,←r1];exact q3.symm
       obtain⟨-,F2,F3⟩:=E4 hex;exact⟨rfl,hx.symm,by rw[q4],by rw[q5],by rw[q6,r1,r5];exact F3,E3,by rw[F2,hn],by rw[F2];omega⟩
      ·rw[hok] at q3;cases q3
     ·rcases hps with ⟨q1,-⟩|⟨c'',R'',q1,q2,q3,q4,q5,q6⟩|⟨c'',R'',q1,q2,q3⟩
      ·rw[q1] at r1;cases r1
      ·rw[q1] at r1;injection r1 with _ r1;rw[hok,hd1,Bool.and_true] at q3;have hex:exO (s.drop (e+1))=false:=by rw[←r5,←r1];exact q3.symm
       rcases E5 hex with h|h
       ·rw[hacc.2] at h;cases h
       ·omega
      ·rw[q1] at r1;injection r1 with r1 _;rw[←r1,q2] at r2;cases r2
    ·refine⟨⟨#[]⟩,false,⟨(A++B).toArray⟩,(B.length:Nat),0,(e:Nat),⟨fun h=>absurd h hni,fun h=>absurd h hnn,fun _ _ hok=>?_,fun _ _ hok=>.inr ?_⟩,fun w=>qG0 s ⟨s.toArray⟩ n a (decide (csS s<0)) sg false false s.isEmpty ⟨((csD s).take 3).toArray⟩ _ _ _ _ _ _ w rfl hsz (by omega) (qJ3 s) hsg' hiw (fun h=>by cases h) (by rw[hx] at hhx;exact hhx) ⟨#[]⟩ ⟨(A++B).toArray⟩ 0 (B.length:Nat) 0 v 0 0 e l false false m o true ((A++B).isEmpty) (qJ3 []) (qJ3 _) (by omega) hp.2.1 (fun h=>by cases h) (.inr ⟨rfl,.inl rfl⟩) (fun h=>by cases h) (fun _ h=>by cases h) kD' (hm10 hp) (qO5 hp) (fun _ _=>⟨rfl,rfl,.inr ⟨hz1,rfl,rfl,.inr ⟨hacc,rfl,rfl⟩⟩⟩)⟩
     ·rcases hps with ⟨q1,q2,q3,q4,q5⟩|⟨c'',R'',q1,q2,q3,q4,q5,q6⟩|⟨c'',R'',q1,q2,q3⟩
      ·have hen:e=n:=by
        obtain⟨-,h2⟩:=qL1 d1 (by omega)
        rw[q1,List.length_nil] at h2;have:=hp.1
        omega
       have hd0:0<(A++B).length:=by cases h:A++B with
        | nil=>rw[h] at hz1;cases hz1
        | cons _ _=>simp
       have hle:(A++B).length≤n:=by
        have h8:=hp.1;have h9:(A++B).length≤(A++dtL dt B).length:=by
         rw[xP5,xP5];cases dt
         ·rw[d4 rfl];simp
         ·simp[dtL]
        omega
       exact⟨rfl,hx.symm,by rw[q3],by rw[q4],by rw[q5];decide,by omega,by omega,by omega⟩
      ·exfalso;rw[hok,hd1,Bool.and_true] at q3;cases hm:m with
       | false =>
        rcases hp.2.2.2 hm with ⟨r1,-⟩|⟨c3,R3,r1,r2,-⟩
        ·rw[q1] at r1;cases r1
        ·rw[q1] at r1;injection r1 with r1 _;rw[←r1,q2] at r2;cases r2
       | true =>
        obtain⟨c',R',r1,r2,r3,r4,r5,hE⟩:=hp.2.2.1 hm;obtain⟨E1,E2,E3,E4,E5⟩:=hE;rw[q1] at r1;injection r1 with _ r1;have hex:exO (s.drop (e+1))=true:=by rw[←r5,←r1];exact q3.symm
        exact hacc ⟨hm,(E4 hex).1⟩
      ·rw[hok] at q3;cases q3
     ·rcases hps with ⟨q1,q2,-⟩|⟨c'',R'',q1,-⟩|⟨c'',R'',q1,-⟩
      ·rw[hok,hd1,hx] at q2;cases q2
      ·have:=hne q1;omega
      ·have:=hne q1;omega
theorem zS1 (k:Nat):2^(3*k)≤10^k:=by rw[Nat.pow_mul];exact Nat.pow_le_pow_left (by decide) _
theorem yA7 {Z P:Nat} (s:Bool) {m:Int} (hm:1≤m∧m≤3) (hZ:Z≠0):toD (un (if s then -(Z:Int) else(Z:Int)) P) m=tfF s true Z (-(P:Int)) m:=by
 rw[yH0 s hZ];unfold toD;have h3:=(qX1 _ _ (xB6 _) hZ).1;have h0:¬ (Z / 2^tz Z=0):=fun h9=>by rw[h9,Nat.mul_zero] at h3;omega
 rw[if_neg (show ¬ ((s,Z / 2^tz Z,(tz Z:Int) - (P:Int)):Bool×Nat×Int).2.1=0 from h0)];exact yA6 s (e := -(P:Int)) hm hZ
theorem zU5 (s:Bool) (N O:Nat):(if s then -((N:Nat):Int) else((N:Nat):Int))*((O:Nat):Int)=if s then -((N*O:Nat):Int) else((N*O:Nat):Int):=by
 cases s
 ·rw[if_neg (by decide),if_neg (by decide),xP3]
 ·rw[if_pos rfl,if_pos rfl,xP3,Int.neg_mul]
theorem gN_1 (e:Int):gN (false,1,e)=(true,1,e):=by
 unfold gN;rw[if_neg (show ¬ ((false,1,e):Bool×Nat×Int).2.1=0 from(by decide:¬ (1:Nat)=0))]
 rfl
theorem yA2 (s:Bool) (k:Nat):un (if s then -((2^k:Nat):Int) else((2^k:Nat):Int)) 0=(s,1,(k:Int)):=by
 have h:un ((2^k:Nat):Int) 0=(false,1,(k:Int)):=by
  have h1:=qV5 1 0 k;rw[Int.one_mul,Nat.zero_add] at h1;have h2:=yK9 (a:=((2^k:Nat):Int)) (p:=k) (k:=(k:Int)) (q:=0) (by omega)
  rw[←h2,←h1,zH4]
 cases s
 ·exact h
 ·rw[if_pos rfl,←zW5,h];exact gN_1 _
theorem yA0 (s:Bool) (k:Nat):un (if s then(-1:Int)else 1) k=(s,1,-(k:Int)):=by
 have h:un (1:Int) k=(false,1,-(k:Int)):=by
  have h2:=yK9 (a:=1) (p:=0) (k := -(k:Int)) (q:=k) (by omega)
  rw[←h2,zH4]
 cases s
 ·exact h
 ·rw[if_pos rfl,←zW5,h];exact gN_1 _
theorem gM_1 (s:Bool) (e:Int):gM (s,1,e) (un ((10^0:Nat):Int) 0)=(s,1,e):=by
 have h:un ((10^0:Nat):Int) 0=(false,1,0):=by decide +kernel
 rw[h];unfold gM cn;rw[if_neg (show ¬ (((s,1,e):Bool×Nat×Int).2.1*((false,1,0):Bool×Nat×Int).2.1=0) from(by decide:¬ (1*1:Nat)=0))]
 show((!(s==false)),1*1 / 2^tz (1*1),e+0+(tz (1*1):Int))=(s,1,e)
 rw[show tz (1*1)=0 by decide +kernel]
 cases s <;> simp
theorem yA8 (s:Bool) (e m:Int):toD (s,1,e) m=tfF s true 1 e m:=by unfold toD;rw[if_neg (show ¬ ((s,1,e):Bool×Nat×Int).2.1=0 from(by decide:¬ (1:Nat)=0))]
theorem qA3 {D:List UInt8} {b:Nat} {j:Nat} (hz:∀ k,k<j→bL D k=48):∀ i,dvP b D (j+i)=dvP b (D.drop j) i
 | 0=>by
  have:∀ k,k≤j→dvP b D k=0:=by
   intro k;induction k with
   | zero=>intro _;rfl
   | succ k ih =>
    intro hk;show dvP b D k*b+dgB (bL D k)=0
    rw[ih (by omega),hz k (by omega)]
    simp[dgB]
  rw[Nat.add_zero,this j (xB6 _)];rfl
 | i+1=>by
  show dvP b D (j+i)*b+dgB (bL D (j+i))=dvP b (D.drop j) i*b+dgB (bL (D.drop j) i)
  rw[qA3 hz i,qH0]
theorem yN6 {D:List UInt8} (h0:0<dgB (bL D 0)):∀ i,10^i≤dvP 10 D (i+1)
 | 0=>by
  show 1≤dvP 10 D 0*10+dgB (bL D 0)
  omega
 | i+1=>by
  have h1:=yN6 h0 i;show 10^(i+1)≤dvP 10 D (i+1)*10+dgB (bL D (i+1))
  rw[xP0];omega
theorem qI7 {neg:Bool} {D:List UInt8} {h:Nat} {x m:Int} {N:Nat} (hN:N=dvP 10 D D.length) (h0:N≠0) (k:Nat) :
  (x - (h:Int)=(k:Int)→rdFl neg 10 D h x m=rtF (un (if neg then -((N*10^k:Nat):Int) else((N*10^k:Nat):Int)) 0) (un ((1:Nat):Int) 0) m) ∧
  (x - (h:Int) = -(k:Int)→rdFl neg 10 D h x m=rtF (un (if neg then -((N:Nat):Int) else((N:Nat):Int)) 0) (un ((10^k:Nat):Int) 0) m):=by
 have hK:rK 10 h x=x - h:=by unfold rK;rw[if_neg (by decide)]
 constructor
 ·intro hk;unfold rdFl rO rP rU tnO tnU;rw[show((10:Int).toNat)=10 from rfl,←hN,if_neg h0,if_neg (show ¬ (10:Int)=16 by decide),if_neg (show ¬ (10:Int)=16 by decide),if_neg (show ¬ (10:Int)=16 by decide),hK,hk,zU5]
  rw[show((k:Int)).toNat=k by omega,show(-(k:Int)).toNat=0 by omega,xP2]
 ·intro hk;unfold rdFl rO rP rU tnO tnU;rw[show((10:Int).toNat)=10 from rfl,←hN,if_neg h0,if_neg (show ¬ (10:Int)=16 by decide),if_neg (show ¬ (10:Int)=16 by decide),if_neg (show ¬ (10:Int)=16 by decide),hK,hk,zU5]
  rw[show((-(k:Int))).toNat=0 by omega,show(- -(k:Int)).toNat=k by omega,xP2,xP6]
theorem xZ0 {neg:Bool} {D:List UInt8} {h:Nat} {x m:Int} {N:Nat} (hm:1≤m∧m≤3) (hN:N=dvP 16 D D.length) (h0:N≠0):rdFl neg 16 D h x m=tfF neg true N (x - 4*(h:Int)) m:=by
 have hK:rK 16 h x=x - 4*h:=by unfold rK;rw[if_pos rfl]
 unfold rdFl rO rP rU;rw[show((16:Int).toNat)=16 from rfl,←hN,if_neg h0,if_pos (show(16:Int)=16 from rfl),if_pos (show(16:Int)=16 from rfl),if_pos (show(16:Int)=16 from rfl),hK,zU5];have hz:N*2^(x - 4*(h:Int)).toNat≠0:=Nat.mul_ne_zero h0 (Nat.ne_of_gt (xN0 _));rw[qI6 neg hm hz,qI3 hm];congr 1
 omega
theorem zG6 (P:Nat→Prop):∀ n,(∃ k,k<n∧P k)→∃ j,j<n∧P j∧∀ k,k<j→¬ P k
 | 0,⟨k,h,_⟩=>absurd h (Nat.not_lt_zero _)
 | n+1,⟨k,h,hp⟩=>by
  by_cases hq:∃ k,k<n∧P k
  ·obtain⟨j,h1,h2,h3⟩:=zG6 P n hq;exact⟨j,by omega,h2,h3⟩
  ·have hk:k=n:=by
    rcases Nat.lt_or_ge k n with h9|h9
    ·exact absurd ⟨k,h9,hp⟩ hq
    ·omega
   subst hk;exact⟨k,by omega,hp,fun i hi hpi=>hq ⟨i,hi,hpi⟩⟩
theorem xK7 {F0 Y:Nat} {neg:Bool} (hF:F0=sig neg Y) (hY:Y≤9218868437227405312):(if(FloatKind.f64.format.order F0 0==some Ordering.eq)&&neg then 9223372036854775808 else F0)=F0:=by
 obtain⟨h1,h2,h3⟩:=zL1 (s:=neg) hY;rw[←hF] at h1 h2 h3;cases neg
 ·rw[Bool.and_false];rfl
 ·rw[Bool.and_true,yB9 F0 0 h3 (by decide)]
  by_cases h:Go.Fl64.eq F0 0=true
  ·rw[if_pos h];unfold Go.Fl64.eq at h;rw[xM5,decide_eq_true_eq] at h;have h4:=h.2;have e0:stp 0=0:=by decide
   rw[e0] at h4;have hY0:Y=0:=by
    unfold stp sgn at h4;rw[h2,h1] at h4;simp at h4
    omega
   rw[hF,hY0];rfl
  ·rw[if_neg h]
theorem xK8 (neg:Bool):(if(FloatKind.f64.format.order 0 0==some Ordering.eq)&&neg then 9223372036854775808 else 0)=sig neg 0:=by
 have h:(FloatKind.f64.format.order 0 0==some Ordering.eq)=true:=by decide +kernel
 rw[h];cases neg <;> rfl
theorem zK4 (neg:Bool) (D:List UInt8) (h:Nat) (t5 x m:Int) (hd:qX9 D 10=true) (hl:D.length≤1100) (hh:h≤D.length) (ht5 : -1000000000≤t5∧t5≤1000000000) (hx:x=max (-6000) (min 6000 t5)) (hm:1≤m∧m≤3) (W:World) :
  Calls Tryz.prog 31 #[.agg #[.bool neg,.string ⟨#[]⟩,.bool false,.string ⟨D.toArray⟩,.int .i64 (h:Nat),.int .i64 t5],.int .i64 m] W fun r w'=>r=.returned (.float .f64 (rdFl neg 10 D h x m))∧Bw W w':=by
 obtain⟨n,hn⟩:∃ n,n=D.length:=⟨_,rfl⟩;have hsz:(⟨D.toArray⟩:ByteArray).size=n:=by rw[hn];rfl
 have hdg:∀ k,k<n→48≤bL D k∧bL D k≤57:=fun k hk=>qE9 ((qG3 _ _).1 hd k (by omega))
 by_cases hz:∀ k,k<n→bL D k=48
 ·have h0:dvP 10 D D.length=0:=by
   have:=qA3 (b:=10) (j:=n) hz 0
   rw[Nat.add_zero,hn] at this;rw[this];rfl
  have hr:rdFl neg 10 D h x m=sig neg 0:=by unfold rdFl;rw[show((10:Int).toNat)=10 from rfl,if_pos h0]
  rw[hr];exact qH neg false ⟨D.toArray⟩ (h:Nat) t5 m 0 (sig neg 0) _ W rfl (xK8 neg) (fun W' _=>xJ6 neg ⟨#[]⟩ ⟨D.toArray⟩ (h:Nat) t5 m D n W' rfl hsz (by omega) hz)
 ·have hex:∃ k,k<n∧bL D k≠48:=by
   apply Classical.byContradiction
   intro hc;exact hz fun k hk=>Classical.byContradiction fun h9=>hc ⟨k,hk,h9⟩
  obtain⟨j,hj,hjn,hjl⟩:=zG6 (fun k=>bL D k≠48) n hex;have hjz:∀ k,k<j→bL D k=48:=fun k hk=>Classical.byContradiction (hjl k hk);obtain⟨X,e1,-,hone⟩:=zR7 (b:=10) (D:=D) (h:=h) (x:=x) (.inl rfl) hd hl (by omega) (by omega)
  have hsig:=hone neg m hm;refine qH neg false ⟨D.toArray⟩ (h:Nat) t5 m (rdFl neg 10 D h x m) (rdFl neg 10 D h x m) _ W rfl (xK7 hsig (zI6 _ _ _)) (fun W' _=>?_);obtain⟨N,hN⟩:∃ N,N=dvP 10 D D.length:=⟨_,rfl⟩;obtain⟨q,hq⟩:∃ q,n - j=q+1:=⟨n - j - 1,by omega⟩
  have hNd:dvP 10 (D.drop j) (n - j)=N:=by
   rw[←qA3 hjz (n - j),show j+(n - j)=n by omega,hN,hn]
  have hge:10^q≤N:=by
   rw[←hNd,hq];refine yN6 ?_ q;rw[qH0,Nat.add_zero];have:=hdg j hj
   unfold dgB;rw[if_pos this];have h9:bL D j≠48:=hjn;omega
  have hlt:N<10^(q+1):=by
   rw[←hNd,←hq];have:=qA2 (D:=D.drop j) (fun k hk=>by
    rw[qH0];rw[List.length_drop] at hk;have:=hdg (j+k) (by omega)
    unfold dgB;rw[if_pos this];omega) (n - j) (by rw[List.length_drop];omega)
   exact this
  have hN0:N≠0:=by have:=Nat.pow_pos (n:=q) (show 0<10 by decide);omega
  have hNb:N<2^(4*(q+1)+1):=by
   have:=qD4 (q+1)
   rw[xM7] at this;omega
  obtain⟨tv,htv⟩:∃ tv,tv=t5 - (h:Int):=⟨_,rfl⟩;obtain⟨xv,hxv⟩:∃ xv,xv=tv+((n - j:Nat):Int):=⟨_,rfl⟩;have hsgn:∀ (Z:Int),(if neg then -Z else Z).natAbs=Z.natAbs:=fun Z=>by cases neg <;> simp
  by_cases hbig:400<xv
  ·obtain⟨kk,hkk⟩:∃ kk:Nat,kk=2000:=⟨_,rfl⟩;have hres:rdFl neg 10 D h x m=tfF neg true 1 2000 m:=by
    have hb1:(1024:Int)<(bl 1:Int)+2000:=by rw[show bl 1=1 by decide +kernel];omega
    by_cases hk:0≤x - (h:Int)
    ·obtain⟨k,hk'⟩:∃ k:Nat,x - (h:Int)=(k:Int):=⟨(x - (h:Int)).toNat,by omega⟩
     rw[(qI7 (neg:=neg) (m:=m) hN hN0 k).1 hk'];refine yF5 (c:=3*(q+k)) neg hm (Nat.mul_ne_zero hN0 (Nat.ne_of_gt (Nat.pow_pos (by decide)))) (by decide) (by omega) ?_ (by decide) hb1
     rw[Nat.one_mul,Nat.zero_add];refine xN5 (zS1 (q+k)) ?_;rw[xM9];exact xN2 _ hge
    ·obtain⟨k,hk'⟩:∃ k:Nat,x - (h:Int) = -(k:Int):=⟨(-(x - (h:Int))).toNat,by omega⟩
     rw[(qI7 (neg:=neg) (m:=m) hN hN0 k).2 hk'];refine yF5 (c:=3*(q - k)) neg hm hN0 (Nat.ne_of_gt (Nat.pow_pos (by decide))) (by omega) ?_ (by decide) hb1
     rw[Nat.zero_add];refine xN5 (xN8 _ (zS1 (q - k))) ?_;rw[←xM9,show k+(q - k)=q by omega]
     exact hge
   refine zE3 neg false ⟨#[]⟩ ⟨D.toArray⟩ (h:Nat) t5 m D n j (rdFl neg 10 D h x m) (false,1,2000) (neg,1,2000) tv xv 0 W' rfl rfl hsz (by omega) (by omega) ht5 hm hj hjz hjn hdg htv hxv ⟨fun _=>⟨rfl,rfl⟩,fun h9=>by omega,fun h9=>by omega⟩ ?_ ?_ ?_ (if neg then -((2^kk:Nat):Int) else((2^kk:Nat):Int)) 0 (kk+1) ?_ ?_ ?_ (by omega) (by omega) (by omega)
   ·cases neg
    ·rfl
    ·show(true,1,2000)=gN (false,1,2000);rw[gN_1]
   ·intro tn ht;obtain rfl:tn=0:=by omega
    rw[gM_1,yA8,hres]
   ·intro tn h1 h2;omega
   ·show(neg,1,2000)=un _ 0
    rw[yA2,hkk];rfl
   ·show(if neg then -((2^kk:Nat):Int) else((2^kk:Nat):Int)).natAbs<2^(kk+1)
    rw[hsgn,xM7,xP0];have:=xN0 kk
    omega
   ·have:=xN0 kk
    cases neg
    ·rw[if_neg (by decide)];omega
    ·rw[if_pos rfl];omega
  ·by_cases htin:xv < -400
   ·have hres:rdFl neg 10 D h x m=tfF neg true 1 (-2000) m:=by
     have hb1:(bl 1:Int)+(-2000) < -1075:=by rw[show bl 1=1 by decide +kernel];omega
     obtain⟨k,hk'⟩:∃ k:Nat,x - (h:Int) = -(k:Int):=⟨(-(x - (h:Int))).toNat,by omega⟩
     rw[(qI7 (neg:=neg) (m:=m) hN hN0 k).2 hk'];obtain⟨d,hd9⟩:∃ d,k=(q+1)+d:=⟨k - (q+1),by omega⟩
     have hd8:400≤d:=by omega
     refine yD6 (c:=3*d) neg hm hN0 (Nat.ne_of_gt (Nat.pow_pos (by decide))) (by omega) ?_ (by decide) hb1
     rw[xP2,xP6,hd9,xM9];exact Nat.mul_le_mul (xD2 hlt) (zS1 d)
    refine zE3 neg false ⟨#[]⟩ ⟨D.toArray⟩ (h:Nat) t5 m D n j (rdFl neg 10 D h x m) (false,1,-2000) (neg,1,-2000) tv xv 0 W' rfl rfl hsz (by omega) (by omega) ht5 hm hj hjz hjn hdg htv hxv ⟨fun h9=>by omega,fun _=>⟨rfl,rfl⟩,fun h9=>by omega⟩ ?_ ?_ ?_ (if neg then(-1:Int)else 1) 2000 1 ?_ ?_ ?_ (by omega) (by omega) (by omega)
    ·cases neg
     ·rfl
     ·show(true,1,-2000)=gN (false,1,-2000);rw[gN_1]
    ·intro tn ht;obtain rfl:tn=0:=by omega
     rw[gM_1,yA8,hres]
    ·intro tn h1 h2;omega
    ·show(neg,1,-2000)=un _ 2000
     rw[yA0];rfl
    ·show(if neg then(-1:Int)else 1).natAbs<2^1
     cases neg <;> decide
    ·cases neg <;> decide
   ·have hxt:x=t5:=by omega
    have hTM:(if neg then gN (un ((N:Nat):Int) 0)else un ((N:Nat):Int) 0)=un (if neg then -((N:Nat):Int) else((N:Nat):Int)) 0:=by
     cases neg
     ·rfl
     ·rw[if_pos rfl,if_pos rfl,zW5]
    refine zE3 neg false ⟨#[]⟩ ⟨D.toArray⟩ (h:Nat) t5 m D n j (rdFl neg 10 D h x m) (un ((N:Nat):Int) 0) (un (if neg then -((N:Nat):Int) else((N:Nat):Int)) 0) tv xv tv W' rfl rfl hsz (by omega) (by omega) ht5 hm hj hjz hjn hdg htv hxv ⟨fun h9=>absurd h9 hbig,fun h9=>absurd h9 htin,fun _=>⟨by rw[hNd],rfl⟩⟩ hTM.symm ?_ ?_ (if neg then -((N:Nat):Int) else((N:Nat):Int)) 0 (4*(q+1)+1) rfl ?_ ?_ (by omega) (by omega) (by omega)
    ·intro tn ht;rw[yK8,zU5,(qI7 (neg:=neg) (m:=m) hN hN0 tn).1 (by omega)]
     have hz9:N*10^tn≠0:=Nat.mul_ne_zero hN0 (Nat.ne_of_gt (Nat.pow_pos (by decide)))
     rw[qI6 neg hm hz9];exact yA7 neg hm hz9
    ·intro tn h1 h2;rw[(qI7 (neg:=neg) (m:=m) hN hN0 tn).2 (by omega)]
    ·show(if neg then -((N:Nat):Int) else((N:Nat):Int)).natAbs<2^(4*(q+1)+1)
     rw[hsgn,xM7];exact hNb
    ·cases neg
     ·rw[if_neg (by decide)];omega
     ·rw[if_pos rfl];omega
theorem zK3 (neg:Bool) (D:List UInt8) (h:Nat) (t5 x m:Int) (hd:qX9 D 16=true) (hl:D.length≤1100) (hh:h≤D.length) (ht5 : -1000000000≤t5∧t5≤1000000000) (hx:x=max (-6000) (min 6000 t5)) (hm:1≤m∧m≤3) (W:World) :
  Calls Tryz.prog 31 #[.agg #[.bool neg,.string ⟨#[]⟩,.bool true,.string ⟨D.toArray⟩,.int .i64 (h:Nat),.int .i64 t5],.int .i64 m] W fun r w'=>r=.returned (.float .f64 (rdFl neg 16 D h x m))∧Bw W w':=by
 obtain⟨n,hn⟩:∃ n,n=D.length:=⟨_,rfl⟩;have hsz:(⟨D.toArray⟩:ByteArray).size=n:=by rw[hn];rfl
 have key:∀ c:Fin 256,isDg c.val 16=true→dgB c.val<16∧dgF c.val=(dgB c.val:Int):=by decide +kernel
 have hdg:∀ k,k<n→∃ d:Nat,d<16∧dgF (bL D k)=(d:Int)∧dgB (bL D k)=d:=fun k hk=>by
  have h1:=(qG3 _ _).1 hd k (by omega)
  have h2:=key ⟨bL D k,zI8 D k⟩ h1;exact⟨dgB (bL D k),h2.1,h2.2,rfl⟩
 obtain⟨N,hN⟩:∃ N,N=dvP 16 D D.length:=⟨_,rfl⟩;obtain⟨e9,he9⟩:∃ e9,e9=min (max (t5 - 4*((h:Nat):Int)) (-100000)) 100000:=⟨_,rfl⟩;have hNn:dvP 16 D n=N:=by rw[hN,hn]
 have kv:=fun(W':World) (F:Nat) hF=>xJ7 neg ⟨#[]⟩ ⟨D.toArray⟩ (h:Nat) t5 m e9 D n F W' rfl hsz (by omega) (by omega) ht5 hm hdg he9 hF
 rw[hNn] at kv;by_cases h0:N=0
 ·have hr:rdFl neg 16 D h x m=sig neg 0:=by unfold rdFl;rw[show((16:Int).toNat)=16 from rfl,←hN,if_pos h0]
  rw[hr];refine qH neg true ⟨D.toArray⟩ (h:Nat) t5 m 0 (sig neg 0) _ W rfl (xK8 neg) (fun W' _=>kv W' 0 ?_);show 0=toD _ m
  have e0:gK e9 (un ((N:Nat):Int) 0)=(false,0,0):=by
   rw[h0];unfold gK;rw[if_pos (by decide +kernel)]
  rw[e0];have e1:gN (false,0,0)=(false,0,0):=by unfold gN;rw[if_pos rfl]
  cases neg
  ·rw[if_neg (by decide)];unfold toD;rw[if_pos rfl]
  ·rw[if_pos rfl,e1];unfold toD;rw[if_pos rfl]
 ·obtain⟨X,e1,-,hone⟩:=zR7 (b:=16) (D:=D) (h:=h) (x:=x) (.inr rfl) hd hl (by omega) (by omega)
  have hsig:=hone neg m hm;refine qH neg true ⟨D.toArray⟩ (h:Nat) t5 m (rdFl neg 16 D h x m) (rdFl neg 16 D h x m) _ W rfl (xK7 hsig (zI6 _ _ _)) (fun W' _=>kv W' _ ?_);show rdFl neg 16 D h x m=toD _ m
  rw[xZ0 hm hN h0];have e2:un ((N:Nat):Int) 0=(false,N / 2^tz N,(tz N:Int)):=yH2 h0;have h3:=(qX1 _ _ (xB6 _) h0).1;have hq0:N / 2^tz N≠0:=fun h9=>by rw[h9,Nat.mul_zero] at h3;omega
  have e3:toD (if neg then gN (gK e9 (un ((N:Nat):Int) 0))else gK e9 (un ((N:Nat):Int) 0)) m=tfF neg true N e9 m:=by
   rw[e2];unfold gK;rw[if_neg (show ¬ (((false,N / 2^tz N,(tz N:Int)):Bool×Nat×Int).2.1=0)from hq0)];rw[←yA6 neg hm h0];cases neg
   ·rw[if_neg (by decide)]
    unfold toD;rw[if_neg (show ¬ (((false,N / 2^tz N,(tz N:Int)+e9):Bool×Nat×Int).2.1=0)from hq0)]
   ·rw[if_pos rfl];unfold gN;rw[if_neg (show ¬ (((false,N / 2^tz N,(tz N:Int)+e9):Bool×Nat×Int).2.1=0)from hq0)];unfold toD;rw[if_neg (show ¬ (((true,N / 2^tz N,(tz N:Int)+e9):Bool×Nat×Int).2.1=0)from hq0)];rfl
  rw[e3];have hbN:bl N≤4*n:=(qJ2 _ _).2 (by rw[←hNn];exact zY7 (n:=n) (fun k hk=>by obtain⟨d,h1,-,h9⟩:=hdg k hk;omega) n (xB6 _))
  have hbN1:=qW0 h0;by_cases hc : -6000≤t5∧t5≤6000
  ·congr 1
   omega
  ·by_cases hc2:6000<t5
   ·exact zS0 hm (.inr ⟨rfl,h0⟩) h0 (by omega) (by omega)
   ·exact qR9 hm (.inr ⟨rfl,h0⟩) h0 (by omega) (by omega)
theorem xJ5 (s:List UInt8) (m:Int) (w:World):Calls Tryz.prog 9 #[.string ⟨s.toArray⟩,.int .i64 m] w fun r w'=>RdO (rdA s m).1 (rdA s m).2 w r w':=by
 unfold rdA;by_cases hm:1≤m∧m≤3
 ·rw[if_neg (not_not_intro hm)];by_cases hL:1048576<s.length
  ·rw[if_pos hL];exact zK0 _ m w hm (by show(1048576:Int)<((s.length:Nat):Int);omega)
  ·rw[if_neg hL];obtain⟨t1,t2,t3,t4,t5,k,hS,kT⟩:=yW7 s (by omega)
   obtain⟨h1,h2,h3,h4⟩:=hS;have kT':∀ W,Calls Tryz.prog 30 #[.string ⟨s.toArray⟩] W fun r w'=>r=.returned (.tuple #[.agg #[.bool (decide (csS s<0)),.string t1,.bool t2,.string t3,.int .i64 t4,.int .i64 t5],.int .i64 k])∧Bw W w':=kT;by_cases hi:csD s = [105,110,102]
   ·rw[if_pos hi];obtain⟨rfl,rfl,e3,e4⟩:=h1 hi;refine qP7 _ m w s.length 0 (decide (csS s<0)) t2 _ _ t4 t5 k _ 0 hm rfl (by omega) kT' rfl (.inr (.inr ⟨e4,e3,by omega,rfl⟩)) (fun _ _ _ W=>?_)
    have kf:=zK2 (decide (csS s<0)) t2 ⟨#[]⟩ t4 t5 m W;by_cases hs:csS s<0
    ·rw[xN hs] at kf ⊢; rw[if_pos hs];exact kf
    ·rw[xB9 hs] at kf ⊢; rw[if_neg hs];exact kf
   ·rw[if_neg hi];by_cases hnn:csD s = [110,97,110]
    ·rw[if_pos hnn];obtain⟨rfl,rfl,e3,e4⟩:=h2 hnn;exact qP7 _ m w s.length 0 (decide (csS s<0)) t2 _ _ t4 t5 k _ 0 hm rfl (by omega) kT' rfl (.inr (.inr ⟨e4,e3,by omega,rfl⟩)) (fun _ _ _ W=>zK1 (decide (csS s<0)) t2 ⟨#[]⟩ t4 t5 m W)
    ·rw[if_neg hnn];by_cases hok:psOk (csD s)=false
     ·rw[if_pos hok];refine qP7 _ m w s.length t3.size (decide (csS s<0)) t2 _ _ t4 t5 k 0 3 hm rfl (by omega) kT' rfl (.inl ⟨h4 hi hnn hok,rfl,rfl⟩) ?_
      intro h0 h9 _;rcases h4 hi hnn hok with h|h
      ·exact absurd h h0
      ·exact absurd h9 h
     ·rw[if_neg hok];have hok':psOk (csD s)=true:=by simpa using hok
      obtain⟨rfl,rfl,rfl,rfl,hx,ht5,hk,hk0⟩:=h3 hi hnn hok';have hdg:=zX5 hok';have hh:=zT1 (csD s);by_cases hl:1100<(psD (csD s)).length
      ·rw[if_pos hl];exact qP7 _ m w s.length (psD (csD s)).length (decide (csS s<0)) _ _ _ _ t5 k 0 2 hm rfl (by omega) kT' rfl (.inr (.inl ⟨hk0,hk,hl,rfl,rfl⟩)) (fun _ _ h9=>absurd h9 (by omega))
      ·rw[if_neg hl];refine qP7 _ m w s.length (psD (csD s)).length (decide (csS s<0)) _ _ _ _ t5 k _ 0 hm rfl (by omega) kT' rfl (.inr (.inr ⟨hk0,hk,by omega,rfl⟩)) (fun _ _ _ W=>?_)
       rcases qB0 (csD s)with ⟨hx9,-⟩|⟨hx9,-⟩
       ·obtain⟨-,-,p3⟩:=yB7 hx9;rw[p3] at hdg ⊢;rw[hx9];exact zK3 _ _ _ t5 _ m hdg (by omega) hh ht5 hx hm W
       ·obtain⟨-,-,p3⟩:=zT0 hx9;rw[p3] at hdg ⊢;rw[hx9];exact zK4 _ _ _ t5 _ m hdg (by omega) hh ht5 hx hm W
 ·rw[if_pos hm];exact zK _ m w hm
theorem yB2 (s:List UInt8) (m:Int):(rdA s m).1<18446744073709551616:=by
 unfold rdA;split
 ·show 0<_;decide
 ·split
  ·show 0<_;decide
  ·split
   ·show(if csS s<0 then 18442240474082181120 else 9218868437227405312)<_
    split <;> decide
   ·split
    ·show 9221120237041090561<_;decide
    ·split
     ·show 0<_;decide
     ·rename_i hm hL hi hn hok
      split
      ·show 0<_;decide
      ·rename_i hl
       have hok':psOk (csD s)=true:=by simpa using hok
       have hb:psb (csD s)=10∨psb (csD s)=16:=by rcases yB6 (csD s)with ⟨e,-⟩|⟨e,-⟩ <;> simp[e]
       obtain⟨X,e,-,hR⟩:=zR7 hb (zX5 hok') (by omega) (xN5 (zT1 (csD s)) (by omega)) (yB8 (csD s))
       show rdFl (decide (csS s<0)) (psb (csD s)) (psD (csD s)) (psH (csD s)) (psX (csD s)) m<_
       rw[hR _ m (Classical.not_not.1 hm)];exact(zL1 (zI6 _ _ _)).2.2
theorem zQ6 (R:ByteArray) (m E:Int) (F:Nat) (w:World)
  (k1:∀ W,Bw w W→Calls Tryz.prog 8 #[.string R,.int .i64 m] W fun r w'=>r=.returned (.tuple #[.float .f64 F,.int .i64 E])∧Bw W w')
  (k2:∀ W,Bw w W→Calls Tryz.prog 9 #[.string R,.int .i64 m] W fun r w'=>r=.returned (.tuple #[.float .f64 F,.int .i64 E])∧Bw W w')
  (k3:∀ W,Calls Tryz.prog 10 #[.float .f64 F,.float .f64 F] W fun r w'=>r=.returned (.bool true)∧w'=W)
  (k4:∀ W,Bw w W→Calls Tryz.prog 11 #[] W fun r w'=>r=.returned (.bool true)∧Bw W w') :
  Calls Tryz.prog 3 #[.string R,.int .i64 m] w fun r w'=>r=.returned (.bool true)∧Bw w w':=by
 have j1:=k1 w (xB7 _ _);clear k1
 go_enter Tryz.func3,Tryz.ntmps3
 go_wp2_with fail;refine j1.mono ?_;rintro r w1 ⟨rfl,hb1⟩;have j2:=k2 w1 hb1;clear j1 k2
 go_wp2_with fail;refine j2.mono ?_;rintro r w2 ⟨rfl,hb2⟩;have hb:=hb1.trans (hb2.mono hb1.size);have j3:=k3 w2;have j4:=k4 w2 hb;have HB:Hid (Bw w w2):=hb;clear j2 hb1 hb2 k3 k4 hb
 go_wp2_with fail;refine j3.mono ?_;rintro r w3 ⟨rfl,hw⟩;replace hw:=hw.symm;subst hw;clear j3
 go_wp2_with fail;refine j4.mono ?_;rintro r w4 ⟨rfl,hb4⟩;have HB4:Hid (Bw w w4):=HB.out.trans (hb4.mono HB.out.size);clear j4 hb4
 go_wp2_with fail
 go_ret;exact⟨rfl,HB4.out⟩
theorem decimReads_ok (s:List UInt8) (m:Int) (w:World) (hT:Tab32 w) (hI:Ie.Tab w) (h10:Tab10 w) :
  Calls Tryz.prog 3 #[.string ⟨s.toArray⟩,.int .i64 m] w fun r w'=>r=.returned (.bool true)∧Bw w w':=by
 refine zQ6 ⟨s.toArray⟩ m (rdA s m).2 (rdA s m).1 w (fun W hW=>yG7 (hT.later hW)) (fun W _=>xJ5 s m W) (fun W=>?_) (fun W hW=>xF3 (hT.later hW) (Tab.later hI hW) (h10.later hW));have h:=xF8 (rdA s m).1 (rdA s m).1 (yB2 s m) (yB2 s m) W;rw[qW6] at h;exact h
end Go.Proofs.YtkcmhaknalomjaaGreatDoor
