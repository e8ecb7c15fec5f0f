/- Own work: contracts of the program's functions, part 3: W20 W21 W22 W23 IFl IW1 IW3 IW5 IW6 IW7 IW4 W24 W30 NW W25. -/
import Derived.Test.YtfkaogdmlcdceaaGreatDoorA2
import Derived.WalkKit
import Derived.WalkLawsBesides
import Derived.WalkSpells
import Derived.BigQuiet
import Derived.Laws.MathBits
import Derived.Lib.TrailingZeros
import Derived.Lib.LaidTab
import Derived.Deep.QuietTactic

set_option maxHeartbeats 16000000
set_option maxRecDepth 200000
set_option linter.unusedVariables false
set_option linter.unusedSimpArgs false
namespace Go.Proofs.YtfkaogdmlcdceaaGreatDoor
open Go.RowKit
attribute [local go_sem] iV Nu
theorem c12_1 (n:Int) (m:Nat) (w:World) (hT:Tab32 w) (hm:m<18446744073709551616) (hn:0≤n) (hw:IntKind.u64.wrap n=(m:Int)) :
  Ca 99 #[iV n] w fun r w'=>∃ a,r=.returned a∧Nrm w' w.heap.size a false m 0∧Bw w w':=by
 have J:Below w.heap.size w (w.alloc (.cells (Nu false none 0 0 0) 50)):=bR.alloc lR _;have H:=c57 m (w.alloc (.cells (Nu false none 0 0 0) 50)) hm;have D:=hT.later J;have u:Hid (Below w.heap.size w (w.alloc (.cells (Nu false none 0 0 0) 50))∧(w.alloc (.cells (Nu false none 0 0 0) 50)).heap[w.heap.size]?=some (.cells (Nu false none 0 0 0) 50 (0,0))∧Tab32 (w.alloc (.cells (Nu false none 0 0 0) 50))∧m<18446744073709551616):=⟨J,kB7 _ _,D,hm⟩;have HS:Hid ((w.alloc (.cells (Nu false none 0 0 0) 50)).heap.size=w.heap.size+1):=(by simp:(w.alloc (.cells (Nu false none 0 0 0) 50)).heap.size=w.heap.size+1)
 clear J hT D hm;have hd:decide (n<0)=false:=kF1 ω
 go_enter Tryz.func99,Tryz.ntmps99
 go_wp2_with fail
 (try rw[hw])
 generalize w.alloc (.cells (Nu false none 0 0 0) 50)=W at *;refine H.mono ?_;rintro r w1 ⟨v,rfl,hO,Y⟩;clear H;have hl:dlen m≤2:=(qZ3 2 m).2 (by have:=u.out.2.2.2;unfold B;omega)
 have F:=c56 (neg:=false) (e:=0) hO.is ω (u.out.2.2.1.later Y) ω;have V:Hid (Bw W w1):=Y;clear hO Y hl
 go_wp2_with fail;refine F.mono ?_;rintro r I ⟨a,rfl,hN,T⟩;clear F;obtain⟨s,ao,n',cap,ex,rfl⟩:=hN.shape;have C:Hid (Bw W I):=V.out.trans (T.mono V.out.size);have L:Hid (Hn I w.heap.size false none 0 0 0 50):=qQ0 u.out.2.1 C.out (by have:=HS.out;omega)
 obtain⟨⟨a1,a2,a3⟩,a4,a5,a6⟩:=qQ3 L.out;have HN:Hid (Nrm I W.heap.size (.agg (Nu s ao n' cap ex)) false m 0):=hN.mono V.out.size;clear hN T
 go_wp2;refine kB8 (kM2 rfl _ _ w.heap.size 50 (Nu s ao n' cap ex) (0,0) _ rfl (qX8 _ _ _ L.out) Tryz.underlying50 rfl Tryz.info50) rfl ?_;have hs:=HS.out;exact⟨_,rfl,(HN.out.store ω _ _ _).mono ω,qQ4 (u.out.1.trans (C.out.mono ω)) lR _ _ _⟩
theorem c12_2 (n:Int) (m:Nat) (w:World) (hT:Tab32 w) (hm:m<18446744073709551616) (hn:n<0) (hw:IntKind.u64.wrap (-IntKind.u64.wrap n)=(m:Int)) :
  Ca 99 #[iV n] w fun r w'=>∃ a,r=.returned a∧Nrm w' w.heap.size a true m 0∧Bw w w':=by
 have J:Below w.heap.size w (w.alloc (.cells (Nu false none 0 0 0) 50)):=bR.alloc lR _;have H:=c57 m (w.alloc (.cells (Nu false none 0 0 0) 50)) hm;have D:=hT.later J;have u:Hid (Below w.heap.size w (w.alloc (.cells (Nu false none 0 0 0) 50))∧(w.alloc (.cells (Nu false none 0 0 0) 50)).heap[w.heap.size]?=some (.cells (Nu false none 0 0 0) 50 (0,0))∧Tab32 (w.alloc (.cells (Nu false none 0 0 0) 50))∧m<18446744073709551616):=⟨J,kB7 _ _,D,hm⟩;have HS:Hid ((w.alloc (.cells (Nu false none 0 0 0) 50)).heap.size=w.heap.size+1):=(by simp:(w.alloc (.cells (Nu false none 0 0 0) 50)).heap.size=w.heap.size+1)
 clear J hT D hm
 go_enter Tryz.func99,Tryz.ntmps99
 go_wp2_with fail
 (try rw[hw])
 generalize w.alloc (.cells (Nu false none 0 0 0) 50)=W at *;refine H.mono ?_;rintro r w1 ⟨v,rfl,hO,Y⟩;clear H;have hl:dlen m≤2:=(qZ3 2 m).2 (by have:=u.out.2.2.2;unfold B;omega)
 have F:=c56 (neg:=true) (e:=0) hO.is ω (u.out.2.2.1.later Y) ω;have V:Hid (Bw W w1):=Y;clear hO Y hl
 go_wp2_with fail;refine F.mono ?_;rintro r I ⟨a,rfl,hN,T⟩;clear F;obtain⟨s,ao,n',cap,ex,rfl⟩:=hN.shape;have C:Hid (Bw W I):=V.out.trans (T.mono V.out.size);have L:Hid (Hn I w.heap.size false none 0 0 0 50):=qQ0 u.out.2.1 C.out (by have:=HS.out;omega)
 obtain⟨⟨a1,a2,a3⟩,a4,a5,a6⟩:=qQ3 L.out;have HN:Hid (Nrm I W.heap.size (.agg (Nu s ao n' cap ex)) true m 0):=hN.mono V.out.size;clear hN T
 go_wp2;refine kB8 (kM2 rfl _ _ w.heap.size 50 (Nu s ao n' cap ex) (0,0) _ rfl (qX8 _ _ _ L.out) Tryz.underlying50 rfl Tryz.info50) rfl ?_;have hs:=HS.out;exact⟨_,rfl,(HN.out.store ω _ _ _).mono ω,qQ4 (u.out.1.trans (C.out.mono ω)) lR _ _ _⟩
theorem c12 {n:Int} {w:World} (u:Tab32 w) (Y : -9223372036854775808≤n∧n≤9223372036854775807) :
  Ca 99 #[iV n] w fun r w'=>∃ a,r=.returned a∧Nrm w' w.heap.size a (decide (n<0)) n.natAbs 0∧Bw w w':=by
 by_cases h:n<0
 ·rw[kF2 h];exact c12_2 n n.natAbs w u ω h (by rw[kB6,kB6];omega)
 ·rw[kF1 h];exact c12_1 n n.natAbs w u ω ω (by rw[kB6];omega)
theorem qZ8 {P:Program} {F:Func} {p u v:Tmp} {J:TypeId} (h:F.results = #[.cell p J,.tmp u,.tmp v]) (Y:Array Value) (w:World) (g:Nat) (t:TypeId) (cs:Array Value) (H:Nat×Nat) (d:TypeDesc)
  (T:Y.getD p undef=.pointer (some ⟨g,0,none⟩)) (L:w.heap[g]?=some (.cells cs t H))
  (D:P.underlying J=some d) (W:(match d with | .struct _ | .array _ _=>true|_=>false)=true) (hi:(P.info? J).map (·.size)=some cs.size) :
  (results F Y).run P w=.ok (.tuple #[.agg cs,Y.getD u undef,Y.getD v undef]) w:=by
 have V:Y[p]?.getD undef=.pointer (some ⟨g,0,none⟩):=by simpa using T
 simp[results,h,V,asAddr,run_loadVar_row w g t J cs H d L D W hi]
def zP2 (w:World) (s:Bool) (z:Nat) (e:Int) (x:Bool) (r:Ending) (w':World):Prop :=
 ∃ A,r=.returned (.tuple #[if okR s z e then A else Nil,.bool (x&&okR s z e),.int .i64 (if okR s z e then 0 else 2)])∧Nrm w' w.heap.size A s z e∧Bw w w'
theorem kX4 (v:Value) (x:Nat) (place:Int) (w:World) (hT:Tab32 w) (h:Is w v x) (hx:dlen x≤1000000) (qG : -4000000≤place) (qU:place≤4000000) :
  Ca 160 #[.bool false,v,iV place,.bool false] w fun r w'=>zP2 w false x (-place) false r w':=by
 obtain⟨W,C⟩:=eE (w.alloc (.cells (Nu false none 0 0 0) 50));have u:Bw w W:=by rw[C];exact bR.alloc lR _
 have hC:Hn W w.heap.size false none 0 0 0 50:=by rw[C];exact kB7 _ _
 have T:W.heap.size=w.heap.size+1:=by rw[C];simp
 have D:=c56 (neg:=false) (e := -place) (h.later u) ω (hT.later u) ω;have HH:Hid _:=aI4 hC T u hx;have F:Hid (Bw W W):=kH9 _ _;clear hT h hx u hC T
 go_enter Tryz.func160,Tryz.ntmps160
 go_wp2_with fail;rw[←C];clear C;refine D.mono ?_;rintro r w2 ⟨A,rfl,hN,I⟩;clear D;have HN:Hid _:=hN.mono F.out.size;have qX:Hid _:=F.out.trans (I.mono F.out.size);clear hN I
 go_wp2_with fail;refine(c63n HN.out (by have:=HH.out.2.2.2;omega)).mono ?_
 rintro r J ⟨rfl,V⟩;have H:Hid _:=qX.out.trans (V.mono qX.out.size);have qQ:Hid (Nrm J W.heap.size A false x (-place)):=by
  rcases HN.out with h|⟨h0,v,h1,ho⟩
  ·exact .inl h
  ·exact .inr ⟨h0,v,h1,ho.later V⟩
 have qY:Hid (Hn J w.heap.size false none 0 0 0 50):=qQ0 HH.out.1 H.out (by have:=HH.out.2.1;omega)
 have qJ:w.heap.size<J.heap.size:=by have:=H.out.size;have:=HH.out.2.1;omega
 have qZ:Hid (∀ p q r o,((((J.setCell ⟨w.heap.size,0,none⟩ p).setCell ⟨w.heap.size,1,none⟩ q).setCell ⟨w.heap.size,2,none⟩ r).alloc o).heap[w.heap.size]?=some (.cells #[p,q,r] 50 (0,0))):=fun p q r o=>(Below.heap_alloc _ _ _ (by simp[World.setCell];omega)).trans (qX8 _ _ _ qY.out)
 obtain⟨⟨x1,x2,x3⟩,x4,x5,x6⟩:=qQ3 qY.out;obtain⟨s',ao,n,cap,ex,L⟩:=qQ.out.shape;obtain⟨-,hs,u,-⟩:=HH.out;have Y:Hid (∀ p q r o,Nrm ((((J.setCell ⟨w.heap.size,0,none⟩ p).setCell ⟨w.heap.size,1,none⟩ q).setCell ⟨w.heap.size,2,none⟩ r).alloc o) w.heap.size A false x (-place)∧Below w.heap.size w ((((J.setCell ⟨w.heap.size,0,none⟩ p).setCell ⟨w.heap.size,1,none⟩ q).setCell ⟨w.heap.size,2,none⟩ r).alloc o)):=by
  intro p q r o;have qK:Nrm ((((J.setCell ⟨w.heap.size,0,none⟩ p).setCell ⟨w.heap.size,1,none⟩ q).setCell ⟨w.heap.size,2,none⟩ r).alloc o) W.heap.size A false x (-place):=by
   rcases qQ.out.store (g:=w.heap.size) ω p q r with h|⟨h0,v,h1,ho⟩
   ·exact .inl h
   ·exact .inr ⟨h0,v,h1,ho.later (bR.alloc lR _)⟩
  exact⟨qK.mono ω,(qQ4 (u.trans (H.out.mono ω)) lR _ _ _).alloc (by simp[World.setCell];omega) _⟩
 clear V hs u;have qH:Hid (okR false x (-place)=okR false x (-place)):=(rfl:_=_);cases hok:okR false x (-place)
 ·have qV:Nil=.agg (Nu false none 0 0 0):=rfl;clear L
  go_wp2;refine kB8 (qZ8 rfl _ _ w.heap.size 50 (Nu false none 0 0 0) (0,0) _ rfl (qZ.out _ _ _ _) Tryz.underlying50 rfl Tryz.info50) rfl ?_;exact⟨A,by rw[hok];rfl,Y.out _ _ _ _⟩
 ·subst L
  go_wp2;refine kB8 (qZ8 rfl _ _ w.heap.size 50 (Nu s' ao n cap ex) (0,0) _ rfl (qZ.out _ _ _ _) Tryz.underlying50 rfl Tryz.info50) rfl ?_;exact⟨_,by rw[hok];rfl,Y.out _ _ _ _⟩
theorem kX3 (v:Value) (x:Nat) (place:Int) (w:World) (hT:Tab32 w) (h:Is w v x) (hx:dlen x≤1000000) (qG : -4000000≤place) (qU:place≤4000000) :
  Ca 160 #[.bool false,v,iV place,.bool true] w fun r w'=>zP2 w false x (-place) true r w':=by
 obtain⟨W,C⟩:=eE (w.alloc (.cells (Nu false none 0 0 0) 50));have u:Bw w W:=by rw[C];exact bR.alloc lR _
 have hC:Hn W w.heap.size false none 0 0 0 50:=by rw[C];exact kB7 _ _
 have T:W.heap.size=w.heap.size+1:=by rw[C];simp
 have D:=c56 (neg:=false) (e := -place) (h.later u) ω (hT.later u) ω;have HH:Hid _:=aI4 hC T u hx;have F:Hid (Bw W W):=kH9 _ _;clear hT h hx u hC T
 go_enter Tryz.func160,Tryz.ntmps160
 go_wp2_with fail;rw[←C];clear C;refine D.mono ?_;rintro r w2 ⟨A,rfl,hN,I⟩;clear D;have HN:Hid _:=hN.mono F.out.size;have qX:Hid _:=F.out.trans (I.mono F.out.size);clear hN I
 go_wp2_with fail;refine(c63n HN.out (by have:=HH.out.2.2.2;omega)).mono ?_
 rintro r J ⟨rfl,V⟩;have H:Hid _:=qX.out.trans (V.mono qX.out.size);have qQ:Hid (Nrm J W.heap.size A false x (-place)):=by
  rcases HN.out with h|⟨h0,v,h1,ho⟩
  ·exact .inl h
  ·exact .inr ⟨h0,v,h1,ho.later V⟩
 have qY:Hid (Hn J w.heap.size false none 0 0 0 50):=qQ0 HH.out.1 H.out (by have:=HH.out.2.1;omega)
 have qJ:w.heap.size<J.heap.size:=by have:=H.out.size;have:=HH.out.2.1;omega
 have qZ:Hid (∀ p q r o,((((J.setCell ⟨w.heap.size,0,none⟩ p).setCell ⟨w.heap.size,1,none⟩ q).setCell ⟨w.heap.size,2,none⟩ r).alloc o).heap[w.heap.size]?=some (.cells #[p,q,r] 50 (0,0))):=fun p q r o=>(Below.heap_alloc _ _ _ (by simp[World.setCell];omega)).trans (qX8 _ _ _ qY.out)
 obtain⟨⟨x1,x2,x3⟩,x4,x5,x6⟩:=qQ3 qY.out;obtain⟨s',ao,n,cap,ex,L⟩:=qQ.out.shape;obtain⟨-,hs,u,-⟩:=HH.out;have Y:Hid (∀ p q r o,Nrm ((((J.setCell ⟨w.heap.size,0,none⟩ p).setCell ⟨w.heap.size,1,none⟩ q).setCell ⟨w.heap.size,2,none⟩ r).alloc o) w.heap.size A false x (-place)∧Below w.heap.size w ((((J.setCell ⟨w.heap.size,0,none⟩ p).setCell ⟨w.heap.size,1,none⟩ q).setCell ⟨w.heap.size,2,none⟩ r).alloc o)):=by
  intro p q r o;have qK:Nrm ((((J.setCell ⟨w.heap.size,0,none⟩ p).setCell ⟨w.heap.size,1,none⟩ q).setCell ⟨w.heap.size,2,none⟩ r).alloc o) W.heap.size A false x (-place):=by
   rcases qQ.out.store (g:=w.heap.size) ω p q r with h|⟨h0,v,h1,ho⟩
   ·exact .inl h
   ·exact .inr ⟨h0,v,h1,ho.later (bR.alloc lR _)⟩
  exact⟨qK.mono ω,(qQ4 (u.trans (H.out.mono ω)) lR _ _ _).alloc (by simp[World.setCell];omega) _⟩
 clear V hs u;have qH:Hid (okR false x (-place)=okR false x (-place)):=(rfl:_=_);cases hok:okR false x (-place)
 ·have qV:Nil=.agg (Nu false none 0 0 0):=rfl;clear L
  go_wp2;refine kB8 (qZ8 rfl _ _ w.heap.size 50 (Nu false none 0 0 0) (0,0) _ rfl (qZ.out _ _ _ _) Tryz.underlying50 rfl Tryz.info50) rfl ?_;exact⟨A,by rw[hok];rfl,Y.out _ _ _ _⟩
 ·subst L
  go_wp2;refine kB8 (qZ8 rfl _ _ w.heap.size 50 (Nu s' ao n cap ex) (0,0) _ rfl (qZ.out _ _ _ _) Tryz.underlying50 rfl Tryz.info50) rfl ?_;exact⟨_,by rw[hok];rfl,Y.out _ _ _ _⟩
theorem kX1 (v:Value) (x:Nat) (place:Int) (w:World) (hT:Tab32 w) (h:Is w v x) (hx:dlen x≤1000000) (qG : -4000000≤place) (qU:place≤4000000) :
  Ca 160 #[.bool true,v,iV place,.bool true] w fun r w'=>zP2 w true x (-place) true r w':=by
 obtain⟨W,C⟩:=eE (w.alloc (.cells (Nu false none 0 0 0) 50));have u:Bw w W:=by rw[C];exact bR.alloc lR _
 have hC:Hn W w.heap.size false none 0 0 0 50:=by rw[C];exact kB7 _ _
 have T:W.heap.size=w.heap.size+1:=by rw[C];simp
 have D:=c56 (neg:=true) (e := -place) (h.later u) ω (hT.later u) ω;have HH:Hid _:=aI4 hC T u hx;have F:Hid (Bw W W):=kH9 _ _;clear hT h hx u hC T
 go_enter Tryz.func160,Tryz.ntmps160
 go_wp2_with fail;rw[←C];clear C;refine D.mono ?_;rintro r w2 ⟨A,rfl,hN,I⟩;clear D;have HN:Hid _:=hN.mono F.out.size;have qX:Hid _:=F.out.trans (I.mono F.out.size);clear hN I
 go_wp2_with fail;refine(c63n HN.out (by have:=HH.out.2.2.2;omega)).mono ?_
 rintro r J ⟨rfl,V⟩;have H:Hid _:=qX.out.trans (V.mono qX.out.size);have qQ:Hid (Nrm J W.heap.size A true x (-place)):=by
  rcases HN.out with h|⟨h0,v,h1,ho⟩
  ·exact .inl h
  ·exact .inr ⟨h0,v,h1,ho.later V⟩
 have qY:Hid (Hn J w.heap.size false none 0 0 0 50):=qQ0 HH.out.1 H.out (by have:=HH.out.2.1;omega)
 have qJ:w.heap.size<J.heap.size:=by have:=H.out.size;have:=HH.out.2.1;omega
 have qZ:Hid (∀ p q r o,((((J.setCell ⟨w.heap.size,0,none⟩ p).setCell ⟨w.heap.size,1,none⟩ q).setCell ⟨w.heap.size,2,none⟩ r).alloc o).heap[w.heap.size]?=some (.cells #[p,q,r] 50 (0,0))):=fun p q r o=>(Below.heap_alloc _ _ _ (by simp[World.setCell];omega)).trans (qX8 _ _ _ qY.out)
 obtain⟨⟨x1,x2,x3⟩,x4,x5,x6⟩:=qQ3 qY.out;obtain⟨s',ao,n,cap,ex,L⟩:=qQ.out.shape;obtain⟨-,hs,u,-⟩:=HH.out;have Y:Hid (∀ p q r o,Nrm ((((J.setCell ⟨w.heap.size,0,none⟩ p).setCell ⟨w.heap.size,1,none⟩ q).setCell ⟨w.heap.size,2,none⟩ r).alloc o) w.heap.size A true x (-place)∧Below w.heap.size w ((((J.setCell ⟨w.heap.size,0,none⟩ p).setCell ⟨w.heap.size,1,none⟩ q).setCell ⟨w.heap.size,2,none⟩ r).alloc o)):=by
  intro p q r o;have qK:Nrm ((((J.setCell ⟨w.heap.size,0,none⟩ p).setCell ⟨w.heap.size,1,none⟩ q).setCell ⟨w.heap.size,2,none⟩ r).alloc o) W.heap.size A true x (-place):=by
   rcases qQ.out.store (g:=w.heap.size) ω p q r with h|⟨h0,v,h1,ho⟩
   ·exact .inl h
   ·exact .inr ⟨h0,v,h1,ho.later (bR.alloc lR _)⟩
  exact⟨qK.mono ω,(qQ4 (u.trans (H.out.mono ω)) lR _ _ _).alloc (by simp[World.setCell];omega) _⟩
 clear V hs u;have qH:Hid (okR true x (-place)=okR true x (-place)):=(rfl:_=_);cases hok:okR true x (-place)
 ·have qV:Nil=.agg (Nu false none 0 0 0):=rfl;clear L
  go_wp2;refine kB8 (qZ8 rfl _ _ w.heap.size 50 (Nu false none 0 0 0) (0,0) _ rfl (qZ.out _ _ _ _) Tryz.underlying50 rfl Tryz.info50) rfl ?_;exact⟨A,by rw[hok];rfl,Y.out _ _ _ _⟩
 ·subst L
  go_wp2;refine kB8 (qZ8 rfl _ _ w.heap.size 50 (Nu s' ao n cap ex) (0,0) _ rfl (qZ.out _ _ _ _) Tryz.underlying50 rfl Tryz.info50) rfl ?_;exact⟨_,by rw[hok];rfl,Y.out _ _ _ _⟩
theorem qV0:dlen 1=1:=yU0 (by unfold B;omega) (.inr (by simp))
theorem kX2 (v:Value) (x:Nat) (place:Int) (w:World) (hT:Tab32 w) (h:Is w v x) (hx:dlen x≤900000) (qM : -4000000≤place) (qN:place≤4000000) :
  Ca 160 #[.bool true,v,iV place,.bool false] w fun r w'=>zP2 w true (x+1) (-place) false r w':=by
 obtain⟨W,hW⟩:=eE (w.alloc (.cells (Nu false none 0 0 0) 50));have u:Bw w W:=by rw[hW];exact bR.alloc lR _
 have hC:Hn W w.heap.size false none 0 0 0 50:=by rw[hW];exact kB7 _ _
 have C:W.heap.size=w.heap.size+1:=by rw[hW];simp
 have D:Hid _:=aI4 hC C u hx;have HI:Hid _:=And.intro (h.later u) (hT.later u);clear hT h hx u hC C
 go_enter Tryz.func160,Tryz.ntmps160
 go_wp2_with fail;rw[←hW];clear hW;refine(c57 1 W ω).mono ?_
 rintro r wa ⟨v1,rfl,qZ,H⟩;have qY:=HI.out.1.later H
 go_wp2_with fail;refine(c122 qY qZ.is (by have:=D.out.2.2.2;omega) (by rw[qV0];omega)).mono ?_
 rintro r wb ⟨vb,rfl,qQ,qX⟩;have Y:Hid _:=qG7 H qX;have L:=c56 (neg:=true) (e := -place) qQ.is (by have:=D.out.2.2.2;have:=qJ7 x 1;have:=qV0;omega) (HI.out.2.later Y.out) ω
 clear qZ qY H qX qQ HI
 go_wp2_with fail;refine L.mono ?_;rintro r w2 ⟨A,rfl,hN,qK⟩;clear L;have HN:Hid _:=hN.mono Y.out.size;have qG:Hid _:=Y.out.trans (qK.mono Y.out.size);clear hN qK
 go_wp2_with fail;refine(c63n HN.out (by have:=D.out.2.2.2;have:=qJ7 x 1;have:=qV0;omega)).mono ?_
 rintro r V ⟨rfl,F⟩;have T:Hid _:=qG.out.trans (F.mono qG.out.size);have qJ:Hid (Nrm V W.heap.size A true (x+1) (-place)):=by
  rcases HN.out with h|⟨h0,v,h1,ho⟩
  ·exact .inl h
  ·exact .inr ⟨h0,v,h1,ho.later F⟩
 have qU:Hid (Hn V w.heap.size false none 0 0 0 50):=qQ0 D.out.1 T.out (by have:=D.out.2.1;omega)
 have qF:w.heap.size<V.heap.size:=by have:=T.out.size;have:=D.out.2.1;omega
 have qV:Hid (∀ p q r o,((((V.setCell ⟨w.heap.size,0,none⟩ p).setCell ⟨w.heap.size,1,none⟩ q).setCell ⟨w.heap.size,2,none⟩ r).alloc o).heap[w.heap.size]?=some (.cells #[p,q,r] 50 (0,0))):=fun p q r o=>(Below.heap_alloc _ _ _ (by simp[World.setCell];omega)).trans (qX8 _ _ _ qU.out)
 obtain⟨⟨x1,x2,x3⟩,x4,x5,x6⟩:=qQ3 qU.out;obtain⟨s',ao,n,cap,ex,I⟩:=qJ.out.shape;obtain⟨-,hs,u,-⟩:=D.out;have J:Hid (∀ p q r o,Nrm ((((V.setCell ⟨w.heap.size,0,none⟩ p).setCell ⟨w.heap.size,1,none⟩ q).setCell ⟨w.heap.size,2,none⟩ r).alloc o) w.heap.size A true (x+1) (-place)∧Below w.heap.size w ((((V.setCell ⟨w.heap.size,0,none⟩ p).setCell ⟨w.heap.size,1,none⟩ q).setCell ⟨w.heap.size,2,none⟩ r).alloc o)):=by
  intro p q r o;have qH:Nrm ((((V.setCell ⟨w.heap.size,0,none⟩ p).setCell ⟨w.heap.size,1,none⟩ q).setCell ⟨w.heap.size,2,none⟩ r).alloc o) W.heap.size A true (x+1) (-place):=by
   rcases qJ.out.store (g:=w.heap.size) ω p q r with h|⟨h0,v,h1,ho⟩
   ·exact .inl h
   ·exact .inr ⟨h0,v,h1,ho.later (bR.alloc lR _)⟩
  exact⟨qH.mono ω,(qQ4 (u.trans (T.out.mono ω)) lR _ _ _).alloc (by simp[World.setCell];omega) _⟩
 clear F hs u;have qP:Hid (okR true (x+1) (-place)=okR true (x+1) (-place)):=(rfl:_=_);cases hok:okR true (x+1) (-place)
 ·have qB:Nil=.agg (Nu false none 0 0 0):=rfl;clear I
  go_wp2;refine kB8 (qZ8 rfl _ _ w.heap.size 50 (Nu false none 0 0 0) (0,0) _ rfl (qV.out _ _ _ _) Tryz.underlying50 rfl Tryz.info50) rfl ?_;exact⟨A,by rw[hok];rfl,J.out _ _ _ _⟩
 ·subst I
  go_wp2;refine kB8 (qZ8 rfl _ _ w.heap.size 50 (Nu s' ao n cap ex) (0,0) _ rfl (qV.out _ _ _ _) Tryz.underlying50 rfl Tryz.info50) rfl ?_;exact⟨_,by rw[hok];rfl,J.out _ _ _ _⟩
theorem c96 {neg exact:Bool} {v:Value} {x:Nat} {place:Int} {w:World} (J:Tab32 w) (h:Is w v x) (hx:dlen x≤900000) (Y : -4000000≤place) (u:place≤4000000) :
  Ca 160 #[.bool neg,v,iV place,.bool exact] w fun r w'=>zP2 w neg (if neg && !exact then x+1 else x) (-place) exact r w':=by
 cases neg <;> cases exact
 ·exact kX4 v x place w J h ω Y u
 ·exact kX3 v x place w J h ω Y u
 ·exact kX2 v x place w J h hx Y u
 ·exact kX1 v x place w J h ω Y u
theorem c94 (place:Int) (w:World) (h : -65536≤place∧place≤65536):Ca 157 #[iV place] w fun r w'=>r=.returned (.bool true)∧w'=w:=by
 obtain⟨Y,u⟩:=h
 go_enter Tryz.func157,Tryz.ntmps157
 go_wp2
 go_ret;exact⟨rfl,rfl⟩
theorem c44_1 (na nb:Bool) (ua L:Option Addr) (un uc D T X Y:Nat) (ea eb e place:Int) (C xc:Bool) (zz:Nat) (w:World) (qJ:Hid ((!(na==nb))=C)) (qL:Hid (decide (X % Y=0)=xc)) (qT:Hid ((if C && !xc then X / Y+1 else X / Y)=zz)) (hT:Tab32 w) (qV:Y≠0) (hX:dlen X≤900000) (hY:dlen Y≤900000) (zQ:((D:Int)==0)=false) (hp : -65536≤place∧place≤65536) (qA : -65536≤ea) (qE:ea≤65536)
  (qX:∀ W g,Bw w W→W.heap[g]?=some (.cells #[.bool na,.slice ua un uc,iV ea,.bool nb,.slice L D T,iV eb] 50 (0,0))→Ca 128 #[.slice (some ⟨g,0,none⟩) 2 2] W (Rq W (.bool true)))
  (qM:∀ W,Bw w W→Ca 158 #[.agg (Nu false ua un uc (ea+place)),.agg (Nu nb L D T eb)] W fun r w'=>∃ p q,r=.returned (.tuple #[p,q,iV e])∧Own w' W.heap.size p X∧Own w' W.heap.size q Y∧Bw W w') :
  Ca 90 #[NumV na (.slice ua un uc) ea,NumV nb (.slice L D T) eb,iV place] w fun r w'=>zP2 w C zz (-place) xc r w':=by
 obtain⟨W,hW⟩:=eE (((w.alloc (.cells (Nu na ua un uc ea) 50)).alloc (.cells (Nu nb L D T eb) 50)).alloc (.cells (Nu false none 0 0 0) 50));obtain⟨hA,qH,hC,qQ,u⟩:=qK9 _ _ _ hW;have H:Below w.heap.size w (W.alloc (.cells #[.bool na,.slice ua un uc,iV ea,.bool nb,.slice L D T,iV eb] 50)):=u.alloc u.size _;have k1:=qX (W.alloc (.cells #[.bool na,.slice ua un uc,iV ea,.bool nb,.slice L D T,iV eb] 50)) (w.heap.size+1+1+1) H (by rw[←qQ];exact kB7 _ _)
 have J:Hid ((Hn W w.heap.size na ua un uc ea 50∧Hn W (w.heap.size+1) nb L D T eb 50∧Hn W (w.heap.size+1+1) false none 0 0 0 50)∧W.heap.size=w.heap.size+1+1+1∧Bw w W∧Below W.heap.size W (W.alloc (.cells #[.bool na,.slice ua un uc,iV ea,.bool nb,.slice L D T,iV eb] 50))):=⟨⟨hA,qH,hC⟩,qQ,u,bR.alloc lR _⟩;have HT:Hid (Tab32 W∧Y≠0∧dlen X≤900000∧dlen Y≤900000):=⟨hT.later u,qV,hX,hY⟩;have qD:Hid _:=qM;have qY:=fun w=>c94 place w hp;obtain⟨qC,qW⟩:=hp;have qO:Hid (-65536≤place∧place≤65536):=⟨qC,qW⟩;unfold NumV;clear hA qH hC qQ u H qX qM hT qV hX hY
 go_enter Tryz.func90,Tryz.ntmps90
 go_wp2_with fail;rw[←hW];clear hW;refine k1.mono ?_;rintro r w1 ⟨rfl,qN⟩;clear k1;have F:Hid (Bw W w1):=J.out.2.2.2.trans (qN.mono J.out.2.2.2.size);obtain⟨⟨a0,a1,a2⟩,-⟩:=qQ3 (qQ0 J.out.1.1 F.out (by have:=J.out.2.1;omega))
 obtain⟨⟨b0,b1,b2⟩,-⟩:=qQ3 (qQ0 J.out.1.2.1 F.out (by have:=J.out.2.1;omega))
 clear qN
 go_wp2_with fail;refine(qY _).mono ?_
 rintro r qI ⟨rfl,rfl⟩;clear qY
 go_wp2_with fail;refine(qD.out _ (J.out.2.2.1.trans (F.out.mono J.out.2.2.1.size))).mono ?_
 rintro r w2 ⟨p,q,rfl,hp,hq,qB⟩;have qR:Hid (Bw W w2):=F.out.trans (qB.mono F.out.size);clear a0 a1 a2 b0 b1 b2 qB
 go_wp2_with fail;refine(c100 hp.is hq.is (by have:=HT.out.2.2.1;omega) (by have:=HT.out.2.2.2;omega) HT.out.2.1).mono ?_
 rw[qL.out];rintro r w3 ⟨qq,rfl,qU,qF⟩;have V:Hid (Bw W w3):=qR.out.trans (qF.mono qR.out.size);obtain⟨⟨a0,a1,a2⟩,-⟩:=qQ3 (qQ0 J.out.1.1 V.out (by have:=J.out.2.1;omega))
 obtain⟨⟨b0,b1,b2⟩,-⟩:=qQ3 (qQ0 J.out.1.2.1 V.out (by have:=J.out.2.1;omega))
 have I:=c96 (neg:=C) (exact:=xc) (place:=place) (HT.out.1.later V.out) qU.is (kF8 (qZ5 (kF9 ..)) HT.out.2.2.1) ω ω;rw[qT.out] at I;clear hp hq qU qF
 go_wp2_with fail;rw[qJ.out];refine I.mono ?_;clear I;rintro r w4 ⟨A,rfl,hN,H⟩;have qS:Hid (Bw W w4):=V.out.trans (H.mono V.out.size);have qP:Hid (Nrm w4 W.heap.size A C zz (-place)):=hN.mono V.out.size;have qZ:Hid (Hn w4 (w.heap.size+1+1) false none 0 0 0 50):=qQ0 J.out.1.2.2 qS.out (by have:=J.out.2.1;omega)
 obtain⟨⟨x1,x2,x3⟩,x4,x5,x6⟩:=qQ3 qZ.out;obtain⟨s',ao,n,cap,ex,qK⟩:=qP.out.shape;clear hN H a0 a1 a2 b0 b1 b2 qJ;obtain⟨-,hs,u,-⟩:=J.out;have HF:Hid (∀ p q r,Nrm (((w4.setCell ⟨w.heap.size+1+1,0,none⟩ p).setCell ⟨w.heap.size+1+1,1,none⟩ q).setCell ⟨w.heap.size+1+1,2,none⟩ r) w.heap.size A C zz (-place)∧Below w.heap.size w (((w4.setCell ⟨w.heap.size+1+1,0,none⟩ p).setCell ⟨w.heap.size+1+1,1,none⟩ q).setCell ⟨w.heap.size+1+1,2,none⟩ r)):=fun p q r =>
  ⟨(qP.out.store ω _ _ _).mono ω,qQ4 (u.trans (qS.out.mono u.size)) ω _ _ _⟩
 clear hs u;cases hok:okR C zz (-place)
 ·have qG:Nil=.agg (Nu false none 0 0 0):=rfl;clear qK
  go_wp2;refine kB8 (qZ8 rfl _ _ (w.heap.size+1+1) 50 (Nu false none 0 0 0) (0,0) _ rfl (qX8 _ _ _ qZ.out) Tryz.underlying50 rfl Tryz.info50) rfl ?_;exact⟨A,by rw[hok];simp[qG],HF.out _ _ _⟩
 ·subst qK
  go_wp2;refine kB8 (qZ8 rfl _ _ (w.heap.size+1+1) 50 (Nu s' ao n cap ex) (0,0) _ rfl (qX8 _ _ _ qZ.out) Tryz.underlying50 rfl Tryz.info50) rfl ?_;exact⟨_,by rw[hok];simp,HF.out _ _ _⟩
theorem c44 {na nb:Bool} {u v:Value} {x y:Nat} {ea eb place:Int} {w:World} (h1:Is w u x) (C:Is w v y) (hT:Tab32 w) (F:y≠0) (hx:dlen x≤2048) (hy:dlen y≤2048) (V:okN na (dlen x) x ea=true) (J:okN nb (dlen y) y eb=true)
  (ha : -65536≤ea∧ea≤65536) (hb : -65536≤eb∧eb≤65536) (hp : -65536≤place∧place≤65536) (X Y:Nat) (hX:x*2^(ea+place - min (ea+place) eb).toNat=X) (T:y*2^(eb - min (ea+place) eb).toNat=Y) :
  Ca 90 #[NumV na u ea,NumV nb v eb,iV place] w fun r w'=>zP2 w (na != nb) (if(na != nb) && !(decide (X % Y=0))then X / Y+1 else X / Y) (-place) (decide (X % Y=0)) r w':=by
 have I:=h1;have L:=C;obtain⟨ua,uc,rfl,-,-,-⟩:=I;obtain⟨va,vc,rfl,-,-,-⟩:=L;have lX:dlen X≤900000:=by have:=qK2 (x:=x) (k:=(ea+place - min (ea+place) eb).toNat) rfl;rw[←hX];omega
 have lY:dlen Y≤900000:=by have:=qK2 (x:=y) (k:=(eb - min (ea+place) eb).toNat) rfl;rw[←T];omega
 have D:Y≠0:=by rw[←T];exact Nat.ne_of_gt (Nat.mul_pos ω (kF3 _))
 refine c44_1 na nb ua va _ uc _ vc X Y ea eb (min (ea+place) eb) place (na != nb) _ _ w (rfl:(!(na==nb))=(na != nb)) rfl rfl hT D lX lY (qY8 (n:=0) F) hp ha.1 ha.2 (fun W g H hg=>?_) (fun W H=>?_)
 ·have:=qO9 hg (h1.later H) (C.later H) ω ω
  rw[V,J] at this;exact this
 ·have:=c99 (na:=false) (nb:=nb) (ea:=ea+place) (eb:=eb) (h1.later H) (C.later H) ω ω ω ω
  rw[hX,T] at this;exact this
end Go.Proofs.YtfkaogdmlcdceaaGreatDoor
/- Plain facts on the bits of a float64, of no program: its magnitude, its sign, whether it is a NaN, and that two floats stand in order as their numbers of steps from nought do. -/
namespace Go.Fl64
open Go.RowKit
def mag (a:Nat):Nat:=a % 9223372036854775808
def neg (a:Nat):Bool:=decide (9223372036854775808≤a)
def qY9 (a:Nat):Bool:=decide (9218868437227405312<mag a)
def sgn (s:Bool) (n:Nat):Int:=if s then -(n:Int) else(n:Int)
def stp (a:Nat):Int:=sgn (neg a) (mag a)
theorem yI6 (a:Nat):mag a<9223372036854775808:=Nat.mod_lt _ (by decide)
theorem xN9 (a:Nat):a &&& 9223372036854775807=a % 9223372036854775808:=by
 have:=Nat.and_two_pow_sub_one_eq_mod a 63
 simpa using this
theorem qI4 (a:Nat) (h:a<18446744073709551616):bits .andNot .u64 (a:Int) 9223372036854775808=(mag a:Int):=by
 have e:=u64_andNot_nat a 9223372036854775808 h (by decide)
 rw[show((9223372036854775808:Nat):Int)=9223372036854775808 from rfl] at e;rw[e];congr 1
 unfold mag;rw[←xN9]
theorem yN1 (a:Nat) (h:a<18446744073709551616):decide (wrap64 (a:Int)<0)=neg a:=by
 unfold neg wrap64;congr 1
 apply propext
 omega
/-! ### The order of floats -/
def val (r:Nat):Nat:=if r<4503599627370496 then r else(4503599627370496+r % 4503599627370496)*2^(r / 4503599627370496 - 1)
theorem zP7 (r:Nat):val r<val (r+1):=by
 unfold val;by_cases h1:r+1<4503599627370496
 ·rw[if_pos (by omega),if_pos h1];omega
 ·rw[if_neg h1];by_cases h2:r<4503599627370496
  ·rw[if_pos h2];have e:r+1=4503599627370496:=by omega
   rw[e];simp
   omega
  ·rw[if_neg h2];by_cases h3:r % 4503599627370496+1<4503599627370496
   ·have e1:(r+1) % 4503599627370496=r % 4503599627370496+1:=by omega
    have e2:(r+1) / 4503599627370496=r / 4503599627370496:=by omega
    rw[e1,e2];exact Nat.mul_lt_mul_of_pos_right (by omega) (Nat.two_pow_pos _)
   ·have e1:(r+1) % 4503599627370496=0:=by omega
    have e2:(r+1) / 4503599627370496 - 1=(r / 4503599627370496 - 1)+1:=by omega
    rw[e1,e2,Nat.pow_succ];have hp:=Nat.two_pow_pos (r / 4503599627370496 - 1);generalize 2^(r / 4503599627370496 - 1)=p at *;have e3:(4503599627370496+r % 4503599627370496)*p≤9007199254740991*p:=Nat.mul_le_mul_right _ (by omega)
    omega
theorem qW2 {r s:Nat} (h:r<s):val r<val s:=by
 obtain⟨d,rfl⟩:∃ d,s=r+1+d:=⟨s - r - 1,by omega⟩
 clear h;induction d with
 | zero=>exact zP7 r
 | succ d ih=>exact Nat.lt_trans ih (zP7 _)
theorem zP8 (r s:Nat):val r<val s↔r<s:=by
 constructor
 ·intro h;apply Nat.lt_of_not_le
  intro hle;rcases Nat.lt_or_eq_of_le hle with h'|h'
  ·have:=qW2 h';omega
  ·subst h';omega
 ·exact qW2
theorem xP5 (r s:Nat):val r=val s↔r=s:=by
 have h1:=zP8 r s;have h2:=zP8 s r;omega
theorem yN4:val 0=0:=rfl
theorem qC8 (r:Nat):val r=0↔r=0:=by
 have:=xP5 r 0
 rw[yN4] at this;exact this
theorem zY7 {x y x' y':Int} (h1:x<y↔x'<y') (h2:x=y↔x'=y'):compare x y=compare x' y':=by
 show compareOfLessAndEq x y=compareOfLessAndEq x' y'
 unfold compareOfLessAndEq;by_cases a:x<y
 ·rw[if_pos a,if_pos (h1.1 a)]
 ·rw[if_neg a,if_neg (fun b=>a (h1.2 b))];by_cases b:x=y
  ·rw[if_pos b,if_pos (h2.1 b)]
  ·rw[if_neg b,if_neg (fun c=>b (h2.2 c))]
theorem zG5 {x y:Int} (h:x<y):compare x y=.lt:=by
 show compareOfLessAndEq x y=_
 unfold compareOfLessAndEq;rw[if_pos h]
theorem cmp_eq {x y:Int} (h:x=y):compare x y=.eq:=by
 show compareOfLessAndEq x y=_
 unfold compareOfLessAndEq;rw[if_neg (by omega),if_pos h]
theorem cmp_gt {x y:Int} (h:y<x):compare x y=.gt:=by
 show compareOfLessAndEq x y=_
 unfold compareOfLessAndEq;rw[if_neg (by omega),if_neg (by omega)]
theorem xR4 (s t:Bool) (m n m' n':Nat) (h1:m<n↔m'<n') (h2:n<m↔n'<m') (h3:m=0↔m'=0) (h4:n=0↔n'=0):sgn s m<sgn t n↔sgn s m'<sgn t n':=by
 unfold sgn;cases s <;> cases t <;> simp <;> omega
theorem xR5 (s t:Bool) (m n m' n':Nat) (h1:m<n↔m'<n') (h2:n<m↔n'<m') (h3:m=0↔m'=0) (h4:n=0↔n'=0):sgn s m=sgn t n↔sgn s m'=sgn t n':=by
 unfold sgn;cases s <;> cases t <;> simp <;> omega
theorem xY2 (s t:Bool) (m n m' n':Nat) (h1:m<n↔m'<n') (h2:n<m↔n'<m') (h3:m=0↔m'=0) (h4:n=0↔n'=0):compare (sgn s m) (sgn t n)=compare (sgn s m') (sgn t n') :=
 zY7 (xR4 s t m n m' n' h1 h2 h3 h4) (xR5 s t m n m' n' h1 h2 h3 h4)
theorem qO3 (s:Bool) (m u:Nat):Ieee.signed s m u=sgn s (m*2^u):=by
 unfold Ieee.signed sgn;rw[Nat.shiftLeft_eq]
theorem qP8 (a:Nat) (h:a<18446744073709551616) (hf:mag a<9218868437227405312) :
  ∃ (m k:Nat),Ieee.double.read a=.number (neg a) m (-1074+(k:Int))∧m*2^k=val (mag a):=by
 have hs:Ieee.double.signWeight=9223372036854775808:=by decide
 have hb:Ieee.double.binade=4503599627370496:=by decide
 have hi:Ieee.double.infRung=9218868437227405312:=by decide
 have hl:Ieee.double.leastPlace = -1074:=by decide
 have hn:(a / 9223372036854775808 % 2==1)=neg a:=by
  unfold neg;rw[Bool.beq_eq_decide_eq];congr 1
  apply propext
  omega
 unfold Ieee.Format.read;simp only[hs,hb,hi,hl,hn];show ∃ m k,(if mag a<4503599627370496 then _ else _)=_∧_
 unfold mag at hf ⊢;by_cases h1:a % 9223372036854775808<4503599627370496
 ·refine⟨a % 9223372036854775808,0,?_,?_⟩
  ·rw[if_pos h1];simp
  ·unfold val;rw[if_pos h1];simp
 ·refine⟨4503599627370496+a % 9223372036854775808 % 4503599627370496,a % 9223372036854775808 / 4503599627370496 - 1,?_,?_⟩
  ·rw[if_neg h1,if_pos hf]
  ·unfold val;rw[if_neg h1]
theorem qB3 (a:Nat) (h:a<18446744073709551616) (hf:mag a=9218868437227405312):Ieee.double.read a=.infinity (neg a):=by
 have hs:Ieee.double.signWeight=9223372036854775808:=by decide
 have hb:Ieee.double.binade=4503599627370496:=by decide
 have hi:Ieee.double.infRung=9218868437227405312:=by decide
 have hn:(a / 9223372036854775808 % 2==1)=neg a:=by
  unfold neg;rw[Bool.beq_eq_decide_eq];congr 1
  apply propext
  omega
 unfold Ieee.Format.read;simp only[hs,hb,hi,hn];unfold mag at hf;rw[hf];simp
theorem zS4 (a:Nat) (hf:9218868437227405312<mag a):∃ s f,Ieee.double.read a=.nan s f:=by
 have hs:Ieee.double.signWeight=9223372036854775808:=by decide
 have hb:Ieee.double.binade=4503599627370496:=by decide
 have hi:Ieee.double.infRung=9218868437227405312:=by decide
 unfold Ieee.Format.read;simp only[hs,hb,hi];unfold mag at hf;rw[if_neg (by omega),if_neg (by omega),if_neg (by omega)]
 exact⟨_,_,rfl⟩
theorem qU7 (a b:Nat) (h:qY9 a=true):Ieee.double.order a b=none:=by
 obtain⟨s,f,e⟩:=zS4 a (of_decide_eq_true h);unfold Ieee.Format.order;rw[e];rfl
theorem qH1 (a b:Nat) (h:qY9 b=true):Ieee.double.order a b=none:=by
 obtain⟨s,f,e⟩:=zS4 b (of_decide_eq_true h);unfold Ieee.Format.order;rw[e];cases Ieee.double.read a <;> rfl
theorem qR1 (a b:Nat) (ha:a<18446744073709551616) (hb:b<18446744073709551616) (na:qY9 a=false) (nb:qY9 b=false) :
  Ieee.double.order a b=some (compare (stp a) (stp b)):=by
 have na':¬ 9218868437227405312<mag a:=of_decide_eq_false na;have nb':¬ 9218868437227405312<mag b:=of_decide_eq_false nb;unfold Ieee.Format.order stp;by_cases fa:mag a<9218868437227405312
 ·obtain⟨m,k,e,hm⟩:=qP8 a ha fa;by_cases fb:mag b<9218868437227405312
  ·obtain⟨n,l,e',hn⟩:=qP8 b hb fb;rw[e,e'];unfold Ieee.Datum.order;dsimp only
   rw[qO3,qO3];congr 1
   have e1:((-1074+(k:Int)) - min (-1074+(k:Int)) (-1074+(l:Int))).toNat=k - min k l:=by omega
   have e2:((-1074+(l:Int)) - min (-1074+(k:Int)) (-1074+(l:Int))).toNat=l - min k l:=by omega
   rw[e1,e2];have p1:m*2^(k - min k l)*2^min k l=val (mag a):=by
    rw[Nat.mul_assoc,←Nat.pow_add,show k - min k l+min k l=k by omega,hm]
   have p2:n*2^(l - min k l)*2^min k l=val (mag b):=by
    rw[Nat.mul_assoc,←Nat.pow_add,show l - min k l+min k l=l by omega,hn]
   have hp:=Nat.two_pow_pos (min k l);generalize m*2^(k - min k l)=X at *;generalize n*2^(l - min k l)=Y at *;generalize 2^min k l=p at *;have v1:=zP8 (mag a) (mag b);have v2:=zP8 (mag b) (mag a);have z1:=qC8 (mag a);have z2:=qC8 (mag b);rw[←p1,←p2] at v1 v2;rw[←p1] at z1;rw[←p2] at z2;apply xY2
   ·rw[←v1];exact(Nat.mul_lt_mul_right hp).symm
   ·rw[←v2];exact(Nat.mul_lt_mul_right hp).symm
   ·rw[←z1,Nat.mul_eq_zero];omega
   ·rw[←z2,Nat.mul_eq_zero];omega
  ·have fb':mag b=9218868437227405312:=by omega
   rw[e,qB3 b hb fb',fb'];unfold Ieee.Datum.order;dsimp only
   congr 1
   cases neg b
   ·exact(zG5 (by unfold sgn;cases neg a <;> simp <;> omega)).symm
   ·exact(cmp_gt (by unfold sgn;cases neg a <;> simp <;> omega)).symm
 ·have fa':mag a=9218868437227405312:=by omega
  rw[qB3 a ha fa',fa'];by_cases fb:mag b<9218868437227405312
  ·obtain⟨n,l,e',hn⟩:=qP8 b hb fb;rw[e'];unfold Ieee.Datum.order;dsimp only
   congr 1
   cases neg a
   ·exact(cmp_gt (by unfold sgn;cases neg b <;> simp <;> omega)).symm
   ·exact(zG5 (by unfold sgn;cases neg b <;> simp <;> omega)).symm
  ·have fb':mag b=9218868437227405312:=by omega
   rw[qB3 b hb fb',fb'];unfold Ieee.Datum.order;dsimp only
   congr 1
   cases neg b <;> cases neg a <;> rfl
/-! ### The six comparisons of Go, as the walk spells them -/
theorem f64:FloatKind.f64.format=Ieee.double:=rfl
theorem zX3 (a:Nat) (h:a<18446744073709551616):(FloatKind.f64.format.order a a != some Ordering.eq)=qY9 a:=by
 rw[f64];cases hn:qY9 a with
 | true=>rw[qU7 a a hn];rfl
 | false=>rw[qR1 a a h h hn hn,cmp_eq rfl];rfl
def lt (a b:Nat):Bool := !qY9 a && !qY9 b&&decide (stp a<stp b)
def eq (a b:Nat):Bool := !qY9 a && !qY9 b&&decide (stp a=stp b)
theorem yI3 (a b:Nat) (ha:a<18446744073709551616) (hb:b<18446744073709551616):(FloatKind.f64.format.order a b==some Ordering.lt)=lt a b:=by
 rw[f64];unfold lt;cases na:qY9 a with
 | true=>rw[qU7 a b na];rfl
 | false =>
  cases nb:qY9 b with
  | true=>rw[qH1 a b nb];rfl
  | false =>
   rw[qR1 a b ha hb na nb];rcases Int.lt_trichotomy (stp a) (stp b)with h|h|h
   ·rw[zG5 h];simp[h]
   ·rw[cmp_eq h];simp[h]
   ·rw[cmp_gt h,decide_eq_false (by omega)];rfl
theorem qA0 (a b:Nat) (ha:a<18446744073709551616) (hb:b<18446744073709551616):(FloatKind.f64.format.order a b==some Ordering.eq)=eq a b:=by
 rw[f64];unfold eq;cases na:qY9 a with
 | true=>rw[qU7 a b na];rfl
 | false =>
  cases nb:qY9 b with
  | true=>rw[qH1 a b nb];rfl
  | false =>
   rw[qR1 a b ha hb na nb];rcases Int.lt_trichotomy (stp a) (stp b)with h|h|h
   ·rw[zG5 h,decide_eq_false (by omega)];rfl
   ·rw[cmp_eq h];simp[h]
   ·rw[cmp_gt h,decide_eq_false (by omega)];rfl
theorem yI4 (a b:Nat) (ha:a<18446744073709551616) (hb:b<18446744073709551616):(FloatKind.f64.format.order a b==some Ordering.gt)=lt b a:=by
 rw[f64];unfold lt;cases na:qY9 a with
 | true=>rw[qU7 a b na];cases qY9 b <;> rfl
 | false =>
  cases nb:qY9 b with
  | true=>rw[qH1 a b nb];rfl
  | false =>
   rw[qR1 a b ha hb na nb];rcases Int.lt_trichotomy (stp a) (stp b)with h|h|h
   ·rw[zG5 h,decide_eq_false (by omega)];rfl
   ·rw[cmp_eq h,decide_eq_false (by omega)];rfl
   ·rw[cmp_gt h,decide_eq_true h];rfl
/-! ### Classes, signs -/
def cls (a:Nat):Int :=
 if(9218868437227405312:Int)<(mag a:Int)then 1 else if((mag a:Int)==9218868437227405312)then 2 else if((mag a:Int)==0)then 3 else if(mag a:Int)<4503599627370496 then 4 else 5
def cneg (a:Nat):Bool:=if(9218868437227405312:Int)<(mag a:Int)then false else neg a
def same (a b:Nat):Bool:=((a:Int)==(b:Int))||(qY9 a&&qY9 b)
def sig (s:Bool) (m:Nat):Nat:=if s then m+9223372036854775808 else m
theorem yL4 (b:Nat) (h:b<18446744073709551616):bits .and .u64 (b:Int) 9223372036854775808=if neg b then 9223372036854775808 else 0:=by
 have e:=u64_and_nat b 9223372036854775808 h (by decide)
 rw[show((9223372036854775808:Nat):Int)=9223372036854775808 from rfl] at e;rw[e];have e2:b &&& 9223372036854775808=b / 9223372036854775808 % 2*9223372036854775808:=nat_bit 63 b;rw[e2];unfold neg;by_cases hn:9223372036854775808≤b
 ·rw[decide_eq_true hn];simp;omega
 ·rw[decide_eq_false hn];simp;omega
theorem xV8 (m:Nat) (h:m<9223372036854775808):bits .or .u64 (m:Int) 9223372036854775808=((m+9223372036854775808:Nat):Int):=by
 have e:=u64_or_nat m 9223372036854775808 (by omega) (by decide)
 rw[show((9223372036854775808:Nat):Int)=9223372036854775808 from rfl] at e;rw[e];congr 1
 have:=Nat.two_pow_add_eq_or_of_lt (i:=63) h 1
 rw[Nat.or_comm,←(show 2^63*1=9223372036854775808 from rfl),←this,Nat.add_comm]
end Go.Fl64
/- What the small functions of the program answer, call by call: the bits, the sign, the magnitude of a float, whether it is a NaN. -/
namespace Go.Proofs.YtfkaogdmlcdceaaGreatDoor.Ie
open Go.RowKit Go.Fl64
theorem run_bits (a:Nat) (w:World):(callFunc 57 #[.float .f64 a]).run Tryz.prog w=.ok (.value (.int .u64 a)) w :=
 run_callFunc_extern Tryz.func57 (e:=Extern.MathFloatBits.float64bits) (by kernel_rfl) (by kernel_rfl) (by kernel_rfl) (by kernel_rfl) #[.float .f64 a] w
theorem run_frombits (a:Int) (w:World):(callFunc 62 #[.int .u64 a]).run Tryz.prog w=.ok (.value (.float .f64 a.toNat)) w :=
 run_callFunc_extern Tryz.func62 (e:=Extern.MathFloatBits.float64frombits) (by kernel_rfl) (by kernel_rfl) (by kernel_rfl) (by kernel_rfl) #[.int .u64 a] w
theorem c32 (a:Nat) (u:a<18446744073709551616) (w:World) :
  Ca 105 #[.float .f64 a] w fun e w'=>e=.returned (.int .u64 (mag a))∧w'=w:=by
 have Y:=run_bits
 go_enter Tryz.func105,Tryz.ntmps105
 go_wp2
 go_ret;refine⟨?_,rfl⟩
 show Ending.returned (.int .u64 (bits .andNot .u64 a 9223372036854775808))=_
 rw[qI4 a u]
theorem c33 (a:Nat) (u:a<18446744073709551616) (w:World) :
  Ca 80 #[.float .f64 a] w fun e w'=>e=.returned (.bool (neg a))∧w'=w:=by
 have Y:=run_bits
 go_enter Tryz.func80,Tryz.ntmps80
 go_wp2
 go_ret;refine⟨?_,rfl⟩
 show Ending.returned (.bool (decide (wrap64 (a:Int)<0)))=_
 rw[yN1 a u]
theorem c9 (a:Nat) (V:a<18446744073709551616) (w:World) :
  Ca 74 #[.float .f64 a] w fun e w'=>e=.returned (.tuple #[iV (cls a),.bool (cneg a)])∧w'=w:=by
 have Y:=c32 a V;have u:=c33 a V;unfold cls cneg;generalize (mag a:Int)=m at Y ⊢;generalize neg a=s at u ⊢;clear V;by_cases J:(9218868437227405312:Int)<m
 ·simp only[J,if_true]
  go_enter Tryz.func74,Tryz.ntmps74
  go_wp2_with (first|(go_at_call 105;refine(Y _).mono ?_;rintro e w' ⟨rfl,rfl⟩)|(go_at_call 80;refine(u _).mono ?_;rintro e w' ⟨rfl,rfl⟩))
  go_ret2
  exact⟨rfl,rfl⟩
 ·cases h2:(m==9218868437227405312) with
  | true =>
   simp only[J,if_true,if_false]
   go_enter Tryz.func74,Tryz.ntmps74
   go_wp2_with (first|(go_at_call 105;refine(Y _).mono ?_;rintro e w' ⟨rfl,rfl⟩)|(go_at_call 80;refine(u _).mono ?_;rintro e w' ⟨rfl,rfl⟩))
   go_ret2
   exact⟨rfl,rfl⟩
  | false =>
   cases h3:(m==0) with
   | true =>
    simp only[J,if_true,if_false,Bool.false_eq_true]
    go_enter Tryz.func74,Tryz.ntmps74
    go_wp2_with (first|(go_at_call 105;refine(Y _).mono ?_;rintro e w' ⟨rfl,rfl⟩)|(go_at_call 80;refine(u _).mono ?_;rintro e w' ⟨rfl,rfl⟩))
    go_ret2
    exact⟨rfl,rfl⟩
   | false =>
    by_cases H:m<4503599627370496
    ·simp only[J,H,if_true,if_false,Bool.false_eq_true]
     go_enter Tryz.func74,Tryz.ntmps74
     go_wp2_with (first|(go_at_call 105;refine(Y _).mono ?_;rintro e w' ⟨rfl,rfl⟩)|(go_at_call 80;refine(u _).mono ?_;rintro e w' ⟨rfl,rfl⟩))
     go_ret2
     exact⟨rfl,rfl⟩
    ·simp only[J,H,if_false,Bool.false_eq_true]
     go_enter Tryz.func74,Tryz.ntmps74
     go_wp2_with (first|(go_at_call 105;refine(Y _).mono ?_;rintro e w' ⟨rfl,rfl⟩)|(go_at_call 80;refine(u _).mono ?_;rintro e w' ⟨rfl,rfl⟩))
     go_ret2
     exact⟨rfl,rfl⟩
end Go.Proofs.YtfkaogdmlcdceaaGreatDoor.Ie
/- What the library's bits.Len64, LeadingZeros64 and TrailingZeros64 answer. -/
namespace Go.Proofs.YtfkaogdmlcdceaaGreatDoor.Ie
open Go.RowKit Go.Fl64
theorem len_fin (x k p:Nat) (y:Int) (hk:k≤56) (hp:2^k=p) (hy:y.toNat=x / p) (hy0:x / p≠0) (hy1:x / p<256):wrap64 ((k:Int)+wrap64 (bitLen y.toNat:Int))=(bitLen x:Int):=by
 have e:=bitLen_shift x k (by rw[hp];exact hy0)
 have l:=bitLen_le8 (x / p) hy1;rw[hp] at e;rw[hy,e];generalize bitLen (x / p)=a at *;unfold wrap64;omega
theorem len_fin0 (x:Nat) (hx:x<256):wrap64 (wrap64 (bitLen (x:Int).toNat:Int))=(bitLen x:Int):=by
 have l:=bitLen_le8 x hx;rw[kN9];generalize bitLen x=a at *;unfold wrap64;omega
theorem c62 (x:Nat) (hx:x<18446744073709551616) (w:World) :
  Calls Tryz.prog 108 #[.int .u64 x] w fun e w'=>e=.returned (.int .i64 (bitLen x))∧w'=w:=by
 obtain⟨X,hX⟩:∃ X:Int,X=(x:Int):=⟨_,rfl⟩;rw[←hX];have hX0:0≤X:=ω;have hX1:Hid (X<18446744073709551616):=(by omega:X<18446744073709551616)
 have hX':Hid (X=(x:Int)):=hX;clear hX hx
 go_enter Tryz.func108,Tryz.ntmps108
 go_wp2;all_goals go_ret
 all_goals (refine⟨kU7 Ending.returned (kU7 (Value.int IntKind.i64) ?_),rfl⟩)
 all_goals have h1:=hX1.out
 all_goals have h2:=hX'.out
 all_goals clear hX1 hX'
 all_goals subst h2
 all_goals rw[len8tab_get]
 ·exact len_fin x 56 72057594037927936 _ δ δ ω ω ω
 ·exact len_fin x 48 281474976710656 _ δ δ ω ω ω
 ·exact len_fin x 40 1099511627776 _ δ δ ω ω ω
 ·exact len_fin x 32 4294967296 _ δ δ ω ω ω
 ·exact len_fin x 24 16777216 _ δ δ ω ω ω
 ·exact len_fin x 16 65536 _ δ δ ω ω ω
 ·exact len_fin x 8 256 _ δ δ ω ω ω
 ·exact len_fin0 x ω
theorem qD5 (x:Nat) (hx:x<18446744073709551616):bitLen x≤64:=by
 unfold bitLen;split
 ·omega
 ·rename_i h0
  have:=(Nat.log2_lt h0).2 (show x<2^64 from hx)
  omega
theorem c57 (x:Nat) (hx:x<18446744073709551616) (w:World) :
  Calls Tryz.prog 235 #[.int .u64 x] w fun e w'=>e=.returned (.int .i64 (64 - (bitLen x:Int)))∧w'=w:=by
 have k:=c62 x hx;have hl:Hid ((bitLen x:Int)≤64):=by have:=qD5 x hx;exact(by omega:(bitLen x:Int)≤64)
 have h0:Hid (0≤(bitLen x:Int)):=(by omega:0≤(bitLen x:Int))
 clear hx;generalize (bitLen x:Int)=b at k hl h0 ⊢
 go_enter Tryz.func235,Tryz.ntmps235
 go_wp2_with (first|(go_at_call 108;refine(k _).mono ?_;rintro e w' ⟨rfl,rfl⟩))
 go_ret;refine⟨?_,rfl⟩
 show Ending.returned (.int .i64 (wrap64 (64 - b)))=_
 have hl:=hl.out;have h0:=h0.out;rw[show wrap64 (64 - b)=64 - b by unfold wrap64;omega]
theorem xD4 (x a:Nat) (hx:x<18446744073709551616) (Y:x≠0) (u:x &&& (18446744073709551616 - x)=a) :
  IntKind.u64.wrap (bits BinOp.and IntKind.u64 (x:Int) (IntKind.u64.wrap (-(x:Int)))*285870213051353865) / 288230376151711744=((a*285870213051353865 % 18446744073709551616 / 288230376151711744:Nat):Int):=by
 have J:IntKind.u64.wrap (-(x:Int))=((18446744073709551616 - x:Nat):Int):=by rw[kB6];omega
 rw[J,u64_and_nat x _ hx ω,u,kB6];omega
theorem c51x (x k u:Nat) (w:World) (V:((x:Int)==0)=false)
  (Y:IntKind.u64.wrap (bits BinOp.and IntKind.u64 (x:Int) (IntKind.u64.wrap (-(x:Int)))*285870213051353865) / 288230376151711744=(u:Int))
  (hi:u<64) (H:k<64) (J:w.cell? ⟨1,u,none⟩=some (.int .u8 k)) :
  Ca 106 #[.int .u64 x] w fun e w'=>e=.returned (iV k)∧w'=w:=by
 go_enter Tryz.func106,Tryz.ntmps106
 go_wp2_with (simp only[Y])
 go_ret;exact⟨rfl,rfl⟩
def Tab (w:World):Prop:=∀ i,i<64→w.cell? ⟨1,i,none⟩=some (.int .u8 (Lib.deBruijn64tab.getD i 0:Nat))
theorem c51 (x:Nat) (hx:x<18446744073709551616) (Y:x≠0) (w:World) (F:Tab w) :
  Ca 106 #[.int .u64 x] w fun e w'=>e=.returned (iV (Lib.ctz 64 x))∧w'=w:=by
 obtain⟨V,H⟩:=Lib.lowest_bit 64 x Y hx;obtain⟨hi,J⟩:=Lib.deBruijn64_at _ H;have u:=F _ hi;rw[J] at u;exact c51x x _ _ w (by simp;omega) (xD4 x _ hx Y V) hi H u
end Go.Proofs.YtfkaogdmlcdceaaGreatDoor.Ie
/- What the program's rounding answers: a mantissa shifted and rounded, and the bits of m times 2 to the e, rounded. -/
namespace Go.Proofs.YtfkaogdmlcdceaaGreatDoor.Ie
open Go.RowKit Go.Fl64
theorem c58_0 (m d K L F Y:Int) (o:Bool) (w:World) (C:1≤d) (W:d≤64) (V:0≤m) (D:m / 2^d.toNat=K) (H:IntKind.u64.wrap (m - IntKind.u64.wrap (K*2^d.toNat))=L) (T:IntKind.u64.wrap (2^(d.toNat - 1))=F) (J:(bits BinOp.and IntKind.u64 K 1==1)=o) (u:IntKind.u64.wrap (K+1)=Y) :
  Ca 236 #[.int .u64 m,iV d,iV 0] w fun e w'=>e=.returned (.int .u64 K)∧w'=w:=by
 go_enter Tryz.func236,Tryz.ntmps236
 go_wp2
 go_ret;exact⟨rfl,rfl⟩
theorem c58_1 (m d K L F Y:Int) (o:Bool) (w:World) (I:1≤d) (C:d≤64) (H:0≤m) (T:m / 2^d.toNat=K) (D:IntKind.u64.wrap (m - IntKind.u64.wrap (K*2^d.toNat))=L) (W:IntKind.u64.wrap (2^(d.toNat - 1))=F) (V:(bits BinOp.and IntKind.u64 K 1==1)=o) (J:IntKind.u64.wrap (K+1)=Y) :
  Ca 236 #[.int .u64 m,iV d,iV 1] w fun e w'=>e=.returned (.int .u64 (if decide (F<L)||((L==F)&&o)then Y else K))∧w'=w:=by
 by_cases u:F<L
 ·rw[kF2 u];simp only[Bool.true_or,if_true]
  go_enter Tryz.func236,Tryz.ntmps236
  go_wp2
  go_ret;exact⟨rfl,rfl⟩
 ·rw[kF1 u];cases h4:(L==F) with
  | true =>
   cases o with
   | true =>
    simp only[Bool.false_or,Bool.true_and,if_true]
    go_enter Tryz.func236,Tryz.ntmps236
    go_wp2
    go_ret;exact⟨rfl,rfl⟩
   | false =>
    simp only[Bool.false_or,Bool.true_and,if_false,Bool.false_eq_true]
    go_enter Tryz.func236,Tryz.ntmps236
    go_wp2
    go_ret;exact⟨rfl,rfl⟩
  | false =>
   simp only[Bool.false_or,Bool.false_and,if_false,Bool.false_eq_true]
   go_enter Tryz.func236,Tryz.ntmps236
   go_wp2
   go_ret;exact⟨rfl,rfl⟩
theorem c58_2 (m d K L F u:Int) (o:Bool) (w:World) (C:1≤d) (W:d≤64) (V:0≤m) (D:m / 2^d.toNat=K) (H:IntKind.u64.wrap (m - IntKind.u64.wrap (K*2^d.toNat))=L) (T:IntKind.u64.wrap (2^(d.toNat - 1))=F) (J:(bits BinOp.and IntKind.u64 K 1==1)=o) (Y:IntKind.u64.wrap (K+1)=u) :
  Ca 236 #[.int .u64 m,iV d,iV 2] w fun e w'=>e=.returned (.int .u64 (if(L != 0)then u else K))∧w'=w:=by
 cases h3:(L != 0) with
 | true =>
  simp only[if_true]
  go_enter Tryz.func236,Tryz.ntmps236
  go_wp2
  go_ret;exact⟨rfl,rfl⟩
 | false =>
  simp only[if_false,Bool.false_eq_true]
  go_enter Tryz.func236,Tryz.ntmps236
  go_wp2
  go_ret;exact⟨rfl,rfl⟩
theorem kX7 (m d:Int) (w:World) (u:64<d) :
  Ca 236 #[.int .u64 m,iV d,iV 0] w fun e w'=>e=.returned (.int .u64 0)∧w'=w:=by
 go_enter Tryz.func236,Tryz.ntmps236
 go_wp2
 go_ret;exact⟨rfl,rfl⟩
theorem kX6 (m d:Int) (w:World) (u:64<d) :
  Ca 236 #[.int .u64 m,iV d,iV 1] w fun e w'=>e=.returned (.int .u64 0)∧w'=w:=by
 go_enter Tryz.func236,Tryz.ntmps236
 go_wp2
 go_ret;exact⟨rfl,rfl⟩
theorem kX5 (m d:Int) (w:World) (u:64<d) :
  Ca 236 #[.int .u64 m,iV d,iV 2] w fun e w'=>e=.returned (.int .u64 1)∧w'=w:=by
 go_enter Tryz.func236,Tryz.ntmps236
 go_wp2
 go_ret;exact⟨rfl,rfl⟩
def rup (M d:Nat) (way:Int):Bool :=
 if way=1 then decide (2^d<2*(M % 2^d))||(decide (2*(M % 2^d)=2^d)&&decide (M / 2^d % 2=1))else if way=2 then decide (M % 2^d≠0)else false
def rnd (M d:Nat) (way:Int):Nat:=if rup M d way then M / 2^d+1 else M / 2^d
theorem zB0 (M d:Nat) (way:Int) (T:M<18446744073709551616) (u:M≠0) (F:64<d):rnd M d way=if way=2 then 1 else 0:=by
 have H:2^65≤2^d:=kF4 δ F;have V:=H;have D:M % 2^d=M:=kB2 ω;have e2:M / 2^d=0:=Nat.div_eq_of_lt ω;unfold rnd rup;rw[D,e2];by_cases J:way=1
 ·subst J;simp
  omega
 ·rw[kU5 J];by_cases Y:way=2
  ·subst Y;simp[u]
  ·rw[kU5 Y,kU5 Y];rfl
theorem c58 (M d:Nat) (way:Int) (hM:M<18446744073709551616) (L:M≠0) (hd:1≤d) (I:way=0∨way=1∨way=2) (w:World) :
  Ca 236 #[.int .u64 M,iV d,iV way] w fun e w'=>e=.returned (.int .u64 (rnd M d way))∧w'=w:=by
 by_cases hb:64<d
 ·rw[zB0 M d way hM L hb];rcases I with rfl|rfl|rfl
  ·exact kX7 M d w ω
  ·exact kX6 M d w ω
  ·exact kX5 M d w ω
 ·have hp:=kF3 d;have T:=Nat.div_add_mod M (2^d);have F:M % 2^d<2^d:=kB3 _ hp;have e1:2^d=2*2^(d - 1):=by rw[←Nat.pow_succ',show(d - 1).succ=d by omega]
  have qQ:2^(d - 1)≤9223372036854775808:=(show 2^(d - 1)≤2^63 from kF4 δ ω);have V:(M:Int) / 2^(d:Int).toNat=((M / 2^d:Nat):Int):=by rw[kN9];simp
  have J:IntKind.u64.wrap ((M:Int) - IntKind.u64.wrap (((M / 2^d:Nat):Int)*2^(d:Int).toNat))=((M % 2^d:Nat):Int):=by
   have e2:((M / 2^d:Nat):Int)*2^(d:Int).toNat=((2^d*(M / 2^d):Nat):Int):=by
    rw[kN9,kN8,Int.mul_comm];simp
   rw[e2,kB6,kB6];omega
  have H:IntKind.u64.wrap (2^((d:Int).toNat - 1))=((2^(d - 1):Nat):Int):=by
   have e2:(2:Int)^((d:Int).toNat - 1)=((2^(d - 1):Nat):Int):=by rw[kN9];simp
   rw[e2,kB6];omega
  have D:M / 2^d≤9223372036854775808:=by
   have:M / 2^d≤M / 2:=Nat.div_le_div_left ω δ
   omega
  have Y:(bits BinOp.and IntKind.u64 ((M / 2^d:Nat):Int) 1==1)=decide (M / 2^d % 2=1):=by
   have e:=u64_and_nat (M / 2^d) 1 ω δ;rw[show((1:Nat):Int)=1 from rfl] at e;rw[e,Nat.and_one_is_mod,Bool.beq_eq_decide_eq];congr 1
   apply propext
   omega
  have u:IntKind.u64.wrap (((M / 2^d:Nat):Int)+1)=((M / 2^d+1:Nat):Int):=by
   clear J H V Y T F;generalize M / 2^d=q at D ⊢;rw[kB6];omega
  rcases I with rfl|rfl|rfl
  ·have:=c58_0 M d _ _ _ _ _ w ω ω ω V J H Y u
   exact this
  ·have:=c58_1 M d _ _ _ _ _ w ω ω ω V J H Y u
   have C:(if decide (((2^(d - 1):Nat):Int)<((M % 2^d:Nat):Int))||((((M % 2^d:Nat):Int)==((2^(d - 1):Nat):Int))&&decide (M / 2^d % 2=1)) then((M / 2^d+1:Nat):Int) else((M / 2^d:Nat):Int))=(rnd M d 1:Int):=by
    unfold rnd rup;rw[kU6 rfl];have W:decide (((2^(d - 1):Nat):Int)<((M % 2^d:Nat):Int))=decide (2^d<2*(M % 2^d)):=by
     congr 1;apply propext;omega
    have e5:(((M % 2^d:Nat):Int)==((2^(d - 1):Nat):Int))=decide (2*(M % 2^d)=2^d):=by
     rw[Bool.beq_eq_decide_eq];congr 1;apply propext;omega
    rw[W,e5];split <;> rfl
   rw[C] at this;exact this
  ·have:=c58_2 M d _ _ _ _ _ w ω ω ω V J H Y u
   have C:(if((((M % 2^d:Nat):Int)) != 0) then((M / 2^d+1:Nat):Int) else((M / 2^d:Nat):Int))=(rnd M d 2:Int):=by
    unfold rnd rup;rw[kU5 (show ¬ (2:Int)=1 by decide),kU6 (show(2:Int)=2 from rfl)]
    have W:((((M % 2^d:Nat):Int)) != 0)=decide (M % 2^d≠0):=by
     rw[bne,Bool.beq_eq_decide_eq,←decide_not];congr 1;apply propext;omega
    rw[W];split <;> rfl
   rw[C] at this;exact this
end Go.Proofs.YtfkaogdmlcdceaaGreatDoor.Ie
/- What the program's roundBody answers: the bits of m times 2 to the e, rounded inward, to the nearest or outward. -/
namespace Go.Proofs.YtfkaogdmlcdceaaGreatDoor.Ie
open Go.RowKit Go.Fl64
def nz (m:Nat):Nat:=64 - bitLen m
def tp (m:Nat):Nat:=m*2^nz m
def pl (m:Nat) (e:Int):Int:=if e - (nz m:Int)+63 - 52 < -1074 then -1074 else e - (nz m:Int)+63 - 52
def raw (m:Nat) (e way:Int):Int:=(pl m e+1074)*4503599627370496+(rnd (tp m) (pl m e - (e - (nz m:Int))).toNat way:Int)
def bod (m:Nat) (e way:Int):Int:=if raw m e way<9218868437227405312 then raw m e way else if way==0 then 9218868437227405311 else 9218868437227405312
theorem qC3 (m:Nat) (V:m<18446744073709551616) (Y:m≠0):nz m≤63∧9223372036854775808≤tp m∧tp m<18446744073709551616:=by
 obtain⟨H,u⟩:=bitLen_spec m;have u:=u Y;have T:=qD5 m V;have D:bitLen m≠0:=by unfold bitLen;rw[kU5 Y];omega
 have J:0<2^nz m:=kF3 _;have F:2^bitLen m*2^nz m=18446744073709551616:=by
  rw[←kN3,show bitLen m+nz m=64 by unfold nz;omega]
 have e2:2^(bitLen m - 1)*2^nz m=9223372036854775808:=by
  rw[←kN3,show bitLen m - 1+nz m=63 by unfold nz;omega]
 refine⟨by unfold nz;omega,?_,?_⟩
 ·rw[←e2];exact kF5 _ u
 ·rw[←F];exact(Nat.mul_lt_mul_right J).2 H
theorem xL2 (M d:Nat) (way:Int) (J:M<18446744073709551616) (Y:11≤d):rnd M d way≤9007199254740992:=by
 have u:2^11≤2^d:=kF4 δ Y;have H:M / 2^d≤M / 2^11:=Nat.div_le_div_left u δ;have V:M / 2^11<9007199254740992:=ω;unfold rnd;split <;> omega
theorem yV8 (m:Nat) (e:Int):11≤(pl m e - (e - (nz m:Int))).toNat:=by
 unfold pl;split <;> omega
theorem qM5 (m:Nat) (e way:Int) (u:m<18446744073709551616) (Y:m≠0):(pl m e+1074)*4503599627370496≤raw m e way∧raw m e way≤(pl m e+1076)*4503599627370496 ∧ -1074≤pl m e:=by
 have J:=xL2 (tp m) (pl m e - (e - (nz m:Int))).toNat way (qC3 m u Y).2.2 (yV8 m e);unfold raw;refine⟨ω,ω,?_⟩
 unfold pl;split <;> omega
theorem zE5 (m:Nat) (e way:Int) (u:m<18446744073709551616) (Y:m≠0):0≤bod m e way∧bod m e way≤9218868437227405312:=by
 have J:=qM5 m e way u Y;unfold bod;split
 ·omega
 ·split <;> omega
theorem yH4 (m:Nat) (e way:Int) (Y:m<18446744073709551616) (J:m≠0) :
  bod m (if 1100<(if e < -1200 then -1200 else e)then 1100 else(if e < -1200 then -1200 else e)) way=bod m e way:=by
 obtain⟨C,T,u⟩:=qC3 m Y J;by_cases D:e < -1200
 ·rw[kU6 D,kU5 ω];have H:pl m (-1200) = -1074:=by unfold pl;rw[kU6 ω]
  have V:pl m e = -1074:=by unfold pl;rw[kU6 ω]
  unfold bod raw;rw[H,V,zB0 _ _ way u ω ω,zB0 _ _ way u ω ω]
 ·rw[kU5 D];by_cases F:1100<e
  ·rw[kU6 F];have W:=(qM5 m 1100 way Y J).1;have L:=(qM5 m e way Y J).1;have H:pl m 1100=1100 - (nz m:Int)+63 - 52:=by unfold pl;rw[kU5 ω]
   have V:pl m e=e - (nz m:Int)+63 - 52:=by unfold pl;rw[kU5 ω]
   unfold bod;rw[kU5 (show ¬ raw m 1100 way<9218868437227405312 by omega),kU5 (show ¬ raw m e way<9218868437227405312 by omega)]
  ·rw[kU5 F]
theorem c53x (m e way S H J E P B:Int) (R:Int→Int) (w:World) (C:0≤S) (W:S≤63) (hM:IntKind.u64.wrap (m*2^S.toNat)=H)
  (L:(if e < -1200 then -1200 else e)=J) (T:(if 1100<J then 1100 else J)=E) (hp:(if E - S+63 - 52 < -1074 then -1074 else E - S+63 - 52)=P)
  (qQ : -1200≤E) (I:E≤1100) (D : -1074≤P) (F:P≤1111)
  (hB:IntKind.u64.wrap ((P+1074)*4503599627370496+R (P - (E - S)))=B)
  (Y:∀ w,Ca 235 #[.int .u64 m] w fun e w'=>e=.returned (iV S)∧w'=w)
  (u:∀ w,Ca 236 #[.int .u64 H,iV (P - (E - S)),iV way] w fun e w'=>e=.returned (.int .u64 (R (P - (E - S))))∧w'=w) :
  Ca 177 #[.int .u64 m,iV e,iV way] w fun e w'=>e=.returned (.int .u64 (if B<9218868437227405312 then B else if way==0 then 9218868437227405311 else 9218868437227405312))∧w'=w:=by
 have kb:=run_bits;by_cases V:B<9218868437227405312
 ·rw[kU6 V]
  go_enter Tryz.func177,Tryz.ntmps177
  go_wp2_with (first|(go_at_call 235;refine(Y _).mono ?_;rintro e w' ⟨rfl,rfl⟩)|(go_at_call 236;refine(u _).mono ?_;rintro e w' ⟨rfl,rfl⟩))
  go_ret;exact⟨rfl,rfl⟩
 ·rw[kU5 V];cases h2:(way==0) with
  | true =>
   simp only[if_true]
   go_enter Tryz.func177,Tryz.ntmps177
   go_wp2_with (first|(go_at_call 235;refine(Y _).mono ?_;rintro e w' ⟨rfl,rfl⟩)|(go_at_call 236;refine(u _).mono ?_;rintro e w' ⟨rfl,rfl⟩))
   go_ret;exact⟨rfl,rfl⟩
  | false =>
   simp only[if_false,Bool.false_eq_true]
   go_enter Tryz.func177,Tryz.ntmps177
   go_wp2_with (first|(go_at_call 235;refine(Y _).mono ?_;rintro e w' ⟨rfl,rfl⟩)|(go_at_call 236;refine(u _).mono ?_;rintro e w' ⟨rfl,rfl⟩))
   go_ret;exact⟨rfl,rfl⟩
theorem c53 (m:Nat) (e way:Int) (hm:m<18446744073709551616) (h0:m≠0) (hw:way=0∨way=1∨way=2) (w:World) :
  Calls Tryz.prog 177 #[.int .u64 m,.int .i64 e,.int .i64 way] w fun r w'=>r=.returned (.int .u64 (bod m e way))∧w'=w:=by
 rw[←yH4 m e way hm h0];generalize hE:(if 1100<(if e < -1200 then -1200 else e)then 1100 else(if e < -1200 then -1200 else e))=E;have hE0 : -1200≤E∧E≤1100:=by
  rw[←hE];by_cases h1:e < -1200
  ·rw[kU6 h1,kU5 ω];omega
  ·rw[kU5 h1];by_cases h2:1100<e
   ·rw[kU6 h2];omega
   ·rw[kU5 h2];omega
 obtain⟨hz,ht0,ht1⟩:=qC3 m hm h0;have hb:=qM5 m E way hm h0;have hd:=yV8 m E;have hl:=qD5 m hm;have k57:=c57 m hm;have ez:(64:Int) - (bitLen m:Int)=(nz m:Int):=by unfold nz;omega
 rw[ez] at k57;have k58:=fun w=>c58 (tp m) (pl m E - (E - (nz m:Int))).toNat way ht1 ω ω hw w;have ed:(((pl m E - (E - (nz m:Int))).toNat:Nat):Int)=pl m E - (E - (nz m:Int)):=ω;rw[ed] at k58;have hM:IntKind.u64.wrap ((m:Int)*2^(nz m:Int).toNat)=((tp m:Nat):Int):=by
  have e1:(m:Int)*2^(nz m:Int).toNat=((tp m:Nat):Int):=by
   rw[kN9];unfold tp;simp
  rw[e1,kB6];omega
 have hP1:pl m E≤1111:=by unfold pl;split <;> omega
 have hB:IntKind.u64.wrap ((pl m E+1074)*4503599627370496+(fun D:Int=>(rnd (tp m) D.toNat way:Int)) (pl m E - (E - (nz m:Int))))=raw m E way:=by
  show IntKind.u64.wrap (raw m E way)=raw m E way
  rw[kB6];omega
 exact c53x m e way (nz m) (tp m) _ E (pl m E) (raw m E way) (fun D=>(rnd (tp m) D.toNat way:Int)) w ω ω hM rfl hE rfl hE0.1 hE0.2 hb.2.2 hP1 hB k57 k58
end Go.Proofs.YtfkaogdmlcdceaaGreatDoor.Ie
/- What the program's Make answers: the float of m times 2 to the e, rounded by the mode. -/
namespace Go.Proofs.YtfkaogdmlcdceaaGreatDoor.Ie
open Go.RowKit Go.Fl64
def wy (neg:Bool) (mode:Int):Int:=if mode=2 then 1 else if(neg==(mode==1))then 2 else 0
def mk (neg:Bool) (m:Nat) (e mode:Int) (nan:Nat):Nat:=if mode=1∨mode=2∨mode=3 then sig neg (if m=0 then 0 else(bod m e (wy neg mode)).toNat)else nan
theorem c52 (w:World):Ca 54 #[] w fun e w'=>e=.returned (.float .f64 9221120237041090561)∧w'=w:=by
 have u:=run_frombits
 go_enter Tryz.func54,Tryz.ntmps54
 go_wp2
 go_ret;exact⟨rfl,rfl⟩
theorem yG8 (m e B C:Int) (w:World) (V:(m != 0)=true)
  (u:∀ w,Ca 177 #[.int .u64 m,iV e,iV 1] w fun r w'=>r=.returned (.int .u64 B)∧w'=w) (Y:bits .or .u64 B 9223372036854775808=C) :
  Ca 122 #[.bool true,.int .u64 m,iV e,iV 2] w fun r w'=>r=.returned (.float .f64 C.toNat)∧w'=w:=by
 have J:=run_frombits
 go_enter Tryz.func122,Tryz.ntmps122
 go_wp2_with (first|(go_at_call 177;refine(u _).mono ?_;rintro e w' ⟨rfl,rfl⟩))
 go_ret;exact⟨rfl,rfl⟩
theorem zE1 (e C:Int) (w:World) (u:bits .or .u64 0 9223372036854775808=C) :
  Ca 122 #[.bool true,.int .u64 0,iV e,iV 2] w fun r w'=>r=.returned (.float .f64 C.toNat)∧w'=w:=by
 have Y:=run_frombits
 go_enter Tryz.func122,Tryz.ntmps122
 go_wp2
 go_ret;exact⟨rfl,rfl⟩
theorem zE2 (m e B C:Int) (w:World) (V:(m != 0)=true)
  (u:∀ w,Ca 177 #[.int .u64 m,iV e,iV 1] w fun r w'=>r=.returned (.int .u64 B)∧w'=w) (Y:bits .or .u64 B 9223372036854775808=C) :
  Ca 122 #[.bool false,.int .u64 m,iV e,iV 2] w fun r w'=>r=.returned (.float .f64 B.toNat)∧w'=w:=by
 have J:=run_frombits
 go_enter Tryz.func122,Tryz.ntmps122
 go_wp2_with (first|(go_at_call 177;refine(u _).mono ?_;rintro e w' ⟨rfl,rfl⟩))
 go_ret;exact⟨rfl,rfl⟩
theorem zM3 (e C:Int) (w:World) (u:bits .or .u64 0 9223372036854775808=C) :
  Ca 122 #[.bool false,.int .u64 0,iV e,iV 2] w fun r w'=>r=.returned (.float .f64 0)∧w'=w:=by
 have Y:=run_frombits
 go_enter Tryz.func122,Tryz.ntmps122
 go_wp2
 go_ret;exact⟨rfl,rfl⟩
theorem yG9 (m e B C:Int) (w:World) (V:(m != 0)=true)
  (u:∀ w,Ca 177 #[.int .u64 m,iV e,iV 2] w fun r w'=>r=.returned (.int .u64 B)∧w'=w) (Y:bits .or .u64 B 9223372036854775808=C) :
  Ca 122 #[.bool true,.int .u64 m,iV e,iV 1] w fun r w'=>r=.returned (.float .f64 C.toNat)∧w'=w:=by
 have J:=run_frombits
 go_enter Tryz.func122,Tryz.ntmps122
 go_wp2_with (first|(go_at_call 177;refine(u _).mono ?_;rintro e w' ⟨rfl,rfl⟩))
 go_ret;exact⟨rfl,rfl⟩
theorem zE3 (e C:Int) (w:World) (u:bits .or .u64 0 9223372036854775808=C) :
  Ca 122 #[.bool true,.int .u64 0,iV e,iV 1] w fun r w'=>r=.returned (.float .f64 C.toNat)∧w'=w:=by
 have Y:=run_frombits
 go_enter Tryz.func122,Tryz.ntmps122
 go_wp2
 go_ret;exact⟨rfl,rfl⟩
theorem zE0 (m e B C:Int) (w:World) (V:(m != 0)=true)
  (u:∀ w,Ca 177 #[.int .u64 m,iV e,iV 2] w fun r w'=>r=.returned (.int .u64 B)∧w'=w) (Y:bits .or .u64 B 9223372036854775808=C) :
  Ca 122 #[.bool false,.int .u64 m,iV e,iV 3] w fun r w'=>r=.returned (.float .f64 B.toNat)∧w'=w:=by
 have J:=run_frombits
 go_enter Tryz.func122,Tryz.ntmps122
 go_wp2_with (first|(go_at_call 177;refine(u _).mono ?_;rintro e w' ⟨rfl,rfl⟩))
 go_ret;exact⟨rfl,rfl⟩
theorem zM2 (e C:Int) (w:World) (u:bits .or .u64 0 9223372036854775808=C) :
  Ca 122 #[.bool false,.int .u64 0,iV e,iV 3] w fun r w'=>r=.returned (.float .f64 0)∧w'=w:=by
 have Y:=run_frombits
 go_enter Tryz.func122,Tryz.ntmps122
 go_wp2
 go_ret;exact⟨rfl,rfl⟩
theorem zE4 (m e B C:Int) (w:World) (V:(m != 0)=true)
  (u:∀ w,Ca 177 #[.int .u64 m,iV e,iV 0] w fun r w'=>r=.returned (.int .u64 B)∧w'=w) (Y:bits .or .u64 B 9223372036854775808=C) :
  Ca 122 #[.bool false,.int .u64 m,iV e,iV 1] w fun r w'=>r=.returned (.float .f64 B.toNat)∧w'=w:=by
 have J:=run_frombits
 go_enter Tryz.func122,Tryz.ntmps122
 go_wp2_with (first|(go_at_call 177;refine(u _).mono ?_;rintro e w' ⟨rfl,rfl⟩))
 go_ret;exact⟨rfl,rfl⟩
theorem zM4 (e C:Int) (w:World) (u:bits .or .u64 0 9223372036854775808=C) :
  Ca 122 #[.bool false,.int .u64 0,iV e,iV 1] w fun r w'=>r=.returned (.float .f64 0)∧w'=w:=by
 have Y:=run_frombits
 go_enter Tryz.func122,Tryz.ntmps122
 go_wp2
 go_ret;exact⟨rfl,rfl⟩
theorem yG7 (m e B C:Int) (w:World) (V:(m != 0)=true)
  (u:∀ w,Ca 177 #[.int .u64 m,iV e,iV 0] w fun r w'=>r=.returned (.int .u64 B)∧w'=w) (Y:bits .or .u64 B 9223372036854775808=C) :
  Ca 122 #[.bool true,.int .u64 m,iV e,iV 3] w fun r w'=>r=.returned (.float .f64 C.toNat)∧w'=w:=by
 have J:=run_frombits
 go_enter Tryz.func122,Tryz.ntmps122
 go_wp2_with (first|(go_at_call 177;refine(u _).mono ?_;rintro e w' ⟨rfl,rfl⟩))
 go_ret;exact⟨rfl,rfl⟩
theorem zC9 (e C:Int) (w:World) (u:bits .or .u64 0 9223372036854775808=C) :
  Ca 122 #[.bool true,.int .u64 0,iV e,iV 3] w fun r w'=>r=.returned (.float .f64 C.toNat)∧w'=w:=by
 have Y:=run_frombits
 go_enter Tryz.func122,Tryz.ntmps122
 go_wp2
 go_ret;exact⟨rfl,rfl⟩
theorem yL0 (neg:Bool) (m e mode:Int) (w:World) (J:(mode==1)=false) (Y:(mode==2)=false) (u:(mode==3)=false) :
  Ca 122 #[.bool neg,.int .u64 m,iV e,iV mode] w fun r w'=>r=.returned (.float .f64 9221120237041090561)∧w'=w:=by
 go_enter Tryz.func122,Tryz.ntmps122
 go_wp2_with (first|(go_at_call 54;refine(c52 _).mono ?_;rintro e w' ⟨rfl,rfl⟩))
 go_ret;exact⟨rfl,rfl⟩
theorem c24 (neg:Bool) (m:Nat) (e mode:Int) (V:m<18446744073709551616) (w:World) :
  Ca 122 #[.bool neg,.int .u64 m,iV e,iV mode] w fun r w'=>r=.returned (.float .f64 (mk neg m e mode 9221120237041090561))∧w'=w:=by
 have H:bits .or .u64 0 9223372036854775808=9223372036854775808:=by decide +kernel
 by_cases u:mode=1∨mode=2∨mode=3
 ·unfold mk;rw[kU6 u];by_cases J:m=0
  ·subst J;rw[kU6 rfl];rcases u with rfl|rfl|rfl <;> cases neg
   ·exact zM4 e _ w H
   ·exact zE3 e _ w H
   ·exact zM3 e _ w H
   ·exact zE1 e _ w H
   ·exact zM2 e _ w H
   ·exact zC9 e _ w H
  ·rw[kU5 J];have F:((m:Int) != 0)=true:=by simp;omega
   have Y:∀ way,bits .or .u64 (bod m e way) 9223372036854775808=(((bod m e way).toNat+9223372036854775808:Nat):Int):=by
    intro way;have T:=zE5 m e way V J;have D:=xV8 (bod m e way).toNat ω;rw[show(((bod m e way).toNat:Nat):Int)=bod m e way by omega] at D
    exact D
   rcases u with rfl|rfl|rfl <;> cases neg
   ·exact zE4 m e _ _ w F (fun w=>c53 m e 0 V J (by simp) w) (Y 0)
   ·exact yG9 m e _ _ w F (fun w=>c53 m e 2 V J (by simp) w) (Y 2)
   ·exact zE2 m e _ _ w F (fun w=>c53 m e 1 V J (by simp) w) (Y 1)
   ·exact yG8 m e _ _ w F (fun w=>c53 m e 1 V J (by simp) w) (Y 1)
   ·exact zE0 m e _ _ w F (fun w=>c53 m e 2 V J (by simp) w) (Y 2)
   ·exact yG7 m e _ _ w F (fun w=>c53 m e 0 V J (by simp) w) (Y 0)
 ·unfold mk;rw[kU5 u];exact yL0 neg m e mode w (by simp;omega) (by simp;omega) (by simp;omega)
end Go.Proofs.YtfkaogdmlcdceaaGreatDoor.Ie
/- What the program's lastPlace and Split answer. -/
namespace Go.Proofs.YtfkaogdmlcdceaaGreatDoor.Ie
open Go.RowKit Go.Fl64
def lp (a:Nat):Int := -1075+max 1 ((mag a / 4503599627370496:Nat):Int)
def mant (a:Nat):Nat:=if mag a<4503599627370496 then mag a else 4503599627370496+mag a % 4503599627370496
theorem c47 (a:Nat) (Y:a<18446744073709551616) (w:World) :
  Ca 107 #[.float .f64 a] w fun e w'=>e=.returned (iV (lp a))∧w'=w:=by
 have u:=c32 a Y;have e:Hid (wrap64 (-1075+max 1 (wrap64 ((mag a:Int) / 4503599627370496)))=lp a):=by
  have:=yI6 a
  show wrap64 (-1075+max 1 (wrap64 ((mag a:Int) / 4503599627370496)))=lp a
  unfold lp wrap64;omega
 clear Y;generalize (mag a:Int)=m at u e ⊢;generalize lp a=r at e ⊢
 go_enter Tryz.func107,Tryz.ntmps107
 go_wp2_with (first|(go_at_call 105;refine(u _).mono ?_;rintro e w' ⟨rfl,rfl⟩))
 all_goals go_ret
 ·refine⟨?_,rfl⟩
  show Ending.returned (iV (wrap64 (-1075+wrap64 (m / 4503599627370496))))=_
  rw[←e.out,Int.max_eq_right (Int.le_of_lt (by assumption))]
 ·refine⟨?_,rfl⟩
  show Ending.returned (iV (wrap64 (-1074)))=_
  rw[←e.out,Int.max_eq_left (by assumption)]
  rfl
theorem qG1 {J:Func} {t u v x:Tmp} (h:J.results = #[.tmp t,.tmp u,.tmp v,.tmp x]) (Y:Array Value) (P:Program) (w:World) :
  (results J Y).run P w=.ok (.tuple #[Y.getD t undef,Y.getD u undef,Y.getD v undef,Y.getD x undef]) w:=by
 simp[results,h]
theorem cls1 {a:Nat} (h:9218868437227405312<mag a):cls a=1∧cneg a=false:=by
 unfold cls cneg;rw[kU6 ω,kU6 ω];exact⟨rfl,rfl⟩
theorem cls2 {a:Nat} (h:mag a=9218868437227405312):cls a=2∧cneg a=neg a:=by
 unfold cls cneg;rw[h];exact⟨rfl,rfl⟩
theorem cls3 {a:Nat} (h:mag a=0):cls a=3∧cneg a=neg a:=by
 unfold cls cneg;rw[h];exact⟨rfl,rfl⟩
theorem qG5 {x y:Int} (h:x≠y):(x==y)=false:=by simpa using h
theorem cls4 {a:Nat} (V:mag a≠0) (h:mag a<4503599627370496):cls a=4∧cneg a=neg a:=by
 have u:¬ (9218868437227405312:Int)<(mag a:Int):=ω;have e2:((mag a:Int)==9218868437227405312)=false:=qG5 ω;have J:((mag a:Int)==0)=false:=qG5 ω;have Y:(mag a:Int)<4503599627370496:=ω;refine⟨?_,kU5 u⟩
 simp only[cls,u,e2,J,Y,if_true,if_false,Bool.false_eq_true]
theorem cls5 {a:Nat} (h:4503599627370496≤mag a) (V:mag a<9218868437227405312):cls a=5∧cneg a=neg a:=by
 have u:¬ (9218868437227405312:Int)<(mag a:Int):=ω;have e2:((mag a:Int)==9218868437227405312)=false:=qG5 ω;have J:((mag a:Int)==0)=false:=qG5 ω;have Y:¬ (mag a:Int)<4503599627370496:=ω;refine⟨?_,kU5 u⟩
 simp only[cls,u,e2,J,Y,if_false,Bool.false_eq_true]
def sM (a:Nat):Int:=if 9218868437227405312≤mag a then 0 else if mag a=0 then 0 else(mant a:Int) / 2^Lib.ctz 64 (mant a)
def sE (a:Nat):Int:=if 9218868437227405312≤mag a then 0 else if mag a=0 then 0 else lp a+(Lib.ctz 64 (mant a):Int)
def sN (a:Nat):Bool:=if 9218868437227405312≤mag a then false else neg a
def sO (a:Nat):Bool:=if 9218868437227405312≤mag a then false else true
theorem xQ2 (a:Nat) (w:World) (s:Bool) (M c:Int) (J:c=1∨c=2)
  (Y:∀ w,Ca 74 #[.float .f64 a] w fun e w'=>e=.returned (.tuple #[iV c,.bool s])∧w'=w)
  (u:∀ w,Ca 105 #[.float .f64 a] w fun e w'=>e=.returned (.int .u64 M)∧w'=w) :
  Ca 42 #[.float .f64 a] w fun e w'=>e=.returned (.tuple #[.int .u64 0,iV 0,.bool false,.bool false])∧w'=w:=by
 rcases J with rfl|rfl
 ·go_enter Tryz.func42,Tryz.ntmps42
  go_wp2_with (first|(go_at_call 74;refine(Y _).mono ?_;rintro e w' ⟨rfl,rfl⟩)|(go_at_call 105;refine(u _).mono ?_;rintro e w' ⟨rfl,rfl⟩))
  refine kB8 (qG1 rfl _ _ _) rfl ?_;exact⟨rfl,rfl⟩
 ·go_enter Tryz.func42,Tryz.ntmps42
  go_wp2_with (first|(go_at_call 74;refine(Y _).mono ?_;rintro e w' ⟨rfl,rfl⟩)|(go_at_call 105;refine(u _).mono ?_;rintro e w' ⟨rfl,rfl⟩))
  refine kB8 (qG1 rfl _ _ _) rfl ?_;exact⟨rfl,rfl⟩
theorem c22_3 (a:Nat) (w:World) (s:Bool) (M:Int)
  (Y:∀ w,Ca 74 #[.float .f64 a] w fun e w'=>e=.returned (.tuple #[iV 3,.bool s])∧w'=w)
  (u:∀ w,Ca 105 #[.float .f64 a] w fun e w'=>e=.returned (.int .u64 M)∧w'=w) :
  Ca 42 #[.float .f64 a] w fun e w'=>e=.returned (.tuple #[.int .u64 0,iV 0,.bool s,.bool true])∧w'=w:=by
 go_enter Tryz.func42,Tryz.ntmps42
 go_wp2_with (first|(go_at_call 74;refine(Y _).mono ?_;rintro e w' ⟨rfl,rfl⟩)|(go_at_call 105;refine(u _).mono ?_;rintro e w' ⟨rfl,rfl⟩))
 refine kB8 (qG1 rfl _ _ _) rfl ?_;exact⟨rfl,rfl⟩
theorem c22_4 (a:Nat) (w:World) (s:Bool) (x:Nat) (T L M:Int)
  (F:∀ w,Ca 74 #[.float .f64 a] w fun e w'=>e=.returned (.tuple #[iV 4,.bool s])∧w'=w)
  (J:∀ w,Ca 105 #[.float .f64 a] w fun e w'=>e=.returned (.int .u64 M)∧w'=w)
  (Y:∀ w,Ca 107 #[.float .f64 a] w fun e w'=>e=.returned (iV L)∧w'=w)
  (u:∀ w,Tab w→Ca 106 #[.int .u64 x] w fun e w'=>e=.returned (iV T)∧w'=w)
  (V:bits .and .u64 M 4503599627370495=(x:Int)) (W:0≤T) (D:T<64) (H:Tab w) :
  Ca 42 #[.float .f64 a] w fun e w'=>e=.returned (.tuple #[.int .u64 ((x:Int) / 2^T.toNat),iV (wrap64 (L+T)),.bool s,.bool true])∧∃ n,w'=w.drewN n:=by
 have C:Hid _:=H;clear H
 go_enter Tryz.func42,Tryz.ntmps42
 go_wp2_with (first|(go_at_call 74;refine(F _).mono ?_;rintro e w' ⟨rfl,rfl⟩)|(go_at_call 105;refine(J _).mono ?_;rintro e w' ⟨rfl,rfl⟩)|(go_at_call 106;refine(u _ C.out).mono ?_;rintro e w' ⟨rfl,rfl⟩))
 go_quiet (first|(go_at_call 107;refine Calls.quiet_of_same (Y _)))
 go_wp2;refine kB8 (qG1 rfl _ _ _) rfl ?_;exact⟨rfl,_,rfl⟩
theorem c22_5 (a:Nat) (w:World) (s:Bool) (x:Nat) (T L M m:Int)
  (F:∀ w,Ca 74 #[.float .f64 a] w fun e w'=>e=.returned (.tuple #[iV 5,.bool s])∧w'=w)
  (J:∀ w,Ca 105 #[.float .f64 a] w fun e w'=>e=.returned (.int .u64 M)∧w'=w)
  (Y:∀ w,Ca 107 #[.float .f64 a] w fun e w'=>e=.returned (iV L)∧w'=w)
  (u:∀ w,Tab w→Ca 106 #[.int .u64 x] w fun e w'=>e=.returned (iV T)∧w'=w)
  (V:bits .and .u64 M 4503599627370495=m) (D:bits .or .u64 m 4503599627370496=(x:Int)) (C:0≤T) (W:T<64) (H:Tab w) :
  Ca 42 #[.float .f64 a] w fun e w'=>e=.returned (.tuple #[.int .u64 ((x:Int) / 2^T.toNat),iV (wrap64 (L+T)),.bool s,.bool true])∧∃ n,w'=w.drewN n:=by
 have I:Hid _:=H;clear H
 go_enter Tryz.func42,Tryz.ntmps42
 go_wp2_with (first|(go_at_call 74;refine(F _).mono ?_;rintro e w' ⟨rfl,rfl⟩)|(go_at_call 105;refine(J _).mono ?_;rintro e w' ⟨rfl,rfl⟩)|(go_at_call 106;refine(u _ I.out).mono ?_;rintro e w' ⟨rfl,rfl⟩))
 go_quiet (first|(go_at_call 107;refine Calls.quiet_of_same (Y _)))
 go_wp2;refine kB8 (qG1 rfl _ _ _) rfl ?_;exact⟨rfl,_,rfl⟩
theorem and_mant (x:Nat) (h:x<18446744073709551616):bits .and .u64 (x:Int) 4503599627370495=((x % 4503599627370496:Nat):Int):=by
 have e:=u64_and_nat x 4503599627370495 h δ;rw[show((4503599627370495:Nat):Int)=4503599627370495 from rfl] at e;rw[e];congr 1
 have:=Nat.and_two_pow_sub_one_eq_mod x 52
 simpa using this
theorem or_mant (x:Nat) (h:x<4503599627370496):bits .or .u64 (x:Int) 4503599627370496=((4503599627370496+x:Nat):Int):=by
 have e:=u64_or_nat x 4503599627370496 ω δ;rw[show((4503599627370496:Nat):Int)=4503599627370496 from rfl] at e;rw[e];congr 1
 have:=Nat.two_pow_add_eq_or_of_lt (i:=52) h 1
 rw[Nat.or_comm,←(show 2^52*1=4503599627370496 from rfl),←this]
theorem mant_bound (a:Nat):mant a<9007199254740992:=by
 unfold mant;split <;> omega
theorem mant_ne {a:Nat} (h:mag a≠0):mant a≠0:=by
 unfold mant;split <;> omega
theorem lp_bound (a:Nat) : -1074≤lp a∧lp a≤972:=by
 have:=yI6 a
 unfold lp;omega
theorem c22 (a:Nat) (L:a<18446744073709551616) (w:World) (D:Tab w) :
  Ca 42 #[.float .f64 a] w fun e w'=>e=.returned (.tuple #[.int .u64 (sM a),iV (sE a),.bool (sN a),.bool (sO a)])∧∃ n,w'=w.drewN n:=by
 have J:=c9 a L;have u:=c32 a L;have F:=c47 a L;by_cases V:9218868437227405312≤mag a
 ·unfold sM sE sN sO;rw[kU6 V,kU6 V,kU6 V,kU6 V];by_cases Y:mag a=9218868437227405312
  ·rw[(cls2 Y).1] at J;exact(xQ2 a w _ _ 2 (.inr rfl) J u).mono fun e w' h=>⟨h.1,0,h.2⟩
  ·rw[(cls1 (a:=a) ω).1] at J;exact(xQ2 a w _ _ 1 (.inl rfl) J u).mono fun e w' h=>⟨h.1,0,h.2⟩
 ·unfold sM sE sN sO;rw[kU5 V,kU5 V,kU5 V,kU5 V];by_cases Y:mag a=0
  ·rw[kU6 Y,kU6 Y];rw[(cls3 Y).1,(cls3 Y).2] at J;exact(c22_3 a w _ _ J u).mono fun e w' h=>⟨h.1,0,h.2⟩
  ·rw[kU5 Y,kU5 Y];have W:=mant_ne Y;have hb:=mant_bound a;have I:=lp_bound a;obtain⟨_,hk⟩:=Lib.lowest_bit 64 (mant a) W ω;have H:=fun w D=>c51 (mant a) ω W w D;have C:wrap64 (lp a+(Lib.ctz 64 (mant a):Int))=lp a+(Lib.ctz 64 (mant a):Int):=by unfold wrap64;omega
   by_cases T:mag a<4503599627370496
   ·rw[(cls4 Y T).1,(cls4 Y T).2] at J;have e:mant a=mag a:=kU6 T;have:=c22_4 a w _ (mant a) (Lib.ctz 64 (mant a)) (lp a) (mag a) J u F H (by rw[and_mant _ ω,e];omega) ω ω D
    rw[C,kN9] at this;exact this
   ·rw[(cls5 (a:=a) ω ω).1,(cls5 (a:=a) ω ω).2] at J;have e:mant a=4503599627370496+mag a % 4503599627370496:=kU5 T;have:=c22_5 a w _ (mant a) (Lib.ctz 64 (mant a)) (lp a) (mag a) _ J u F H (and_mant _ ω) (by rw[or_mant _ ω,e]) ω ω D
    rw[C,kN9] at this;exact this
end Go.Proofs.YtfkaogdmlcdceaaGreatDoor.Ie
namespace Go.Proofs.YtfkaogdmlcdceaaGreatDoor
open Go.RowKit Go.Fl64
attribute [local go_sem] iV Nu
theorem c9_1 (a m:Nat) (e:Int) (s:Bool) (w:World) (hT:Tab32 w) (hm:m<18446744073709551616) (qU : -4000000≤e) (qV:e≤4000000) (qJ:(FloatKind.f64.format.order a a != some Ordering.eq)=false)
  (I:∀ W,Bw w W→Ca 42 #[.float .f64 a] W fun r w'=>r=.returned (.tuple #[.int .u64 m,iV e,.bool s,.bool true])∧∃ n,w'=W.drewN n) :
  Ca 87 #[.float .f64 a] w fun r w'=>∃ A,r=.returned (.tuple #[A,iV 0])∧Nrm w' w.heap.size A s m e∧Bw w w':=by
 obtain⟨W,T⟩:=eE (w.alloc (.cells (Nu false none 0 0 0) 50));have Y:Bw w W:=by rw[T];exact bR.alloc lR _
 have hC:Hn W w.heap.size false none 0 0 0 50:=by rw[T];exact kB7 _ _
 have qQ:W.heap.size=w.heap.size+1:=by rw[T];simp
 have J:Hid (Hn W w.heap.size false none 0 0 0 50∧W.heap.size=w.heap.size+1∧Bw w W∧Tab32 W∧m<18446744073709551616):=⟨hC,qQ,Y,hT.later Y,hm⟩;have k1:=I W Y;have HW:Hid (W=w.alloc (.cells (Nu false none 0 0 0) 50)):=T;clear I hC qQ Y hT hm
 go_enter Tryz.func87,Tryz.ntmps87
 go_wp2_with fail;rw[←T];clear T;refine k1.mono ?_;rintro r qK ⟨rfl,dd,rfl⟩;obtain⟨V,H⟩:=eE (W.drewN dd);rw[←H];have u:=J.out;clear J;have J:Hid (Hn V w.heap.size false none 0 0 0 50∧V.heap.size=w.heap.size+1∧Bw w V∧Tab32 V∧m<18446744073709551616):=by
  rw[H];exact⟨u.1,u.2.1,u.2.2.1.trans ⟨rfl,rfl,rfl,kH8 _,fun _ _=>rfl⟩,u.2.2.2.1,u.2.2.2.2⟩
 have L:=c57 m V u.2.2.2.2;clear k1 H u HW
 go_wp2_with fail;refine L.mono ?_;rintro r w2 ⟨v,rfl,hO,F⟩;clear L;have hl:dlen m≤2:=(qZ3 2 m).2 (by have:=J.out.2.2.2.2;unfold B;omega)
 have C:=c56 (neg:=s) (e:=e) hO.is ω (J.out.2.2.2.1.later F) ω;have D:Hid (Bw V w2):=F;clear hO F hl
 go_wp2_with fail;refine C.mono ?_;rintro r w3 ⟨A,rfl,hN,qZ⟩;clear C;obtain⟨s',ao,n',cap,ex,rfl⟩:=hN.shape;have qX:Hid (Bw V w3):=D.out.trans (qZ.mono D.out.size);have qY:Hid (Hn w3 w.heap.size false none 0 0 0 50):=qQ0 J.out.1 qX.out (by have:=J.out.2.1;omega)
 obtain⟨⟨a1,a2,a3⟩,a4,a5,a6⟩:=qQ3 qY.out;have HN:Hid (Nrm w3 V.heap.size (.agg (Nu s' ao n' cap ex)) s m e):=hN.mono D.out.size;clear hN qZ
 go_wp2;refine kB8 (qQ6 rfl _ _ w.heap.size 50 (Nu s' ao n' cap ex) (0,0) _ rfl (qX8 _ _ _ qY.out) Tryz.underlying50 rfl Tryz.info50) rfl ?_;have hs:=J.out.2.1;exact⟨_,rfl,(HN.out.store ω _ _ _).mono ω,qQ4 (J.out.2.2.1.trans (qX.out.mono ω)) lR _ _ _⟩
theorem Tab.later {w w':World} (h:Ie.Tab w) (u:Bw w w'):Ie.Tab w':=fun i hi=>(u.cell (World.block_lt_of_cell? _ _ (h i hi))).trans (h i hi)
theorem xY6 (a:Nat) (Y:a<18446744073709551616):∃ m:Nat,Ie.sM a=(m:Int)∧m<18446744073709551616:=by
 unfold Ie.sM;split
 ·exact⟨0,rfl,ω⟩
 ·split
  ·exact⟨0,rfl,ω⟩
  ·rename_i h1 h2
   have u:Ie.mant a<18446744073709551616:=by
    unfold Ie.mant;split <;> omega
   refine⟨Ie.mant a / 2^Lib.ctz 64 (Ie.mant a),by simp,kF7 (kF9 ..) u⟩
end Go.Proofs.YtfkaogdmlcdceaaGreatDoor
namespace Go.Proofs.YtfkaogdmlcdceaaGreatDoor
open Go.RowKit Go.Fl64
attribute [local go_sem] iV Nu
theorem xT1 (a:Nat) : -4000000≤Ie.sE a∧Ie.sE a≤4000000:=by
 unfold Ie.sE;split
 ·omega
 ·split
  ·omega
  ·rename_i h1 h2
   have u:=Ie.mant_ne h2;have V:=Ie.mant_bound a;have Y:=Ie.lp_bound a;obtain⟨_,J⟩:=Lib.lowest_bit 64 (Ie.mant a) u ω;omega
theorem xA3 (a:Nat) (u:a<18446744073709551616) (w:World) (J:Ie.Tab w) :
  ∀ W,Bw w W→Ca 42 #[.float .f64 a] W fun r w'=>r=.returned (.tuple #[.int .u64 (Ie.sM a),iV (Ie.sE a),.bool (Ie.sN a),.bool (Ie.sO a)])∧∃ n,w'=W.drewN n :=
 fun W Y=>Ie.c22 a u W (Tab.later J Y)
theorem xE2 (a m:Nat) (Y:a<18446744073709551616) (w:World) (H:Tab32 w) (T:Ie.Tab w) (L:mag a<9218868437227405312)
  (V:Ie.sM a=(m:Int)) :
  Ca 87 #[.float .f64 a] w fun r w'=>∃ A,r=.returned (.tuple #[A,iV 0])∧Nrm w' w.heap.size A (neg a) m (Ie.sE a)∧Bw w w':=by
 have k:=xA3 a Y w T;have u:(FloatKind.f64.format.order a a != some Ordering.eq)=false:=by rw[zX3 a Y];unfold qY9;exact kF1 ω
 have D:Ie.sN a=neg a:=kU5 ω;have F:Ie.sO a=true:=kU5 ω;rw[V,D,F] at k;obtain⟨J,C,W⟩:=xY6 a Y;have:m=J:=ω
 exact c9_1 a m (Ie.sE a) (neg a) w H ω (xT1 a).1 (xT1 a).2 u k
end Go.Proofs.YtfkaogdmlcdceaaGreatDoor
namespace Go.Proofs.YtfkaogdmlcdceaaGreatDoor
open Go.RowKit
attribute [local go_sem] iV Nu
theorem tf0 {x q d:Nat} (h:x % B^(0+1)=q+B^0*d∧q<B^0∧d<B):bits .or .u64 (q:Int) (IntKind.u64.wrap (IntKind.u64.wrap (d:Int)))=(x % B^1:Nat):=by
 obtain⟨Y,V,u⟩:=h;rw[kN7] at Y V;have J:q=0:=ω;subst J;rw[qX3 u,qX3 u,u64_or_nat 0 d ω (by unfold B at u;omega),Nat.zero_or,show(1:Nat)=0+1 from rfl,Y]
 simp
theorem tf1 {x q d:Nat} (h:x % B^(1+1)=q+B^1*d∧q<B^1∧d<B):bits .or .u64 (q:Int) (IntKind.u64.wrap (IntKind.u64.wrap (d:Int)*4294967296))=(x % B^2:Nat):=by
 obtain⟨Y,u,J⟩:=h;rw[Nat.pow_one] at Y u;have:=qO1 u J
 rw[qX3 u] at this;rw[this,show(2:Nat)=1+1 from rfl,Y,kN4]
theorem kZ7 (v:Value) (x n:Nat) (w:World) (h:Is w v x) (H:Hid (dlen x=n)) (T:n≤2) :
  Ca 237 #[v] w fun r w'=>r=.returned (.int .u64 x)∧w'=w:=by
 obtain⟨ao,cap,rfl,-,-,b,o,V,Y⟩:=h;rw[H.out] at V Y ⊢
 go_enter Tryz.func237,Tryz.ntmps237
 go_wp2
 go_loop [3,8] (fun c s=>∃ i:Nat,i≤n∧c=.int .u64 (x % B^i:Nat)∧s=iV i) (fun _ s=>n - (intOf s).toNat)
 case atStart=>exact⟨0,kB4 _,by simp[Nat.mod_one],rfl⟩
 case round =>
  obtain⟨i,hi,rfl,rfl⟩:=hrel;by_cases J:i<n
  ·obtain rfl:=V ω;have g:=Y i J;have C:(i:Int)<(n:Int):=ω;have F:Hid (x % B^(i+1)=x % B^i+B^i*dg x i∧x % B^i<B^i∧dg x i<B):=⟨qK3 x i,kB3 _ (qZ2 i),qX1 _ _⟩;generalize D:x % B^i=q at *;generalize I:dg x i=d at *;clear Y D I;rcases(show i=0∨i=1 by omega)with rfl|rfl
   ·rw[kH7] at g;have W:(0:Int)<(n:Int):=ω
    go_wp2;exact⟨⟨1,ω,by rw[tf0 F.out],rfl⟩,by simp[intOf];omega⟩
   ·have L:(1:Int)<(n:Int):=ω
    go_wp2;exact⟨⟨2,ω,by rw[tf1 F.out],rfl⟩,by simp[intOf];omega⟩
  ·obtain rfl:i=n:=ω;have u:x % B^i=x:=kB2 ((qZ3 i x).1 (by rw[H.out];omega))
   rw[u];clear V Y u
   go_wp2
   go_ret;exact⟨rfl,rfl⟩
end Go.Proofs.YtfkaogdmlcdceaaGreatDoor
namespace Go.Proofs.YtfkaogdmlcdceaaGreatDoor
open Go.RowKit Go.Fl64
attribute [local go_sem] iV Nu
theorem kK3 (neg exact:Bool) (v:Value) (x bx n qQ:Nat) (e mode:Int) (w:World) (h:Is w v x) (hx:dlen x≤2) (T:Hid (bl x=bx)) (hb:(bx:Int)≤64) (hn:Hid (dlen x=n)) (D:n≤2) (qY : -4000000≤e) (qZ:e≤4000000) :
  Ca 183 #[.bool neg,v,iV e,.bool exact,iV mode] w fun r w'=>r=.returned (.float .f64 (Ie.mk neg (if exact then x else x ||| 1) e mode 9221120237041090561))∧Bw w w':=by
 have J:=c74 h ω;rw[T.out] at J;have u:=c120 h 0 ω ω;rw[kN7,Nat.div_one] at u;have HX:Hid (dlen x≤2):=hx;clear h hx
 go_enter Tryz.func183,Tryz.ntmps183
 go_wp2_with fail;refine J.mono ?_;rintro r w1 ⟨rfl,rfl⟩;clear J
 go_wp2_with fail;refine u.mono ?_;rintro r W ⟨v2,rfl,I,hB⟩;clear u;have C:=kZ7 v2 x n W I.is hn D;have HB:Hid (Bw w1 W):=hB;clear I hB
 go_wp2_with fail;refine C.mono ?_;rintro r w3 ⟨rfl,rfl⟩;clear C;have Y:x<18446744073709551616:=by
  have:=(qZ3 2 x).1 HX.out
  unfold B at this;omega
 have H:=fun w=>Ie.c24 neg x e mode Y w;have V:=fun w=>Ie.c24 neg (x ||| 1) e mode (by have:=Nat.or_lt_two_pow (n:=64) Y (show 1<2^64 by omega);exact this) w
 have F:bits .or .u64 (x:Int) 1=((x ||| 1:Nat):Int):=u64_or_nat x 1 Y ω;have L:Hid (bits .or .u64 (x:Int) 1=((x ||| 1:Nat):Int)):=F;clear Y F;cases exact
 ·go_wp2_with fail;rw[L.out];refine(V _).mono ?_
  rintro r w5 ⟨rfl,rfl⟩
  go_wp2
  go_ret;exact⟨by simp,HB.out⟩
 ·go_wp2_with fail;refine(H _).mono ?_
  rintro r w5 ⟨rfl,rfl⟩
  go_wp2
  go_ret;exact⟨by simp,HB.out⟩
theorem kK2 (neg exact:Bool) (v:Value) (x z u t n:Nat) (e mode:Int) (w:World) (hT:Tab32 w) (h:Is w v x) (hx:dlen x≤1000000) (W:x≠0) (qX:Hid (bl x=u+64)) (qG:0<u) (qU:u≤32000000) (hz:Hid (x / 2^u=z)) (hn:Hid (dlen z=n)) (qZ:n≤2) (ht:Hid (tz x=t)) (T:Nat) (D:Hid ((if exact && !(decide (t<u))then z else z ||| 1)=T)) (qV : -4000000≤e) (qJ:e≤4000000) :
  Ca 183 #[.bool neg,v,iV e,.bool exact,iV mode] w (Rq w (.float .f64 (Ie.mk neg T (e+u) mode 9221120237041090561))):=by
 have H:=c74 h ω;rw[qX.out] at H;have V:=c120 h u ω ω;rw[hz.out] at V;have HI:Hid _:=aI4 h hT W hx;have qK:(0:Int)<(u:Int):=ω;rw[show((u+64:Nat):Int)=(u:Int)+64 by omega] at H
 clear h hx hT W
 go_enter Tryz.func183,Tryz.ntmps183
 go_wp2_with fail;refine H.mono ?_;rintro r w1 ⟨rfl,rfl⟩;clear H
 go_wp2_with fail;refine V.mono ?_;rintro r w2 ⟨v2,rfl,hO,hB⟩;clear V;have kW:=kZ7 v2 z n w2 hO.is hn qZ;have Y:=c119 (HI.out.1.later hB) (by have:=HI.out.2.2.2;omega) HI.out.2.2.1 (HI.out.2.1.later hB)
 rw[ht.out] at Y;have HB:Hid _:=hB;clear hO hB
 go_wp2_with fail;refine kW.mono ?_;rintro r w3 ⟨rfl,rfl⟩;clear kW;have F:z<18446744073709551616:=by
  have:=(qZ3 2 z).1 (by rw[hn.out];exact qZ)
  unfold B at this;omega
 have L:=fun w=>Ie.c24 neg z (e+u) mode F w;have J:=fun w=>Ie.c24 neg (z ||| 1) (e+u) mode (by have:=Nat.or_lt_two_pow (n:=64) F (show 1<2^64 by omega);exact this) w
 have qY:Hid (bits .or .u64 (z:Int) 1=((z ||| 1:Nat):Int)):=u64_or_nat z 1 F ω;clear F;cases exact
 ·clear Y
  go_wp2_with fail;rw[qY.out];refine(J _).mono ?_
  rintro r w5 ⟨rfl,rfl⟩
  go_wp2
  go_ret;have C:T=z ||| 1:=by rw[←D.out];simp
  rw[C];exact⟨rfl,HB.out⟩
 ·go_wp2_with fail;refine Y.mono ?_;rintro r w4 ⟨rfl,rfl⟩;clear Y;by_cases qQ:t<u
  ·have I:(t:Int)<(u:Int):=ω
   go_wp2_with fail;rw[qY.out];refine(J _).mono ?_
   rintro r w5 ⟨rfl,rfl⟩
   go_wp2
   go_ret;have C:T=z ||| 1:=by rw[←D.out];simp[qQ]
   rw[C];exact⟨rfl,HB.out⟩
  ·have I:¬ (t:Int)<(u:Int):=ω
   go_wp2_with fail;refine(L _).mono ?_
   rintro r w5 ⟨rfl,rfl⟩
   go_wp2
   go_ret;have C:T=z:=by rw[←D.out];simp[qQ]
   rw[C];exact⟨rfl,HB.out⟩
end Go.Proofs.YtfkaogdmlcdceaaGreatDoor
