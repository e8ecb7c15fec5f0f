/- Own work: contracts of the program's functions, part 13: SI3 SI4 UB4 HX W46 W47 W48 RE2 RE5 RE6 RD2 L12 L15 SE1 SE2 SB7 SE3 SF1 SF2 SF3 SF4. -/
import Derived.Test.YtbanebginnakhaaGreatDoorA12
import Derived.Test.YtbanebginnakhaaGreatDoorA7
import Derived.Test.YtbanebginnakhaaGreatDoorA10
import Derived.Test.YtbanebginnakhaaGreatDoorA5
import Derived.Test.YtbanebginnakhaaGreatDoorA6
import Derived.Lib.ItoaNum
import Derived.Test.YtbanebginnakhaaGreatDoorA11
import Derived.Test.YtbanebginnakhaaGreatDoorA8

set_option maxHeartbeats 16000000
set_option maxRecDepth 200000
set_option linter.unusedVariables false
set_option linter.unusedSimpArgs false
namespace Go.Proofs.YtbanebginnakhaaGreatDoor
open Go.RowKit Go.Fl64
end Go.Proofs.YtbanebginnakhaaGreatDoor
namespace Go.Proofs.YtbanebginnakhaaGreatDoor
open Go.RowKit
theorem pSign_no (na:Bool) (ua:Option Addr) (un uc:Nat) (ea:Int) (w:World)
  (k43:∀ W g,Bw w W→W.heap[g]?=some (.cells #[.bool na,.slice ua un uc,.int .i64 ea] 84 (0,0))→Calls Tryz.prog 78 #[.slice (some ⟨g,0,none⟩) 1 1] W fun r w'=>r=.returned (.bool false)∧Bw W w') :
  Calls Tryz.prog 47 #[.agg #[.bool na,.slice ua un uc,.int .i64 ea]] w fun r w'=>r=.returned (.int .i64 0)∧Bw w w':=by
 obtain⟨W,hW⟩:∃ W,W=w.alloc (.cells #[.bool na,.slice ua un uc,.int .i64 ea] 84):=⟨_,rfl⟩;have hBW:Bw w W:=by rw[hW];exact(xL1 _ _).alloc (xL0 _) _
 have hsz:W.heap.size=w.heap.size+1:=by rw[hW];simp
 have hbx:W.heap[w.heap.size]?=some (.cells #[.bool na,.slice ua un uc,.int .i64 ea] 84 (0,0)):=by rw[hW];exact xW8 _ _
 have k1:=k43 (W.alloc (.cells #[.bool na,.slice ua un uc,.int .i64 ea] 84)) (w.heap.size+1) (hBW.alloc hBW.size _) (by rw[←hsz];exact xW8 _ _)
 have HX:Hid (Bw w W∧W.heap.size=w.heap.size+1∧W.heap[w.heap.size]?=some (.cells #[.bool na,.slice ua un uc,.int .i64 ea] 84 (0,0))):=⟨hBW,hsz,hbx⟩;clear hBW hsz hbx k43
 go_enter Tryz.func47,Tryz.ntmps47
 go_wp2_with fail;rw[←hW];clear hW;refine k1.mono ?_;rintro r w1 ⟨rfl,hb1⟩;have HB1:Hid (Bw W w1):=((xL1 W.heap.size W).alloc (xL0 _) _).trans (hb1.mono (by simp))
 clear k1 hb1;obtain⟨⟨x0,x1,x2⟩,-⟩:=qQ1 (qQ HX.out.2.2 HB1.out (by have:=HX.out.2.1;omega))
 have HB2:Hid (Bw w w1):=HX.out.1.trans (HB1.out.mono HX.out.1.size)
 go_wp2
 go_ret;exact⟨rfl,HB2.out⟩
theorem xH7 (na:Bool) (ua:Option Addr) (un uc:Nat) (ea c:Int) (w:World)
  (k43:∀ W g,Bw w W→W.heap[g]?=some (.cells #[.bool na,.slice ua un uc,.int .i64 ea] 84 (0,0))→Calls Tryz.prog 78 #[.slice (some ⟨g,0,none⟩) 1 1] W fun r w'=>r=.returned (.bool true)∧Bw W w')
  (kC:∀ W,Bw w W→Calls Tryz.prog 190 #[.agg #[.bool na,.slice ua un uc,.int .i64 ea]] W fun r w'=>r=.returned (.int .i64 c)∧Bw W w') :
  Calls Tryz.prog 152 #[.agg #[.bool na,.slice ua un uc,.int .i64 ea]] w fun r w'=>r=.returned (.int .i64 c)∧Bw w w':=by
 have HKC:Hid _:=kC;clear kC;obtain⟨W,hW⟩:∃ W,W=w.alloc (.cells #[.bool na,.slice ua un uc,.int .i64 ea] 84):=⟨_,rfl⟩;have hBW:Bw w W:=by rw[hW];exact(xL1 _ _).alloc (xL0 _) _
 have hsz:W.heap.size=w.heap.size+1:=by rw[hW];simp
 have hbx:W.heap[w.heap.size]?=some (.cells #[.bool na,.slice ua un uc,.int .i64 ea] 84 (0,0)):=by rw[hW];exact xW8 _ _
 have k1:=k43 (W.alloc (.cells #[.bool na,.slice ua un uc,.int .i64 ea] 84)) (w.heap.size+1) (hBW.alloc hBW.size _) (by rw[←hsz];exact xW8 _ _)
 have HX:Hid (Bw w W∧W.heap.size=w.heap.size+1∧W.heap[w.heap.size]?=some (.cells #[.bool na,.slice ua un uc,.int .i64 ea] 84 (0,0))):=⟨hBW,hsz,hbx⟩;clear hBW hsz hbx k43
 go_enter Tryz.func152,Tryz.ntmps152
 go_wp2_with fail;rw[←hW];clear hW;refine k1.mono ?_;rintro r w1 ⟨rfl,hb1⟩;have HB1:Hid (Bw W w1):=((xL1 W.heap.size W).alloc (xL0 _) _).trans (hb1.mono (by simp))
 clear k1 hb1;obtain⟨⟨x0,x1,x2⟩,-⟩:=qQ1 (qQ HX.out.2.2 HB1.out (by have:=HX.out.2.1;omega))
 have HB2:Hid (Bw w w1):=HX.out.1.trans (HB1.out.mono HX.out.1.size);have k3:=HKC.out w1 HB2.out
 go_wp2_with fail;refine k3.mono ?_;rintro r w3 ⟨rfl,hb3⟩;have HB3:Hid (Bw w w3):=HB2.out.trans (hb3.mono HB2.out.size);clear k3 hb3 x0 x1 x2
 go_wp2_with fail
 go_ret;exact⟨rfl,HB3.out⟩
theorem qY3 (L M:List UInt8):(⟨L.toArray⟩:ByteArray)++⟨M.toArray⟩=⟨(L++M).toArray⟩:=by
 apply ByteArray.ext
 simp
def OB (w wr:World) (v:Value) (L:List UInt8):Prop:=wr.ownsRow w.heap.size 5 1 v L.length (Lib.byteCells L)∧Bw w wr
theorem OB.shape {w wr:World} {v:Value} {L:List UInt8} (h:OB w wr v L):∃ ao cap,v=.slice ao L.length cap:=by
 obtain⟨⟨-,h|⟨g,cap,cur,h,-⟩⟩,-⟩:=h
 ·exact⟨none,0,by rw[h.1,h.2]⟩
 ·exact⟨_,_,h⟩
theorem OB.push {w wr w4:World} {v v':Value} {L:List UInt8} {c:Nat} (h:OB w wr v L) (hc:c<256) (ho':w4.ownsRow w.heap.size 5 1 v' (L.length+1) (Lib.byteCells L ++ [.int .u8 (c:Int)])) (hg:(wr.alloc (.cells #[.int .u8 (c:Int)] 5)).grownBy w4 v.ownBlock):OB w w4 v' (L ++ [UInt8.ofNat c]):=by
 refine⟨?_,(h.2.alloc h.2.size _).grown hg (by simp;have:=h.2.size;omega) (fun k hk=>(h.1.lt k hk).1)⟩
 rw[xE0,List.length_singleton];have e:Lib.byteCells (L ++ [UInt8.ofNat c])=Lib.byteCells L ++ [.int .u8 (c:Int)]:=by
  simp[Lib.byteCells,UInt8.toNat_ofNat_of_lt' hc]
 rw[e];exact ho'
end Go.Proofs.YtbanebginnakhaaGreatDoor
namespace Go.Proofs.YtbanebginnakhaaGreatDoor
open Go.RowKit Go.Fl64
end Go.Proofs.YtbanebginnakhaaGreatDoor
