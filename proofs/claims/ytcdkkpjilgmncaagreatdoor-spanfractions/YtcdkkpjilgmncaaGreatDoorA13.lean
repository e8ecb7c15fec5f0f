/- Own work: contracts of the program's functions, part 13: RY4 FM6 FM7 FM8 RY5 SA7 SA8 SA9 UA1 UA2 UA3 UA4 UA5 UA6 UA7 SB1 SB2 SB3 SC1 RY6 SC2 PV3 RY7 SD1 SD2 UA8 UA9 UB1 UB2 UB3 SB4 SB5 SH5 SB6 SH6 SH7 SH8 SH9 SI1 SI2 SI3 SI4 UB4 HX W46 W47 W48 RE2 RE5 RE6 RD2 L12 L15 SE1 SE2 SB7 SE3 SF1 SF2 SF3 SF4. -/
import Derived.Test.YtcdkkpjilgmncaaGreatDoorA12
import Derived.Test.YtcdkkpjilgmncaaGreatDoorA11
import Derived.Test.YtcdkkpjilgmncaaGreatDoorA9
import Derived.RangeFuncNested
import Derived.RangeFuncBound
import Derived.RangeFuncCalls
import Derived.RangeFuncLeaves
import Derived.Test.YtcdkkpjilgmncaaGreatDoorA2
import Derived.Shelf.Abstract
import Derived.Shelf.RegionOpen
import Derived.WalkKit
import Derived.OwnWalkIn
import Derived.TacticsInMore
import Derived.LoopNIn
import Derived.LoopIn
import Derived.Test.YtcdkkpjilgmncaaGreatDoorA5
import Derived.Test.YtcdkkpjilgmncaaGreatDoorA7
import Derived.Test.YtcdkkpjilgmncaaGreatDoorA8
import Derived.Test.YtcdkkpjilgmncaaGreatDoorA3
import Derived.Test.YtcdkkpjilgmncaaGreatDoorA10
import Derived.Test.YtcdkkpjilgmncaaGreatDoorA6
import Derived.Lib.ItoaNum

set_option maxHeartbeats 16000000
set_option maxRecDepth 200000
set_option linter.unusedVariables false
set_option linter.unusedSimpArgs false
namespace Go.Proofs.YtcdkkpjilgmncaaGreatDoor
open Go.RowKit
theorem rratioto_f (na nb:Bool) (ua va:Option Addr) (un uc vn vc F:Nat) (ea eb m ta tb pl:Int) (sg:Bool) (w:World) (hsg:(!(na==nb))=sg) (hn0:((un:Int)==0)=false) (hta1 : -200000≤ta) (hta2:ta≤200000) (htb1 : -200000≤tb) (htb2:tb≤200000) (hpl:min (max (60 - ta+tb) (-1100)) 1100=pl) (hpl1 : -1100≤pl) (hpl2:pl≤1100) (EX:Int) (hEX:(1100<ta - tb∧EX=1100)∨(ta - tb < -1200∧EX = -1200)) (kHa:∀ W,Bw w W→Calls Tryz.prog 63 #[.agg #[.bool na,.slice ua un uc,.int .i64 ea]] W fun r w'=>r=.returned (.int .i64 ta)∧Bw W w') (kHb:∀ W,Bw w W→Calls Tryz.prog 63 #[.agg #[.bool nb,.slice va vn vc,.int .i64 eb]] W fun r w'=>r=.returned (.int .i64 tb)∧Bw W w')
  (kT:∀ g W,Bw w W→At W (some ⟨g,0,none⟩) 1 1→Calls Tryz.prog 64 #[.agg #[.bool sg,.slice (some ⟨g,0,none⟩) 1 1,.int .i64 EX],.int .i64 m] W fun r w'=>r=.returned (.float .f64 F)∧Bw W w') :
  Calls Tryz.prog 25 #[.agg #[.bool na,.slice ua un uc,.int .i64 ea],.agg #[.bool nb,.slice va vn vc,.int .i64 eb],.int .i64 m] w fun r w'=>r=.returned (.float .f64 F)∧Bw w w':=by
 rcases hEX with ⟨ht,rfl⟩|⟨ht,rfl⟩
 all_goals (
  try have htn:¬ 1100<ta - tb:=by omega
  obtain⟨W,hW⟩:∃ W,W=(w.alloc (.cells #[.bool na,.slice ua un uc,.int .i64 ea] 27)).alloc (.cells #[.bool nb,.slice va vn vc,.int .i64 eb] 27):=⟨_,rfl⟩
  obtain⟨hA,hBb,hsz,hBW⟩:=two29 _ _ hW
  have HX:Hid (Bw w W∧W.heap.size=w.heap.size+1+1∧W.heap[w.heap.size]?=some (.cells #[.bool na,.slice ua un uc,.int .i64 ea] 27 (0,0))∧W.heap[w.heap.size+1]?=some (.cells #[.bool nb,.slice va vn vc,.int .i64 eb] 27 (0,0))):=⟨hBW,hsz,hA,hBb⟩
  have HKW:Hid (∀ w',Bw W w'→((w'.cell? ⟨w.heap.size,0,none⟩=some (.bool na)∧w'.cell? ⟨w.heap.size,1,none⟩=some (.slice ua un uc)∧w'.cell? ⟨w.heap.size,2,none⟩=some (.int .i64 ea))∧(w'.cell? ⟨w.heap.size+1,0,none⟩=some (.bool nb)∧w'.cell? ⟨w.heap.size+1,1,none⟩=some (.slice va vn vc)∧w'.cell? ⟨w.heap.size+1,2,none⟩=some (.int .i64 eb)))):=fun w' hb=>⟨(box_cells29 (box_later HX.out.2.2.1 hb (by have:=HX.out.2.1;omega))).1,(box_cells29 (box_later HX.out.2.2.2 hb (by have:=HX.out.2.1;omega))).1⟩
  have HKA:Hid _:=kHa
  have HKB:Hid _:=kHb
  have HBW0:Hid (Bw W W):=Below.refl _ _
  have hw1:IntKind.i64.wrap (60 - ta)=60 - ta:=by rw[IntKind.wrap_i64];omega
  have hw2:IntKind.i64.wrap (60 - ta+tb)=60 - ta+tb:=by rw[IntKind.wrap_i64];omega
  have hw3:IntKind.i64.wrap (ta - tb)=ta - tb:=by rw[IntKind.wrap_i64];omega
  have HKT:Hid _:=kT
  clear kT
  clear hA hBb hsz hBW kHa kHb
  go_enter Tryz.func25,Tryz.ntmps25
  have HK0:Hid (∀ w',Bw W w'→((w'.cell? ⟨w.heap.size,0,none⟩=some (.bool na)∧w'.cell? ⟨w.heap.size,1,none⟩=some (.slice ua un uc)∧w'.cell? ⟨w.heap.size,2,none⟩=some (.int .i64 ea))∧(w'.cell? ⟨w.heap.size+1,0,none⟩=some (.bool nb)∧w'.cell? ⟨w.heap.size+1,1,none⟩=some (.slice va vn vc)∧w'.cell? ⟨w.heap.size+1,2,none⟩=some (.int .i64 eb)))):=fun w' hb=>HKW.out w' (HBW0.out.trans (hb.mono HBW0.out.size))
  obtain⟨⟨a0,a1,a2⟩,b0,b1,b2⟩:=HK0.out W (Below.refl _ _)
  have hBR:Bw W W.drew:=(Below.refl _ _).drew
  have kA':∀ w4,Bw W w4→Calls Tryz.prog 63 #[.agg #[.bool na,.slice ua un uc,.int .i64 ea]] w4 fun r w'=>r=.returned (.int .i64 ta)∧Bw W w':=fun w4 hb=>(HKA.out w4 (HX.out.1.trans ((HBW0.out.trans (hb.mono HBW0.out.size)).mono HX.out.1.size))).mono fun r w' ⟨e1,o2⟩=>⟨e1,hb.trans (o2.mono hb.size)⟩
  have kB':∀ w4,Bw W w4→Calls Tryz.prog 63 #[.agg #[.bool nb,.slice va vn vc,.int .i64 eb]] w4 fun r w'=>r=.returned (.int .i64 tb)∧Bw W w':=fun w4 hb=>(HKB.out w4 (HX.out.1.trans ((HBW0.out.trans (hb.mono HBW0.out.size)).mono HX.out.1.size))).mono fun r w' ⟨e1,o2⟩=>⟨e1,hb.trans (o2.mono hb.size)⟩
  go_upto_region 3 with fail
  rw[←hW]
  clear hW
  go_cut [7] from 15 to 22 (fun v wx=>v=.int .i64 pl∧Hid (Bw W wx))
  case first =>
   go_region_held3 (fun w'=>((w'.cell? ⟨w.heap.size,0,none⟩=some (.bool na)∧w'.cell? ⟨w.heap.size,1,none⟩=some (.slice ua un uc)∧w'.cell? ⟨w.heap.size,2,none⟩=some (.int .i64 ea))∧(w'.cell? ⟨w.heap.size+1,0,none⟩=some (.bool nb)∧w'.cell? ⟨w.heap.size+1,1,none⟩=some (.slice va vn vc)∧w'.cell? ⟨w.heap.size+1,2,none⟩=some (.int .i64 eb)))) (first|(with_reducible assumption)|exact⟨⟨a0,a1,a2⟩,b0,b1,b2⟩|(refine HK0.out _ ?_;with_reducible assumption)|go_keep)
    (first|(go_at_call 63;first|(with_reducible refine(kA' _ (by first|(with_reducible assumption)|exact hBR)).mono ?_;rintro r w5 ⟨rfl,hb5⟩)|(with_reducible refine(kB' _ (by first|(with_reducible assumption)|exact hBR)).mono ?_;rintro r w6 ⟨rfl,hb6⟩)))
   all_goals go_wp2_with fail
   all_goals go_meet
   all_goals first|exact⟨rfl,hb6⟩|exact⟨rfl,hb5⟩
  case rest =>
  obtain⟨rfl,hcx⟩:=hcut
  obtain⟨w2,rfl⟩:∃ w2:World,w2=wc:=⟨_,rfl⟩
  have HBW1:Hid (Bw W w2):=HBW0.out.trans (hcx.out.mono HBW0.out.size)
  clear hcx a0 a1 a2 b0 b1 b2 kA' kB' hBR HK0
  have HK1:Hid (∀ w',Bw w2 w'→((w'.cell? ⟨w.heap.size,0,none⟩=some (.bool na)∧w'.cell? ⟨w.heap.size,1,none⟩=some (.slice ua un uc)∧w'.cell? ⟨w.heap.size,2,none⟩=some (.int .i64 ea))∧(w'.cell? ⟨w.heap.size+1,0,none⟩=some (.bool nb)∧w'.cell? ⟨w.heap.size+1,1,none⟩=some (.slice va vn vc)∧w'.cell? ⟨w.heap.size+1,2,none⟩=some (.int .i64 eb)))):=fun w' hb=>HKW.out w' (HBW1.out.trans (hb.mono HBW1.out.size))
  obtain⟨⟨a0,a1,a2⟩,b0,b1,b2⟩:=HK1.out w2 (Below.refl _ _)
  have hBR:Bw w2 w2.drew:=(Below.refl _ _).drew
  have kA':∀ w4,Bw w2 w4→Calls Tryz.prog 63 #[.agg #[.bool na,.slice ua un uc,.int .i64 ea]] w4 fun r w'=>r=.returned (.int .i64 ta)∧Bw w2 w':=fun w4 hb=>(HKA.out w4 (HX.out.1.trans ((HBW1.out.trans (hb.mono HBW1.out.size)).mono HX.out.1.size))).mono fun r w' ⟨e1,o2⟩=>⟨e1,hb.trans (o2.mono hb.size)⟩
  have kB':∀ w4,Bw w2 w4→Calls Tryz.prog 63 #[.agg #[.bool nb,.slice va vn vc,.int .i64 eb]] w4 fun r w'=>r=.returned (.int .i64 tb)∧Bw w2 w':=fun w4 hb=>(HKB.out w4 (HX.out.1.trans ((HBW1.out.trans (hb.mono HBW1.out.size)).mono HX.out.1.size))).mono fun r w' ⟨e1,o2⟩=>⟨e1,hb.trans (o2.mono hb.size)⟩
  go_upto_region 4 with fail
  go_cut [8] from 23 to 27 (fun v wx=>v=.int .i64 (ta - tb)∧Hid (Bw w2 wx))
  case first =>
   go_region_held3 (fun w'=>((w'.cell? ⟨w.heap.size,0,none⟩=some (.bool na)∧w'.cell? ⟨w.heap.size,1,none⟩=some (.slice ua un uc)∧w'.cell? ⟨w.heap.size,2,none⟩=some (.int .i64 ea))∧(w'.cell? ⟨w.heap.size+1,0,none⟩=some (.bool nb)∧w'.cell? ⟨w.heap.size+1,1,none⟩=some (.slice va vn vc)∧w'.cell? ⟨w.heap.size+1,2,none⟩=some (.int .i64 eb)))) (first|(with_reducible assumption)|exact⟨⟨a0,a1,a2⟩,b0,b1,b2⟩|(refine HK1.out _ ?_;with_reducible assumption)|go_keep)
    (first|(go_at_call 63;first|(with_reducible refine(kA' _ (by first|(with_reducible assumption)|exact hBR)).mono ?_;rintro r w5 ⟨rfl,hb5⟩)|(with_reducible refine(kB' _ (by first|(with_reducible assumption)|exact hBR)).mono ?_;rintro r w6 ⟨rfl,hb6⟩)))
   all_goals go_wp2_with fail
   all_goals go_meet
   all_goals first|exact⟨rfl,hb6⟩|exact⟨rfl,hb5⟩
  case rest =>
  obtain⟨rfl,hcx⟩:=hcut
  obtain⟨w3,rfl⟩:∃ w3:World,w3=wc:=⟨_,rfl⟩
  have HBW2:Hid (Bw W w3):=HBW1.out.trans (hcx.out.mono HBW1.out.size)
  clear hcx a0 a1 a2 b0 b1 b2 kA' kB' hBR HK1
  obtain⟨⟨a0,a1,a2⟩,b0,b1,b2⟩:=HKW.out w3 HBW2.out
  obtain⟨w4,hw4⟩:∃ w4,w4=w3.alloc (.cells #[.int .u32 1] 60):=⟨_,rfl⟩
  have hB34:Bw w3 w4:=by rw[hw4];exact(Below.refl _ _).alloc (Nat.le_refl _) _
  have HW3:Hid (Bw w w3):=HX.out.1.trans (HBW2.out.mono HX.out.1.size)
  have HB4:Hid (Bw w w4):=HW3.out.trans (hB34.mono HW3.out.size)
  have hA1:At w4 (some ⟨w3.heap.size,0,none⟩) 1 1:=⟨w3.heap.size,0,fun _=>rfl,fun i hi=>by
   obtain rfl:i=0:=by omega
   rw[hw4,dg_zero,show 1 % B=1 by rfl]
   exact cell_new1 w3 _⟩
  have kt:=HKT.out w3.heap.size w4 HB4.out hA1
  clear hB34 hA1
  go_wp2_with fail
  rw[←hw4]
  clear hw4
  refine kt.mono ?_
  rintro r w5 ⟨rfl,hb5⟩
  have HB5:Hid (Bw w w5):=HB4.out.trans (hb5.mono HB4.out.size)
  clear kt hb5
  go_wp2
  go_ret
  exact⟨rfl,HB5.out⟩)
theorem rratioto_m (na nb:Bool) (ua va:Option Addr) (un uc vn vc F:Nat) (ea eb m ta tb pl:Int) (s:Bool) (z:Nat) (bx:Bool) (w:World) (hn0:((un:Int)==0)=false) (hta1 : -200000≤ta) (hta2:ta≤200000) (htb1 : -200000≤tb) (htb2:tb≤200000) (hpl:min (max (60 - ta+tb) (-1100)) 1100=pl) (hpl1 : -1100≤pl) (hpl2:pl≤1100) (ht1:ta - tb≤1100) (ht2 : -1200≤ta - tb) (kHa:∀ W,Bw w W→Calls Tryz.prog 63 #[.agg #[.bool na,.slice ua un uc,.int .i64 ea]] W fun r w'=>r=.returned (.int .i64 ta)∧Bw W w') (kHb:∀ W,Bw w W→Calls Tryz.prog 63 #[.agg #[.bool nb,.slice va vn vc,.int .i64 eb]] W fun r w'=>r=.returned (.int .i64 tb)∧Bw W w')
  (kO:∀ W,Bw w W→Calls Tryz.prog 65 #[.agg #[.bool na,.slice ua un uc,.int .i64 ea],.agg #[.bool nb,.slice va vn vc,.int .i64 eb],.int .i64 (pl+60)] W fun r w'=>∃ A,r=.returned (.tuple #[A,.bool bx])∧NC w' W.heap.size A s z (-(pl+60))∧Bw W w')
  (kB:∀ W A,Bw w W→NC W w.heap.size A s z (-(pl+60))→Calls Tryz.prog 66 #[A,.bool bx,.int .i64 (pl+60),.int .i64 m] W fun r w'=>r=.returned (.float .f64 F)∧Bw W w') :
  Calls Tryz.prog 25 #[.agg #[.bool na,.slice ua un uc,.int .i64 ea],.agg #[.bool nb,.slice va vn vc,.int .i64 eb],.int .i64 m] w fun r w'=>r=.returned (.float .f64 F)∧Bw w w':=by
 have htn:¬ 1100<ta - tb:=by omega
 have htm:¬ ta - tb < -1200:=by omega
 obtain⟨W,hW⟩:∃ W,W=(w.alloc (.cells #[.bool na,.slice ua un uc,.int .i64 ea] 27)).alloc (.cells #[.bool nb,.slice va vn vc,.int .i64 eb] 27):=⟨_,rfl⟩
 obtain⟨hA,hBb,hsz,hBW⟩:=two29 _ _ hW
 have HX:Hid (Bw w W∧W.heap.size=w.heap.size+1+1∧W.heap[w.heap.size]?=some (.cells #[.bool na,.slice ua un uc,.int .i64 ea] 27 (0,0))∧W.heap[w.heap.size+1]?=some (.cells #[.bool nb,.slice va vn vc,.int .i64 eb] 27 (0,0))):=⟨hBW,hsz,hA,hBb⟩
 have HKW:Hid (∀ w',Bw W w'→((w'.cell? ⟨w.heap.size,0,none⟩=some (.bool na)∧w'.cell? ⟨w.heap.size,1,none⟩=some (.slice ua un uc)∧w'.cell? ⟨w.heap.size,2,none⟩=some (.int .i64 ea))∧(w'.cell? ⟨w.heap.size+1,0,none⟩=some (.bool nb)∧w'.cell? ⟨w.heap.size+1,1,none⟩=some (.slice va vn vc)∧w'.cell? ⟨w.heap.size+1,2,none⟩=some (.int .i64 eb)))):=fun w' hb=>⟨(box_cells29 (box_later HX.out.2.2.1 hb (by have:=HX.out.2.1;omega))).1,(box_cells29 (box_later HX.out.2.2.2 hb (by have:=HX.out.2.1;omega))).1⟩
 have HKA:Hid _:=kHa
 have HKB:Hid _:=kHb
 have HBW0:Hid (Bw W W):=Below.refl _ _
 have hw1:IntKind.i64.wrap (60 - ta)=60 - ta:=by rw[IntKind.wrap_i64];omega
 have hw2:IntKind.i64.wrap (60 - ta+tb)=60 - ta+tb:=by rw[IntKind.wrap_i64];omega
 have hw3:IntKind.i64.wrap (ta - tb)=ta - tb:=by rw[IntKind.wrap_i64];omega
 have HKO:Hid _:=kO
 have HKBt:Hid _:=kB
 clear kO kB
 clear hA hBb hsz hBW kHa kHb
 go_enter Tryz.func25,Tryz.ntmps25
 have HK0:Hid (∀ w',Bw W w'→((w'.cell? ⟨w.heap.size,0,none⟩=some (.bool na)∧w'.cell? ⟨w.heap.size,1,none⟩=some (.slice ua un uc)∧w'.cell? ⟨w.heap.size,2,none⟩=some (.int .i64 ea))∧(w'.cell? ⟨w.heap.size+1,0,none⟩=some (.bool nb)∧w'.cell? ⟨w.heap.size+1,1,none⟩=some (.slice va vn vc)∧w'.cell? ⟨w.heap.size+1,2,none⟩=some (.int .i64 eb)))):=fun w' hb=>HKW.out w' (HBW0.out.trans (hb.mono HBW0.out.size))
 obtain⟨⟨a0,a1,a2⟩,b0,b1,b2⟩:=HK0.out W (Below.refl _ _)
 have hBR:Bw W W.drew:=(Below.refl _ _).drew
 have kA':∀ w4,Bw W w4→Calls Tryz.prog 63 #[.agg #[.bool na,.slice ua un uc,.int .i64 ea]] w4 fun r w'=>r=.returned (.int .i64 ta)∧Bw W w':=fun w4 hb=>(HKA.out w4 (HX.out.1.trans ((HBW0.out.trans (hb.mono HBW0.out.size)).mono HX.out.1.size))).mono fun r w' ⟨e1,o2⟩=>⟨e1,hb.trans (o2.mono hb.size)⟩
 have kB':∀ w4,Bw W w4→Calls Tryz.prog 63 #[.agg #[.bool nb,.slice va vn vc,.int .i64 eb]] w4 fun r w'=>r=.returned (.int .i64 tb)∧Bw W w':=fun w4 hb=>(HKB.out w4 (HX.out.1.trans ((HBW0.out.trans (hb.mono HBW0.out.size)).mono HX.out.1.size))).mono fun r w' ⟨e1,o2⟩=>⟨e1,hb.trans (o2.mono hb.size)⟩
 go_upto_region 3 with fail
 rw[←hW]
 clear hW
 go_cut [7] from 15 to 22 (fun v wx=>v=.int .i64 pl∧Hid (Bw W wx))
 case first =>
  go_region_held3 (fun w'=>((w'.cell? ⟨w.heap.size,0,none⟩=some (.bool na)∧w'.cell? ⟨w.heap.size,1,none⟩=some (.slice ua un uc)∧w'.cell? ⟨w.heap.size,2,none⟩=some (.int .i64 ea))∧(w'.cell? ⟨w.heap.size+1,0,none⟩=some (.bool nb)∧w'.cell? ⟨w.heap.size+1,1,none⟩=some (.slice va vn vc)∧w'.cell? ⟨w.heap.size+1,2,none⟩=some (.int .i64 eb)))) (first|(with_reducible assumption)|exact⟨⟨a0,a1,a2⟩,b0,b1,b2⟩|(refine HK0.out _ ?_;with_reducible assumption)|go_keep)
   (first|(go_at_call 63;first|(with_reducible refine(kA' _ (by first|(with_reducible assumption)|exact hBR)).mono ?_;rintro r w5 ⟨rfl,hb5⟩)|(with_reducible refine(kB' _ (by first|(with_reducible assumption)|exact hBR)).mono ?_;rintro r w6 ⟨rfl,hb6⟩)))
  all_goals go_wp2_with fail
  all_goals go_meet
  all_goals first|exact⟨rfl,hb6⟩|exact⟨rfl,hb5⟩
 case rest =>
 obtain⟨rfl,hcx⟩:=hcut
 obtain⟨w2,rfl⟩:∃ w2:World,w2=wc:=⟨_,rfl⟩
 have HBW1:Hid (Bw W w2):=HBW0.out.trans (hcx.out.mono HBW0.out.size)
 clear hcx a0 a1 a2 b0 b1 b2 kA' kB' hBR HK0
 have HK1:Hid (∀ w',Bw w2 w'→((w'.cell? ⟨w.heap.size,0,none⟩=some (.bool na)∧w'.cell? ⟨w.heap.size,1,none⟩=some (.slice ua un uc)∧w'.cell? ⟨w.heap.size,2,none⟩=some (.int .i64 ea))∧(w'.cell? ⟨w.heap.size+1,0,none⟩=some (.bool nb)∧w'.cell? ⟨w.heap.size+1,1,none⟩=some (.slice va vn vc)∧w'.cell? ⟨w.heap.size+1,2,none⟩=some (.int .i64 eb)))):=fun w' hb=>HKW.out w' (HBW1.out.trans (hb.mono HBW1.out.size))
 obtain⟨⟨a0,a1,a2⟩,b0,b1,b2⟩:=HK1.out w2 (Below.refl _ _)
 have hBR:Bw w2 w2.drew:=(Below.refl _ _).drew
 have kA':∀ w4,Bw w2 w4→Calls Tryz.prog 63 #[.agg #[.bool na,.slice ua un uc,.int .i64 ea]] w4 fun r w'=>r=.returned (.int .i64 ta)∧Bw w2 w':=fun w4 hb=>(HKA.out w4 (HX.out.1.trans ((HBW1.out.trans (hb.mono HBW1.out.size)).mono HX.out.1.size))).mono fun r w' ⟨e1,o2⟩=>⟨e1,hb.trans (o2.mono hb.size)⟩
 have kB':∀ w4,Bw w2 w4→Calls Tryz.prog 63 #[.agg #[.bool nb,.slice va vn vc,.int .i64 eb]] w4 fun r w'=>r=.returned (.int .i64 tb)∧Bw w2 w':=fun w4 hb=>(HKB.out w4 (HX.out.1.trans ((HBW1.out.trans (hb.mono HBW1.out.size)).mono HX.out.1.size))).mono fun r w' ⟨e1,o2⟩=>⟨e1,hb.trans (o2.mono hb.size)⟩
 go_upto_region 4 with fail
 go_cut [8] from 23 to 27 (fun v wx=>v=.int .i64 (ta - tb)∧Hid (Bw w2 wx))
 case first =>
  go_region_held3 (fun w'=>((w'.cell? ⟨w.heap.size,0,none⟩=some (.bool na)∧w'.cell? ⟨w.heap.size,1,none⟩=some (.slice ua un uc)∧w'.cell? ⟨w.heap.size,2,none⟩=some (.int .i64 ea))∧(w'.cell? ⟨w.heap.size+1,0,none⟩=some (.bool nb)∧w'.cell? ⟨w.heap.size+1,1,none⟩=some (.slice va vn vc)∧w'.cell? ⟨w.heap.size+1,2,none⟩=some (.int .i64 eb)))) (first|(with_reducible assumption)|exact⟨⟨a0,a1,a2⟩,b0,b1,b2⟩|(refine HK1.out _ ?_;with_reducible assumption)|go_keep)
   (first|(go_at_call 63;first|(with_reducible refine(kA' _ (by first|(with_reducible assumption)|exact hBR)).mono ?_;rintro r w5 ⟨rfl,hb5⟩)|(with_reducible refine(kB' _ (by first|(with_reducible assumption)|exact hBR)).mono ?_;rintro r w6 ⟨rfl,hb6⟩)))
  all_goals go_wp2_with fail
  all_goals go_meet
  all_goals first|exact⟨rfl,hb6⟩|exact⟨rfl,hb5⟩
 case rest =>
 obtain⟨rfl,hcx⟩:=hcut
 obtain⟨w3,rfl⟩:∃ w3:World,w3=wc:=⟨_,rfl⟩
 have HBW2:Hid (Bw W w3):=HBW1.out.trans (hcx.out.mono HBW1.out.size)
 clear hcx a0 a1 a2 b0 b1 b2 kA' kB' hBR HK1
 obtain⟨⟨a0,a1,a2⟩,b0,b1,b2⟩:=HKW.out w3 HBW2.out
 have HW3:Hid (Bw w w3):=HX.out.1.trans (HBW2.out.mono HX.out.1.size)
 have ko:=HKO.out w3 HW3.out
 go_wp2_with fail
 refine ko.mono ?_
 rintro r w4 ⟨A,rfl,hN,hb4⟩
 have HB4:Hid (Bw w w4):=HW3.out.trans (hb4.mono HW3.out.size)
 obtain⟨s3,ao3,n3,cap3,e3,rfl⟩:=hN.shape
 obtain⟨w5,hw5⟩:∃ w5,w5=w4.alloc (.cells #[.bool s3,.slice ao3 n3 cap3,.int .i64 e3] 27):=⟨_,rfl⟩
 have hB45:Bw w4 w5:=by rw[hw5];exact(Below.refl _ _).alloc (Nat.le_refl _) _
 have HB5:Hid (Bw w w5):=HB4.out.trans (hB45.mono HB4.out.size)
 have kb:=HKBt.out w5 _ HB5.out ((hN.later hB45).mono HW3.out.size)
 clear ko hN hb4 hB45 a0 a1 a2 b0 b1 b2
 go_wp2_with fail
 rw[←hw5]
 clear hw5
 refine kb.mono ?_
 rintro r w6 ⟨rfl,hb6⟩
 have HB6:Hid (Bw w w6):=HB5.out.trans (hb6.mono HB5.out.size)
 clear kb hb6
 go_wp2
 go_ret
 exact⟨rfl,HB6.out⟩
end Go.Proofs.YtcdkkpjilgmncaaGreatDoor
namespace Go.Proofs.YtcdkkpjilgmncaaGreatDoor
open Go.RowKit Go.Fl64
open Ie
theorem bl_ge {x n:Nat}:n+1≤bl x↔2^n≤x:=by
 have:=bl_le x n
 omega
theorem bl_div {x n:Nat} (h:n<bl x):bl (x / 2^n)=bl x - n:=by
 have hx0:x≠0:=fun e=>by rw[e] at h;simp[bl] at h
 have h1:=lt_bl x
 have h2:=le_bl hx0
 have a:bl (x / 2^n)≤bl x - n:=(bl_le _ _).2 ((Nat.div_lt_iff_lt_mul (Nat.two_pow_pos n)).2 (by rw[←Nat.pow_add,show bl x - n+n=bl x by omega];exact h1))
 have b:bl x - n - 1+1≤bl (x / 2^n):=bl_ge.2 ((Nat.le_div_iff_mul_le (Nat.two_pow_pos n)).2 (by rw[←Nat.pow_add,show bl x - n - 1+n=bl x - 1 by omega];exact h2))
 omega
theorem bl_two {x:Nat} (h:x≠0):bl (2*x+1)=bl x+1:=by
 have h1:=lt_bl x
 have h2:=le_bl h
 have hb:=bl_ne h
 have a:bl (2*x+1)≤bl x+1:=(bl_le _ _).2 (by rw[Nat.pow_succ];omega)
 have b:bl x+1≤bl (2*x+1):=bl_ge.2 (by
  have:2^bl x=2*2^(bl x - 1):=by rw[←Nat.pow_succ'];congr 1;omega
  omega)
 omega
theorem two_div {x t:Nat} (h:1≤t):(2*x+1) / 2^t=x / 2^(t - 1):=by
 obtain⟨n,rfl⟩:∃ n,t=n+1:=⟨t - 1,by omega⟩
 rw[Nat.add_sub_cancel,Nat.pow_succ',←Nat.div_div_eq_div_mul,show(2*x+1) / 2=x by omega]
theorem tf_sticky {s:Bool} {x:Nat} {e m:Int} (h:64≤bl x):tfF s false x e m=tfF s true (2*x+1) (e - 1) m:=by
 have hx0:x≠0:=fun e=>by rw[e] at h;simp[bl] at h
 have hb:=bl_two hx0
 have hd:tfD (2*x+1)=tfD x+1:=by unfold tfD;omega
 unfold tfF
 have hM:tfM true (2*x+1)=tfM false x:=by
  unfold tfM
  rw[hd,two_div (by omega),Nat.add_sub_cancel,tz_odd (show(2*x+1) % 2=1 by omega),decide_eq_true (show 0<tfD x+1 by omega)]
  simp
 rw[hM,hd,show e - 1+((tfD x+1:Nat):Int)=e+(tfD x:Int) by omega]
theorem tf_cut {s:Bool} {Z n:Nat} {E m:Int} (h:64≤bl (Z / 2^n)) (hr:Z % 2^n≠0):tfF s true Z E m=tfF s false (Z / 2^n) (E+n) m:=by
 have hn:0<n:=by
  rcases Nat.eq_zero_or_pos n with h0|h0
  ·rw[h0,Nat.pow_zero,Nat.mod_one] at hr;omega
  ·exact h0
 have hlt:n<bl Z:=Nat.lt_of_not_le fun hle=>by
  have:Z / 2^n=0:=Nat.div_eq_of_lt ((bl_le _ _).1 hle)
  rw[this] at h;simp[bl] at h
 have hb:=bl_div hlt
 have hZ0:Z≠0:=fun e=>by rw[e] at hlt;simp[bl] at hlt
 have hd:tfD Z=tfD (Z / 2^n)+n:=by unfold tfD;omega
 have hst:tz Z<tfD Z:=by
  refine(tz_iff hZ0).2 fun e=>hr ?_
  have h1:2^n ∣ 2^tfD Z:=Nat.pow_dvd_pow 2 (by omega)
  exact Nat.mod_eq_zero_of_dvd (Nat.dvd_trans h1 (Nat.dvd_of_mod_eq_zero e))
 unfold tfF
 have hM:tfM true Z=tfM false (Z / 2^n):=by
  unfold tfM
  rw[decide_eq_true hst,hd,Nat.div_div_eq_div_mul,←Nat.pow_add,Nat.add_comm n]
  simp
 rw[hM,hd,show E+((tfD (Z / 2^n)+n:Nat):Int)=E+(n:Int)+(tfD (Z / 2^n):Int) by omega]
theorem bdy_shl {x n:Nat} {e:Int} {way:Nat} (hw:way=0∨way=1∨way=2):bdy (x*2^n) e way=bdy x (e+n) way:=by
 by_cases h0:x=0
 ·subst h0;rw[Nat.zero_mul];unfold bdy;rw[if_pos rfl,if_pos rfl]
 have h1:x*2^n≠0:=Nat.mul_ne_zero h0 (by have:=Nat.two_pow_pos n;omega)
 obtain⟨K,hK⟩:∃ K:Nat,K=1200+(64 - e).toNat+n:=⟨_,rfl⟩
 have a:=rwb_rounds (e:=e) h1 (K:=K) (by omega) (by omega) (way:=way)
 have b:=rwb_rounds (e:=e+n) h0 (K:=K) (by omega) (by omega) (way:=way)
 have hv:x*2^n*2^(e+(K:Int)).toNat=x*2^(e+(n:Int)+(K:Int)).toNat:=by
  rw[Nat.mul_assoc,←Nat.pow_add,show n+(e+(K:Int)).toNat=(e+(n:Int)+(K:Int)).toNat by omega]
 have h2:=Rounds.mono hw a b (Nat.le_of_eq hv)
 have h3:=Rounds.mono hw b a (Nat.le_of_eq hv.symm)
 have h4:rwb (x*2^n) e way=rwb x (e+n) way:=Nat.le_antisymm h2 h3
 unfold bdy
 rw[if_neg h0,if_neg h1,h4]
theorem tf_shl {s:Bool} {x n:Nat} {e m:Int} (hm:1≤m∧m≤3):tfF s true (x*2^n) e m=tfF s true x (e+n) m:=by
 rw[tf_bdy hm,tf_bdy hm,bdy_shl (wyN_ways s m)]
theorem tf_coarse {s xf xc:Bool} {Qf Qc D:Nat} {E m:Int} (hm:1≤m∧m≤3) (hq:Qc=Qf / 2^D) (hx:xc=(xf&&decide (Qf % 2^D=0))) (h:64≤bl Qc):tfF s xf Qf E m=tfF s xc Qc (E+D) m:=by
 subst hq
 cases xf
 ·rw[Bool.false_and] at hx
  subst hx
  have hle:bl (Qf / 2^D)≤bl Qf:=by
   have:=(bl_le (Qf / 2^D) (bl Qf)).2 (Nat.lt_of_le_of_lt (Nat.div_le_self _ _) (lt_bl Qf))
   exact this
  rw[tf_sticky (by omega)]
  have e1:(2*Qf+1) / 2^(D+1)=Qf / 2^D:=by rw[two_div (by omega),Nat.add_sub_cancel]
  have:=tf_cut (s:=s) (Z:=2*Qf+1) (n:=D+1) (E:=E - 1) (m:=m) (by rw[e1];exact h) (fun h0=>by
   have h1:2 ∣ 2^(D+1):=⟨2^D,by rw[Nat.pow_succ,Nat.mul_comm]⟩
   have:=Nat.dvd_trans h1 (Nat.dvd_of_mod_eq_zero h0)
   omega)
  rw[this,e1,show E - 1+((D+1:Nat):Int)=E+D by omega]
 ·rw[Bool.true_and] at hx
  subst hx
  by_cases h0:Qf % 2^D=0
  ·rw[decide_eq_true h0]
   have e1:Qf=Qf / 2^D*2^D:=by
    have:=Nat.div_add_mod Qf (2^D)
    rw[h0,Nat.add_zero,Nat.mul_comm] at this
    exact this.symm
   conv=>lhs;rw[e1]
   exact tf_shl hm
  ·rw[decide_eq_false h0]
   exact tf_cut h h0
theorem frac_fine {N y D:Nat} (hy:y≠0):N / y=N*2^D / y / 2^D∧decide (N % y=0)=(decide (N*2^D % y=0)&&decide (N*2^D / y % 2^D=0)):=by
 have hp:0<2^D:=Nat.two_pow_pos D
 refine⟨by rw[Nat.div_div_eq_div_mul,Nat.mul_div_mul_right _ _ hp],?_⟩
 by_cases h:N % y=0
 ·obtain⟨c,hc⟩:=Nat.dvd_of_mod_eq_zero h
  have e1:N*2^D=y*(c*2^D):=by rw[hc,Nat.mul_assoc]
  rw[decide_eq_true h,e1,Nat.mul_mod_right,Nat.mul_div_cancel_left _ (Nat.pos_of_ne_zero hy),Nat.mul_mod_left]
  rfl
 ·rw[decide_eq_false h]
  by_cases h1:N*2^D % y=0
  ·by_cases h2:N*2^D / y % 2^D=0
   ·exfalso
    obtain⟨c,hc⟩:=Nat.dvd_of_mod_eq_zero h1
    rw[hc,Nat.mul_div_cancel_left _ (Nat.pos_of_ne_zero hy)] at h2
    obtain⟨d,hd⟩:=Nat.dvd_of_mod_eq_zero h2
    have e1:N*2^D=y*d*2^D:=by rw[hc,hd,Nat.mul_assoc,Nat.mul_comm d]
    have e2:N=y*d:=Nat.eq_of_mul_eq_mul_right hp e1
    exact h (by rw[e2,Nat.mul_mod_right])
   ·rw[decide_eq_false h2,Bool.and_false]
  ·rw[decide_eq_false h1,Bool.false_and]
theorem frac_mul {x y k j:Nat} (hy:y≠0):x*2^(k+j) / (y*2^j)=x*2^k / y∧decide (x*2^(k+j) % (y*2^j)=0)=decide (x*2^k % y=0):=by
 have hp:0<2^j:=Nat.two_pow_pos j
 rw[Nat.pow_add,←Nat.mul_assoc]
 refine⟨Nat.mul_div_mul_right _ _ hp,?_⟩
 rw[Nat.mul_mod_mul_right]
 refine decide_eq_decide.2 ?_
 constructor
 ·intro h
  rcases Nat.mul_eq_zero.1 h with h|h
  ·exact h
  ·omega
 ·intro h;rw[h,Nat.zero_mul]
theorem ratio_eq {s:Bool} {x y k:Nat} {ea eb P m:Int} (hm:1≤m∧m≤3) (hy:y≠0) (h1:64≤bl (x*2^k / y)) (h2:64≤bl (ovX x ea eb P / ovY y ea eb P)) :
  tfF s (decide (x*2^k % y=0)) (x*2^k / y) (ea - eb - k) m=tfF s (decide (ovX x ea eb P % ovY y ea eb P=0)) (ovX x ea eb P / ovY y ea eb P) (-P) m:=by
 by_cases hc:(k:Int)≤ea - eb+P
 ·obtain⟨D,hD⟩:∃ D:Nat,ea - eb+P=(k:Int)+D:=⟨(ea - eb+P - k).toNat,by omega⟩
  have hX:ovX x ea eb P=x*2^k*2^D:=by unfold ovX;rw[Nat.mul_assoc,←Nat.pow_add,show(ea+P - min (ea+P) eb).toNat=k+D by omega]
  have hY:ovY y ea eb P=y:=by unfold ovY;rw[show(eb - min (ea+P) eb).toNat=0 by omega,Nat.pow_zero,Nat.mul_one]
  rw[hX,hY]
  have hf:=frac_fine (N:=x*2^k) (y:=y) (D:=D) hy
  have:=tf_coarse (s:=s) (E := -P) hm hf.1 hf.2 h1
  rw[this,show -P+(D:Int)=ea - eb - k by omega]
 ·by_cases hn:0≤ea - eb+P
  ·obtain⟨n0,hn0⟩:∃ n0:Nat,ea - eb+P=(n0:Int):=⟨(ea - eb+P).toNat,by omega⟩
   obtain⟨D,hD⟩:∃ D:Nat,k=n0+D:=⟨k - n0,by omega⟩
   have hX:ovX x ea eb P=x*2^n0:=by unfold ovX;rw[show(ea+P - min (ea+P) eb).toNat=n0 by omega]
   have hY:ovY y ea eb P=y:=by unfold ovY;rw[show(eb - min (ea+P) eb).toNat=0 by omega,Nat.pow_zero,Nat.mul_one]
   rw[hX,hY] at h2 ⊢
   have hN:x*2^k=x*2^n0*2^D:=by rw[hD,Nat.pow_add,Nat.mul_assoc]
   rw[hN] at h1 ⊢
   have hf:=frac_fine (N:=x*2^n0) (y:=y) (D:=D) hy
   have:=tf_coarse (s:=s) (E:=ea - eb - k) hm hf.1 hf.2 h2
   rw[this,show ea - eb - (k:Int)+(D:Int) = -P by omega]
  ·obtain⟨j,hj⟩:∃ j:Nat,ea - eb+P = -(j:Int):=⟨(-(ea - eb+P)).toNat,by omega⟩
   have hX:ovX x ea eb P=x:=by unfold ovX;rw[show(ea+P - min (ea+P) eb).toNat=0 by omega,Nat.pow_zero,Nat.mul_one]
   have hY:ovY y ea eb P=y*2^j:=by unfold ovY;rw[show(eb - min (ea+P) eb).toNat=j by omega]
   rw[hX,hY] at h2 ⊢
   have hyj:y*2^j≠0:=Nat.mul_ne_zero hy (by have:=Nat.two_pow_pos j;omega)
   have hf:=frac_fine (N:=x) (y:=y*2^j) (D:=k+j) hyj
   have hg:=frac_mul (x:=x) (y:=y) (k:=k) (j:=j) hy
   rw[hg.1,hg.2] at hf
   have:=tf_coarse (s:=s) (E:=ea - eb - k) hm hf.1 hf.2 h2
   rw[this,show ea - eb - (k:Int)+((k+j:Nat):Int) = -P by omega]
theorem tf_big {s xe:Bool} {x y:Nat} {e f m:Int} (hm:1≤m∧m≤3) (hx:64≤bl x∨(xe=true∧x≠0)) (hy:y≠0) (h1:1024<(bl x:Int)+e) (h2:1024<(bl y:Int)+f):tfF s xe x e m=tfF s true y f m:=by
 have key:∀ z (g:Int),z≠0→1024<(bl z:Int)+g→tfF s true z g m=sig s (if wyN s m=0 then 9218868437227405311 else 9218868437227405312):=fun z g hz hg=>by rw[tf_bdy hm,bdy_big hz hg (wyN_ways s m)]
 rw[key y f hy h2]
 cases xe
 ·have hb:64≤bl x:=hx.resolve_right (fun h=>by cases h.1)
  have hx0:x≠0:=fun e=>by rw[e] at hb;simp[bl] at hb
  rw[tf_sticky hb]
  exact key _ _ (by omega) (by rw[bl_two hx0];omega)
 ·rcases hx with hb|⟨-,hx0⟩
  ·exact key x e (fun e=>by rw[e] at hb;simp[bl] at hb) h1
  ·exact key x e hx0 h1
theorem tf_tiny {s xe:Bool} {x y:Nat} {e f m:Int} (hm:1≤m∧m≤3) (hx:64≤bl x∨(xe=true∧x≠0)) (hy:y≠0) (h1:(bl x:Int)+e < -1075) (h2:(bl y:Int)+f < -1075):tfF s xe x e m=tfF s true y f m:=by
 have key:∀ z (g:Int),z≠0→(bl z:Int)+g < -1075→tfF s true z g m=sig s (if wyN s m=2 then 1 else 0):=fun z g hz hg=>by rw[tf_bdy hm,bdy_tiny hz hg (wyN_ways s m)]
 rw[key y f hy h2]
 cases xe
 ·have hb:64≤bl x:=hx.resolve_right (fun h=>by cases h.1)
  have hx0:x≠0:=fun e=>by rw[e] at hb;simp[bl] at hb
  rw[tf_sticky hb]
  exact key _ _ (by omega) (by rw[bl_two hx0];omega)
 ·rcases hx with hb|⟨-,hx0⟩
  ·exact key x e (fun e=>by rw[e] at hb;simp[bl] at hb) h1
  ·exact key x e hx0 h1
theorem rto_nc {W:World} {base:Nat} {A:Value} {s:Bool} {z:Nat} {e m:Int} (h:NC W base A s z e) (hz:z≠0) (hl:dlen z≤30000) (he1 : -2000000≤e) (he2:e≤2000000) (hm:1≤m∧m≤3) :
  Calls Tryz.prog 64 #[A,.int .i64 m] W fun r w'=>r=.returned (.float .f64 (tfF s true z e m))∧Bw W w':=by
 obtain⟨ao,cap,rfl,hA,-⟩:=h
 have hc:cn s z e=(s,z / 2^tz z,e+tz z):=by unfold cn;rw[if_neg hz]
 rw[hc] at hA ⊢
 simp only at hA ⊢
 have hs:=tz_spec z z (Nat.le_refl _) hz
 have htz:tz z<bl z:=by
  have h3:2^tz z≤z:=by
   have h4:0<z / 2^tz z:=Nat.pos_of_ne_zero fun e=>by have:=hs.2;rw[e] at this;omega
   exact Nat.le_trans (Nat.le_mul_of_pos_right _ h4) (Nat.le_of_eq hs.1)
  exact(Nat.pow_lt_pow_iff_right (by omega)).1 (Nat.lt_of_le_of_lt h3 (lt_bl z))
 have hbl:=bl_le_dlen z
 have hdl:dlen (z / 2^tz z)≤dlen z:=dlen_mono (Nat.div_le_self _ _)
 have:=rto (neg:=s) (ea:=e+tz z) (m:=m) hA.at_ hA.le hs.2 (by omega) (by omega) (by omega) hm
 rw[←tf_bdy hm] at this
 have e1:tfF s true (z / 2^tz z) (e+tz z) m=tfF s true z e m:=by
  rw[←tf_shl (x:=z / 2^tz z) (n:=tz z) (e:=e) hm,Nat.mul_comm,hs.1]
 rw[e1] at this
 exact this
theorem half_sum {s:Bool} {z:Nat} {P:Int} (hz:s=true→z≠0):sumN (cn s z (-P)).1 (cn s z (-P)).2.1 (cn s z (-P)).2.2 false 1 (-(P+1))=(if z=0 then false else s,if s then 2*z - 1 else 2*z+1,-(P+1)):=by
 by_cases h0:z=0
 ·have hs:s=false:=by cases s with
   | false=>rfl
   | true=>exact absurd h0 (hz rfl)
  subst hs;subst h0
  unfold cn;rw[if_pos rfl];unfold sumN;rw[if_pos rfl];simp
 ·have h2:=tz_spec z z (Nat.le_refl _) h0
  have e1:cn s z (-P)=(s,z / 2^tz z,-P+tz z):=by unfold cn;rw[if_neg h0]
  have h3:z / 2^tz z≠0:=fun e=>by have:=h2.2;rw[e] at this;omega
  have hz2:z / 2^tz z*2^(tz z+1)=2*z:=by rw[Nat.pow_succ,←Nat.mul_assoc,Nat.mul_comm (z / 2^tz z),h2.1,Nat.mul_comm]
  rw[e1]
  unfold sumN
  simp only
  rw[if_neg h3,if_neg (by omega),show min (-P+(tz z:Int)) (-(P+1)) = -(P+1) by omega,show(-P+(tz z:Int) - -(P+1)).toNat=tz z+1 by omega,show(-(P+1) - -(P+1)).toNat=0 by omega,Nat.pow_zero,Nat.mul_one,hz2,if_neg h0]
  cases s
  ·rw[if_pos rfl,if_neg (by decide)]
  ·rw[if_neg (by decide),if_neg (by omega),if_pos rfl]
theorem rbetween {W:World} {base:Nat} {A:Value} {s:Bool} {q:Nat} {P m:Int} {bx:Bool} (h:NC W base A s (if s && !bx then q+1 else q) (-P)) (hq:bx=true→q≠0) (hl:dlen q≤20000) (hP1 : -100000≤P) (hP2:P≤100000) (hm:1≤m∧m≤3) :
  Calls Tryz.prog 66 #[A,.bool bx,.int .i64 P,.int .i64 m] W fun r w'=>r=.returned (.float .f64 (if bx then tfF s true q (-P) m else tfF s true (2*q+1) (-(P+1)) m))∧Bw W w':=by
 obtain⟨s0,ao0,n0,cap0,e0,rfl⟩:=h.shape
 cases bx
 ·rw[Bool.not_false,Bool.and_true] at h
  rw[if_neg (by decide)]
  have hzl:dlen (if s then q+1 else q)≤20001:=by
   split
   ·exact Nat.le_trans (dlen_succ_le _) (by omega)
   ·omega
  refine rbet_r s0 ao0 n0 cap0 _ e0 P m s (2*q+1) (-(P+1)) W (by omega) (by omega) (fun g W' hW' hA1=>?_) (fun W' A' hW' hN=>?_)
  ·obtain⟨ao,cap,e1,hA,-⟩:=h.later hW'
   rw[e1]
   obtain⟨z,hz⟩:∃ z,z=if s then q+1 else q:=⟨_,rfl⟩
   rw[←hz] at hA hzl ⊢
   have hcn:cn (cn s z (-P)).1 (cn s z (-P)).2.1 (cn s z (-P)).2.2=(cn s z (-P)):=by
    by_cases h0:z=0
    ·unfold cn;rw[if_pos h0,if_pos rfl]
    ·have h2:=(tz_spec z z (Nat.le_refl _) h0).2
     have:cn s z (-P)=(s,z / 2^tz z,-P+tz z):=by unfold cn;rw[if_neg h0]
     rw[this]
     exact cn_odd h2
   have hbnd : -2000000≤(cn s z (-P)).2.2∧(cn s z (-P)).2.2≤2000000:=by
    by_cases h0:z=0
    ·unfold cn;rw[if_pos h0];exact⟨by decide,by decide⟩
    ·have hs:=tz_spec z z (Nat.le_refl _) h0
     have htz:tz z<bl z:=by
      have h3:2^tz z≤z:=Nat.le_trans (Nat.le_mul_of_pos_right _ (Nat.pos_of_ne_zero fun e=>by have:=hs.2;rw[e] at this;omega)) (Nat.le_of_eq hs.1)
      exact(Nat.pow_lt_pow_iff_right (by omega)).1 (Nat.lt_of_le_of_lt h3 (lt_bl z))
     have hbl:=bl_le_dlen z
     unfold cn;rw[if_neg h0];exact⟨by simp only;omega,by simp only;omega⟩
   have hone:Arg W' (some ⟨g,0,none⟩) (dlen 1) 1 1:=⟨fun h=>by rw[dlen_one] at h;omega,by rw[dlen_one];exact hA1,by rw[dlen_one];exact Nat.le_refl _,by rw[dlen_one];omega⟩
   have:=rplusG (na:=(cn s z (-P)).1) (nb:=false) (ea:=(cn s z (-P)).2.2) (eb := -(P+1)) hA hone hcn (cn_odd rfl) hbnd.1 hbnd.2 (by omega) (by omega) (Nat.le_trans cn_dlen (by omega)) (by rw[dlen_one];omega)
   have hzs:s=true→z≠0:=fun e=>by rw[hz,e,if_pos rfl];omega
   rw[half_sum hzs,dlen_one] at this
   refine this.mono ?_
   rintro r w' ⟨a,rfl,hN,hb⟩
   refine⟨a,rfl,?_,hb⟩
   have e2:(if s then 2*z - 1 else 2*z+1)=2*q+1:=by
    rw[hz];cases s
    ·rw[if_neg (by decide),if_neg (by decide)]
    ·rw[if_pos rfl,if_pos rfl];omega
   rw[e2] at hN
   by_cases h0:z=0
   ·rw[if_pos h0] at hN
    have hs:s=false:=by cases s with
     | false=>rfl
     | true=>exact absurd h0 (hzs rfl)
    rw[hs];exact hN
   ·rw[if_neg h0] at hN;exact hN
  ·refine rto_nc hN (by omega) ?_ (by omega) (by omega) hm
   have h1:=dlen_add_le q q
   have h2:=dlen_succ_le (q+q)
   rw[show 2*q+1=q+q+1 by omega]
   omega
 ·rw[Bool.not_true,Bool.and_false,if_neg (by decide)] at h
  rw[if_pos rfl]
  exact rbet_e s0 ao0 n0 cap0 _ e0 P m W (fun W' hW'=>rto_nc (h.later hW') (hq rfl) (by omega) (by omega) (by omega) hm)
end Go.Proofs.YtcdkkpjilgmncaaGreatDoor
namespace Go.Proofs.YtcdkkpjilgmncaaGreatDoor
open Go.RowKit Go.Fl64
theorem tF_fits (a:Nat):Fits (-1074) 1025 (tF a).2.1 (tF a).2.2:=by
 refine Fits.cn (.inr ⟨(Ie.lp_bound a).1,by have:=(Ie.lp_bound a).2;omega,?_⟩)
 have h:=Ie.mant_bound a
 have h2:=(Ie.lp_bound a).2
 have:2^53≤2^(1025 - Ie.lp a).toNat:=Nat.pow_le_pow_right (by decide) (by omega)
 omega
theorem tF_ok (a:Nat):Ok (tF a):=by
 refine ok_cn (Fits.ok (lo := -1074) (hi:=1025) (.inr ⟨(Ie.lp_bound a).1,by have:=(Ie.lp_bound a).2;omega,?_⟩) (by omega) (by omega) (by omega))
 have h:=Ie.mant_bound a
 have h2:=(Ie.lp_bound a).2
 have:2^53≤2^(1025 - Ie.lp a).toNat:=Nat.pow_le_pow_right (by decide) (by omega)
 omega
theorem cn_parts (a m:Nat) (ha:a<18446744073709551616) (hf:mag a<9218868437227405312) (hm:Ie.sM a=(m:Int)):cn (neg a) m (Ie.sE a)=tF a:=by
 unfold tF cn
 rcases of_parts a m ha hf hm with ⟨h1,h2⟩|⟨h1,h2,-,h3,h4⟩
 ·rw[if_pos h1,if_pos h2]
 ·rw[if_neg h1,if_neg h2,h3,h4]
theorem exact_ok (a:Nat) (ha:a<18446744073709551616) (hf:mag a<9218868437227405312) (w:World) (hT:Tab32 w) (hI:Ie.Tab w):Calls Tryz.prog 120 #[.float .f64 a] w fun r w'=>OutA w (tF a) r w':=by
 obtain⟨m,hm,hml⟩:=sM_lt a ha
 refine exact_1 a (tF a) w fun W hW=>(of_fin a m ha W (hT.later hW) (Tab.later hI hW) hf hm).mono ?_
 rintro r w' ⟨A,rfl,hN,hb⟩
 have hp:=hN.pn
 rw[cn_parts a m ha hf hm] at hp
 obtain⟨s,ao,n,cap,e,rfl⟩:=hp.shape
 exact⟨s,ao,n,cap,e,rfl,hp,hb⟩
def tS (t1 t2:Bool×Nat×Int):Bool×Nat×Int:=cn (sumN t1.1 t1.2.1 t1.2.2 t2.1 t2.2.1 t2.2.2).1 (sumN t1.1 t1.2.1 t1.2.2 t2.1 t2.2.1 t2.2.2).2.1 (sumN t1.1 t1.2.1 t1.2.2 t2.1 t2.2.1 t2.2.2).2.2
theorem tS_fits {lo hi:Int} {t1 t2:Bool×Nat×Int} (h1:Fits lo hi t1.2.1 t1.2.2) (h2:Fits lo hi t2.2.1 t2.2.2):Fits lo (hi+1) (tS t1 t2).2.1 (tS t1 t2).2.2:=Fits.cn (Fits.sum h1 h2)
theorem tS_okR {lo hi:Int} {t1 t2:Bool×Nat×Int} (h1:Fits lo hi t1.2.1 t1.2.2) (h2:Fits lo hi t2.2.1 t2.2.2) (hb:hi+1 - lo≤65536) (hlo : -65536≤lo) (hhi:hi+1≤65536):okR (sumN t1.1 t1.2.1 t1.2.2 t2.1 t2.2.1 t2.2.2).1 (sumN t1.1 t1.2.1 t1.2.2 t2.1 t2.2.1 t2.2.2).2.1 (sumN t1.1 t1.2.1 t1.2.2 t2.1 t2.2.1 t2.2.2).2.2=true:=(Fits.sum h1 h2).ok hb hlo hhi
theorem psign {t:Bool×Nat×Int} {A:Value} {w:World} (ok:Ok t) (h:PN w A t):Calls Tryz.prog 143 #[A] w fun r w'=>r=.returned (.int .i64 (sgI t.1 (dlen t.2.1)))∧Bw w w':=by
 obtain⟨ao,cap,rfl,h1⟩:=h
 obtain⟨f1,-,-,-,-⟩:=ok.facts
 exact sign_ok h1 (by omega) ok
theorem sgI_nought {s:Bool} {x:Nat}:(sgI s (dlen x)==0)=decide (x=0):=by
 unfold sgI
 by_cases h:x=0
 ·rw[if_pos (dlen_eq_zero.2 h),decide_eq_true h];rfl
 ·rw[if_neg (fun e=>h (dlen_eq_zero.1 e)),decide_eq_false h];cases s <;> rfl
theorem sig_lt {s:Bool} {n:Nat} (h:n≤9218868437227405312):sig s n<18446744073709551616:=by
 unfold sig;cases s <;> simp <;> omega
theorem tfF_lt {s:Bool} {x:Nat} {e m:Int} (hm:1≤m∧m≤3):tfF s true x e m<18446744073709551616:=by
 rw[tf_bdy hm];exact sig_lt (bdy_le _ _ _)
theorem fin_false {a:Nat}:fin a=false↔¬ mag a<9218868437227405312:=by unfold fin;simp
theorem addX_lt {a b:Nat} (ha:a<18446744073709551616) (hb:b<18446744073709551616):addX a b<18446744073709551616:=by
 unfold addX
 repeat' split
 all_goals first|exact ha|exact hb|decide
def OutF2 (W:World) (X:Nat) (r:Ending) (w':World):Prop:=∃ n,r=.returned (.float .f64 n)∧lk n X∧Bw W w'
theorem psub_1 (a b X:Nat) (m:Int) (w:World) (hb:b<18446744073709551616) (k:Calls Tryz.prog 122 #[.float .f64 a,.float .f64 (ngt b),.int .i64 m] w fun r w'=>OutF2 w X r w') :
  Calls Tryz.prog 75 #[.float .f64 a,.float .f64 b,.int .i64 m] w fun r w'=>OutF2 w X r w':=by
 have hn:∀ w,(Op.unary UnOp.neg (.float .f64 b)).run Tryz.prog w=.ok (.float .f64 (ngt b)) w:=fun w=>by rw[←negF b hb];rfl
 go_enter Tryz.func75,Tryz.ntmps75
 go_wp2_with fail
 refine k.mono ?_
 rintro r w1 ⟨n,rfl,h1,h2⟩
 have HB:Hid (lk n X∧Bw w w1):=⟨h1,h2⟩
 clear k h1 h2
 go_wp2_with fail
 go_ret
 exact⟨_,rfl,HB.out.1,HB.out.2⟩
end Go.Proofs.YtcdkkpjilgmncaaGreatDoor
namespace Go.Proofs.YtcdkkpjilgmncaaGreatDoor
open Go Go.RowKit
end Go.Proofs.YtcdkkpjilgmncaaGreatDoor
namespace Go.Proofs.YtcdkkpjilgmncaaGreatDoor
open Go.RowKit Go.Fl64
end Go.Proofs.YtcdkkpjilgmncaaGreatDoor
namespace Go.Proofs.YtcdkkpjilgmncaaGreatDoor
open Go Go.RowKit Go.Fl64 Go.Shelf
attribute [local go_sem] Oper.semAt_some
attribute [local go_sem] Oper.semAt_some
end Go.Proofs.YtcdkkpjilgmncaaGreatDoor
namespace Go.Proofs.YtcdkkpjilgmncaaGreatDoor
open Go.RowKit Go.Fl64
theorem lk_or {n X:Nat} (h:lk n X):n=X∨(isNaN n=true∧isNaN X=true):=by
 cases hn:isNaN X
 ·exact .inl (h.eq hn)
 ·cases h2:isNaN n
  ·have:=h.2
   unfold same at this
   rw[hn,h2] at this
   have e:n=X:=by simp at this;omega
   rw[e,hn] at h2
   cases h2
  ·exact .inr ⟨rfl,rfl⟩
def rtK (t1 t2:Bool×Nat×Int):Nat:=(max 0 (64+(bl t2.2.1:Int) - (bl t1.2.1:Int))).toNat
def rtF (t1 t2:Bool×Nat×Int) (m:Int):Nat:=tfF (t1.1 != t2.1) (decide (t1.2.1*2^rtK t1 t2 % t2.2.1=0)) (t1.2.1*2^rtK t1 t2 / t2.2.1) (t1.2.2 - t2.2.2 - rtK t1 t2) m
theorem pratio {t1 t2:Bool×Nat×Int} {X Y:Value} {m:Int} {w:World} (hT:Tab32 w) (o1:Ok t1) (o2:Ok t2) (h1:PN w X t1) (h2:PN w Y t2) (x0:t1.2.1≠0) (y0:t2.2.1≠0) (hm:1≤m∧m≤3) :
  Calls Tryz.prog 21 #[X,Y,.int .i64 m] w fun r w'=>r=.returned (.tuple #[.float .f64 (rtF t1 t2 m),.int .i64 0])∧Bw w w':=by
 obtain⟨pa,pc,rfl,i1⟩:=h1
 obtain⟨qa,qc,rfl,i2⟩:=h2
 have f1:=o1.facts
 have f2:=o2.facts
 have bx:=bl_le_dlen t1.2.1
 have by':=bl_le_dlen t2.2.1
 have hn0:((dlen t1.2.1:Int)==0)=false:=by
  have:dlen t1.2.1≠0:=fun e=>x0 (dlen_eq_zero.1 e)
  simp;omega
 have hn1:((dlen t2.2.1:Int)==0)=false:=by
  have:dlen t2.2.1≠0:=fun e=>y0 (dlen_eq_zero.1 e)
  simp;omega
 have hk:max 0 (64+(bl t2.2.1:Int) - (bl t1.2.1:Int))=(rtK t1 t2:Int):=by unfold rtK;omega
 refine pratio_1 t1.1 t2.1 pa qa _ pc _ qc _ _ (rtK t1 t2) (bl t1.2.1) (bl t2.2.1) t1.2.2 t2.2.2 m (t1.1 != t2.1) w (rfl:(!(t1.1==t2.1))=(t1.1 != t2.1)) hT i1 i2 (by omega) (by omega) y0 (by omega) (by omega) (by omega) (by omega) (by omega) rfl rfl (by omega) (by omega) hk (by omega) hn0 hn1 (fun W' g hW' hg=>?_)
 have:=maybe2 hg (i1.later hW') (i2.later hW') (by omega) (by omega)
 rw[show okN t1.1 (dlen t1.2.1) t1.2.1 t1.2.2=true from o1,show okN t2.1 (dlen t2.2.1) t2.2.1 t2.2.2=true from o2] at this
 exact this
theorem ne_nought {a:Nat} (ha:a<18446744073709551616) (hf:mag a<9218868437227405312):(FloatKind.f64.format.order a 0 != some Ordering.eq)=decide (mag a≠0):=by
 rw[bne,ord_eq a 0 ha (by decide)]
 have na:isNaN a=false:=by unfold isNaN;simp;omega
 have nb:isNaN 0=false:=by decide
 unfold Fl64.eq
 rw[na,nb]
 have e0:stp 0=0:=by decide
 rw[e0]
 by_cases h:mag a=0
 ·have:stp a=0:=by unfold stp sgn;rw[h];simp
  simp[this,h]
 ·have:stp a≠0:=by unfold stp sgn;split <;> omega
  simp[this,h]
theorem pplain_y (a:Nat) (ha:a<18446744073709551616) (hf:mag a<9218868437227405312) (h0:mag a≠0) (w:World):Calls Tryz.prog 117 #[.float .f64 a] w fun r w'=>r=.returned (.bool true)∧w'=w:=by
 have k:=pfin_y a ha hf
 have he:=ne_nought ha hf
 rw[decide_eq_true h0] at he
 clear ha hf h0
 go_enter Tryz.func117,Tryz.ntmps117
 go_wp2_with (go_at_call 139;refine(k _).mono ?_;rintro e w' ⟨rfl,rfl⟩)
 go_ret
 exact⟨rfl,rfl⟩
theorem pplain_z (a:Nat) (ha:a<18446744073709551616) (h0:mag a=0) (w:World):Calls Tryz.prog 117 #[.float .f64 a] w fun r w'=>r=.returned (.bool false)∧w'=w:=by
 have k:=pfin_y a ha (by omega)
 have he:=ne_nought ha (by omega)
 rw[decide_eq_false (by omega)] at he
 clear ha h0
 go_enter Tryz.func117,Tryz.ntmps117
 go_wp2_with (go_at_call 139;refine(k _).mono ?_;rintro e w' ⟨rfl,rfl⟩)
 go_ret
 exact⟨rfl,rfl⟩
theorem pplain_n (a:Nat) (ha:a<18446744073709551616) (hf:¬ mag a<9218868437227405312) (w:World):Calls Tryz.prog 117 #[.float .f64 a] w fun r w'=>r=.returned (.bool false)∧w'=w.drew:=by
 have k:=pfin_n a ha hf w
 clear ha hf
 go_enter Tryz.func117,Tryz.ntmps117
 go_wp2_with fail
 refine k.mono ?_
 rintro e w' ⟨rfl,hw⟩
 rw[hw]
 clear hw k w'
 go_wp2
 go_ret
 exact⟨rfl,rfl⟩
theorem pdiv_r (a b F:Nat) (m:Int) (ta tb:Bool×Nat×Int) (w:World) (hm:isM m=true)
  (hfa:∀ W,Calls Tryz.prog 117 #[.float .f64 a] W fun r w'=>r=.returned (.bool true)∧w'=W)
  (hfb:∀ W,Calls Tryz.prog 117 #[.float .f64 b] W fun r w'=>r=.returned (.bool true)∧w'=W)
  (kA:Calls Tryz.prog 120 #[.float .f64 a] w fun r w'=>OutA w ta r w')
  (kB:∀ W,Bw w W→Calls Tryz.prog 120 #[.float .f64 b] W fun r w'=>OutA W tb r w')
  (kC:∀ W X Y,Bw w W→PN W X ta→PN W Y tb→Calls Tryz.prog 21 #[X,Y,.int .i64 m] W fun r w'=>r=.returned (.tuple #[.float .f64 F,.int .i64 0])∧Bw W w') :
  Calls Tryz.prog 73 #[.float .f64 a,.float .f64 b,.int .i64 m] w fun r w'=>r=.returned (.float .f64 F)∧Bw w w':=by
 have kV:=pvalid m w
 rw[hm] at kV
 have HKB:Hid _:=kB
 have HKC:Hid _:=kC
 clear kB kC
 go_enter Tryz.func73,Tryz.ntmps73
 go_wp2_with fail
 refine kV.mono ?_
 rintro r w' ⟨rfl,hw⟩
 rw[hw]
 clear hw kV
 have kN:=hfa w
 go_wp2_with fail
 refine kN.mono ?_
 rintro r w' ⟨rfl,hw⟩
 rw[hw]
 clear hw kN hfa
 have kN:=hfb w
 go_wp2_with fail
 refine kN.mono ?_
 rintro r w' ⟨rfl,hw⟩
 rw[hw]
 clear hw kN hfb
 go_wp2_with fail
 refine kA.mono ?_
 rintro r w1 ⟨s1,ao1,n1,cap1,ex1,rfl,hP1,hb1⟩
 have k2:=HKB.out w1 hb1
 clear kA
 go_wp2_with fail
 refine k2.mono ?_
 rintro r w2 ⟨s2,ao2,n2,cap2,ex2,rfl,hP2,hb2⟩
 have HB2:Hid (Bw w w2):=hb1.trans (hb2.mono hb1.size)
 have k3:=HKC.out w2 _ _ HB2.out (hP1.later hb2) hP2
 clear k2 hP1 hP2 hb1 hb2
 go_wp2_with fail
 refine k3.mono ?_
 rintro r w3 ⟨rfl,hb3⟩
 have HB3:Hid (Bw w w3):=HB2.out.trans (hb3.mono HB2.out.size)
 clear k3 hb3
 go_wp2_with fail
 go_ret
 exact⟨rfl,HB3.out⟩
theorem pdiv_ok (a b:Nat) (m:Int) (w:World) (hm:isM m=true) (hT:Tab32 w) (hI:Ie.Tab w) (ha:a<18446744073709551616) (hb:b<18446744073709551616) (hfa:mag a<9218868437227405312) (hfb:mag b<9218868437227405312) (ha0:mag a≠0) (hb0:mag b≠0) (xa:(tF a).2.1≠0) (xb:(tF b).2.1≠0) :
  Calls Tryz.prog 73 #[.float .f64 a,.float .f64 b,.int .i64 m] w fun r w'=>r=.returned (.float .f64 (rtF (tF a) (tF b) m))∧Bw w w' :=
 pdiv_r a b _ m (tF a) (tF b) w hm (pplain_y a ha hfa ha0) (pplain_y b hb hfb hb0) (exact_ok a ha hfa w hT hI) (fun W h=>exact_ok b hb hfb W (hT.later h) (Tab.later hI h)) (fun W X Y h h1 h2=>pratio (hT.later h) (tF_ok a) (tF_ok b) h1 h2 xa xb (isM_iff.1 hm))
theorem tF_ne {a:Nat} (h:mag a≠0):(tF a).2.1≠0:=by
 have h1:=Ie.mant_ne h
 unfold tF cn
 rw[if_neg h1]
 intro e
 have:=(tz_spec _ _ (Nat.le_refl _) h1).2
 simp only at e
 rw[e] at this
 simp at this
def tM (t1 t2:Bool×Nat×Int):Bool×Nat×Int:=cn (!(t1.1==t2.1)) (t1.2.1*t2.2.1) (t1.2.2+t2.2.2)
theorem tM_ok {t1 t2:Bool×Nat×Int} (h:okR (!(t1.1==t2.1)) (t1.2.1*t2.2.1) (t1.2.2+t2.2.2)=true):Ok (tM t1 t2):=ok_cn h
def Rn (op:BinOp) (a b F:Nat):Prop:=(∀ W,(binOp op 22 (.float .f64 a) (.float .f64 b)).run Tryz.prog W=.ok (.float .f64 F) W)∨∀ W,∃ n,lk n F∧(binOp op 22 (.float .f64 a) (.float .f64 b)).run Tryz.prog W=.ok (.float .f64 n) W.drew
theorem rn_of {op:BinOp} {a b F:Nat} (hop:op=.add∨op=.sub∨op=.mul∨op=.quo) (h:(floatBits op .f64 a b=none∧isNaN F=true)∨floatBits op .f64 a b=some F):Rn op a b F:=by
 rcases h with ⟨h1,h2⟩|h1
 ·refine .inr fun W=>?_
  obtain⟨n,n1,n2,hs⟩:=run_nan (P:=Tryz.prog) W op 22 a b hop h1
  exact⟨n,lk.nan n1 n2 h2,hs⟩
 ·exact .inl fun W=>run_float_arith W op 22 .f64 a b _ h1
theorem pplain_f (a:Nat) (ha:a<18446744073709551616) (h:pln a=false) (w:World):Calls Tryz.prog 117 #[.float .f64 a] w fun r w'=>r=.returned (.bool false)∧Bw w w':=by
 rcases pln_false.1 h with h|h
 ·exact(pplain_n a ha h w).mono fun r w' ⟨e,hw⟩=>⟨e,hw ▸ (Below.refl _ _).drew⟩
 ·exact(pplain_z a ha h w).mono fun r w' ⟨e,hw⟩=>⟨e,hw ▸ Below.refl _ _⟩
theorem pplain_t (a:Nat) (ha:a<18446744073709551616) (h:pln a=true) (w:World):Calls Tryz.prog 117 #[.float .f64 a] w fun r w'=>r=.returned (.bool true)∧w'=w:=pplain_y a ha (pln_true.1 h).1 (pln_true.1 h).2 w
theorem pmul_no (a b:Nat) (m:Int) (w:World) (hm:isM m=false):Calls Tryz.prog 71 #[.float .f64 a,.float .f64 b,.int .i64 m] w fun r w'=>r=.returned (.float .f64 9221120237041090561)∧Bw w w':=by
 have kV:=pvalid m w
 rw[hm] at kV
 go_enter Tryz.func71,Tryz.ntmps71
 go_wp2_with fail
 refine kV.mono ?_
 rintro r w' ⟨rfl,hw⟩
 rw[hw]
 clear hw kV w'
 have kN:=Ie.c52 w
 go_wp2_with fail
 refine kN.mono ?_
 rintro r w' ⟨rfl,hw⟩
 rw[hw]
 clear hw kN w'
 go_wp2_with fail
 go_ret
 exact⟨rfl,Below.refl _ _⟩
theorem pmul_na (a b F:Nat) (m:Int) (w:World) (hm:isM m=true) (hfa:∀ W,Calls Tryz.prog 117 #[.float .f64 a] W fun r w'=>r=.returned (.bool false)∧Bw W w') (h:Rn .mul a b F) (hF:F<18446744073709551616) :
  Calls Tryz.prog 71 #[.float .f64 a,.float .f64 b,.int .i64 m] w fun r w'=>OutF2 w F r w':=by
 have kV:=pvalid m w
 rw[hm] at kV
 have HF:Hid (F<18446744073709551616∧Rn .mul a b F):=⟨hF,h⟩
 clear hF h
 go_enter Tryz.func71,Tryz.ntmps71
 go_wp2_with fail
 refine kV.mono ?_
 rintro r w' ⟨rfl,hw⟩
 rw[hw]
 clear hw kV w'
 have kN:=hfa w
 go_wp2_with fail
 refine kN.mono ?_
 rintro r w1 ⟨rfl,hb1⟩
 have HB:Hid (Bw w w1∧Bw w w1.drew):=⟨hb1,hb1.drew⟩
 clear hb1 kN hfa
 rcases HF.out.2 with h|h
 ·have hr:=h w1
  clear h
  go_wp2_with fail
  go_ret
  exact⟨_,rfl,lk.refl HF.out.1,HB.out.1⟩
 ·obtain⟨n,hn,hr⟩:=h w1
  have HN:Hid (lk n F):=hn
  clear hn h
  go_wp2_with fail
  go_ret
  exact⟨_,rfl,HN.out,HB.out.2⟩
theorem pmul_nb (a b F:Nat) (m:Int) (w:World) (hm:isM m=true) (hfa:∀ W,Calls Tryz.prog 117 #[.float .f64 a] W fun r w'=>r=.returned (.bool true)∧w'=W) (hfb:∀ W,Calls Tryz.prog 117 #[.float .f64 b] W fun r w'=>r=.returned (.bool false)∧Bw W w') (h:Rn .mul a b F) (hF:F<18446744073709551616) :
  Calls Tryz.prog 71 #[.float .f64 a,.float .f64 b,.int .i64 m] w fun r w'=>OutF2 w F r w':=by
 have kV:=pvalid m w
 rw[hm] at kV
 have HF:Hid (F<18446744073709551616∧Rn .mul a b F):=⟨hF,h⟩
 clear hF h
 go_enter Tryz.func71,Tryz.ntmps71
 go_wp2_with fail
 refine kV.mono ?_
 rintro r w' ⟨rfl,hw⟩
 rw[hw]
 clear hw kV w'
 have kN:=hfa w
 go_wp2_with fail
 refine kN.mono ?_
 rintro r w' ⟨rfl,hw⟩
 rw[hw]
 clear hw kN hfa w'
 have kN:=hfb w
 go_wp2_with fail
 refine kN.mono ?_
 rintro r w1 ⟨rfl,hb1⟩
 have HB:Hid (Bw w w1∧Bw w w1.drew):=⟨hb1,hb1.drew⟩
 clear hb1 kN hfb
 rcases HF.out.2 with h|h
 ·have hr:=h w1
  clear h
  go_wp2_with fail
  go_ret
  exact⟨_,rfl,lk.refl HF.out.1,HB.out.1⟩
 ·obtain⟨n,hn,hr⟩:=h w1
  have HN:Hid (lk n F):=hn
  clear hn h
  go_wp2_with fail
  go_ret
  exact⟨_,rfl,HN.out,HB.out.2⟩
theorem pdiv_no (a b:Nat) (m:Int) (w:World) (hm:isM m=false):Calls Tryz.prog 73 #[.float .f64 a,.float .f64 b,.int .i64 m] w fun r w'=>r=.returned (.float .f64 9221120237041090561)∧Bw w w':=by
 have kV:=pvalid m w
 rw[hm] at kV
 go_enter Tryz.func73,Tryz.ntmps73
 go_wp2_with fail
 refine kV.mono ?_
 rintro r w' ⟨rfl,hw⟩
 rw[hw]
 clear hw kV w'
 have kN:=Ie.c52 w
 go_wp2_with fail
 refine kN.mono ?_
 rintro r w' ⟨rfl,hw⟩
 rw[hw]
 clear hw kN w'
 go_wp2_with fail
 go_ret
 exact⟨rfl,Below.refl _ _⟩
theorem pdiv_na (a b F:Nat) (m:Int) (w:World) (hm:isM m=true) (hfa:∀ W,Calls Tryz.prog 117 #[.float .f64 a] W fun r w'=>r=.returned (.bool false)∧Bw W w') (h:Rn .quo a b F) (hF:F<18446744073709551616) :
  Calls Tryz.prog 73 #[.float .f64 a,.float .f64 b,.int .i64 m] w fun r w'=>OutF2 w F r w':=by
 have kV:=pvalid m w
 rw[hm] at kV
 have HF:Hid (F<18446744073709551616∧Rn .quo a b F):=⟨hF,h⟩
 clear hF h
 go_enter Tryz.func73,Tryz.ntmps73
 go_wp2_with fail
 refine kV.mono ?_
 rintro r w' ⟨rfl,hw⟩
 rw[hw]
 clear hw kV w'
 have kN:=hfa w
 go_wp2_with fail
 refine kN.mono ?_
 rintro r w1 ⟨rfl,hb1⟩
 have HB:Hid (Bw w w1∧Bw w w1.drew):=⟨hb1,hb1.drew⟩
 clear hb1 kN hfa
 rcases HF.out.2 with h|h
 ·have hr:=h w1
  clear h
  go_wp2_with fail
  go_ret
  exact⟨_,rfl,lk.refl HF.out.1,HB.out.1⟩
 ·obtain⟨n,hn,hr⟩:=h w1
  have HN:Hid (lk n F):=hn
  clear hn h
  go_wp2_with fail
  go_ret
  exact⟨_,rfl,HN.out,HB.out.2⟩
theorem pdiv_nb (a b F:Nat) (m:Int) (w:World) (hm:isM m=true) (hfa:∀ W,Calls Tryz.prog 117 #[.float .f64 a] W fun r w'=>r=.returned (.bool true)∧w'=W) (hfb:∀ W,Calls Tryz.prog 117 #[.float .f64 b] W fun r w'=>r=.returned (.bool false)∧Bw W w') (h:Rn .quo a b F) (hF:F<18446744073709551616) :
  Calls Tryz.prog 73 #[.float .f64 a,.float .f64 b,.int .i64 m] w fun r w'=>OutF2 w F r w':=by
 have kV:=pvalid m w
 rw[hm] at kV
 have HF:Hid (F<18446744073709551616∧Rn .quo a b F):=⟨hF,h⟩
 clear hF h
 go_enter Tryz.func73,Tryz.ntmps73
 go_wp2_with fail
 refine kV.mono ?_
 rintro r w' ⟨rfl,hw⟩
 rw[hw]
 clear hw kV w'
 have kN:=hfa w
 go_wp2_with fail
 refine kN.mono ?_
 rintro r w' ⟨rfl,hw⟩
 rw[hw]
 clear hw kN hfa w'
 have kN:=hfb w
 go_wp2_with fail
 refine kN.mono ?_
 rintro r w1 ⟨rfl,hb1⟩
 have HB:Hid (Bw w w1∧Bw w w1.drew):=⟨hb1,hb1.drew⟩
 clear hb1 kN hfb
 rcases HF.out.2 with h|h
 ·have hr:=h w1
  clear h
  go_wp2_with fail
  go_ret
  exact⟨_,rfl,lk.refl HF.out.1,HB.out.1⟩
 ·obtain⟨n,hn,hr⟩:=h w1
  have HN:Hid (lk n F):=hn
  clear hn h
  go_wp2_with fail
  go_ret
  exact⟨_,rfl,HN.out,HB.out.2⟩
theorem pmul_r (a b F:Nat) (m:Int) (ta tb t3:Bool×Nat×Int) (w:World) (hm:isM m=true)
  (hfa:∀ W,Calls Tryz.prog 117 #[.float .f64 a] W fun r w'=>r=.returned (.bool true)∧w'=W)
  (hfb:∀ W,Calls Tryz.prog 117 #[.float .f64 b] W fun r w'=>r=.returned (.bool true)∧w'=W)
  (kA:Calls Tryz.prog 120 #[.float .f64 a] w fun r w'=>OutA w ta r w')
  (kB:∀ W,Bw w W→Calls Tryz.prog 120 #[.float .f64 b] W fun r w'=>OutA W tb r w')
  (kC:∀ W X Y,Bw w W→PN W X ta→PN W Y tb→Calls Tryz.prog 119 #[X,Y] W fun r w'=>OutA W t3 r w')
  (kR:∀ W X,Bw w W→PN W X t3→Calls Tryz.prog 118 #[X,.int .i64 m] W fun r w'=>r=.returned (.float .f64 F)∧Bw W w') :
  Calls Tryz.prog 71 #[.float .f64 a,.float .f64 b,.int .i64 m] w fun r w'=>r=.returned (.float .f64 F)∧Bw w w':=by
 have kV:=pvalid m w
 rw[hm] at kV
 have HKB:Hid _:=kB
 have HKC:Hid _:=kC
 have HKR:Hid _:=kR
 clear kB kC kR
 go_enter Tryz.func71,Tryz.ntmps71
 go_wp2_with fail
 refine kV.mono ?_
 rintro r w' ⟨rfl,hw⟩
 rw[hw]
 clear hw kV
 have kN:=hfa w
 go_wp2_with fail
 refine kN.mono ?_
 rintro r w' ⟨rfl,hw⟩
 rw[hw]
 clear hw kN hfa
 have kN:=hfb w
 go_wp2_with fail
 refine kN.mono ?_
 rintro r w' ⟨rfl,hw⟩
 rw[hw]
 clear hw kN hfb
 go_wp2_with fail
 refine kA.mono ?_
 rintro r w1 ⟨s1,ao1,n1,cap1,ex1,rfl,hP1,hb1⟩
 have k2:=HKB.out w1 hb1
 clear kA
 go_wp2_with fail
 refine k2.mono ?_
 rintro r w2 ⟨s2,ao2,n2,cap2,ex2,rfl,hP2,hb2⟩
 have HB2:Hid (Bw w w2):=hb1.trans (hb2.mono hb1.size)
 have k3:=HKC.out w2 _ _ HB2.out (hP1.later hb2) hP2
 clear k2 hP1 hP2 hb1 hb2
 go_wp2_with fail
 refine k3.mono ?_
 rintro r w3 ⟨s3,ao3,n3,cap3,ex3,rfl,hP3,hb3⟩
 have HB3:Hid (Bw w w3):=HB2.out.trans (hb3.mono HB2.out.size)
 have k4:=HKR.out w3 _ HB3.out hP3
 clear k3 hb3 hP3
 go_wp2_with fail
 refine k4.mono ?_
 rintro r w4 ⟨rfl,hb4⟩
 have HB4:Hid (Bw w w4):=HB3.out.trans (hb4.mono HB3.out.size)
 clear k4 hb4
 go_wp2_with fail
 go_ret
 exact⟨rfl,HB4.out⟩
theorem tM_okR (a b:Nat):okR (!((tF a).1==(tF b).1)) ((tF a).2.1*(tF b).2.1) ((tF a).2.2+(tF b).2.2)=true:=(Fits.mul (tF_fits a) (tF_fits b)).ok (by omega) (by omega) (by omega)
theorem mulX_lt {a b:Nat}:mulX a b<18446744073709551616:=by
 unfold mulX
 repeat' split
 all_goals first|decide|exact(by unfold sig;split <;> decide)
theorem divX_lt {a b:Nat}:divX a b<18446744073709551616:=by
 unfold divX
 repeat' split
 all_goals first|decide|exact(by unfold sig;split <;> decide)
def fMul (a b:Nat) (m:Int):Nat:=if isM m=false then 9221120237041090560 else if pln a=false∨pln b=false then mulX a b else tfF (tM (tF a) (tF b)).1 true (tM (tF a) (tF b)).2.1 (tM (tF a) (tF b)).2.2 m
def fDiv (a b:Nat) (m:Int):Nat:=if isM m=false then 9221120237041090560 else if pln a=false∨pln b=false then divX a b else rtF (tF a) (tF b) m
theorem tfM_lt (ex:Bool) (x:Nat):tfM ex x<18446744073709551616:=by
 have h1:x<2^(tfD x+64):=Nat.lt_of_lt_of_le (lt_bl x) (Nat.pow_le_pow_right (by decide) (by unfold tfD;omega))
 rw[Nat.pow_add] at h1
 have h2:x / 2^tfD x<2^64:=Nat.div_lt_of_lt_mul h1
 have h3:x / 2^tfD x ||| 1<2^64:=Nat.or_lt_two_pow h2 (by decide)
 unfold tfM
 split
 ·exact h2
 ·exact h3
theorem tfF_lt' {s ex:Bool} {x:Nat} {e m:Int} (hm:1≤m∧m≤3):tfF s ex x e m<18446744073709551616:=by
 unfold tfF Ie.mk
 rw[if_pos (by omega)]
 refine sig_lt ?_
 split
 ·omega
 ·rename_i h0
  have:=Ie.bod_bounds (tfM ex x) (e+(tfD x:Int)) (Ie.wy s m) (tfM_lt ex x) h0
  omega
theorem rtF_lt {t1 t2:Bool×Nat×Int} {m:Int} (hm:1≤m∧m≤3):rtF t1 t2 m<18446744073709551616:=tfF_lt' hm
theorem fMul_lt {a b:Nat} {m:Int}:fMul a b m<18446744073709551616:=by
 unfold fMul
 split
 ·decide
 ·rename_i h
  split
  ·exact mulX_lt
  ·exact tfF_lt (isM_iff.1 (by simpa using h))
theorem fDiv_lt {a b:Nat} {m:Int}:fDiv a b m<18446744073709551616:=by
 unfold fDiv
 split
 ·decide
 ·rename_i h
  split
  ·exact divX_lt
  ·exact rtF_lt (isM_iff.1 (by simpa using h))
theorem pmul_all (a b:Nat) (m:Int) (ha:a<18446744073709551616) (hb:b<18446744073709551616) (w:World) (hT:Tab32 w) (hI:Ie.Tab w) :
  Calls Tryz.prog 71 #[.float .f64 a,.float .f64 b,.int .i64 m] w fun r w'=>OutF2 w (fMul a b m) r w':=by
 unfold fMul
 cases hm:isM m
 ·rw[if_pos rfl]
  refine(pmul_no a b m w hm).mono ?_
  rintro r w' ⟨rfl,hb⟩
  exact⟨_,rfl,lk.nan (by decide) (by decide) (by decide),hb⟩
 ·rw[if_neg (by decide)]
  have hm':=isM_iff.1 hm
  by_cases hp:pln a=false∨pln b=false
  ·rw[if_pos hp]
   have hr:Rn .mul a b (mulX a b):=rn_of (by simp) (mul_non ha hb hp)
   cases h:pln a
   ·exact pmul_na a b _ m w hm (pplain_f a ha h) hr mulX_lt
   ·exact pmul_nb a b _ m w hm (pplain_t a ha h) (pplain_f b hb (by rcases hp with h'|h';rw[h] at h';cases h';exact h')) hr mulX_lt
  ·rw[if_neg hp]
   have pa:pln a=true:=by cases h:pln a;exact absurd (.inl h) hp;rfl
   have pb:pln b=true:=by cases h:pln b;exact absurd (.inr h) hp;rfl
   have hok:Ok (tM (tF a) (tF b)):=tM_ok (tM_okR a b)
   refine(pmul_r a b _ m (tF a) (tF b) (tM (tF a) (tF b)) w hm (pplain_t a ha pa) (pplain_t b hb pb) (exact_ok a ha (pln_true.1 pa).1 w hT hI) (fun W h=>exact_ok b hb (pln_true.1 pb).1 W (hT.later h) (Tab.later hI h)) (fun W X Y h h1 h2=>multiplied_op (mul_op (tF_ok a) (tF_ok b) (tM_okR a b)) (hT.later h) h1 h2) (fun W X h h1=>prounded (hT.later h) hok h1 hm')).mono ?_
   rintro r w' ⟨rfl,hb'⟩
   exact⟨_,rfl,lk.refl (tfF_lt hm'),hb'⟩
theorem pdiv_all (a b:Nat) (m:Int) (ha:a<18446744073709551616) (hb:b<18446744073709551616) (w:World) (hT:Tab32 w) (hI:Ie.Tab w) :
  Calls Tryz.prog 73 #[.float .f64 a,.float .f64 b,.int .i64 m] w fun r w'=>OutF2 w (fDiv a b m) r w':=by
 unfold fDiv
 cases hm:isM m
 ·rw[if_pos rfl]
  refine(pdiv_no a b m w hm).mono ?_
  rintro r w' ⟨rfl,hb⟩
  exact⟨_,rfl,lk.nan (by decide) (by decide) (by decide),hb⟩
 ·rw[if_neg (by decide)]
  have hm':=isM_iff.1 hm
  by_cases hp:pln a=false∨pln b=false
  ·rw[if_pos hp]
   have hr:Rn .quo a b (divX a b):=rn_of (by simp) (div_non ha hb hp)
   cases h:pln a
   ·exact pdiv_na a b _ m w hm (pplain_f a ha h) hr divX_lt
   ·exact pdiv_nb a b _ m w hm (pplain_t a ha h) (pplain_f b hb (by rcases hp with h'|h';rw[h] at h';cases h';exact h')) hr divX_lt
  ·rw[if_neg hp]
   have pa:pln a=true:=by cases h:pln a;exact absurd (.inl h) hp;rfl
   have pb:pln b=true:=by cases h:pln b;exact absurd (.inr h) hp;rfl
   refine(pdiv_ok a b m w hm hT hI ha hb (pln_true.1 pa).1 (pln_true.1 pb).1 (pln_true.1 pa).2 (pln_true.1 pb).2 (tF_ne (pln_true.1 pa).2) (tF_ne (pln_true.1 pb).2)).mono ?_
   rintro r w' ⟨rfl,hb'⟩
   exact⟨_,rfl,lk.refl (rtF_lt hm'),hb'⟩
end Go.Proofs.YtcdkkpjilgmncaaGreatDoor
namespace Go.Proofs.YtcdkkpjilgmncaaGreatDoor
open Go.RowKit Go.Fl64
open Ie
theorem bl_shl' {x k:Nat} (h:x≠0):bl (x*2^k)=bl x+k:=by
 have h1:=lt_bl x
 have h2:=le_bl h
 have hb:=bl_ne h
 have a:bl (x*2^k)≤bl x+k:=(bl_le _ _).2 (by rw[Nat.pow_add];exact Nat.mul_lt_mul_of_pos_right h1 (Nat.two_pow_pos k))
 have b:bl x+k - 1+1≤bl (x*2^k):=bl_ge.2 (by rw[show bl x+k - 1=bl x - 1+k by omega,Nat.pow_add];exact Nat.mul_le_mul_right _ h2)
 omega
theorem bl_quo_lo {N y:Nat} (hy:y≠0):bl N≤bl (N / y)+bl y:=by
 refine(bl_le _ _).2 ?_
 have h1:N<y*(N / y+1):=Nat.lt_mul_div_succ N (Nat.pos_of_ne_zero hy)
 have h2:=lt_bl (N / y)
 have h3:=lt_bl y
 rw[Nat.pow_add,Nat.mul_comm (2^bl (N / y))]
 exact Nat.lt_of_lt_of_le h1 (Nat.mul_le_mul (Nat.le_of_lt h3) h2)
theorem bl_quo_hi {N y:Nat} (hy:y≠0) (hq:N / y≠0):bl (N / y)+bl y≤bl N+1:=by
 have h1:=le_bl hq
 have h2:=le_bl hy
 have b1:=bl_ne hq
 have b2:=bl_ne hy
 have h3:2^(bl (N / y) - 1+(bl y - 1))≤N:=by
  rw[Nat.pow_add]
  exact Nat.le_trans (Nat.mul_le_mul h1 h2) (Nat.div_mul_le_self N y)
 have h4:=Nat.lt_of_le_of_lt h3 (lt_bl N)
 have h5:=(Nat.pow_lt_pow_iff_right (by omega:1<2)).1 h4
 omega
theorem bl_one:bl 1=1:=by rfl
theorem rto_one {W:World} {g:Nat} {s:Bool} {e m:Int} (h:At W (some ⟨g,0,none⟩) 1 1) (he1 : -4000000≤e) (he2:e≤4000000) (hm:1≤m∧m≤3) :
  Calls Tryz.prog 64 #[.agg #[.bool s,.slice (some ⟨g,0,none⟩) 1 1,.int .i64 e],.int .i64 m] W fun r w'=>r=.returned (.float .f64 (tfF s true 1 e m))∧Bw W w':=by
 have:=rto (neg:=s) (uc:=1) (x:=1) (ea:=e) (m:=m) (by rw[dlen_one];exact h) (by rw[dlen_one];exact Nat.le_refl _) rfl (by rw[dlen_one];omega) he1 he2 hm
 rw[←tf_bdy hm,dlen_one] at this
 exact this
theorem rratioto {na nb:Bool} {ua va:Option Addr} {uc vc x y k:Nat} {ea eb m:Int} {w:World} (h1:Arg w ua (dlen x) uc x) (h2:Arg w va (dlen y) vc y) (hx:dlen x≤2048) (hy:dlen y≤2048) (ha : -65536≤ea∧ea≤65536) (hb : -65536≤eb∧eb≤65536) (hx0:x≠0) (hy0:y≠0) (hm:1≤m∧m≤3) (hk:max 0 (64+(bl y:Int) - (bl x:Int))=(k:Int)) :
  Calls Tryz.prog 25 #[.agg #[.bool na,.slice ua (dlen x) uc,.int .i64 ea],.agg #[.bool nb,.slice va (dlen y) vc,.int .i64 eb],.int .i64 m] w fun r w'=>r=.returned (.float .f64 (tfF (na != nb) (decide (x*2^k % y=0)) (x*2^k / y) (ea - eb - k) m))∧Bw w w':=by
 have bx:=bl_le_dlen x
 have by':=bl_le_dlen y
 have bx1:=bl_ne hx0
 have by1:=bl_ne hy0
 have hN:bl (x*2^k)=bl x+k:=bl_shl' hx0
 have q1:=bl_quo_lo (N:=x*2^k) hy0
 have h64:64≤bl (x*2^k / y):=by omega
 have hq0:x*2^k / y≠0:=fun e=>by rw[e] at h64;simp[bl] at h64
 have q2:=bl_quo_hi hy0 hq0
 have hn0:((dlen x:Int)==0)=false:=len_ne (n:=0) hx0
 have kHa:=fun W (hW:Bw w W)=>rhigh (neg:=na) (cap:=uc) (e:=ea) (h1.later hW).at_ hx0 (by omega) ⟨by omega,by omega⟩
 have kHb:=fun W (hW:Bw w W)=>rhigh (neg:=nb) (cap:=vc) (e:=eb) (h2.later hW).at_ hy0 (by omega) ⟨by omega,by omega⟩
 obtain⟨pl,hpl⟩:∃ pl:Int,min (max (60 - ((bl x:Int)+ea)+((bl y:Int)+eb)) (-1100)) 1100=pl:=⟨_,rfl⟩
 by_cases hb1:1100<(bl x:Int)+ea - ((bl y:Int)+eb)
 ·rw[tf_big (s:=na != nb) (y:=1) (f:=1100) hm (.inl h64) (by omega) (by omega) (by rw[bl_one];omega)]
  exact rratioto_f na nb ua va _ uc _ vc _ ea eb m _ _ pl (na != nb) w rfl hn0 (by omega) (by omega) (by omega) (by omega) hpl (by omega) (by omega) _ (.inl ⟨hb1,rfl⟩) kHa kHb (fun g W hW hA=>rto_one hA (by omega) (by omega) hm)
 ·by_cases hb2:(bl x:Int)+ea - ((bl y:Int)+eb) < -1200
  ·rw[tf_tiny (s:=na != nb) (y:=1) (f := -1200) hm (.inl h64) (by omega) (by omega) (by rw[bl_one];omega)]
   exact rratioto_f na nb ua va _ uc _ vc _ ea eb m _ _ pl (na != nb) w rfl hn0 (by omega) (by omega) (by omega) (by omega) hpl (by omega) (by omega) _ (.inr ⟨hb2,rfl⟩) kHa kHb (fun g W hW hA=>rto_one hA (by omega) (by omega) hm)
  ·have hP : -1100≤pl∧pl≤1100:=by omega
   obtain⟨X,hX⟩:∃ X,ovX x ea eb (pl+60)=X:=⟨_,rfl⟩
   obtain⟨Y,hY⟩:∃ Y,ovY y ea eb (pl+60)=Y:=⟨_,rfl⟩
   have bX:(bl X:Int)=bl x+(ea+(pl+60) - min (ea+(pl+60)) eb):=by rw[←hX];unfold ovX;rw[bl_shl' hx0];omega
   have bY:(bl Y:Int)=bl y+(eb - min (ea+(pl+60)) eb):=by rw[←hY];unfold ovY;rw[bl_shl' hy0];omega
   have hX0:X≠0:=by rw[←hX];unfold ovX;exact Nat.mul_ne_zero hx0 (Nat.pos_iff_ne_zero.1 (Nat.two_pow_pos _))
   have hY0:Y≠0:=by rw[←hY];unfold ovY;exact Nat.mul_ne_zero hy0 (Nat.pos_iff_ne_zero.1 (Nat.two_pow_pos _))
   have r1:=bl_quo_lo (N:=X) hY0
   have hzl:dlen (X / Y)≤20000:=by
    refine Nat.le_trans (dlen_mono (Nat.div_le_self X Y)) ?_
    rw[←hX];unfold ovX
    have:=shl_len (x:=x) (k:=(ea+(pl+60) - min (ea+(pl+60)) eb).toNat) rfl
    omega
   have kO:=fun W (hW:Bw w W)=>rover (na:=na) (nb:=nb) (ea:=ea) (eb:=eb) (place:=pl+60) (h1.later hW).at_ h1.le (h2.later hW).at_ h2.le hy0 (by omega) (by omega) ⟨by omega,by omega⟩ ⟨by omega,by omega⟩ ⟨by omega,by omega⟩ hX hY
   have hbq:decide (X % Y=0)=true→X / Y≠0:=fun h e=>by
    have h':=of_decide_eq_true h
    have:=Nat.div_add_mod X Y
    rw[e,h',Nat.mul_zero] at this
    exact hX0 this.symm
   have key:tfF (na != nb) (decide (x*2^k % y=0)) (x*2^k / y) (ea - eb - k) m=if decide (X % Y=0)then tfF (na != nb) true (X / Y) (-(pl+60)) m else tfF (na != nb) true (2*(X / Y)+1) (-(pl+60+1)) m:=by
    by_cases hs:64≤bl (X / Y)
    ·have re:=ratio_eq (s:=na != nb) (x:=x) (y:=y) (k:=k) (ea:=ea) (eb:=eb) (P:=pl+60) hm hy0 h64 (by rw[hX,hY];exact hs)
     rw[hX,hY] at re
     rw[re]
     cases decide (X % Y=0)
     ·rw[if_neg (by decide),tf_sticky hs,show -(pl+60) - 1 = -(pl+60+1) by omega]
     ·rw[if_pos rfl]
    ·have hd:(bl x:Int)+ea - ((bl y:Int)+eb) < -1096:=by omega
     cases hdc:decide (X % Y=0)
     ·rw[if_neg (by decide)]
      refine tf_tiny hm (.inl h64) (by omega) (by omega) ?_
      by_cases hz:X / Y=0
      ·rw[hz,Nat.mul_zero,Nat.zero_add,bl_one];omega
      ·have r2:=bl_quo_hi hY0 hz
       rw[bl_two hz];omega
     ·rw[if_pos rfl]
      have hz:=hbq hdc
      have r2:=bl_quo_hi hY0 hz
      exact tf_tiny hm (.inl h64) hz (by omega) (by omega)
   rw[key]
   refine rratioto_m na nb ua va _ uc _ vc _ ea eb m _ _ pl (na != nb) _ (decide (X % Y=0)) w hn0 (by omega) (by omega) (by omega) (by omega) hpl hP.1 hP.2 (by omega) (by omega) kHa kHb kO (fun W A hW hN=>?_)
   exact rbetween hN hbq hzl (by omega) (by omega) hm
end Go.Proofs.YtcdkkpjilgmncaaGreatDoor
namespace Go.Proofs.YtcdkkpjilgmncaaGreatDoor
open Go.RowKit Go.Fl64
end Go.Proofs.YtcdkkpjilgmncaaGreatDoor
namespace Go.Proofs.YtcdkkpjilgmncaaGreatDoor
open Go.RowKit
end Go.Proofs.YtcdkkpjilgmncaaGreatDoor
namespace Go.Proofs.YtcdkkpjilgmncaaGreatDoor
open Go.RowKit Go.Fl64
end Go.Proofs.YtcdkkpjilgmncaaGreatDoor
namespace Go.Proofs.YtcdkkpjilgmncaaGreatDoor
open Go.RowKit
end Go.Proofs.YtcdkkpjilgmncaaGreatDoor
namespace Go.Proofs.YtcdkkpjilgmncaaGreatDoor
open Go.RowKit Go.Fl64
end Go.Proofs.YtcdkkpjilgmncaaGreatDoor
