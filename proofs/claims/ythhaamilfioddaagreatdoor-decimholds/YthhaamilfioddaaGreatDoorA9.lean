/- Own work: contracts of the program's functions, part 9: RW2 RW3 RW4 RW5 RW6 RW7 RW8 RW9 RX1 W49 RX2 RX3 W50 L16 L10 L17 L14 W51 W52 FM FM2 F1 F6 F7 FM3 L6 L8 FM4 FM5 RT0 RT1 RT3 RT7 RY1 RY2 RY3 RY4 FM6 FM7 FM8 RY5 SA7 SA8 SA9 UA1 UA2 UA3 UA4 UA5 UA6 UA7 ShelfD RE1 RE3. -/
import Derived.Test.YthhaamilfioddaaGreatDoorA8
import Derived.Test.YthhaamilfioddaaGreatDoorA3
import Derived.Test.YthhaamilfioddaaGreatDoorA4
import Derived.Test.YthhaamilfioddaaGreatDoorA7
import Derived.Test.YthhaamilfioddaaGreatDoorA6
import Derived.Test.YthhaamilfioddaaGreatDoorA1
import Derived.Deep.CutBlock
import Derived.RangeFuncNested
import Derived.RangeFuncBound
import Derived.RangeFuncCalls
import Derived.RangeFuncLeaves
import Derived.Test.YthhaamilfioddaaGreatDoorA2
import Derived.Shelf.Abstract
import Derived.Shelf.RegionOpen
import Derived.WalkKit
import Derived.OwnWalkIn
import Derived.TacticsInMore
import Derived.LoopNIn
import Derived.LoopIn
import Derived.Shelf.Strings.Builder1
import Derived.Shelf.Strings.Builder2
import Derived.Shelf.Strings.Trim
import Derived.Shelf.Small.Utf8
import Derived.Shelf.Small.Strs
import Derived.Shelf.Strings.Search1
import Derived.Shelf.Strings.Search2
import Derived.Shelf.Strings.Prefix
import Derived.Shelf.Strings.Runes
import Derived.Shelf.Strings.IndexAny
import Derived.Shelf.Strings.AsciiSet
import Derived.Shelf.Strings.IndexAnyAll
import Derived.Shelf.Strings.Repeat
import Derived.Test.YthhaamilfioddaaGreatDoorProg

set_option maxHeartbeats 16000000
set_option maxRecDepth 200000
set_option linter.unusedVariables false
set_option linter.unusedSimpArgs false
namespace Go.Proofs.YthhaamilfioddaaGreatDoor
open Go.RowKit
theorem rlessN_1 (na nb:Bool) (ua va:Option Addr) (un uc vn vc:Nat) (ea eb:Int) (nc:Bool) (xa:Option Addr) (xn xc:Nat) (ec:Int) (s:Bool) (z:Nat) (e:Int) (w:World) (kM:∀ W,Calls Tryz.prog 29 #[.agg #[.bool nb,.slice va vn vc,.int .i64 eb]] W fun r w'=>r=.returned (.agg #[.bool nc,.slice xa xn xc,.int .i64 ec])∧Bw W w')
  (kA:∀ W,Bw w W→Calls Tryz.prog 32 #[.agg #[.bool na,.slice ua un uc,.int .i64 ea],.agg #[.bool nc,.slice xa xn xc,.int .i64 ec]] W fun r w'=>∃ a,r=.returned a∧NC w' W.heap.size a s z e∧Bw W w') :
  Calls Tryz.prog 11 #[.agg #[.bool na,.slice ua un uc,.int .i64 ea],.agg #[.bool nb,.slice va vn vc,.int .i64 eb]] w fun r w'=>∃ a,r=.returned a∧NC w' w.heap.size a s z e∧Bw w w':=by
 have HKM:Hid _:=kM
 have HKA:Hid _:=kA
 clear kM kA
 obtain⟨W,hW⟩:∃ W,W=((w.alloc (.cells #[.bool na,.slice ua un uc,.int .i64 ea] 30)).alloc (.cells #[.bool nb,.slice va vn vc,.int .i64 eb] 30)).alloc (.cells #[.bool false,.slice none 0 0,.int .i64 0] 30):=⟨_,rfl⟩
 obtain⟨hA,hBb,hC,hsz,hBW⟩:=boxes3 _ _ _ hW
 have HH:Hid ((W.heap[w.heap.size]?=some (.cells #[.bool na,.slice ua un uc,.int .i64 ea] 30 (0,0))∧W.heap[w.heap.size+1]?=some (.cells #[.bool nb,.slice va vn vc,.int .i64 eb] 30 (0,0))∧W.heap[w.heap.size+1+1]?=some (.cells #[.bool false,.slice none 0 0,.int .i64 0] 30 (0,0)))∧W.heap.size=w.heap.size+1+1+1∧Bw w W):=⟨⟨hA,hBb,hC⟩,hsz,hBW⟩
 obtain⟨⟨a0,a1,a2⟩,-⟩:=box_cells29 hA
 obtain⟨⟨b0,b1,b2⟩,-⟩:=box_cells29 hBb
 clear hA hBb hC hsz hBW
 have kM:∀ w4,Bw W w4→Calls Tryz.prog 29 #[.agg #[.bool nb,.slice va vn vc,.int .i64 eb]] w4 fun r w'=>r=.returned (.agg #[.bool nc,.slice xa xn xc,.int .i64 ec])∧Bw W w':=fun w4 hb=>(HKM.out w4).mono fun r w' ⟨e1,o2⟩=>⟨e1,hb.trans (o2.mono hb.size)⟩
 have kA:∀ w5,Bw W w5→Calls Tryz.prog 32 #[.agg #[.bool na,.slice ua un uc,.int .i64 ea],.agg #[.bool nc,.slice xa xn xc,.int .i64 ec]] w5 fun r w'=>∃ s' ao n cap ex,r=.returned (.agg #[.bool s',.slice ao n cap,.int .i64 ex])∧Hid (NC w' W.heap.size (.agg #[.bool s',.slice ao n cap,.int .i64 ex]) s z e)∧Bw W w'∧Hid (w'.heap[w.heap.size+1+1]?=some (.cells #[.bool false,.slice none 0 0,.int .i64 0] 30 (0,0))) ∧
   (w'.cell? ⟨w.heap.size+1+1,0,none⟩=some (.bool false)∧w'.cell? ⟨w.heap.size+1+1,1,none⟩=some (.slice none 0 0)∧w'.cell? ⟨w.heap.size+1+1,2,none⟩=some (.int .i64 0))∧(w'.frozen? ⟨w.heap.size+1+1,0,none⟩=false∧w'.frozen? ⟨w.heap.size+1+1,1,none⟩=false∧w'.frozen? ⟨w.heap.size+1+1,2,none⟩=false):=by
  intro w5 hb
  refine(HKA.out w5 (HH.out.2.2.trans (hb.mono HH.out.2.2.size))).mono ?_
  rintro r w6 ⟨A,rfl,hN,hb6⟩
  obtain⟨s',ao,n,cap,ex,rfl⟩:=hN.shape
  have hb16:Bw W w6:=hb.trans (hb6.mono hb.size)
  have hblk:=box_later HH.out.1.2.2 hb16 (by have:=HH.out.2.1;omega)
  obtain⟨f1,f2⟩:=box_cells29 hblk
  exact⟨s',ao,n,cap,ex,rfl,hN.mono hb.size,hb16,hblk,f1,f2⟩
 have HK:Hid (∀ w',Bw W w'→((w'.cell? ⟨w.heap.size,0,none⟩=some (.bool na)∧w'.cell? ⟨w.heap.size,1,none⟩=some (.slice ua un uc)∧w'.cell? ⟨w.heap.size,2,none⟩=some (.int .i64 ea))∧(w'.cell? ⟨w.heap.size+1,0,none⟩=some (.bool nb)∧w'.cell? ⟨w.heap.size+1,1,none⟩=some (.slice va vn vc)∧w'.cell? ⟨w.heap.size+1,2,none⟩=some (.int .i64 eb)))):=fun w' hb=>⟨(box_cells29 (box_later HH.out.1.1 hb (by have:=HH.out.2.1;omega))).1,(box_cells29 (box_later HH.out.1.2.1 hb (by have:=HH.out.2.1;omega))).1⟩
 have HK2:Hid (∀ w',Below (w.heap.size+1+1) W w'→((w'.cell? ⟨w.heap.size,0,none⟩=some (.bool na)∧w'.cell? ⟨w.heap.size,1,none⟩=some (.slice ua un uc)∧w'.cell? ⟨w.heap.size,2,none⟩=some (.int .i64 ea))∧(w'.cell? ⟨w.heap.size+1,0,none⟩=some (.bool nb)∧w'.cell? ⟨w.heap.size+1,1,none⟩=some (.slice va vn vc)∧w'.cell? ⟨w.heap.size+1,2,none⟩=some (.int .i64 eb)))):=fun w' hb=>⟨(box_cells29 (box_later HH.out.1.1 hb (by omega))).1,(box_cells29 (box_later HH.out.1.2.1 hb (by omega))).1⟩
 have HS2:Hid (w.heap.size+1+1≤W.heap.size):=(by have:=HH.out.2.1;omega:w.heap.size+1+1≤W.heap.size)
 have hBR:Bw W W.drew:=(Below.refl _ _).drew
 go_enter Tryz.func11,Tryz.ntmps11
 go_upto_region 1 with fail
 rw[←hW]
 clear hW
 go_region_held3 (fun w'=>((w'.cell? ⟨w.heap.size,0,none⟩=some (.bool na)∧w'.cell? ⟨w.heap.size,1,none⟩=some (.slice ua un uc)∧w'.cell? ⟨w.heap.size,2,none⟩=some (.int .i64 ea))∧(w'.cell? ⟨w.heap.size+1,0,none⟩=some (.bool nb)∧w'.cell? ⟨w.heap.size+1,1,none⟩=some (.slice va vn vc)∧w'.cell? ⟨w.heap.size+1,2,none⟩=some (.int .i64 eb)))) (first|(with_reducible assumption)|exact⟨⟨a0,a1,a2⟩,b0,b1,b2⟩|(refine HK.out _ ?_;with_reducible assumption)|(refine HK2.out _ (below_store3 (Below.mono hb6 HS2.out) (Nat.le_refl _) _ _ _))|go_keep)
  (first|(go_at_call 29;refine(kM _ (by first|(with_reducible assumption)|exact hBR)).mono ?_;rintro r w5 ⟨rfl,hb5⟩)|(go_at_call 32;refine(kA _ (by first|(with_reducible assumption)|exact hBR)).mono ?_;rintro r w6 ⟨s6,ao6,n6,cap6,ex6,rfl,hN6,hb6,hblk6,⟨x1,x2,x3⟩,x4,x5,x6⟩))
 all_goals (have HF:Hid (Bw W w6):=hb6;clear hb5 hb6 kM kA x1 x2 x3 x4 x5 x6 a0 a1 a2 b0 b1 b2 HK HK2 hBR;go_wp2;refine bodyPost_ret (results_cell_row rfl _ _ (w.heap.size+1+1) 30 #[.bool s6,.slice ao6 n6 cap6,.int .i64 ex6] (0,0) _ rfl (store3_29 _ _ _ hblk6.out) Tryz.underlying30 rfl Tryz.info30) rfl ?_;exact⟨_,rfl,(hN6.out.store (by have:=HH.out.2.1;omega) _ _ _).mono HH.out.2.2.size,below_store3 (HH.out.2.2.trans (HF.out.mono HH.out.2.2.size)) (by omega) _ _ _⟩)
theorem cn_odd {s:Bool} {x:Nat} {e:Int} (h:x % 2=1):cn s x e=(s,x,e):=by
 unfold cn
 rw[if_neg (by omega),tz_odd h,Nat.pow_zero,Nat.div_one]
 simp
theorem pratio_1 (na nb:Bool) (ua va:Option Addr) (un uc vn vc x y k bx by':Nat) (ea eb mode:Int) (sg:Bool) (w:World) (hsg:Hid ((!(na==nb))=sg)) (hT:Tab32 w) (h1:Is w (.slice ua un uc) x) (h2:Is w (.slice va vn vc) y) (hx:dlen x≤3000) (hy:dlen y≤3000) (hy0:y≠0) (he1 : -65536≤ea) (he2:ea≤65536) (he3 : -65536≤eb) (he4:eb≤65536) (hm:mode=1∨mode=2∨mode=3)
  (hbx:bl x=bx) (hby:bl y=by') (hbx2:bx≤96000) (hby2:by'≤96000) (hk:max 0 (64+(by':Int) - (bx:Int))=(k:Int)) (hk2:k≤100000) (hn0:((un:Int)==0)=false) (hn1:((vn:Int)==0)=false)
  (k67:∀ W g,Bw w W→W.heap[g]?=some (.cells #[.bool na,.slice ua un uc,.int .i64 ea,.bool nb,.slice va vn vc,.int .i64 eb] 49 (0,0))→Calls Tryz.prog 95 #[.slice (some ⟨g,0,none⟩) 2 2] W fun r w'=>r=.returned (.bool true)∧Bw W w') :
  Calls Tryz.prog 80 #[.agg #[.bool na,.slice ua un uc,.int .i64 ea],.agg #[.bool nb,.slice va vn vc,.int .i64 eb],.int .i64 mode] w fun r w'=>r=.returned (.tuple #[.float .f64 (tfF sg (decide (x*2^k % y=0)) (x*2^k / y) (ea - eb - k) mode),.int .i64 0])∧Bw w w':=by
 obtain⟨W,hW⟩:∃ W,W=(w.alloc (.cells #[.bool na,.slice ua un uc,.int .i64 ea] 49)).alloc (.cells #[.bool nb,.slice va vn vc,.int .i64 eb] 49):=⟨_,rfl⟩
 have hBW:Bw w W:=by rw[hW];exact((Below.refl _ _).alloc (Nat.le_refl _) _).alloc (by simp) _
 have hbA:W.heap[w.heap.size]?=some (.cells #[.bool na,.slice ua un uc,.int .i64 ea] 49 (0,0)):=by
  rw[hW,Below.heap_alloc _ _ _ (by simp)];exact heap_alloc_new _ _
 have hbB:W.heap[w.heap.size+1]?=some (.cells #[.bool nb,.slice va vn vc,.int .i64 eb] 49 (0,0)):=by
  have:=heap_alloc_new (w.alloc (.cells #[.bool na,.slice ua un uc,.int .i64 ea] 49)) (.cells #[.bool nb,.slice va vn vc,.int .i64 eb] 49)
  rw[hW];simpa using this
 have hsz:W.heap.size=w.heap.size+1+1:=by rw[hW];simp
 have k1:=k67 (W.alloc (.cells #[.bool na,.slice ua un uc,.int .i64 ea,.bool nb,.slice va vn vc,.int .i64 eb] 49)) (w.heap.size+1+1) (hBW.alloc hBW.size _) (by rw[←hsz];exact heap_alloc_new _ _)
 have HX:Hid (Bw w W∧W.heap.size=w.heap.size+1+1∧W.heap[w.heap.size]?=some (.cells #[.bool na,.slice ua un uc,.int .i64 ea] 49 (0,0))∧W.heap[w.heap.size+1]?=some (.cells #[.bool nb,.slice va vn vc,.int .i64 eb] 49 (0,0))):=⟨hBW,hsz,hbA,hbB⟩
 have HT:Hid (Tab32 w∧Is w (.slice ua un uc) x∧dlen x≤3000∧Is w (.slice va vn vc) y∧dlen y≤3000∧y≠0):=⟨hT,h1,hx,h2,hy,hy0⟩
 have k48:=fun W=>c48 mode hm W
 clear hBW hsz hbA hbB k67 hT h1 hx h2 hy hy0
 go_enter Tryz.func80,Tryz.ntmps80
 go_wp2_with fail
 rw[←hW]
 clear hW
 refine k1.mono ?_
 rintro r w1 ⟨rfl,hb1⟩
 have HB1:Hid (Bw W w1):=((Below.refl W.heap.size W).alloc (Nat.le_refl _) _).trans (hb1.mono (by simp))
 have HW1:Hid (Bw w w1):=HX.out.1.trans (HB1.out.mono HX.out.1.size)
 obtain⟨⟨a0,a1,a2⟩,-⟩:=box_cells (box_later HX.out.2.2.1 HB1.out (by have:=HX.out.2.1;omega))
 obtain⟨⟨b0,b1,b2⟩,-⟩:=box_cells (box_later HX.out.2.2.2 HB1.out (by have:=HX.out.2.1;omega))
 clear k1 hb1
 go_wp2_with fail
 refine(k48 w1).mono ?_
 rintro r w1' ⟨rfl,hw⟩
 replace hw:=hw.symm
 subst hw
 clear k48
 have kla:∀ d,Calls Tryz.prog 125 #[.slice ua un uc] (w1.drewN d) fun e w'=>e=.returned (.int .i64 (bx:Nat))∧w'=w1.drewN d:=fun d=>by
  have:=c74 (w:=w1.drewN d) (HT.out.2.1.later (HW1.out.trans ⟨rfl,rfl,rfl,Nat.le_refl _,fun _ _=>rfl⟩)) (by have:=HT.out.2.2;omega)
  rw[hbx] at this;exact this
 have klb:∀ d,Calls Tryz.prog 125 #[.slice va vn vc] (w1.drewN d) fun e w'=>e=.returned (.int .i64 (by':Nat))∧w'=w1.drewN d:=fun d=>by
  have:=c74 (w:=w1.drewN d) (HT.out.2.2.2.1.later (HW1.out.trans ⟨rfl,rfl,rfl,Nat.le_refl _,fun _ _=>rfl⟩)) (by have:=HT.out.2.2;omega)
  rw[hby] at this;exact this
 go_wp2
 go_quiet (first|(go_at_call 125;first|(with_reducible refine Calls.quiet_of_same (klb _))|(with_reducible refine Calls.quiet_of_same (kla _))))
 have HB2:Hid (Below W.heap.size W (w1.drewN nq)):=HB1.out.trans ⟨rfl,rfl,rfl,Nat.le_refl _,fun _ _=>rfl⟩
 obtain⟨w2,hw2⟩:∃ w2,w2=w1.drewN nq:=⟨_,rfl⟩
 rw[←hw2] at HB2 ⊢
 clear hw2 kla klb a0 a1 a2 b0 b1 b2
 have HK:Hid (∀ w',Bw w2 w'→((w'.cell? ⟨w.heap.size,0,none⟩=some (.bool na)∧w'.cell? ⟨w.heap.size,1,none⟩=some (.slice ua un uc)∧w'.cell? ⟨w.heap.size,2,none⟩=some (.int .i64 ea))∧(w'.cell? ⟨w.heap.size+1,0,none⟩=some (.bool nb)∧w'.cell? ⟨w.heap.size+1,1,none⟩=some (.slice va vn vc)∧w'.cell? ⟨w.heap.size+1,2,none⟩=some (.int .i64 eb)))):=fun w' hb=>⟨(box_cells (box_later HX.out.2.2.1 (HB2.out.trans (hb.mono HB2.out.size)) (by have:=HX.out.2.1;omega))).1,(box_cells (box_later HX.out.2.2.2 (HB2.out.trans (hb.mono HB2.out.size)) (by have:=HX.out.2.1;omega))).1⟩
 obtain⟨⟨a0,a1,a2⟩,b0,b1,b2⟩:=HK.out w2 (Below.refl _ _)
 have hBR:Bw w2 w2.drew:=(Below.refl _ _).drew
 have hl:dlen (x*2^k)≤7000:=by have:=shl_len (x:=x) (k:=k) rfl;have:=HT.out.2.2;omega
 have HL:Hid (dlen (x*2^k)≤7000):=hl
 have kS:∀ w',Bw w2 w'→Calls Tryz.prog 126 #[.slice ua un uc,.int .i64 (k:Int)] w' fun e w''=>∃ v,e=.returned v∧Hid (Is w'' v (x*2^k))∧Bw w2 w'':=fun w' hb=>(c109 (HT.out.2.1.later (HX.out.1.trans ((HB2.out.trans (hb.mono HB2.out.size)).mono HX.out.1.size))) k (by have:=HT.out.2.2;omega) (by omega)).mono fun r w'' ⟨v,e1,e2,e3⟩=>⟨v,e1,e2.is,hb.trans (e3.mono hb.size)⟩
 have kD:∀ v w',Hid (Is w' v (x*2^k))→Bw w2 w'→Calls Tryz.prog 99 #[v,.slice va vn vc] w' fun e w''=>∃ q,e=.returned (.tuple #[q,.bool (decide (x*2^k % y=0))])∧Hid (Is w'' q (x*2^k / y))∧Bw w2 w'':=fun v w' hI hb=>(c100 hI.out (HT.out.2.2.2.1.later (HX.out.1.trans ((HB2.out.trans (hb.mono HB2.out.size)).mono HX.out.1.size))) (by have:=HL.out;omega) (by have:=HT.out.2.2.2.2;omega) HT.out.2.2.2.2.2).mono fun r w'' ⟨q,e1,e2,e3⟩=>⟨q,e1,e2.is,hb.trans (e3.mono hb.size)⟩
 obtain⟨xb,hxb⟩:∃ xb:Bool,xb=decide (x*2^k % y=0):=⟨_,rfl⟩
 rw[←hxb] at kD
 have HXB:Hid (xb=decide (x*2^k % y=0)):=hxb
 clear hxb hl
 go_upto_region 8 with fail
 go_cut [9,10] from 42 to 50 (fun q b wx=>b=.bool xb∧Hid (Is wx q (x*2^k / y))∧Hid (Bw w2 wx))
 case first =>
  go_region_held3 (fun w'=>((w'.cell? ⟨w.heap.size,0,none⟩=some (.bool na)∧w'.cell? ⟨w.heap.size,1,none⟩=some (.slice ua un uc)∧w'.cell? ⟨w.heap.size,2,none⟩=some (.int .i64 ea))∧(w'.cell? ⟨w.heap.size+1,0,none⟩=some (.bool nb)∧w'.cell? ⟨w.heap.size+1,1,none⟩=some (.slice va vn vc)∧w'.cell? ⟨w.heap.size+1,2,none⟩=some (.int .i64 eb)))) (first|(with_reducible assumption)|exact⟨⟨a0,a1,a2⟩,b0,b1,b2⟩|(refine HK.out _ ?_;with_reducible assumption)|go_keep)
   (first|(go_at_call 126;refine(kS _ (by first|(with_reducible assumption)|exact hBR)).mono ?_;rintro r w5 ⟨v5,rfl,hI5,hb5⟩)|(go_at_call 99;refine(kD _ _ hI5 (by with_reducible assumption)).mono ?_;rintro r w6 ⟨v6,rfl,hI6,hb6⟩))
  all_goals go_wp2_with fail
  all_goals go_meet
  all_goals exact⟨rfl,hI6,hb6⟩
 case rest =>
  obtain⟨rfl,hI,hB⟩:=hcut
  obtain⟨w3,rfl⟩:∃ w3:World,w3=wc:=⟨_,rfl⟩
  have HB3:Hid (Bw W w3):=HB2.out.trans (hB.out.mono HB2.out.size)
  clear a0 a1 a2 b0 b1 b2 kS kD hBR
  obtain⟨⟨a0,a1,a2⟩,b0,b1,b2⟩:=HK.out w3 hB.out
  have kt:=c110 (neg:=sg) (exact:=xb) (e:=ea - eb - k) (mode:=mode) (HT.out.1.later (HX.out.1.trans (HB3.out.mono HX.out.1.size))) hI.out (Nat.le_trans (dlen_mono (Nat.div_le_self _ _)) (by have:=HL.out;omega)) (by omega) (by omega)
  go_wp2_with fail
  rw[hsg.out]
  refine kt.mono ?_
  rintro r w4 ⟨rfl,hb4⟩
  have HB4:Hid (Bw W w4):=HB3.out.trans (hb4.mono HB3.out.size)
  clear kt hb4
  go_wp2
  refine bodyPost_ret (results_tmp2 rfl _ _ _) rfl ?_
  exact⟨congrArg (fun b=>Ending.returned (Value.tuple #[.float .f64 (tfF sg b (x*2^k / y) (ea - eb - k) mode),.int .i64 0])) HXB.out,HX.out.1.trans (HB4.out.mono HX.out.1.size)⟩
end Go.Proofs.YthhaamilfioddaaGreatDoor
namespace Go.Proofs.YthhaamilfioddaaGreatDoor
end Go.Proofs.YthhaamilfioddaaGreatDoor
namespace Go.Proofs.YthhaamilfioddaaGreatDoor
open Go.RowKit Go.Fl64
open Ie
end Go.Proofs.YthhaamilfioddaaGreatDoor
/- A float is made anew of its odd part and its exponent, whatever the way of rounding. -/
namespace Go.Proofs.YthhaamilfioddaaGreatDoor.Ie
open Go.RowKit Go.Fl64
end Go.Proofs.YthhaamilfioddaaGreatDoor.Ie
namespace Go.Proofs.YthhaamilfioddaaGreatDoor
open Go.RowKit Go.Fl64
def nN (a:Nat):Bool:=if mag a=0 then false else neg a
def nM (a:Nat):Nat:=(Ie.sM a).toNat
theorem val_mant (a:Nat) (hf:mag a<9218868437227405312):val (mag a)=Ie.mant a*2^(Ie.lp a+1074).toNat ∧ -1074≤Ie.lp a∧Ie.lp a≤972:=by
 unfold val Ie.mant Ie.lp
 by_cases h:mag a<4503599627370496
 ·rw[if_pos h,if_pos h]
  have:(-1075+max 1 ((mag a / 4503599627370496:Nat):Int)+1074).toNat=0:=by omega
  rw[this,Nat.pow_zero,Nat.mul_one]
  exact⟨rfl,by omega,by omega⟩
 ·rw[if_neg h,if_neg h]
  have:(-1075+max 1 ((mag a / 4503599627370496:Nat):Int)+1074).toNat=mag a / 4503599627370496 - 1:=by omega
  rw[this]
  exact⟨rfl,by omega,by omega⟩
theorem num_zero {a:Nat} (h0:mag a=0):nM a=0∧Ie.sE a=0:=by
 constructor
 ·unfold nM Ie.sM
  rw[if_neg (by omega),if_pos h0]
  rfl
 ·unfold Ie.sE
  rw[if_neg (by omega),if_pos h0]
theorem num_parts {a:Nat} (hf:mag a<9218868437227405312) (h0:mag a≠0) :
  nM a % 2=1∧nM a<9007199254740992 ∧ -1074≤Ie.sE a∧Ie.sE a≤1100∧nM a*2^(Ie.sE a+1074).toNat=val (mag a):=by
 obtain⟨v1,v2,v3⟩:=val_mant a hf
 have hb:=Ie.mant_bound a
 have hne:=Ie.mant_ne h0
 have hct:Lib.ctz 64 (Ie.mant a)=tz (Ie.mant a):=tz_ctz hne (by omega)
 obtain⟨h1,h2⟩:=tz_spec _ (Ie.mant a) (Nat.le_refl _) hne
 have e1:nM a=Ie.mant a / 2^tz (Ie.mant a):=by
  unfold nM Ie.sM
  rw[if_neg (by omega),if_neg h0,hct]
  have:(Ie.mant a:Int) / 2^tz (Ie.mant a)=((Ie.mant a / 2^tz (Ie.mant a):Nat):Int):=by simp
  rw[this,Int.toNat_natCast]
 have e2:Ie.sE a=Ie.lp a+(tz (Ie.mant a):Int):=by
  unfold Ie.sE
  rw[if_neg (by omega),if_neg h0,hct]
 rw[v1]
 generalize Ie.mant a=M at *
 generalize tz M=t at *
 generalize Ie.lp a=p at *
 have hq:M / 2^t≤M:=Nat.div_le_self ..
 have ht:t≤53:=by
  apply Nat.le_of_not_lt
  intro h
  have h3:1≤M / 2^t:=Nat.pos_of_ne_zero fun e0=>by rw[e0] at h2;simp at h2
  have h4:=Nat.mul_le_mul_left (2^t) h3
  have h5:2^53≤2^t:=Nat.pow_le_pow_right (by omega) (by omega)
  have h6:(2:Nat)^53=9007199254740992:=by decide
  omega
 refine⟨by rw[e1];exact h2,by rw[e1];omega,by omega,by omega,?_⟩
 rw[e1,e2,show(p+(t:Int)+1074).toNat=t+(p+1074).toNat by omega,Nat.pow_add,←Nat.mul_assoc,Nat.mul_comm (M / 2^t),h1]
theorem cmp_scale {X Y:Nat} (k:Nat) {p q:Nat} (h1:X*2^k=p) (h2:Y*2^k=q):cmpI X Y=cmpI p q:=by
 have hp:=Nat.two_pow_pos k
 rcases cmpI_cases (X:Int) (Y:Int)with h|h|h
 ·have:X*2^k<Y*2^k:=Nat.mul_lt_mul_of_pos_right (by omega) hp
  rw[h.2];unfold cmpI;rw[if_pos (by omega)]
 ·have:Y*2^k<X*2^k:=Nat.mul_lt_mul_of_pos_right (by omega) hp
  rw[h.2];unfold cmpI;rw[if_neg (by omega),if_pos (by omega)]
 ·have e:X=Y:=by omega
  subst e
  rw[h.2];unfold cmpI;rw[if_neg (by omega),if_neg (by omega)]
theorem ord_num {a b:Nat} (ha:mag a<9218868437227405312) (hb:mag b<9218868437227405312):ordN (nN a) (nM a) (Ie.sE a) (nN b) (nM b) (Ie.sE b)=cmpI (stp a) (stp b):=by
 have sa:=sgn_mag a
 have sb:=sgn_mag b
 unfold ordN nN
 by_cases a0:mag a=0
 ·obtain⟨a1,a2⟩:=num_zero a0
  have ea:stp a=0:=by omega
  rw[if_pos a0,a1,a2,dlen_zero,sgI_zero,ea]
  by_cases b0:mag b=0
  ·obtain⟨b1,b2⟩:=num_zero b0
   have eb:stp b=0:=by omega
   rw[if_pos b0,b1,dlen_zero,sgI_zero,if_pos rfl,eb,Int.zero_mul]
   decide
  ·obtain⟨b1,-⟩:=num_parts hb b0
   have hd:dlen (nM b)≠0:=fun e=>by rw[dlen_eq_zero.1 e] at b1;simp at b1
   rw[if_neg b0,sgI_pos hd]
   rcases sb with ⟨s1,s2⟩|⟨s1,s2⟩
   ·rw[s2,s1]
    simp only[Bool.false_eq_true,if_false]
    unfold cmpI
    rw[if_neg (by omega),if_pos (by omega),if_pos (by omega)]
   ·rw[s2,s1]
    simp only[if_true]
    unfold cmpI
    rw[if_neg (by omega),if_neg (by omega),if_pos (by omega),if_neg (by omega),if_pos (by omega)]
 ·obtain⟨a1,a2,a3,a4,a5⟩:=num_parts ha a0
  have hda:dlen (nM a)≠0:=fun e=>by rw[dlen_eq_zero.1 e] at a1;simp at a1
  rw[if_neg a0,sgI_pos hda]
  by_cases b0:mag b=0
  ·obtain⟨b1,b2⟩:=num_zero b0
   have eb:stp b=0:=by omega
   rw[if_pos b0,b1,dlen_zero,sgI_zero,eb]
   rcases sa with ⟨s1,s2⟩|⟨s1,s2⟩
   ·rw[s2,s1]
    simp only[Bool.false_eq_true,if_false]
    unfold cmpI
    rw[if_neg (by omega),if_neg (by omega),if_pos (by omega),if_neg (by omega),if_pos (by omega)]
   ·rw[s2,s1]
    simp only[if_true]
    unfold cmpI
    rw[if_neg (by omega),if_pos (by omega),if_pos (by omega)]
  ·obtain⟨b1,b2,b3,b4,b5⟩:=num_parts hb b0
   have hdb:dlen (nM b)≠0:=fun e=>by rw[dlen_eq_zero.1 e] at b1;simp at b1
   rw[if_neg b0,sgI_pos hdb]
   have key:cmpI (nM a*2^(Ie.sE a - min (Ie.sE a) (Ie.sE b)).toNat:Nat) (nM b*2^(Ie.sE b - min (Ie.sE a) (Ie.sE b)).toNat:Nat)=cmpI (mag a) (mag b):=by
    have k1:=cmp_scale (X:=nM a*2^(Ie.sE a - min (Ie.sE a) (Ie.sE b)).toNat) (Y:=nM b*2^(Ie.sE b - min (Ie.sE a) (Ie.sE b)).toNat) (min (Ie.sE a) (Ie.sE b)+1074).toNat (p:=val (mag a)) (q:=val (mag b))
     (by rw[Nat.mul_assoc,←Nat.pow_add,←a5];congr 2;omega) (by rw[Nat.mul_assoc,←Nat.pow_add,←b5];congr 2;omega)
    rw[k1]
    have g1:=val_lt (mag a) (mag b)
    have g2:=val_lt (mag b) (mag a)
    rcases cmpI_cases (mag a:Int) (mag b:Int)with h|h|h
    ·rw[h.2];unfold cmpI;rw[if_pos (by omega)]
    ·rw[h.2];unfold cmpI;rw[if_neg (by omega),if_pos (by omega)]
    ·rw[h.2];unfold cmpI;rw[if_neg (by omega),if_neg (by omega)]
   rw[key]
   rcases sa with ⟨s1,s2⟩|⟨s1,s2⟩ <;> rcases sb with ⟨t1,t2⟩|⟨t1,t2⟩ <;> rw[s1,s2,t1,t2]
   ·simp only[Bool.false_eq_true,if_false,if_true]
    omega
   ·simp only[Bool.false_eq_true,if_false,if_true]
    rw[if_neg (by omega)]
    unfold cmpI
    rw[if_neg (by omega),if_pos (by omega),if_neg (by omega),if_pos (by omega)]
   ·simp only[Bool.false_eq_true,if_false,if_true]
    rw[if_neg (by omega)]
    unfold cmpI
    rw[if_pos (by omega),if_pos (by omega)]
   ·simp only[if_true]
    rcases cmpI_cases (mag a:Int) (mag b:Int)with h|h|h
    ·rw[h.2];unfold cmpI;rw[if_neg (by omega),if_pos (by omega)];rfl
    ·rw[h.2];unfold cmpI;rw[if_pos (by omega)];rfl
    ·rw[h.2];unfold cmpI;rw[if_neg (by omega),if_neg (by omega)];rfl
end Go.Proofs.YthhaamilfioddaaGreatDoor
namespace Go.Proofs.YthhaamilfioddaaGreatDoor
open Go.RowKit Go.Fl64
open Ie
end Go.Proofs.YthhaamilfioddaaGreatDoor
namespace Go.Proofs.YthhaamilfioddaaGreatDoor
open Go.RowKit Go.Fl64
theorem cmpI_mul {a b:Int} {c:Nat} (hc:0<c):cmpI (a*(c:Int)) (b*(c:Int))=cmpI a b:=by
 have hc':(0:Int)<(c:Int):=by omega
 unfold cmpI
 have h1:(a*(c:Int)<b*(c:Int))↔a<b:=⟨fun h=>Int.lt_of_mul_lt_mul_right h (Int.le_of_lt hc'),fun h=>Int.mul_lt_mul_of_pos_right h hc'⟩
 have h2:(b*(c:Int)<a*(c:Int))↔b<a:=⟨fun h=>Int.lt_of_mul_lt_mul_right h (Int.le_of_lt hc'),fun h=>Int.mul_lt_mul_of_pos_right h hc'⟩
 simp only[h1,h2]
theorem cmpI_neg (a b:Int):cmpI (-a) (-b) = - cmpI a b:=by
 unfold cmpI
 by_cases h1:a<b
 ·rw[if_neg (by omega),if_pos (by omega),if_pos h1];rfl
 ·by_cases h2:b<a
  ·rw[if_pos (by omega),if_neg h1,if_pos h2]
  ·rw[if_neg (by omega),if_neg (by omega),if_neg h1,if_neg h2];rfl
theorem sgI_eq (s:Bool) (x:Nat):sgI s (dlen x)=if x=0 then 0 else if s then -1 else 1:=by
 unfold sgI
 by_cases h:x=0
 ·subst h;simp[dlen_zero]
 ·rw[if_neg (fun e=>h (dlen_eq_zero.1 e)),if_neg h]
theorem ordN_vz {K:Nat} {na nb:Bool} {x y:Nat} {ea eb:Int} (h1:0≤ea+K) (h2:0≤eb+K):ordN na x ea nb y eb=cmpI (vz K na x ea) (vz K nb y eb):=by
 have hm:0≤min ea eb+(K:Int):=by omega
 have e1:vz K na x ea=vz K na (x*2^(ea - min ea eb).toNat) (min ea eb):=by
  rw[vz_shift hm,show min ea eb+((ea - min ea eb).toNat:Int)=ea by omega]
 have e2:vz K nb y eb=vz K nb (y*2^(eb - min ea eb).toNat) (min ea eb):=by
  rw[vz_shift hm,show min ea eb+((eb - min ea eb).toNat:Int)=eb by omega]
 have hx:x=0↔x*2^(ea - min ea eb).toNat=0:=by
  constructor
  ·rintro rfl;rw[Nat.zero_mul]
  ·intro h;rcases Nat.mul_eq_zero.1 h with h|h
   ·exact h
   ·have:=Nat.two_pow_pos (ea - min ea eb).toNat;omega
 have hy:y=0↔y*2^(eb - min ea eb).toNat=0:=by
  constructor
  ·rintro rfl;rw[Nat.zero_mul]
  ·intro h;rcases Nat.mul_eq_zero.1 h with h|h
   ·exact h
   ·have:=Nat.two_pow_pos (eb - min ea eb).toNat;omega
 rw[e1,e2]
 unfold ordN vz
 rw[cmpI_mul (Nat.two_pow_pos _),sgI_eq,sgI_eq]
 generalize x*2^(ea - min ea eb).toNat=X at *
 generalize y*2^(eb - min ea eb).toNat=Y at *
 by_cases x0:x=0
 ·have X0:=hx.1 x0
  rw[if_pos x0,X0]
  by_cases y0:y=0
  ·rw[if_pos y0,if_pos rfl,hy.1 y0,sv_zero,sv_zero]
   simp[cmpI]
  ·have Y0:Y≠0:=fun h=>y0 (hy.2 h)
   rw[if_neg y0,sv_zero]
   cases nb
   ·simp[sv,cmpI];omega
   ·simp[sv,cmpI];omega
 ·have X0:X≠0:=fun h=>x0 (hx.2 h)
  rw[if_neg x0]
  by_cases y0:y=0
  ·rw[if_pos y0,hy.1 y0,sv_zero]
   cases na
   ·simp[sv,cmpI];omega
   ·simp[sv,cmpI];omega
  ·have Y0:Y≠0:=fun h=>y0 (hy.2 h)
   rw[if_neg y0]
   cases na <;> cases nb
   ·simp[sv]
   ·simp[sv,cmpI];omega
   ·simp[sv,cmpI];omega
   ·simp only[if_true,sv]
    rw[cmpI_neg];omega
theorem cmp_gt {a b:Int} (h:b<a):0<cmpI a b:=by
 rcases cmpI_cases a b with ⟨h1,h2⟩|⟨h1,h2⟩|⟨h1,h2⟩ <;> omega
end Go.Proofs.YthhaamilfioddaaGreatDoor
namespace Go.Proofs.YthhaamilfioddaaGreatDoor
open Go.RowKit Go.Fl64
open Ie
theorem cinf_m (w:World):Calls Tryz.prog 35 #[.int .i64 (-1)] w fun r w'=>r=.returned (.float .f64 18442240474082181120)∧w'=w:=by
 have hb:=Ie.run_frombits
 go_enter Tryz.func35,Tryz.ntmps35
 go_wp2
 go_ret
 exact⟨rfl,rfl⟩
end Go.Proofs.YthhaamilfioddaaGreatDoor
namespace Go.Proofs.YthhaamilfioddaaGreatDoor
end Go.Proofs.YthhaamilfioddaaGreatDoor
namespace Go.Proofs.YthhaamilfioddaaGreatDoor
open Go.RowKit Go.Fl64
open Ie
end Go.Proofs.YthhaamilfioddaaGreatDoor
namespace Go.Proofs.YthhaamilfioddaaGreatDoor
open Go.RowKit
end Go.Proofs.YthhaamilfioddaaGreatDoor
namespace Go.Proofs.YthhaamilfioddaaGreatDoor
open Go.RowKit Go.Fl64
open Ie
end Go.Proofs.YthhaamilfioddaaGreatDoor
namespace Go.Proofs.YthhaamilfioddaaGreatDoor
open Go.RowKit Go.Fl64
theorem tF_fits (a:Nat):Fits (-1074) 1025 (tF a).2.1 (tF a).2.2:=by
 refine Fits.cn (.inr ⟨(Ie.lp_bound a).1,by have:=(Ie.lp_bound a).2;omega,?_⟩)
 have h:=Ie.mant_bound a
 have h2:=(Ie.lp_bound a).2
 have:2^53≤2^(1025 - Ie.lp a).toNat:=Nat.pow_le_pow_right (by decide) (by omega)
 omega
theorem tF_ok (a:Nat):Ok (tF a):=by
 refine ok_cn (Fits.ok (lo := -1074) (hi:=1025) (.inr ⟨(Ie.lp_bound a).1,by have:=(Ie.lp_bound a).2;omega,?_⟩) (by omega) (by omega) (by omega))
 have h:=Ie.mant_bound a
 have h2:=(Ie.lp_bound a).2
 have:2^53≤2^(1025 - Ie.lp a).toNat:=Nat.pow_le_pow_right (by decide) (by omega)
 omega
theorem cn_parts (a m:Nat) (ha:a<18446744073709551616) (hf:mag a<9218868437227405312) (hm:Ie.sM a=(m:Int)):cn (neg a) m (Ie.sE a)=tF a:=by
 unfold tF cn
 rcases of_parts a m ha hf hm with ⟨h1,h2⟩|⟨h1,h2,-,h3,h4⟩
 ·rw[if_pos h1,if_pos h2]
 ·rw[if_neg h1,if_neg h2,h3,h4]
theorem psign {t:Bool×Nat×Int} {A:Value} {w:World} (ok:Ok t) (h:PN w A t):Calls Tryz.prog 50 #[A] w fun r w'=>r=.returned (.int .i64 (sgI t.1 (dlen t.2.1)))∧Bw w w':=by
 obtain⟨ao,cap,rfl,h1⟩:=h
 obtain⟨f1,-,-,-,-⟩:=ok.facts
 exact sign_ok h1 (by omega) ok
end Go.Proofs.YthhaamilfioddaaGreatDoor
namespace Go.Proofs.YthhaamilfioddaaGreatDoor
open Go Go.RowKit
end Go.Proofs.YthhaamilfioddaaGreatDoor
namespace Go.Proofs.YthhaamilfioddaaGreatDoor
open Go.RowKit Go.Fl64
end Go.Proofs.YthhaamilfioddaaGreatDoor
namespace Go.Proofs.YthhaamilfioddaaGreatDoor
open Go Go.RowKit Go.Fl64 Go.Shelf
attribute [local go_sem] Oper.semAt_some
attribute [local go_sem] Oper.semAt_some
end Go.Proofs.YthhaamilfioddaaGreatDoor
namespace Go.Proofs.YthhaamilfioddaaGreatDoor
open Go.RowKit Go.Fl64
end Go.Proofs.YthhaamilfioddaaGreatDoor
/- The library's contracts at this program that decim uses. -/
namespace Go.Proofs
open Go.Shelf
def Tryz.lays161_ren:Go.Shelf.Ren:=⟨fun|161=>56|231=>103|227=>104|233=>105|235=>106|228=>117|197=>151|151=>152|260=>188|152=>115|137=>157|119=>158|224=>159|225=>160|217=>190|266=>211|n=>n,fun|9=>9|4=>4|3=>3|5=>5|117=>123|116=>122|0=>0|124=>126|105=>159|21=>21|119=>197|46=>56|139=>200|138=>199|n=>n,fun|3=>4|4=>5|n=>n⟩
theorem Tryz.lays161:Go.Proofs.Lays.n161 Tryz.prog Tryz.lays161_ren:={
 mixed:=by kernel_rfl
 f119:=Tryz.func158.trans (congrArg some (by kernel_rfl))
 f137:=Tryz.func157.trans (congrArg some (by kernel_rfl))
 f151:=Tryz.func152.trans (congrArg some (by kernel_rfl))
 f152:=Tryz.func115.trans (congrArg some (by kernel_rfl))
 f161:=Tryz.func56.trans (congrArg some (by kernel_rfl))
 f197:=Tryz.func151.trans (congrArg some (by kernel_rfl))
 f217:=Tryz.func190.trans (congrArg some (by kernel_rfl))
 f224:=Tryz.func159.trans (congrArg some (by kernel_rfl))
 f225:=Tryz.func160.trans (congrArg some (by kernel_rfl))
 f227:=Tryz.func104.trans (congrArg some (by kernel_rfl))
 f228:=Tryz.func117.trans (congrArg some (by kernel_rfl))
 f231:=Tryz.func103.trans (congrArg some (by kernel_rfl))
 f233:=Tryz.func105.trans (congrArg some (by kernel_rfl))
 f235:=Tryz.func106.trans (congrArg some (by kernel_rfl))
 f260:=Tryz.func188.trans (congrArg some (by kernel_rfl))
 f266:=Tryz.func211.trans (congrArg some (by kernel_rfl))
 t0:=Tryz.underlying0
 a0:=Tryz.isAgg0
 z0:=Tryz.sizeOf0
 v0:=Tryz.zeroValue0
 t3:=Tryz.underlying3
 a3:=Tryz.isAgg3
 z3:=Tryz.sizeOf3
 v3:=Tryz.zeroValue3
 t4:=Tryz.underlying4
 a4:=Tryz.isAgg4
 z4:=Tryz.sizeOf4
 v4:=Tryz.zeroValue4
 t5:=Tryz.underlying5
 a5:=Tryz.isAgg5
 z5:=Tryz.sizeOf5
 v5:=Tryz.zeroValue5
 t9:=Tryz.underlying9
 a9:=Tryz.isAgg9
 z9:=Tryz.sizeOf9
 v9:=Tryz.zeroValue9
 t21:=Tryz.underlying21
 a21:=Tryz.isAgg21
 z21:=Tryz.sizeOf21
 v21:=Tryz.zeroValue21
 t46:=Tryz.underlying56
 a46:=Tryz.isAgg56
 z46:=Tryz.sizeOf56
 v46:=Tryz.zeroValue56
 t105:=Tryz.underlying159
 a105:=Tryz.isAgg159
 z105:=Tryz.sizeOf159
 v105:=Tryz.zeroValue159
 t116:=Tryz.underlying122
 a116:=Tryz.isAgg122
 z116:=Tryz.sizeOf122
 t117:=Tryz.underlying123
 a117:=Tryz.isAgg123
 z117:=Tryz.sizeOf123
 v117:=Tryz.zeroValue123
 t119:=Tryz.underlying197
 a119:=Tryz.isAgg197
 z119:=Tryz.sizeOf197
 t124:=Tryz.underlying126
 a124:=Tryz.isAgg126
 z124:=Tryz.sizeOf126
 v124:=Tryz.zeroValue126
 t138:=Tryz.underlying199
 a138:=Tryz.isAgg199
 z138:=Tryz.sizeOf199
 v138:=Tryz.zeroValue199
 t139:=Tryz.underlying200
 a139:=Tryz.isAgg200
 z139:=Tryz.sizeOf200
 v139:=Tryz.zeroValue200
 g3:=by kernel_rfl
 g4:=by kernel_rfl }
open Go.RowKit in
theorem Tryz.strings_TrimLeft_one (s:ByteArray) (c:UInt8) (hc:c.toNat<128) (w:World) :
  Calls Tryz.prog 56 #[.string s,.string ⟨#[c]⟩] w fun e w'=>e=.returned (.string ⟨(Lib.trimLeftB s.data.toList c).toArray⟩)∧w'=w:=Any.strings_TrimLeft_one Tryz.lays161 s c hc w
def Tryz.lays162_ren:Go.Shelf.Ren:=⟨fun|162=>84|232=>131|227=>104|234=>132|236=>133|228=>117|271=>171|151=>152|120=>200|197=>151|152=>115|260=>188|137=>157|119=>158|224=>159|225=>160|217=>190|266=>211|n=>n,fun|9=>9|4=>4|3=>3|5=>5|117=>123|116=>122|0=>0|124=>126|21=>21|105=>159|46=>56|119=>197|139=>200|138=>199|n=>n,fun|3=>4|4=>5|n=>n⟩
theorem Tryz.lays162:Go.Proofs.Lays.n162 Tryz.prog Tryz.lays162_ren:={
 mixed:=by kernel_rfl
 f119:=Tryz.func158.trans (congrArg some (by kernel_rfl))
 f120:=Tryz.func200.trans (congrArg some (by kernel_rfl))
 f137:=Tryz.func157.trans (congrArg some (by kernel_rfl))
 f151:=Tryz.func152.trans (congrArg some (by kernel_rfl))
 f152:=Tryz.func115.trans (congrArg some (by kernel_rfl))
 f162:=Tryz.func84.trans (congrArg some (by kernel_rfl))
 f197:=Tryz.func151.trans (congrArg some (by kernel_rfl))
 f217:=Tryz.func190.trans (congrArg some (by kernel_rfl))
 f224:=Tryz.func159.trans (congrArg some (by kernel_rfl))
 f225:=Tryz.func160.trans (congrArg some (by kernel_rfl))
 f227:=Tryz.func104.trans (congrArg some (by kernel_rfl))
 f228:=Tryz.func117.trans (congrArg some (by kernel_rfl))
 f232:=Tryz.func131.trans (congrArg some (by kernel_rfl))
 f234:=Tryz.func132.trans (congrArg some (by kernel_rfl))
 f236:=Tryz.func133.trans (congrArg some (by kernel_rfl))
 f260:=Tryz.func188.trans (congrArg some (by kernel_rfl))
 f266:=Tryz.func211.trans (congrArg some (by kernel_rfl))
 f271:=Tryz.func171.trans (congrArg some (by kernel_rfl))
 t0:=Tryz.underlying0
 a0:=Tryz.isAgg0
 z0:=Tryz.sizeOf0
 v0:=Tryz.zeroValue0
 t3:=Tryz.underlying3
 a3:=Tryz.isAgg3
 z3:=Tryz.sizeOf3
 v3:=Tryz.zeroValue3
 t4:=Tryz.underlying4
 a4:=Tryz.isAgg4
 z4:=Tryz.sizeOf4
 v4:=Tryz.zeroValue4
 t5:=Tryz.underlying5
 a5:=Tryz.isAgg5
 z5:=Tryz.sizeOf5
 v5:=Tryz.zeroValue5
 t9:=Tryz.underlying9
 a9:=Tryz.isAgg9
 z9:=Tryz.sizeOf9
 v9:=Tryz.zeroValue9
 t21:=Tryz.underlying21
 a21:=Tryz.isAgg21
 z21:=Tryz.sizeOf21
 v21:=Tryz.zeroValue21
 t46:=Tryz.underlying56
 a46:=Tryz.isAgg56
 z46:=Tryz.sizeOf56
 v46:=Tryz.zeroValue56
 t105:=Tryz.underlying159
 a105:=Tryz.isAgg159
 z105:=Tryz.sizeOf159
 v105:=Tryz.zeroValue159
 t116:=Tryz.underlying122
 a116:=Tryz.isAgg122
 z116:=Tryz.sizeOf122
 t117:=Tryz.underlying123
 a117:=Tryz.isAgg123
 z117:=Tryz.sizeOf123
 v117:=Tryz.zeroValue123
 t119:=Tryz.underlying197
 a119:=Tryz.isAgg197
 z119:=Tryz.sizeOf197
 t124:=Tryz.underlying126
 a124:=Tryz.isAgg126
 z124:=Tryz.sizeOf126
 v124:=Tryz.zeroValue126
 t138:=Tryz.underlying199
 a138:=Tryz.isAgg199
 z138:=Tryz.sizeOf199
 v138:=Tryz.zeroValue199
 t139:=Tryz.underlying200
 a139:=Tryz.isAgg200
 z139:=Tryz.sizeOf200
 v139:=Tryz.zeroValue200
 g3:=by kernel_rfl
 g4:=by kernel_rfl }
open Go.RowKit in
theorem Tryz.strings_TrimRight_one (s:ByteArray) (c:UInt8) (hc:c.toNat<128) (w:World) (hs:s.size≤9223372036854775807) :
  Calls Tryz.prog 84 #[.string s,.string ⟨#[c]⟩] w fun e w'=>e=.returned (.string ⟨(Lib.trimRightB s.data.toList c).toArray⟩)∧w'=w:=Any.strings_TrimRight_one Tryz.lays162 s c hc w hs
def Tryz.lays119_ren:Go.Shelf.Ren:=⟨fun|119=>158|n=>n,fun|21=>21|4=>4|n=>n,fun|n=>n⟩
theorem Tryz.lays119:Go.Proofs.Lays.n119 Tryz.prog Tryz.lays119_ren:={
 mixed:=by kernel_rfl
 f119:=Tryz.func158.trans (congrArg some (by kernel_rfl))
 t4:=Tryz.underlying4
 a4:=Tryz.isAgg4
 z4:=Tryz.sizeOf4
 v4:=Tryz.zeroValue4
 t21:=Tryz.underlying21
 a21:=Tryz.isAgg21
 z21:=Tryz.sizeOf21
 v21:=Tryz.zeroValue21 }
theorem Tryz.utf8_ValidRune (r:Int) (w:World) :
  Calls Tryz.prog 158 #[.int .i32 r] w fun e w'=>e=.returned (.bool (Lib.validRune r))∧w'=w:=Any.utf8_ValidRune Tryz.lays119 r w
def Tryz.lays137_ren:Go.Shelf.Ren:=⟨fun|137=>157|217=>190|266=>211|n=>n,fun|9=>9|5=>5|3=>3|n=>n,fun|n=>n⟩
theorem Tryz.lays137:Go.Proofs.Lays.n137 Tryz.prog Tryz.lays137_ren:={
 mixed:=by kernel_rfl
 f137:=Tryz.func157.trans (congrArg some (by kernel_rfl))
 f217:=Tryz.func190.trans (congrArg some (by kernel_rfl))
 f266:=Tryz.func211.trans (congrArg some (by kernel_rfl))
 t3:=Tryz.underlying3
 a3:=Tryz.isAgg3
 z3:=Tryz.sizeOf3
 v3:=Tryz.zeroValue3
 t5:=Tryz.underlying5
 a5:=Tryz.isAgg5
 z5:=Tryz.sizeOf5
 v5:=Tryz.zeroValue5
 t9:=Tryz.underlying9
 a9:=Tryz.isAgg9
 z9:=Tryz.sizeOf9
 v9:=Tryz.zeroValue9 }
open Go.RowKit in
theorem Tryz.strings_IndexByte (s:ByteArray) (c:Int) (w:World) :
  Calls Tryz.prog 157 #[.string s,.int .u8 c] w fun e w'=>e=.returned (.int .i64 (Lib.indexByte s.data.toList c.toNat.toUInt8))∧w'=w:=Any.strings_IndexByte Tryz.lays137 s c w
def Tryz.lays219_ren:Go.Shelf.Ren:=⟨fun|219=>161|217=>190|225=>160|224=>159|267=>191|266=>211|314=>212|n=>n,fun|9=>9|3=>3|4=>4|5=>5|46=>56|146=>174|51=>57|n=>n,fun|1=>2|n=>n⟩
theorem Tryz.lays219:Go.Proofs.Lays.n219 Tryz.prog Tryz.lays219_ren:={
 mixed:=by kernel_rfl
 f217:=Tryz.func190.trans (congrArg some (by kernel_rfl))
 f219:=Tryz.func161.trans (congrArg some (by kernel_rfl))
 f224:=Tryz.func159.trans (congrArg some (by kernel_rfl))
 f225:=Tryz.func160.trans (congrArg some (by kernel_rfl))
 f266:=Tryz.func211.trans (congrArg some (by kernel_rfl))
 f267:=Tryz.func191.trans (congrArg some (by kernel_rfl))
 f314:=Tryz.func212.trans (congrArg some (by kernel_rfl))
 t3:=Tryz.underlying3
 a3:=Tryz.isAgg3
 z3:=Tryz.sizeOf3
 v3:=Tryz.zeroValue3
 t4:=Tryz.underlying4
 a4:=Tryz.isAgg4
 z4:=Tryz.sizeOf4
 v4:=Tryz.zeroValue4
 t5:=Tryz.underlying5
 a5:=Tryz.isAgg5
 z5:=Tryz.sizeOf5
 v5:=Tryz.zeroValue5
 t9:=Tryz.underlying9
 a9:=Tryz.isAgg9
 z9:=Tryz.sizeOf9
 v9:=Tryz.zeroValue9
 t46:=Tryz.underlying56
 a46:=Tryz.isAgg56
 z46:=Tryz.sizeOf56
 v46:=Tryz.zeroValue56
 t51:=Tryz.underlying57
 a51:=Tryz.isAgg57
 z51:=Tryz.sizeOf57
 v51:=Tryz.zeroValue57
 t146:=Tryz.underlying174
 a146:=Tryz.isAgg174
 z146:=Tryz.sizeOf174
 v146:=Tryz.zeroValue174
 g1:=by kernel_rfl }
open Go.RowKit Go.Lib in
theorem Tryz.stringslite_Index_one (s:ByteArray) (c:UInt8) (w:World) :
  Calls Tryz.prog 161 #[.string s,.string ⟨#[c]⟩] w fun e w'=>e=.returned (.int .i64 (Lib.indexByte s.data.toList c))∧w'=w:=Any.stringslite_Index_one Tryz.lays219 s c w
def Tryz.lays99_ren:Go.Shelf.Ren:=⟨fun|99=>71|206=>114|n=>n,fun|9=>9|4=>4|3=>3|n=>n,fun|n=>n⟩
theorem Tryz.lays99:Go.Proofs.Lays.n99 Tryz.prog Tryz.lays99_ren:={
 mixed:=by kernel_rfl
 f99:=Tryz.func71.trans (congrArg some (by kernel_rfl))
 f206:=Tryz.func114.trans (congrArg some (by kernel_rfl))
 t3:=Tryz.underlying3
 a3:=Tryz.isAgg3
 z3:=Tryz.sizeOf3
 v3:=Tryz.zeroValue3
 t4:=Tryz.underlying4
 a4:=Tryz.isAgg4
 z4:=Tryz.sizeOf4
 v4:=Tryz.zeroValue4
 t9:=Tryz.underlying9
 a9:=Tryz.isAgg9
 z9:=Tryz.sizeOf9
 v9:=Tryz.zeroValue9 }
open Go.RowKit Go.Lib in
theorem Tryz.strings_HasPrefix (s p:ByteArray) (w:World) :
  Calls Tryz.prog 71 #[.string s,.string p] w fun e w'=>e=.returned (.bool (Lib.hasPrefix s.data.toList p.data.toList))∧w'=w:=Any.strings_HasPrefix Tryz.lays99 s p w
def Tryz.lays152_ren:Go.Shelf.Ren:=⟨fun|152=>115|137=>157|119=>158|224=>159|225=>160|217=>190|266=>211|n=>n,fun|9=>9|21=>21|3=>3|4=>4|5=>5|0=>0|46=>56|n=>n,fun|n=>n⟩
theorem Tryz.lays152:Go.Proofs.Lays.n152 Tryz.prog Tryz.lays152_ren:={
 mixed:=by kernel_rfl
 f119:=Tryz.func158.trans (congrArg some (by kernel_rfl))
 f137:=Tryz.func157.trans (congrArg some (by kernel_rfl))
 f152:=Tryz.func115.trans (congrArg some (by kernel_rfl))
 f217:=Tryz.func190.trans (congrArg some (by kernel_rfl))
 f224:=Tryz.func159.trans (congrArg some (by kernel_rfl))
 f225:=Tryz.func160.trans (congrArg some (by kernel_rfl))
 f266:=Tryz.func211.trans (congrArg some (by kernel_rfl))
 t0:=Tryz.underlying0
 a0:=Tryz.isAgg0
 z0:=Tryz.sizeOf0
 v0:=Tryz.zeroValue0
 t3:=Tryz.underlying3
 a3:=Tryz.isAgg3
 z3:=Tryz.sizeOf3
 v3:=Tryz.zeroValue3
 t4:=Tryz.underlying4
 a4:=Tryz.isAgg4
 z4:=Tryz.sizeOf4
 v4:=Tryz.zeroValue4
 t5:=Tryz.underlying5
 a5:=Tryz.isAgg5
 z5:=Tryz.sizeOf5
 v5:=Tryz.zeroValue5
 t9:=Tryz.underlying9
 a9:=Tryz.isAgg9
 z9:=Tryz.sizeOf9
 v9:=Tryz.zeroValue9
 t21:=Tryz.underlying21
 a21:=Tryz.isAgg21
 z21:=Tryz.sizeOf21
 v21:=Tryz.zeroValue21
 t46:=Tryz.underlying56
 a46:=Tryz.isAgg56
 z46:=Tryz.sizeOf56
 v46:=Tryz.zeroValue56 }
open Go.RowKit Go.Lib in
theorem Tryz.strings_IndexRune_ascii (s:ByteArray) (r:Int) (w:World) (h0:0≤r) (h1:r<128) :
  Calls Tryz.prog 115 #[.string s,.int .i32 r] w fun e w'=>e=.returned (.int .i64 (Lib.indexByte s.data.toList r.toNat.toUInt8))∧w'=w:=Any.strings_IndexRune_ascii Tryz.lays152 s r w h0 h1
def Tryz.lays226_ren:Go.Shelf.Ren:=⟨fun|226=>116|n=>n,fun|3=>3|4=>4|n=>n,fun|n=>n⟩
theorem Tryz.lays226:Go.Proofs.Lays.n226 Tryz.prog Tryz.lays226_ren:={
 mixed:=by kernel_rfl
 f226:=Tryz.func116.trans (congrArg some (by kernel_rfl))
 t3:=Tryz.underlying3
 a3:=Tryz.isAgg3
 z3:=Tryz.sizeOf3
 v3:=Tryz.zeroValue3
 t4:=Tryz.underlying4
 a4:=Tryz.isAgg4
 z4:=Tryz.sizeOf4
 v4:=Tryz.zeroValue4 }
open Go.RowKit Go.Lib in
theorem Tryz.strings_shouldUseASCIISet (n:Int) (w:World) :
  Calls Tryz.prog 116 #[.int .i64 n] w fun e w'=>e=.returned (.bool (decide (8<n)))∧w'=w:=Any.strings_shouldUseASCIISet Tryz.lays226 n w
def Tryz.lays153_ren:Go.Shelf.Ren:=⟨fun|153=>72|152=>115|226=>116|227=>104|228=>117|137=>157|119=>158|224=>159|225=>160|217=>190|266=>211|n=>n,fun|9=>9|3=>3|4=>4|5=>5|21=>21|117=>123|116=>122|0=>0|46=>56|124=>126|n=>n,fun|n=>n⟩
theorem Tryz.lays153:Go.Proofs.Lays.n153 Tryz.prog Tryz.lays153_ren:={
 mixed:=by kernel_rfl
 f119:=Tryz.func158.trans (congrArg some (by kernel_rfl))
 f137:=Tryz.func157.trans (congrArg some (by kernel_rfl))
 f152:=Tryz.func115.trans (congrArg some (by kernel_rfl))
 f153:=Tryz.func72.trans (congrArg some (by kernel_rfl))
 f217:=Tryz.func190.trans (congrArg some (by kernel_rfl))
 f224:=Tryz.func159.trans (congrArg some (by kernel_rfl))
 f225:=Tryz.func160.trans (congrArg some (by kernel_rfl))
 f226:=Tryz.func116.trans (congrArg some (by kernel_rfl))
 f227:=Tryz.func104.trans (congrArg some (by kernel_rfl))
 f228:=Tryz.func117.trans (congrArg some (by kernel_rfl))
 f266:=Tryz.func211.trans (congrArg some (by kernel_rfl))
 t0:=Tryz.underlying0
 a0:=Tryz.isAgg0
 z0:=Tryz.sizeOf0
 v0:=Tryz.zeroValue0
 t3:=Tryz.underlying3
 a3:=Tryz.isAgg3
 z3:=Tryz.sizeOf3
 v3:=Tryz.zeroValue3
 t4:=Tryz.underlying4
 a4:=Tryz.isAgg4
 z4:=Tryz.sizeOf4
 v4:=Tryz.zeroValue4
 t5:=Tryz.underlying5
 a5:=Tryz.isAgg5
 z5:=Tryz.sizeOf5
 v5:=Tryz.zeroValue5
 t9:=Tryz.underlying9
 a9:=Tryz.isAgg9
 z9:=Tryz.sizeOf9
 v9:=Tryz.zeroValue9
 t21:=Tryz.underlying21
 a21:=Tryz.isAgg21
 z21:=Tryz.sizeOf21
 v21:=Tryz.zeroValue21
 t46:=Tryz.underlying56
 a46:=Tryz.isAgg56
 z46:=Tryz.sizeOf56
 v46:=Tryz.zeroValue56
 t116:=Tryz.underlying122
 a116:=Tryz.isAgg122
 z116:=Tryz.sizeOf122
 t117:=Tryz.underlying123
 a117:=Tryz.isAgg123
 z117:=Tryz.sizeOf123
 v117:=Tryz.zeroValue123
 t124:=Tryz.underlying126
 a124:=Tryz.isAgg126
 z124:=Tryz.sizeOf126
 v124:=Tryz.zeroValue126 }
open Go.RowKit Go.Lib in
theorem Tryz.strings_IndexAny_short (s chars:ByteArray) (w:World) (h2:2≤chars.size) (h8:s.size≤8) (hascii:∀ (j:Nat) b,s.data.toList[j]?=some b→b.toNat<128) :
  Calls Tryz.prog 72 #[.string s,.string chars] w fun e w'=>e=.returned (.int .i64 (Lib.indexAny s.data.toList chars.data.toList))∧∃ pos,w'=w.iter s pos:=Any.strings_IndexAny_short Tryz.lays153 s chars w h2 h8 hascii
open Go.RowKit Go.Lib in
theorem Tryz.strings_IndexAny_long (hv116:∀ w,(zeroValue 122).run Tryz.prog w=.ok (.agg (Array.replicate 256 (.bool false))) w) (s chars:ByteArray) (w:World) (h2:2≤chars.size) (h8:8<s.size) (hs:s.size<4294967281) (hcs:chars.size<4294967281) (hascii:∀ (j:Nat) b,chars.data.toList[j]?=some b→b.toNat<128) :
  Calls Tryz.prog 72 #[.string s,.string chars] w fun e w'=>e=.returned (.int .i64 (Lib.indexAny s.data.toList chars.data.toList))∧w'=((w.alloc (.cells (Lib.setCells chars.data.toList) 122)).alloc (.cells (Lib.setCells chars.data.toList) 122)):=Any.strings_IndexAny_long Tryz.lays153 hv116 (by kernel_rfl) s chars w h2 h8 hs hcs hascii
def Tryz.lays105_ren:Go.Shelf.Ren:=⟨fun|105=>93|212=>136|99=>71|165=>137|166=>138|170=>139|169=>140|263=>177|264=>178|206=>114|240=>179|241=>180|276=>205|277=>206|n=>n,fun|9=>9|3=>3|4=>4|20=>20|0=>0|46=>56|109=>145|5=>5|72=>149|76=>151|51=>57|146=>174|53=>39|148=>142|70=>147|37=>52|75=>136|127=>177|164=>192|80=>51|n=>n,fun|n=>n⟩
theorem Tryz.lays105:Go.Proofs.Lays.n105 Tryz.prog Tryz.lays105_ren:={
 mixed:=by kernel_rfl
 f99:=Tryz.func71.trans (congrArg some (by kernel_rfl))
 f105:=Tryz.func93.trans (congrArg some (by kernel_rfl))
 f165:=Tryz.func137.trans (congrArg some (by kernel_rfl))
 f166:=Tryz.func138.trans (congrArg some (by kernel_rfl))
 f169:=Tryz.func140.trans (congrArg some (by kernel_rfl))
 f170:=Tryz.func139.trans (congrArg some (by kernel_rfl))
 f206:=Tryz.func114.trans (congrArg some (by kernel_rfl))
 f212:=Tryz.func136.trans (congrArg some (by kernel_rfl))
 f240:=Tryz.func179.trans (congrArg some (by kernel_rfl))
 f241:=Tryz.func180.trans (congrArg some (by kernel_rfl))
 f263:=Tryz.func177.trans (congrArg some (by kernel_rfl))
 f264:=Tryz.func178.trans (congrArg some (by kernel_rfl))
 f276:=Tryz.func205.trans (congrArg some (by kernel_rfl))
 f277:=Tryz.func206.trans (congrArg some (by kernel_rfl))
 t0:=Tryz.underlying0
 a0:=Tryz.isAgg0
 z0:=Tryz.sizeOf0
 v0:=Tryz.zeroValue0
 t3:=Tryz.underlying3
 a3:=Tryz.isAgg3
 z3:=Tryz.sizeOf3
 v3:=Tryz.zeroValue3
 t4:=Tryz.underlying4
 a4:=Tryz.isAgg4
 z4:=Tryz.sizeOf4
 v4:=Tryz.zeroValue4
 t5:=Tryz.underlying5
 a5:=Tryz.isAgg5
 z5:=Tryz.sizeOf5
 v5:=Tryz.zeroValue5
 t9:=Tryz.underlying9
 a9:=Tryz.isAgg9
 z9:=Tryz.sizeOf9
 v9:=Tryz.zeroValue9
 t20:=Tryz.underlying20
 a20:=Tryz.isAgg20
 z20:=Tryz.sizeOf20
 v20:=Tryz.zeroValue20
 t37:=Tryz.underlying52
 a37:=Tryz.isAgg52
 z37:=Tryz.sizeOf52
 v37:=Tryz.zeroValue52
 t46:=Tryz.underlying56
 a46:=Tryz.isAgg56
 z46:=Tryz.sizeOf56
 v46:=Tryz.zeroValue56
 t51:=Tryz.underlying57
 a51:=Tryz.isAgg57
 z51:=Tryz.sizeOf57
 v51:=Tryz.zeroValue57
 t53:=Tryz.underlying39
 a53:=Tryz.isAgg39
 z53:=Tryz.sizeOf39
 v53:=Tryz.zeroValue39
 t70:=Tryz.underlying147
 a70:=Tryz.isAgg147
 z70:=Tryz.sizeOf147
 v70:=Tryz.zeroValue147
 t72:=Tryz.underlying149
 a72:=Tryz.isAgg149
 z72:=Tryz.sizeOf149
 v72:=Tryz.zeroValue149
 t75:=Tryz.underlying136
 a75:=Tryz.isAgg136
 z75:=Tryz.sizeOf136
 v75:=Tryz.zeroValue136
 t76:=Tryz.underlying151
 a76:=Tryz.isAgg151
 z76:=Tryz.sizeOf151
 v76:=Tryz.zeroValue151
 t109:=Tryz.underlying145
 a109:=Tryz.isAgg145
 z109:=Tryz.sizeOf145
 v109:=Tryz.zeroValue145
 t127:=Tryz.underlying177
 a127:=Tryz.isAgg177
 z127:=Tryz.sizeOf177
 v127:=Tryz.zeroValue177
 t146:=Tryz.underlying174
 a146:=Tryz.isAgg174
 z146:=Tryz.sizeOf174
 v146:=Tryz.zeroValue174
 t148:=Tryz.underlying142
 a148:=Tryz.isAgg142
 z148:=Tryz.sizeOf142
 v148:=Tryz.zeroValue142
 t164:=Tryz.underlying192
 a164:=Tryz.isAgg192
 z164:=Tryz.sizeOf192
 v164:=Tryz.zeroValue192 }
theorem Tryz.Builder_Extra_105:Builder.Extra Tryz.prog Tryz.lays105_ren:={
 sizeBuilder:=by kernel_rfl
 liesBuilder:=by kernel_rfl
 t5:=Tryz.underlying5
 a5:=Tryz.isAgg5
 z5:=Tryz.sizeOf5
 v5:=Tryz.zeroValue5
 infoByte:=by kernel_rfl
 cellsByte:=by kernel_rfl
 sizeByte:=by kernel_rfl
 neB5:=by decide }
open Go.RowKit Go.Lib in
theorem Tryz.strings_Repeat (s:ByteArray) (c:Nat) (w:World) (hc:c≤9223372036854775807) (hlen:s.size*c≤140737488355328) :
  Calls Tryz.prog 93 #[.string s,.int .i64 c] w fun e w'=>e=.returned (.string ⟨(Lib.repeatL s.data.toList c).toArray⟩)∧Go.Proofs.YthhaamilfioddaaGreatDoor.Bw w w':=Any.strings_Repeat Tryz.lays105 Tryz.Builder_Extra_105 s c w hc hlen
end Go.Proofs
namespace Go.Proofs.YthhaamilfioddaaGreatDoor
open Go.RowKit
theorem rmag_1 (na nb:Bool) (ua va:Option Addr) (un uc vn vc:Nat) (ea eb ha hb:Int) (w:World) (hn1:((un:Int)==0)=false) (hn2:((vn:Int)==0)=false)
  (hh1 : -64000000000≤ha) (hh2:ha≤64000000000) (hh3 : -64000000000≤hb) (hh4:hb≤64000000000) (hne:ha≠hb)
  (kA:∀ W,Bw w W→Calls Tryz.prog 70 #[.agg #[.bool na,.slice ua un uc,.int .i64 ea]] W fun r w'=>r=.returned (.int .i64 ha)∧Bw W w')
  (kB:∀ W,Bw w W→Calls Tryz.prog 70 #[.agg #[.bool nb,.slice va vn vc,.int .i64 eb]] W fun r w'=>r=.returned (.int .i64 hb)∧Bw W w') :
  Calls Tryz.prog 33 #[.agg #[.bool na,.slice ua un uc,.int .i64 ea],.agg #[.bool nb,.slice va vn vc,.int .i64 eb]] w fun r w'=>r=.returned (.int .i64 (ha - hb))∧Bw w w':=by
 obtain⟨W,hW⟩:∃ W,W=(w.alloc (.cells #[.bool na,.slice ua un uc,.int .i64 ea] 30)).alloc (.cells #[.bool nb,.slice va vn vc,.int .i64 eb] 30):=⟨_,rfl⟩
 obtain⟨hA,hBb,hsz,hBW⟩:=two29 _ _ hW
 have HX:Hid (Bw w W):=hBW
 have kA':∀ w4,Bw W w4→Calls Tryz.prog 70 #[.agg #[.bool na,.slice ua un uc,.int .i64 ea]] w4 fun r w'=>r=.returned (.int .i64 ha)∧Bw W w':=fun w4 h4=>(kA w4 (hBW.trans (h4.mono hBW.size))).mono fun r w' ⟨e1,o2⟩=>⟨e1,h4.trans (o2.mono h4.size)⟩
 have kB':∀ w4,Bw W w4→Calls Tryz.prog 70 #[.agg #[.bool nb,.slice va vn vc,.int .i64 eb]] w4 fun r w'=>r=.returned (.int .i64 hb)∧Bw W w':=fun w4 h4=>(kB w4 (hBW.trans (h4.mono hBW.size))).mono fun r w' ⟨e1,o2⟩=>⟨e1,h4.trans (o2.mono h4.size)⟩
 have HKA:Hid (∀ w4,Bw W w4→Calls Tryz.prog 70 #[.agg #[.bool na,.slice ua un uc,.int .i64 ea]] w4 fun r w'=>r=.returned (.int .i64 ha)∧Bw W w'):=kA'
 have HKB:Hid (∀ w4,Bw W w4→Calls Tryz.prog 70 #[.agg #[.bool nb,.slice va vn vc,.int .i64 eb]] w4 fun r w'=>r=.returned (.int .i64 hb)∧Bw W w'):=kB'
 obtain⟨⟨a0,a1,a2⟩,-⟩:=box_cells29 hA
 obtain⟨⟨b0,b1,b2⟩,-⟩:=box_cells29 hBb
 have HK:Hid (∀ w',Bw W w'→((w'.cell? ⟨w.heap.size,0,none⟩=some (.bool na)∧w'.cell? ⟨w.heap.size,1,none⟩=some (.slice ua un uc)∧w'.cell? ⟨w.heap.size,2,none⟩=some (.int .i64 ea))∧(w'.cell? ⟨w.heap.size+1,0,none⟩=some (.bool nb)∧w'.cell? ⟨w.heap.size+1,1,none⟩=some (.slice va vn vc)∧w'.cell? ⟨w.heap.size+1,2,none⟩=some (.int .i64 eb)))):=fun w' hb=>⟨(box_cells29 (box_later hA hb (by omega))).1,(box_cells29 (box_later hBb hb (by omega))).1⟩
 have HRD:Hid (∀ w',Bw W w'→Bw W w'.drew):=fun w' h=>h.trans ⟨rfl,rfl,rfl,Nat.le_refl _,fun _ _=>rfl⟩
 have hBR:Bw W W.drew:=(Below.refl _ _).drew
 have HZ:Hid (IntKind.i64.wrap (ha - hb)=ha - hb):=(by rw[IntKind.wrap_i64];omega:IntKind.i64.wrap (ha - hb)=ha - hb)
 have hne':(ha==hb)=false:=by simpa using hne
 clear kA kB hA hBb hsz hBW hne hh1 hh2 hh3 hh4
 go_enter Tryz.func33,Tryz.ntmps33
 go_upto_region 3 with fail
 rw[←hW]
 clear hW
 go_cut [24] from 25 to 29 (fun v w'=>v=.bool true∧Hid (Bw W w'))
 case first =>
  go_region_held3 (fun w'=>((w'.cell? ⟨w.heap.size,0,none⟩=some (.bool na)∧w'.cell? ⟨w.heap.size,1,none⟩=some (.slice ua un uc)∧w'.cell? ⟨w.heap.size,2,none⟩=some (.int .i64 ea))∧(w'.cell? ⟨w.heap.size+1,0,none⟩=some (.bool nb)∧w'.cell? ⟨w.heap.size+1,1,none⟩=some (.slice va vn vc)∧w'.cell? ⟨w.heap.size+1,2,none⟩=some (.int .i64 eb)))) (first|(with_reducible assumption)|exact⟨⟨a0,a1,a2⟩,b0,b1,b2⟩|(refine HK.out _ ?_;with_reducible assumption)|go_keep)
   (first|(go_at_call 70;first|(with_reducible refine(kA' _ (by first|(with_reducible assumption)|exact hBR)).mono ?_;rintro r w5 ⟨rfl,hb5⟩)|(with_reducible refine(kB' _ (by first|(with_reducible assumption)|exact hBR)).mono ?_;rintro r w6 ⟨rfl,hb6⟩)))
  all_goals go_wp2_with fail
  all_goals go_meet
  all_goals exact⟨by rw[bne,hne'];rfl,by first|exact hb6|exact hb5⟩
 case rest =>
  obtain⟨rfl,hc⟩:=hcut
  obtain⟨W2,rfl⟩:∃ W2:World,W2=wc:=⟨_,rfl⟩
  clear a0 a1 a2 b0 b1 b2 kA' kB' hBR
  obtain⟨⟨a0,a1,a2⟩,b0,b1,b2⟩:=HK.out W2 hc.out
  have hBR:Bw W W2.drew:=HRD.out _ hc.out
  have kA':=HKA.out
  have kB':=HKB.out
  go_upto_region 4 with fail
  go_region_held3 (fun w'=>((w'.cell? ⟨w.heap.size,0,none⟩=some (.bool na)∧w'.cell? ⟨w.heap.size,1,none⟩=some (.slice ua un uc)∧w'.cell? ⟨w.heap.size,2,none⟩=some (.int .i64 ea))∧(w'.cell? ⟨w.heap.size+1,0,none⟩=some (.bool nb)∧w'.cell? ⟨w.heap.size+1,1,none⟩=some (.slice va vn vc)∧w'.cell? ⟨w.heap.size+1,2,none⟩=some (.int .i64 eb)))) (first|(with_reducible assumption)|exact⟨⟨a0,a1,a2⟩,b0,b1,b2⟩|(refine HK.out _ ?_;with_reducible assumption)|go_keep)
   (first|(go_at_call 70;first|(with_reducible refine(kA' _ (by first|(with_reducible assumption)|exact hBR)).mono ?_;rintro r w5 ⟨rfl,hb5⟩)|(with_reducible refine(kB' _ (by first|(with_reducible assumption)|exact hBR)).mono ?_;rintro r w6 ⟨rfl,hb6⟩)))
  all_goals (have HL5:Hid (Bw W w5):=hb5;have HL6:Hid (Bw W w6):=hb6;clear kA' kB' HK HKA HKB a0 a1 a2 b0 b1 b2 hBR hb5 hb6;go_wp2;go_ret;first|exact⟨by rw[HZ.out];rfl,HX.out.trans (HL6.out.mono HX.out.size)⟩|exact⟨by rw[HZ.out];rfl,HX.out.trans (HL5.out.mono HX.out.size)⟩)
theorem rmag_2 (na nb:Bool) (ua va:Option Addr) (un uc vn vc X Y:Nat) (ea eb ha:Int) (w:World) (hn1:((un:Int)==0)=false) (hn2:((vn:Int)==0)=false) (hX:dlen X≤1000000) (hY:dlen Y≤1000000)
  (he1 : -4000000≤ea) (he2:ea≤4000000) (he3 : -4000000≤eb) (he4:eb≤4000000)
  (kA:∀ W,Bw w W→Calls Tryz.prog 70 #[.agg #[.bool na,.slice ua un uc,.int .i64 ea]] W fun r w'=>r=.returned (.int .i64 ha)∧Bw W w')
  (kB:∀ W,Bw w W→Calls Tryz.prog 70 #[.agg #[.bool nb,.slice va vn vc,.int .i64 eb]] W fun r w'=>r=.returned (.int .i64 ha)∧Bw W w')
  (ku:∀ W i,Bw w W→i=ea - min ea eb→Calls Tryz.prog 67 #[.slice ua un uc,.int .i64 i] W fun r w'=>∃ v,r=.returned v∧Ir w' v X∧Bw W w')
  (kv:∀ W i,Bw w W→i=eb - min ea eb→Calls Tryz.prog 67 #[.slice va vn vc,.int .i64 i] W fun r w'=>∃ v,r=.returned v∧Ir w' v Y∧Bw W w') :
  Calls Tryz.prog 33 #[.agg #[.bool na,.slice ua un uc,.int .i64 ea],.agg #[.bool nb,.slice va vn vc,.int .i64 eb]] w fun r w'=>r=.returned (.int .i64 (cmpI X Y))∧Bw w w':=by
 obtain⟨W,hW⟩:∃ W,W=(w.alloc (.cells #[.bool na,.slice ua un uc,.int .i64 ea] 30)).alloc (.cells #[.bool nb,.slice va vn vc,.int .i64 eb] 30):=⟨_,rfl⟩
 obtain⟨hA,hBb,hsz,hBW⟩:=two29 _ _ hW
 have HX:Hid (Bw w W):=hBW
 have kA':∀ w4,Bw W w4→Calls Tryz.prog 70 #[.agg #[.bool na,.slice ua un uc,.int .i64 ea]] w4 fun r w'=>r=.returned (.int .i64 ha)∧Bw W w':=fun w4 h4=>(kA w4 (hBW.trans (h4.mono hBW.size))).mono fun r w' ⟨e1,o2⟩=>⟨e1,h4.trans (o2.mono h4.size)⟩
 have kB':∀ w4,Bw W w4→Calls Tryz.prog 70 #[.agg #[.bool nb,.slice va vn vc,.int .i64 eb]] w4 fun r w'=>r=.returned (.int .i64 ha)∧Bw W w':=fun w4 h4=>(kB w4 (hBW.trans (h4.mono hBW.size))).mono fun r w' ⟨e1,o2⟩=>⟨e1,h4.trans (o2.mono h4.size)⟩
 obtain⟨i1,hi1⟩:∃ i1,i1=ea - min ea eb:=⟨_,rfl⟩
 obtain⟨i2,hi2⟩:∃ i2,i2=eb - min ea eb:=⟨_,rfl⟩
 have HKU:Hid (∀ w4,Bw W w4→Calls Tryz.prog 67 #[.slice ua un uc,.int .i64 i1] w4 fun r w'=>∃ v,r=.returned v∧Ir w' v X∧Bw W w'∧Bw w4 w'):=(fun w4 h4=>(ku w4 i1 (hBW.trans (h4.mono hBW.size)) hi1).mono fun r w' ⟨v,e1,o1,o2⟩=>⟨v,e1,o1,h4.trans (o2.mono h4.size),o2⟩:∀ w4,Bw W w4→Calls Tryz.prog 67 #[.slice ua un uc,.int .i64 i1] w4 fun r w'=>∃ v,r=.returned v∧Ir w' v X∧Bw W w'∧Bw w4 w')
 have HKV:Hid (∀ w4,Bw W w4→Calls Tryz.prog 67 #[.slice va vn vc,.int .i64 i2] w4 fun r w'=>∃ v,r=.returned v∧Ir w' v Y∧Bw W w'∧Bw w4 w'):=(fun w4 h4=>(kv w4 i2 (hBW.trans (h4.mono hBW.size)) hi2).mono fun r w' ⟨v,e1,o1,o2⟩=>⟨v,e1,o1,h4.trans (o2.mono h4.size),o2⟩:∀ w4,Bw W w4→Calls Tryz.prog 67 #[.slice va vn vc,.int .i64 i2] w4 fun r w'=>∃ v,r=.returned v∧Ir w' v Y∧Bw W w'∧Bw w4 w')
 have kO:∀ w4 p q,Ir w4 p X→Ir w4 q Y→Bw W w4→Calls Tryz.prog 68 #[p,q] w4 fun r w'=>r=.returned (.int .i64 (cmpI X Y))∧Bw W w':=fun w4 p q hp hq h4=>(rord hp hq (by omega) (by omega)).mono fun r w' ⟨e1,d,e2⟩=>⟨e1,by rw[e2];exact h4.trans ⟨rfl,rfl,rfl,Nat.le_refl _,fun _ _=>rfl⟩⟩
 have HKO:Hid _:=kO
 obtain⟨⟨a0,a1,a2⟩,-⟩:=box_cells29 hA
 obtain⟨⟨b0,b1,b2⟩,-⟩:=box_cells29 hBb
 have HK:Hid (∀ w',Bw W w'→((w'.cell? ⟨w.heap.size,0,none⟩=some (.bool na)∧w'.cell? ⟨w.heap.size,1,none⟩=some (.slice ua un uc)∧w'.cell? ⟨w.heap.size,2,none⟩=some (.int .i64 ea))∧(w'.cell? ⟨w.heap.size+1,0,none⟩=some (.bool nb)∧w'.cell? ⟨w.heap.size+1,1,none⟩=some (.slice va vn vc)∧w'.cell? ⟨w.heap.size+1,2,none⟩=some (.int .i64 eb)))):=fun w' hb=>⟨(box_cells29 (box_later hA hb (by omega))).1,(box_cells29 (box_later hBb hb (by omega))).1⟩
 have HRD:Hid (∀ w',Bw W w'→Bw W w'.drew):=fun w' h=>h.trans ⟨rfl,rfl,rfl,Nat.le_refl _,fun _ _=>rfl⟩
 have hBR:Bw W W.drew:=(Below.refl _ _).drew
 have HI:Hid (∀ i,(i=ea - min ea eb∨i=IntKind.i64.wrap (ea - min ea eb))→i=i1):=(fun i h=>by rw[IntKind.wrap_i64] at h;omega:∀ i,(i=ea - min ea eb∨i=IntKind.i64.wrap (ea - min ea eb))→i=i1)
 have HJ:Hid (∀ i,(i=eb - min ea eb∨i=IntKind.i64.wrap (eb - min ea eb))→i=i2):=(fun i h=>by rw[IntKind.wrap_i64] at h;omega:∀ i,(i=eb - min ea eb∨i=IntKind.i64.wrap (eb - min ea eb))→i=i2)
 obtain⟨c,hc⟩:∃ c,c=cmpI X Y:=⟨_,rfl⟩
 rw[←hc] at HKO ⊢
 clear kA kB ku kv kO hA hBb hsz hBW hX hY hi1 hi2 hc
 go_enter Tryz.func33,Tryz.ntmps33
 go_upto_region 3 with fail
 rw[←hW]
 clear hW
 go_cut [24] from 25 to 29 (fun v w'=>v=.bool false∧Hid (Bw W w'))
 case first =>
  go_region_held3 (fun w'=>((w'.cell? ⟨w.heap.size,0,none⟩=some (.bool na)∧w'.cell? ⟨w.heap.size,1,none⟩=some (.slice ua un uc)∧w'.cell? ⟨w.heap.size,2,none⟩=some (.int .i64 ea))∧(w'.cell? ⟨w.heap.size+1,0,none⟩=some (.bool nb)∧w'.cell? ⟨w.heap.size+1,1,none⟩=some (.slice va vn vc)∧w'.cell? ⟨w.heap.size+1,2,none⟩=some (.int .i64 eb)))) (first|(with_reducible assumption)|exact⟨⟨a0,a1,a2⟩,b0,b1,b2⟩|(refine HK.out _ ?_;with_reducible assumption)|go_keep)
   (first|(go_at_call 70;first|(with_reducible refine(kA' _ (by first|(with_reducible assumption)|exact hBR)).mono ?_;rintro r w5 ⟨rfl,hb5⟩)|(with_reducible refine(kB' _ (by first|(with_reducible assumption)|exact hBR)).mono ?_;rintro r w6 ⟨rfl,hb6⟩)))
  all_goals go_wp2_with fail
  all_goals go_meet
  all_goals exact⟨by first|rfl|simp,by first|exact hb6|exact hb5⟩
 case rest =>
  obtain⟨rfl,hc⟩:=hcut
  obtain⟨W2,rfl⟩:∃ W2:World,W2=wc:=⟨_,rfl⟩
  clear a0 a1 a2 b0 b1 b2 kA' kB' hBR
  obtain⟨⟨a0,a1,a2⟩,b0,b1,b2⟩:=HK.out W2 hc.out
  have hBR:Bw W W2.drew:=HRD.out _ hc.out
  have kU:∀ i w4,(i=ea - min ea eb∨i=IntKind.i64.wrap (ea - min ea eb))→Bw W w4→Calls Tryz.prog 67 #[.slice ua un uc,.int .i64 i] w4 fun r w'=>∃ v,r=.returned v∧Ir w' v X∧Bw W w'∧Bw w4 w':=fun i w4 hi=>by rw[HI.out i hi];exact HKU.out w4
  have kV:∀ i w4,(i=eb - min ea eb∨i=IntKind.i64.wrap (eb - min ea eb))→Bw W w4→Calls Tryz.prog 67 #[.slice va vn vc,.int .i64 i] w4 fun r w'=>∃ v,r=.returned v∧Ir w' v Y∧Bw W w'∧Bw w4 w':=fun i w4 hi=>by rw[HJ.out i hi];exact HKV.out w4
  have kO:=HKO.out
  go_upto_region 6 with fail
  go_region_held3 (fun w'=>((w'.cell? ⟨w.heap.size,0,none⟩=some (.bool na)∧w'.cell? ⟨w.heap.size,1,none⟩=some (.slice ua un uc)∧w'.cell? ⟨w.heap.size,2,none⟩=some (.int .i64 ea))∧(w'.cell? ⟨w.heap.size+1,0,none⟩=some (.bool nb)∧w'.cell? ⟨w.heap.size+1,1,none⟩=some (.slice va vn vc)∧w'.cell? ⟨w.heap.size+1,2,none⟩=some (.int .i64 eb)))) (first|(with_reducible assumption)|exact⟨⟨a0,a1,a2⟩,b0,b1,b2⟩|(refine HK.out _ ?_;with_reducible assumption)|go_keep)
   (first|(go_at_call 67;first|(with_reducible refine(kU _ _ (by first|exact .inl rfl|exact .inr rfl) (by first|(with_reducible assumption)|exact hBR)).mono ?_;rintro r w5 ⟨p5,rfl,hp5,hb5,hc5⟩)|(with_reducible refine(kV _ _ (by first|exact .inl rfl|exact .inr rfl) (by first|(with_reducible assumption)|exact hBR)).mono ?_;rintro r w6 ⟨p6,rfl,hp6,hb6,hc6⟩))|(go_at_call 68;first|(with_reducible refine(kO _ _ _ (hp5.later hc6) hp6 hb6).mono ?_;rintro r w7 ⟨rfl,hb7⟩)|(with_reducible refine(kO _ _ _ hp5 (hp6.later hc5) hb5).mono ?_;rintro r w7 ⟨rfl,hb7⟩)))
  all_goals (have HL7:Hid (Bw W w7):=hb7;clear kU kV kO HK HKU HKV HKO a0 a1 a2 b0 b1 b2 hBR hb5 hb6 hb7 hp5 hp6 hc5 hc6;go_wp2;go_ret;exact⟨rfl,HX.out.trans (HL7.out.mono HX.out.size)⟩)
theorem rmag_0 (na nb:Bool) (ua va:Option Addr) (un uc vn vc:Nat) (ea eb:Int) (w:World) (h0:un=0∨vn=0) (hn1:un≤35184372088832) (hn2:vn≤35184372088832) :
  Calls Tryz.prog 33 #[.agg #[.bool na,.slice ua un uc,.int .i64 ea],.agg #[.bool nb,.slice va vn vc,.int .i64 eb]] w fun r w'=>r=.returned (.int .i64 ((un:Int) - vn))∧Bw w w':=by
 obtain⟨W,hW⟩:∃ W,W=(w.alloc (.cells #[.bool na,.slice ua un uc,.int .i64 ea] 30)).alloc (.cells #[.bool nb,.slice va vn vc,.int .i64 eb] 30):=⟨_,rfl⟩
 obtain⟨hA,hBb,hsz,hBW⟩:=two29 _ _ hW
 have HX:Hid (Bw w W):=hBW
 obtain⟨⟨a0,a1,a2⟩,-⟩:=box_cells29 hA
 obtain⟨⟨b0,b1,b2⟩,-⟩:=box_cells29 hBb
 rw[hW] at a0 a1 a2 b0 b1 b2
 have hw:IntKind.i64.wrap ((un:Int) - vn)=(un:Int) - vn:=by rw[IntKind.wrap_i64];omega
 have HD:Hid ((un:Int) - vn=(un:Int) - vn):=rfl
 clear hA hBb hsz hBW
 by_cases hu:un=0
 ·subst hu
  clear h0
  go_enter Tryz.func33,Tryz.ntmps33
  go_wp2
  go_ret
  exact⟨by simp,hW ▸ HX.out⟩
 ·obtain rfl:vn=0:=by omega
  have hu1:((un:Int)==0)=false:=by simp;omega
  clear h0 hu
  go_enter Tryz.func33,Tryz.ntmps33
  go_wp2
  go_ret
  exact⟨by simp,hW ▸ HX.out⟩
def magI (x:Nat) (ea:Int) (y:Nat) (eb:Int):Int:=if x=0∨y=0 then(dlen x:Int) - dlen y else if(bl x:Int)+ea=bl y+eb then cmpI (x*2^(ea - min ea eb).toNat:Nat) (y*2^(eb - min ea eb).toNat:Nat) else(bl x:Int)+ea - (bl y+eb)
theorem rmag {na nb:Bool} {ua va:Option Addr} {uc vc x y:Nat} {ea eb:Int} {w:World} (h1:Arg w ua (dlen x) uc x) (h2:Arg w va (dlen y) vc y) (hx:dlen x≤400000) (hy:dlen y≤400000) (ha : -2000000≤ea∧ea≤2000000) (hb : -2000000≤eb∧eb≤2000000) :
  Calls Tryz.prog 33 #[.agg #[.bool na,.slice ua (dlen x) uc,.int .i64 ea],.agg #[.bool nb,.slice va (dlen y) vc,.int .i64 eb]] w fun r w'=>r=.returned (.int .i64 (magI x ea y eb))∧Bw w w':=by
 unfold magI
 by_cases h0:x=0∨y=0
 ·rw[if_pos h0]
  exact rmag_0 na nb ua va _ uc _ vc ea eb w (h0.imp (fun h=>by rw[h,dlen_zero]) (fun h=>by rw[h,dlen_zero])) (by omega) (by omega)
 ·rw[if_neg h0]
  have hx0:x≠0:=fun e=>h0 (.inl e)
  have hy0:y≠0:=fun e=>h0 (.inr e)
  have b1:=bl_le_dlen x
  have b2:=bl_le_dlen y
  have kA:∀ W,Bw w W→Calls Tryz.prog 70 #[.agg #[.bool na,.slice ua (dlen x) uc,.int .i64 ea]] W fun r w'=>r=.returned (.int .i64 (bl x+ea))∧Bw W w':=fun W hW=>rhigh (h1.later hW).at_ hx0 (by omega) (by omega)
  have kB:∀ W,Bw w W→Calls Tryz.prog 70 #[.agg #[.bool nb,.slice va (dlen y) vc,.int .i64 eb]] W fun r w'=>r=.returned (.int .i64 (bl y+eb))∧Bw W w':=fun W hW=>rhigh (h2.later hW).at_ hy0 (by omega) (by omega)
  by_cases ht:(bl x:Int)+ea=bl y+eb
  ·rw[if_pos ht]
   rw[←ht] at kB
   have l1:dlen (x*2^(ea - min ea eb).toNat)≤760000:=by have:=shl_len (x:=x) (k:=(ea - min ea eb).toNat) rfl;omega
   have l2:dlen (y*2^(eb - min ea eb).toNat)≤760000:=by have:=shl_len (x:=y) (k:=(eb - min ea eb).toNat) rfl;omega
   refine rmag_2 na nb ua va _ uc _ vc _ _ ea eb _ w (len_ne (n:=0) hx0) (len_ne (n:=0) hy0) (by omega) (by omega) (by omega) (by omega) (by omega) (by omega) kA kB (fun W i hW hi=>?_) (fun W i hW hi=>?_)
   ·have hik:i=(((ea - min ea eb).toNat:Nat):Int):=by omega
    rw[hik]
    exact rup ⟨ua,uc,rfl,h1.le,(h1.later hW).at_⟩ _ (by omega) (by omega)
   ·have hik:i=(((eb - min ea eb).toNat:Nat):Int):=by omega
    rw[hik]
    exact rup ⟨va,vc,rfl,h2.le,(h2.later hW).at_⟩ _ (by omega) (by omega)
  ·rw[if_neg ht]
   exact rmag_1 na nb ua va _ uc _ vc ea eb _ _ w (len_ne (n:=0) hx0) (len_ne (n:=0) hy0) (by omega) (by omega) (by omega) (by omega) ht kA kB
theorem rorder_lt (na nb:Bool) (ua va:Option Addr) (un uc vn vc:Nat) (ea eb sa sb c:Int) (w:World) (hs:sa<sb)
  (kA:∀ W,Bw w W→Calls Tryz.prog 14 #[.agg #[.bool na,.slice ua un uc,.int .i64 ea]] W fun r w'=>r=.returned (.int .i64 sa)∧Bw W w')
  (kB:∀ W,Bw w W→Calls Tryz.prog 14 #[.agg #[.bool nb,.slice va vn vc,.int .i64 eb]] W fun r w'=>r=.returned (.int .i64 sb)∧Bw W w') :
  Calls Tryz.prog 12 #[.agg #[.bool na,.slice ua un uc,.int .i64 ea],.agg #[.bool nb,.slice va vn vc,.int .i64 eb]] w fun r w'=>r=.returned (.int .i64 (-1))∧Bw w w':=by
 obtain⟨W,hW⟩:∃ W,W=(w.alloc (.cells #[.bool na,.slice ua un uc,.int .i64 ea] 30)).alloc (.cells #[.bool nb,.slice va vn vc,.int .i64 eb] 30):=⟨_,rfl⟩
 obtain⟨hA,hBb,hsz,hBW⟩:=two29 _ _ hW
 have HX:Hid (Bw w W):=hBW
 have kA':∀ w4,Bw W w4→Calls Tryz.prog 14 #[.agg #[.bool na,.slice ua un uc,.int .i64 ea]] w4 fun r w'=>r=.returned (.int .i64 sa)∧Bw W w':=fun w4 h4=>(kA w4 (hBW.trans (h4.mono hBW.size))).mono fun r w' ⟨e1,o2⟩=>⟨e1,h4.trans (o2.mono h4.size)⟩
 have kB':∀ w4,Bw W w4→Calls Tryz.prog 14 #[.agg #[.bool nb,.slice va vn vc,.int .i64 eb]] w4 fun r w'=>r=.returned (.int .i64 sb)∧Bw W w':=fun w4 h4=>(kB w4 (hBW.trans (h4.mono hBW.size))).mono fun r w' ⟨e1,o2⟩=>⟨e1,h4.trans (o2.mono h4.size)⟩
 obtain⟨⟨a0,a1,a2⟩,-⟩:=box_cells29 hA
 obtain⟨⟨b0,b1,b2⟩,-⟩:=box_cells29 hBb
 have HK:Hid (∀ w',Bw W w'→((w'.cell? ⟨w.heap.size,0,none⟩=some (.bool na)∧w'.cell? ⟨w.heap.size,1,none⟩=some (.slice ua un uc)∧w'.cell? ⟨w.heap.size,2,none⟩=some (.int .i64 ea))∧(w'.cell? ⟨w.heap.size+1,0,none⟩=some (.bool nb)∧w'.cell? ⟨w.heap.size+1,1,none⟩=some (.slice va vn vc)∧w'.cell? ⟨w.heap.size+1,2,none⟩=some (.int .i64 eb)))):=fun w' hb=>⟨(box_cells29 (box_later hA hb (by omega))).1,(box_cells29 (box_later hBb hb (by omega))).1⟩
 have HRD:Hid (∀ w',Bw W w'→Bw W w'.drew):=fun w' h=>h.trans ⟨rfl,rfl,rfl,Nat.le_refl _,fun _ _=>rfl⟩
 have hBR:Bw W W.drew:=(Below.refl _ _).drew
 have hne:(sa==sb)=false:=by simp;omega
 have hne2:(sa != sb)=true:=by simp;omega
 clear kA kB hA hBb hsz hBW 
 go_enter Tryz.func12,Tryz.ntmps12
 go_upto_region 1 with fail
 rw[←hW]
 clear hW
 go_cut [5,6] from 8 to 11 (fun u v w'=>u=.int .i64 sa∧v=.int .i64 sb∧Hid (Bw W w'))
 case first =>
  go_region_held3 (fun w'=>((w'.cell? ⟨w.heap.size,0,none⟩=some (.bool na)∧w'.cell? ⟨w.heap.size,1,none⟩=some (.slice ua un uc)∧w'.cell? ⟨w.heap.size,2,none⟩=some (.int .i64 ea))∧(w'.cell? ⟨w.heap.size+1,0,none⟩=some (.bool nb)∧w'.cell? ⟨w.heap.size+1,1,none⟩=some (.slice va vn vc)∧w'.cell? ⟨w.heap.size+1,2,none⟩=some (.int .i64 eb)))) (first|(with_reducible assumption)|exact⟨⟨a0,a1,a2⟩,b0,b1,b2⟩|(refine HK.out _ ?_;with_reducible assumption)|go_keep)
   (first|(go_at_call 14;first|(with_reducible refine(kA' _ (by first|(with_reducible assumption)|exact hBR)).mono ?_;rintro r w5 ⟨rfl,hb5⟩)|(with_reducible refine(kB' _ (by first|(with_reducible assumption)|exact hBR)).mono ?_;rintro r w6 ⟨rfl,hb6⟩)))
  all_goals go_wp2_with fail
  all_goals go_meet
  all_goals exact⟨rfl,rfl,by first|exact hb6|exact hb5⟩
 case rest =>
  obtain⟨rfl,rfl,hc⟩:=hcut
  obtain⟨W2,rfl⟩:∃ W2:World,W2=wc:=⟨_,rfl⟩
  clear a0 a1 a2 b0 b1 b2 kA' kB' hBR
  go_wp2
  go_ret;exact⟨rfl,HX.out.trans (hc.out.mono HX.out.size)⟩
theorem rorder_gt (na nb:Bool) (ua va:Option Addr) (un uc vn vc:Nat) (ea eb sa sb c:Int) (w:World) (hs:¬ sa<sb) (hn:sa≠sb)
  (kA:∀ W,Bw w W→Calls Tryz.prog 14 #[.agg #[.bool na,.slice ua un uc,.int .i64 ea]] W fun r w'=>r=.returned (.int .i64 sa)∧Bw W w')
  (kB:∀ W,Bw w W→Calls Tryz.prog 14 #[.agg #[.bool nb,.slice va vn vc,.int .i64 eb]] W fun r w'=>r=.returned (.int .i64 sb)∧Bw W w') :
  Calls Tryz.prog 12 #[.agg #[.bool na,.slice ua un uc,.int .i64 ea],.agg #[.bool nb,.slice va vn vc,.int .i64 eb]] w fun r w'=>r=.returned (.int .i64 (1))∧Bw w w':=by
 obtain⟨W,hW⟩:∃ W,W=(w.alloc (.cells #[.bool na,.slice ua un uc,.int .i64 ea] 30)).alloc (.cells #[.bool nb,.slice va vn vc,.int .i64 eb] 30):=⟨_,rfl⟩
 obtain⟨hA,hBb,hsz,hBW⟩:=two29 _ _ hW
 have HX:Hid (Bw w W):=hBW
 have kA':∀ w4,Bw W w4→Calls Tryz.prog 14 #[.agg #[.bool na,.slice ua un uc,.int .i64 ea]] w4 fun r w'=>r=.returned (.int .i64 sa)∧Bw W w':=fun w4 h4=>(kA w4 (hBW.trans (h4.mono hBW.size))).mono fun r w' ⟨e1,o2⟩=>⟨e1,h4.trans (o2.mono h4.size)⟩
 have kB':∀ w4,Bw W w4→Calls Tryz.prog 14 #[.agg #[.bool nb,.slice va vn vc,.int .i64 eb]] w4 fun r w'=>r=.returned (.int .i64 sb)∧Bw W w':=fun w4 h4=>(kB w4 (hBW.trans (h4.mono hBW.size))).mono fun r w' ⟨e1,o2⟩=>⟨e1,h4.trans (o2.mono h4.size)⟩
 obtain⟨⟨a0,a1,a2⟩,-⟩:=box_cells29 hA
 obtain⟨⟨b0,b1,b2⟩,-⟩:=box_cells29 hBb
 have HK:Hid (∀ w',Bw W w'→((w'.cell? ⟨w.heap.size,0,none⟩=some (.bool na)∧w'.cell? ⟨w.heap.size,1,none⟩=some (.slice ua un uc)∧w'.cell? ⟨w.heap.size,2,none⟩=some (.int .i64 ea))∧(w'.cell? ⟨w.heap.size+1,0,none⟩=some (.bool nb)∧w'.cell? ⟨w.heap.size+1,1,none⟩=some (.slice va vn vc)∧w'.cell? ⟨w.heap.size+1,2,none⟩=some (.int .i64 eb)))):=fun w' hb=>⟨(box_cells29 (box_later hA hb (by omega))).1,(box_cells29 (box_later hBb hb (by omega))).1⟩
 have HRD:Hid (∀ w',Bw W w'→Bw W w'.drew):=fun w' h=>h.trans ⟨rfl,rfl,rfl,Nat.le_refl _,fun _ _=>rfl⟩
 have hBR:Bw W W.drew:=(Below.refl _ _).drew
 have hne:(sa==sb)=false:=by simp;omega
 have hne2:(sa != sb)=true:=by simp;omega
 clear kA kB hA hBb hsz hBW hn
 go_enter Tryz.func12,Tryz.ntmps12
 go_upto_region 1 with fail
 rw[←hW]
 clear hW
 go_cut [5,6] from 8 to 11 (fun u v w'=>u=.int .i64 sa∧v=.int .i64 sb∧Hid (Bw W w'))
 case first =>
  go_region_held3 (fun w'=>((w'.cell? ⟨w.heap.size,0,none⟩=some (.bool na)∧w'.cell? ⟨w.heap.size,1,none⟩=some (.slice ua un uc)∧w'.cell? ⟨w.heap.size,2,none⟩=some (.int .i64 ea))∧(w'.cell? ⟨w.heap.size+1,0,none⟩=some (.bool nb)∧w'.cell? ⟨w.heap.size+1,1,none⟩=some (.slice va vn vc)∧w'.cell? ⟨w.heap.size+1,2,none⟩=some (.int .i64 eb)))) (first|(with_reducible assumption)|exact⟨⟨a0,a1,a2⟩,b0,b1,b2⟩|(refine HK.out _ ?_;with_reducible assumption)|go_keep)
   (first|(go_at_call 14;first|(with_reducible refine(kA' _ (by first|(with_reducible assumption)|exact hBR)).mono ?_;rintro r w5 ⟨rfl,hb5⟩)|(with_reducible refine(kB' _ (by first|(with_reducible assumption)|exact hBR)).mono ?_;rintro r w6 ⟨rfl,hb6⟩)))
  all_goals go_wp2_with fail
  all_goals go_meet
  all_goals exact⟨rfl,rfl,by first|exact hb6|exact hb5⟩
 case rest =>
  obtain⟨rfl,rfl,hc⟩:=hcut
  obtain⟨W2,rfl⟩:∃ W2:World,W2=wc:=⟨_,rfl⟩
  clear a0 a1 a2 b0 b1 b2 kA' kB' hBR
  go_wp2
  go_ret;exact⟨rfl,HX.out.trans (hc.out.mono HX.out.size)⟩
theorem rorder_all (na nb:Bool) (ua va:Option Addr) (un uc vn vc:Nat) (ea eb sa sb c R:Int) (w:World) (hse0:sa=sb) (hcase:Hid ((0≤sa∧(c=0∧R=0∨0<c∧R=1∨c<0∧R = -1))∨(sa<0∧(c=0∧R=0∨0<c∧R = -1∨c<0∧R=1)))) (hc3 : -90000000000≤c) (hc4:c≤90000000000)
  (kA:∀ W,Bw w W→Calls Tryz.prog 14 #[.agg #[.bool na,.slice ua un uc,.int .i64 ea]] W fun r w'=>r=.returned (.int .i64 sa)∧Bw W w')
  (kB:∀ W,Bw w W→Calls Tryz.prog 14 #[.agg #[.bool nb,.slice va vn vc,.int .i64 eb]] W fun r w'=>r=.returned (.int .i64 sb)∧Bw W w')
  (kM:∀ W,Bw w W→Calls Tryz.prog 33 #[.agg #[.bool na,.slice ua un uc,.int .i64 ea],.agg #[.bool nb,.slice va vn vc,.int .i64 eb]] W fun r w'=>r=.returned (.int .i64 c)∧Bw W w') :
  Calls Tryz.prog 12 #[.agg #[.bool na,.slice ua un uc,.int .i64 ea],.agg #[.bool nb,.slice va vn vc,.int .i64 eb]] w fun r w'=>r=.returned (.int .i64 R)∧Bw w w':=by
 obtain⟨W,hW⟩:∃ W,W=(w.alloc (.cells #[.bool na,.slice ua un uc,.int .i64 ea] 30)).alloc (.cells #[.bool nb,.slice va vn vc,.int .i64 eb] 30):=⟨_,rfl⟩
 obtain⟨hA,hBb,hsz,hBW⟩:=two29 _ _ hW
 have HX:Hid (Bw w W):=hBW
 have kA':∀ w4,Bw W w4→Calls Tryz.prog 14 #[.agg #[.bool na,.slice ua un uc,.int .i64 ea]] w4 fun r w'=>r=.returned (.int .i64 sa)∧Bw W w':=fun w4 h4=>(kA w4 (hBW.trans (h4.mono hBW.size))).mono fun r w' ⟨e1,o2⟩=>⟨e1,h4.trans (o2.mono h4.size)⟩
 have kB':∀ w4,Bw W w4→Calls Tryz.prog 14 #[.agg #[.bool nb,.slice va vn vc,.int .i64 eb]] w4 fun r w'=>r=.returned (.int .i64 sb)∧Bw W w':=fun w4 h4=>(kB w4 (hBW.trans (h4.mono hBW.size))).mono fun r w' ⟨e1,o2⟩=>⟨e1,h4.trans (o2.mono h4.size)⟩
 have kM':∀ w4,Bw W w4→Calls Tryz.prog 33 #[.agg #[.bool na,.slice ua un uc,.int .i64 ea],.agg #[.bool nb,.slice va vn vc,.int .i64 eb]] w4 fun r w'=>r=.returned (.int .i64 c)∧Bw W w':=fun w4 h4=>(kM w4 (hBW.trans (h4.mono hBW.size))).mono fun r w' ⟨e1,o2⟩=>⟨e1,h4.trans (o2.mono h4.size)⟩
 have HKM:Hid (∀ w4,Bw W w4→Calls Tryz.prog 33 #[.agg #[.bool na,.slice ua un uc,.int .i64 ea],.agg #[.bool nb,.slice va vn vc,.int .i64 eb]] w4 fun r w'=>r=.returned (.int .i64 c)∧Bw W w'):=kM'
 obtain⟨⟨a0,a1,a2⟩,-⟩:=box_cells29 hA
 obtain⟨⟨b0,b1,b2⟩,-⟩:=box_cells29 hBb
 have HK:Hid (∀ w',Bw W w'→((w'.cell? ⟨w.heap.size,0,none⟩=some (.bool na)∧w'.cell? ⟨w.heap.size,1,none⟩=some (.slice ua un uc)∧w'.cell? ⟨w.heap.size,2,none⟩=some (.int .i64 ea))∧(w'.cell? ⟨w.heap.size+1,0,none⟩=some (.bool nb)∧w'.cell? ⟨w.heap.size+1,1,none⟩=some (.slice va vn vc)∧w'.cell? ⟨w.heap.size+1,2,none⟩=some (.int .i64 eb)))):=fun w' hb=>⟨(box_cells29 (box_later hA hb (by omega))).1,(box_cells29 (box_later hBb hb (by omega))).1⟩
 have HRD:Hid (∀ w',Bw W w'→Bw W w'.drew):=fun w' h=>h.trans ⟨rfl,rfl,rfl,Nat.le_refl _,fun _ _=>rfl⟩
 have hBR:Bw W W.drew:=(Below.refl _ _).drew
 have hse:(sa==sb)=true:=by simp;omega
 have hse2:(sa != sb)=false:=by simp;omega
 have HC:Hid (-90000000000≤c∧c≤90000000000):=⟨hc3,hc4⟩
 clear kA kB kM kM' hA hBb hsz hBW hc3 hc4 hse0
 go_enter Tryz.func12,Tryz.ntmps12
 go_upto_region 1 with fail
 rw[←hW]
 clear hW
 go_cut [5,6] from 8 to 11 (fun u v w'=>u=.int .i64 sa∧v=.int .i64 sb∧Hid (Bw W w'))
 case first =>
  go_region_held3 (fun w'=>((w'.cell? ⟨w.heap.size,0,none⟩=some (.bool na)∧w'.cell? ⟨w.heap.size,1,none⟩=some (.slice ua un uc)∧w'.cell? ⟨w.heap.size,2,none⟩=some (.int .i64 ea))∧(w'.cell? ⟨w.heap.size+1,0,none⟩=some (.bool nb)∧w'.cell? ⟨w.heap.size+1,1,none⟩=some (.slice va vn vc)∧w'.cell? ⟨w.heap.size+1,2,none⟩=some (.int .i64 eb)))) (first|(with_reducible assumption)|exact⟨⟨a0,a1,a2⟩,b0,b1,b2⟩|(refine HK.out _ ?_;with_reducible assumption)|go_keep)
   (first|(go_at_call 14;first|(with_reducible refine(kA' _ (by first|(with_reducible assumption)|exact hBR)).mono ?_;rintro r w5 ⟨rfl,hb5⟩)|(with_reducible refine(kB' _ (by first|(with_reducible assumption)|exact hBR)).mono ?_;rintro r w6 ⟨rfl,hb6⟩)))
  all_goals go_wp2_with fail
  all_goals go_meet
  all_goals exact⟨rfl,rfl,by first|exact hb6|exact hb5⟩
 case rest =>
  obtain⟨rfl,rfl,hc⟩:=hcut
  obtain⟨W2,rfl⟩:∃ W2:World,W2=wc:=⟨_,rfl⟩
  clear a0 a1 a2 b0 b1 b2 kA' kB' hBR
  have kM':=HKM.out W2 hc.out
  obtain⟨⟨a0,a1,a2⟩,b0,b1,b2⟩:=HK.out W2 hc.out
  go_wp2_with fail
  refine kM'.mono ?_
  rintro r w7 ⟨rfl,hb7⟩
  have HL7:Hid (Bw W w7):=hb7
  clear kM' HK HKM a0 a1 a2 b0 b1 b2 hb7
  rcases hcase.out with ⟨hs,h⟩|⟨hs,h⟩
  ·have hs1:¬ sa<0:=by omega
   rcases h with ⟨h,rfl⟩|⟨h,rfl⟩|⟨h,rfl⟩
   ·have hc1:¬ c<0:=by omega
    have hc2:¬ 0<c:=by omega
    clear h
    go_wp2
    go_ret
    exact⟨rfl,HX.out.trans (HL7.out.mono HX.out.size)⟩
   ·have hc1:¬ c<0:=by omega
    go_wp2
    go_ret
    exact⟨rfl,HX.out.trans (HL7.out.mono HX.out.size)⟩
   ·go_wp2
    go_ret
    exact⟨rfl,HX.out.trans (HL7.out.mono HX.out.size)⟩
  ·have hcb:=HC.out
   obtain⟨d,hd⟩:∃ d,d = -c:=⟨_,rfl⟩
   have hdw:IntKind.i64.wrap d=d:=by rw[IntKind.wrap_i64];omega
   have hdn : -c=d:=hd.symm
   rcases h with ⟨h,rfl⟩|⟨h,rfl⟩|⟨h,rfl⟩
   ·have hd1:¬ d<0:=by omega
    have hd2:¬ 0<d:=by omega
    clear hd h hcb
    go_wp2
    go_ret
    exact⟨rfl,HX.out.trans (HL7.out.mono HX.out.size)⟩
   ·have hd1:d<0:=by omega
    clear hd h hcb
    go_wp2
    go_ret
    exact⟨rfl,HX.out.trans (HL7.out.mono HX.out.size)⟩
   ·have hd1:¬ d<0:=by omega
    have hd2:0<d:=by omega
    clear hd h hcb
    go_wp2
    go_ret
    exact⟨rfl,HX.out.trans (HL7.out.mono HX.out.size)⟩
end Go.Proofs.YthhaamilfioddaaGreatDoor
