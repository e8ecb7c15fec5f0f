/- Own work: contracts of the program's functions, part 8: DV2 DV3 RV2 DV4 RV3 RV4 RW2 RW3 RW4 RW5 RW6 RW7 RW8 RW9 RX1 W49 RX2 RX3 W50 L16 L10 L17 L14 W51 W52 FM FM2 F1 F6 F7 FM3 L6 L8 FM4 FM5 RT0 RT1. -/
import Derived.Test.YtjiolfnchiioaaaGreatDoorA2
import Derived.Test.YtjiolfnchiioaaaGreatDoorA7
import Derived.Test.YtjiolfnchiioaaaGreatDoorA6
import Derived.Deep.CutBlock
import Derived.Test.YtjiolfnchiioaaaGreatDoorA5
import Derived.Test.YtjiolfnchiioaaaGreatDoorA3
import Derived.Test.YtjiolfnchiioaaaGreatDoorA4
import Derived.Test.YtjiolfnchiioaaaGreatDoorA1

set_option maxHeartbeats 16000000
set_option maxRecDepth 200000
set_option linter.unusedVariables false
set_option linter.unusedSimpArgs false
namespace Go.Proofs.YtjiolfnchiioaaaGreatDoor
open Go.RowKit
end Go.Proofs.YtjiolfnchiioaaaGreatDoor
namespace Go.Proofs.YtjiolfnchiioaaaGreatDoor
end Go.Proofs.YtjiolfnchiioaaaGreatDoor
namespace Go.Proofs.YtjiolfnchiioaaaGreatDoor
open Go.RowKit
theorem cmp_eq {x y:Nat}:(cmpI (x:Int) (y:Int)==0)=decide (x=y):=by
 unfold cmpI
 by_cases h:x=y
 ·subst h;simp
 ·rw[decide_eq_false h]
  by_cases h2:(x:Int)<(y:Int)
  ·rw[if_pos h2];rfl
  ·rw[if_neg h2,if_pos (by omega)];rfl
theorem rlessN_1 (na nb:Bool) (ua va:Option Addr) (un uc vn vc:Nat) (ea eb:Int) (nc:Bool) (xa:Option Addr) (xn xc:Nat) (ec:Int) (s:Bool) (z:Nat) (e:Int) (w:World) (kM:∀ W,Calls Tryz.prog 50 #[.agg #[.bool nb,.slice va vn vc,.int .i64 eb]] W fun r w'=>r=.returned (.agg #[.bool nc,.slice xa xn xc,.int .i64 ec])∧Bw W w')
  (kA:∀ W,Bw w W→Calls Tryz.prog 42 #[.agg #[.bool na,.slice ua un uc,.int .i64 ea],.agg #[.bool nc,.slice xa xn xc,.int .i64 ec]] W fun r w'=>∃ a,r=.returned a∧NC w' W.heap.size a s z e∧Bw W w') :
  Calls Tryz.prog 76 #[.agg #[.bool na,.slice ua un uc,.int .i64 ea],.agg #[.bool nb,.slice va vn vc,.int .i64 eb]] w fun r w'=>∃ a,r=.returned a∧NC w' w.heap.size a s z e∧Bw w w':=by
 have HKM:Hid _:=kM
 have HKA:Hid _:=kA
 clear kM kA
 obtain⟨W,hW⟩:∃ W,W=((w.alloc (.cells #[.bool na,.slice ua un uc,.int .i64 ea] 44)).alloc (.cells #[.bool nb,.slice va vn vc,.int .i64 eb] 44)).alloc (.cells #[.bool false,.slice none 0 0,.int .i64 0] 44):=⟨_,rfl⟩
 obtain⟨hA,hBb,hC,hsz,hBW⟩:=boxes3 _ _ _ hW
 have HH:Hid ((W.heap[w.heap.size]?=some (.cells #[.bool na,.slice ua un uc,.int .i64 ea] 44 (0,0))∧W.heap[w.heap.size+1]?=some (.cells #[.bool nb,.slice va vn vc,.int .i64 eb] 44 (0,0))∧W.heap[w.heap.size+1+1]?=some (.cells #[.bool false,.slice none 0 0,.int .i64 0] 44 (0,0)))∧W.heap.size=w.heap.size+1+1+1∧Bw w W):=⟨⟨hA,hBb,hC⟩,hsz,hBW⟩
 obtain⟨⟨a0,a1,a2⟩,-⟩:=box_cells29 hA
 obtain⟨⟨b0,b1,b2⟩,-⟩:=box_cells29 hBb
 clear hA hBb hC hsz hBW
 have kM:∀ w4,Bw W w4→Calls Tryz.prog 50 #[.agg #[.bool nb,.slice va vn vc,.int .i64 eb]] w4 fun r w'=>r=.returned (.agg #[.bool nc,.slice xa xn xc,.int .i64 ec])∧Bw W w':=fun w4 hb=>(HKM.out w4).mono fun r w' ⟨e1,o2⟩=>⟨e1,hb.trans (o2.mono hb.size)⟩
 have kA:∀ w5,Bw W w5→Calls Tryz.prog 42 #[.agg #[.bool na,.slice ua un uc,.int .i64 ea],.agg #[.bool nc,.slice xa xn xc,.int .i64 ec]] w5 fun r w'=>∃ s' ao n cap ex,r=.returned (.agg #[.bool s',.slice ao n cap,.int .i64 ex])∧Hid (NC w' W.heap.size (.agg #[.bool s',.slice ao n cap,.int .i64 ex]) s z e)∧Bw W w'∧Hid (w'.heap[w.heap.size+1+1]?=some (.cells #[.bool false,.slice none 0 0,.int .i64 0] 44 (0,0))) ∧
   (w'.cell? ⟨w.heap.size+1+1,0,none⟩=some (.bool false)∧w'.cell? ⟨w.heap.size+1+1,1,none⟩=some (.slice none 0 0)∧w'.cell? ⟨w.heap.size+1+1,2,none⟩=some (.int .i64 0))∧(w'.frozen? ⟨w.heap.size+1+1,0,none⟩=false∧w'.frozen? ⟨w.heap.size+1+1,1,none⟩=false∧w'.frozen? ⟨w.heap.size+1+1,2,none⟩=false):=by
  intro w5 hb
  refine(HKA.out w5 (HH.out.2.2.trans (hb.mono HH.out.2.2.size))).mono ?_
  rintro r w6 ⟨A,rfl,hN,hb6⟩
  obtain⟨s',ao,n,cap,ex,rfl⟩:=hN.shape
  have hb16:Bw W w6:=hb.trans (hb6.mono hb.size)
  have hblk:=box_later HH.out.1.2.2 hb16 (by have:=HH.out.2.1;omega)
  obtain⟨f1,f2⟩:=box_cells29 hblk
  exact⟨s',ao,n,cap,ex,rfl,hN.mono hb.size,hb16,hblk,f1,f2⟩
 have HK:Hid (∀ w',Bw W w'→((w'.cell? ⟨w.heap.size,0,none⟩=some (.bool na)∧w'.cell? ⟨w.heap.size,1,none⟩=some (.slice ua un uc)∧w'.cell? ⟨w.heap.size,2,none⟩=some (.int .i64 ea))∧(w'.cell? ⟨w.heap.size+1,0,none⟩=some (.bool nb)∧w'.cell? ⟨w.heap.size+1,1,none⟩=some (.slice va vn vc)∧w'.cell? ⟨w.heap.size+1,2,none⟩=some (.int .i64 eb)))):=fun w' hb=>⟨(box_cells29 (box_later HH.out.1.1 hb (by have:=HH.out.2.1;omega))).1,(box_cells29 (box_later HH.out.1.2.1 hb (by have:=HH.out.2.1;omega))).1⟩
 have HK2:Hid (∀ w',Below (w.heap.size+1+1) W w'→((w'.cell? ⟨w.heap.size,0,none⟩=some (.bool na)∧w'.cell? ⟨w.heap.size,1,none⟩=some (.slice ua un uc)∧w'.cell? ⟨w.heap.size,2,none⟩=some (.int .i64 ea))∧(w'.cell? ⟨w.heap.size+1,0,none⟩=some (.bool nb)∧w'.cell? ⟨w.heap.size+1,1,none⟩=some (.slice va vn vc)∧w'.cell? ⟨w.heap.size+1,2,none⟩=some (.int .i64 eb)))):=fun w' hb=>⟨(box_cells29 (box_later HH.out.1.1 hb (by omega))).1,(box_cells29 (box_later HH.out.1.2.1 hb (by omega))).1⟩
 have HS2:Hid (w.heap.size+1+1≤W.heap.size):=(by have:=HH.out.2.1;omega:w.heap.size+1+1≤W.heap.size)
 have hBR:Bw W W.drew:=(Below.refl _ _).drew
 go_enter Tryz.func76,Tryz.ntmps76
 go_upto_region 1 with fail
 rw[←hW]
 clear hW
 go_region_held3 (fun w'=>((w'.cell? ⟨w.heap.size,0,none⟩=some (.bool na)∧w'.cell? ⟨w.heap.size,1,none⟩=some (.slice ua un uc)∧w'.cell? ⟨w.heap.size,2,none⟩=some (.int .i64 ea))∧(w'.cell? ⟨w.heap.size+1,0,none⟩=some (.bool nb)∧w'.cell? ⟨w.heap.size+1,1,none⟩=some (.slice va vn vc)∧w'.cell? ⟨w.heap.size+1,2,none⟩=some (.int .i64 eb)))) (first|(with_reducible assumption)|exact⟨⟨a0,a1,a2⟩,b0,b1,b2⟩|(refine HK.out _ ?_;with_reducible assumption)|(refine HK2.out _ (below_store3 (Below.mono hb6 HS2.out) (Nat.le_refl _) _ _ _))|go_keep)
  (first|(go_at_call 50;refine(kM _ (by first|(with_reducible assumption)|exact hBR)).mono ?_;rintro r w5 ⟨rfl,hb5⟩)|(go_at_call 42;refine(kA _ (by first|(with_reducible assumption)|exact hBR)).mono ?_;rintro r w6 ⟨s6,ao6,n6,cap6,ex6,rfl,hN6,hb6,hblk6,⟨x1,x2,x3⟩,x4,x5,x6⟩))
 all_goals (have HF:Hid (Bw W w6):=hb6;clear hb5 hb6 kM kA x1 x2 x3 x4 x5 x6 a0 a1 a2 b0 b1 b2 HK HK2 hBR;go_wp2;refine bodyPost_ret (results_cell_row rfl _ _ (w.heap.size+1+1) 44 #[.bool s6,.slice ao6 n6 cap6,.int .i64 ex6] (0,0) _ rfl (store3_29 _ _ _ hblk6.out) Tryz.underlying44 rfl Tryz.info44) rfl ?_;exact⟨_,rfl,(hN6.out.store (by have:=HH.out.2.1;omega) _ _ _).mono HH.out.2.2.size,below_store3 (HH.out.2.2.trans (HF.out.mono HH.out.2.2.size)) (by omega) _ _ _⟩)
theorem pratio_1 (na nb:Bool) (ua va:Option Addr) (un uc vn vc x y k bx by':Nat) (ea eb mode:Int) (sg:Bool) (w:World) (hsg:Hid ((!(na==nb))=sg)) (hT:Tab32 w) (h1:Is w (.slice ua un uc) x) (h2:Is w (.slice va vn vc) y) (hx:dlen x≤3000) (hy:dlen y≤3000) (hy0:y≠0) (he1 : -65536≤ea) (he2:ea≤65536) (he3 : -65536≤eb) (he4:eb≤65536) (hm:mode=1∨mode=2∨mode=3)
  (hbx:bl x=bx) (hby:bl y=by') (hbx2:bx≤96000) (hby2:by'≤96000) (hk:max 0 (64+(by':Int) - (bx:Int))=(k:Int)) (hk2:k≤100000) (hn0:((un:Int)==0)=false) (hn1:((vn:Int)==0)=false)
  (k67:∀ W g,Bw w W→W.heap[g]?=some (.cells #[.bool na,.slice ua un uc,.int .i64 ea,.bool nb,.slice va vn vc,.int .i64 eb] 80 (0,0))→Calls Tryz.prog 97 #[.slice (some ⟨g,0,none⟩) 2 2] W fun r w'=>r=.returned (.bool true)∧Bw W w') :
  Calls Tryz.prog 93 #[.agg #[.bool na,.slice ua un uc,.int .i64 ea],.agg #[.bool nb,.slice va vn vc,.int .i64 eb],.int .i64 mode] w fun r w'=>r=.returned (.tuple #[.float .f64 (tfF sg (decide (x*2^k % y=0)) (x*2^k / y) (ea - eb - k) mode),.int .i64 0])∧Bw w w':=by
 obtain⟨W,hW⟩:∃ W,W=(w.alloc (.cells #[.bool na,.slice ua un uc,.int .i64 ea] 80)).alloc (.cells #[.bool nb,.slice va vn vc,.int .i64 eb] 80):=⟨_,rfl⟩
 have hBW:Bw w W:=by rw[hW];exact((Below.refl _ _).alloc (Nat.le_refl _) _).alloc (by simp) _
 have hbA:W.heap[w.heap.size]?=some (.cells #[.bool na,.slice ua un uc,.int .i64 ea] 80 (0,0)):=by
  rw[hW,Below.heap_alloc _ _ _ (by simp)];exact heap_alloc_new _ _
 have hbB:W.heap[w.heap.size+1]?=some (.cells #[.bool nb,.slice va vn vc,.int .i64 eb] 80 (0,0)):=by
  have:=heap_alloc_new (w.alloc (.cells #[.bool na,.slice ua un uc,.int .i64 ea] 80)) (.cells #[.bool nb,.slice va vn vc,.int .i64 eb] 80)
  rw[hW];simpa using this
 have hsz:W.heap.size=w.heap.size+1+1:=by rw[hW];simp
 have k1:=k67 (W.alloc (.cells #[.bool na,.slice ua un uc,.int .i64 ea,.bool nb,.slice va vn vc,.int .i64 eb] 80)) (w.heap.size+1+1) (hBW.alloc hBW.size _) (by rw[←hsz];exact heap_alloc_new _ _)
 have HX:Hid (Bw w W∧W.heap.size=w.heap.size+1+1∧W.heap[w.heap.size]?=some (.cells #[.bool na,.slice ua un uc,.int .i64 ea] 80 (0,0))∧W.heap[w.heap.size+1]?=some (.cells #[.bool nb,.slice va vn vc,.int .i64 eb] 80 (0,0))):=⟨hBW,hsz,hbA,hbB⟩
 have HT:Hid (Tab32 w∧Is w (.slice ua un uc) x∧dlen x≤3000∧Is w (.slice va vn vc) y∧dlen y≤3000∧y≠0):=⟨hT,h1,hx,h2,hy,hy0⟩
 have k48:=fun W=>c48 mode hm W
 clear hBW hsz hbA hbB k67 hT h1 hx h2 hy hy0
 go_enter Tryz.func93,Tryz.ntmps93
 go_wp2_with fail
 rw[←hW]
 clear hW
 refine k1.mono ?_
 rintro r w1 ⟨rfl,hb1⟩
 have HB1:Hid (Bw W w1):=((Below.refl W.heap.size W).alloc (Nat.le_refl _) _).trans (hb1.mono (by simp))
 have HW1:Hid (Bw w w1):=HX.out.1.trans (HB1.out.mono HX.out.1.size)
 obtain⟨⟨a0,a1,a2⟩,-⟩:=box_cells (box_later HX.out.2.2.1 HB1.out (by have:=HX.out.2.1;omega))
 obtain⟨⟨b0,b1,b2⟩,-⟩:=box_cells (box_later HX.out.2.2.2 HB1.out (by have:=HX.out.2.1;omega))
 clear k1 hb1
 go_wp2_with fail
 refine(k48 w1).mono ?_
 rintro r w1' ⟨rfl,hw⟩
 replace hw:=hw.symm
 subst hw
 clear k48
 have kla:∀ d,Calls Tryz.prog 108 #[.slice ua un uc] (w1.drewN d) fun e w'=>e=.returned (.int .i64 (bx:Nat))∧w'=w1.drewN d:=fun d=>by
  have:=c74 (w:=w1.drewN d) (HT.out.2.1.later (HW1.out.trans ⟨rfl,rfl,rfl,Nat.le_refl _,fun _ _=>rfl⟩)) (by have:=HT.out.2.2;omega)
  rw[hbx] at this;exact this
 have klb:∀ d,Calls Tryz.prog 108 #[.slice va vn vc] (w1.drewN d) fun e w'=>e=.returned (.int .i64 (by':Nat))∧w'=w1.drewN d:=fun d=>by
  have:=c74 (w:=w1.drewN d) (HT.out.2.2.2.1.later (HW1.out.trans ⟨rfl,rfl,rfl,Nat.le_refl _,fun _ _=>rfl⟩)) (by have:=HT.out.2.2;omega)
  rw[hby] at this;exact this
 go_wp2
 go_quiet (first|(go_at_call 108;first|(with_reducible refine Calls.quiet_of_same (klb _))|(with_reducible refine Calls.quiet_of_same (kla _))))
 have HB2:Hid (Below W.heap.size W (w1.drewN nq)):=HB1.out.trans ⟨rfl,rfl,rfl,Nat.le_refl _,fun _ _=>rfl⟩
 obtain⟨w2,hw2⟩:∃ w2,w2=w1.drewN nq:=⟨_,rfl⟩
 rw[←hw2] at HB2 ⊢
 clear hw2 kla klb a0 a1 a2 b0 b1 b2
 have HK:Hid (∀ w',Bw w2 w'→((w'.cell? ⟨w.heap.size,0,none⟩=some (.bool na)∧w'.cell? ⟨w.heap.size,1,none⟩=some (.slice ua un uc)∧w'.cell? ⟨w.heap.size,2,none⟩=some (.int .i64 ea))∧(w'.cell? ⟨w.heap.size+1,0,none⟩=some (.bool nb)∧w'.cell? ⟨w.heap.size+1,1,none⟩=some (.slice va vn vc)∧w'.cell? ⟨w.heap.size+1,2,none⟩=some (.int .i64 eb)))):=fun w' hb=>⟨(box_cells (box_later HX.out.2.2.1 (HB2.out.trans (hb.mono HB2.out.size)) (by have:=HX.out.2.1;omega))).1,(box_cells (box_later HX.out.2.2.2 (HB2.out.trans (hb.mono HB2.out.size)) (by have:=HX.out.2.1;omega))).1⟩
 obtain⟨⟨a0,a1,a2⟩,b0,b1,b2⟩:=HK.out w2 (Below.refl _ _)
 have hBR:Bw w2 w2.drew:=(Below.refl _ _).drew
 have hl:dlen (x*2^k)≤7000:=by have:=shl_len (x:=x) (k:=k) rfl;have:=HT.out.2.2;omega
 have HL:Hid (dlen (x*2^k)≤7000):=hl
 have kS:∀ w',Bw w2 w'→Calls Tryz.prog 110 #[.slice ua un uc,.int .i64 (k:Int)] w' fun e w''=>∃ v,e=.returned v∧Hid (Is w'' v (x*2^k))∧Bw w2 w'':=fun w' hb=>(c109 (HT.out.2.1.later (HX.out.1.trans ((HB2.out.trans (hb.mono HB2.out.size)).mono HX.out.1.size))) k (by have:=HT.out.2.2;omega) (by omega)).mono fun r w'' ⟨v,e1,e2,e3⟩=>⟨v,e1,e2.is,hb.trans (e3.mono hb.size)⟩
 have kD:∀ v w',Hid (Is w' v (x*2^k))→Bw w2 w'→Calls Tryz.prog 109 #[v,.slice va vn vc] w' fun e w''=>∃ q,e=.returned (.tuple #[q,.bool (decide (x*2^k % y=0))])∧Hid (Is w'' q (x*2^k / y))∧Bw w2 w'':=fun v w' hI hb=>(c100 hI.out (HT.out.2.2.2.1.later (HX.out.1.trans ((HB2.out.trans (hb.mono HB2.out.size)).mono HX.out.1.size))) (by have:=HL.out;omega) (by have:=HT.out.2.2.2.2;omega) HT.out.2.2.2.2.2).mono fun r w'' ⟨q,e1,e2,e3⟩=>⟨q,e1,e2.is,hb.trans (e3.mono hb.size)⟩
 obtain⟨xb,hxb⟩:∃ xb:Bool,xb=decide (x*2^k % y=0):=⟨_,rfl⟩
 rw[←hxb] at kD
 have HXB:Hid (xb=decide (x*2^k % y=0)):=hxb
 clear hxb hl
 go_upto_region 8 with fail
 go_cut [9,10] from 42 to 50 (fun q b wx=>b=.bool xb∧Hid (Is wx q (x*2^k / y))∧Hid (Bw w2 wx))
 case first =>
  go_region_held3 (fun w'=>((w'.cell? ⟨w.heap.size,0,none⟩=some (.bool na)∧w'.cell? ⟨w.heap.size,1,none⟩=some (.slice ua un uc)∧w'.cell? ⟨w.heap.size,2,none⟩=some (.int .i64 ea))∧(w'.cell? ⟨w.heap.size+1,0,none⟩=some (.bool nb)∧w'.cell? ⟨w.heap.size+1,1,none⟩=some (.slice va vn vc)∧w'.cell? ⟨w.heap.size+1,2,none⟩=some (.int .i64 eb)))) (first|(with_reducible assumption)|exact⟨⟨a0,a1,a2⟩,b0,b1,b2⟩|(refine HK.out _ ?_;with_reducible assumption)|go_keep)
   (first|(go_at_call 110;refine(kS _ (by first|(with_reducible assumption)|exact hBR)).mono ?_;rintro r w5 ⟨v5,rfl,hI5,hb5⟩)|(go_at_call 109;refine(kD _ _ hI5 (by with_reducible assumption)).mono ?_;rintro r w6 ⟨v6,rfl,hI6,hb6⟩))
  all_goals go_wp2_with fail
  all_goals go_meet
  all_goals exact⟨rfl,hI6,hb6⟩
 case rest =>
  obtain⟨rfl,hI,hB⟩:=hcut
  obtain⟨w3,rfl⟩:∃ w3:World,w3=wc:=⟨_,rfl⟩
  have HB3:Hid (Bw W w3):=HB2.out.trans (hB.out.mono HB2.out.size)
  clear a0 a1 a2 b0 b1 b2 kS kD hBR
  obtain⟨⟨a0,a1,a2⟩,b0,b1,b2⟩:=HK.out w3 hB.out
  have kt:=c110 (neg:=sg) (exact:=xb) (e:=ea - eb - k) (mode:=mode) (HT.out.1.later (HX.out.1.trans (HB3.out.mono HX.out.1.size))) hI.out (Nat.le_trans (dlen_mono (Nat.div_le_self _ _)) (by have:=HL.out;omega)) (by omega) (by omega)
  go_wp2_with fail
  rw[hsg.out]
  refine kt.mono ?_
  rintro r w4 ⟨rfl,hb4⟩
  have HB4:Hid (Bw W w4):=HB3.out.trans (hb4.mono HB3.out.size)
  clear kt hb4
  go_wp2
  refine bodyPost_ret (results_tmp2 rfl _ _ _) rfl ?_
  exact⟨congrArg (fun b=>Ending.returned (Value.tuple #[.float .f64 (tfF sg b (x*2^k / y) (ea - eb - k) mode),.int .i64 0])) HXB.out,HX.out.1.trans (HB4.out.mono HX.out.1.size)⟩
end Go.Proofs.YtjiolfnchiioaaaGreatDoor
namespace Go.Proofs.YtjiolfnchiioaaaGreatDoor
def bv (b:Nat):Nat:=if b<4503599627370496 then b else(4503599627370496+b % 4503599627370496)*2^(b / 4503599627370496 - 1)
theorem bv_at {j q:Nat} (h:(j=0∧q≤9007199254740992)∨(4503599627370496≤q∧q≤9007199254740992)):bv (j*4503599627370496+q)=q*2^j:=by
 unfold bv
 by_cases h1:j*4503599627370496+q<4503599627370496
 ·have hj:j=0:=by omega
  subst hj
  rw[if_pos h1];simp
 ·rw[if_neg h1]
  by_cases h2:q=9007199254740992
  ·subst h2
   rw[show(j*4503599627370496+9007199254740992) % 4503599627370496=0 by omega,show(j*4503599627370496+9007199254740992) / 4503599627370496 - 1=j+1 by omega,Nat.pow_succ]
   omega
  ·have h3:4503599627370496≤q:=by omega
   rw[show(j*4503599627370496+q) % 4503599627370496=q - 4503599627370496 by omega,show(j*4503599627370496+q) / 4503599627370496 - 1=j by omega]
   rw[show 4503599627370496+(q - 4503599627370496)=q by omega]
theorem bv_form (b:Nat):∃ j q,b=j*4503599627370496+q∧bv b=q*2^j∧bv (b+1)=(q+1)*2^j:=by
 by_cases h:b<4503599627370496
 ·refine⟨0,b,by omega,?_,?_⟩
  ·have:=bv_at (j:=0) (q:=b) (.inl ⟨rfl,by omega⟩);simpa using this
  ·have:=bv_at (j:=0) (q:=b+1) (.inl ⟨rfl,by omega⟩);simpa using this
 ·have e:b=(b / 4503599627370496 - 1)*4503599627370496+(4503599627370496+b % 4503599627370496):=by omega
  refine⟨_,_,e,?_,?_⟩
  ·have:=bv_at (j:=b / 4503599627370496 - 1) (q:=4503599627370496+b % 4503599627370496) (.inr ⟨by omega,by omega⟩)
   rw[←e] at this;exact this
  ·have:=bv_at (j:=b / 4503599627370496 - 1) (q:=4503599627370496+b % 4503599627370496+1) (.inr ⟨by omega,by omega⟩)
   rw[←Nat.add_assoc,←e] at this;exact this
theorem bv_succ (b:Nat):bv b<bv (b+1):=by
 obtain⟨j,q,-,h1,h2⟩:=bv_form b
 rw[h1,h2]
 exact Nat.mul_lt_mul_of_pos_right (by omega) (Nat.two_pow_pos j)
theorem bv_lt {a b:Nat} (h:a<b):bv a<bv b:=by
 induction b with
 | zero=>omega
 | succ b ih =>
  by_cases h1:a<b
  ·exact Nat.lt_trans (ih h1) (bv_succ b)
  ·obtain rfl:a=b:=by omega
   exact bv_succ a
theorem bv_le {a b:Nat} (h:a≤b):bv a≤bv b:=by
 by_cases h1:a=b
 ·rw[h1];exact Nat.le_refl _
 ·exact Nat.le_of_lt (bv_lt (by omega))
theorem bv_inj_lt {a b:Nat} (h:bv a<bv b):a<b:=by
 apply Decidable.byContradiction
 intro h1
 have:=bv_le (a:=b) (b:=a) (by omega)
 omega
structure IsR (x:Nat) (e:Int) (j X k:Nat):Prop where
 eq:∀ K:Nat,0≤e+K→0≤(j:Int) - 1074 - k+K→X*2^((j:Int) - 1074 - k+K).toNat=x*2^(e+K).toNat
 lt:X / 2^k<9007199254740992
 ge:j=0∨4503599627370496≤X / 2^k
structure Lies (A u b:Nat) (r m:Nat):Prop where
 lo:bv b*u≤A
 hi:A<bv (b+1)*u
 ex:r=0↔A=bv b*u
 half_lt:2*r<m↔2*A<(bv b+bv (b+1))*u
 half_eq:2*r=m↔2*A=(bv b+bv (b+1))*u
theorem IsR.lies {x:Nat} {e:Int} {j X k:Nat} (h:IsR x e j X k) {K:Nat} (hK:1074≤K) (h1:0≤e+K) (h2:0≤(j:Int) - 1074 - k+K) :
  Lies (x*2^(e+K).toNat) (2^(K - 1074)) (j*4503599627370496+X / 2^k) (X % 2^k) (2^k):=by
 have eq:=h.eq K h1 h2
 have hl:=h.lt
 have hg:=h.ge
 have b0:bv (j*4503599627370496+X / 2^k)=X / 2^k*2^j:=bv_at (j:=j) (q:=X / 2^k) (by
  generalize X / 2^k=q at *
  rcases hg with g|g
  ·exact .inl ⟨g,by omega⟩
  ·exact .inr ⟨g,by omega⟩)
 have b1:bv (j*4503599627370496+X / 2^k+1)=(X / 2^k+1)*2^j:=by
  have:=bv_at (j:=j) (q:=X / 2^k+1) (by
   generalize X / 2^k=q at *
   rcases hg with g|g
   ·exact .inl ⟨g,by omega⟩
   ·exact .inr ⟨by omega,by omega⟩)
  rw[←Nat.add_assoc] at this
  exact this
 have hu:2^j*2^(K - 1074)=2^k*2^((j:Int) - 1074 - k+K).toNat:=by
  rw[←Nat.pow_add,←Nat.pow_add,show j+(K - 1074)=k+((j:Int) - 1074 - k+K).toNat by omega]
 have hX:X=2^k*(X / 2^k)+X % 2^k:=(Nat.div_add_mod X (2^k)).symm
 have hr:X % 2^k<2^k:=Nat.mod_lt _ (Nat.two_pow_pos k)
 have hU:0<2^((j:Int) - 1074 - k+K).toNat:=Nat.two_pow_pos _
 rw[←eq]
 generalize 2^((j:Int) - 1074 - k+K).toNat=U at *
 generalize X / 2^k=q at *
 generalize X % 2^k=r at *
 generalize 2^k=M at *
 generalize 2^j=J at *
 generalize 2^(K - 1074)=u at *
 have e0:bv (j*4503599627370496+q)*u=q*(M*U):=by rw[b0,Nat.mul_assoc,hu]
 have e1:bv (j*4503599627370496+q+1)*u=(q+1)*(M*U):=by rw[b1,Nat.mul_assoc,hu]
 have eA:X*U=q*(M*U)+r*U:=by rw[hX,Nat.add_mul];congr 1;rw[←Nat.mul_assoc,Nat.mul_comm q M]
 have e1':(q+1)*(M*U)=q*(M*U)+M*U:=by rw[Nat.add_mul,Nat.one_mul]
 have hrU:r*U<M*U:=Nat.mul_lt_mul_of_pos_right hr hU
 have hr0:r=0↔r*U=0:=by
  constructor
  ·rintro rfl;simp
  ·intro h;rcases Nat.mul_eq_zero.1 h with h|h
   ·exact h
   ·omega
 have hh1:2*r<M↔2*(r*U)<M*U:=by
  rw[←Nat.mul_assoc]
  exact(Nat.mul_lt_mul_right hU).symm
 have hh2:2*r=M↔2*(r*U)=M*U:=by
  rw[←Nat.mul_assoc]
  exact(Nat.mul_left_inj (by omega)).symm
 refine⟨?_,?_,?_,?_,?_⟩
 ·rw[e0,eA];omega
 ·rw[e1,eA,e1'];omega
 ·rw[hr0,e0,eA];omega
 ·rw[hh1,Nat.add_mul,e0,e1,eA,e1'];omega
 ·rw[hh2,Nat.add_mul,e0,e1,eA,e1'];omega
structure Rounds (A u b way:Nat):Prop where
 fl:∃ b0,(bv b0*u≤A∧A<bv (b0+1)*u)∧(way=0→b=b0)∧(way=2→b=if A=bv b0*u then b0 else b0+1)∧(way=1→b=if 2*A<(bv b0+bv (b0+1))*u then b0 else if 2*A=(bv b0+bv (b0+1))*u then b0+b0 % 2 else b0+1)
theorem floor_mono {A A' u b b':Nat} (h:A≤A') (h1:bv b*u≤A) (h2:A'<bv (b'+1)*u):b≤b':=by
 have h3:bv b*u<bv (b'+1)*u:=by omega
 have h4:bv b<bv (b'+1):=Nat.lt_of_mul_lt_mul_right h3
 have:=bv_inj_lt h4
 omega
theorem Rounds.mono {A A' u b b' way:Nat} (hw:way=0∨way=1∨way=2) (h:Rounds A u b way) (h':Rounds A' u b' way) (hle:A≤A'):b≤b':=by
 obtain⟨b0,⟨l,g⟩,w0,w2,w1⟩:=h.fl
 obtain⟨b1,⟨l',g'⟩,w0',w2',w1'⟩:=h'.fl
 have hb:=floor_mono hle l g'
 rcases hw with hw|hw|hw
 ·rw[w0 hw,w0' hw];exact hb
 ·rw[w1 hw,w1' hw]
  by_cases he:b0=b1
  ·subst he
   split
   ·split
    ·exact Nat.le_refl _
    ·split <;> omega
   ·split
    ·split
     ·omega
     ·split
      ·exact Nat.le_refl _
      ·have:b0 % 2<2:=Nat.mod_lt _ (by omega)
       omega
    ·rw[if_neg (by omega),if_neg (by omega)];exact Nat.le_refl _
  ·have hlt:b0<b1:=by omega
   have h1:(if 2*A<(bv b0+bv (b0+1))*u then b0 else if 2*A=(bv b0+bv (b0+1))*u then b0+b0 % 2 else b0+1)≤b0+1:=by
    split
    ·omega
    ·split <;> omega
   have h2:b1≤(if 2*A'<(bv b1+bv (b1+1))*u then b1 else if 2*A'=(bv b1+bv (b1+1))*u then b1+b1 % 2 else b1+1):=by
    split
    ·omega
    ·split <;> omega
   omega
 ·rw[w2 hw,w2' hw]
  by_cases he:b0=b1
  ·subst he
   split
   ·split <;> omega
   ·rw[if_neg (by omega)];exact Nat.le_refl _
  ·split
   ·split <;> omega
   ·split <;> omega
end Go.Proofs.YtjiolfnchiioaaaGreatDoor
namespace Go.Proofs.YtjiolfnchiioaaaGreatDoor
open Go.RowKit Go.Fl64
open Ie
theorem or_one_half (y:Nat):(y ||| 1) / 2=y / 2:=by rw[Nat.or_div_two];simp
theorem or_one_odd (y:Nat):(y ||| 1) % 2=1:=Nat.or_mod_two_eq_one.2 (.inr rfl)
theorem or_one_eq (y:Nat):y ||| 1=2*(y / 2)+1:=by
 have h1:=or_one_half y
 have h2:=or_one_odd y
 omega
theorem rnd_sticky {x D k y m:Nat} {way:Int} (hk:2≤k) (hy:y=x / 2^D) (hm:(x % 2^D=0∧m=y)∨(x % 2^D≠0∧m=2*(y / 2)+1)):rnd m k way=rnd x (D+k) way:=by
 obtain⟨h,rfl⟩:∃ h,k=h+2:=⟨k - 2,by omega⟩
 have e2:(2:Nat)^(h+2)=2*(2*2^h):=by rw[Nat.pow_succ,Nat.pow_succ];omega
 have eD:(2:Nat)^(D+(h+2))=2^D*2^(h+2):=Nat.pow_add ..
 have hq:m / 2^(h+2)=x / 2^(D+(h+2)):=by
  rw[eD,←Nat.div_div_eq_div_mul,←hy]
  rcases hm with ⟨-,hm⟩|⟨-,hm⟩
  ·rw[hm]
  ·have hd:∀ z,z / (2*(2*2^h))=z / 2 / (2*2^h):=fun z=>(Nat.div_div_eq_div_mul ..).symm
   rw[e2,hd,hd,hm,show(2*(y / 2)+1) / 2=y / 2 by omega]
 have hR:x % 2^(D+(h+2))=(y % 2^(h+2))*2^D+x % 2^D:=by
  rw[eD,Nat.mod_mul,hy,Nat.mul_comm];omega
 have hM:(x % 2^D=0∧m % 2^(h+2)=y % 2^(h+2))∨(x % 2^D≠0∧m % 2^(h+2)=2*(y % 2^(h+2) / 2)+1):=by
  rcases hm with ⟨h1,hm⟩|⟨h1,hm⟩
  ·exact .inl ⟨h1,by rw[hm]⟩
  ·refine .inr ⟨h1,?_⟩
   rw[hm,e2]
   generalize 2^h=H
   rw[Nat.mod_mul,Nat.mod_mul (x:=y),show(2*(y / 2)+1) % 2=1 by omega,show(2*(y / 2)+1) / 2=y / 2 by omega]
   generalize y / 2 % (2*H)=t
   omega
 have hrx:x % 2^D<2^D:=Nat.mod_lt _ (Nat.two_pow_pos D)
 have hp:0<2^D:=Nat.two_pow_pos D
 have i0:m % 2^(h+2)=0↔x % 2^(D+(h+2))=0:=by
  rw[hR]
  rcases hM with ⟨h1,h2⟩|⟨h1,h2⟩
  ·rw[h1,h2,Nat.add_zero]
   constructor
   ·intro e;rw[e,Nat.zero_mul]
   ·intro e;rcases Nat.mul_eq_zero.1 e with e|e
    ·exact e
    ·omega
  ·rw[h2];omega
 have key:∀ c:Nat,c=2*2^h→(2^(h+2)<2*(m % 2^(h+2))↔2^(D+(h+2))<2*(x % 2^(D+(h+2))))∧(2*(m % 2^(h+2))=2^(h+2)↔2*(x % 2^(D+(h+2)))=2^(D+(h+2))):=by
  intro c hc
  rw[hR,eD]
  have e3:(2:Nat)^(h+2)=2*c:=by rw[e2,hc]
  rw[e3] at hM ⊢
  have hc2:c % 2=0:=by omega
  generalize y % (2*c)=ry at *
  generalize m % (2*c)=rm at *
  generalize x % 2^D=rx at *
  generalize 2^D=T at *
  have a1:T*(2*c)=2*(c*T):=by rw[Nat.mul_comm T,Nat.mul_assoc]
  rw[a1]
  rcases hM with ⟨h1,h2⟩|⟨h1,h2⟩
  ·subst h1
   rw[h2,Nat.add_zero]
   constructor
   ·constructor
    ·intro g;have:=Nat.mul_lt_mul_of_pos_right (show c<ry by omega) hp;omega
    ·intro g;have:c*T<ry*T:=by omega
     have:=Nat.lt_of_mul_lt_mul_right this;omega
   ·constructor
    ·intro g;rw[show ry=c by omega]
    ·intro g;have:=Nat.eq_of_mul_eq_mul_right hp (show ry*T=c*T by omega);omega
  ·have hlt:ry<c→ry*T+rx<c*T:=by
    intro g
    have:=Nat.mul_le_mul_right T (show ry+1≤c by omega)
    rw[Nat.add_mul,Nat.one_mul] at this
    omega
   have hge:c≤ry→c*T<ry*T+rx:=by
    intro g
    have:=Nat.mul_le_mul_right T g
    omega
   by_cases g:ry<c
   ·have a2:=hlt g
    have a3:rm<c:=by omega
    clear hlt hge
    refine⟨⟨fun g2=>?_,fun g2=>?_⟩,⟨fun g2=>?_,fun g2=>?_⟩⟩
    ·omega
    ·omega
    ·omega
    ·omega
   ·have a2:=hge (by omega)
    have a3:c<rm:=by omega
    clear hlt hge
    refine⟨⟨fun g2=>?_,fun g2=>?_⟩,⟨fun g2=>?_,fun g2=>?_⟩⟩
    ·omega
    ·omega
    ·omega
    ·omega
 have k1:=key _ rfl
 unfold rnd
 have hrup:Ie.rup m (h+2) way=Ie.rup x (D+(h+2)) way:=by
  unfold Ie.rup
  rw[hq]
  simp only[k1.1,k1.2,ne_eq,i0]
 rw[hrup,hq]
theorem tz_iff {x n:Nat} (h0:x≠0):tz x<n↔x % 2^n≠0:=by
 obtain⟨h1,h2⟩:=tz_spec x x (Nat.le_refl _) h0
 constructor
 ·intro hlt he
  have hd:2^(tz x+1) ∣ x:=Nat.dvd_trans (Nat.pow_dvd_pow 2 (by omega)) (Nat.dvd_of_mod_eq_zero he)
  obtain⟨c,hc⟩:=hd
  have h3:x / 2^tz x=2*c:=by
   rw[Nat.pow_succ,Nat.mul_assoc] at hc
   exact Nat.div_eq_of_eq_mul_right (Nat.two_pow_pos _) hc
  omega
 ·intro hne
  apply Decidable.byContradiction
  intro hge
  apply hne
  have:2^n ∣ x:=by rw[←h1];exact Nat.dvd_trans (Nat.pow_dvd_pow 2 (by omega)) (Nat.dvd_mul_right _ _)
  exact Nat.mod_eq_zero_of_dvd this
theorem raw_of {x:Nat} {e:Int} {X m j k k1:Nat} {s P:Int} {e':Int} (hs:s=e' - (nz m:Int)) (hP:P=pl m e') (hk1:(k1:Int)=P - s) (hj:(j:Int)=P+1074) (hr:∀ way,rnd (tp m) k1 way=rnd X k way) (way:Int):raw m e' way=((j*4503599627370496+rnd X k way:Nat):Int):=by
 unfold raw
 rw[←hP,←hs,show(P - s).toNat=k1 by omega,hr]
 omega
theorem raw_is {x:Nat} {e:Int} (h0:x≠0):∃ j X k,IsR x e j X k∧(∀ way,raw (tfM true x) (e+(tfD x:Int)) way=((j*4503599627370496+rnd X k way:Nat):Int))∧(k:Int)≤j+1074+(if e<0 then -e else 0)+64 ∧ -64+min e (-1074)≤(j:Int) - 1074 - k:=by
 by_cases hD:bl x≤64
 ·have eD:tfD x=0:=by unfold tfD;omega
  have eM:tfM true x=x:=by unfold tfM;rw[eD];simp
  rw[eM,eD]
  have hx64:x<18446744073709551616:=(bl_le x 64).1 hD
  obtain⟨n1,n2,n3⟩:=nz_facts x hx64 h0
  obtain⟨P,hP⟩:∃ P,P=pl x (e+((0:Nat):Int)):=⟨_,rfl⟩
  have hPl:=hP
  unfold pl at hPl
  have hPc:(P = -1074∧e - nz x+11 < -1074)∨(P=e - nz x+11 ∧ -1074≤P):=by
   split at hPl
   ·exact .inl ⟨hPl,by omega⟩
   ·exact .inr ⟨by omega,by omega⟩
  refine⟨(P+1074).toNat,tp x,(P - (e - nz x)).toNat,⟨?_,?_,?_⟩,fun way=>raw_of (x:=x) (e:=e) (m:=x) (s:=e - nz x) (P:=P) (k1:=(P - (e - nz x)).toNat) (by omega) hP (by omega) (by omega) (fun _=>rfl) way,?_,?_⟩
  ·intro K hK1 hK2
   unfold tp
   rw[Nat.mul_assoc,←Nat.pow_add]
   congr 2
   omega
  ·have:2^11≤2^(P - (e - nz x)).toNat:=Nat.pow_le_pow_right (by omega) (by omega)
   refine Nat.div_lt_of_lt_mul ?_
   have:2^11*9007199254740992≤2^(P - (e - nz x)).toNat*9007199254740992:=Nat.mul_le_mul_right _ this
   omega
  ·rcases hPc with h|h
   ·exact .inl (by omega)
   ·refine .inr ?_
    rw[show(P - (e - nz x)).toNat=11 by omega]
    omega
  ·split <;> omega
  ·omega
 ·have eD:bl x=tfD x+64:=by unfold tfD;omega
  obtain⟨D,hDD⟩:∃ D,D=tfD x:=⟨_,rfl⟩
  rw[←hDD] at eD ⊢
  have hx1:x<2^(D+64):=by rw[←eD];exact lt_bl x
  have hx2:2^(D+63)≤x:=by have:=le_bl h0;rw[eD] at this;exact this
  have hp:0<2^D:=Nat.two_pow_pos D
  obtain⟨y,hy⟩:∃ y,y=x / 2^D:=⟨_,rfl⟩
  have hy1:y<18446744073709551616:=by rw[hy];refine Nat.div_lt_of_lt_mul ?_;rw[Nat.pow_add] at hx1;exact hx1
  have hy2:9223372036854775808≤y:=by rw[hy,Nat.le_div_iff_mul_le hp,Nat.mul_comm];rw[Nat.pow_add] at hx2;exact hx2
  have hm:(x % 2^D=0∧tfM true x=y)∨(x % 2^D≠0∧tfM true x=2*(y / 2)+1):=by
   unfold tfM
   rw[←hDD,←hy]
   by_cases hz:tz x<D
   ·exact .inr ⟨(tz_iff h0).1 hz,by rw[decide_eq_true hz];exact or_one_eq y⟩
   ·refine .inl ⟨?_,by rw[decide_eq_false hz];rfl⟩
    apply Decidable.byContradiction
    intro h
    exact hz ((tz_iff h0).2 h)
  obtain⟨m,hmm⟩:∃ m,m=tfM true x:=⟨_,rfl⟩
  rw[←hmm] at hm ⊢
  have hm1:m<18446744073709551616:=by rcases hm with h|h <;> omega
  have hm2:9223372036854775808≤m:=by rcases hm with h|h <;> omega
  have hbm:bl m=64:=bl_eq (n:=64) hm1 (.inr hm2)
  have hnz:nz m=0:=by unfold nz;rw[←bl_bitLen,hbm]
  have htp:tp m=m:=by unfold tp;rw[hnz];simp
  obtain⟨P,hP⟩:∃ P,P=pl m (e+(D:Int)):=⟨_,rfl⟩
  have hPl:=hP
  unfold pl at hPl
  rw[hnz] at hPl
  have hPc:(P = -1074∧e+D+11 < -1074)∨(P=e+D+11 ∧ -1074≤P):=by
   split at hPl
   ·exact .inl ⟨hPl,by omega⟩
   ·exact .inr ⟨by omega,by omega⟩
  have hq:∀ k1,11≤k1→x / 2^(D+k1)=y / 2^k1:=fun k1 _=>by rw[Nat.pow_add,←Nat.div_div_eq_div_mul,hy]
  refine⟨(P+1074).toNat,x,D+(P - (e+D)).toNat,⟨?_,?_,?_⟩,fun way=>raw_of (x:=x) (e:=e) (m:=m) (s:=e+D) (P:=P) (k1:=(P - (e+D)).toNat) (by rw[hnz];omega) hP (by omega) (by omega) (fun way=>by rw[htp];exact rnd_sticky (by omega) hy hm) way,?_,?_⟩
  ·intro K hK1 hK2
   congr 2
   omega
  ·rw[hq _ (by omega)]
   have:2^11≤2^(P - (e+D)).toNat:=Nat.pow_le_pow_right (by omega) (by omega)
   refine Nat.div_lt_of_lt_mul ?_
   have:2^11*9007199254740992≤2^(P - (e+D)).toNat*9007199254740992:=Nat.mul_le_mul_right _ this
   omega
  ·rcases hPc with h|h
   ·exact .inl (by omega)
   ·refine .inr ?_
    rw[hq _ (by omega),show(P - (e+D)).toNat=11 by omega]
    omega
  ·split <;> omega
  ·omega
end Go.Proofs.YtjiolfnchiioaaaGreatDoor
/- A float is made anew of its odd part and its exponent, whatever the way of rounding. -/
namespace Go.Proofs.YtjiolfnchiioaaaGreatDoor.Ie
open Go.RowKit Go.Fl64
theorem odd_one {x j M:Nat} (hx:x % 2=1) (h:x*2^j=M) (hM:M<2^64):j=Lib.ctz 64 M∧(x:Int)=(M:Int) / 2^Lib.ctz 64 M:=by
 have hp:0<2^j:=Nat.two_pow_pos j
 have h0:M≠0:=by
  rw[←h]
  exact Nat.ne_of_gt (Nat.mul_pos (by omega) hp)
 obtain⟨m,hm,hk⟩:=Lib.ctzFrom_spec 64 M (by omega) hM
 have e:Lib.ctz 64 M=Lib.ctzFrom 64 M:=by simp[Lib.ctz,h0]
 rw[e]
 generalize Lib.ctzFrom 64 M=c at *
 have hjc:j=c:=by
  rcases Nat.lt_trichotomy j c with hlt|heq|hgt
  ·exfalso
   obtain⟨d,rfl⟩:∃ d,c=j+(d+1):=⟨c - j - 1,by omega⟩
   rw[←h,Nat.pow_add,Nat.mul_comm x,Nat.mul_assoc] at hm
   have:=Nat.eq_of_mul_eq_mul_left hp hm
   rw[Nat.pow_succ,Nat.mul_comm (2^d) 2,Nat.mul_assoc] at this
   omega
  ·exact heq
  ·exfalso
   obtain⟨d,rfl⟩:∃ d,j=c+(d+1):=⟨j - c - 1,by omega⟩
   rw[←h,Nat.pow_add,Nat.mul_comm x,Nat.mul_assoc] at hm
   have:=Nat.eq_of_mul_eq_mul_left (Nat.two_pow_pos c) hm
   rw[Nat.pow_succ,Nat.mul_comm (2^d) 2,Nat.mul_assoc] at this
   omega
 subst hjc
 refine⟨rfl,?_⟩
 have e2:M / 2^j=x:=by rw[←h];exact Nat.mul_div_cancel _ hp
 rw[←e2]
 simp
theorem rnd_whole (X d:Nat) (way:Int):rnd (X*2^d) d way=X:=by
 have hp:0<2^d:=Nat.two_pow_pos d
 have e1:X*2^d % 2^d=0:=Nat.mul_mod_left X (2^d)
 have e2:X*2^d / 2^d=X:=Nat.mul_div_cancel X hp
 unfold rnd Ie.rup
 rw[e1,e2]
 have h:¬ (2^d<2*0):=by omega
 have h':¬ (2*0=2^d):=by omega
 simp only[h,h',decide_false,Bool.false_or,Bool.false_and,ne_eq,not_true_eq_false,ite_self,if_false,Bool.false_eq_true]
theorem bitLen_of {x k:Nat} (h1:2^k≤x) (h2:x<2^(k+1)):bitLen x=k+1:=by
 have h0:x≠0:=by have:=Nat.two_pow_pos k;omega
 unfold bitLen
 rw[if_neg h0,(Nat.log2_eq_iff h0).2 ⟨h1,h2⟩]
theorem bod_split {a:Nat} (h0:mag a≠0) (h1:mag a<9218868437227405312) (x c:Nat) (hx:x*2^c=mant a) (way:Int) :
  bod x (lp a+(c:Int)) way=(mag a:Int):=by
 have hm:=mant_ne h0
 have hb:=mant_bound a
 have hp:0<2^c:=Nat.two_pow_pos c
 have e1:mant a / 2^c=x:=by rw[←hx];exact Nat.mul_div_cancel _ hp
 have hx0:x≠0:=by
  intro e
  rw[e,Nat.zero_mul] at hx
  exact hm hx.symm
 have e2:=bitLen_shift (mant a) c (by rw[e1];exact hx0)
 rw[e1] at e2
 have hx64:x<18446744073709551616:=by
  have:x≤x*2^c:=Nat.le_mul_of_pos_right x hp
  omega
 obtain⟨s1,s2⟩:=bitLen_spec x
 have s2:=s2 hx0
 have s3:=bitLen_le64 x hx64
 have s4:bitLen x≠0:=by unfold bitLen;rw[if_neg hx0];omega
 have k53:bitLen (mant a)≤53:=by
  unfold bitLen
  rw[if_neg hm]
  have:=(Nat.log2_lt hm).2 (show mant a<2^53 from hb)
  omega
 have key:∀ d:Nat,(nz x:Int) - (c:Int)=(d:Int)→tp x=mant a*2^d:=by
  intro d hd
  unfold tp
  rw[←hx,Nat.mul_assoc,←Nat.pow_add,show nz x=c+d by omega]
 have hz:(nz x:Int) - (c:Int)=64 - (bitLen (mant a):Int):=by unfold nz;omega
 have fin:∀ d:Nat,(d:Int)=64 - (bitLen (mant a):Int)→∀ P:Int,pl x (lp a+(c:Int))=P→(P - (lp a+(c:Int) - (nz x:Int))).toNat=d→(P+1074)*4503599627370496+(mant a:Int)=(mag a:Int)→bod x (lp a+(c:Int)) way=(mag a:Int):=by
  intro d hd P hP hD hM
  have er:raw x (lp a+(c:Int)) way=(mag a:Int):=by
   unfold raw
   rw[hP,hD,key d (by omega),rnd_whole]
   exact hM
  unfold bod
  rw[er,if_pos (by omega)]
 by_cases h3:mag a<4503599627370496
 ·have em:mant a=mag a:=if_pos h3
  have el:lp a = -1074:=by unfold lp;omega
  have k52:bitLen (mant a)≤52:=by
   unfold bitLen
   rw[if_neg hm]
   have:=(Nat.log2_lt hm).2 (show mant a<2^52 by rw[em];exact h3)
   omega
  refine fin (64 - bitLen (mant a)) (by omega) (-1074) ?_ (by omega) (by omega)
  unfold pl
  rw[if_pos (by omega)]
 ·have em:mant a=4503599627370496+mag a % 4503599627370496:=if_neg h3
  have kk:bitLen (mant a)=53:=bitLen_of (k:=52) (show 2^52≤mant a by rw[em];omega) (show mant a<2^53 from hb)
  have el:lp a = -1075+((mag a / 4503599627370496:Nat):Int):=by unfold lp;omega
  refine fin 11 (by omega) (lp a) ?_ (by omega) (by omega)
  unfold pl
  rw[if_neg (by omega)]
  omega
theorem sig_self (a:Nat) (h:a<18446744073709551616):sig (neg a) (mag a)=a:=by
 unfold sig neg mag
 by_cases hn:9223372036854775808≤a
 ·rw[decide_eq_true hn,if_pos rfl];omega
 ·rw[decide_eq_false hn,if_neg (by decide)];omega
theorem mk_split (a:Nat) (h:a<18446744073709551616) (h1:mag a<9218868437227405312) (k:Nat) (hk1:1≤k) (hk3:k≤3) (nan:Nat) :
  mk (sN a) (sM a).toNat (sE a) k nan=a:=by
 have h1':¬ 9218868437227405312≤mag a:=by omega
 unfold mk sN sM sE
 rw[if_pos (by omega),if_neg h1',if_neg h1',if_neg h1']
 by_cases h0:mag a=0
 ·rw[if_pos h0,if_pos h0,if_pos (show(0:Int).toNat=0 from rfl)]
  have:=sig_self a h
  rw[h0] at this
  exact this
 ·rw[if_neg h0,if_neg h0]
  have hm:=mant_ne h0
  have hb:=mant_bound a
  obtain⟨m,hmm,hk⟩:=Lib.ctzFrom_spec 64 (mant a) (by omega) (show mant a<2^64 by omega)
  have e:Lib.ctz 64 (mant a)=Lib.ctzFrom 64 (mant a):=by simp[Lib.ctz,hm]
  have hx:(2*m+1)*2^Lib.ctz 64 (mant a)=mant a:=by rw[e,Nat.mul_comm];exact hmm.symm
  obtain⟨_,ex⟩:=odd_one (x:=2*m+1) (by omega) hx (show mant a<2^64 by omega)
  rw[←ex,Int.toNat_natCast,if_neg (by omega),bod_split h0 h1 _ _ hx,Int.toNat_natCast,sig_self a h]
end Go.Proofs.YtjiolfnchiioaaaGreatDoor.Ie
namespace Go.Proofs.YtjiolfnchiioaaaGreatDoor
open Go.RowKit Go.Fl64
def nN (a:Nat):Bool:=if mag a=0 then false else neg a
def nM (a:Nat):Nat:=(Ie.sM a).toNat
theorem val_mant (a:Nat) (hf:mag a<9218868437227405312):val (mag a)=Ie.mant a*2^(Ie.lp a+1074).toNat ∧ -1074≤Ie.lp a∧Ie.lp a≤972:=by
 unfold val Ie.mant Ie.lp
 by_cases h:mag a<4503599627370496
 ·rw[if_pos h,if_pos h]
  have:(-1075+max 1 ((mag a / 4503599627370496:Nat):Int)+1074).toNat=0:=by omega
  rw[this,Nat.pow_zero,Nat.mul_one]
  exact⟨rfl,by omega,by omega⟩
 ·rw[if_neg h,if_neg h]
  have:(-1075+max 1 ((mag a / 4503599627370496:Nat):Int)+1074).toNat=mag a / 4503599627370496 - 1:=by omega
  rw[this]
  exact⟨rfl,by omega,by omega⟩
theorem num_zero {a:Nat} (h0:mag a=0):nM a=0∧Ie.sE a=0:=by
 constructor
 ·unfold nM Ie.sM
  rw[if_neg (by omega),if_pos h0]
  rfl
 ·unfold Ie.sE
  rw[if_neg (by omega),if_pos h0]
theorem num_parts {a:Nat} (hf:mag a<9218868437227405312) (h0:mag a≠0) :
  nM a % 2=1∧nM a<9007199254740992 ∧ -1074≤Ie.sE a∧Ie.sE a≤1100∧nM a*2^(Ie.sE a+1074).toNat=val (mag a):=by
 obtain⟨v1,v2,v3⟩:=val_mant a hf
 have hb:=Ie.mant_bound a
 have hne:=Ie.mant_ne h0
 have hct:Lib.ctz 64 (Ie.mant a)=tz (Ie.mant a):=tz_ctz hne (by omega)
 obtain⟨h1,h2⟩:=tz_spec _ (Ie.mant a) (Nat.le_refl _) hne
 have e1:nM a=Ie.mant a / 2^tz (Ie.mant a):=by
  unfold nM Ie.sM
  rw[if_neg (by omega),if_neg h0,hct]
  have:(Ie.mant a:Int) / 2^tz (Ie.mant a)=((Ie.mant a / 2^tz (Ie.mant a):Nat):Int):=by simp
  rw[this,Int.toNat_natCast]
 have e2:Ie.sE a=Ie.lp a+(tz (Ie.mant a):Int):=by
  unfold Ie.sE
  rw[if_neg (by omega),if_neg h0,hct]
 rw[v1]
 generalize Ie.mant a=M at *
 generalize tz M=t at *
 generalize Ie.lp a=p at *
 have hq:M / 2^t≤M:=Nat.div_le_self ..
 have ht:t≤53:=by
  apply Nat.le_of_not_lt
  intro h
  have h3:1≤M / 2^t:=Nat.pos_of_ne_zero fun e0=>by rw[e0] at h2;simp at h2
  have h4:=Nat.mul_le_mul_left (2^t) h3
  have h5:2^53≤2^t:=Nat.pow_le_pow_right (by omega) (by omega)
  have h6:(2:Nat)^53=9007199254740992:=by decide
  omega
 refine⟨by rw[e1];exact h2,by rw[e1];omega,by omega,by omega,?_⟩
 rw[e1,e2,show(p+(t:Int)+1074).toNat=t+(p+1074).toNat by omega,Nat.pow_add,←Nat.mul_assoc,Nat.mul_comm (M / 2^t),h1]
theorem tf_back {a:Nat} (ha:a<18446744073709551616) (hf:mag a<9218868437227405312) (k:Int) (hk:1≤k∧k≤3):tfF (nN a) true (nM a) (Ie.sE a) k=if mag a=0 then 0 else a:=by
 obtain⟨k,rfl⟩:∃ n:Nat,k=(n:Int):=⟨k.toNat,by omega⟩
 by_cases h0:mag a=0
 ·obtain⟨h1,h2⟩:=num_zero h0
  unfold nN
  rw[if_pos h0,if_pos h0,h1,h2]
  have e0:tfD 0=0:=by unfold tfD bl;simp
  have e1:tfM true 0=0:=by unfold tfM;rw[e0];simp
  unfold tfF
  rw[e1]
  unfold Ie.mk
  rw[if_pos (by omega),if_pos rfl]
  rfl
 ·obtain⟨h1,h2,-⟩:=num_parts hf h0
  have hb:tfD (nM a)=0:=by
   unfold tfD
   have:=(bl_le (nM a) 53).2 (by omega)
   omega
  have e1:tfM true (nM a)=nM a:=by unfold tfM;rw[hb];simp
  unfold tfF
  rw[e1,hb,if_neg h0]
  have:=Ie.mk_split a ha hf k (by omega) (by omega) 9221120237041090561
  unfold Ie.sN at this
  rw[if_neg (by omega)] at this
  unfold nN
  rw[if_neg h0]
  unfold nM
  simpa using this
theorem cmp_scale {X Y:Nat} (k:Nat) {p q:Nat} (h1:X*2^k=p) (h2:Y*2^k=q):cmpI X Y=cmpI p q:=by
 have hp:=Nat.two_pow_pos k
 rcases cmpI_cases (X:Int) (Y:Int)with h|h|h
 ·have:X*2^k<Y*2^k:=Nat.mul_lt_mul_of_pos_right (by omega) hp
  rw[h.2];unfold cmpI;rw[if_pos (by omega)]
 ·have:Y*2^k<X*2^k:=Nat.mul_lt_mul_of_pos_right (by omega) hp
  rw[h.2];unfold cmpI;rw[if_neg (by omega),if_pos (by omega)]
 ·have e:X=Y:=by omega
  subst e
  rw[h.2];unfold cmpI;rw[if_neg (by omega),if_neg (by omega)]
theorem ord_num {a b:Nat} (ha:mag a<9218868437227405312) (hb:mag b<9218868437227405312):ordN (nN a) (nM a) (Ie.sE a) (nN b) (nM b) (Ie.sE b)=cmpI (stp a) (stp b):=by
 have sa:=sgn_mag a
 have sb:=sgn_mag b
 unfold ordN nN
 by_cases a0:mag a=0
 ·obtain⟨a1,a2⟩:=num_zero a0
  have ea:stp a=0:=by omega
  rw[if_pos a0,a1,a2,dlen_zero,sgI_zero,ea]
  by_cases b0:mag b=0
  ·obtain⟨b1,b2⟩:=num_zero b0
   have eb:stp b=0:=by omega
   rw[if_pos b0,b1,dlen_zero,sgI_zero,if_pos rfl,eb,Int.zero_mul]
   decide
  ·obtain⟨b1,-⟩:=num_parts hb b0
   have hd:dlen (nM b)≠0:=fun e=>by rw[dlen_eq_zero.1 e] at b1;simp at b1
   rw[if_neg b0,sgI_pos hd]
   rcases sb with ⟨s1,s2⟩|⟨s1,s2⟩
   ·rw[s2,s1]
    simp only[Bool.false_eq_true,if_false]
    unfold cmpI
    rw[if_neg (by omega),if_pos (by omega),if_pos (by omega)]
   ·rw[s2,s1]
    simp only[if_true]
    unfold cmpI
    rw[if_neg (by omega),if_neg (by omega),if_pos (by omega),if_neg (by omega),if_pos (by omega)]
 ·obtain⟨a1,a2,a3,a4,a5⟩:=num_parts ha a0
  have hda:dlen (nM a)≠0:=fun e=>by rw[dlen_eq_zero.1 e] at a1;simp at a1
  rw[if_neg a0,sgI_pos hda]
  by_cases b0:mag b=0
  ·obtain⟨b1,b2⟩:=num_zero b0
   have eb:stp b=0:=by omega
   rw[if_pos b0,b1,dlen_zero,sgI_zero,eb]
   rcases sa with ⟨s1,s2⟩|⟨s1,s2⟩
   ·rw[s2,s1]
    simp only[Bool.false_eq_true,if_false]
    unfold cmpI
    rw[if_neg (by omega),if_neg (by omega),if_pos (by omega),if_neg (by omega),if_pos (by omega)]
   ·rw[s2,s1]
    simp only[if_true]
    unfold cmpI
    rw[if_neg (by omega),if_pos (by omega),if_pos (by omega)]
  ·obtain⟨b1,b2,b3,b4,b5⟩:=num_parts hb b0
   have hdb:dlen (nM b)≠0:=fun e=>by rw[dlen_eq_zero.1 e] at b1;simp at b1
   rw[if_neg b0,sgI_pos hdb]
   have key:cmpI (nM a*2^(Ie.sE a - min (Ie.sE a) (Ie.sE b)).toNat:Nat) (nM b*2^(Ie.sE b - min (Ie.sE a) (Ie.sE b)).toNat:Nat)=cmpI (mag a) (mag b):=by
    have k1:=cmp_scale (X:=nM a*2^(Ie.sE a - min (Ie.sE a) (Ie.sE b)).toNat) (Y:=nM b*2^(Ie.sE b - min (Ie.sE a) (Ie.sE b)).toNat) (min (Ie.sE a) (Ie.sE b)+1074).toNat (p:=val (mag a)) (q:=val (mag b))
     (by rw[Nat.mul_assoc,←Nat.pow_add,←a5];congr 2;omega) (by rw[Nat.mul_assoc,←Nat.pow_add,←b5];congr 2;omega)
    rw[k1]
    have g1:=val_lt (mag a) (mag b)
    have g2:=val_lt (mag b) (mag a)
    rcases cmpI_cases (mag a:Int) (mag b:Int)with h|h|h
    ·rw[h.2];unfold cmpI;rw[if_pos (by omega)]
    ·rw[h.2];unfold cmpI;rw[if_neg (by omega),if_pos (by omega)]
    ·rw[h.2];unfold cmpI;rw[if_neg (by omega),if_neg (by omega)]
   rw[key]
   rcases sa with ⟨s1,s2⟩|⟨s1,s2⟩ <;> rcases sb with ⟨t1,t2⟩|⟨t1,t2⟩ <;> rw[s1,s2,t1,t2]
   ·simp only[Bool.false_eq_true,if_false,if_true]
    omega
   ·simp only[Bool.false_eq_true,if_false,if_true]
    rw[if_neg (by omega)]
    unfold cmpI
    rw[if_neg (by omega),if_pos (by omega),if_neg (by omega),if_pos (by omega)]
   ·simp only[Bool.false_eq_true,if_false,if_true]
    rw[if_neg (by omega)]
    unfold cmpI
    rw[if_pos (by omega),if_pos (by omega)]
   ·simp only[if_true]
    rcases cmpI_cases (mag a:Int) (mag b:Int)with h|h|h
    ·rw[h.2];unfold cmpI;rw[if_neg (by omega),if_pos (by omega)];rfl
    ·rw[h.2];unfold cmpI;rw[if_pos (by omega)];rfl
    ·rw[h.2];unfold cmpI;rw[if_neg (by omega),if_neg (by omega)];rfl
end Go.Proofs.YtjiolfnchiioaaaGreatDoor
namespace Go.Proofs.YtjiolfnchiioaaaGreatDoor
open Go.RowKit Go.Fl64
open Ie
theorem rnd0 (X k:Nat):rnd X k ((0:Nat):Int)=X / 2^k:=by
 have h1:¬ (((0:Nat):Int)=1):=by decide
 have h2:¬ (((0:Nat):Int)=2):=by decide
 simp only[rnd,Ie.rup,if_neg h1,if_neg h2,Bool.false_eq_true,if_false]
theorem rnd2 (X k:Nat):rnd X k ((2:Nat):Int)=if X % 2^k=0 then X / 2^k else X / 2^k+1:=by
 have h1:¬ (((2:Nat):Int)=1):=by decide
 have h2:((2:Nat):Int)=2:=by decide
 simp only[rnd,Ie.rup,if_neg h1,if_pos h2]
 by_cases h:X % 2^k=0
 ·rw[if_pos h,decide_eq_false (by simpa using h)];rfl
 ·rw[if_neg h,decide_eq_true h];rfl
theorem rnd1 (X k:Nat):rnd X k ((1:Nat):Int)=if 2*(X % 2^k)<2^k then X / 2^k else if 2*(X % 2^k)=2^k then X / 2^k+X / 2^k % 2 else X / 2^k+1:=by
 have h0:((1:Nat):Int)=1:=by decide
 simp only[rnd,Ie.rup,if_pos h0]
 by_cases h1:2*(X % 2^k)<2^k
 ·rw[if_pos h1,decide_eq_false (show ¬ 2^k<2*(X % 2^k) by omega),decide_eq_false (show ¬ 2*(X % 2^k)=2^k by omega)];rfl
 ·rw[if_neg h1]
  by_cases h2:2*(X % 2^k)=2^k
  ·rw[if_pos h2,decide_eq_false (show ¬ 2^k<2*(X % 2^k) by omega),decide_eq_true h2]
   by_cases h3:X / 2^k % 2=1
   ·rw[decide_eq_true h3,h3];rfl
   ·rw[decide_eq_false h3,show X / 2^k % 2=0 by omega];rfl
  ·rw[if_neg h2,decide_eq_true (show 2^k<2*(X % 2^k) by omega)];rfl
def rwb (x:Nat) (e:Int) (way:Nat):Nat:=(raw (tfM true x) (e+(tfD x:Int)) (way:Int)).toNat
theorem rwb_rounds {x:Nat} {e:Int} (h0:x≠0) {K:Nat} (hK:1200≤K) (hK2:64 - e≤K) {way:Nat}:Rounds (x*2^(e+K).toNat) (2^(K - 1074)) (rwb x e way) way:=by
 obtain⟨j,X,k,hR,hr,-,hl⟩:=raw_is (e:=e) h0
 have L:=hR.lies (K:=K) (by omega) (by omega) (by omega)
 refine⟨⟨j*4503599627370496+X / 2^k,⟨L.lo,L.hi⟩,?_,?_,?_⟩⟩
 ·intro h;subst h
  unfold rwb
  rw[hr,Int.toNat_natCast,rnd0]
 ·intro h;subst h
  unfold rwb
  rw[hr,Int.toNat_natCast,rnd2]
  by_cases hx:X % 2^k=0
  ·rw[if_pos hx,if_pos (L.ex.1 hx)]
  ·rw[if_neg hx,if_neg (fun h=>hx (L.ex.2 h)),Nat.add_assoc]
 ·intro h;subst h
  unfold rwb
  rw[hr,Int.toNat_natCast,rnd1]
  have hpar:(j*4503599627370496+X / 2^k) % 2=X / 2^k % 2:=by omega
  by_cases h1:2*(X % 2^k)<2^k
  ·rw[if_pos h1,if_pos (L.half_lt.1 h1)]
  ·rw[if_neg h1,if_neg (fun h=>h1 (L.half_lt.2 h))]
   by_cases h2:2*(X % 2^k)=2^k
   ·rw[if_pos h2,if_pos (L.half_eq.1 h2),hpar,Nat.add_assoc]
   ·rw[if_neg h2,if_neg (fun h=>h2 (L.half_eq.2 h)),Nat.add_assoc]
def bdy (x:Nat) (e:Int) (way:Nat):Nat:=if x=0 then 0 else if rwb x e way<9218868437227405312 then rwb x e way else if way=0 then 9218868437227405311 else 9218868437227405312
theorem raw_nn {x:Nat} {e:Int} (h0:x≠0) (way:Nat):raw (tfM true x) (e+(tfD x:Int)) (way:Int)=(rwb x e way:Int):=by
 obtain⟨j,X,k,-,hr,-,-⟩:=raw_is (e:=e) h0
 unfold rwb
 rw[hr];rfl
theorem bod_eq {x:Nat} {e:Int} (h0:x≠0) (way:Nat):(bod (tfM true x) (e+(tfD x:Int)) (way:Int)).toNat=bdy x e way:=by
 unfold bod bdy
 rw[if_neg h0,raw_nn h0]
 by_cases h1:rwb x e way<9218868437227405312
 ·rw[if_pos (by omega),if_pos h1];rfl
 ·rw[if_neg (by omega),if_neg h1]
  by_cases h2:way=0
  ·subst h2;rfl
  ·rw[if_neg h2]
   have:((way:Int)==0)=false:=by simp;omega
   rw[this];rfl
end Go.Proofs.YtjiolfnchiioaaaGreatDoor
namespace Go.Proofs.YtjiolfnchiioaaaGreatDoor
open Go.RowKit Go.Fl64
theorem cmpI_mul {a b:Int} {c:Nat} (hc:0<c):cmpI (a*(c:Int)) (b*(c:Int))=cmpI a b:=by
 have hc':(0:Int)<(c:Int):=by omega
 unfold cmpI
 have h1:(a*(c:Int)<b*(c:Int))↔a<b:=⟨fun h=>Int.lt_of_mul_lt_mul_right h (Int.le_of_lt hc'),fun h=>Int.mul_lt_mul_of_pos_right h hc'⟩
 have h2:(b*(c:Int)<a*(c:Int))↔b<a:=⟨fun h=>Int.lt_of_mul_lt_mul_right h (Int.le_of_lt hc'),fun h=>Int.mul_lt_mul_of_pos_right h hc'⟩
 simp only[h1,h2]
theorem cmpI_neg (a b:Int):cmpI (-a) (-b) = - cmpI a b:=by
 unfold cmpI
 by_cases h1:a<b
 ·rw[if_neg (by omega),if_pos (by omega),if_pos h1];rfl
 ·by_cases h2:b<a
  ·rw[if_pos (by omega),if_neg h1,if_pos h2]
  ·rw[if_neg (by omega),if_neg (by omega),if_neg h1,if_neg h2];rfl
theorem sgI_eq (s:Bool) (x:Nat):sgI s (dlen x)=if x=0 then 0 else if s then -1 else 1:=by
 unfold sgI
 by_cases h:x=0
 ·subst h;simp[dlen_zero]
 ·rw[if_neg (fun e=>h (dlen_eq_zero.1 e)),if_neg h]
theorem ordN_vz {K:Nat} {na nb:Bool} {x y:Nat} {ea eb:Int} (h1:0≤ea+K) (h2:0≤eb+K):ordN na x ea nb y eb=cmpI (vz K na x ea) (vz K nb y eb):=by
 have hm:0≤min ea eb+(K:Int):=by omega
 have e1:vz K na x ea=vz K na (x*2^(ea - min ea eb).toNat) (min ea eb):=by
  rw[vz_shift hm,show min ea eb+((ea - min ea eb).toNat:Int)=ea by omega]
 have e2:vz K nb y eb=vz K nb (y*2^(eb - min ea eb).toNat) (min ea eb):=by
  rw[vz_shift hm,show min ea eb+((eb - min ea eb).toNat:Int)=eb by omega]
 have hx:x=0↔x*2^(ea - min ea eb).toNat=0:=by
  constructor
  ·rintro rfl;rw[Nat.zero_mul]
  ·intro h;rcases Nat.mul_eq_zero.1 h with h|h
   ·exact h
   ·have:=Nat.two_pow_pos (ea - min ea eb).toNat;omega
 have hy:y=0↔y*2^(eb - min ea eb).toNat=0:=by
  constructor
  ·rintro rfl;rw[Nat.zero_mul]
  ·intro h;rcases Nat.mul_eq_zero.1 h with h|h
   ·exact h
   ·have:=Nat.two_pow_pos (eb - min ea eb).toNat;omega
 rw[e1,e2]
 unfold ordN vz
 rw[cmpI_mul (Nat.two_pow_pos _),sgI_eq,sgI_eq]
 generalize x*2^(ea - min ea eb).toNat=X at *
 generalize y*2^(eb - min ea eb).toNat=Y at *
 by_cases x0:x=0
 ·have X0:=hx.1 x0
  rw[if_pos x0,X0]
  by_cases y0:y=0
  ·rw[if_pos y0,if_pos rfl,hy.1 y0,sv_zero,sv_zero]
   simp[cmpI]
  ·have Y0:Y≠0:=fun h=>y0 (hy.2 h)
   rw[if_neg y0,sv_zero]
   cases nb
   ·simp[sv,cmpI];omega
   ·simp[sv,cmpI];omega
 ·have X0:X≠0:=fun h=>x0 (hx.2 h)
  rw[if_neg x0]
  by_cases y0:y=0
  ·rw[if_pos y0,hy.1 y0,sv_zero]
   cases na
   ·simp[sv,cmpI];omega
   ·simp[sv,cmpI];omega
  ·have Y0:Y≠0:=fun h=>y0 (hy.2 h)
   rw[if_neg y0]
   cases na <;> cases nb
   ·simp[sv]
   ·simp[sv,cmpI];omega
   ·simp[sv,cmpI];omega
   ·simp only[if_true,sv]
    rw[cmpI_neg];omega
end Go.Proofs.YtjiolfnchiioaaaGreatDoor
namespace Go.Proofs.YtjiolfnchiioaaaGreatDoor
open Go.RowKit Go.Fl64
open Ie
def VA (K x:Nat) (e:Int):Nat:=x*2^(e+(K:Int)).toNat
def UU (K:Nat):Nat:=2^(K - 1074)
theorem VA_rounds {K:Nat} (hK:70000≤K) {x:Nat} {e:Int} (h0:x≠0) (he : -65536≤e) {way:Nat}:Rounds (VA K x e) (UU K) (rwb x e way) way:=rwb_rounds h0 (by omega) (by omega)
theorem VA_zero (K:Nat) (e:Int):VA K 0 e=0:=by unfold VA;rw[Nat.zero_mul]
theorem VA_ne {K x:Nat} {e:Int} (h0:x≠0):0<VA K x e:=Nat.mul_pos (by omega) (Nat.two_pow_pos _)
theorem bdy_le (x:Nat) (e:Int) (way:Nat):bdy x e way≤9218868437227405312:=by
 unfold bdy
 split
 ·omega
 ·split
  ·omega
  ·split <;> omega
theorem bdy_mono {K:Nat} (hK:70000≤K) {x y:Nat} {e f:Int} (he : -65536≤e) (hf : -65536≤f) {way:Nat} (hw:way=0∨way=1∨way=2) (h:VA K x e≤VA K y f):bdy x e way≤bdy y f way:=by
 by_cases hx:x=0
 ·unfold bdy;rw[if_pos hx];omega
 ·by_cases hy:y=0
  ·subst hy
   rw[VA_zero] at h
   have:=VA_ne (K:=K) (e:=e) hx
   omega
  ·have hm:=Rounds.mono hw (VA_rounds hK hx he) (VA_rounds hK hy hf) h
   unfold bdy
   rw[if_neg hx,if_neg hy]
   split
   ·split
    ·exact hm
    ·split <;> omega
   ·rw[if_neg (show ¬ rwb y f way<9218868437227405312 by omega)]
    exact Nat.le_refl _
def wyN (s:Bool) (m:Int):Nat:=if m=2 then 1 else if(s==(m==1))then 2 else 0
theorem wyN_eq (s:Bool) (m:Int):((wyN s m:Nat):Int)=wy s m:=by
 unfold wyN wy
 split
 ·rfl
 ·split <;> rfl
theorem wyN_ways (s:Bool) (m:Int):wyN s m=0∨wyN s m=1∨wyN s m=2:=by
 unfold wyN
 split
 ·exact .inr (.inl rfl)
 ·split
  ·exact .inr (.inr rfl)
  ·exact .inl rfl
theorem tfM_zero:tfM true 0=0:=by unfold tfM;rw[show tfD 0=0 from rfl];simp
theorem tfM_ne {x:Nat} (h0:x≠0):tfM true x≠0:=by
 unfold tfM
 split
 ·have h1:=le_bl h0
  have hp:2^tfD x≤x:=Nat.le_trans (Nat.pow_le_pow_right (by omega) (by unfold tfD;omega)) h1
  have:=(Nat.le_div_iff_mul_le (Nat.two_pow_pos (tfD x))).2 (show 1*2^tfD x≤x by omega)
  omega
 ·rw[or_one_eq];omega
theorem tf_bdy {s:Bool} {x:Nat} {e m:Int} (hm:1≤m∧m≤3):tfF s true x e m=sig s (bdy x e (wyN s m)):=by
 unfold tfF mk
 rw[if_pos (by omega)]
 congr 1
 by_cases h0:x=0
 ·subst h0
  rw[tfM_zero,if_pos rfl]
  unfold bdy;rw[if_pos rfl]
 ·rw[if_neg (tfM_ne h0),←wyN_eq,bod_eq h0]
theorem mag_sig {s:Bool} {b:Nat} (h:b≤9218868437227405312):mag (sig s b)=b∧neg (sig s b)=s∧sig s b<18446744073709551616:=by
 unfold mag neg sig
 cases s
 ·exact⟨by show b % _=b;omega,decide_eq_false (by show ¬ _≤b;omega),by show b<_;omega⟩
 ·exact⟨by show(b+9223372036854775808) % _=b;omega,decide_eq_true (by show _≤b+_;omega),by show b+9223372036854775808<_;omega⟩
theorem stp_sig {s:Bool} {b:Nat} (h:b≤9218868437227405312):stp (sig s b)=sv s b∧isNaN (sig s b)=false∧sig s b<18446744073709551616:=by
 obtain⟨h1,h2,h3⟩:=mag_sig (s:=s) h
 refine⟨?_,?_,h3⟩
 ·unfold stp;rw[h1,h2];rfl
 ·unfold isNaN;rw[h1];exact decide_eq_false (by omega)
theorem vz_VA (K:Nat) (s:Bool) (x:Nat) (e:Int):vz K s x e=sv s (VA K x e):=by
 unfold vz VA sv
 cases s <;> simp[Int.neg_mul]
theorem rnd_rounds {x:Nat} {e:Int} {j X k:Nat} (hR:IsR x e j X k) {K:Nat} (hK:1074≤K) (h1:0≤e+K) (h2:0≤(j:Int) - 1074 - k+K) (way:Nat):Rounds (x*2^(e+K).toNat) (2^(K - 1074)) (j*4503599627370496+rnd X k (way:Int)) way:=by
 have L:=hR.lies hK h1 h2
 refine⟨⟨j*4503599627370496+X / 2^k,⟨L.lo,L.hi⟩,?_,?_,?_⟩⟩
 ·intro h;subst h
  rw[rnd0]
 ·intro h;subst h
  rw[rnd2]
  by_cases hx:X % 2^k=0
  ·rw[if_pos hx,if_pos (L.ex.1 hx)]
  ·rw[if_neg hx,if_neg (fun h=>hx (L.ex.2 h)),Nat.add_assoc]
 ·intro h;subst h
  rw[rnd1]
  have hpar:(j*4503599627370496+X / 2^k) % 2=X / 2^k % 2:=by omega
  by_cases h1:2*(X % 2^k)<2^k
  ·rw[if_pos h1,if_pos (L.half_lt.1 h1)]
  ·rw[if_neg h1,if_neg (fun h=>h1 (L.half_lt.2 h))]
   by_cases h2:2*(X % 2^k)=2^k
   ·rw[if_pos h2,if_pos (L.half_eq.1 h2),hpar,Nat.add_assoc]
   ·rw[if_neg h2,if_neg (fun h=>h2 (L.half_eq.2 h)),Nat.add_assoc]
theorem IsR.rwb {x:Nat} {e:Int} {j X k:Nat} (hR:IsR x e j X k) (h0:x≠0) {way:Nat} (hw:way=0∨way=1∨way=2):rwb x e way=j*4503599627370496+rnd X k (way:Int):=by
 obtain⟨K,hK⟩:∃ K:Nat,K=1200+(64 - e).toNat+(1074+k):=⟨_,rfl⟩
 have a:=rwb_rounds (e:=e) h0 (K:=K) (by omega) (by omega) (way:=way)
 have b:=rnd_rounds hR (K:=K) (by omega) (by omega) (by omega) way
 have h1:=Rounds.mono hw a b (Nat.le_refl _)
 have h2:=Rounds.mono hw b a (Nat.le_refl _)
 omega
theorem rwb_big {x:Nat} {e:Int} (h0:x≠0) (ht:1024<(bl x:Int)+e) {way:Nat} (hw:way=0∨way=1∨way=2):9218868437227405312≤rwb x e way:=by
 obtain⟨K,hK⟩:∃ K:Nat,K=1200+(64 - e).toNat:=⟨_,rfl⟩
 have a:=rwb_rounds (e:=e) h0 (K:=K) (by omega) (by omega) (way:=way)
 obtain⟨b0,⟨l,g⟩,w0,w2,w1⟩:=a.fl
 have hv:bv 9218868437227405312*2^(K - 1074)≤x*2^(e+K).toNat:=by
  obtain⟨j,hj⟩:∃ j:Nat,j=2046:=⟨_,rfl⟩
  have e1:bv 9218868437227405312=4503599627370496*2^j:=by
   have:=bv_at (j:=j) (q:=4503599627370496) (.inr ⟨by omega,by omega⟩)
   rw[show j*4503599627370496+4503599627370496=9218868437227405312 by omega] at this
   exact this
  have e2:(4503599627370496:Nat)=2^52:=by rfl
  rw[e1,e2,←Nat.pow_add,←Nat.pow_add]
  have h1:=le_bl h0
  have hb:bl x≠0:=by unfold bl;rw[if_neg h0];omega
  refine Nat.le_trans (Nat.pow_le_pow_right (by omega) (show 52+j+(K - 1074)≤bl x - 1+(e+K).toNat by omega)) ?_
  rw[Nat.pow_add]
  exact Nat.mul_le_mul_right _ h1
 have hb:=floor_mono (Nat.le_refl (x*2^(e+K).toNat)) hv g
 rcases hw with hw|hw|hw
 ·rw[w0 hw];exact hb
 ·rw[w1 hw]
  split
  ·exact hb
  ·split <;> omega
 ·rw[w2 hw];split <;> omega
theorem isR_up {x:Nat} {E e':Int} (h1:e'≤E) (hj : -1074≤e') (hlt:x*2^(E - e').toNat<9007199254740992) (hge:e' = -1074∨4503599627370496≤x*2^(E - e').toNat):IsR x E (e'+1074).toNat (x*2^(E - e').toNat) 0:=by
 refine⟨fun K a b=>?_,by rw[Nat.pow_zero,Nat.div_one];exact hlt,?_⟩
 ·rw[Nat.mul_assoc,←Nat.pow_add,show(E - e').toNat+(((e'+1074).toNat:Int) - 1074 - ((0:Nat):Int)+K).toNat=(E+K).toNat by omega]
 ·rw[Nat.pow_zero,Nat.div_one]
  rcases hge with h|h
  ·exact .inl (by omega)
  ·exact .inr h
theorem isR_down {x:Nat} {E e':Int} (h1:E≤e') (hj : -1074≤e') (hlt:x / 2^(e' - E).toNat<9007199254740992) (hge:e' = -1074∨4503599627370496≤x / 2^(e' - E).toNat):IsR x E (e'+1074).toNat x (e' - E).toNat:=by
 refine⟨fun K a b=>?_,hlt,?_⟩
 ·rw[show(((e'+1074).toNat:Int) - 1074 - ((e' - E).toNat:Int)+K).toNat=(E+K).toNat by omega]
 ·rcases hge with h|h
  ·exact .inl (by omega)
  ·exact .inr h
theorem rnd_k0 (X way:Nat) (hw:way=0∨way=1∨way=2):rnd X 0 (way:Int)=X:=by
 rcases hw with rfl|rfl|rfl
 ·rw[rnd0,Nat.pow_zero,Nat.div_one]
 ·rw[rnd1,Nat.pow_zero,Nat.div_one,Nat.mod_one,if_pos (by omega)]
 ·rw[rnd2,Nat.pow_zero,Nat.div_one,Nat.mod_one,if_pos rfl]
def tE (x:Nat) (E:Int):Int:=if(bl x:Int)+E - 53 < -1074 then -1074 else(bl x:Int)+E - 53
theorem bl_ne {x:Nat} (h0:x≠0):1≤bl x:=by unfold bl;rw[if_neg h0];omega
theorem bdy_big {x:Nat} {E:Int} (h0:x≠0) (ht:1024<(bl x:Int)+E) {way:Nat} (hw:way=0∨way=1∨way=2):bdy x E way=if way=0 then 9218868437227405311 else 9218868437227405312:=by
 unfold bdy
 rw[if_neg h0,if_neg (by have:=rwb_big (e:=E) h0 ht hw;omega)]
theorem up_lt {x k:Nat} (h0:x≠0) (h:bl x+k≤53):x*2^k<9007199254740992:=by
 have h1:=lt_bl x
 have h2:x*2^k<2^bl x*2^k:=Nat.mul_lt_mul_of_pos_right h1 (Nat.two_pow_pos _)
 rw[←Nat.pow_add] at h2
 exact Nat.lt_of_lt_of_le h2 (Nat.pow_le_pow_right (by omega) h:_≤2^53)
theorem up_ge {x k:Nat} (h0:x≠0) (h:bl x+k=53):4503599627370496≤x*2^k:=by
 have h1:=le_bl h0
 have hb:=bl_ne h0
 have h2:2^(bl x - 1)*2^k≤x*2^k:=Nat.mul_le_mul_right _ h1
 rw[←Nat.pow_add,show bl x - 1+k=52 by omega] at h2
 exact h2
theorem dn_lt {x k:Nat} (h:bl x≤k+53):x / 2^k<9007199254740992:=by
 have h1:=lt_bl x
 refine(Nat.div_lt_iff_lt_mul (Nat.two_pow_pos _)).2 (Nat.lt_of_lt_of_le h1 ?_)
 rw[show(9007199254740992:Nat)=2^53 by rfl,←Nat.pow_add]
 exact Nat.pow_le_pow_right (by omega) (by omega)
theorem dn_ge {x k:Nat} (h0:x≠0) (h:bl x=k+53):4503599627370496≤x / 2^k:=by
 have h1:=le_bl h0
 refine(Nat.le_div_iff_mul_le (Nat.two_pow_pos _)).2 (Nat.le_trans (Nat.le_of_eq ?_) h1)
 rw[show(4503599627370496:Nat)=2^52 by rfl,←Nat.pow_add,show 52+k=bl x - 1 by omega]
theorem tE_bounds {x:Nat} {E:Int} (ht:(bl x:Int)+E≤1024) : -1074≤tE x E∧tE x E≤971:=by unfold tE;split <;> omega
theorem body_eq {e':Int} {q n:Nat} (h1 : -1074≤e') (h2:e'≤971) (hq:q<9007199254740992) (hge:e' = -1074∨4503599627370496≤q):(e'+1074).toNat*4503599627370496+q<9218868437227405312:=by omega
theorem bdy_up {x:Nat} {E:Int} (h0:x≠0) (ht:(bl x:Int)+E≤1024) (hE:tE x E≤E) {way:Nat} (hw:way=0∨way=1∨way=2) :
  bdy x E way=(tE x E+1074).toNat*4503599627370496+x*2^(E - tE x E).toNat∧x*2^(E - tE x E).toNat<9007199254740992∧(tE x E = -1074∨4503599627370496≤x*2^(E - tE x E).toNat):=by
 have hb:=tE_bounds ht
 have hlt:x*2^(E - tE x E).toNat<9007199254740992:=up_lt h0 (by unfold tE at hE ⊢; split at hE <;> omega)
 have hge:tE x E = -1074∨4503599627370496≤x*2^(E - tE x E).toNat:=by
  by_cases h:tE x E = -1074
  ·exact .inl h
  ·exact .inr (up_ge h0 (by unfold tE at h hE ⊢; split at h <;> omega))
 refine⟨?_,hlt,hge⟩
 have hR:=isR_up (x:=x) hE hb.1 hlt hge
 have hr:=hR.rwb h0 hw
 rw[rnd_k0 _ _ hw] at hr
 unfold bdy
 rw[if_neg h0,hr,if_pos (body_eq hb.1 hb.2 hlt hge (n:=0))]
theorem bdy_tiny {x:Nat} {E:Int} (h0:x≠0) (ht:(bl x:Int)+E < -1075) {way:Nat} (hw:way=0∨way=1∨way=2):bdy x E way=if way=2 then 1 else 0:=by
 have hb:=bl_ne h0
 have hx:=lt_bl x
 have hx2:2*x<2^(-1074 - E).toNat:=by
  have:2^(bl x+1)≤2^(-1074 - E).toNat:=Nat.pow_le_pow_right (by omega) (by omega)
  rw[Nat.pow_succ] at this;omega
 have hq:x / 2^(-1074 - E).toNat=0:=Nat.div_eq_of_lt (by omega)
 have hm:x % 2^(-1074 - E).toNat=x:=Nat.mod_eq_of_lt (by omega)
 have hR:=isR_down (x:=x) (E:=E) (e' := -1074) (by omega) (by omega) (by rw[hq];omega) (.inl rfl)
 have hr:=hR.rwb h0 hw
 have h2:rwb x E way=if way=2 then 1 else 0:=by
  rw[hr]
  rcases hw with rfl|rfl|rfl
  ·rw[rnd0,hq,if_neg (by decide)];rfl
  ·rw[rnd1,hq,hm,if_pos hx2,if_neg (by decide)];rfl
  ·rw[rnd2,hq,hm,if_neg h0,if_pos rfl];rfl
 unfold bdy
 rw[if_neg h0,h2,if_pos (by split <;> omega)]
def dnU (x k way:Nat):Bool:=(way==2)||((way==1)&&((x / 2^(k - 1) % 2==1)&&(!(x % 2^(k - 1)==0)||(x / 2^k % 2==1))))
theorem rnd_dn {x k way:Nat} (hk:1≤k) (hx:x % 2=1) (hw:way=0∨way=1∨way=2):rnd x k (way:Int)=if dnU x k way then x / 2^k+1 else x / 2^k:=by
 obtain⟨n,rfl⟩:∃ n,k=n+1:=⟨k - 1,by omega⟩
 have hodd:x % 2^(n+1)≠0:=fun h=>by
  have:=Nat.dvd_of_mod_eq_zero h
  have h2:2 ∣ x:=Nat.dvd_trans ⟨2^n,by rw[Nat.pow_succ,Nat.mul_comm]⟩ this
  omega
 have hpos:0<2^n:=Nat.two_pow_pos n
 have hsplit:x % 2^(n+1)=x % 2^n+2^n*(x / 2^n % 2):=by rw[Nat.pow_succ,Nat.mod_mul]
 have hpw:2^(n+1)=2*2^n:=by rw[Nat.pow_succ,Nat.mul_comm]
 have hlt:x % 2^n<2^n:=Nat.mod_lt _ hpos
 have hb2:x / 2^n % 2=0∨x / 2^n % 2=1:=by omega
 unfold dnU
 rw[Nat.add_sub_cancel]
 rcases hw with rfl|rfl|rfl
 ·rw[rnd0];simp
 ·rw[rnd1]
  simp only[show((1:Nat)==2)=false by rfl,show((1:Nat)==1)=true by rfl,Bool.false_or,Bool.true_and]
  rw[hsplit,hpw]
  rcases hb2 with hb|hb
  ·rw[hb,Nat.mul_zero,Nat.add_zero,if_pos (by omega)];simp
  ·rw[hb,Nat.mul_one,if_neg (by omega)]
   by_cases hz:x % 2^n=0
   ·rw[hz,if_pos (by omega)]
    rcases Nat.mod_two_eq_zero_or_one (x / (2*2^n))with h|h <;> rw[h] <;> simp
   ·rw[if_neg (by omega)]
    have:(x % 2^n==0)=false:=by simpa using hz
    rw[this];simp
 ·rw[rnd2,if_neg hodd];simp
theorem bdy_dn {x:Nat} {E:Int} (h0:x % 2=1) (ht:(bl x:Int)+E≤1024) (hE:E<tE x E) {way:Nat} (hw:way=0∨way=1∨way=2) {n:Nat}
  (hn:n=if dnU x (tE x E - E).toNat way then x / 2^(tE x E - E).toNat+1 else x / 2^(tE x E - E).toNat) :
  n≤9007199254740992∧(tE x E = -1074∨4503599627370496≤n)∧bdy x E way=(tE x E+1074).toNat*4503599627370496+n∧x / 2^(tE x E - E).toNat<9007199254740992:=by
 have hx0:x≠0:=by omega
 have hb:=tE_bounds ht
 have hlt:x / 2^(tE x E - E).toNat<9007199254740992:=dn_lt (by unfold tE at hE ⊢; split at hE <;> omega)
 have hge:tE x E = -1074∨4503599627370496≤x / 2^(tE x E - E).toNat:=by
  by_cases h:tE x E = -1074
  ·exact .inl h
  ·exact .inr (dn_ge hx0 (by unfold tE at h hE ⊢; split at h <;> omega))
 have hR:=isR_down (x:=x) (E:=E) (by omega) hb.1 hlt hge
 have hr:=hR.rwb hx0 hw
 rw[rnd_dn (by omega) h0 hw,←hn] at hr
 have hn1:n≤9007199254740992:=by rw[hn];split <;> omega
 have hn2:tE x E = -1074∨4503599627370496≤n:=by
  rcases hge with h|h
  ·exact .inl h
  ·right;rw[hn];split <;> omega
 refine⟨hn1,hn2,?_,hlt⟩
 unfold bdy
 rw[if_neg hx0,hr]
 by_cases h1:(tE x E+1074).toNat*4503599627370496+n<9218868437227405312
 ·rw[if_pos h1]
 ·rw[if_neg h1]
  have h2:(tE x E+1074).toNat*4503599627370496+n=9218868437227405312:=by omega
  have h3:n≠x / 2^(tE x E - E).toNat:=by
   intro h;rw[←h] at hlt;omega
  have h4:way≠0:=by
   intro h;subst h
   apply h3;rw[hn];simp[dnU]
  rw[if_neg h4,h2]
theorem rsignb (s:Bool) (w:World):Calls Tryz.prog 66 #[.bool s] w fun r w'=>r=.returned (.int .i64 (if s then 1 else 0))∧w'=w:=by
 cases s
 ·go_enter Tryz.func66,Tryz.ntmps66
  go_wp2
  go_ret
  exact⟨rfl,rfl⟩
 ·go_enter Tryz.func66,Tryz.ntmps66
  go_wp2
  go_ret
  exact⟨rfl,rfl⟩
theorem cinf_m (w:World):Calls Tryz.prog 34 #[.int .i64 (-1)] w fun r w'=>r=.returned (.float .f64 18442240474082181120)∧w'=w:=by
 have hb:=Ie.run_frombits
 go_enter Tryz.func34,Tryz.ntmps34
 go_wp2
 go_ret
 exact⟨rfl,rfl⟩
theorem bd_or {E M:Nat} (hE:E≤2046) (h1:4503599627370496≤M) (h2:M<9007199254740992):bits BinOp.or IntKind.u64 ((E:Int)*4503599627370496) (bits BinOp.and IntKind.u64 (M:Int) 4503599627370495)=((E*4503599627370496+(M - 4503599627370496):Nat):Int):=by
 have e:=Nat.two_pow_add_eq_or_of_lt (i:=52) (b:=M - 4503599627370496) (by rw[show(2^52:Nat)=4503599627370496 from rfl];omega) E
 rw[show(2^52:Nat)=4503599627370496 from rfl] at e
 rw[and_mant M (by omega),show M % 4503599627370496=M - 4503599627370496 by omega,show(E:Int)*4503599627370496=((4503599627370496*E:Nat):Int) by omega,u64_or_nat _ _ (by omega) (by omega),←e,Nat.mul_comm]
theorem sg_or {b:Nat} (h:b<9223372036854775808):bits BinOp.or IntKind.u64 (b:Int) 9223372036854775808=((b+9223372036854775808:Nat):Int):=by
 have e:=u64_or_nat b 9223372036854775808 (by omega) (by decide)
 rw[show((9223372036854775808:Nat):Int)=9223372036854775808 from rfl] at e
 rw[e,Nat.or_comm,Nat.add_comm]
 congr 1
 have:=Nat.two_pow_add_eq_or_of_lt (i:=63) (b:=b) (by rw[show(2^63:Nat)=9223372036854775808 from rfl];exact h) 1
 rw[←(show 2^63*1=9223372036854775808 from rfl),←this]
theorem rbuild_1 (s:Bool) (M E:Nat) (w:World) (hm:4503599627370496≤M) (hm2:M<9007199254740992) (hE:1≤E) (hE2:E≤2046):Calls Tryz.prog 67 #[.bool s,.int .u64 (M:Nat),.int .i64 ((E:Int) - 1075)] w fun r w'=>r=.returned (.float .f64 (sig s ((E - 1)*4503599627370496+M)))∧w'=w:=by
 have hb:=Ie.run_frombits
 have hm':(4503599627370496:Int)≤(M:Int):=by omega
 have e1:=bd_or hE2 hm hm2
 have hlt:E*4503599627370496+(M - 4503599627370496)<9223372036854775808:=by omega
 have e2:=sg_or hlt
 obtain⟨bd,hbd⟩:∃ bd:Nat,bd=E*4503599627370496+(M - 4503599627370496):=⟨_,rfl⟩
 rw[←hbd] at e1 e2
 obtain⟨b2,hb2⟩:∃ b2:Nat,b2=(E - 1)*4503599627370496+M:=⟨_,rfl⟩
 have hR:bd=b2:=by omega
 have HR:Hid (bd=b2):=hR
 rw[←hb2]
 clear hR hb2 hlt
 clear hbd
 have hE3:(E:Int) - 1075+1075=E:=by omega
 cases s
 ·go_enter Tryz.func67,Tryz.ntmps67
  go_wp2
  go_ret
  refine⟨congrArg Ending.returned (congrArg (Value.float .f64) ?_),rfl⟩
  try simp only[hE3,e1]
  try rw[Int.toNat_natCast]
  rw[HR.out];rfl
 ·go_enter Tryz.func67,Tryz.ntmps67
  go_wp2
  go_ret
  refine⟨congrArg Ending.returned (congrArg (Value.float .f64) ?_),rfl⟩
  try simp only[hE3,e1,e2]
  try rw[Int.toNat_natCast]
  try rw[HR.out]
  try rfl
theorem rbuild_0 (s:Bool) (M:Nat) (e:Int) (w:World) (hm2:M<4503599627370496):Calls Tryz.prog 67 #[.bool s,.int .u64 (M:Nat),.int .i64 e] w fun r w'=>r=.returned (.float .f64 (sig s M))∧w'=w:=by
 have hb:=Ie.run_frombits
 have hm3:¬ (4503599627370496:Int)≤(M:Int):=by omega
 have e2:=sg_or (b:=M) (by omega)
 cases s
 ·go_enter Tryz.func67,Tryz.ntmps67
  go_wp2
  go_ret
  exact⟨rfl,rfl⟩
 ·go_enter Tryz.func67,Tryz.ntmps67
  go_wp2
  go_ret
  refine⟨congrArg Ending.returned (congrArg (Value.float .f64) ?_),rfl⟩
  try simp only[e2]
  try rfl
theorem rbuild {s:Bool} {M:Nat} {e:Int} {w:World} (hM:M<9007199254740992) (he : -1074≤e) (he2:e≤971) (hge:e = -1074∨4503599627370496≤M):Calls Tryz.prog 67 #[.bool s,.int .u64 (M:Nat),.int .i64 e] w fun r w'=>r=.returned (.float .f64 (sig s ((e+1074).toNat*4503599627370496+M)))∧w'=w:=by
 by_cases h:4503599627370496≤M
 ·obtain⟨E,hE⟩:∃ E:Nat,e=(E:Int) - 1075:=⟨(e+1075).toNat,by omega⟩
  subst hE
  rw[show((E:Int) - 1075+1074).toNat=E - 1 by omega]
  exact rbuild_1 s M E w h hM (by omega) (by omega)
 ·obtain rfl:e = -1074:=by omega
  rw[show((-1074:Int)+1074).toNat*4503599627370496+M=M by omega]
  exact rbuild_0 s M _ w (by omega)
theorem sm_two {d d1:Nat} (h0:d<B) (h1:d1<B):bits BinOp.or IntKind.u64 (IntKind.u64.wrap (IntKind.u64.wrap (d1:Int)*4294967296)) (IntKind.u64.wrap (d:Int))=((d+d1*B:Nat):Int):=by
 have e:IntKind.u64.wrap (IntKind.u64.wrap (d1:Int)*4294967296)=((d1*B:Nat):Int):=by
  rw[wrap_d h1,IntKind.wrap_u64];unfold B at *; omega
 rw[wrap_d h0,e,u64_or_nat _ _ (by unfold B at *; omega) (by unfold B at *; omega),or_add (p:=32) (by rw[←B_two];exact Nat.mul_mod_left ..) h0,Nat.add_comm]
theorem rsmall {v:Value} {X:Nat} {w:World} (h:Ir w v X) (hX:X<9007199254740992):Calls Tryz.prog 69 #[v] w fun r w'=>r=.returned (.int .u64 (X:Nat))∧w'=w:=by
 obtain⟨ao,cap,rfl,hc,b,o,hb,hcell⟩:=h
 have hl:dlen X≤2:=(dlen_le 2 X).2 (by unfold B;omega)
 have hX2:X=dg X 0+dg X 1*B:=by
  unfold dg B;omega
 have h0:=dg_lt X 0
 have h1:=dg_lt X 1
 by_cases e0:dlen X=0
 ·obtain rfl:=dlen_eq_zero.1 e0
  rw[dlen_zero] at *
  clear hcell hb h0 h1 hX2 hl e0
  go_enter Tryz.func69,Tryz.ntmps69
  go_wp2
  go_ret
  exact⟨rfl,rfl⟩
 ·obtain rfl:=hb (by omega)
  have g0:=hcell 0 (by omega)
  rw[Nat.add_zero] at g0
  by_cases e1:dlen X=1
  ·have hz:dg X 1=0:=dg_past (by omega)
   have HE:Hid (dg X 0=X):=(by rw[hz] at hX2;omega:dg X 0=X)
   rw[e1] at *
   generalize dg X 0=d at *
   have HD:Hid (d<B):=h0
   clear hcell hb h0 h1 hX2 hl e0 e1 hz
   go_enter Tryz.func69,Tryz.ntmps69
   go_wp2
   go_ret
   refine⟨congrArg Ending.returned (congrArg (Value.int .u64) ?_),rfl⟩
   have hd:=HD.out
   have e:=u64_or_nat 0 d (by decide) (by unfold B at hd;omega)
   show bits BinOp.or IntKind.u64 0 (IntKind.u64.wrap (d:Int))=_
   rw[wrap_d hd]
   refine e.trans ?_
   rw[Nat.zero_or,HE.out]
  ·have e2:dlen X=2:=by omega
   have g1:=hcell 1 (by omega)
   have HE:Hid (X=dg X 0+dg X 1*B):=hX2
   rw[e2] at *
   generalize dg X 0=d at *
   generalize dg X 1=d1 at *
   have HD:Hid (d<B∧d1<B):=⟨h0,h1⟩
   clear hcell hb h0 h1 hX2 hl e0 e1 e2
   go_enter Tryz.func69,Tryz.ntmps69
   go_wp2
   go_ret
   refine⟨congrArg Ending.returned (congrArg (Value.int .u64) ?_),rfl⟩
   rw[HE.out]
   exact sm_two HD.out.1 HD.out.2
end Go.Proofs.YtjiolfnchiioaaaGreatDoor
