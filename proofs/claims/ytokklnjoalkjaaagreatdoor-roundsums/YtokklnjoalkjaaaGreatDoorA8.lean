/- Own work: contracts of the program's functions, part 8: RB8 RB9 W33 RC1 RW1 SA3 RC2 RC3 V1 V2 E2 V3 E3 V4 RC4 W42 W44 RC5 RD1 SA6 L5 G3 W43 L7 L9 RT2 DV1 RV1 DV2 DV3 RV2 DV4 RV3 RV4 RW2 RW3 RW4 RW5 RW6 RW7 RW8 RW9 RX1 W49 RX2 RX3 W50 L16 L10 L17 L14. -/
import Derived.Test.YtokklnjoalkjaaaGreatDoorA7
import Derived.Test.YtokklnjoalkjaaaGreatDoorA3
import Derived.Test.YtokklnjoalkjaaaGreatDoorA4
import Derived.Test.YtokklnjoalkjaaaGreatDoorA6
import Derived.Test.YtokklnjoalkjaaaGreatDoorA5
import Derived.Laws.AppendOwnNone
import Derived.Deep.CutRange
import Derived.Test.YtokklnjoalkjaaaGreatDoorA2
import Derived.Deep.CutBlock

set_option maxHeartbeats 16000000
set_option maxRecDepth 200000
set_option linter.unusedVariables false
set_option linter.unusedSimpArgs false
namespace Go.Proofs.YtokklnjoalkjaaaGreatDoor
open Go.RowKit
theorem rhigh_1 (neg:Bool) (ao:Option Addr) (n cap b:Nat) (e:Int) (w:World) (hn0:((n:Int)==0)=false) (hb:b≤64000000000) (he1 : -4000000≤e) (he2:e≤4000000)
  (k74:∀ W,Bw w W→Calls Tryz.prog 143 #[.slice ao n cap] W fun r w'=>r=.returned (.int .i64 b)∧w'=W) :
  Calls Tryz.prog 101 #[.agg #[.bool neg,.slice ao n cap,.int .i64 e]] w fun r w'=>r=.returned (.int .i64 (b+e))∧Bw w w':=by
 obtain⟨W,hW⟩:∃ W,W=w.alloc (.cells #[.bool neg,.slice ao n cap,.int .i64 e] 39):=⟨_,rfl⟩
 have hBW:Bw w W:=by rw[hW];exact(Below.refl _ _).alloc (Nat.le_refl _) _
 have hbA:W.heap[w.heap.size]?=some (.cells #[.bool neg,.slice ao n cap,.int .i64 e] 39 (0,0)):=by rw[hW];exact heap_alloc_new _ _
 obtain⟨⟨a0,a1,a2⟩,-⟩:=box_cells29 hbA
 have k:=fun d=>k74 (W.drewN d) (hBW.trans ⟨rfl,rfl,rfl,Nat.le_refl _,fun _ _=>rfl⟩)
 have HB:Hid (Bw w W):=hBW
 clear k74 hBW hbA
 go_enter Tryz.func101,Tryz.ntmps101
 go_upto_region 3 with fail
 rw[←hW]
 clear hW
 go_quiet ((go_at_call 143;exact Calls.quiet_of_same (k _)))
 go_wp2
 go_ret
 refine⟨congrArg Ending.returned (congrArg (Value.int IntKind.i64) ?_),HB.out.trans ⟨rfl,rfl,rfl,Nat.le_refl _,fun _ _=>rfl⟩⟩
 first|rfl|omega|(rw[IntKind.wrap_i64];omega)|(unfold wrap64;omega)
theorem rhigh {neg:Bool} {ao:Option Addr} {cap x:Nat} {e:Int} {w:World} (h:At w ao (dlen x) x) (h0:x≠0) (hx:dlen x≤1000000000) (he : -4000000≤e∧e≤4000000) :
  Calls Tryz.prog 101 #[.agg #[.bool neg,.slice ao (dlen x) cap,.int .i64 e]] w fun r w'=>r=.returned (.int .i64 (bl x+e))∧Bw w w':=by
 have hl:0<dlen x:=Nat.pos_of_ne_zero fun e=>h0 (dlen_eq_zero.1 e)
 refine rhigh_1 neg ao (dlen x) cap (bl x) e w (len_ne (n:=0) h0) ?_ he.1 he.2 (fun W hW=>?_)
 ·have:=bl_le_dlen x
  omega
 ·obtain⟨b,o,h1,h2⟩:=h.later hW
  obtain rfl:=h1 hl
  exact r42 b o (dlen x) cap x W hl hx rfl h2
theorem rplus_a (na nb:Bool) (ua va:Option Addr) (uc vn vc:Nat) (ea eb:Int) (w:World) (z:Nat) (hAr:Arg w va vn vc z) :
  Calls Tryz.prog 34 #[.agg #[.bool na,.slice ua 0 uc,.int .i64 ea],.agg #[.bool nb,.slice va vn vc,.int .i64 eb]] w fun r w'=>∃ ao' cap',r=.returned (.agg #[.bool nb,.slice ao' vn cap',.int .i64 eb])∧Dn w' w.heap.size (.slice ao' vn cap') vn z∧Bw w w':=by
 obtain⟨W,hW⟩:∃ W,W=((w.alloc (.cells #[.bool na,.slice ua 0 uc,.int .i64 ea] 39)).alloc (.cells #[.bool nb,.slice va vn vc,.int .i64 eb] 39)).alloc (.cells #[.bool false,.slice none 0 0,.int .i64 0] 39):=⟨_,rfl⟩
 obtain⟨hA,hBb,hC,hsz,hBW⟩:=boxes3 _ _ _ hW
 have hn:=hAr.small
 have k1:=rtwin (ng:=nb) (e:=eb) (hAr.later hBW)
 have HH:Hid (W.heap[w.heap.size+1+1]?=some (.cells #[.bool false,.slice none 0 0,.int .i64 0] 39 (0,0))∧W.heap.size=w.heap.size+1+1+1∧Bw w W):=⟨hC,hsz,hBW⟩
 clear hA hBb hC hsz hBW hAr
 go_enter Tryz.func34,Tryz.ntmps34
 go_wp2_with fail
 rw[←hW]
 clear hW
 refine k1.mono ?_
 rintro r w4 ⟨ao4,cap4,rfl,hd,hB4⟩
 have HC4:Hid (w4.heap[w.heap.size+1+1]?=some (.cells #[.bool false,.slice none 0 0,.int .i64 0] 39 (0,0))):=box_later HH.out.1 hB4 (by have:=HH.out.2.1;omega)
 obtain⟨⟨x1,x2,x3⟩,x4,x5,x6⟩:=box_cells29 HC4.out
 have HD4:Hid (Dn w4 W.heap.size (.slice ao4 vn cap4) vn z∧Bw W w4):=⟨hd,hB4⟩
 clear hd hB4 k1
 go_wp2
 refine bodyPost_ret (results_cell_row rfl _ _ (w.heap.size+1+1) 39 #[.bool nb,.slice ao4 vn cap4,.int .i64 eb] (0,0) _ rfl (store3_29 _ _ _ HC4.out) Tryz.underlying39 rfl Tryz.info39) rfl ?_
 obtain⟨-,hs,hBW⟩:=HH.out
 obtain⟨hd,hb⟩:=HD4.out
 exact⟨_,_,rfl,(((hd.store (by omega) _ _).store (by omega) _ _).store (by omega) _ _).mono (by omega),below_store3 (hBW.trans (hb.mono hBW.size)) (by omega) _ _ _⟩
theorem rplus_b (na nb:Bool) (ua va:Option Addr) (un uc vc:Nat) (ea eb:Int) (w:World) (z:Nat) (hAr:Arg w ua un uc z) (hn0:((un:Int)==0)=false) :
  Calls Tryz.prog 34 #[.agg #[.bool na,.slice ua un uc,.int .i64 ea],.agg #[.bool nb,.slice va 0 vc,.int .i64 eb]] w fun r w'=>∃ ao' cap',r=.returned (.agg #[.bool na,.slice ao' un cap',.int .i64 ea])∧Dn w' w.heap.size (.slice ao' un cap') un z∧Bw w w':=by
 obtain⟨W,hW⟩:∃ W,W=((w.alloc (.cells #[.bool na,.slice ua un uc,.int .i64 ea] 39)).alloc (.cells #[.bool nb,.slice va 0 vc,.int .i64 eb] 39)).alloc (.cells #[.bool false,.slice none 0 0,.int .i64 0] 39):=⟨_,rfl⟩
 obtain⟨hA,hBb,hC,hsz,hBW⟩:=boxes3 _ _ _ hW
 have hn:=hAr.small
 have k1:=rtwin (ng:=na) (e:=ea) (hAr.later hBW)
 have HH:Hid (W.heap[w.heap.size+1+1]?=some (.cells #[.bool false,.slice none 0 0,.int .i64 0] 39 (0,0))∧W.heap.size=w.heap.size+1+1+1∧Bw w W):=⟨hC,hsz,hBW⟩
 clear hA hBb hC hsz hBW hAr
 go_enter Tryz.func34,Tryz.ntmps34
 go_wp2_with fail
 rw[←hW]
 clear hW
 refine k1.mono ?_
 rintro r w4 ⟨ao4,cap4,rfl,hd,hB4⟩
 have HC4:Hid (w4.heap[w.heap.size+1+1]?=some (.cells #[.bool false,.slice none 0 0,.int .i64 0] 39 (0,0))):=box_later HH.out.1 hB4 (by have:=HH.out.2.1;omega)
 obtain⟨⟨x1,x2,x3⟩,x4,x5,x6⟩:=box_cells29 HC4.out
 have HD4:Hid (Dn w4 W.heap.size (.slice ao4 un cap4) un z∧Bw W w4):=⟨hd,hB4⟩
 clear hd hB4 k1
 go_wp2
 refine bodyPost_ret (results_cell_row rfl _ _ (w.heap.size+1+1) 39 #[.bool na,.slice ao4 un cap4,.int .i64 ea] (0,0) _ rfl (store3_29 _ _ _ HC4.out) Tryz.underlying39 rfl Tryz.info39) rfl ?_
 obtain⟨-,hs,hBW⟩:=HH.out
 obtain⟨hd,hb⟩:=HD4.out
 exact⟨_,_,rfl,(((hd.store (by omega) _ _).store (by omega) _ _).store (by omega) _ _).mono (by omega),below_store3 (hBW.trans (hb.mono hBW.size)) (by omega) _ _ _⟩
theorem NC.shape {w:World} {base:Nat} {a:Value} {s:Bool} {z:Nat} {e:Int} (h:NC w base a s z e):∃ s ao n cap ex,a=.agg #[.bool s,.slice ao n cap,.int .i64 ex]:=by
 obtain⟨ao,cap,h1,-⟩:=h
 exact⟨_,_,_,_,_,h1⟩
theorem NC.store {w:World} {base g:Nat} {A:Value} {s:Bool} {z:Nat} {e:Int} (h:NC w base A s z e) (hg:g<base) (a b c:Value):NC (((w.setCell ⟨g,0,none⟩ a).setCell ⟨g,1,none⟩ b).setCell ⟨g,2,none⟩ c) base A s z e:=by
 obtain⟨ao,cap,h1,h2,h3⟩:=h
 refine⟨ao,cap,h1,⟨h2.nil,?_,h2.le,h2.small⟩,h3⟩
 obtain⟨bb,oo,hb,hc⟩:=h2.at_
 refine⟨bb,oo,hb,fun i hi=>?_⟩
 have hbb:base≤bb:=h3 _ (hb (by omega)) (by omega)
 rw[World.cell?_setCell_other _ _ _ _ (by intro e;simp at e <;> omega),World.cell?_setCell_other _ _ _ _ (by intro e;simp at e <;> omega),World.cell?_setCell_other _ _ _ _ (by intro e;simp at e <;> omega)]
 exact hc i hi
theorem Dn.nc {w:World} {base:Nat} {ao:Option Addr} {cap z:Nat} {s:Bool} {e:Int} (h:Dn w base (.slice ao (dlen z) cap) (dlen z) z) (hc:cn s z e=(s,z,e)) (hz:dlen z≤35184372088832):NC w base (.agg #[.bool s,.slice ao (dlen z) cap,.int .i64 e]) s z e:=by
 refine⟨ao,cap,by rw[hc],?_,?_⟩
 ·rw[hc]
  rcases h with ⟨h1,h2⟩|⟨g,cap',c,h1,h2,h3,h4,h5,h6⟩
  ·simp only[Value.slice.injEq] at h1
   obtain⟨rfl,-,rfl⟩:=h1
   exact⟨fun _=>.inr ⟨rfl,rfl⟩,⟨0,0,fun h=>by simp only at h;omega,fun i hi=>by simp only at hi;omega⟩,by simp only;omega,hz⟩
  ·simp only[Value.slice.injEq] at h1
   obtain⟨rfl,-,rfl⟩:=h1
   refine⟨fun _=>.inl ⟨_,rfl⟩,⟨g,0,fun _=>rfl,fun i hi=>?_⟩,h3.1,hz⟩
   rw[Nat.zero_add]
   simp[World.cell?,h4,h6 i hi]
 ·rw[hc]
  rcases h with ⟨h1,h2⟩|⟨g,cap',c,h1,h2,h3,h4,h5,h6⟩
  ·intro ad e hl;simp only at hl;omega
  ·simp only[Value.slice.injEq] at h1
   obtain⟨rfl,-,rfl⟩:=h1
   intro ad e _
   injection e with e;rw[←e];exact h2
theorem rplusN_c (na nb:Bool) (ua va:Option Addr) (un uc vn vc X Y:Nat) (ea eb:Int) (w:World) (hne:(na==nb)=true) (hX:dlen (X+Y)≤1000000) (hX1:dlen X≤1000000) (hX2:dlen Y≤1000000) (he1 : -4000000≤ea) (he2:ea≤4000000) (he3 : -4000000≤eb) (he4:eb≤4000000) (hn0:((un:Int)==0)=false) (hn1:((vn:Int)==0)=false)
  (ku:∀ W i,Bw w W→i=ea - min ea eb→Calls Tryz.prog 80 #[.slice ua un uc,.int .i64 i] W fun r w'=>∃ v,r=.returned v∧Ir w' v X∧Bw W w')
  (kv:∀ W i,Bw w W→i=eb - min ea eb→Calls Tryz.prog 80 #[.slice va vn vc,.int .i64 i] W fun r w'=>∃ v,r=.returned v∧Ir w' v Y∧Bw W w') :
  Calls Tryz.prog 34 #[.agg #[.bool na,.slice ua un uc,.int .i64 ea],.agg #[.bool nb,.slice va vn vc,.int .i64 eb]] w fun r w'=>∃ a,r=.returned a∧NC w' w.heap.size a na (X+Y) (min ea eb)∧Bw w w':=by
 obtain⟨W,hW⟩:∃ W,W=((w.alloc (.cells #[.bool na,.slice ua un uc,.int .i64 ea] 39)).alloc (.cells #[.bool nb,.slice va vn vc,.int .i64 eb] 39)).alloc (.cells #[.bool false,.slice none 0 0,.int .i64 0] 39):=⟨_,rfl⟩
 obtain⟨hA,hBb,hC,hsz,hBW⟩:=boxes3 _ _ _ hW
 have k1:=fun i hi=>ku W i hBW hi
 have HKV:Hid _:=kv
 have HH:Hid ((W.heap[w.heap.size]?=some (.cells #[.bool na,.slice ua un uc,.int .i64 ea] 39 (0,0))∧W.heap[w.heap.size+1]?=some (.cells #[.bool nb,.slice va vn vc,.int .i64 eb] 39 (0,0))∧W.heap[w.heap.size+1+1]?=some (.cells #[.bool false,.slice none 0 0,.int .i64 0] 39 (0,0)))∧W.heap.size=w.heap.size+1+1+1∧Bw w W):=⟨⟨hA,hBb,hC⟩,hsz,hBW⟩
 clear hA hBb hC hsz hBW ku kv
 go_enter Tryz.func34,Tryz.ntmps34
 go_wp2_with fail
 rw[←hW]
 clear hW
 refine(k1 _ (by first|rfl|(rw[IntKind.wrap_i64];omega)|omega)).mono ?_
 rintro r w4 ⟨p,rfl,hp,hB4⟩
 clear k1
 obtain⟨⟨a0,a1,a2⟩,-⟩:=box_cells29 (box_later HH.out.1.1 hB4 (by have:=HH.out.2.1;omega))
 obtain⟨⟨b0,b1,b2⟩,-⟩:=box_cells29 (box_later HH.out.1.2.1 hB4 (by have:=HH.out.2.1;omega))
 have HB4:Hid (Bw W w4):=hB4
 have HP4:Hid (Ir w4 p X):=hp
 clear hB4 hp
 go_wp2_with fail
 refine(HKV.out w4 _ (HH.out.2.2.trans (HB4.out.mono HH.out.2.2.size)) (by first|rfl|(rw[IntKind.wrap_i64];omega)|omega)).mono ?_
 rintro r w5 ⟨q,rfl,hq,hB5⟩
 have hB5':Bw W w5:=HB4.out.trans (hB5.mono HB4.out.size)
 have hp:=HP4.out.later hB5
 clear a0 a1 a2 b0 b1 b2 hB5
 obtain⟨⟨h1,h2,h3⟩,hs,hBW⟩:=HH.out
 obtain⟨⟨a0,a1,a2⟩,-⟩:=box_cells29 (box_later h1 hB5' (by omega))
 obtain⟨⟨b0,b1,b2⟩,-⟩:=box_cells29 (box_later h2 hB5' (by omega))
 have HC5:Hid (w5.heap[w.heap.size+1+1]?=some (.cells #[.bool false,.slice none 0 0,.int .i64 0] 39 (0,0))∧Bw W w5):=⟨box_later h3 hB5' (by omega),hB5'⟩
 have hp6:=hp
 have hq6:=hq
 have kS:∀ W6,Bw w5 W6→Calls Tryz.prog 81 #[p,q] W6 fun r w'=>∃ v,r=.returned v∧Ir w' v (X+Y)∧Bw w5 w':=fun W6 hb =>
  (rsum (w:=W6) (hp6.later hb) (hq6.later hb) (by omega) (by omega)).mono fun r w' ⟨v,e1,o1,o2⟩=>⟨v,e1,o1,hb.trans (o2.mono hb.size)⟩
 have hKeep:∀ w',Bw w5 w'→w'.cell? ⟨w.heap.size,0,none⟩=some (.bool na):=fun w' hb=>(hb.cell (World.block_lt_of_cell? _ _ a0)).trans a0
 have HK:Hid (∀ w',Bw w5 w'→w'.cell? ⟨w.heap.size,0,none⟩=some (.bool na)):=hKeep
 have HR5:Hid (∀ dd,Below w5.heap.size w5 (w5.drewN dd).drew):=(fun dd=>⟨rfl,rfl,rfl,Nat.le_refl _,fun _ _=>rfl⟩:∀ dd,Below w5.heap.size w5 (w5.drewN dd).drew)
 have hR5:Bw w5 w5.drew:=(Below.refl _ _).drew
 have k56:∀ v7 w7,Ir w7 v7 (X+Y)→Bw w5 w7→Calls Tryz.prog 76 #[.bool na,v7,.int .i64 (min ea eb)] w7 fun r w'=>∃ s ao n cap ex,r=.returned (.agg #[.bool s,.slice ao n cap,.int .i64 ex]) ∧
   Hid (NC w' w7.heap.size (.agg #[.bool s,.slice ao n cap,.int .i64 ex]) na (X+Y) (min ea eb)∧w5.heap.size≤w7.heap.size)∧Bw w5 w'∧Hid (w'.heap[w.heap.size+1+1]?=some (.cells #[.bool false,.slice none 0 0,.int .i64 0] 39 (0,0))) ∧
   (w'.cell? ⟨w.heap.size+1+1,0,none⟩=some (.bool false)∧w'.cell? ⟨w.heap.size+1+1,1,none⟩=some (.slice none 0 0)∧w'.cell? ⟨w.heap.size+1+1,2,none⟩=some (.int .i64 0))∧(w'.frozen? ⟨w.heap.size+1+1,0,none⟩=false∧w'.frozen? ⟨w.heap.size+1+1,1,none⟩=false∧w'.frozen? ⟨w.heap.size+1+1,2,none⟩=false):=by
  intro v7 w7 ho hb
  obtain⟨ao0,cap0,rfl,hl0,hat0⟩:=ho
  refine(rnorm ⟨ao0,cap0,rfl,hl0,hat0⟩ (by omega) (by omega)).mono ?_
  rintro r w8 ⟨a,rfl,hN,hb8⟩
  obtain⟨s,ao,n,cap,ex,rfl⟩:=hN.shape
  have hb58:Bw w5 w8:=hb.trans (hb8.mono hb.size)
  have hblk:=box_later HC5.out.1 hb58 (by have:=HC5.out.2.size;omega)
  obtain⟨f1,f2⟩:=box_cells29 hblk
  exact⟨s,ao,n,cap,ex,rfl,⟨hN,hb.size⟩,hb58,hblk,f1,f2⟩
 clear h1 h2 h3 hp hq hp6 hq6 hB5' hs hBW hKeep hX hX1 hX2 HR5
 go_wp2
 go_region_held3 (fun w'=>w'.cell? ⟨w.heap.size,0,none⟩=some (.bool na)) (first|(with_reducible assumption)|(refine HK.out _ ?_;with_reducible assumption)|(rw[World.cell?_setCell_other _ _ _ _ (by simp),World.cell?_setCell_other _ _ _ _ (by simp),World.cell?_setCell_other _ _ _ _ (by simp)];refine HK.out _ ?_;with_reducible assumption)|go_keep)
  (first|(go_at_call 81;refine(kS _ (by first|(with_reducible assumption)|exact hR5)).mono ?_;rintro r w7 ⟨v7,rfl,ho7,hb7⟩)|(go_at_call 76;refine(k56 _ _ ho7 hb7).mono ?_;rintro r w8 ⟨s8,ao8,n8,cap8,ex8,rfl,hN8,hb8,hblk8,⟨x1,x2,x3⟩,x4,x5,x6⟩))
 have HF:Hid (Bw w5 w8):=hb8
 clear ho7 hb7 hb8 k56 kS x1 x2 x3 x4 x5 x6 a0 a1 a2 b0 b1 b2 HK
 go_wp2
 refine bodyPost_ret (results_cell_row rfl _ _ (w.heap.size+1+1) 39 #[.bool s8,.slice ao8 n8 cap8,.int .i64 ex8] (0,0) _ rfl (store3_29 _ _ _ hblk8.out) Tryz.underlying39 rfl Tryz.info39) rfl ?_
 obtain⟨-,hs,hBW⟩:=HH.out
 have hs4:=HC5.out.2.size
 have hs5:=hN8.out.2
 exact⟨_,rfl,(hN8.out.1.store (by omega) _ _ _).mono (by omega),below_store3 (hBW.trans ((HC5.out.2.trans (HF.out.mono hs4)).mono hBW.size)) (by omega) _ _ _⟩
theorem rplusN_d (na nb:Bool) (ua va:Option Addr) (un uc vn vc X Y:Nat) (ea eb:Int) (w:World) (hlt:X<Y) (hne:(na==nb)=false) (hX:dlen (Y - X)≤1000000) (hX1:dlen X≤1000000) (hX2:dlen Y≤1000000) (he1 : -4000000≤ea) (he2:ea≤4000000) (he3 : -4000000≤eb) (he4:eb≤4000000) (hn0:((un:Int)==0)=false) (hn1:((vn:Int)==0)=false)
  (ku:∀ W i,Bw w W→i=ea - min ea eb→Calls Tryz.prog 80 #[.slice ua un uc,.int .i64 i] W fun r w'=>∃ v,r=.returned v∧Ir w' v X∧Bw W w')
  (kv:∀ W i,Bw w W→i=eb - min ea eb→Calls Tryz.prog 80 #[.slice va vn vc,.int .i64 i] W fun r w'=>∃ v,r=.returned v∧Ir w' v Y∧Bw W w') :
  Calls Tryz.prog 34 #[.agg #[.bool na,.slice ua un uc,.int .i64 ea],.agg #[.bool nb,.slice va vn vc,.int .i64 eb]] w fun r w'=>∃ a,r=.returned a∧NC w' w.heap.size a nb (Y - X) (min ea eb)∧Bw w w':=by
 obtain⟨W,hW⟩:∃ W,W=((w.alloc (.cells #[.bool na,.slice ua un uc,.int .i64 ea] 39)).alloc (.cells #[.bool nb,.slice va vn vc,.int .i64 eb] 39)).alloc (.cells #[.bool false,.slice none 0 0,.int .i64 0] 39):=⟨_,rfl⟩
 obtain⟨hA,hBb,hC,hsz,hBW⟩:=boxes3 _ _ _ hW
 have k1:=fun i hi=>ku W i hBW hi
 have HKV:Hid _:=kv
 have HH:Hid ((W.heap[w.heap.size]?=some (.cells #[.bool na,.slice ua un uc,.int .i64 ea] 39 (0,0))∧W.heap[w.heap.size+1]?=some (.cells #[.bool nb,.slice va vn vc,.int .i64 eb] 39 (0,0))∧W.heap[w.heap.size+1+1]?=some (.cells #[.bool false,.slice none 0 0,.int .i64 0] 39 (0,0)))∧W.heap.size=w.heap.size+1+1+1∧Bw w W):=⟨⟨hA,hBb,hC⟩,hsz,hBW⟩
 clear hA hBb hC hsz hBW ku kv
 go_enter Tryz.func34,Tryz.ntmps34
 go_wp2_with fail
 rw[←hW]
 clear hW
 refine(k1 _ (by first|rfl|(rw[IntKind.wrap_i64];omega)|omega)).mono ?_
 rintro r w4 ⟨p,rfl,hp,hB4⟩
 clear k1
 obtain⟨⟨a0,a1,a2⟩,-⟩:=box_cells29 (box_later HH.out.1.1 hB4 (by have:=HH.out.2.1;omega))
 obtain⟨⟨b0,b1,b2⟩,-⟩:=box_cells29 (box_later HH.out.1.2.1 hB4 (by have:=HH.out.2.1;omega))
 have HB4:Hid (Bw W w4):=hB4
 have HP4:Hid (Ir w4 p X):=hp
 clear hB4 hp
 go_wp2_with fail
 refine(HKV.out w4 _ (HH.out.2.2.trans (HB4.out.mono HH.out.2.2.size)) (by first|rfl|(rw[IntKind.wrap_i64];omega)|omega)).mono ?_
 rintro r w5 ⟨q,rfl,hq,hB5⟩
 have hB5':Bw W w5:=HB4.out.trans (hB5.mono HB4.out.size)
 have hp:=HP4.out.later hB5
 clear a0 a1 a2 b0 b1 b2 hB5
 obtain⟨⟨h1,h2,h3⟩,hs,hBW⟩:=HH.out
 obtain⟨⟨a0,a1,a2⟩,-⟩:=box_cells29 (box_later h1 hB5' (by omega))
 obtain⟨⟨b0,b1,b2⟩,-⟩:=box_cells29 (box_later h2 hB5' (by omega))
 have HC5:Hid (w5.heap[w.heap.size+1+1]?=some (.cells #[.bool false,.slice none 0 0,.int .i64 0] 39 (0,0))∧Bw W w5):=⟨box_later h3 hB5' (by omega),hB5'⟩
 have hp6:=hp
 have hq6:=hq
 have kS:∀ W6,Bw w5 W6→Calls Tryz.prog 83 #[q,p] W6 fun r w'=>∃ v,r=.returned v∧Ir w' v (Y - X)∧Bw w5 w':=fun W6 hb =>
  (rless (w:=W6) (hq6.later hb) (hp6.later hb) (by omega) (by omega)).mono fun r w' ⟨v,e1,o1,o2⟩=>⟨v,e1,o1,hb.trans (o2.mono hb.size)⟩
 have hKeep:∀ w',Bw w5 w'→w'.cell? ⟨w.heap.size+1,0,none⟩=some (.bool nb):=fun w' hb=>(hb.cell (World.block_lt_of_cell? _ _ b0)).trans b0
 have HK:Hid (∀ w',Bw w5 w'→w'.cell? ⟨w.heap.size+1,0,none⟩=some (.bool nb)):=hKeep
 have HR5:Hid (∀ dd,Below w5.heap.size w5 (w5.drewN dd).drew):=(fun dd=>⟨rfl,rfl,rfl,Nat.le_refl _,fun _ _=>rfl⟩:∀ dd,Below w5.heap.size w5 (w5.drewN dd).drew)
 have hR5:Bw w5 w5.drew:=(Below.refl _ _).drew
 have k56:∀ v7 w7,Ir w7 v7 (Y - X)→Bw w5 w7→Calls Tryz.prog 76 #[.bool nb,v7,.int .i64 (min ea eb)] w7 fun r w'=>∃ s ao n cap ex,r=.returned (.agg #[.bool s,.slice ao n cap,.int .i64 ex]) ∧
   Hid (NC w' w7.heap.size (.agg #[.bool s,.slice ao n cap,.int .i64 ex]) nb (Y - X) (min ea eb)∧w5.heap.size≤w7.heap.size)∧Bw w5 w'∧Hid (w'.heap[w.heap.size+1+1]?=some (.cells #[.bool false,.slice none 0 0,.int .i64 0] 39 (0,0))) ∧
   (w'.cell? ⟨w.heap.size+1+1,0,none⟩=some (.bool false)∧w'.cell? ⟨w.heap.size+1+1,1,none⟩=some (.slice none 0 0)∧w'.cell? ⟨w.heap.size+1+1,2,none⟩=some (.int .i64 0))∧(w'.frozen? ⟨w.heap.size+1+1,0,none⟩=false∧w'.frozen? ⟨w.heap.size+1+1,1,none⟩=false∧w'.frozen? ⟨w.heap.size+1+1,2,none⟩=false):=by
  intro v7 w7 ho hb
  obtain⟨ao0,cap0,rfl,hl0,hat0⟩:=ho
  refine(rnorm ⟨ao0,cap0,rfl,hl0,hat0⟩ (by omega) (by omega)).mono ?_
  rintro r w8 ⟨a,rfl,hN,hb8⟩
  obtain⟨s,ao,n,cap,ex,rfl⟩:=hN.shape
  have hb58:Bw w5 w8:=hb.trans (hb8.mono hb.size)
  have hblk:=box_later HC5.out.1 hb58 (by have:=HC5.out.2.size;omega)
  obtain⟨f1,f2⟩:=box_cells29 hblk
  exact⟨s,ao,n,cap,ex,rfl,⟨hN,hb.size⟩,hb58,hblk,f1,f2⟩
 have k129:=rord hp hq (by omega) (by omega)
 have hcm:cmpI (X:Int) (Y:Int)<0:=by unfold cmpI;rw[if_pos (by omega)];omega
 generalize cmpI (X:Int) (Y:Int)=cv at *
 clear h1 h2 h3 hp hq hp6 hq6 hB5' hs hBW hKeep hX hX1 hX2 hlt
 go_wp2_with fail
 refine k129.mono ?_
 rintro r w7 ⟨rfl,dd,rfl⟩
 have hR5:=HR5.out dd
 clear k129
 have z0:(w5.drewN dd).cell? ⟨w.heap.size+1,0,none⟩=some (.bool nb):=b0
 go_wp2
 go_region_held3 (fun w'=>w'.cell? ⟨w.heap.size+1,0,none⟩=some (.bool nb)) (first|(with_reducible assumption)|(refine HK.out _ ?_;with_reducible assumption)|(rw[World.cell?_setCell_other _ _ _ _ (by simp),World.cell?_setCell_other _ _ _ _ (by simp),World.cell?_setCell_other _ _ _ _ (by simp)];refine HK.out _ ?_;with_reducible assumption)|go_keep)
  (first|(go_at_call 83;refine(kS _ (by first|(with_reducible assumption)|exact hR5)).mono ?_;rintro r w7 ⟨v7,rfl,ho7,hb7⟩)|(go_at_call 76;refine(k56 _ _ ho7 hb7).mono ?_;rintro r w8 ⟨s8,ao8,n8,cap8,ex8,rfl,hN8,hb8,hblk8,⟨x1,x2,x3⟩,x4,x5,x6⟩))
 have HF:Hid (Bw w5 w8):=hb8
 clear ho7 hb7 hb8 k56 kS x1 x2 x3 x4 x5 x6 a0 a1 a2 b0 b1 b2 HK
 go_wp2
 refine bodyPost_ret (results_cell_row rfl _ _ (w.heap.size+1+1) 39 #[.bool s8,.slice ao8 n8 cap8,.int .i64 ex8] (0,0) _ rfl (store3_29 _ _ _ hblk8.out) Tryz.underlying39 rfl Tryz.info39) rfl ?_
 obtain⟨-,hs,hBW⟩:=HH.out
 have hs4:=HC5.out.2.size
 have hs5:=hN8.out.2
 exact⟨_,rfl,(hN8.out.1.store (by omega) _ _ _).mono (by omega),below_store3 (hBW.trans ((HC5.out.2.trans (HF.out.mono hs4)).mono hBW.size)) (by omega) _ _ _⟩
theorem rplusN_e (na nb:Bool) (ua va:Option Addr) (un uc vn vc X Y:Nat) (ea eb:Int) (w:World) (hlt:Y≤X) (hne:(na==nb)=false) (hX:dlen (X - Y)≤1000000) (hX1:dlen X≤1000000) (hX2:dlen Y≤1000000) (he1 : -4000000≤ea) (he2:ea≤4000000) (he3 : -4000000≤eb) (he4:eb≤4000000) (hn0:((un:Int)==0)=false) (hn1:((vn:Int)==0)=false)
  (ku:∀ W i,Bw w W→i=ea - min ea eb→Calls Tryz.prog 80 #[.slice ua un uc,.int .i64 i] W fun r w'=>∃ v,r=.returned v∧Ir w' v X∧Bw W w')
  (kv:∀ W i,Bw w W→i=eb - min ea eb→Calls Tryz.prog 80 #[.slice va vn vc,.int .i64 i] W fun r w'=>∃ v,r=.returned v∧Ir w' v Y∧Bw W w') :
  Calls Tryz.prog 34 #[.agg #[.bool na,.slice ua un uc,.int .i64 ea],.agg #[.bool nb,.slice va vn vc,.int .i64 eb]] w fun r w'=>∃ a,r=.returned a∧NC w' w.heap.size a na (X - Y) (min ea eb)∧Bw w w':=by
 obtain⟨W,hW⟩:∃ W,W=((w.alloc (.cells #[.bool na,.slice ua un uc,.int .i64 ea] 39)).alloc (.cells #[.bool nb,.slice va vn vc,.int .i64 eb] 39)).alloc (.cells #[.bool false,.slice none 0 0,.int .i64 0] 39):=⟨_,rfl⟩
 obtain⟨hA,hBb,hC,hsz,hBW⟩:=boxes3 _ _ _ hW
 have k1:=fun i hi=>ku W i hBW hi
 have HKV:Hid _:=kv
 have HH:Hid ((W.heap[w.heap.size]?=some (.cells #[.bool na,.slice ua un uc,.int .i64 ea] 39 (0,0))∧W.heap[w.heap.size+1]?=some (.cells #[.bool nb,.slice va vn vc,.int .i64 eb] 39 (0,0))∧W.heap[w.heap.size+1+1]?=some (.cells #[.bool false,.slice none 0 0,.int .i64 0] 39 (0,0)))∧W.heap.size=w.heap.size+1+1+1∧Bw w W):=⟨⟨hA,hBb,hC⟩,hsz,hBW⟩
 clear hA hBb hC hsz hBW ku kv
 go_enter Tryz.func34,Tryz.ntmps34
 go_wp2_with fail
 rw[←hW]
 clear hW
 refine(k1 _ (by first|rfl|(rw[IntKind.wrap_i64];omega)|omega)).mono ?_
 rintro r w4 ⟨p,rfl,hp,hB4⟩
 clear k1
 obtain⟨⟨a0,a1,a2⟩,-⟩:=box_cells29 (box_later HH.out.1.1 hB4 (by have:=HH.out.2.1;omega))
 obtain⟨⟨b0,b1,b2⟩,-⟩:=box_cells29 (box_later HH.out.1.2.1 hB4 (by have:=HH.out.2.1;omega))
 have HB4:Hid (Bw W w4):=hB4
 have HP4:Hid (Ir w4 p X):=hp
 clear hB4 hp
 go_wp2_with fail
 refine(HKV.out w4 _ (HH.out.2.2.trans (HB4.out.mono HH.out.2.2.size)) (by first|rfl|(rw[IntKind.wrap_i64];omega)|omega)).mono ?_
 rintro r w5 ⟨q,rfl,hq,hB5⟩
 have hB5':Bw W w5:=HB4.out.trans (hB5.mono HB4.out.size)
 have hp:=HP4.out.later hB5
 clear a0 a1 a2 b0 b1 b2 hB5
 obtain⟨⟨h1,h2,h3⟩,hs,hBW⟩:=HH.out
 obtain⟨⟨a0,a1,a2⟩,-⟩:=box_cells29 (box_later h1 hB5' (by omega))
 obtain⟨⟨b0,b1,b2⟩,-⟩:=box_cells29 (box_later h2 hB5' (by omega))
 have HC5:Hid (w5.heap[w.heap.size+1+1]?=some (.cells #[.bool false,.slice none 0 0,.int .i64 0] 39 (0,0))∧Bw W w5):=⟨box_later h3 hB5' (by omega),hB5'⟩
 have hp6:=hp
 have hq6:=hq
 have kS:∀ W6,Bw w5 W6→Calls Tryz.prog 83 #[p,q] W6 fun r w'=>∃ v,r=.returned v∧Ir w' v (X - Y)∧Bw w5 w':=fun W6 hb =>
  (rless (w:=W6) (hp6.later hb) (hq6.later hb) (by omega) (by omega)).mono fun r w' ⟨v,e1,o1,o2⟩=>⟨v,e1,o1,hb.trans (o2.mono hb.size)⟩
 have hKeep:∀ w',Bw w5 w'→w'.cell? ⟨w.heap.size,0,none⟩=some (.bool na):=fun w' hb=>(hb.cell (World.block_lt_of_cell? _ _ a0)).trans a0
 have HK:Hid (∀ w',Bw w5 w'→w'.cell? ⟨w.heap.size,0,none⟩=some (.bool na)):=hKeep
 have HR5:Hid (∀ dd,Below w5.heap.size w5 (w5.drewN dd).drew):=(fun dd=>⟨rfl,rfl,rfl,Nat.le_refl _,fun _ _=>rfl⟩:∀ dd,Below w5.heap.size w5 (w5.drewN dd).drew)
 have hR5:Bw w5 w5.drew:=(Below.refl _ _).drew
 have k56:∀ v7 w7,Ir w7 v7 (X - Y)→Bw w5 w7→Calls Tryz.prog 76 #[.bool na,v7,.int .i64 (min ea eb)] w7 fun r w'=>∃ s ao n cap ex,r=.returned (.agg #[.bool s,.slice ao n cap,.int .i64 ex]) ∧
   Hid (NC w' w7.heap.size (.agg #[.bool s,.slice ao n cap,.int .i64 ex]) na (X - Y) (min ea eb)∧w5.heap.size≤w7.heap.size)∧Bw w5 w'∧Hid (w'.heap[w.heap.size+1+1]?=some (.cells #[.bool false,.slice none 0 0,.int .i64 0] 39 (0,0))) ∧
   (w'.cell? ⟨w.heap.size+1+1,0,none⟩=some (.bool false)∧w'.cell? ⟨w.heap.size+1+1,1,none⟩=some (.slice none 0 0)∧w'.cell? ⟨w.heap.size+1+1,2,none⟩=some (.int .i64 0))∧(w'.frozen? ⟨w.heap.size+1+1,0,none⟩=false∧w'.frozen? ⟨w.heap.size+1+1,1,none⟩=false∧w'.frozen? ⟨w.heap.size+1+1,2,none⟩=false):=by
  intro v7 w7 ho hb
  obtain⟨ao0,cap0,rfl,hl0,hat0⟩:=ho
  refine(rnorm ⟨ao0,cap0,rfl,hl0,hat0⟩ (by omega) (by omega)).mono ?_
  rintro r w8 ⟨a,rfl,hN,hb8⟩
  obtain⟨s,ao,n,cap,ex,rfl⟩:=hN.shape
  have hb58:Bw w5 w8:=hb.trans (hb8.mono hb.size)
  have hblk:=box_later HC5.out.1 hb58 (by have:=HC5.out.2.size;omega)
  obtain⟨f1,f2⟩:=box_cells29 hblk
  exact⟨s,ao,n,cap,ex,rfl,⟨hN,hb.size⟩,hb58,hblk,f1,f2⟩
 have k129:=rord hp hq (by omega) (by omega)
 have hcm:¬ cmpI (X:Int) (Y:Int)<0:=by unfold cmpI;rw[if_neg (by omega)];split <;> omega
 generalize cmpI (X:Int) (Y:Int)=cv at *
 clear h1 h2 h3 hp hq hp6 hq6 hB5' hs hBW hKeep hX hX1 hX2 hlt
 go_wp2_with fail
 refine k129.mono ?_
 rintro r w7 ⟨rfl,dd,rfl⟩
 have hR5:=HR5.out dd
 clear k129
 have z0:(w5.drewN dd).cell? ⟨w.heap.size,0,none⟩=some (.bool na):=a0
 go_wp2
 go_region_held3 (fun w'=>w'.cell? ⟨w.heap.size,0,none⟩=some (.bool na)) (first|(with_reducible assumption)|(refine HK.out _ ?_;with_reducible assumption)|(rw[World.cell?_setCell_other _ _ _ _ (by simp),World.cell?_setCell_other _ _ _ _ (by simp),World.cell?_setCell_other _ _ _ _ (by simp)];refine HK.out _ ?_;with_reducible assumption)|go_keep)
  (first|(go_at_call 83;refine(kS _ (by first|(with_reducible assumption)|exact hR5)).mono ?_;rintro r w7 ⟨v7,rfl,ho7,hb7⟩)|(go_at_call 76;refine(k56 _ _ ho7 hb7).mono ?_;rintro r w8 ⟨s8,ao8,n8,cap8,ex8,rfl,hN8,hb8,hblk8,⟨x1,x2,x3⟩,x4,x5,x6⟩))
 have HF:Hid (Bw w5 w8):=hb8
 clear ho7 hb7 hb8 k56 kS x1 x2 x3 x4 x5 x6 a0 a1 a2 b0 b1 b2 HK
 go_wp2
 refine bodyPost_ret (results_cell_row rfl _ _ (w.heap.size+1+1) 39 #[.bool s8,.slice ao8 n8 cap8,.int .i64 ex8] (0,0) _ rfl (store3_29 _ _ _ hblk8.out) Tryz.underlying39 rfl Tryz.info39) rfl ?_
 obtain⟨-,hs,hBW⟩:=HH.out
 have hs4:=HC5.out.2.size
 have hs5:=hN8.out.2
 exact⟨_,rfl,(hN8.out.1.store (by omega) _ _ _).mono (by omega),below_store3 (hBW.trans ((HC5.out.2.trans (HF.out.mono hs4)).mono hBW.size)) (by omega) _ _ _⟩
theorem rplusS {na nb:Bool} {ua va:Option Addr} {uc vc x y:Nat} {ea eb:Int} {w:World} (h1:Arg w ua (dlen x) uc x) (h2:Arg w va (dlen y) vc y) (c1:cn na x ea=(na,x,ea)) (c2:cn nb y eb=(nb,y,eb)) (he1 : -2000000≤ea) (he2:ea≤2000000) (he3 : -2000000≤eb) (he4:eb≤2000000) (hl1:dlen x≤300000) (hl2:dlen y≤300000) (hsm:na=nb∨x=0) :
  Calls Tryz.prog 34 #[.agg #[.bool na,.slice ua (dlen x) uc,.int .i64 ea],.agg #[.bool nb,.slice va (dlen y) vc,.int .i64 eb]] w fun r w'=>∃ a,r=.returned a∧NC w' w.heap.size a (sumN na x ea nb y eb).1 (sumN na x ea nb y eb).2.1 (sumN na x ea nb y eb).2.2∧Bw w w':=by
 unfold sumN
 by_cases x0:x=0
 ·rw[if_pos x0]
  show Calls _ _ _ _ fun r w'=>∃ a,r=.returned a∧NC w' w.heap.size a nb y eb∧_
  subst x0
  rw[dlen_zero]
  refine(rplus_a na nb ua va uc _ vc ea eb w y h2).mono ?_
  rintro r w' ⟨ao',cap',rfl,hd,hb⟩
  exact⟨_,rfl,hd.nc (by first|exact c2|exact c1) (by omega),hb⟩
 ·rw[if_neg x0]
  by_cases y0:y=0
  ·rw[if_pos y0]
   show Calls _ _ _ _ fun r w'=>∃ a,r=.returned a∧NC w' w.heap.size a na x ea∧_
   subst y0
   rw[dlen_zero]
   refine(rplus_b na nb ua va _ uc vc ea eb w x h1 (len_ne (n:=0) x0)).mono ?_
   rintro r w' ⟨ao',cap',rfl,hd,hb⟩
   exact⟨_,rfl,hd.nc (by first|exact c2|exact c1) (by omega),hb⟩
  ·rw[if_neg y0]
   have l1:dlen (x*2^(ea - min ea eb).toNat)≤760000:=by have:=shl_len (x:=x) (k:=(ea - min ea eb).toNat) rfl;omega
   have l2:dlen (y*2^(eb - min ea eb).toNat)≤760000:=by have:=shl_len (x:=y) (k:=(eb - min ea eb).toNat) rfl;omega
   have ku:∀ W i,Bw w W→i=ea - min ea eb→Calls Tryz.prog 80 #[.slice ua (dlen x) uc,.int .i64 i] W fun r w'=>∃ v,r=.returned v∧Ir w' v (x*2^(ea - min ea eb).toNat)∧Bw W w':=by
    intro W i hW hi
    have hik:i=(((ea - min ea eb).toNat:Nat):Int):=by omega
    rw[hik]
    exact rup ⟨ua,uc,rfl,h1.le,(h1.later hW).at_⟩ _ (by omega) (by omega)
   have kv:∀ W i,Bw w W→i=eb - min ea eb→Calls Tryz.prog 80 #[.slice va (dlen y) vc,.int .i64 i] W fun r w'=>∃ v,r=.returned v∧Ir w' v (y*2^(eb - min ea eb).toNat)∧Bw W w':=by
    intro W i hW hi
    have hik:i=(((eb - min ea eb).toNat:Nat):Int):=by omega
    rw[hik]
    exact rup ⟨va,vc,rfl,h2.le,(h2.later hW).at_⟩ _ (by omega) (by omega)
   have hs:na=nb:=hsm.resolve_right x0
   rw[if_pos hs]
   have hne:(na==nb)=true:=by simp[hs]
   refine(rplusN_c na nb ua va _ uc _ vc _ _ ea eb w hne (by have:=dlen_add_le (x*2^(ea - min ea eb).toNat) (y*2^(eb - min ea eb).toNat);omega) (by omega) (by omega) (by omega) (by omega) (by omega) (by omega) (len_ne (n:=0) x0) (len_ne (n:=0) y0) ku kv).mono ?_
   rintro r w' ⟨a,rfl,hn,hb⟩
   exact⟨a,rfl,hn,hb⟩
theorem rplusG {na nb:Bool} {ua va:Option Addr} {uc vc x y:Nat} {ea eb:Int} {w:World} (h1:Arg w ua (dlen x) uc x) (h2:Arg w va (dlen y) vc y) (c1:cn na x ea=(na,x,ea)) (c2:cn nb y eb=(nb,y,eb)) (he1 : -2000000≤ea) (he2:ea≤2000000) (he3 : -2000000≤eb) (he4:eb≤2000000) (hl1:dlen x≤300000) (hl2:dlen y≤300000) :
  Calls Tryz.prog 34 #[.agg #[.bool na,.slice ua (dlen x) uc,.int .i64 ea],.agg #[.bool nb,.slice va (dlen y) vc,.int .i64 eb]] w fun r w'=>∃ a,r=.returned a∧NC w' w.heap.size a (sumN na x ea nb y eb).1 (sumN na x ea nb y eb).2.1 (sumN na x ea nb y eb).2.2∧Bw w w':=by
 unfold sumN
 by_cases x0:x=0
 ·rw[if_pos x0]
  show Calls _ _ _ _ fun r w'=>∃ a,r=.returned a∧NC w' w.heap.size a nb y eb∧_
  subst x0
  rw[dlen_zero]
  refine(rplus_a na nb ua va uc _ vc ea eb w y h2).mono ?_
  rintro r w' ⟨ao',cap',rfl,hd,hb⟩
  exact⟨_,rfl,hd.nc (by first|exact c2|exact c1) (by omega),hb⟩
 ·rw[if_neg x0]
  by_cases y0:y=0
  ·rw[if_pos y0]
   show Calls _ _ _ _ fun r w'=>∃ a,r=.returned a∧NC w' w.heap.size a na x ea∧_
   subst y0
   rw[dlen_zero]
   refine(rplus_b na nb ua va _ uc vc ea eb w x h1 (len_ne (n:=0) x0)).mono ?_
   rintro r w' ⟨ao',cap',rfl,hd,hb⟩
   exact⟨_,rfl,hd.nc (by first|exact c2|exact c1) (by omega),hb⟩
  ·rw[if_neg y0]
   have l1:dlen (x*2^(ea - min ea eb).toNat)≤760000:=by have:=shl_len (x:=x) (k:=(ea - min ea eb).toNat) rfl;omega
   have l2:dlen (y*2^(eb - min ea eb).toNat)≤760000:=by have:=shl_len (x:=y) (k:=(eb - min ea eb).toNat) rfl;omega
   have ku:∀ W i,Bw w W→i=ea - min ea eb→Calls Tryz.prog 80 #[.slice ua (dlen x) uc,.int .i64 i] W fun r w'=>∃ v,r=.returned v∧Ir w' v (x*2^(ea - min ea eb).toNat)∧Bw W w':=by
    intro W i hW hi
    have hik:i=(((ea - min ea eb).toNat:Nat):Int):=by omega
    rw[hik]
    exact rup ⟨ua,uc,rfl,h1.le,(h1.later hW).at_⟩ _ (by omega) (by omega)
   have kv:∀ W i,Bw w W→i=eb - min ea eb→Calls Tryz.prog 80 #[.slice va (dlen y) vc,.int .i64 i] W fun r w'=>∃ v,r=.returned v∧Ir w' v (y*2^(eb - min ea eb).toNat)∧Bw W w':=by
    intro W i hW hi
    have hik:i=(((eb - min ea eb).toNat:Nat):Int):=by omega
    rw[hik]
    exact rup ⟨va,vc,rfl,h2.le,(h2.later hW).at_⟩ _ (by omega) (by omega)
   by_cases hs:na=nb
   ·rw[if_pos hs]
    have hne:(na==nb)=true:=by simp[hs]
    refine(rplusN_c na nb ua va _ uc _ vc _ _ ea eb w hne (by have:=dlen_add_le (x*2^(ea - min ea eb).toNat) (y*2^(eb - min ea eb).toNat);omega) (by omega) (by omega) (by omega) (by omega) (by omega) (by omega) (len_ne (n:=0) x0) (len_ne (n:=0) y0) ku kv).mono ?_
    rintro r w' ⟨a,rfl,hn,hb⟩
    exact⟨a,rfl,hn,hb⟩
   ·rw[if_neg hs]
    have hne:(na==nb)=false:=by simp[hs]
    by_cases hlt:x*2^(ea - min ea eb).toNat<y*2^(eb - min ea eb).toNat
    ·rw[if_pos hlt]
     refine(rplusN_d na nb ua va _ uc _ vc _ _ ea eb w hlt hne (Nat.le_trans (dlen_mono (Nat.sub_le ..)) (by omega)) (by omega) (by omega) (by omega) (by omega) (by omega) (by omega) (len_ne (n:=0) x0) (len_ne (n:=0) y0) ku kv).mono ?_
     rintro r w' ⟨a,rfl,hn,hb⟩
     exact⟨a,rfl,hn,hb⟩
    ·rw[if_neg hlt]
     refine(rplusN_e na nb ua va _ uc _ vc _ _ ea eb w (by omega) hne (Nat.le_trans (dlen_mono (Nat.sub_le ..)) (by omega)) (by omega) (by omega) (by omega) (by omega) (by omega) (by omega) (len_ne (n:=0) x0) (len_ne (n:=0) y0) ku kv).mono ?_
     rintro r w' ⟨a,rfl,hn,hb⟩
     exact⟨a,rfl,hn,hb⟩
end Go.Proofs.YtokklnjoalkjaaaGreatDoor
namespace Go.Proofs.YtokklnjoalkjaaaGreatDoor
open Go.RowKit Go.Fl64
theorem rnormN {neg:Bool} {ao:Option Addr} {n cap x:Nat} {e:Int} {w:World} (h2:At w ao n x) (hn:dlen x≤n) (h1:n≤cap) (hc:n≤1000000000) (he : -4611686018427387904≤e∧e≤4611686018427387904) :
  Calls Tryz.prog 76 #[.bool neg,.slice ao n cap,.int .i64 e] w fun r w'=>∃ a,r=.returned a∧NC w' w.heap.size a neg x e∧Bw w w':=by
 by_cases h0:x=0
 ·subst h0
  refine(r34_0 neg ao _ cap e w h2 h1 (by omega)).mono ?_
  rintro r w' ⟨rfl,hb⟩
  refine⟨_,rfl,⟨none,0,?_,?_,fun ad e=>by cases e⟩,hb⟩
  ·unfold cn;rw[if_pos rfl,dlen_zero]
  ·unfold cn;rw[if_pos rfl]
   exact⟨fun _=>.inr ⟨rfl,rfl⟩,⟨0,0,fun h=>by rw[dlen_zero] at h;omega,fun i hi=>by rw[dlen_zero] at hi;omega⟩,by rw[dlen_zero];exact Nat.le_refl _,by rw[dlen_zero];omega⟩
 ·refine(r34c_1 neg ao _ cap x e w h2 hn h1 hc h0 he).mono ?_
  rintro r w' ⟨g,cap',rfl,hg,hcc,ho,hb⟩
  have hle:dlen (x / 2^tz x)≤dlen x:=dlen_mono (Nat.div_le_self _ _)
  refine⟨_,rfl,⟨some ⟨g,0,none⟩,cap',?_,?_,fun ad e _=>?_⟩,hb⟩
  ·unfold cn;rw[if_neg h0]
  ·unfold cn;rw[if_neg h0]
   exact⟨fun _=>.inl ⟨_,rfl⟩,ho,hcc,(by omega:dlen (x / 2^tz x)≤35184372088832)⟩
  ·injection e with e;rw[←e];exact hg
theorem xnorm_two {ng:Bool} {m:Nat} {e:Int} {W:World} (hm:m<18446744073709551616) (he : -4611686018427387904≤e∧e≤4611686018427387904) :
  Calls Tryz.prog 76 #[.bool ng,.slice (some ⟨W.heap.size,0,none⟩) 2 2,.int .i64 e] (W.alloc (Obj.cells #[Value.int IntKind.u32 ((m:Int) % 4294967296),Value.int IntKind.u32 ((m:Int) / 4294967296)] 68)) fun r w'=>∃ s ao n cap ex,r=.returned (.agg #[.bool s,.slice ao n cap,.int .i64 ex])∧NC w' (W.heap.size+1) (.agg #[.bool s,.slice ao n cap,.int .i64 ex]) ng m e∧Bw W w':=by
 have hL:dlen m≤2:=(dlen_le 2 m).2 (by unfold B;omega)
 refine(rnormN (two_at m W hm) hL (Nat.le_refl _) (by omega) he).mono ?_
 rintro r w' ⟨a,rfl,hn,hb⟩
 obtain⟨s,ao,n,cap,ex,rfl⟩:=hn.shape
 refine⟨_,_,_,_,_,rfl,hn.mono (by simp),?_⟩
 exact((Below.refl W.heap.size W).alloc (Nat.le_refl _) _).trans (hb.mono (by simp))
theorem x33_0 (a m:Nat) (w:World) (ng:Bool) (hX:bits .and .u64 ((a:Int) / 4503599627370496) 2047=0) (hand:bits .and .u64 (a:Int) 4503599627370495=(m:Int)) (hng:((a:Int) / 9223372036854775808==1)=ng) (hm:m<18446744073709551616) :
  Calls Tryz.prog 32 #[.float .f64 a] w fun r w'=>∃ A,r=.returned A∧NC w' w.heap.size A ng m (-1074)∧Bw w w':=by
 have kb:=Ie.run_bits
 obtain⟨W,hW⟩:∃ W,W=w.alloc (.cells #[.bool false,.slice none 0 0,.int .i64 0] 39):=⟨_,rfl⟩
 have k34:=xnorm_two (ng:=ng) (m:=m) (e:=(-1074)) (W:=W) hm (by omega)
 have HB0:Hid (Bw w W∧W.heap[w.heap.size]?=some (.cells #[.bool false,.slice none 0 0,.int .i64 0] 39 (0,0))∧W.heap.size=w.heap.size+1):=⟨by rw[hW];exact(Below.refl _ _).alloc (Nat.le_refl _) _,by rw[hW];exact heap_alloc_new _ _,by rw[hW];simp⟩
 (try unfold Bw at k34);rw[HB0.out.2.2] at k34
 go_enter Tryz.func32,Tryz.ntmps32
 go_wp2_with fail
 rw[←hW]
 clear hW
 refine k34.mono ?_
 rintro r w3 ⟨s,ao,n,cap,ex,rfl,hn,hb⟩
 have hs:=HB0.out.2.2
 have HC3:Hid (w3.heap[w.heap.size]?=some (.cells #[.bool false,.slice none 0 0,.int .i64 0] 39 (0,0))):=box_later HB0.out.2.1 hb (by omega)
 obtain⟨⟨a1,a2,a3⟩,a4,a5,a6⟩:=box_cells29 HC3.out
 have HN:Hid (NC w3 (w.heap.size+1) (.agg #[.bool s,.slice ao n cap,.int .i64 ex]) ng m (-1074)∧Below (w.heap.size+1) W w3):=⟨hn.mono (by omega),hb⟩
 clear hn hb k34 hs
 go_wp2
 refine bodyPost_ret (results_cell_row rfl _ _ w.heap.size 39 #[.bool s,.slice ao n cap,.int .i64 ex] (0,0) _ rfl (store3_29 _ _ _ HC3.out) Tryz.underlying39 rfl Tryz.info39) rfl ?_
 have hs:=HB0.out.2.2
 exact⟨_,rfl,(HN.out.1.store (by omega) _ _ _).mono (by omega),below_store3 (HB0.out.1.trans (HN.out.2.mono (by omega))) (Nat.le_refl _) _ _ _⟩
theorem x33_1 (a m0 m:Nat) (X:Int) (w:World) (ng:Bool) (hX:bits .and .u64 ((a:Int) / 4503599627370496) 2047=X) (hX0:(X==0)=false) (hX1:0≤X) (hX2:X<2048) (hand:bits .and .u64 (a:Int) 4503599627370495=(m0:Int)) (hor:bits .or .u64 (m0:Int) 4503599627370496=(m:Int)) (hng:((a:Int) / 9223372036854775808==1)=ng) (hm:m<18446744073709551616) :
  Calls Tryz.prog 32 #[.float .f64 a] w fun r w'=>∃ A,r=.returned A∧NC w' w.heap.size A ng m (X - 1075)∧Bw w w':=by
 have kb:=Ie.run_bits
 obtain⟨W,hW⟩:∃ W,W=w.alloc (.cells #[.bool false,.slice none 0 0,.int .i64 0] 39):=⟨_,rfl⟩
 have k34:=xnorm_two (ng:=ng) (m:=m) (e:=(X - 1075)) (W:=W) hm (by omega)
 have HB0:Hid (Bw w W∧W.heap[w.heap.size]?=some (.cells #[.bool false,.slice none 0 0,.int .i64 0] 39 (0,0))∧W.heap.size=w.heap.size+1):=⟨by rw[hW];exact(Below.refl _ _).alloc (Nat.le_refl _) _,by rw[hW];exact heap_alloc_new _ _,by rw[hW];simp⟩
 (try unfold Bw at k34);rw[HB0.out.2.2] at k34
 go_enter Tryz.func32,Tryz.ntmps32
 go_wp2_with fail
 rw[←hW]
 clear hW
 refine k34.mono ?_
 rintro r w3 ⟨s,ao,n,cap,ex,rfl,hn,hb⟩
 have hs:=HB0.out.2.2
 have HC3:Hid (w3.heap[w.heap.size]?=some (.cells #[.bool false,.slice none 0 0,.int .i64 0] 39 (0,0))):=box_later HB0.out.2.1 hb (by omega)
 obtain⟨⟨a1,a2,a3⟩,a4,a5,a6⟩:=box_cells29 HC3.out
 have HN:Hid (NC w3 (w.heap.size+1) (.agg #[.bool s,.slice ao n cap,.int .i64 ex]) ng m (X - 1075)∧Below (w.heap.size+1) W w3):=⟨hn.mono (by omega),hb⟩
 clear hn hb k34 hs
 go_wp2
 refine bodyPost_ret (results_cell_row rfl _ _ w.heap.size 39 #[.bool s,.slice ao n cap,.int .i64 ex] (0,0) _ rfl (store3_29 _ _ _ HC3.out) Tryz.underlying39 rfl Tryz.info39) rfl ?_
 have hs:=HB0.out.2.2
 exact⟨_,rfl,(HN.out.1.store (by omega) _ _ _).mono (by omega),below_store3 (HB0.out.1.trans (HN.out.2.mono (by omega))) (Nat.le_refl _) _ _ _⟩
theorem x33 (a:Nat) (ha:a<18446744073709551616) (w:World) :
  Calls Tryz.prog 32 #[.float .f64 a] w fun r w'=>∃ A,r=.returned A∧NC w' w.heap.size A (neg a) (Ie.mant a) (Ie.lp a)∧Bw w w':=by
 have hX:bits .and .u64 ((a:Int) / 4503599627370496) 2047=((mag a / 4503599627370496:Nat):Int):=by
  have e:(a:Int) / 4503599627370496=((a / 4503599627370496:Nat):Int):=by omega
  rw[e,and_2047 _ (by omega)]
  congr 1
  unfold mag
  omega
 have hand:bits .and .u64 (a:Int) 4503599627370495=((mag a % 4503599627370496:Nat):Int):=by
  rw[Ie.and_mant a ha]
  congr 1
  unfold mag
  omega
 have hng:((a:Int) / 9223372036854775808==1)=neg a:=by
  unfold neg
  rw[Bool.beq_eq_decide_eq]
  congr 1
  apply propext
  omega
 have hml:mag a<9223372036854775808:=by unfold mag;omega
 by_cases h0:mag a<4503599627370496
 ·have e1:mag a / 4503599627370496=0:=by omega
  have e2:mag a % 4503599627370496=mag a:=by omega
  rw[e1] at hX
  rw[e2] at hand
  have e3:Ie.mant a=mag a:=by unfold Ie.mant;rw[if_pos h0]
  have e4:Ie.lp a = -1074:=by unfold Ie.lp;rw[e1];omega
  rw[e3,e4]
  exact x33_0 a (mag a) w (neg a) hX hand hng (by omega)
 ·have e3:Ie.mant a=4503599627370496+mag a % 4503599627370496:=by unfold Ie.mant;rw[if_neg h0]
  have e4:Ie.lp a=((mag a / 4503599627370496:Nat):Int) - 1075:=by unfold Ie.lp;omega
  rw[e3,e4]
  exact x33_1 a _ _ _ w (neg a) hX (by rw[Bool.beq_eq_decide_eq];simp;omega) (by omega) (by omega) hand (Ie.or_mant _ (by omega)) hng (by omega)
def tF (a:Nat):Bool×Nat×Int:=cn (neg a) (Ie.mant a) (Ie.lp a)
def DN (w:World) (A:Value) (t:Bool×Nat×Int):Prop:=∃ ao cap,A=.agg #[.bool t.1,.slice ao (dlen t.2.1) cap,.int .i64 t.2.2]∧Arg w ao (dlen t.2.1) cap t.2.1
theorem DN.later {w w':World} {A:Value} {t:Bool×Nat×Int} (h:DN w A t) (hb:Bw w w'):DN w' A t:=by
 obtain⟨ao,cap,h1,h2⟩:=h
 exact⟨ao,cap,h1,h2.later hb⟩
theorem NC.dn {w:World} {base:Nat} {a:Value} {neg:Bool} {x:Nat} {e:Int} (h:NC w base a neg x e):DN w a (cn neg x e):=by
 obtain⟨ao,cap,h1,h2,-⟩:=h
 exact⟨ao,cap,h1,h2⟩
theorem float_dn (a:Nat) (ha:a<18446744073709551616) (w:World) :
  Calls Tryz.prog 32 #[.float .f64 a] w fun r w'=>∃ A,r=.returned A∧DN w' A (tF a)∧Bw w w' :=
 (x33 a ha w).mono fun r w' ⟨A,e,h,hb⟩=>⟨A,e,h.dn,hb⟩
end Go.Proofs.YtokklnjoalkjaaaGreatDoor
namespace Go.Proofs.YtokklnjoalkjaaaGreatDoor
open Go.RowKit
end Go.Proofs.YtokklnjoalkjaaaGreatDoor
namespace Go.Proofs.YtokklnjoalkjaaaGreatDoor
open Go.RowKit Go.Fl64
theorem of_parts (a m:Nat) (ha:a<18446744073709551616) (hf:mag a<9218868437227405312) (hm:Ie.sM a=(m:Int)) :
  (m=0∧Ie.mant a=0)∨(m≠0∧Ie.mant a≠0∧neg a=neg a∧m / 2^tz m=Ie.mant a / 2^tz (Ie.mant a)∧Ie.sE a+(tz m:Int)=Ie.lp a+(tz (Ie.mant a):Int)):=by
 unfold Ie.sM at hm
 unfold Ie.sE
 rw[if_neg (by omega)] at hm ⊢
 by_cases h0:mag a=0
 ·rw[if_pos h0] at hm
  exact .inl ⟨by omega,by unfold Ie.mant;rw[if_pos (by omega)];exact h0⟩
 ·rw[if_neg h0] at hm ⊢
  have hb:=Ie.mant_bound a
  have hne:=Ie.mant_ne h0
  have hct:Lib.ctz 64 (Ie.mant a)=tz (Ie.mant a):=tz_ctz hne (by omega)
  rw[hct] at hm ⊢
  have e1:m=Ie.mant a / 2^tz (Ie.mant a):=by
   have:((Ie.mant a / 2^tz (Ie.mant a):Nat):Int)=(m:Int):=by rw[←hm];simp
   omega
  obtain⟨h1,h2⟩:=tz_spec _ (Ie.mant a) (Nat.le_refl _) hne
  rw[←e1] at h2
  have e2:tz m=0:=tz_odd h2
  refine .inr ⟨by intro e;rw[e] at h2;simp at h2,hne,rfl,?_,?_⟩
  ·rw[e2,←e1];simp
  ·rw[e2];simp
end Go.Proofs.YtokklnjoalkjaaaGreatDoor
namespace Go.Proofs.YtokklnjoalkjaaaGreatDoor
open Go.RowKit
theorem abs_no (na:Bool) (ua:Option Addr) (un uc:Nat) (ea:Int) (w:World)
  (k43:∀ W g,Bw w W→W.heap[g]?=some (.cells #[.bool na,.slice ua un uc,.int .i64 ea] 45 (0,0))→Calls Tryz.prog 90 #[.slice (some ⟨g,0,none⟩) 1 1] W fun r w'=>r=.returned (.bool false)∧Bw W w') :
  Calls Tryz.prog 118 #[.agg #[.bool na,.slice ua un uc,.int .i64 ea]] w fun r w'=>r=.returned (.agg #[.bool false,.slice none 0 0,.int .i64 0])∧Bw w w':=by
 obtain⟨W,hW⟩:∃ W,W=(w.alloc (.cells #[.bool na,.slice ua un uc,.int .i64 ea] 45)).alloc (.cells #[.bool false,.slice none 0 0,.int .i64 0] 45):=⟨_,rfl⟩
 have hBW:Bw w W:=by rw[hW];exact((Below.refl _ _).alloc (Nat.le_refl _) _).alloc (by simp) _
 have hbB:W.heap[w.heap.size+1]?=some (.cells #[.bool false,.slice none 0 0,.int .i64 0] 45 (0,0)):=by
  have:=heap_alloc_new (w.alloc (.cells #[.bool na,.slice ua un uc,.int .i64 ea] 45)) (.cells #[.bool false,.slice none 0 0,.int .i64 0] 45)
  rw[hW];simpa using this
 have hsz:W.heap.size=w.heap.size+1+1:=by rw[hW];simp
 have k1:=k43 (W.alloc (.cells #[.bool na,.slice ua un uc,.int .i64 ea] 45)) (w.heap.size+1+1) (hBW.alloc hBW.size _) (by rw[←hsz];exact heap_alloc_new _ _)
 have HX:Hid (Bw w W∧W.heap.size=w.heap.size+1+1∧W.heap[w.heap.size+1]?=some (.cells #[.bool false,.slice none 0 0,.int .i64 0] 45 (0,0))):=⟨hBW,hsz,hbB⟩
 clear hBW hsz hbB k43
 go_enter Tryz.func118,Tryz.ntmps118
 go_wp2_with fail
 rw[←hW]
 clear hW
 refine k1.mono ?_
 rintro r w1 ⟨rfl,hb1⟩
 have HB1:Hid (Bw W w1):=((Below.refl W.heap.size W).alloc (Nat.le_refl _) _).trans (hb1.mono (by simp))
 have HC:Hid (w1.heap[w.heap.size+1]?=some (.cells #[.bool false,.slice none 0 0,.int .i64 0] 45 (0,0))):=box_later HX.out.2.2 HB1.out (by have:=HX.out.2.1;omega)
 obtain⟨⟨x1,x2,x3⟩,x4,x5,x6⟩:=box_cells HC.out
 clear k1 hb1
 go_wp2
 refine bodyPost_ret (results_cell_row rfl _ _ (w.heap.size+1) 45 #[.bool false,.slice none 0 0,.int .i64 0] (0,0) _ rfl (store3 _ _ _ HC.out) Tryz.underlying45 rfl Tryz.info45) rfl ?_
 obtain⟨q1,q2,-⟩:=HX.out
 exact⟨rfl,below_store3 (q1.trans (HB1.out.mono q1.size)) (by omega) _ _ _⟩
theorem abs_1 (na:Bool) (ua:Option Addr) (un uc x:Nat) (ea:Int) (w:World) (h1:Is w (.slice ua un uc) x) (hx:dlen x≤1000000)
  (k43:∀ W g,Bw w W→W.heap[g]?=some (.cells #[.bool na,.slice ua un uc,.int .i64 ea] 45 (0,0))→Calls Tryz.prog 90 #[.slice (some ⟨g,0,none⟩) 1 1] W fun r w'=>r=.returned (.bool true)∧Bw W w') :
  Calls Tryz.prog 118 #[.agg #[.bool na,.slice ua un uc,.int .i64 ea]] w fun r w'=>∃ v,r=.returned (.agg #[.bool false,v,.int .i64 ea])∧Own w' w.heap.size v x∧Bw w w':=by
 obtain⟨W,hW⟩:∃ W,W=(w.alloc (.cells #[.bool na,.slice ua un uc,.int .i64 ea] 45)).alloc (.cells #[.bool false,.slice none 0 0,.int .i64 0] 45):=⟨_,rfl⟩
 have hBW:Bw w W:=by rw[hW];exact((Below.refl _ _).alloc (Nat.le_refl _) _).alloc (by simp) _
 have hbA:W.heap[w.heap.size]?=some (.cells #[.bool na,.slice ua un uc,.int .i64 ea] 45 (0,0)):=by
  rw[hW,Below.heap_alloc _ _ _ (by simp)];exact heap_alloc_new _ _
 have hbB:W.heap[w.heap.size+1]?=some (.cells #[.bool false,.slice none 0 0,.int .i64 0] 45 (0,0)):=by
  have:=heap_alloc_new (w.alloc (.cells #[.bool na,.slice ua un uc,.int .i64 ea] 45)) (.cells #[.bool false,.slice none 0 0,.int .i64 0] 45)
  rw[hW];simpa using this
 have hsz:W.heap.size=w.heap.size+1+1:=by rw[hW];simp
 have k1:=k43 (W.alloc (.cells #[.bool na,.slice ua un uc,.int .i64 ea] 45)) (w.heap.size+1+1) (hBW.alloc hBW.size _) (by rw[←hsz];exact heap_alloc_new _ _)
 have HX:Hid (Bw w W∧W.heap.size=w.heap.size+1+1∧W.heap[w.heap.size]?=some (.cells #[.bool na,.slice ua un uc,.int .i64 ea] 45 (0,0))∧W.heap[w.heap.size+1]?=some (.cells #[.bool false,.slice none 0 0,.int .i64 0] 45 (0,0))):=⟨hBW,hsz,hbA,hbB⟩
 have HI:Hid (Is w (.slice ua un uc) x∧dlen x≤1000000):=⟨h1,hx⟩
 clear hBW hsz hbA hbB k43 h1 hx
 go_enter Tryz.func118,Tryz.ntmps118
 go_wp2_with fail
 rw[←hW]
 clear hW
 refine k1.mono ?_
 rintro r w1 ⟨rfl,hb1⟩
 have HB1:Hid (Bw W w1):=((Below.refl W.heap.size W).alloc (Nat.le_refl _) _).trans (hb1.mono (by simp))
 have H3:Hid (w1.heap[w.heap.size]?=some (.cells #[.bool na,.slice ua un uc,.int .i64 ea] 45 (0,0))∧w1.heap[w.heap.size+1]?=some (.cells #[.bool false,.slice none 0 0,.int .i64 0] 45 (0,0))∧w.heap.size+1+1≤w1.heap.size∧Bw w w1):=⟨box_later HX.out.2.2.1 HB1.out (by have:=HX.out.2.1;omega),box_later HX.out.2.2.2 HB1.out (by have:=HX.out.2.1;omega),by have:=HB1.out.size;have:=HX.out.2.1;omega,HX.out.1.trans (HB1.out.mono HX.out.1.size)⟩
 clear k1 hb1
 have HK:Hid (∀ w',Below (w.heap.size+1) w1 w'→(w'.cell? ⟨w.heap.size,0,none⟩=some (.bool na)∧w'.cell? ⟨w.heap.size,1,none⟩=some (.slice ua un uc)∧w'.cell? ⟨w.heap.size,2,none⟩=some (.int .i64 ea))):=fun w' hb=>(box_cells (box_later H3.out.1 hb (by omega))).1
 have kC:∀ w4,Bw w1 w4→Calls Tryz.prog 157 #[.slice ua un uc] w4 fun r w'=>∃ ao n cap,r=.returned (.slice ao n cap)∧Own w' w1.heap.size (.slice ao n cap) x∧Bw w1 w':=fun w4 hb =>
  (clone_ok ((HI.out.1.later H3.out.2.2.2).later hb) (by have:=HI.out.2;omega)).mono fun r w' ⟨v,e1,o1,o2⟩=>by
   obtain⟨ao,cap,rfl,-,-,-⟩:=o1.is
   exact⟨_,_,_,e1,o1.mono hb.size,hb.trans (o2.mono hb.size)⟩
 have hBR:Bw w1 w1.drew:=(Below.refl _ _).drew
 have hBR1:Below (w.heap.size+1) w1 w1.drew:=(Below.refl _ _).drew
 have H1:Hid (w.heap.size+1≤w1.heap.size):=(by have:=H3.out.2.2.1;omega:w.heap.size+1≤w1.heap.size)
 go_upto_region 3 with fail
 go_region_held3 (fun w'=>w'.cell? ⟨w.heap.size,0,none⟩=some (.bool na)∧w'.cell? ⟨w.heap.size,1,none⟩=some (.slice ua un uc)∧w'.cell? ⟨w.heap.size,2,none⟩=some (.int .i64 ea)) (first|(with_reducible assumption)|exact HK.out _ hBR1|(refine HK.out _ (Below.mono ?_ H1.out);with_reducible assumption)|(refine HK.out _ (below_store3 (Below.mono hb5 H1.out) (Nat.le_refl _) _ _ _))|go_keep)
  (first|(go_at_call 157;refine(kC _ (by first|(with_reducible assumption)|exact hBR)).mono ?_;rintro r w5 ⟨ao5,n5,cap5,rfl,ho5,hb5⟩;have hblk5:=box_later H3.out.2.1 hb5 (by have:=H3.out.2.2.1;omega);obtain⟨⟨x1,x2,x3⟩,x4,x5,x6⟩:=box_cells hblk5))
 have HF:Hid (Bw w1 w5∧Own w5 w1.heap.size (.slice ao5 n5 cap5) x∧w5.heap[w.heap.size+1]?=some (.cells #[.bool false,.slice none 0 0,.int .i64 0] 45 (0,0))):=⟨hb5,ho5,hblk5⟩
 clear ho5 hb5 hblk5 x1 x2 x3 x4 x5 x6 kC HK hBR hBR1
 go_wp2
 refine bodyPost_ret (results_cell_row rfl _ _ (w.heap.size+1) 45 #[.bool false,.slice ao5 n5 cap5,.int .i64 ea] (0,0) _ rfl (store3 _ _ _ HF.out.2.2) Tryz.underlying45 rfl Tryz.info45) rfl ?_
 obtain⟨-,-,q2,q1⟩:=H3.out
 exact⟨_,rfl,(own_store3 HF.out.2.1 (by omega) _ _ _).mono (by omega),below_store3 (q1.trans (HF.out.1.mono q1.size)) (by omega) _ _ _⟩
theorem abs_ok {na:Bool} {ua:Option Addr} {uc x:Nat} {ea:Int} {w:World} (h1:Is w (.slice ua (dlen x) uc) x) (hx:dlen x≤1000000) (hoka:okN na (dlen x) x ea=true) :
  Calls Tryz.prog 118 #[.agg #[.bool na,.slice ua (dlen x) uc,.int .i64 ea]] w fun r w'=>∃ v,r=.returned (.agg #[.bool false,v,.int .i64 ea])∧Own w' w.heap.size v x∧Bw w w' :=
 abs_1 na ua _ uc x ea w h1 hx (fun W g hW hg=>by
  have:=maybe1 hg (h1.later hW) (by omega)
  rw[hoka] at this
  exact this)
theorem rsgn {na:Bool} {ua:Option Addr} {un uc:Nat} {ea:Int} {w:World} (hn:un≤35184372088832) :
  Calls Tryz.prog 64 #[.agg #[.bool na,.slice ua un uc,.int .i64 ea]] w fun r w'=>r=.returned (.int .i64 (if un=0 then 0 else if na then -1 else 1))∧Bw w w':=by
 obtain⟨W,hW⟩:∃ W,W=w.alloc (.cells #[.bool na,.slice ua un uc,.int .i64 ea] 39):=⟨_,rfl⟩
 have HB:Hid (Bw w W):=(by rw[hW];exact(Below.refl _ _).alloc (Nat.le_refl _) _:Bw w W)
 by_cases h0:un=0
 ·subst h0
  rw[if_pos rfl]
  go_enter Tryz.func64,Tryz.ntmps64
  go_wp2
  go_ret
  exact⟨rfl,hW ▸ HB.out⟩
 ·have hn0:((un:Int)==0)=false:=by simp;omega
  rw[if_neg h0]
  clear h0
  cases na
  ·go_enter Tryz.func64,Tryz.ntmps64
   go_wp2
   go_ret
   exact⟨rfl,hW ▸ HB.out⟩
  ·go_enter Tryz.func64,Tryz.ntmps64
   go_wp2
   go_ret
   exact⟨rfl,hW ▸ HB.out⟩
end Go.Proofs.YtokklnjoalkjaaaGreatDoor
namespace Go.Proofs.YtokklnjoalkjaaaGreatDoor
open Go.RowKit Go.Fl64
theorem dsign (a:Nat) (ha:a<18446744073709551616) (w:World):Calls Tryz.prog 52 #[.float .f64 a] w fun r w'=>r=.returned (.bool (neg a))∧w'=w:=by
 go_enter Tryz.func52,Tryz.ntmps52
 go_wp2_with (go_at_call 49;refine(Ie.dneg a ha _).mono ?_;rintro e w' ⟨rfl,rfl⟩)
 go_ret
 exact⟨rfl,rfl⟩
theorem dsum0 (na nb:Bool) (m:Int) (w:World):Calls Tryz.prog 51 #[.bool na,.bool nb,.int .i64 m] w fun r w'=>r=.returned (.float .f64 (sig (z0 na nb m) 0))∧w'=w:=by
 unfold z0
 cases h:(m==1) <;> cases na <;> cases nb
 all_goals
  go_enter Tryz.func51,Tryz.ntmps51
  go_wp2_with (go_at_call 57;refine(Ie.dnought _ _).mono ?_;rintro e w' ⟨rfl,rfl⟩)
  go_ret
  exact⟨rfl,rfl⟩
theorem dadd_no (a b:Nat) (m:Int) (hm:isM m=false) (w:World):Calls Tryz.prog 11 #[.float .f64 a,.float .f64 b,.int .i64 m] w fun r w'=>r=.returned (.float .f64 9221120237041090560)∧w'=w:=by
 have kV:∀ W,Calls Tryz.prog 15 #[.int .i64 m] W fun r w'=>r=.returned (.int .i64 1)∧w'=W:=fun W=>by
  have:=dvalid m W
  rw[hm] at this
  exact this
 go_enter Tryz.func11,Tryz.ntmps11
 go_wp2_with (first|(go_at_call 15;refine(kV _).mono ?_;rintro e w' ⟨rfl,rfl⟩)|(go_at_call 47;refine(Ie.dnot _).mono ?_;rintro e w' ⟨rfl,rfl⟩))
 go_ret
 exact⟨rfl,rfl⟩
theorem dadd_non (a b:Nat) (m:Int) (ha:a<18446744073709551616) (hb:b<18446744073709551616) (hm:isM m=true) (h:fin a=false∨fin b=false) (w:World) :
  Calls Tryz.prog 11 #[.float .f64 a,.float .f64 b,.int .i64 m] w fun r w'=>r=.returned (.float .f64 (addX a b))∧w'=w:=by
 have kV:∀ W,Calls Tryz.prog 15 #[.int .i64 m] W fun r w'=>r=.returned (.int .i64 0)∧w'=W:=fun W=>by
  have:=dvalid m W
  rw[hm] at this
  exact this
 have e:addX a b=if isNaN a||isNaN b then 9221120237041090560 else if Ie.isInf a then(if Ie.isInf b then(if neg a=neg b then a else 9221120237041090560)else a)else b:=by
  unfold addX
  congr 1
  by_cases h1:mag a=9218868437227405312
  ·rw[if_pos h1,if_pos (Ie.isInf_iff.2 h1)]
   by_cases h2:mag b=9218868437227405312
   ·rw[if_pos h2,if_pos (Ie.isInf_iff.2 h2)]
   ·rw[if_neg h2,if_neg (fun h=>h2 (Ie.isInf_iff.1 h))]
  ·rw[if_neg h1,if_neg (fun h=>h1 (Ie.isInf_iff.1 h))]
 have hh:isNaN a=true∨isNaN b=true∨Ie.isInf a=true∨Ie.isInf b=true:=by
  rcases h with h|h
  ·unfold fin at h;simp at h
   rcases Nat.lt_or_eq_of_le h with h|h
   ·left;unfold isNaN;simp;omega
   ·right;right;left;exact Ie.isInf_iff.2 h.symm
  ·unfold fin at h;simp at h
   rcases Nat.lt_or_eq_of_le h with h|h
   ·right;left;unfold isNaN;simp;omega
   ·right;right;right;exact Ie.isInf_iff.2 h.symm
 rw[e]
 have kna:=Ie.dnan a ha
 have knb:=Ie.dnan b hb
 have kia:=Ie.dinf a ha
 have kib:=Ie.dinf b hb
 have ksa:=Ie.dneg a ha
 have ksb:=Ie.dneg b hb
 clear e h ha hb
 generalize isNaN a=na at *
 generalize isNaN b=nb at *
 generalize Ie.isInf a=ia at *
 generalize Ie.isInf b=ib at *
 generalize neg a=sa at *
 generalize neg b=sb at *
 cases na
 ·cases nb
  ·cases ia
   ·cases ib
    ·simp at hh
    ·go_enter Tryz.func11,Tryz.ntmps11
     go_wp2_with (first|(go_at_call 15;refine(kV _).mono ?_;rintro e w' ⟨rfl,rfl⟩)|(go_at_call 46;first|(refine(kna _).mono ?_;rintro e w' ⟨rfl,rfl⟩)|(refine(knb _).mono ?_;rintro e w' ⟨rfl,rfl⟩))|(go_at_call 48;first|(refine(kia _).mono ?_;rintro e w' ⟨rfl,rfl⟩)|(refine(kib _).mono ?_;rintro e w' ⟨rfl,rfl⟩)))
     go_ret
     exact⟨rfl,rfl⟩
   ·cases ib
    ·go_enter Tryz.func11,Tryz.ntmps11
     go_wp2_with (first|(go_at_call 15;refine(kV _).mono ?_;rintro e w' ⟨rfl,rfl⟩)|(go_at_call 46;first|(refine(kna _).mono ?_;rintro e w' ⟨rfl,rfl⟩)|(refine(knb _).mono ?_;rintro e w' ⟨rfl,rfl⟩))|(go_at_call 48;first|(refine(kia _).mono ?_;rintro e w' ⟨rfl,rfl⟩)|(refine(kib _).mono ?_;rintro e w' ⟨rfl,rfl⟩)))
     go_ret
     exact⟨rfl,rfl⟩
    ·cases sa <;> cases sb
     all_goals
      go_enter Tryz.func11,Tryz.ntmps11
      go_wp2_with (first|(go_at_call 47;refine(Ie.dnot _).mono ?_;rintro e w' ⟨rfl,rfl⟩)|(go_at_call 15;refine(kV _).mono ?_;rintro e w' ⟨rfl,rfl⟩)|(go_at_call 46;first|(refine(kna _).mono ?_;rintro e w' ⟨rfl,rfl⟩)|(refine(knb _).mono ?_;rintro e w' ⟨rfl,rfl⟩))|(go_at_call 48;first|(refine(kia _).mono ?_;rintro e w' ⟨rfl,rfl⟩)|(refine(kib _).mono ?_;rintro e w' ⟨rfl,rfl⟩))|(go_at_call 49;first|(refine(ksa _).mono ?_;rintro e w' ⟨rfl,rfl⟩)|(refine(ksb _).mono ?_;rintro e w' ⟨rfl,rfl⟩)))
      go_ret
      exact⟨rfl,rfl⟩
  ·go_enter Tryz.func11,Tryz.ntmps11
   go_wp2_with (first|(go_at_call 47;refine(Ie.dnot _).mono ?_;rintro e w' ⟨rfl,rfl⟩)|(go_at_call 15;refine(kV _).mono ?_;rintro e w' ⟨rfl,rfl⟩)|(go_at_call 46;first|(refine(kna _).mono ?_;rintro e w' ⟨rfl,rfl⟩)|(refine(knb _).mono ?_;rintro e w' ⟨rfl,rfl⟩)))
   go_ret
   exact⟨rfl,rfl⟩
 ·go_enter Tryz.func11,Tryz.ntmps11
  go_wp2_with (first|(go_at_call 47;refine(Ie.dnot _).mono ?_;rintro e w' ⟨rfl,rfl⟩)|(go_at_call 15;refine(kV _).mono ?_;rintro e w' ⟨rfl,rfl⟩)|(go_at_call 46;first|(refine(kna _).mono ?_;rintro e w' ⟨rfl,rfl⟩)|(refine(knb _).mono ?_;rintro e w' ⟨rfl,rfl⟩)))
  go_ret
  exact⟨rfl,rfl⟩
end Go.Proofs.YtokklnjoalkjaaaGreatDoor
namespace Go.Proofs.YtokklnjoalkjaaaGreatDoor
open Go.RowKit
end Go.Proofs.YtokklnjoalkjaaaGreatDoor
namespace Go.Proofs.YtokklnjoalkjaaaGreatDoor
open Go.RowKit Go.Fl64
end Go.Proofs.YtokklnjoalkjaaaGreatDoor
namespace Go.Proofs.YtokklnjoalkjaaaGreatDoor
open Go.RowKit
theorem ex_step {x i d:Nat} (hd:dg x i=d):x % B^(i+1)=0↔(x % B^i=0∧d=0):=by
 have h:=Nat.mod_pow_succ (x:=x) (b:=B) (k:=i)
 have hp:0<B^i:=Nat.pow_pos B_pos
 unfold dg at hd
 rw[h,hd]
 constructor
 ·intro h1
  obtain⟨h1,h2⟩:=Nat.add_eq_zero_iff.1 h1
  rcases Nat.mul_eq_zero.1 h2 with h3|h3
  ·omega
  ·exact⟨h1,h3⟩
 ·rintro⟨h1,h2⟩
  rw[h1,h2];rfl
theorem ex_last {x k whole part d:Nat} (hw:k / 32=whole) (hp:k % 32=part) (hd:dg x whole=d):x % 2^k=0↔(x % B^whole=0∧d % 2^part=0):=by
 have hB:B^whole=2^(32*whole):=by rw[show B=2^32 by rfl,←Nat.pow_mul]
 have hk:2^k=B^whole*2^part:=by rw[hB,←Nat.pow_add];congr 1;omega
 have hpos:0<B^whole:=Nat.pow_pos B_pos
 have hdd:d % 2^part=x / B^whole % 2^part:=by
  rw[←hd];unfold dg
  exact Nat.mod_mod_of_dvd _ (by rw[show B=2^32 by rfl];exact Nat.pow_dvd_pow 2 (by omega))
 rw[hk,Nat.mod_mul,hdd]
 constructor
 ·intro h1
  obtain⟨h1,h2⟩:=Nat.add_eq_zero_iff.1 h1
  rcases Nat.mul_eq_zero.1 h2 with h3|h3
  ·omega
  ·exact⟨h1,h3⟩
 ·rintro⟨h1,h2⟩
  rw[h1,h2];rfl
theorem ex_past {x k n:Nat} (hn:dlen x≤n) (hk:n≤k / 32):(x % B^n=0↔x % 2^k=0)∧x / 2^k=0:=by
 have h1:x<B^n:=Nat.lt_of_lt_of_le (lt_dlen x) (Nat.pow_le_pow_right B_pos hn)
 have h2:B^n≤2^k:=by rw[show B=2^32 by rfl,←Nat.pow_mul];exact Nat.pow_le_pow_right (by omega) (by omega)
 rw[Nat.mod_eq_of_lt h1,Nat.mod_eq_of_lt (by omega)]
 exact⟨Iff.rfl,Nat.div_eq_of_lt (by omega)⟩
theorem ex_bits {d part:Nat} (hd:d<B) (hp:part<32):(bits BinOp.and IntKind.u32 (d:Int) ((2^part - 1) % 4294967296)==0)=decide (d % 2^part=0):=by
 have h2:2^part<2^32:=Nat.pow_lt_pow_right (by omega) hp
 have hpos:=Nat.two_pow_pos part
 have e1:(((2:Int)^part - 1) % 4294967296)=((2^part - 1:Nat):Int):=by
  have:((2:Int)^part)=((2^part:Nat):Int):=by simp
  rw[this];omega
 rw[e1,u32_and_nat d (2^part - 1) (by unfold B at hd;omega) (by omega),Nat.and_two_pow_sub_one_eq_mod]
 generalize d % 2^part=r
 by_cases h:r=0
 ·rw[h];simp
 ·rw[decide_eq_false h]
  have:((r:Nat):Int)≠0:=by omega
  simpa using this
theorem ex_ret {a:Value} {b c:Bool} (h:b=c):Ending.returned (Value.tuple #[a,.bool b])=.returned (.tuple #[a,.bool c]):=by rw[h]
theorem ex_false {x k i d part:Nat} (he:false=true↔x % B^i=0) (hx:x % 2^k=0↔(x % B^i=0∧d % 2^part=0)):false=decide (x % 2^k=0):=by
 rw[decide_eq_false]
 intro h
 exact absurd (he.2 (hx.1 h).1) (by decide)
theorem ex_true {x k i d part:Nat} (he:True↔x % B^i=0) (hx:x % 2^k=0↔(x % B^i=0∧d % 2^part=0)) (h0:d=dg x i) (hd:d<B) (hp:part<32):(bits BinOp.and IntKind.u32 ((dg x i:Nat):Int) ((2^part - 1) % 4294967296)==0)=decide (x % 2^k=0):=by
 rw[←h0,ex_bits hd hp]
 refine decide_eq_decide.2 ?_
 rw[hx]
 exact⟨fun h=>⟨he.1 trivial,h⟩,fun h=>h.2⟩
theorem ex_next {x i d:Nat} {bb:Bool} (h:bb=true↔x % B^i=0) (hs:x % B^(i+1)=0↔(x % B^i=0∧d=0)):((bb&&((d:Int)==0))=true)↔x % B^(i+1)=0:=by
 rw[hs,←h];simp
theorem r64b_1 (b o cap m whole part x k:Nat) (w:World) (hm0:0<m) (hm:m≤17592186044416) (hk:k≤1099511627776) (hcap:whole+m≤cap) (hwh:k / 32=whole) (hpa:k % 32=part)
  (hn:dlen x=whole+m) (hcell:∀ i,i<whole+m→w.cell? ⟨b,o+i,none⟩=some (.int .u32 (dg x i:Nat))) :
  Calls Tryz.prog 112 #[.slice (some ⟨b,o,none⟩) (whole+m:Nat) cap,.int .i64 k] w fun e w'=>∃ ao cap',e=.returned (.tuple #[.slice ao (dlen (x / 2^k)) cap',.bool (decide (x % 2^k=0))])∧At w' ao (dlen (x / 2^k)) (x / 2^k)∧dlen (x / 2^k)≤cap'∧Bw w w':=by
 have hq:(k:Int).tdiv 32=((k / 32:Nat):Int):=by rw[Int.tdiv_eq_ediv_of_nonneg (by omega)];rfl
 have hr:(k:Int).tmod 32=((k % 32:Nat):Int):=by rw[Int.tmod_eq_emod_of_nonneg (by omega)];rfl
 have hwb:whole≤1099511627776:=by omega
 have hpb:part<32:=by omega
 rw[hwh] at hq
 rw[hpa] at hr
 have HN:Hid (dlen x=whole+m):=hn
 have HW:Hid (k / 32=whole):=hwh
 have HP:Hid (k % 32=part):=hpa
 clear hn hwh hpa
 have hmi:(whole:Int)<((whole+m:Nat):Int):=by omega
 go_enter Tryz.func112,Tryz.ntmps112
 go_wp2
 go_loop [6,7] (fun a v=>∃ (bb:Bool) (i:Nat),a=.bool bb∧v=.int .i64 (i:Int)∧i≤whole∧Hid (bb=true↔x % B^i=0)) (fun _ v=>whole - (intOf v).toNat)
 case atStart=>exact⟨true,0,rfl,rfl,Nat.zero_le _,(by rw[Nat.pow_zero,Nat.mod_one];simp:true=true↔x % B^0=0)⟩
 case round =>
  obtain⟨bb,i,rfl,rfl,hi,HE⟩:=hrel
  by_cases hiw:i<whole
  ·have g1:=hcell i (by omega)
   have HS:Hid (x % B^(i+1)=0↔(x % B^i=0∧dg x i=0)):=ex_step rfl
   generalize dg x i=d at *
   have hii:(i:Int)<(whole:Int):=by omega
   clear hcell
   cases bb
   ·go_wp2
    exact⟨⟨_,i+1,rfl,by simp,by omega,ex_next HE.out HS.out⟩,by simp[intOf];omega⟩
   ·go_wp2
    exact⟨⟨_,i+1,rfl,by simp,by omega,ex_next HE.out HS.out⟩,by simp[intOf];omega⟩
  ·obtain rfl:i=whole:=by omega
   clear hiw hi
   have HX:Hid (x % 2^k=0↔(x % B^i=0∧dg x i % 2^part=0)):=ex_last HW.out HP.out rfl
   have g0:=hcell i (by omega)
   have HDL:Hid (dg x i<B):=dg_lt _ _
   have HQ:Hid (dg x i=dg x i):=rfl
   obtain⟨d0,hd0⟩:∃ d0,d0=dg x i:=⟨_,rfl⟩
   rw[←hd0] at g0 HX HDL
   clear HQ
   have HD0:Hid (d0=dg x i):=hd0
   clear hd0
   have HC:Hid (∀ i_1:Nat,i_1<i+m→w.cell? { block:=b,off:=o+i_1 }=some (Value.int IntKind.u32 ↑(dg x i_1))):=hcell
   cases bb
   all_goals
    go_wp2_with fail
    clear hq hmi hr hcell g0
    go_loopw [9,10] (fun v c wr=>∃ j:Nat,j≤m∧c=.int .i64 ((i:Int)+j)∧wr.ownsRow w.heap.size 68 1 v j (cells (x / 2^k) j)∧Bw w wr) (fun _ c _=>m - (intOf c - i).toNat)
    case atStart=>exact⟨0,Nat.zero_le _,by simp,World.ownsRow_nil ..,Below.refl _ _⟩
    case round =>
     obtain⟨j,hj,rfl,ho,hB⟩:=hrel
     have HO:Hid (wr.ownsRow w.heap.size 68 1 u9 j (cells (x / 2^k) j)):=ho
     have HB:Hid (Bw w wr):=hB
     have hbs:w.heap.size≤wr.heap.size:=hB.size
     by_cases hjn:j+1<m
     ·have g1:=(hB.cell (World.block_lt_of_cell? _ _ (HC.out (i+j) (by omega)))).trans (HC.out (i+j) (by omega))
      have g4:=(hB.cell (World.block_lt_of_cell? _ _ (HC.out (i+j+1) (by omega)))).trans (HC.out (i+j+1) (by omega))
      have hji:(j:Int)+1<(m:Int):=by omega
      generalize hd:dg x (i+j)=d at *
      generalize hd1:dg x (i+j+1)=d1 at *
      have HD:Hid (dg x (i+j)=d):=hd
      have HD1:Hid (dg x (i+(j+1))=d1):=hd1
      have HL:Hid (d<B∧d1<B):=⟨hd ▸ dg_lt _ _,hd1 ▸ dg_lt _ _⟩
      clear hd hd1 hB
      obtain⟨i0,hi0,hz0,hz1,hz2⟩:=info_parts Tryz.info68
      go_wp2_with (at_builtin;refine wpList_append_own _ rfl _ _ 37 rfl w.heap.size 68 i0 (.int .u32 0) 1 4 Tryz.underlying37 hi0 hz0 hz1 hz2 rfl (by decide) _ _ _ rfl (ho.alloc _) ⟨wr.heap.size,0,none⟩ 1 1 [.int .u32 (bits BinOp.or IntKind.u64 (IntKind.u64.wrap (d:Int)) (IntKind.u64.wrap (IntKind.u64.wrap (d1:Int)*4294967296)) / 2^part % 4294967296)] rfl rfl (cell_one_new _ _ _) (by intro u hu;simp at hu;subst hu;rfl) (by unfold maxLen;omega) (by omega) (by simp;omega) ?_)
      intro v' w4 hown4 hgrow _
      go_wp2
      exact r64_round (by rw[shr_word2 HL.out.1 HL.out.2,shr_digit HW.out HP.out,HD.out,HD1.out]) (by omega) HB.out HO.out hown4 hgrow
     ·by_cases hjm:j<m
      ·have g1:=(hB.cell (World.block_lt_of_cell? _ _ (HC.out (i+j) (by omega)))).trans (HC.out (i+j) (by omega))
       have hji:¬ (j:Int)+1<(m:Int):=by omega
       have hji2:(j:Int)<(m:Int):=by omega
       generalize hd:dg x (i+j)=d at *
       have HD:Hid (dg x (i+j)=d):=hd
       have HL:Hid (d<B):=hd ▸ dg_lt _ _
       have HZ:Hid (dg x (i+(j+1))=0):=dg_past (by rw[HN.out];omega)
       clear hd hB
       obtain⟨i0,hi0,hz0,hz1,hz2⟩:=info_parts Tryz.info68
       go_wp2_with (at_builtin;refine wpList_append_own _ rfl _ _ 37 rfl w.heap.size 68 i0 (.int .u32 0) 1 4 Tryz.underlying37 hi0 hz0 hz1 hz2 rfl (by decide) _ _ _ rfl (ho.alloc _) ⟨wr.heap.size,0,none⟩ 1 1 [.int .u32 (IntKind.u64.wrap (d:Int) / 2^part % 4294967296)] rfl rfl (cell_one_new _ _ _) (by intro u hu;simp at hu;subst hu;rfl) (by unfold maxLen;omega) (by omega) (by simp;omega) ?_)
       intro v' w4 hown4 hgrow _
       go_wp2
       exact r64_round (by rw[shr_word1 HL.out,shr_digit HW.out HP.out,HD.out,HZ.out,Nat.zero_mul,Nat.add_zero]) (by omega) HB.out HO.out hown4 hgrow
      ·obtain rfl:j=m:=by omega
       have hL:=shr_len (k:=k) (m:=j) (by rw[HW.out];exact HN.out)
       obtain⟨ao',cap',rfl,hc',hA⟩:=at_of_row ho
       have HA:Hid (At wr ao' (dlen (x / 2^k)) (x / 2^k)∧dlen (x / 2^k)≤cap'):=⟨at_short hA hL,by omega⟩
       have k40:=r40 ao' j cap' (x / 2^k) wr hL hc' (by omega) hA
       clear hB ho hA
       go_wp2_with (first|(go_at_call 121;refine k40.mono ?_;rintro e w' ⟨rfl,rfl⟩))
       refine bodyPost_ret (results_tmp2 rfl _ _ _) rfl ?_
       first|exact⟨_,_,ex_ret (ex_false HE.out HX.out),HA.out.1,HA.out.2,HB.out⟩|exact⟨_,_,ex_ret (ex_true HE.out HX.out HD0.out HDL.out hpb),HA.out.1,HA.out.2,HB.out⟩
theorem r64n_1 (bo:Option Addr) (b o n cap whole x k:Nat) (w:World) (hn:n≤17592186044416) (hk:k≤1099511627776) (hcap:n≤cap) (hwh:k / 32=whole) (hwn:n≤whole) (hbo:0<n→bo=some ⟨b,o,none⟩) (hd:dlen x=n)
  (hcell:∀ i,i<n→w.cell? ⟨b,o+i,none⟩=some (.int .u32 (dg x i:Nat))) :
  Calls Tryz.prog 112 #[.slice bo n cap,.int .i64 k] w fun e w'=>e=.returned (.tuple #[.slice none 0 0,.bool (decide (x % 2^k=0))])∧w'=w:=by
 have hq:(k:Int).tdiv 32=((k / 32:Nat):Int):=by rw[Int.tdiv_eq_ediv_of_nonneg (by omega)];rfl
 rw[hwh] at hq
 have HP:Hid ((x % B^n=0↔x % 2^k=0)∧x / 2^k=0):=ex_past (Nat.le_of_eq hd) (by omega)
 have hwb:whole≤1099511627776:=by omega
 clear hwh hd
 go_enter Tryz.func112,Tryz.ntmps112
 go_wp2
 go_loop [6,7] (fun a v=>∃ (bb:Bool) (i:Nat),a=.bool bb∧v=.int .i64 (i:Int)∧i≤n∧Hid (bb=true↔x % B^i=0)) (fun _ v=>n - (intOf v).toNat)
 case atStart=>exact⟨true,0,rfl,rfl,Nat.zero_le _,(by rw[Nat.pow_zero,Nat.mod_one];simp:true=true↔x % B^0=0)⟩
 case round =>
  obtain⟨bb,i,rfl,rfl,hi,HE⟩:=hrel
  by_cases hiw:i<n
  ·obtain rfl:=hbo (by omega)
   have g1:=hcell i (by omega)
   have HS:Hid (x % B^(i+1)=0↔(x % B^i=0∧dg x i=0)):=ex_step rfl
   generalize dg x i=d at *
   have hii:(i:Int)<(whole:Int):=by omega
   have hin:(i:Int)<(n:Int):=by omega
   clear hcell hbo
   cases bb
   ·go_wp2
    exact⟨⟨_,i+1,rfl,by simp,by omega,ex_next HE.out HS.out⟩,by simp[intOf];omega⟩
   ·go_wp2
    exact⟨⟨_,i+1,rfl,by simp,by omega,ex_next HE.out HS.out⟩,by simp[intOf];omega⟩
  ·obtain rfl:i=n:=by omega
   have hwi:(i:Int)≤(whole:Int):=by omega
   have hii:¬ (i:Int)<(i:Int):=by omega
   obtain⟨b2,hb2⟩:∃ b2:Bool,b2=bb:=⟨_,rfl⟩
   have HE2:Hid (bb=decide (x % 2^k=0)):=(by
    have h1:=HE.out;have h2:=HP.out.1
    cases bb
    ·rw[decide_eq_false];intro h;exact absurd (h1.2 (h2.2 h)) (by decide)
    ·rw[decide_eq_true (h2.1 (h1.1 rfl))]:bb=decide (x % 2^k=0))
   clear hcell hbo hiw hi HE hb2 b2
   go_wp2
   refine bodyPost_ret (results_tmp2 rfl _ _ _) rfl ?_
   exact⟨ex_ret HE2.out,rfl⟩
theorem rdown {v:Value} {x:Nat} {w:World} (h:Ir w v x) (k:Nat) (hx:dlen x≤17592186044416) (hk:k≤1099511627776) :
  Calls Tryz.prog 112 #[v,.int .i64 k] w fun e w'=>∃ ao cap',e=.returned (.tuple #[.slice ao (dlen (x / 2^k)) cap',.bool (decide (x % 2^k=0))])∧At w' ao (dlen (x / 2^k)) (x / 2^k)∧dlen (x / 2^k)≤cap'∧Bw w w':=by
 obtain⟨ao,cap,rfl,hc,b,o,hb,hcell⟩:=h
 by_cases hlt:k / 32<dlen x
 ·obtain rfl:=hb (by omega)
  obtain⟨m,hm⟩:∃ m,dlen x=k / 32+m:=⟨dlen x - k / 32,by omega⟩
  rw[hm] at hcell hc ⊢
  exact r64b_1 b o cap m _ _ x k w (by omega) (by omega) hk hc rfl rfl hm hcell
 ·have hp:=ex_past (x:=x) (k:=k) (Nat.le_refl _) (by omega)
  refine(r64n_1 ao b o (dlen x) cap (k / 32) x k w hx hk hc rfl (by omega) hb rfl hcell).mono ?_
  rintro e w' ⟨rfl,rfl⟩
  rw[hp.2,dlen_zero]
  exact⟨none,0,rfl,⟨0,0,fun h=>by omega,fun i hi=>by omega⟩,Nat.le_refl _,Below.refl _ _⟩
end Go.Proofs.YtokklnjoalkjaaaGreatDoor
namespace Go.Proofs.YtokklnjoalkjaaaGreatDoor
end Go.Proofs.YtokklnjoalkjaaaGreatDoor
namespace Go.Proofs.YtokklnjoalkjaaaGreatDoor
open Go.RowKit
end Go.Proofs.YtokklnjoalkjaaaGreatDoor
namespace Go.Proofs.YtokklnjoalkjaaaGreatDoor
end Go.Proofs.YtokklnjoalkjaaaGreatDoor
namespace Go.Proofs.YtokklnjoalkjaaaGreatDoor
open Go.RowKit
theorem cmp_eq {x y:Nat}:(cmpI (x:Int) (y:Int)==0)=decide (x=y):=by
 unfold cmpI
 by_cases h:x=y
 ·subst h;simp
 ·rw[decide_eq_false h]
  by_cases h2:(x:Int)<(y:Int)
  ·rw[if_pos h2];rfl
  ·rw[if_neg h2,if_pos (by omega)];rfl
end Go.Proofs.YtokklnjoalkjaaaGreatDoor
