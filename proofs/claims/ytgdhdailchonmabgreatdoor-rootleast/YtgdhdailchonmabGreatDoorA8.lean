/- Own work: contracts of the program's functions, part 8: RW1 SA3 RC2 RC3 V1 V2 E2 V3 E3 V4 RC4 W42 W44 RC5 RD1 SA6 L5 G3 W43 L7 L9 RT2 DV1 RV1 DV2 DV3 RV2 DV4 RV3 RV4 RW2 RW3 RW4 RW5 RW6 RW7 RW8 RW9 RX1 W49 RX2 RX3 W50 L16 L10 L17 L14 W51. -/
import Derived.Test.YtgdhdailchonmabGreatDoorA7
import Derived.Test.YtgdhdailchonmabGreatDoorA4
import Derived.Test.YtgdhdailchonmabGreatDoorA6
import Derived.Test.YtgdhdailchonmabGreatDoorA3
import Derived.Test.YtgdhdailchonmabGreatDoorA5
import Derived.Laws.AppendOwnNone
import Derived.Deep.CutRange
import Derived.Test.YtgdhdailchonmabGreatDoorA2
import Derived.Deep.CutBlock

set_option maxHeartbeats 16000000
set_option maxRecDepth 200000
set_option linter.unusedVariables false
set_option linter.unusedSimpArgs false
namespace Go.Proofs.YtgdhdailchonmabGreatDoor
open Go.RowKit
theorem NC.shape {w:World} {base:Nat} {a:Value} {s:Bool} {z:Nat} {e:Int} (h:NC w base a s z e):∃ s ao n cap ex,a=.agg #[.bool s,.slice ao n cap,.int .i64 ex]:=by
 obtain⟨ao,cap,h1,-⟩:=h
 exact⟨_,_,_,_,_,h1⟩
theorem NC.store {w:World} {base g:Nat} {A:Value} {s:Bool} {z:Nat} {e:Int} (h:NC w base A s z e) (hg:g<base) (a b c:Value):NC (((w.setCell ⟨g,0,none⟩ a).setCell ⟨g,1,none⟩ b).setCell ⟨g,2,none⟩ c) base A s z e:=by
 obtain⟨ao,cap,h1,h2,h3⟩:=h
 refine⟨ao,cap,h1,⟨h2.nil,?_,h2.le,h2.small⟩,h3⟩
 obtain⟨bb,oo,hb,hc⟩:=h2.at_
 refine⟨bb,oo,hb,fun i hi=>?_⟩
 have hbb:base≤bb:=h3 _ (hb (by omega)) (by omega)
 rw[World.cell?_setCell_other _ _ _ _ (by intro e;simp at e <;> omega),World.cell?_setCell_other _ _ _ _ (by intro e;simp at e <;> omega),World.cell?_setCell_other _ _ _ _ (by intro e;simp at e <;> omega)]
 exact hc i hi
theorem Dn.nc {w:World} {base:Nat} {ao:Option Addr} {cap z:Nat} {s:Bool} {e:Int} (h:Dn w base (.slice ao (dlen z) cap) (dlen z) z) (hc:cn s z e=(s,z,e)) (hz:dlen z≤35184372088832):NC w base (.agg #[.bool s,.slice ao (dlen z) cap,.int .i64 e]) s z e:=by
 refine⟨ao,cap,by rw[hc],?_,?_⟩
 ·rw[hc]
  rcases h with ⟨h1,h2⟩|⟨g,cap',c,h1,h2,h3,h4,h5,h6⟩
  ·simp only[Value.slice.injEq] at h1
   obtain⟨rfl,-,rfl⟩:=h1
   exact⟨fun _=>.inr ⟨rfl,rfl⟩,⟨0,0,fun h=>by simp only at h;omega,fun i hi=>by simp only at hi;omega⟩,by simp only;omega,hz⟩
  ·simp only[Value.slice.injEq] at h1
   obtain⟨rfl,-,rfl⟩:=h1
   refine⟨fun _=>.inl ⟨_,rfl⟩,⟨g,0,fun _=>rfl,fun i hi=>?_⟩,h3.1,hz⟩
   rw[Nat.zero_add]
   simp[World.cell?,h4,h6 i hi]
 ·rw[hc]
  rcases h with ⟨h1,h2⟩|⟨g,cap',c,h1,h2,h3,h4,h5,h6⟩
  ·intro ad e hl;simp only at hl;omega
  ·simp only[Value.slice.injEq] at h1
   obtain⟨rfl,-,rfl⟩:=h1
   intro ad e _
   injection e with e;rw[←e];exact h2
theorem rplusN_c (na nb:Bool) (ua va:Option Addr) (un uc vn vc X Y:Nat) (ea eb:Int) (w:World) (hne:(na==nb)=true) (hX:dlen (X+Y)≤1000000) (hX1:dlen X≤1000000) (hX2:dlen Y≤1000000) (he1 : -4000000≤ea) (he2:ea≤4000000) (he3 : -4000000≤eb) (he4:eb≤4000000) (hn0:((un:Int)==0)=false) (hn1:((vn:Int)==0)=false)
  (ku:∀ W i,Bw w W→i=ea - min ea eb→Calls Tryz.prog 27 #[.slice ua un uc,.int .i64 i] W fun r w'=>∃ v,r=.returned v∧Ir w' v X∧Bw W w')
  (kv:∀ W i,Bw w W→i=eb - min ea eb→Calls Tryz.prog 27 #[.slice va vn vc,.int .i64 i] W fun r w'=>∃ v,r=.returned v∧Ir w' v Y∧Bw W w') :
  Calls Tryz.prog 10 #[.agg #[.bool na,.slice ua un uc,.int .i64 ea],.agg #[.bool nb,.slice va vn vc,.int .i64 eb]] w fun r w'=>∃ a,r=.returned a∧NC w' w.heap.size a na (X+Y) (min ea eb)∧Bw w w':=by
 obtain⟨W,hW⟩:∃ W,W=((w.alloc (.cells #[.bool na,.slice ua un uc,.int .i64 ea] 30)).alloc (.cells #[.bool nb,.slice va vn vc,.int .i64 eb] 30)).alloc (.cells #[.bool false,.slice none 0 0,.int .i64 0] 30):=⟨_,rfl⟩
 obtain⟨hA,hBb,hC,hsz,hBW⟩:=boxes3 _ _ _ hW
 have k1:=fun i hi=>ku W i hBW hi
 have HKV:Hid _:=kv
 have HH:Hid ((W.heap[w.heap.size]?=some (.cells #[.bool na,.slice ua un uc,.int .i64 ea] 30 (0,0))∧W.heap[w.heap.size+1]?=some (.cells #[.bool nb,.slice va vn vc,.int .i64 eb] 30 (0,0))∧W.heap[w.heap.size+1+1]?=some (.cells #[.bool false,.slice none 0 0,.int .i64 0] 30 (0,0)))∧W.heap.size=w.heap.size+1+1+1∧Bw w W):=⟨⟨hA,hBb,hC⟩,hsz,hBW⟩
 clear hA hBb hC hsz hBW ku kv
 go_enter Tryz.func10,Tryz.ntmps10
 go_wp2_with fail
 rw[←hW]
 clear hW
 refine(k1 _ (by first|rfl|(rw[IntKind.wrap_i64];omega)|omega)).mono ?_
 rintro r w4 ⟨p,rfl,hp,hB4⟩
 clear k1
 obtain⟨⟨a0,a1,a2⟩,-⟩:=box_cells29 (box_later HH.out.1.1 hB4 (by have:=HH.out.2.1;omega))
 obtain⟨⟨b0,b1,b2⟩,-⟩:=box_cells29 (box_later HH.out.1.2.1 hB4 (by have:=HH.out.2.1;omega))
 have HB4:Hid (Bw W w4):=hB4
 have HP4:Hid (Ir w4 p X):=hp
 clear hB4 hp
 go_wp2_with fail
 refine(HKV.out w4 _ (HH.out.2.2.trans (HB4.out.mono HH.out.2.2.size)) (by first|rfl|(rw[IntKind.wrap_i64];omega)|omega)).mono ?_
 rintro r w5 ⟨q,rfl,hq,hB5⟩
 have hB5':Bw W w5:=HB4.out.trans (hB5.mono HB4.out.size)
 have hp:=HP4.out.later hB5
 clear a0 a1 a2 b0 b1 b2 hB5
 obtain⟨⟨h1,h2,h3⟩,hs,hBW⟩:=HH.out
 obtain⟨⟨a0,a1,a2⟩,-⟩:=box_cells29 (box_later h1 hB5' (by omega))
 obtain⟨⟨b0,b1,b2⟩,-⟩:=box_cells29 (box_later h2 hB5' (by omega))
 have HC5:Hid (w5.heap[w.heap.size+1+1]?=some (.cells #[.bool false,.slice none 0 0,.int .i64 0] 30 (0,0))∧Bw W w5):=⟨box_later h3 hB5' (by omega),hB5'⟩
 have hp6:=hp
 have hq6:=hq
 have kS:∀ W6,Bw w5 W6→Calls Tryz.prog 28 #[p,q] W6 fun r w'=>∃ v,r=.returned v∧Ir w' v (X+Y)∧Bw w5 w':=fun W6 hb =>
  (rsum (w:=W6) (hp6.later hb) (hq6.later hb) (by omega) (by omega)).mono fun r w' ⟨v,e1,o1,o2⟩=>⟨v,e1,o1,hb.trans (o2.mono hb.size)⟩
 have hKeep:∀ w',Bw w5 w'→w'.cell? ⟨w.heap.size,0,none⟩=some (.bool na):=fun w' hb=>(hb.cell (World.block_lt_of_cell? _ _ a0)).trans a0
 have HK:Hid (∀ w',Bw w5 w'→w'.cell? ⟨w.heap.size,0,none⟩=some (.bool na)):=hKeep
 have HR5:Hid (∀ dd,Below w5.heap.size w5 (w5.drewN dd).drew):=(fun dd=>⟨rfl,rfl,rfl,Nat.le_refl _,fun _ _=>rfl⟩:∀ dd,Below w5.heap.size w5 (w5.drewN dd).drew)
 have hR5:Bw w5 w5.drew:=(Below.refl _ _).drew
 have k56:∀ v7 w7,Ir w7 v7 (X+Y)→Bw w5 w7→Calls Tryz.prog 22 #[.bool na,v7,.int .i64 (min ea eb)] w7 fun r w'=>∃ s ao n cap ex,r=.returned (.agg #[.bool s,.slice ao n cap,.int .i64 ex]) ∧
   Hid (NC w' w7.heap.size (.agg #[.bool s,.slice ao n cap,.int .i64 ex]) na (X+Y) (min ea eb)∧w5.heap.size≤w7.heap.size)∧Bw w5 w'∧Hid (w'.heap[w.heap.size+1+1]?=some (.cells #[.bool false,.slice none 0 0,.int .i64 0] 30 (0,0))) ∧
   (w'.cell? ⟨w.heap.size+1+1,0,none⟩=some (.bool false)∧w'.cell? ⟨w.heap.size+1+1,1,none⟩=some (.slice none 0 0)∧w'.cell? ⟨w.heap.size+1+1,2,none⟩=some (.int .i64 0))∧(w'.frozen? ⟨w.heap.size+1+1,0,none⟩=false∧w'.frozen? ⟨w.heap.size+1+1,1,none⟩=false∧w'.frozen? ⟨w.heap.size+1+1,2,none⟩=false):=by
  intro v7 w7 ho hb
  obtain⟨ao0,cap0,rfl,hl0,hat0⟩:=ho
  refine(rnorm ⟨ao0,cap0,rfl,hl0,hat0⟩ (by omega) (by omega)).mono ?_
  rintro r w8 ⟨a,rfl,hN,hb8⟩
  obtain⟨s,ao,n,cap,ex,rfl⟩:=hN.shape
  have hb58:Bw w5 w8:=hb.trans (hb8.mono hb.size)
  have hblk:=box_later HC5.out.1 hb58 (by have:=HC5.out.2.size;omega)
  obtain⟨f1,f2⟩:=box_cells29 hblk
  exact⟨s,ao,n,cap,ex,rfl,⟨hN,hb.size⟩,hb58,hblk,f1,f2⟩
 clear h1 h2 h3 hp hq hp6 hq6 hB5' hs hBW hKeep hX hX1 hX2 HR5
 go_wp2
 go_region_held3 (fun w'=>w'.cell? ⟨w.heap.size,0,none⟩=some (.bool na)) (first|(with_reducible assumption)|(refine HK.out _ ?_;with_reducible assumption)|(rw[World.cell?_setCell_other _ _ _ _ (by simp),World.cell?_setCell_other _ _ _ _ (by simp),World.cell?_setCell_other _ _ _ _ (by simp)];refine HK.out _ ?_;with_reducible assumption)|go_keep)
  (first|(go_at_call 28;refine(kS _ (by first|(with_reducible assumption)|exact hR5)).mono ?_;rintro r w7 ⟨v7,rfl,ho7,hb7⟩)|(go_at_call 22;refine(k56 _ _ ho7 hb7).mono ?_;rintro r w8 ⟨s8,ao8,n8,cap8,ex8,rfl,hN8,hb8,hblk8,⟨x1,x2,x3⟩,x4,x5,x6⟩))
 have HF:Hid (Bw w5 w8):=hb8
 clear ho7 hb7 hb8 k56 kS x1 x2 x3 x4 x5 x6 a0 a1 a2 b0 b1 b2 HK
 go_wp2
 refine bodyPost_ret (results_cell_row rfl _ _ (w.heap.size+1+1) 30 #[.bool s8,.slice ao8 n8 cap8,.int .i64 ex8] (0,0) _ rfl (store3_29 _ _ _ hblk8.out) Tryz.underlying30 rfl Tryz.info30) rfl ?_
 obtain⟨-,hs,hBW⟩:=HH.out
 have hs4:=HC5.out.2.size
 have hs5:=hN8.out.2
 exact⟨_,rfl,(hN8.out.1.store (by omega) _ _ _).mono (by omega),below_store3 (hBW.trans ((HC5.out.2.trans (HF.out.mono hs4)).mono hBW.size)) (by omega) _ _ _⟩
theorem rplusN_d (na nb:Bool) (ua va:Option Addr) (un uc vn vc X Y:Nat) (ea eb:Int) (w:World) (hlt:X<Y) (hne:(na==nb)=false) (hX:dlen (Y - X)≤1000000) (hX1:dlen X≤1000000) (hX2:dlen Y≤1000000) (he1 : -4000000≤ea) (he2:ea≤4000000) (he3 : -4000000≤eb) (he4:eb≤4000000) (hn0:((un:Int)==0)=false) (hn1:((vn:Int)==0)=false)
  (ku:∀ W i,Bw w W→i=ea - min ea eb→Calls Tryz.prog 27 #[.slice ua un uc,.int .i64 i] W fun r w'=>∃ v,r=.returned v∧Ir w' v X∧Bw W w')
  (kv:∀ W i,Bw w W→i=eb - min ea eb→Calls Tryz.prog 27 #[.slice va vn vc,.int .i64 i] W fun r w'=>∃ v,r=.returned v∧Ir w' v Y∧Bw W w') :
  Calls Tryz.prog 10 #[.agg #[.bool na,.slice ua un uc,.int .i64 ea],.agg #[.bool nb,.slice va vn vc,.int .i64 eb]] w fun r w'=>∃ a,r=.returned a∧NC w' w.heap.size a nb (Y - X) (min ea eb)∧Bw w w':=by
 obtain⟨W,hW⟩:∃ W,W=((w.alloc (.cells #[.bool na,.slice ua un uc,.int .i64 ea] 30)).alloc (.cells #[.bool nb,.slice va vn vc,.int .i64 eb] 30)).alloc (.cells #[.bool false,.slice none 0 0,.int .i64 0] 30):=⟨_,rfl⟩
 obtain⟨hA,hBb,hC,hsz,hBW⟩:=boxes3 _ _ _ hW
 have k1:=fun i hi=>ku W i hBW hi
 have HKV:Hid _:=kv
 have HH:Hid ((W.heap[w.heap.size]?=some (.cells #[.bool na,.slice ua un uc,.int .i64 ea] 30 (0,0))∧W.heap[w.heap.size+1]?=some (.cells #[.bool nb,.slice va vn vc,.int .i64 eb] 30 (0,0))∧W.heap[w.heap.size+1+1]?=some (.cells #[.bool false,.slice none 0 0,.int .i64 0] 30 (0,0)))∧W.heap.size=w.heap.size+1+1+1∧Bw w W):=⟨⟨hA,hBb,hC⟩,hsz,hBW⟩
 clear hA hBb hC hsz hBW ku kv
 go_enter Tryz.func10,Tryz.ntmps10
 go_wp2_with fail
 rw[←hW]
 clear hW
 refine(k1 _ (by first|rfl|(rw[IntKind.wrap_i64];omega)|omega)).mono ?_
 rintro r w4 ⟨p,rfl,hp,hB4⟩
 clear k1
 obtain⟨⟨a0,a1,a2⟩,-⟩:=box_cells29 (box_later HH.out.1.1 hB4 (by have:=HH.out.2.1;omega))
 obtain⟨⟨b0,b1,b2⟩,-⟩:=box_cells29 (box_later HH.out.1.2.1 hB4 (by have:=HH.out.2.1;omega))
 have HB4:Hid (Bw W w4):=hB4
 have HP4:Hid (Ir w4 p X):=hp
 clear hB4 hp
 go_wp2_with fail
 refine(HKV.out w4 _ (HH.out.2.2.trans (HB4.out.mono HH.out.2.2.size)) (by first|rfl|(rw[IntKind.wrap_i64];omega)|omega)).mono ?_
 rintro r w5 ⟨q,rfl,hq,hB5⟩
 have hB5':Bw W w5:=HB4.out.trans (hB5.mono HB4.out.size)
 have hp:=HP4.out.later hB5
 clear a0 a1 a2 b0 b1 b2 hB5
 obtain⟨⟨h1,h2,h3⟩,hs,hBW⟩:=HH.out
 obtain⟨⟨a0,a1,a2⟩,-⟩:=box_cells29 (box_later h1 hB5' (by omega))
 obtain⟨⟨b0,b1,b2⟩,-⟩:=box_cells29 (box_later h2 hB5' (by omega))
 have HC5:Hid (w5.heap[w.heap.size+1+1]?=some (.cells #[.bool false,.slice none 0 0,.int .i64 0] 30 (0,0))∧Bw W w5):=⟨box_later h3 hB5' (by omega),hB5'⟩
 have hp6:=hp
 have hq6:=hq
 have kS:∀ W6,Bw w5 W6→Calls Tryz.prog 30 #[q,p] W6 fun r w'=>∃ v,r=.returned v∧Ir w' v (Y - X)∧Bw w5 w':=fun W6 hb =>
  (rless (w:=W6) (hq6.later hb) (hp6.later hb) (by omega) (by omega)).mono fun r w' ⟨v,e1,o1,o2⟩=>⟨v,e1,o1,hb.trans (o2.mono hb.size)⟩
 have hKeep:∀ w',Bw w5 w'→w'.cell? ⟨w.heap.size+1,0,none⟩=some (.bool nb):=fun w' hb=>(hb.cell (World.block_lt_of_cell? _ _ b0)).trans b0
 have HK:Hid (∀ w',Bw w5 w'→w'.cell? ⟨w.heap.size+1,0,none⟩=some (.bool nb)):=hKeep
 have HR5:Hid (∀ dd,Below w5.heap.size w5 (w5.drewN dd).drew):=(fun dd=>⟨rfl,rfl,rfl,Nat.le_refl _,fun _ _=>rfl⟩:∀ dd,Below w5.heap.size w5 (w5.drewN dd).drew)
 have hR5:Bw w5 w5.drew:=(Below.refl _ _).drew
 have k56:∀ v7 w7,Ir w7 v7 (Y - X)→Bw w5 w7→Calls Tryz.prog 22 #[.bool nb,v7,.int .i64 (min ea eb)] w7 fun r w'=>∃ s ao n cap ex,r=.returned (.agg #[.bool s,.slice ao n cap,.int .i64 ex]) ∧
   Hid (NC w' w7.heap.size (.agg #[.bool s,.slice ao n cap,.int .i64 ex]) nb (Y - X) (min ea eb)∧w5.heap.size≤w7.heap.size)∧Bw w5 w'∧Hid (w'.heap[w.heap.size+1+1]?=some (.cells #[.bool false,.slice none 0 0,.int .i64 0] 30 (0,0))) ∧
   (w'.cell? ⟨w.heap.size+1+1,0,none⟩=some (.bool false)∧w'.cell? ⟨w.heap.size+1+1,1,none⟩=some (.slice none 0 0)∧w'.cell? ⟨w.heap.size+1+1,2,none⟩=some (.int .i64 0))∧(w'.frozen? ⟨w.heap.size+1+1,0,none⟩=false∧w'.frozen? ⟨w.heap.size+1+1,1,none⟩=false∧w'.frozen? ⟨w.heap.size+1+1,2,none⟩=false):=by
  intro v7 w7 ho hb
  obtain⟨ao0,cap0,rfl,hl0,hat0⟩:=ho
  refine(rnorm ⟨ao0,cap0,rfl,hl0,hat0⟩ (by omega) (by omega)).mono ?_
  rintro r w8 ⟨a,rfl,hN,hb8⟩
  obtain⟨s,ao,n,cap,ex,rfl⟩:=hN.shape
  have hb58:Bw w5 w8:=hb.trans (hb8.mono hb.size)
  have hblk:=box_later HC5.out.1 hb58 (by have:=HC5.out.2.size;omega)
  obtain⟨f1,f2⟩:=box_cells29 hblk
  exact⟨s,ao,n,cap,ex,rfl,⟨hN,hb.size⟩,hb58,hblk,f1,f2⟩
 have k129:=rord hp hq (by omega) (by omega)
 have hcm:cmpI (X:Int) (Y:Int)<0:=by unfold cmpI;rw[if_pos (by omega)];omega
 generalize cmpI (X:Int) (Y:Int)=cv at *
 clear h1 h2 h3 hp hq hp6 hq6 hB5' hs hBW hKeep hX hX1 hX2 hlt
 go_wp2_with fail
 refine k129.mono ?_
 rintro r w7 ⟨rfl,dd,rfl⟩
 have hR5:=HR5.out dd
 clear k129
 have z0:(w5.drewN dd).cell? ⟨w.heap.size+1,0,none⟩=some (.bool nb):=b0
 go_wp2
 go_region_held3 (fun w'=>w'.cell? ⟨w.heap.size+1,0,none⟩=some (.bool nb)) (first|(with_reducible assumption)|(refine HK.out _ ?_;with_reducible assumption)|(rw[World.cell?_setCell_other _ _ _ _ (by simp),World.cell?_setCell_other _ _ _ _ (by simp),World.cell?_setCell_other _ _ _ _ (by simp)];refine HK.out _ ?_;with_reducible assumption)|go_keep)
  (first|(go_at_call 30;refine(kS _ (by first|(with_reducible assumption)|exact hR5)).mono ?_;rintro r w7 ⟨v7,rfl,ho7,hb7⟩)|(go_at_call 22;refine(k56 _ _ ho7 hb7).mono ?_;rintro r w8 ⟨s8,ao8,n8,cap8,ex8,rfl,hN8,hb8,hblk8,⟨x1,x2,x3⟩,x4,x5,x6⟩))
 have HF:Hid (Bw w5 w8):=hb8
 clear ho7 hb7 hb8 k56 kS x1 x2 x3 x4 x5 x6 a0 a1 a2 b0 b1 b2 HK
 go_wp2
 refine bodyPost_ret (results_cell_row rfl _ _ (w.heap.size+1+1) 30 #[.bool s8,.slice ao8 n8 cap8,.int .i64 ex8] (0,0) _ rfl (store3_29 _ _ _ hblk8.out) Tryz.underlying30 rfl Tryz.info30) rfl ?_
 obtain⟨-,hs,hBW⟩:=HH.out
 have hs4:=HC5.out.2.size
 have hs5:=hN8.out.2
 exact⟨_,rfl,(hN8.out.1.store (by omega) _ _ _).mono (by omega),below_store3 (hBW.trans ((HC5.out.2.trans (HF.out.mono hs4)).mono hBW.size)) (by omega) _ _ _⟩
theorem rplusN_e (na nb:Bool) (ua va:Option Addr) (un uc vn vc X Y:Nat) (ea eb:Int) (w:World) (hlt:Y≤X) (hne:(na==nb)=false) (hX:dlen (X - Y)≤1000000) (hX1:dlen X≤1000000) (hX2:dlen Y≤1000000) (he1 : -4000000≤ea) (he2:ea≤4000000) (he3 : -4000000≤eb) (he4:eb≤4000000) (hn0:((un:Int)==0)=false) (hn1:((vn:Int)==0)=false)
  (ku:∀ W i,Bw w W→i=ea - min ea eb→Calls Tryz.prog 27 #[.slice ua un uc,.int .i64 i] W fun r w'=>∃ v,r=.returned v∧Ir w' v X∧Bw W w')
  (kv:∀ W i,Bw w W→i=eb - min ea eb→Calls Tryz.prog 27 #[.slice va vn vc,.int .i64 i] W fun r w'=>∃ v,r=.returned v∧Ir w' v Y∧Bw W w') :
  Calls Tryz.prog 10 #[.agg #[.bool na,.slice ua un uc,.int .i64 ea],.agg #[.bool nb,.slice va vn vc,.int .i64 eb]] w fun r w'=>∃ a,r=.returned a∧NC w' w.heap.size a na (X - Y) (min ea eb)∧Bw w w':=by
 obtain⟨W,hW⟩:∃ W,W=((w.alloc (.cells #[.bool na,.slice ua un uc,.int .i64 ea] 30)).alloc (.cells #[.bool nb,.slice va vn vc,.int .i64 eb] 30)).alloc (.cells #[.bool false,.slice none 0 0,.int .i64 0] 30):=⟨_,rfl⟩
 obtain⟨hA,hBb,hC,hsz,hBW⟩:=boxes3 _ _ _ hW
 have k1:=fun i hi=>ku W i hBW hi
 have HKV:Hid _:=kv
 have HH:Hid ((W.heap[w.heap.size]?=some (.cells #[.bool na,.slice ua un uc,.int .i64 ea] 30 (0,0))∧W.heap[w.heap.size+1]?=some (.cells #[.bool nb,.slice va vn vc,.int .i64 eb] 30 (0,0))∧W.heap[w.heap.size+1+1]?=some (.cells #[.bool false,.slice none 0 0,.int .i64 0] 30 (0,0)))∧W.heap.size=w.heap.size+1+1+1∧Bw w W):=⟨⟨hA,hBb,hC⟩,hsz,hBW⟩
 clear hA hBb hC hsz hBW ku kv
 go_enter Tryz.func10,Tryz.ntmps10
 go_wp2_with fail
 rw[←hW]
 clear hW
 refine(k1 _ (by first|rfl|(rw[IntKind.wrap_i64];omega)|omega)).mono ?_
 rintro r w4 ⟨p,rfl,hp,hB4⟩
 clear k1
 obtain⟨⟨a0,a1,a2⟩,-⟩:=box_cells29 (box_later HH.out.1.1 hB4 (by have:=HH.out.2.1;omega))
 obtain⟨⟨b0,b1,b2⟩,-⟩:=box_cells29 (box_later HH.out.1.2.1 hB4 (by have:=HH.out.2.1;omega))
 have HB4:Hid (Bw W w4):=hB4
 have HP4:Hid (Ir w4 p X):=hp
 clear hB4 hp
 go_wp2_with fail
 refine(HKV.out w4 _ (HH.out.2.2.trans (HB4.out.mono HH.out.2.2.size)) (by first|rfl|(rw[IntKind.wrap_i64];omega)|omega)).mono ?_
 rintro r w5 ⟨q,rfl,hq,hB5⟩
 have hB5':Bw W w5:=HB4.out.trans (hB5.mono HB4.out.size)
 have hp:=HP4.out.later hB5
 clear a0 a1 a2 b0 b1 b2 hB5
 obtain⟨⟨h1,h2,h3⟩,hs,hBW⟩:=HH.out
 obtain⟨⟨a0,a1,a2⟩,-⟩:=box_cells29 (box_later h1 hB5' (by omega))
 obtain⟨⟨b0,b1,b2⟩,-⟩:=box_cells29 (box_later h2 hB5' (by omega))
 have HC5:Hid (w5.heap[w.heap.size+1+1]?=some (.cells #[.bool false,.slice none 0 0,.int .i64 0] 30 (0,0))∧Bw W w5):=⟨box_later h3 hB5' (by omega),hB5'⟩
 have hp6:=hp
 have hq6:=hq
 have kS:∀ W6,Bw w5 W6→Calls Tryz.prog 30 #[p,q] W6 fun r w'=>∃ v,r=.returned v∧Ir w' v (X - Y)∧Bw w5 w':=fun W6 hb =>
  (rless (w:=W6) (hp6.later hb) (hq6.later hb) (by omega) (by omega)).mono fun r w' ⟨v,e1,o1,o2⟩=>⟨v,e1,o1,hb.trans (o2.mono hb.size)⟩
 have hKeep:∀ w',Bw w5 w'→w'.cell? ⟨w.heap.size,0,none⟩=some (.bool na):=fun w' hb=>(hb.cell (World.block_lt_of_cell? _ _ a0)).trans a0
 have HK:Hid (∀ w',Bw w5 w'→w'.cell? ⟨w.heap.size,0,none⟩=some (.bool na)):=hKeep
 have HR5:Hid (∀ dd,Below w5.heap.size w5 (w5.drewN dd).drew):=(fun dd=>⟨rfl,rfl,rfl,Nat.le_refl _,fun _ _=>rfl⟩:∀ dd,Below w5.heap.size w5 (w5.drewN dd).drew)
 have hR5:Bw w5 w5.drew:=(Below.refl _ _).drew
 have k56:∀ v7 w7,Ir w7 v7 (X - Y)→Bw w5 w7→Calls Tryz.prog 22 #[.bool na,v7,.int .i64 (min ea eb)] w7 fun r w'=>∃ s ao n cap ex,r=.returned (.agg #[.bool s,.slice ao n cap,.int .i64 ex]) ∧
   Hid (NC w' w7.heap.size (.agg #[.bool s,.slice ao n cap,.int .i64 ex]) na (X - Y) (min ea eb)∧w5.heap.size≤w7.heap.size)∧Bw w5 w'∧Hid (w'.heap[w.heap.size+1+1]?=some (.cells #[.bool false,.slice none 0 0,.int .i64 0] 30 (0,0))) ∧
   (w'.cell? ⟨w.heap.size+1+1,0,none⟩=some (.bool false)∧w'.cell? ⟨w.heap.size+1+1,1,none⟩=some (.slice none 0 0)∧w'.cell? ⟨w.heap.size+1+1,2,none⟩=some (.int .i64 0))∧(w'.frozen? ⟨w.heap.size+1+1,0,none⟩=false∧w'.frozen? ⟨w.heap.size+1+1,1,none⟩=false∧w'.frozen? ⟨w.heap.size+1+1,2,none⟩=false):=by
  intro v7 w7 ho hb
  obtain⟨ao0,cap0,rfl,hl0,hat0⟩:=ho
  refine(rnorm ⟨ao0,cap0,rfl,hl0,hat0⟩ (by omega) (by omega)).mono ?_
  rintro r w8 ⟨a,rfl,hN,hb8⟩
  obtain⟨s,ao,n,cap,ex,rfl⟩:=hN.shape
  have hb58:Bw w5 w8:=hb.trans (hb8.mono hb.size)
  have hblk:=box_later HC5.out.1 hb58 (by have:=HC5.out.2.size;omega)
  obtain⟨f1,f2⟩:=box_cells29 hblk
  exact⟨s,ao,n,cap,ex,rfl,⟨hN,hb.size⟩,hb58,hblk,f1,f2⟩
 have k129:=rord hp hq (by omega) (by omega)
 have hcm:¬ cmpI (X:Int) (Y:Int)<0:=by unfold cmpI;rw[if_neg (by omega)];split <;> omega
 generalize cmpI (X:Int) (Y:Int)=cv at *
 clear h1 h2 h3 hp hq hp6 hq6 hB5' hs hBW hKeep hX hX1 hX2 hlt
 go_wp2_with fail
 refine k129.mono ?_
 rintro r w7 ⟨rfl,dd,rfl⟩
 have hR5:=HR5.out dd
 clear k129
 have z0:(w5.drewN dd).cell? ⟨w.heap.size,0,none⟩=some (.bool na):=a0
 go_wp2
 go_region_held3 (fun w'=>w'.cell? ⟨w.heap.size,0,none⟩=some (.bool na)) (first|(with_reducible assumption)|(refine HK.out _ ?_;with_reducible assumption)|(rw[World.cell?_setCell_other _ _ _ _ (by simp),World.cell?_setCell_other _ _ _ _ (by simp),World.cell?_setCell_other _ _ _ _ (by simp)];refine HK.out _ ?_;with_reducible assumption)|go_keep)
  (first|(go_at_call 30;refine(kS _ (by first|(with_reducible assumption)|exact hR5)).mono ?_;rintro r w7 ⟨v7,rfl,ho7,hb7⟩)|(go_at_call 22;refine(k56 _ _ ho7 hb7).mono ?_;rintro r w8 ⟨s8,ao8,n8,cap8,ex8,rfl,hN8,hb8,hblk8,⟨x1,x2,x3⟩,x4,x5,x6⟩))
 have HF:Hid (Bw w5 w8):=hb8
 clear ho7 hb7 hb8 k56 kS x1 x2 x3 x4 x5 x6 a0 a1 a2 b0 b1 b2 HK
 go_wp2
 refine bodyPost_ret (results_cell_row rfl _ _ (w.heap.size+1+1) 30 #[.bool s8,.slice ao8 n8 cap8,.int .i64 ex8] (0,0) _ rfl (store3_29 _ _ _ hblk8.out) Tryz.underlying30 rfl Tryz.info30) rfl ?_
 obtain⟨-,hs,hBW⟩:=HH.out
 have hs4:=HC5.out.2.size
 have hs5:=hN8.out.2
 exact⟨_,rfl,(hN8.out.1.store (by omega) _ _ _).mono (by omega),below_store3 (hBW.trans ((HC5.out.2.trans (HF.out.mono hs4)).mono hBW.size)) (by omega) _ _ _⟩
theorem rplusS {na nb:Bool} {ua va:Option Addr} {uc vc x y:Nat} {ea eb:Int} {w:World} (h1:Arg w ua (dlen x) uc x) (h2:Arg w va (dlen y) vc y) (c1:cn na x ea=(na,x,ea)) (c2:cn nb y eb=(nb,y,eb)) (he1 : -2000000≤ea) (he2:ea≤2000000) (he3 : -2000000≤eb) (he4:eb≤2000000) (hl1:dlen x≤300000) (hl2:dlen y≤300000) (hsm:na=nb∨x=0) :
  Calls Tryz.prog 10 #[.agg #[.bool na,.slice ua (dlen x) uc,.int .i64 ea],.agg #[.bool nb,.slice va (dlen y) vc,.int .i64 eb]] w fun r w'=>∃ a,r=.returned a∧NC w' w.heap.size a (sumN na x ea nb y eb).1 (sumN na x ea nb y eb).2.1 (sumN na x ea nb y eb).2.2∧Bw w w':=by
 unfold sumN
 by_cases x0:x=0
 ·rw[if_pos x0]
  show Calls _ _ _ _ fun r w'=>∃ a,r=.returned a∧NC w' w.heap.size a nb y eb∧_
  subst x0
  rw[dlen_zero]
  refine(rplus_a na nb ua va uc _ vc ea eb w y h2).mono ?_
  rintro r w' ⟨ao',cap',rfl,hd,hb⟩
  exact⟨_,rfl,hd.nc (by first|exact c2|exact c1) (by omega),hb⟩
 ·rw[if_neg x0]
  by_cases y0:y=0
  ·rw[if_pos y0]
   show Calls _ _ _ _ fun r w'=>∃ a,r=.returned a∧NC w' w.heap.size a na x ea∧_
   subst y0
   rw[dlen_zero]
   refine(rplus_b na nb ua va _ uc vc ea eb w x h1 (len_ne (n:=0) x0)).mono ?_
   rintro r w' ⟨ao',cap',rfl,hd,hb⟩
   exact⟨_,rfl,hd.nc (by first|exact c2|exact c1) (by omega),hb⟩
  ·rw[if_neg y0]
   have l1:dlen (x*2^(ea - min ea eb).toNat)≤760000:=by have:=shl_len (x:=x) (k:=(ea - min ea eb).toNat) rfl;omega
   have l2:dlen (y*2^(eb - min ea eb).toNat)≤760000:=by have:=shl_len (x:=y) (k:=(eb - min ea eb).toNat) rfl;omega
   have ku:∀ W i,Bw w W→i=ea - min ea eb→Calls Tryz.prog 27 #[.slice ua (dlen x) uc,.int .i64 i] W fun r w'=>∃ v,r=.returned v∧Ir w' v (x*2^(ea - min ea eb).toNat)∧Bw W w':=by
    intro W i hW hi
    have hik:i=(((ea - min ea eb).toNat:Nat):Int):=by omega
    rw[hik]
    exact rup ⟨ua,uc,rfl,h1.le,(h1.later hW).at_⟩ _ (by omega) (by omega)
   have kv:∀ W i,Bw w W→i=eb - min ea eb→Calls Tryz.prog 27 #[.slice va (dlen y) vc,.int .i64 i] W fun r w'=>∃ v,r=.returned v∧Ir w' v (y*2^(eb - min ea eb).toNat)∧Bw W w':=by
    intro W i hW hi
    have hik:i=(((eb - min ea eb).toNat:Nat):Int):=by omega
    rw[hik]
    exact rup ⟨va,vc,rfl,h2.le,(h2.later hW).at_⟩ _ (by omega) (by omega)
   have hs:na=nb:=hsm.resolve_right x0
   rw[if_pos hs]
   have hne:(na==nb)=true:=by simp[hs]
   refine(rplusN_c na nb ua va _ uc _ vc _ _ ea eb w hne (by have:=dlen_add_le (x*2^(ea - min ea eb).toNat) (y*2^(eb - min ea eb).toNat);omega) (by omega) (by omega) (by omega) (by omega) (by omega) (by omega) (len_ne (n:=0) x0) (len_ne (n:=0) y0) ku kv).mono ?_
   rintro r w' ⟨a,rfl,hn,hb⟩
   exact⟨a,rfl,hn,hb⟩
theorem rplusG {na nb:Bool} {ua va:Option Addr} {uc vc x y:Nat} {ea eb:Int} {w:World} (h1:Arg w ua (dlen x) uc x) (h2:Arg w va (dlen y) vc y) (c1:cn na x ea=(na,x,ea)) (c2:cn nb y eb=(nb,y,eb)) (he1 : -2000000≤ea) (he2:ea≤2000000) (he3 : -2000000≤eb) (he4:eb≤2000000) (hl1:dlen x≤300000) (hl2:dlen y≤300000) :
  Calls Tryz.prog 10 #[.agg #[.bool na,.slice ua (dlen x) uc,.int .i64 ea],.agg #[.bool nb,.slice va (dlen y) vc,.int .i64 eb]] w fun r w'=>∃ a,r=.returned a∧NC w' w.heap.size a (sumN na x ea nb y eb).1 (sumN na x ea nb y eb).2.1 (sumN na x ea nb y eb).2.2∧Bw w w':=by
 unfold sumN
 by_cases x0:x=0
 ·rw[if_pos x0]
  show Calls _ _ _ _ fun r w'=>∃ a,r=.returned a∧NC w' w.heap.size a nb y eb∧_
  subst x0
  rw[dlen_zero]
  refine(rplus_a na nb ua va uc _ vc ea eb w y h2).mono ?_
  rintro r w' ⟨ao',cap',rfl,hd,hb⟩
  exact⟨_,rfl,hd.nc (by first|exact c2|exact c1) (by omega),hb⟩
 ·rw[if_neg x0]
  by_cases y0:y=0
  ·rw[if_pos y0]
   show Calls _ _ _ _ fun r w'=>∃ a,r=.returned a∧NC w' w.heap.size a na x ea∧_
   subst y0
   rw[dlen_zero]
   refine(rplus_b na nb ua va _ uc vc ea eb w x h1 (len_ne (n:=0) x0)).mono ?_
   rintro r w' ⟨ao',cap',rfl,hd,hb⟩
   exact⟨_,rfl,hd.nc (by first|exact c2|exact c1) (by omega),hb⟩
  ·rw[if_neg y0]
   have l1:dlen (x*2^(ea - min ea eb).toNat)≤760000:=by have:=shl_len (x:=x) (k:=(ea - min ea eb).toNat) rfl;omega
   have l2:dlen (y*2^(eb - min ea eb).toNat)≤760000:=by have:=shl_len (x:=y) (k:=(eb - min ea eb).toNat) rfl;omega
   have ku:∀ W i,Bw w W→i=ea - min ea eb→Calls Tryz.prog 27 #[.slice ua (dlen x) uc,.int .i64 i] W fun r w'=>∃ v,r=.returned v∧Ir w' v (x*2^(ea - min ea eb).toNat)∧Bw W w':=by
    intro W i hW hi
    have hik:i=(((ea - min ea eb).toNat:Nat):Int):=by omega
    rw[hik]
    exact rup ⟨ua,uc,rfl,h1.le,(h1.later hW).at_⟩ _ (by omega) (by omega)
   have kv:∀ W i,Bw w W→i=eb - min ea eb→Calls Tryz.prog 27 #[.slice va (dlen y) vc,.int .i64 i] W fun r w'=>∃ v,r=.returned v∧Ir w' v (y*2^(eb - min ea eb).toNat)∧Bw W w':=by
    intro W i hW hi
    have hik:i=(((eb - min ea eb).toNat:Nat):Int):=by omega
    rw[hik]
    exact rup ⟨va,vc,rfl,h2.le,(h2.later hW).at_⟩ _ (by omega) (by omega)
   by_cases hs:na=nb
   ·rw[if_pos hs]
    have hne:(na==nb)=true:=by simp[hs]
    refine(rplusN_c na nb ua va _ uc _ vc _ _ ea eb w hne (by have:=dlen_add_le (x*2^(ea - min ea eb).toNat) (y*2^(eb - min ea eb).toNat);omega) (by omega) (by omega) (by omega) (by omega) (by omega) (by omega) (len_ne (n:=0) x0) (len_ne (n:=0) y0) ku kv).mono ?_
    rintro r w' ⟨a,rfl,hn,hb⟩
    exact⟨a,rfl,hn,hb⟩
   ·rw[if_neg hs]
    have hne:(na==nb)=false:=by simp[hs]
    by_cases hlt:x*2^(ea - min ea eb).toNat<y*2^(eb - min ea eb).toNat
    ·rw[if_pos hlt]
     refine(rplusN_d na nb ua va _ uc _ vc _ _ ea eb w hlt hne (Nat.le_trans (dlen_mono (Nat.sub_le ..)) (by omega)) (by omega) (by omega) (by omega) (by omega) (by omega) (by omega) (len_ne (n:=0) x0) (len_ne (n:=0) y0) ku kv).mono ?_
     rintro r w' ⟨a,rfl,hn,hb⟩
     exact⟨a,rfl,hn,hb⟩
    ·rw[if_neg hlt]
     refine(rplusN_e na nb ua va _ uc _ vc _ _ ea eb w (by omega) hne (Nat.le_trans (dlen_mono (Nat.sub_le ..)) (by omega)) (by omega) (by omega) (by omega) (by omega) (by omega) (by omega) (len_ne (n:=0) x0) (len_ne (n:=0) y0) ku kv).mono ?_
     rintro r w' ⟨a,rfl,hn,hb⟩
     exact⟨a,rfl,hn,hb⟩
end Go.Proofs.YtgdhdailchonmabGreatDoor
namespace Go.Proofs.YtgdhdailchonmabGreatDoor
open Go.RowKit Go.Fl64
theorem rnormN {neg:Bool} {ao:Option Addr} {n cap x:Nat} {e:Int} {w:World} (h2:At w ao n x) (hn:dlen x≤n) (h1:n≤cap) (hc:n≤1000000000) (he : -4611686018427387904≤e∧e≤4611686018427387904) :
  Calls Tryz.prog 22 #[.bool neg,.slice ao n cap,.int .i64 e] w fun r w'=>∃ a,r=.returned a∧NC w' w.heap.size a neg x e∧Bw w w':=by
 by_cases h0:x=0
 ·subst h0
  refine(r34_0 neg ao _ cap e w h2 h1 (by omega)).mono ?_
  rintro r w' ⟨rfl,hb⟩
  refine⟨_,rfl,⟨none,0,?_,?_,fun ad e=>by cases e⟩,hb⟩
  ·unfold cn;rw[if_pos rfl,dlen_zero]
  ·unfold cn;rw[if_pos rfl]
   exact⟨fun _=>.inr ⟨rfl,rfl⟩,⟨0,0,fun h=>by rw[dlen_zero] at h;omega,fun i hi=>by rw[dlen_zero] at hi;omega⟩,by rw[dlen_zero];exact Nat.le_refl _,by rw[dlen_zero];omega⟩
 ·refine(r34c_1 neg ao _ cap x e w h2 hn h1 hc h0 he).mono ?_
  rintro r w' ⟨g,cap',rfl,hg,hcc,ho,hb⟩
  have hle:dlen (x / 2^tz x)≤dlen x:=dlen_mono (Nat.div_le_self _ _)
  refine⟨_,rfl,⟨some ⟨g,0,none⟩,cap',?_,?_,fun ad e _=>?_⟩,hb⟩
  ·unfold cn;rw[if_neg h0]
  ·unfold cn;rw[if_neg h0]
   exact⟨fun _=>.inl ⟨_,rfl⟩,ho,hcc,(by omega:dlen (x / 2^tz x)≤35184372088832)⟩
  ·injection e with e;rw[←e];exact hg
theorem xnorm_two {ng:Bool} {m:Nat} {e:Int} {W:World} (hm:m<18446744073709551616) (he : -4611686018427387904≤e∧e≤4611686018427387904) :
  Calls Tryz.prog 22 #[.bool ng,.slice (some ⟨W.heap.size,0,none⟩) 2 2,.int .i64 e] (W.alloc (Obj.cells #[Value.int IntKind.u32 ((m:Int) % 4294967296),Value.int IntKind.u32 ((m:Int) / 4294967296)] 56)) fun r w'=>∃ s ao n cap ex,r=.returned (.agg #[.bool s,.slice ao n cap,.int .i64 ex])∧NC w' (W.heap.size+1) (.agg #[.bool s,.slice ao n cap,.int .i64 ex]) ng m e∧Bw W w':=by
 have hL:dlen m≤2:=(dlen_le 2 m).2 (by unfold B;omega)
 refine(rnormN (two_at m W hm) hL (Nat.le_refl _) (by omega) he).mono ?_
 rintro r w' ⟨a,rfl,hn,hb⟩
 obtain⟨s,ao,n,cap,ex,rfl⟩:=hn.shape
 refine⟨_,_,_,_,_,rfl,hn.mono (by simp),?_⟩
 exact((Below.refl W.heap.size W).alloc (Nat.le_refl _) _).trans (hb.mono (by simp))
theorem x33_0 (a m:Nat) (w:World) (ng:Bool) (hX:bits .and .u64 ((a:Int) / 4503599627370496) 2047=0) (hand:bits .and .u64 (a:Int) 4503599627370495=(m:Int)) (hng:((a:Int) / 9223372036854775808==1)=ng) (hm:m<18446744073709551616) :
  Calls Tryz.prog 6 #[.float .f64 a] w fun r w'=>∃ A,r=.returned A∧NC w' w.heap.size A ng m (-1074)∧Bw w w':=by
 have kb:=Ie.run_bits
 obtain⟨W,hW⟩:∃ W,W=w.alloc (.cells #[.bool false,.slice none 0 0,.int .i64 0] 30):=⟨_,rfl⟩
 have k34:=xnorm_two (ng:=ng) (m:=m) (e:=(-1074)) (W:=W) hm (by omega)
 have HB0:Hid (Bw w W∧W.heap[w.heap.size]?=some (.cells #[.bool false,.slice none 0 0,.int .i64 0] 30 (0,0))∧W.heap.size=w.heap.size+1):=⟨by rw[hW];exact(Below.refl _ _).alloc (Nat.le_refl _) _,by rw[hW];exact heap_alloc_new _ _,by rw[hW];simp⟩
 (try unfold Bw at k34);rw[HB0.out.2.2] at k34
 go_enter Tryz.func6,Tryz.ntmps6
 go_wp2_with fail
 rw[←hW]
 clear hW
 refine k34.mono ?_
 rintro r w3 ⟨s,ao,n,cap,ex,rfl,hn,hb⟩
 have hs:=HB0.out.2.2
 have HC3:Hid (w3.heap[w.heap.size]?=some (.cells #[.bool false,.slice none 0 0,.int .i64 0] 30 (0,0))):=box_later HB0.out.2.1 hb (by omega)
 obtain⟨⟨a1,a2,a3⟩,a4,a5,a6⟩:=box_cells29 HC3.out
 have HN:Hid (NC w3 (w.heap.size+1) (.agg #[.bool s,.slice ao n cap,.int .i64 ex]) ng m (-1074)∧Below (w.heap.size+1) W w3):=⟨hn.mono (by omega),hb⟩
 clear hn hb k34 hs
 go_wp2
 refine bodyPost_ret (results_cell_row rfl _ _ w.heap.size 30 #[.bool s,.slice ao n cap,.int .i64 ex] (0,0) _ rfl (store3_29 _ _ _ HC3.out) Tryz.underlying30 rfl Tryz.info30) rfl ?_
 have hs:=HB0.out.2.2
 exact⟨_,rfl,(HN.out.1.store (by omega) _ _ _).mono (by omega),below_store3 (HB0.out.1.trans (HN.out.2.mono (by omega))) (Nat.le_refl _) _ _ _⟩
theorem x33_1 (a m0 m:Nat) (X:Int) (w:World) (ng:Bool) (hX:bits .and .u64 ((a:Int) / 4503599627370496) 2047=X) (hX0:(X==0)=false) (hX1:0≤X) (hX2:X<2048) (hand:bits .and .u64 (a:Int) 4503599627370495=(m0:Int)) (hor:bits .or .u64 (m0:Int) 4503599627370496=(m:Int)) (hng:((a:Int) / 9223372036854775808==1)=ng) (hm:m<18446744073709551616) :
  Calls Tryz.prog 6 #[.float .f64 a] w fun r w'=>∃ A,r=.returned A∧NC w' w.heap.size A ng m (X - 1075)∧Bw w w':=by
 have kb:=Ie.run_bits
 obtain⟨W,hW⟩:∃ W,W=w.alloc (.cells #[.bool false,.slice none 0 0,.int .i64 0] 30):=⟨_,rfl⟩
 have k34:=xnorm_two (ng:=ng) (m:=m) (e:=(X - 1075)) (W:=W) hm (by omega)
 have HB0:Hid (Bw w W∧W.heap[w.heap.size]?=some (.cells #[.bool false,.slice none 0 0,.int .i64 0] 30 (0,0))∧W.heap.size=w.heap.size+1):=⟨by rw[hW];exact(Below.refl _ _).alloc (Nat.le_refl _) _,by rw[hW];exact heap_alloc_new _ _,by rw[hW];simp⟩
 (try unfold Bw at k34);rw[HB0.out.2.2] at k34
 go_enter Tryz.func6,Tryz.ntmps6
 go_wp2_with fail
 rw[←hW]
 clear hW
 refine k34.mono ?_
 rintro r w3 ⟨s,ao,n,cap,ex,rfl,hn,hb⟩
 have hs:=HB0.out.2.2
 have HC3:Hid (w3.heap[w.heap.size]?=some (.cells #[.bool false,.slice none 0 0,.int .i64 0] 30 (0,0))):=box_later HB0.out.2.1 hb (by omega)
 obtain⟨⟨a1,a2,a3⟩,a4,a5,a6⟩:=box_cells29 HC3.out
 have HN:Hid (NC w3 (w.heap.size+1) (.agg #[.bool s,.slice ao n cap,.int .i64 ex]) ng m (X - 1075)∧Below (w.heap.size+1) W w3):=⟨hn.mono (by omega),hb⟩
 clear hn hb k34 hs
 go_wp2
 refine bodyPost_ret (results_cell_row rfl _ _ w.heap.size 30 #[.bool s,.slice ao n cap,.int .i64 ex] (0,0) _ rfl (store3_29 _ _ _ HC3.out) Tryz.underlying30 rfl Tryz.info30) rfl ?_
 have hs:=HB0.out.2.2
 exact⟨_,rfl,(HN.out.1.store (by omega) _ _ _).mono (by omega),below_store3 (HB0.out.1.trans (HN.out.2.mono (by omega))) (Nat.le_refl _) _ _ _⟩
theorem x33 (a:Nat) (ha:a<18446744073709551616) (w:World) :
  Calls Tryz.prog 6 #[.float .f64 a] w fun r w'=>∃ A,r=.returned A∧NC w' w.heap.size A (neg a) (Ie.mant a) (Ie.lp a)∧Bw w w':=by
 have hX:bits .and .u64 ((a:Int) / 4503599627370496) 2047=((mag a / 4503599627370496:Nat):Int):=by
  have e:(a:Int) / 4503599627370496=((a / 4503599627370496:Nat):Int):=by omega
  rw[e,and_2047 _ (by omega)]
  congr 1
  unfold mag
  omega
 have hand:bits .and .u64 (a:Int) 4503599627370495=((mag a % 4503599627370496:Nat):Int):=by
  rw[Ie.and_mant a ha]
  congr 1
  unfold mag
  omega
 have hng:((a:Int) / 9223372036854775808==1)=neg a:=by
  unfold neg
  rw[Bool.beq_eq_decide_eq]
  congr 1
  apply propext
  omega
 have hml:mag a<9223372036854775808:=by unfold mag;omega
 by_cases h0:mag a<4503599627370496
 ·have e1:mag a / 4503599627370496=0:=by omega
  have e2:mag a % 4503599627370496=mag a:=by omega
  rw[e1] at hX
  rw[e2] at hand
  have e3:Ie.mant a=mag a:=by unfold Ie.mant;rw[if_pos h0]
  have e4:Ie.lp a = -1074:=by unfold Ie.lp;rw[e1];omega
  rw[e3,e4]
  exact x33_0 a (mag a) w (neg a) hX hand hng (by omega)
 ·have e3:Ie.mant a=4503599627370496+mag a % 4503599627370496:=by unfold Ie.mant;rw[if_neg h0]
  have e4:Ie.lp a=((mag a / 4503599627370496:Nat):Int) - 1075:=by unfold Ie.lp;omega
  rw[e3,e4]
  exact x33_1 a _ _ _ w (neg a) hX (by rw[Bool.beq_eq_decide_eq];simp;omega) (by omega) (by omega) hand (Ie.or_mant _ (by omega)) hng (by omega)
def tF (a:Nat):Bool×Nat×Int:=cn (neg a) (Ie.mant a) (Ie.lp a)
def DN (w:World) (A:Value) (t:Bool×Nat×Int):Prop:=∃ ao cap,A=.agg #[.bool t.1,.slice ao (dlen t.2.1) cap,.int .i64 t.2.2]∧Arg w ao (dlen t.2.1) cap t.2.1
theorem DN.later {w w':World} {A:Value} {t:Bool×Nat×Int} (h:DN w A t) (hb:Bw w w'):DN w' A t:=by
 obtain⟨ao,cap,h1,h2⟩:=h
 exact⟨ao,cap,h1,h2.later hb⟩
theorem DN.shape {w:World} {A:Value} {t:Bool×Nat×Int} (h:DN w A t):∃ s ao n cap e,A=.agg #[.bool s,.slice ao n cap,.int .i64 e]:=by
 obtain⟨ao,cap,h1,-⟩:=h
 exact⟨_,_,_,_,_,h1⟩
theorem NC.dn {w:World} {base:Nat} {a:Value} {neg:Bool} {x:Nat} {e:Int} (h:NC w base a neg x e):DN w a (cn neg x e):=by
 obtain⟨ao,cap,h1,h2,-⟩:=h
 exact⟨ao,cap,h1,h2⟩
theorem float_dn (a:Nat) (ha:a<18446744073709551616) (w:World) :
  Calls Tryz.prog 6 #[.float .f64 a] w fun r w'=>∃ A,r=.returned A∧DN w' A (tF a)∧Bw w w' :=
 (x33 a ha w).mono fun r w' ⟨A,e,h,hb⟩=>⟨A,e,h.dn,hb⟩
end Go.Proofs.YtgdhdailchonmabGreatDoor
namespace Go.Proofs.YtgdhdailchonmabGreatDoor
open Go.RowKit
end Go.Proofs.YtgdhdailchonmabGreatDoor
namespace Go.Proofs.YtgdhdailchonmabGreatDoor
open Go.RowKit Go.Fl64
theorem of_parts (a m:Nat) (ha:a<18446744073709551616) (hf:mag a<9218868437227405312) (hm:Ie.sM a=(m:Int)) :
  (m=0∧Ie.mant a=0)∨(m≠0∧Ie.mant a≠0∧neg a=neg a∧m / 2^tz m=Ie.mant a / 2^tz (Ie.mant a)∧Ie.sE a+(tz m:Int)=Ie.lp a+(tz (Ie.mant a):Int)):=by
 unfold Ie.sM at hm
 unfold Ie.sE
 rw[if_neg (by omega)] at hm ⊢
 by_cases h0:mag a=0
 ·rw[if_pos h0] at hm
  exact .inl ⟨by omega,by unfold Ie.mant;rw[if_pos (by omega)];exact h0⟩
 ·rw[if_neg h0] at hm ⊢
  have hb:=Ie.mant_bound a
  have hne:=Ie.mant_ne h0
  have hct:Lib.ctz 64 (Ie.mant a)=tz (Ie.mant a):=tz_ctz hne (by omega)
  rw[hct] at hm ⊢
  have e1:m=Ie.mant a / 2^tz (Ie.mant a):=by
   have:((Ie.mant a / 2^tz (Ie.mant a):Nat):Int)=(m:Int):=by rw[←hm];simp
   omega
  obtain⟨h1,h2⟩:=tz_spec _ (Ie.mant a) (Nat.le_refl _) hne
  rw[←e1] at h2
  have e2:tz m=0:=tz_odd h2
  refine .inr ⟨by intro e;rw[e] at h2;simp at h2,hne,rfl,?_,?_⟩
  ·rw[e2,←e1];simp
  ·rw[e2];simp
end Go.Proofs.YtgdhdailchonmabGreatDoor
namespace Go.Proofs.YtgdhdailchonmabGreatDoor
open Go.RowKit
theorem neg_no (na:Bool) (ua:Option Addr) (un uc:Nat) (ea:Int) (w:World)
  (k43:∀ W g,Bw w W→W.heap[g]?=some (.cells #[.bool na,.slice ua un uc,.int .i64 ea] 47 (0,0))→Calls Tryz.prog 76 #[.slice (some ⟨g,0,none⟩) 1 1] W fun r w'=>r=.returned (.bool false)∧Bw W w') :
  Calls Tryz.prog 50 #[.agg #[.bool na,.slice ua un uc,.int .i64 ea]] w fun r w'=>r=.returned (.agg #[.bool false,.slice none 0 0,.int .i64 0])∧Bw w w':=by
 obtain⟨W,hW⟩:∃ W,W=(w.alloc (.cells #[.bool na,.slice ua un uc,.int .i64 ea] 47)).alloc (.cells #[.bool false,.slice none 0 0,.int .i64 0] 47):=⟨_,rfl⟩
 have hBW:Bw w W:=by rw[hW];exact((Below.refl _ _).alloc (Nat.le_refl _) _).alloc (by simp) _
 have hbB:W.heap[w.heap.size+1]?=some (.cells #[.bool false,.slice none 0 0,.int .i64 0] 47 (0,0)):=by
  have:=heap_alloc_new (w.alloc (.cells #[.bool na,.slice ua un uc,.int .i64 ea] 47)) (.cells #[.bool false,.slice none 0 0,.int .i64 0] 47)
  rw[hW];simpa using this
 have hsz:W.heap.size=w.heap.size+1+1:=by rw[hW];simp
 have k1:=k43 (W.alloc (.cells #[.bool na,.slice ua un uc,.int .i64 ea] 47)) (w.heap.size+1+1) (hBW.alloc hBW.size _) (by rw[←hsz];exact heap_alloc_new _ _)
 have HX:Hid (Bw w W∧W.heap.size=w.heap.size+1+1∧W.heap[w.heap.size+1]?=some (.cells #[.bool false,.slice none 0 0,.int .i64 0] 47 (0,0))):=⟨hBW,hsz,hbB⟩
 clear hBW hsz hbB k43
 go_enter Tryz.func50,Tryz.ntmps50
 go_wp2_with fail
 rw[←hW]
 clear hW
 refine k1.mono ?_
 rintro r w1 ⟨rfl,hb1⟩
 have HB1:Hid (Bw W w1):=((Below.refl W.heap.size W).alloc (Nat.le_refl _) _).trans (hb1.mono (by simp))
 have HC:Hid (w1.heap[w.heap.size+1]?=some (.cells #[.bool false,.slice none 0 0,.int .i64 0] 47 (0,0))):=box_later HX.out.2.2 HB1.out (by have:=HX.out.2.1;omega)
 obtain⟨⟨x1,x2,x3⟩,x4,x5,x6⟩:=box_cells HC.out
 clear k1 hb1
 go_wp2
 refine bodyPost_ret (results_cell_row rfl _ _ (w.heap.size+1) 47 #[.bool false,.slice none 0 0,.int .i64 0] (0,0) _ rfl (store3 _ _ _ HC.out) Tryz.underlying47 rfl Tryz.info47) rfl ?_
 obtain⟨q1,q2,-⟩:=HX.out
 exact⟨rfl,below_store3 (q1.trans (HB1.out.mono q1.size)) (by omega) _ _ _⟩
theorem negw_1 (na:Bool) (ua:Option Addr) (un uc x:Nat) (ea:Int) (nn:Bool) (w:World)
  (k43:∀ W g,Bw w W→W.heap[g]?=some (.cells #[.bool na,.slice ua un uc,.int .i64 ea] 47 (0,0))→Calls Tryz.prog 76 #[.slice (some ⟨g,0,none⟩) 1 1] W fun r w'=>r=.returned (.bool true)∧Bw W w')
  (kN:∀ W,Bw w W→Calls Tryz.prog 77 #[.agg #[.bool na,.slice ua un uc,.int .i64 ea]] W fun r w'=>∃ v,r=.returned (.agg #[.bool nn,v,.int .i64 ea])∧Own w' W.heap.size v x∧Bw W w') :
  Calls Tryz.prog 50 #[.agg #[.bool na,.slice ua un uc,.int .i64 ea]] w fun r w'=>∃ v,r=.returned (.agg #[.bool nn,v,.int .i64 ea])∧Own w' w.heap.size v x∧Bw w w':=by
 obtain⟨W,hW⟩:∃ W,W=(w.alloc (.cells #[.bool na,.slice ua un uc,.int .i64 ea] 47)).alloc (.cells #[.bool false,.slice none 0 0,.int .i64 0] 47):=⟨_,rfl⟩
 have hBW:Bw w W:=by rw[hW];exact((Below.refl _ _).alloc (Nat.le_refl _) _).alloc (by simp) _
 have hbA:W.heap[w.heap.size]?=some (.cells #[.bool na,.slice ua un uc,.int .i64 ea] 47 (0,0)):=by
  rw[hW,Below.heap_alloc _ _ _ (by simp)];exact heap_alloc_new _ _
 have hbB:W.heap[w.heap.size+1]?=some (.cells #[.bool false,.slice none 0 0,.int .i64 0] 47 (0,0)):=by
  have:=heap_alloc_new (w.alloc (.cells #[.bool na,.slice ua un uc,.int .i64 ea] 47)) (.cells #[.bool false,.slice none 0 0,.int .i64 0] 47)
  rw[hW];simpa using this
 have hsz:W.heap.size=w.heap.size+1+1:=by rw[hW];simp
 have k1:=k43 (W.alloc (.cells #[.bool na,.slice ua un uc,.int .i64 ea] 47)) (w.heap.size+1+1) (hBW.alloc hBW.size _) (by rw[←hsz];exact heap_alloc_new _ _)
 have HX:Hid (Bw w W∧W.heap.size=w.heap.size+1+1∧W.heap[w.heap.size]?=some (.cells #[.bool na,.slice ua un uc,.int .i64 ea] 47 (0,0))∧W.heap[w.heap.size+1]?=some (.cells #[.bool false,.slice none 0 0,.int .i64 0] 47 (0,0))):=⟨hBW,hsz,hbA,hbB⟩
 have HKN:Hid _:=kN
 clear hBW hsz hbA hbB k43 kN
 go_enter Tryz.func50,Tryz.ntmps50
 go_wp2_with fail
 rw[←hW]
 clear hW
 refine k1.mono ?_
 rintro r w1 ⟨rfl,hb1⟩
 have HB1:Hid (Bw W w1):=((Below.refl W.heap.size W).alloc (Nat.le_refl _) _).trans (hb1.mono (by simp))
 have HW1:Hid (Bw w w1):=HX.out.1.trans (HB1.out.mono HX.out.1.size)
 obtain⟨⟨a0,a1,a2⟩,-⟩:=box_cells (box_later HX.out.2.2.1 HB1.out (by have:=HX.out.2.1;omega))
 have k2:=HKN.out w1 HW1.out
 clear k1 hb1
 go_wp2_with fail
 refine k2.mono ?_
 rintro r w2 ⟨v,rfl,ho,hb2⟩
 obtain⟨ao,cap,rfl,-,-,-⟩:=ho.is
 generalize dlen x=n2 at *
 have HC:Hid (w2.heap[w.heap.size+1]?=some (.cells #[.bool false,.slice none 0 0,.int .i64 0] 47 (0,0))):=box_later HX.out.2.2.2 (HB1.out.trans (hb2.mono HB1.out.size)) (by have:=HX.out.2.1;omega)
 have HF:Hid (Own w2 w1.heap.size (.slice ao n2 cap) x∧Bw w w2∧w.heap.size+1<w1.heap.size):=⟨ho,HW1.out.trans (hb2.mono HW1.out.size),by have:=HB1.out.size;have:=HX.out.2.1;omega⟩
 obtain⟨⟨x1,x2,x3⟩,x4,x5,x6⟩:=box_cells HC.out
 clear k2 ho hb2 a0 a1 a2
 go_wp2
 refine bodyPost_ret (results_cell_row rfl _ _ (w.heap.size+1) 47 #[.bool nn,.slice ao n2 cap,.int .i64 ea] (0,0) _ rfl (store3 _ _ _ HC.out) Tryz.underlying47 rfl Tryz.info47) rfl ?_
 exact⟨_,rfl,(own_store3 HF.out.1 HF.out.2.2 _ _ _).mono (by have:=HF.out.2.2;omega),below_store3 HF.out.2.1 (by omega) _ _ _⟩
theorem negw_ok {na:Bool} {ua:Option Addr} {uc x:Nat} {ea:Int} {w:World} (h1:Is w (.slice ua (dlen x) uc) x) (hx:dlen x≤1000000) (hoka:okN na (dlen x) x ea=true) :
  Calls Tryz.prog 50 #[.agg #[.bool na,.slice ua (dlen x) uc,.int .i64 ea]] w fun r w'=>∃ v,r=.returned (.agg #[.bool (!na&&decide (0<dlen x)),v,.int .i64 ea])∧Own w' w.heap.size v x∧Bw w w' :=
 negw_1 na ua _ uc x ea _ w (fun W g hW hg=>by
  have:=maybe1 hg (h1.later hW) (by omega)
  rw[hoka] at this
  exact this) (fun W hW=>neg_ok (h1.later hW) (by omega))
theorem sub_no (na nb:Bool) (ua va:Option Addr) (un uc vn vc:Nat) (ea eb:Int) (w:World)
  (k67:∀ W g,Bw w W→W.heap[g]?=some (.cells #[.bool na,.slice ua un uc,.int .i64 ea,.bool nb,.slice va vn vc,.int .i64 eb] 47 (0,0))→Calls Tryz.prog 76 #[.slice (some ⟨g,0,none⟩) 2 2] W fun r w'=>r=.returned (.bool false)∧Bw W w') :
  Calls Tryz.prog 116 #[NumV na (.slice ua un uc) ea,NumV nb (.slice va vn vc) eb] w fun r w'=>r=.returned (.tuple #[Nil,.int .i64 1])∧Bw w w':=by
 obtain⟨W,hW⟩:∃ W,W=((w.alloc (.cells #[.bool na,.slice ua un uc,.int .i64 ea] 47)).alloc (.cells #[.bool nb,.slice va vn vc,.int .i64 eb] 47)).alloc (.cells #[.bool false,.slice none 0 0,.int .i64 0] 47):=⟨_,rfl⟩
 obtain⟨hA,hBb,hC,hsz,hBW⟩:=boxes3 _ _ _ hW
 have hB4:Below w.heap.size w (W.alloc (.cells #[.bool na,.slice ua un uc,.int .i64 ea,.bool nb,.slice va vn vc,.int .i64 eb] 47)):=hBW.alloc hBW.size _
 have k1:=k67 (W.alloc (.cells #[.bool na,.slice ua un uc,.int .i64 ea,.bool nb,.slice va vn vc,.int .i64 eb] 47)) (w.heap.size+1+1+1) hB4 (by rw[←hsz];exact heap_alloc_new _ _)
 have HH:Hid (W.heap[w.heap.size+1+1]?=some (.cells #[.bool false,.slice none 0 0,.int .i64 0] 47 (0,0))∧W.heap.size=w.heap.size+1+1+1∧Bw w W∧Below W.heap.size W (W.alloc (.cells #[.bool na,.slice ua un uc,.int .i64 ea,.bool nb,.slice va vn vc,.int .i64 eb] 47))):=⟨hC,hsz,hBW,(Below.refl _ _).alloc (Nat.le_refl _) _⟩
 unfold NumV
 clear hA hBb hC hsz hBW hB4 k67
 go_enter Tryz.func116,Tryz.ntmps116
 go_wp2_with fail
 rw[←hW]
 clear hW
 refine k1.mono ?_
 rintro r w1 ⟨rfl,hB1⟩
 clear k1
 have hBW1:Bw W w1:=HH.out.2.2.2.trans (hB1.mono HH.out.2.2.2.size)
 have HC3:Hid (w1.heap[w.heap.size+1+1]?=some (.cells #[.bool false,.slice none 0 0,.int .i64 0] 47 (0,0))):=box_later HH.out.1 hBW1 (by have:=HH.out.2.1;omega)
 have HB1:Hid (Bw W w1):=hBW1
 obtain⟨⟨x1,x2,x3⟩,x4,x5,x6⟩:=box_cells HC3.out
 clear hB1 hBW1
 go_wp2
 refine bodyPost_ret (results_cell_tmp_row rfl _ _ (w.heap.size+1+1) 47 #[.bool false,.slice none 0 0,.int .i64 0] (0,0) _ rfl (store3 _ _ _ HC3.out) Tryz.underlying47 rfl Tryz.info47) rfl ?_
 obtain⟨b1,b2,b3,b4⟩:=HH.out
 exact⟨rfl,below_store3 (b3.trans (HB1.out.mono b3.size)) (by omega) _ _ _⟩
theorem shift_0 (na:Bool) (ua:Option Addr) (un uc:Nat) (ea k0:Int) (w:World) (k43:∀ W g,Bw w W→W.heap[g]?=some (.cells #[.bool na,.slice ua un uc,.int .i64 ea] 47 (0,0))→Calls Tryz.prog 76 #[.slice (some ⟨g,0,none⟩) 1 1] W fun r w'=>r=.returned (.bool false)∧Bw W w') :
  Calls Tryz.prog 71 #[.agg #[.bool na,.slice ua un uc,.int .i64 ea],.int .i64 k0] w fun r w'=>r=.returned (.tuple #[.agg #[.bool false,.slice none 0 0,.int .i64 0],.int .i64 1])∧Bw w w':=by
 obtain⟨W,hW⟩:∃ W,W=(w.alloc (.cells #[.bool na,.slice ua un uc,.int .i64 ea] 47)).alloc (.cells #[.bool false,.slice none 0 0,.int .i64 0] 47):=⟨_,rfl⟩
 have hBW:Bw w W:=by rw[hW];exact((Below.refl _ _).alloc (Nat.le_refl _) _).alloc (by simp) _
 have hbA:W.heap[w.heap.size]?=some (.cells #[.bool na,.slice ua un uc,.int .i64 ea] 47 (0,0)):=by
  rw[hW,Below.heap_alloc _ _ _ (by simp)];exact heap_alloc_new _ _
 have hbB:W.heap[w.heap.size+1]?=some (.cells #[.bool false,.slice none 0 0,.int .i64 0] 47 (0,0)):=by
  have:=heap_alloc_new (w.alloc (.cells #[.bool na,.slice ua un uc,.int .i64 ea] 47)) (.cells #[.bool false,.slice none 0 0,.int .i64 0] 47)
  rw[hW];simpa using this
 have hsz:W.heap.size=w.heap.size+1+1:=by rw[hW];simp
 have k1:=k43 (W.alloc (.cells #[.bool na,.slice ua un uc,.int .i64 ea] 47)) (w.heap.size+1+1) (hBW.alloc hBW.size _) (by rw[←hsz];exact heap_alloc_new _ _)
 have HX:Hid (Bw w W∧W.heap.size=w.heap.size+1+1∧W.heap[w.heap.size]?=some (.cells #[.bool na,.slice ua un uc,.int .i64 ea] 47 (0,0))∧W.heap[w.heap.size+1]?=some (.cells #[.bool false,.slice none 0 0,.int .i64 0] 47 (0,0))):=⟨hBW,hsz,hbA,hbB⟩
 clear hBW hsz hbA hbB k43
 go_enter Tryz.func71,Tryz.ntmps71
 go_wp2_with fail
 rw[←hW]
 clear hW
 refine k1.mono ?_
 rintro r w1 ⟨rfl,hb1⟩
 have HB1:Hid (Bw W w1):=((Below.refl W.heap.size W).alloc (Nat.le_refl _) _).trans (hb1.mono (by simp))
 have H3:Hid (w1.heap[w.heap.size]?=some (.cells #[.bool na,.slice ua un uc,.int .i64 ea] 47 (0,0))∧w1.heap[w.heap.size+1]?=some (.cells #[.bool false,.slice none 0 0,.int .i64 0] 47 (0,0))∧w.heap.size+1+1≤w1.heap.size∧Bw w w1):=⟨box_later HX.out.2.2.1 HB1.out (by have:=HX.out.2.1;omega),box_later HX.out.2.2.2 HB1.out (by have:=HX.out.2.1;omega),by have:=HB1.out.size;have:=HX.out.2.1;omega,HX.out.1.trans (HB1.out.mono HX.out.1.size)⟩
 clear k1 hb1
 obtain⟨⟨a0,a1,a2⟩,-⟩:=box_cells H3.out.1
 obtain⟨⟨x1,x2,x3⟩,x4,x5,x6⟩:=box_cells H3.out.2.1
 go_wp2
 refine bodyPost_ret (results_cell_tmp_row rfl _ _ (w.heap.size+1) 47 #[.bool false,.slice none 0 0,.int .i64 0] (0,0) _ rfl (store3 _ _ _ H3.out.2.1) Tryz.underlying47 rfl Tryz.info47) rfl ?_
 exact⟨rfl,below_store3 H3.out.2.2.2 (by omega) _ _ _⟩
theorem shift_1 (na:Bool) (ua:Option Addr) (uc:Nat) (ea k0:Int) (w:World) (k43:∀ W g,Bw w W→W.heap[g]?=some (.cells #[.bool na,.slice ua 0 uc,.int .i64 ea] 47 (0,0))→Calls Tryz.prog 76 #[.slice (some ⟨g,0,none⟩) 1 1] W fun r w'=>r=.returned (.bool true)∧Bw W w') :
  Calls Tryz.prog 71 #[.agg #[.bool na,.slice ua 0 uc,.int .i64 ea],.int .i64 k0] w fun r w'=>r=.returned (.tuple #[.agg #[.bool false,.slice none 0 0,.int .i64 0],.int .i64 0])∧Bw w w':=by
 obtain⟨W,hW⟩:∃ W,W=(w.alloc (.cells #[.bool na,.slice ua 0 uc,.int .i64 ea] 47)).alloc (.cells #[.bool false,.slice none 0 0,.int .i64 0] 47):=⟨_,rfl⟩
 have hBW:Bw w W:=by rw[hW];exact((Below.refl _ _).alloc (Nat.le_refl _) _).alloc (by simp) _
 have hbA:W.heap[w.heap.size]?=some (.cells #[.bool na,.slice ua 0 uc,.int .i64 ea] 47 (0,0)):=by
  rw[hW,Below.heap_alloc _ _ _ (by simp)];exact heap_alloc_new _ _
 have hbB:W.heap[w.heap.size+1]?=some (.cells #[.bool false,.slice none 0 0,.int .i64 0] 47 (0,0)):=by
  have:=heap_alloc_new (w.alloc (.cells #[.bool na,.slice ua 0 uc,.int .i64 ea] 47)) (.cells #[.bool false,.slice none 0 0,.int .i64 0] 47)
  rw[hW];simpa using this
 have hsz:W.heap.size=w.heap.size+1+1:=by rw[hW];simp
 have k1:=k43 (W.alloc (.cells #[.bool na,.slice ua 0 uc,.int .i64 ea] 47)) (w.heap.size+1+1) (hBW.alloc hBW.size _) (by rw[←hsz];exact heap_alloc_new _ _)
 have HX:Hid (Bw w W∧W.heap.size=w.heap.size+1+1∧W.heap[w.heap.size]?=some (.cells #[.bool na,.slice ua 0 uc,.int .i64 ea] 47 (0,0))∧W.heap[w.heap.size+1]?=some (.cells #[.bool false,.slice none 0 0,.int .i64 0] 47 (0,0))):=⟨hBW,hsz,hbA,hbB⟩
 clear hBW hsz hbA hbB k43
 go_enter Tryz.func71,Tryz.ntmps71
 go_wp2_with fail
 rw[←hW]
 clear hW
 refine k1.mono ?_
 rintro r w1 ⟨rfl,hb1⟩
 have HB1:Hid (Bw W w1):=((Below.refl W.heap.size W).alloc (Nat.le_refl _) _).trans (hb1.mono (by simp))
 have H3:Hid (w1.heap[w.heap.size]?=some (.cells #[.bool na,.slice ua 0 uc,.int .i64 ea] 47 (0,0))∧w1.heap[w.heap.size+1]?=some (.cells #[.bool false,.slice none 0 0,.int .i64 0] 47 (0,0))∧w.heap.size+1+1≤w1.heap.size∧Bw w w1):=⟨box_later HX.out.2.2.1 HB1.out (by have:=HX.out.2.1;omega),box_later HX.out.2.2.2 HB1.out (by have:=HX.out.2.1;omega),by have:=HB1.out.size;have:=HX.out.2.1;omega,HX.out.1.trans (HB1.out.mono HX.out.1.size)⟩
 clear k1 hb1
 obtain⟨⟨a0,a1,a2⟩,-⟩:=box_cells H3.out.1
 obtain⟨⟨x1,x2,x3⟩,x4,x5,x6⟩:=box_cells H3.out.2.1
 go_wp2
 refine bodyPost_ret (results_cell_tmp_row rfl _ _ (w.heap.size+1) 47 #[.bool false,.slice none 0 0,.int .i64 0] (0,0) _ rfl (store3 _ _ _ H3.out.2.1) Tryz.underlying47 rfl Tryz.info47) rfl ?_
 exact⟨rfl,below_store3 H3.out.2.2.2 (by omega) _ _ _⟩
theorem shift_2 (na:Bool) (ua:Option Addr) (un uc:Nat) (ea k0:Int) (w:World) (hn:un≤35184372088832) (hn0:((un:Int)==0)=false) (he1 : -65536≤ea) (he2:ea≤65536) (hk:k0 < -65536 - ea∨65536 - ea<k0) (k43:∀ W g,Bw w W→W.heap[g]?=some (.cells #[.bool na,.slice ua un uc,.int .i64 ea] 47 (0,0))→Calls Tryz.prog 76 #[.slice (some ⟨g,0,none⟩) 1 1] W fun r w'=>r=.returned (.bool true)∧Bw W w') :
  Calls Tryz.prog 71 #[.agg #[.bool na,.slice ua un uc,.int .i64 ea],.int .i64 k0] w fun r w'=>r=.returned (.tuple #[.agg #[.bool false,.slice none 0 0,.int .i64 0],.int .i64 2])∧Bw w w':=by
 obtain⟨W,hW⟩:∃ W,W=(w.alloc (.cells #[.bool na,.slice ua un uc,.int .i64 ea] 47)).alloc (.cells #[.bool false,.slice none 0 0,.int .i64 0] 47):=⟨_,rfl⟩
 have hBW:Bw w W:=by rw[hW];exact((Below.refl _ _).alloc (Nat.le_refl _) _).alloc (by simp) _
 have hbA:W.heap[w.heap.size]?=some (.cells #[.bool na,.slice ua un uc,.int .i64 ea] 47 (0,0)):=by
  rw[hW,Below.heap_alloc _ _ _ (by simp)];exact heap_alloc_new _ _
 have hbB:W.heap[w.heap.size+1]?=some (.cells #[.bool false,.slice none 0 0,.int .i64 0] 47 (0,0)):=by
  have:=heap_alloc_new (w.alloc (.cells #[.bool na,.slice ua un uc,.int .i64 ea] 47)) (.cells #[.bool false,.slice none 0 0,.int .i64 0] 47)
  rw[hW];simpa using this
 have hsz:W.heap.size=w.heap.size+1+1:=by rw[hW];simp
 have k1:=k43 (W.alloc (.cells #[.bool na,.slice ua un uc,.int .i64 ea] 47)) (w.heap.size+1+1) (hBW.alloc hBW.size _) (by rw[←hsz];exact heap_alloc_new _ _)
 have HX:Hid (Bw w W∧W.heap.size=w.heap.size+1+1∧W.heap[w.heap.size]?=some (.cells #[.bool na,.slice ua un uc,.int .i64 ea] 47 (0,0))∧W.heap[w.heap.size+1]?=some (.cells #[.bool false,.slice none 0 0,.int .i64 0] 47 (0,0))):=⟨hBW,hsz,hbA,hbB⟩
 clear hBW hsz hbA hbB k43
 go_enter Tryz.func71,Tryz.ntmps71
 go_wp2_with fail
 rw[←hW]
 clear hW
 refine k1.mono ?_
 rintro r w1 ⟨rfl,hb1⟩
 have HB1:Hid (Bw W w1):=((Below.refl W.heap.size W).alloc (Nat.le_refl _) _).trans (hb1.mono (by simp))
 have H3:Hid (w1.heap[w.heap.size]?=some (.cells #[.bool na,.slice ua un uc,.int .i64 ea] 47 (0,0))∧w1.heap[w.heap.size+1]?=some (.cells #[.bool false,.slice none 0 0,.int .i64 0] 47 (0,0))∧w.heap.size+1+1≤w1.heap.size∧Bw w w1):=⟨box_later HX.out.2.2.1 HB1.out (by have:=HX.out.2.1;omega),box_later HX.out.2.2.2 HB1.out (by have:=HX.out.2.1;omega),by have:=HB1.out.size;have:=HX.out.2.1;omega,HX.out.1.trans (HB1.out.mono HX.out.1.size)⟩
 clear k1 hb1
 obtain⟨⟨a0,a1,a2⟩,-⟩:=box_cells H3.out.1
 obtain⟨⟨x1,x2,x3⟩,x4,x5,x6⟩:=box_cells H3.out.2.1
 by_cases hk1:k0 < -65536 - ea
 ·clear hk
  go_wp2
  refine bodyPost_ret (results_cell_tmp_row rfl _ _ (w.heap.size+1) 47 #[.bool false,.slice none 0 0,.int .i64 0] (0,0) _ rfl (store3 _ _ _ H3.out.2.1) Tryz.underlying47 rfl Tryz.info47) rfl ?_
  exact⟨rfl,below_store3 H3.out.2.2.2 (by omega) _ _ _⟩
 ·have hk2:65536 - ea<k0:=by omega
  clear hk
  go_wp2
  refine bodyPost_ret (results_cell_tmp_row rfl _ _ (w.heap.size+1) 47 #[.bool false,.slice none 0 0,.int .i64 0] (0,0) _ rfl (store3 _ _ _ H3.out.2.1) Tryz.underlying47 rfl Tryz.info47) rfl ?_
  exact⟨rfl,below_store3 H3.out.2.2.2 (by omega) _ _ _⟩
theorem shift_3 (na:Bool) (ua:Option Addr) (un uc:Nat) (ea k0:Int) (w:World) (x:Nat) (h1:Is w (.slice ua un uc) x) (hx:dlen x≤1000000) (hn:un≤35184372088832) (hn0:((un:Int)==0)=false) (he1 : -65536≤ea) (he2:ea≤65536) (hk1:¬ k0 < -65536 - ea) (hk2:¬ 65536 - ea<k0) (k43:∀ W g,Bw w W→W.heap[g]?=some (.cells #[.bool na,.slice ua un uc,.int .i64 ea] 47 (0,0))→Calls Tryz.prog 76 #[.slice (some ⟨g,0,none⟩) 1 1] W fun r w'=>r=.returned (.bool true)∧Bw W w') :
  Calls Tryz.prog 71 #[.agg #[.bool na,.slice ua un uc,.int .i64 ea],.int .i64 k0] w fun r w'=>∃ v,r=.returned (.tuple #[.agg #[.bool na,v,.int .i64 (ea+k0)],.int .i64 0])∧Own w' w.heap.size v x∧Bw w w':=by
 obtain⟨W,hW⟩:∃ W,W=(w.alloc (.cells #[.bool na,.slice ua un uc,.int .i64 ea] 47)).alloc (.cells #[.bool false,.slice none 0 0,.int .i64 0] 47):=⟨_,rfl⟩
 have hBW:Bw w W:=by rw[hW];exact((Below.refl _ _).alloc (Nat.le_refl _) _).alloc (by simp) _
 have hbA:W.heap[w.heap.size]?=some (.cells #[.bool na,.slice ua un uc,.int .i64 ea] 47 (0,0)):=by
  rw[hW,Below.heap_alloc _ _ _ (by simp)];exact heap_alloc_new _ _
 have hbB:W.heap[w.heap.size+1]?=some (.cells #[.bool false,.slice none 0 0,.int .i64 0] 47 (0,0)):=by
  have:=heap_alloc_new (w.alloc (.cells #[.bool na,.slice ua un uc,.int .i64 ea] 47)) (.cells #[.bool false,.slice none 0 0,.int .i64 0] 47)
  rw[hW];simpa using this
 have hsz:W.heap.size=w.heap.size+1+1:=by rw[hW];simp
 have k1:=k43 (W.alloc (.cells #[.bool na,.slice ua un uc,.int .i64 ea] 47)) (w.heap.size+1+1) (hBW.alloc hBW.size _) (by rw[←hsz];exact heap_alloc_new _ _)
 have HX:Hid (Bw w W∧W.heap.size=w.heap.size+1+1∧W.heap[w.heap.size]?=some (.cells #[.bool na,.slice ua un uc,.int .i64 ea] 47 (0,0))∧W.heap[w.heap.size+1]?=some (.cells #[.bool false,.slice none 0 0,.int .i64 0] 47 (0,0))):=⟨hBW,hsz,hbA,hbB⟩
 have HI:Hid (Is w (.slice ua un uc) x∧dlen x≤1000000):=⟨h1,hx⟩
 clear h1 hx
 clear hBW hsz hbA hbB k43
 go_enter Tryz.func71,Tryz.ntmps71
 go_wp2_with fail
 rw[←hW]
 clear hW
 refine k1.mono ?_
 rintro r w1 ⟨rfl,hb1⟩
 have HB1:Hid (Bw W w1):=((Below.refl W.heap.size W).alloc (Nat.le_refl _) _).trans (hb1.mono (by simp))
 have H3:Hid (w1.heap[w.heap.size]?=some (.cells #[.bool na,.slice ua un uc,.int .i64 ea] 47 (0,0))∧w1.heap[w.heap.size+1]?=some (.cells #[.bool false,.slice none 0 0,.int .i64 0] 47 (0,0))∧w.heap.size+1+1≤w1.heap.size∧Bw w w1):=⟨box_later HX.out.2.2.1 HB1.out (by have:=HX.out.2.1;omega),box_later HX.out.2.2.2 HB1.out (by have:=HX.out.2.1;omega),by have:=HB1.out.size;have:=HX.out.2.1;omega,HX.out.1.trans (HB1.out.mono HX.out.1.size)⟩
 clear k1 hb1
 obtain⟨⟨a0,a1,a2⟩,-⟩:=box_cells H3.out.1
 obtain⟨⟨x1,x2,x3⟩,x4,x5,x6⟩:=box_cells H3.out.2.1
 have HK:Hid (∀ w',Below (w.heap.size+1) w1 w'→(w'.cell? ⟨w.heap.size,0,none⟩=some (.bool na)∧w'.cell? ⟨w.heap.size,1,none⟩=some (.slice ua un uc)∧w'.cell? ⟨w.heap.size,2,none⟩=some (.int .i64 ea))):=fun w' hb=>(box_cells (box_later H3.out.1 hb (by omega))).1
 have kC:∀ w4,Bw w1 w4→Calls Tryz.prog 102 #[.slice ua un uc] w4 fun r w'=>∃ ao n cap,r=.returned (.slice ao n cap)∧Own w' w1.heap.size (.slice ao n cap) x∧Bw w1 w':=fun w4 hb =>
  (clone_ok ((HI.out.1.later H3.out.2.2.2).later hb) (by have:=HI.out.2;omega)).mono fun r w' ⟨v,e1,o1,o2⟩=>by
   obtain⟨ao,cap,rfl,-,-,-⟩:=o1.is
   exact⟨_,_,_,e1,o1.mono hb.size,hb.trans (o2.mono hb.size)⟩
 have hBR:Bw w1 w1.drew:=(Below.refl _ _).drew
 have hBR1:Below (w.heap.size+1) w1 w1.drew:=(Below.refl _ _).drew
 have H1:Hid (w.heap.size+1≤w1.heap.size):=(by have:=H3.out.2.2.1;omega:w.heap.size+1≤w1.heap.size)
 have HZ:Hid (IntKind.i64.wrap (ea+k0)=ea+k0):=(by rw[IntKind.wrap_i64];omega:IntKind.i64.wrap (ea+k0)=ea+k0)
 go_upto_region 8 with fail
 clear x1 x2 x3 x4 x5 x6
 go_region_held3 (fun w'=>w'.cell? ⟨w.heap.size,0,none⟩=some (.bool na)∧w'.cell? ⟨w.heap.size,1,none⟩=some (.slice ua un uc)∧w'.cell? ⟨w.heap.size,2,none⟩=some (.int .i64 ea)) (first|(with_reducible assumption)|exact HK.out _ hBR1|(refine HK.out _ (Below.mono ?_ H1.out);with_reducible assumption)|(refine HK.out _ (below_store3 (Below.mono hb5 H1.out) (Nat.le_refl _) _ _ _))|go_keep)
  (first|(go_at_call 102;refine(kC _ (by first|(with_reducible assumption)|exact hBR)).mono ?_;rintro r w5 ⟨ao5,n5,cap5,rfl,ho5,hb5⟩;have hblk5:=box_later H3.out.2.1 hb5 (by have:=H3.out.2.2.1;omega);obtain⟨⟨x1,x2,x3⟩,x4,x5,x6⟩:=box_cells hblk5))
 all_goals (have HF:Hid (Bw w1 w5∧Own w5 w1.heap.size (.slice ao5 n5 cap5) x∧w5.heap[w.heap.size+1]?=some (.cells #[.bool false,.slice none 0 0,.int .i64 0] 47 (0,0))):=⟨hb5,ho5,hblk5⟩;clear ho5 hb5 hblk5 x1 x2 x3 x4 x5 x6 kC HK hBR hBR1 a0 a1 a2;(try rw[HZ.out]);go_wp2;refine bodyPost_ret (results_cell_tmp_row rfl _ _ (w.heap.size+1) 47 #[.bool na,.slice ao5 n5 cap5,.int .i64 (ea+k0)] (0,0) _ rfl (store3 _ _ _ HF.out.2.2) Tryz.underlying47 rfl Tryz.info47) rfl ?_;exact⟨_,rfl,(own_store3 HF.out.2.1 (by have:=H3.out.2.2.1;omega) _ _ _).mono (by have:=H3.out.2.2.1;omega),below_store3 (H3.out.2.2.2.trans (HF.out.1.mono H3.out.2.2.2.size)) (by omega) _ _ _⟩)
theorem rsgn {na:Bool} {ua:Option Addr} {un uc:Nat} {ea:Int} {w:World} (hn:un≤35184372088832) :
  Calls Tryz.prog 31 #[.agg #[.bool na,.slice ua un uc,.int .i64 ea]] w fun r w'=>r=.returned (.int .i64 (if un=0 then 0 else if na then -1 else 1))∧Bw w w':=by
 obtain⟨W,hW⟩:∃ W,W=w.alloc (.cells #[.bool na,.slice ua un uc,.int .i64 ea] 30):=⟨_,rfl⟩
 have HB:Hid (Bw w W):=(by rw[hW];exact(Below.refl _ _).alloc (Nat.le_refl _) _:Bw w W)
 by_cases h0:un=0
 ·subst h0
  rw[if_pos rfl]
  go_enter Tryz.func31,Tryz.ntmps31
  go_wp2
  go_ret
  exact⟨rfl,hW ▸ HB.out⟩
 ·have hn0:((un:Int)==0)=false:=by simp;omega
  rw[if_neg h0]
  clear h0
  cases na
  ·go_enter Tryz.func31,Tryz.ntmps31
   go_wp2
   go_ret
   exact⟨rfl,hW ▸ HB.out⟩
  ·go_enter Tryz.func31,Tryz.ntmps31
   go_wp2
   go_ret
   exact⟨rfl,hW ▸ HB.out⟩
end Go.Proofs.YtgdhdailchonmabGreatDoor
namespace Go.Proofs.YtgdhdailchonmabGreatDoor
open Go.RowKit Go.Fl64
end Go.Proofs.YtgdhdailchonmabGreatDoor
namespace Go.Proofs.YtgdhdailchonmabGreatDoor
open Go.RowKit
theorem c29_1 (ua:Option Addr) (un uc Q:Nat) (ea place:Int) (bb:Bool) (w:World) (hT:Tab32 w) (hQ:dlen Q≤900000) (hp : -65536≤place∧place≤65536)
  (k43:∀ W g,Bw w W→W.heap[g]?=some (.cells #[.bool false,.slice ua un uc,.int .i64 ea] 47 (0,0))→Calls Tryz.prog 76 #[.slice (some ⟨g,0,none⟩) 1 1] W fun r w'=>r=.returned (.bool true)∧Bw W w')
  (kR:∀ W,Bw w W→Calls Tryz.prog 97 #[.agg #[.bool false,.slice ua un uc,.int .i64 ea],.int .i64 place] W fun r w'=>∃ v m,r=.returned (.tuple #[v,.bool (bb&&decide (m*m=Q))])∧Own w' W.heap.size v m∧m*m≤Q∧Q<(m+1)*(m+1)∧Bw W w') :
  Calls Tryz.prog 68 #[.agg #[.bool false,.slice ua un uc,.int .i64 ea],.int .i64 place] w fun r w'=>∃ m,(m*m≤Q∧Q<(m+1)*(m+1))∧Held3 w false m (-place) (bb&&decide (m*m=Q)) r w':=by
 obtain⟨W,hW⟩:∃ W,W=(w.alloc (.cells #[.bool false,.slice ua un uc,.int .i64 ea] 47)).alloc (.cells #[.bool false,.slice none 0 0,.int .i64 0] 47):=⟨_,rfl⟩
 have hBW:Bw w W:=by rw[hW];exact((Below.refl _ _).alloc (Nat.le_refl _) _).alloc (by simp) _
 have hbA:W.heap[w.heap.size]?=some (.cells #[.bool false,.slice ua un uc,.int .i64 ea] 47 (0,0)):=by
  rw[hW,Below.heap_alloc _ _ _ (by simp)];exact heap_alloc_new _ _
 have hbB:W.heap[w.heap.size+1]?=some (.cells #[.bool false,.slice none 0 0,.int .i64 0] 47 (0,0)):=by
  have:=heap_alloc_new (w.alloc (.cells #[.bool false,.slice ua un uc,.int .i64 ea] 47)) (.cells #[.bool false,.slice none 0 0,.int .i64 0] 47)
  rw[hW];simpa using this
 have hsz:W.heap.size=w.heap.size+1+1:=by rw[hW];simp
 have k1:=k43 (W.alloc (.cells #[.bool false,.slice ua un uc,.int .i64 ea] 47)) (w.heap.size+1+1) (hBW.alloc hBW.size _) (by rw[←hsz];exact heap_alloc_new _ _)
 have HX:Hid (Bw w W∧W.heap.size=w.heap.size+1+1∧W.heap[w.heap.size]?=some (.cells #[.bool false,.slice ua un uc,.int .i64 ea] 47 (0,0))∧W.heap[w.heap.size+1]?=some (.cells #[.bool false,.slice none 0 0,.int .i64 0] 47 (0,0))):=⟨hBW,hsz,hbA,hbB⟩
 have HKR:Hid _:=kR
 have HT:Hid (Tab32 w∧dlen Q≤900000 ∧ -65536≤place∧place≤65536):=⟨hT,hQ,hp⟩
 have k94:=c94 place
 clear hBW hsz hbA hbB k43 kR hT hQ
 go_enter Tryz.func68,Tryz.ntmps68
 go_wp2_with fail
 rw[←hW]
 clear hW
 refine k1.mono ?_
 rintro r w1 ⟨rfl,hb1⟩
 have HB1:Hid (Bw W w1):=((Below.refl W.heap.size W).alloc (Nat.le_refl _) _).trans (hb1.mono (by simp))
 have HW1:Hid (Bw w w1):=HX.out.1.trans (HB1.out.mono HX.out.1.size)
 obtain⟨⟨a0,a1,a2⟩,-⟩:=box_cells (box_later HX.out.2.2.1 HB1.out (by have:=HX.out.2.1;omega))
 clear k1 hb1
 go_wp2_with fail
 refine(k94 w1 hp).mono ?_
 rintro r w1' ⟨rfl,hw⟩
 replace hw:=hw.symm
 subst hw
 clear k94
 have k2:=HKR.out w1 HW1.out
 go_wp2_with fail
 refine k2.mono ?_
 rintro r w2 ⟨v,m,rfl,ho,hm1,hm2,hb2⟩
 have HB2:Hid (Bw W w2):=HB1.out.trans (hb2.mono HB1.out.size)
 have HW2:Hid (Bw w w2∧m*m≤Q∧Q<(m+1)*(m+1)∧Own w2 w1.heap.size v m):=⟨HW1.out.trans (hb2.mono HW1.out.size),hm1,hm2,ho⟩
 have hml:dlen m≤900000:=by
  have:m≤Q:=Nat.le_trans (Nat.le_mul_self m) hm1
  exact Nat.le_trans (dlen_mono this) HT.out.2.1
 obtain⟨b',hb'⟩:∃ b',b'=(bb&&decide (m*m=Q)):=⟨_,rfl⟩
 have k96:=c96 (neg:=false) (exact:=b') (place:=place) (HT.out.1.later HW2.out.1) ho.is hml (by omega) (by omega)
 rw[←hb']
 have HBB:Hid (b'=(bb&&decide (m*m=Q))):=hb'
 obtain⟨ao,cap,rfl,-,-,-⟩:=ho.is
 generalize dlen m=nm at *
 clear k2 ho hm1 hm2 hb2 a0 a1 a2 hml hb'
 simp only[Bool.false_and,if_false,Bool.false_eq_true] at k96
 go_wp2_with fail
 refine k96.mono ?_
 clear k96
 rintro r w4 ⟨A,rfl,hN,hB4⟩
 have HB4:Hid (Bw W w4):=HB2.out.trans (hB4.mono HB2.out.size)
 have HN4:Hid (Nrm w4 W.heap.size A false m (-place)):=hN.mono HB2.out.size
 have HC4:Hid (w4.heap[w.heap.size+1]?=some (.cells #[.bool false,.slice none 0 0,.int .i64 0] 47 (0,0))):=box_later HX.out.2.2.2 HB4.out (by have:=HX.out.2.1;omega)
 obtain⟨⟨x1,x2,x3⟩,x4,x5,x6⟩:=box_cells HC4.out
 obtain⟨s',ao,n,cap,ex,hsh⟩:=HN4.out.shape
 clear hN hB4
 have HF:Hid (∀ p q r,Nrm (((w4.setCell ⟨w.heap.size+1,0,none⟩ p).setCell ⟨w.heap.size+1,1,none⟩ q).setCell ⟨w.heap.size+1,2,none⟩ r) w.heap.size A false m (-place)∧Below w.heap.size w (((w4.setCell ⟨w.heap.size+1,0,none⟩ p).setCell ⟨w.heap.size+1,1,none⟩ q).setCell ⟨w.heap.size+1,2,none⟩ r)):=fun p q r =>
  ⟨(HN4.out.store (by have:=HX.out.2.1;omega) _ _ _).mono (by have:=HX.out.2.1;omega),below_store3 (HX.out.1.trans (HB4.out.mono HX.out.1.size)) (by omega) _ _ _⟩
 cases hok:okR false m (-place)
 ·have hNil:Nil=.agg #[.bool false,.slice none 0 0,.int .i64 0]:=rfl
  clear hsh
  go_wp2
  refine bodyPost_ret (results_cell_tmp2_row rfl _ _ (w.heap.size+1) 47 #[.bool false,.slice none 0 0,.int .i64 0] (0,0) _ rfl (store3 _ _ _ HC4.out) Tryz.underlying47 rfl Tryz.info47) rfl ?_
  exact⟨m,⟨HW2.out.2.1,HW2.out.2.2.1⟩,A,by rw[hok];simp[hNil],HF.out _ _ _⟩
 ·subst hsh
  go_wp2
  refine bodyPost_ret (results_cell_tmp2_row rfl _ _ (w.heap.size+1) 47 #[.bool s',.slice ao n cap,.int .i64 ex] (0,0) _ rfl (store3 _ _ _ HC4.out) Tryz.underlying47 rfl Tryz.info47) rfl ?_
  exact⟨m,⟨HW2.out.2.1,HW2.out.2.2.1⟩,_,by rw[hok,←HBB.out];simp,HF.out _ _ _⟩
theorem root_ok {ua:Option Addr} {uc x:Nat} {ea place:Int} {w:World} (h1:Is w (.slice ua (dlen x) uc) x) (hT:Tab32 w) (hx:dlen x≤2048) (hoka:okN false (dlen x) x ea=true) (ha : -65536≤ea∧ea≤65536) (hp : -65536≤place∧place≤65536) :
  Calls Tryz.prog 68 #[.agg #[.bool false,.slice ua (dlen x) uc,.int .i64 ea],.int .i64 place] w fun r w'=>∃ m,(m*m≤rtQ x ea place∧rtQ x ea place<(m+1)*(m+1))∧Held3 w false m (-place) (decide (0≤ea+2*place∨x=0)&&decide (m*m=rtQ x ea place)) r w':=by
 have hq:dlen (rtQ x ea place)≤900000:=by
  unfold rtQ
  split
  ·have:=shl_len (x:=x) (k:=(ea+2*place).toNat) rfl;omega
  ·exact Nat.le_trans (dlen_mono (Nat.div_le_self ..)) (by omega)
 refine c29_1 ua _ uc _ ea place _ w hT hq hp (fun W g hW hg=>?_) (fun W hW=>?_)
 ·have:=maybe1 hg (h1.later hW) (by omega)
  rw[hoka] at this
  exact this
 ·exact c102 (neg:=false) (h1.later hW) (by omega) (by omega) (by omega) (by omega)
end Go.Proofs.YtgdhdailchonmabGreatDoor
namespace Go.Proofs.YtgdhdailchonmabGreatDoor
open Go.RowKit Go.Fl64
end Go.Proofs.YtgdhdailchonmabGreatDoor
namespace Go.Proofs.YtgdhdailchonmabGreatDoor
open Go.RowKit
end Go.Proofs.YtgdhdailchonmabGreatDoor
namespace Go.Proofs.YtgdhdailchonmabGreatDoor
end Go.Proofs.YtgdhdailchonmabGreatDoor
namespace Go.Proofs.YtgdhdailchonmabGreatDoor
open Go.RowKit
end Go.Proofs.YtgdhdailchonmabGreatDoor
namespace Go.Proofs.YtgdhdailchonmabGreatDoor
end Go.Proofs.YtgdhdailchonmabGreatDoor
namespace Go.Proofs.YtgdhdailchonmabGreatDoor
open Go.RowKit
theorem cmp_eq {x y:Nat}:(cmpI (x:Int) (y:Int)==0)=decide (x=y):=by
 unfold cmpI
 by_cases h:x=y
 ·subst h;simp
 ·rw[decide_eq_false h]
  by_cases h2:(x:Int)<(y:Int)
  ·rw[if_pos h2];rfl
  ·rw[if_neg h2,if_pos (by omega)];rfl
theorem cn_odd {s:Bool} {x:Nat} {e:Int} (h:x % 2=1):cn s x e=(s,x,e):=by
 unfold cn
 rw[if_neg (by omega),tz_odd h,Nat.pow_zero,Nat.div_one]
 simp
theorem root_ex (a:Nat):∃ s,s*s≤a∧a<(s+1)*(s+1):=by
 induction a with
 | zero=>exact⟨0,by omega,by omega⟩
 | succ n ih =>
  obtain⟨s,h1,h2⟩:=ih
  by_cases h:n+1<(s+1)*(s+1)
  ·exact⟨s,by omega,h⟩
  ·refine⟨s+1,by omega,?_⟩
   have:(s+1+1)*(s+1+1)=(s+1)*(s+1)+2*(s+1)+1:=by grind
   omega
theorem psqrt_e (ua:Option Addr) (un uc x k0 b:Nat) (ea mode h2:Int) (w:World) (hT:Tab32 w) (h1:Is w (.slice ua un uc) x) (hx:dlen x≤3000) (he1 : -65536≤ea) (he2:ea≤65536) (hm:mode=1∨mode=2∨mode=3) (hb:bl x=b) (hb2:b≤96000) (hk0:max 0 (128 - (b:Int))=(k0:Int)) (hk1:k0≤128) (hod:((ea - (k0:Int)).tmod 2 != 0)=false) (hh:(ea - (k0:Int)).tdiv 2=h2) (hh1 : -40000≤h2) (hh2:h2≤40000)
  (k43:∀ W g,Bw w W→W.heap[g]?=some (.cells #[.bool false,.slice ua un uc,.int .i64 ea] 47 (0,0))→Calls Tryz.prog 76 #[.slice (some ⟨g,0,none⟩) 1 1] W fun r w'=>r=.returned (.bool true)∧Bw W w') :
  Calls Tryz.prog 93 #[.agg #[.bool false,.slice ua un uc,.int .i64 ea],.int .i64 mode] w fun r w'=>∃ q,(q*q≤x*2^k0∧x*2^k0<(q+1)*(q+1))∧r=.returned (.tuple #[.float .f64 (tfF false (decide (q*q=x*2^k0)) q h2 mode),.int .i64 0])∧Bw w w':=by
 obtain⟨W,hW⟩:∃ W,W=w.alloc (.cells #[.bool false,.slice ua un uc,.int .i64 ea] 47):=⟨_,rfl⟩
 have hBW:Bw w W:=by rw[hW];exact(Below.refl _ _).alloc (Nat.le_refl _) _
 have hbA:W.heap[w.heap.size]?=some (.cells #[.bool false,.slice ua un uc,.int .i64 ea] 47 (0,0)):=by rw[hW];exact heap_alloc_new _ _
 have hsz:W.heap.size=w.heap.size+1:=by rw[hW];simp
 have k1:=k43 (W.alloc (.cells #[.bool false,.slice ua un uc,.int .i64 ea] 47)) (w.heap.size+1) (hBW.alloc hBW.size _) (by rw[←hsz];exact heap_alloc_new _ _)
 have HX:Hid (Bw w W∧W.heap.size=w.heap.size+1∧W.heap[w.heap.size]?=some (.cells #[.bool false,.slice ua un uc,.int .i64 ea] 47 (0,0))):=⟨hBW,hsz,hbA⟩
 have HT:Hid (Tab32 w∧Is w (.slice ua un uc) x∧dlen x≤3000):=⟨hT,h1,hx⟩
 have k48:=fun W=>c48 mode hm W
 clear hBW hsz hbA k43 hT h1 hx
 go_enter Tryz.func93,Tryz.ntmps93
 go_wp2_with fail
 rw[←hW]
 clear hW
 refine k1.mono ?_
 rintro r w1 ⟨rfl,hb1⟩
 have HB1:Hid (Bw W w1):=((Below.refl W.heap.size W).alloc (Nat.le_refl _) _).trans (hb1.mono (by simp))
 have HW1:Hid (Bw w w1):=HX.out.1.trans (HB1.out.mono HX.out.1.size)
 obtain⟨⟨a0,a1,a2⟩,-⟩:=box_cells (box_later HX.out.2.2 HB1.out (by have:=HX.out.2.1;omega))
 clear k1 hb1
 go_wp2_with fail
 refine(k48 w1).mono ?_
 rintro r w1' ⟨rfl,hw⟩
 replace hw:=hw.symm
 subst hw
 clear k48
 have kl:=c74 (HT.out.2.1.later HW1.out) (by have:=HT.out.2.2;omega)
 rw[hb] at kl
 go_wp2_with fail
 refine kl.mono ?_
 rintro r w1' ⟨rfl,hw⟩
 replace hw:=hw.symm
 subst hw
 clear kl
 have ks:=c109 (HT.out.2.1.later HW1.out) k0 (by have:=HT.out.2.2;omega) (by omega)
 go_wp2_with fail
 refine ks.mono ?_
 rintro r w2 ⟨v2,rfl,ho2,hb2'⟩
 have HB2:Hid (Bw W w2):=HB1.out.trans (hb2'.mono HB1.out.size)
 have hl:dlen (x*2^k0)≤4000:=by have:=shl_len (x:=x) (k:=k0) rfl;have:=HT.out.2.2;omega
 have kr:=c112 ho2.is (by omega)
 clear ks ho2 hb2' a0 a1 a2
 go_wp2_with fail
 refine kr.mono ?_
 rintro r w3 ⟨v3,q,rfl,ho3,hq1,hq2,hb3⟩
 have HB3:Hid (Bw W w3):=HB2.out.trans (hb3.mono HB2.out.size)
 have HQ:Hid (q*q≤x*2^k0∧x*2^k0<(q+1)*(q+1)):=⟨hq1,hq2⟩
 obtain⟨⟨a0,a1,a2⟩,-⟩:=box_cells (box_later HX.out.2.2 HB3.out (by have:=HX.out.2.1;omega))
 obtain⟨bx,hbx⟩:∃ bx:Bool,bx=decide (q*q=x*2^k0):=⟨_,rfl⟩
 have kt:=c110 (neg:=false) (exact:=bx) (e:=h2) (mode:=mode) (HT.out.1.later (HX.out.1.trans (HB3.out.mono HX.out.1.size))) ho3.is (Nat.le_trans (dlen_mono (Nat.le_trans (Nat.le_mul_self q) hq1)) (by omega)) (by omega) (by omega)
 rw[←hbx]
 have HBX:Hid (bx=decide (q*q=x*2^k0)):=hbx
 clear kr ho3 hb3 hq1 hq2 hbx hl
 go_wp2_with fail
 refine kt.mono ?_
 rintro r w4 ⟨rfl,hb4⟩
 have HB4:Hid (Bw W w4):=HB3.out.trans (hb4.mono HB3.out.size)
 clear kt hb4
 go_wp2
 refine bodyPost_ret (results_tmp2 rfl _ _ _) rfl ?_
 exact⟨q,HQ.out,congrArg (fun b=>Ending.returned (Value.tuple #[.float .f64 (tfF false b q h2 mode),.int .i64 0])) HBX.out,HX.out.1.trans (HB4.out.mono HX.out.1.size)⟩
theorem psqrt_o (ua:Option Addr) (un uc x k0 b:Nat) (ea mode h2:Int) (w:World) (hT:Tab32 w) (h1:Is w (.slice ua un uc) x) (hx:dlen x≤3000) (he1 : -65536≤ea) (he2:ea≤65536) (hm:mode=1∨mode=2∨mode=3) (hb:bl x=b) (hb2:b≤96000) (hk0:max 0 (128 - (b:Int))=(k0:Int)) (hk1:k0≤128) (hod:((ea - (k0:Int)).tmod 2 != 0)=true) (hh:(ea - ((k0:Int)+1)).tdiv 2=h2) (hh1 : -40000≤h2) (hh2:h2≤40000)
  (k43:∀ W g,Bw w W→W.heap[g]?=some (.cells #[.bool false,.slice ua un uc,.int .i64 ea] 47 (0,0))→Calls Tryz.prog 76 #[.slice (some ⟨g,0,none⟩) 1 1] W fun r w'=>r=.returned (.bool true)∧Bw W w') :
  Calls Tryz.prog 93 #[.agg #[.bool false,.slice ua un uc,.int .i64 ea],.int .i64 mode] w fun r w'=>∃ q,(q*q≤x*2^(k0+1)∧x*2^(k0+1)<(q+1)*(q+1))∧r=.returned (.tuple #[.float .f64 (tfF false (decide (q*q=x*2^(k0+1))) q h2 mode),.int .i64 0])∧Bw w w':=by
 obtain⟨W,hW⟩:∃ W,W=w.alloc (.cells #[.bool false,.slice ua un uc,.int .i64 ea] 47):=⟨_,rfl⟩
 have hBW:Bw w W:=by rw[hW];exact(Below.refl _ _).alloc (Nat.le_refl _) _
 have hbA:W.heap[w.heap.size]?=some (.cells #[.bool false,.slice ua un uc,.int .i64 ea] 47 (0,0)):=by rw[hW];exact heap_alloc_new _ _
 have hsz:W.heap.size=w.heap.size+1:=by rw[hW];simp
 have k1:=k43 (W.alloc (.cells #[.bool false,.slice ua un uc,.int .i64 ea] 47)) (w.heap.size+1) (hBW.alloc hBW.size _) (by rw[←hsz];exact heap_alloc_new _ _)
 have HX:Hid (Bw w W∧W.heap.size=w.heap.size+1∧W.heap[w.heap.size]?=some (.cells #[.bool false,.slice ua un uc,.int .i64 ea] 47 (0,0))):=⟨hBW,hsz,hbA⟩
 have HT:Hid (Tab32 w∧Is w (.slice ua un uc) x∧dlen x≤3000):=⟨hT,h1,hx⟩
 have k48:=fun W=>c48 mode hm W
 clear hBW hsz hbA k43 hT h1 hx
 go_enter Tryz.func93,Tryz.ntmps93
 go_wp2_with fail
 rw[←hW]
 clear hW
 refine k1.mono ?_
 rintro r w1 ⟨rfl,hb1⟩
 have HB1:Hid (Bw W w1):=((Below.refl W.heap.size W).alloc (Nat.le_refl _) _).trans (hb1.mono (by simp))
 have HW1:Hid (Bw w w1):=HX.out.1.trans (HB1.out.mono HX.out.1.size)
 obtain⟨⟨a0,a1,a2⟩,-⟩:=box_cells (box_later HX.out.2.2 HB1.out (by have:=HX.out.2.1;omega))
 clear k1 hb1
 go_wp2_with fail
 refine(k48 w1).mono ?_
 rintro r w1' ⟨rfl,hw⟩
 replace hw:=hw.symm
 subst hw
 clear k48
 have kl:=c74 (HT.out.2.1.later HW1.out) (by have:=HT.out.2.2;omega)
 rw[hb] at kl
 go_wp2_with fail
 refine kl.mono ?_
 rintro r w1' ⟨rfl,hw⟩
 replace hw:=hw.symm
 subst hw
 clear kl
 have ks:=c109 (HT.out.2.1.later HW1.out) (k0+1) (by have:=HT.out.2.2;omega) (by omega)
 rw[show((k0+1:Nat):Int)=(k0:Int)+1 by omega] at ks
 go_wp2_with fail
 refine ks.mono ?_
 rintro r w2 ⟨v2,rfl,ho2,hb2'⟩
 have HB2:Hid (Bw W w2):=HB1.out.trans (hb2'.mono HB1.out.size)
 have hl:dlen (x*2^(k0+1))≤4000:=by have:=shl_len (x:=x) (k:=(k0+1)) rfl;have:=HT.out.2.2;omega
 have kr:=c112 ho2.is (by omega)
 clear ks ho2 hb2' a0 a1 a2
 go_wp2_with fail
 refine kr.mono ?_
 rintro r w3 ⟨v3,q,rfl,ho3,hq1,hq2,hb3⟩
 have HB3:Hid (Bw W w3):=HB2.out.trans (hb3.mono HB2.out.size)
 have HQ:Hid (q*q≤x*2^(k0+1)∧x*2^(k0+1)<(q+1)*(q+1)):=⟨hq1,hq2⟩
 obtain⟨⟨a0,a1,a2⟩,-⟩:=box_cells (box_later HX.out.2.2 HB3.out (by have:=HX.out.2.1;omega))
 obtain⟨bx,hbx⟩:∃ bx:Bool,bx=decide (q*q=x*2^(k0+1)):=⟨_,rfl⟩
 have kt:=c110 (neg:=false) (exact:=bx) (e:=h2) (mode:=mode) (HT.out.1.later (HX.out.1.trans (HB3.out.mono HX.out.1.size))) ho3.is (Nat.le_trans (dlen_mono (Nat.le_trans (Nat.le_mul_self q) hq1)) (by omega)) (by omega) (by omega)
 rw[←hbx]
 have HBX:Hid (bx=decide (q*q=x*2^(k0+1))):=hbx
 clear kr ho3 hb3 hq1 hq2 hbx hl
 go_wp2_with fail
 refine kt.mono ?_
 rintro r w4 ⟨rfl,hb4⟩
 have HB4:Hid (Bw W w4):=HB3.out.trans (hb4.mono HB3.out.size)
 clear kt hb4
 go_wp2
 refine bodyPost_ret (results_tmp2 rfl _ _ _) rfl ?_
 exact⟨q,HQ.out,congrArg (fun b=>Ending.returned (Value.tuple #[.float .f64 (tfF false b q h2 mode),.int .i64 0])) HBX.out,HX.out.1.trans (HB4.out.mono HX.out.1.size)⟩
end Go.Proofs.YtgdhdailchonmabGreatDoor
