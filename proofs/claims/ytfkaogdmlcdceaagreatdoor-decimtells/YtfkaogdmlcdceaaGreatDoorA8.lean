/- Own work: contracts of the program's functions, part 8: RW1 SA3 RC2 RC3 V1 V2 E2 V3 E3 V4 RC4 W42 W44 RC5 RD1 SA6 L5 G3 W43 L7 L9. -/
import Derived.Test.YtfkaogdmlcdceaaGreatDoorA7
import Derived.Test.YtfkaogdmlcdceaaGreatDoorA4
import Derived.Test.YtfkaogdmlcdceaaGreatDoorA6
import Derived.Test.YtfkaogdmlcdceaaGreatDoorA3
import Derived.Test.YtfkaogdmlcdceaaGreatDoorA5
import Derived.Laws.AppendOwnNone
import Derived.Deep.CutRange

set_option maxHeartbeats 16000000
set_option maxRecDepth 200000
set_option linter.unusedVariables false
set_option linter.unusedSimpArgs false
namespace Go.Proofs.YtfkaogdmlcdceaaGreatDoor
open Go.RowKit
theorem NC.shape {w:World} {base:Nat} {a:Value} {s:Bool} {z:Nat} {e:Int} (h:NC w base a s z e):∃ s ao n cap ex,a=.agg #[.bool s,.slice ao n cap,.int .i64 ex]:=by
 obtain⟨ao,cap,h1,-⟩:=h
 exact⟨_,_,_,_,_,h1⟩
theorem NC.store {w:World} {base g:Nat} {A:Value} {s:Bool} {z:Nat} {e:Int} (h:NC w base A s z e) (hg:g<base) (a b c:Value):NC (((w.setCell ⟨g,0,none⟩ a).setCell ⟨g,1,none⟩ b).setCell ⟨g,2,none⟩ c) base A s z e:=by
 obtain⟨ao,cap,h1,h2,h3⟩:=h
 refine⟨ao,cap,h1,⟨h2.nil,?_,h2.le,h2.small⟩,h3⟩
 obtain⟨bb,oo,hb,hc⟩:=h2.at_
 refine⟨bb,oo,hb,fun i hi=>?_⟩
 have hbb:base≤bb:=h3 _ (hb (by omega)) (by omega)
 rw[World.cell?_setCell_other _ _ _ _ (by intro e;simp at e <;> omega),World.cell?_setCell_other _ _ _ _ (by intro e;simp at e <;> omega),World.cell?_setCell_other _ _ _ _ (by intro e;simp at e <;> omega)]
 exact hc i hi
theorem Dn.nc {w:World} {base:Nat} {ao:Option Addr} {cap z:Nat} {s:Bool} {e:Int} (h:Dn w base (.slice ao (dlen z) cap) (dlen z) z) (hc:cn s z e=(s,z,e)) (hz:dlen z≤35184372088832):NC w base (.agg #[.bool s,.slice ao (dlen z) cap,.int .i64 e]) s z e:=by
 refine⟨ao,cap,by rw[hc],?_,?_⟩
 ·rw[hc]
  rcases h with ⟨h1,h2⟩|⟨g,cap',c,h1,h2,h3,h4,h5,h6⟩
  ·simp only[Value.slice.injEq] at h1
   obtain⟨rfl,-,rfl⟩:=h1
   exact⟨fun _=>.inr ⟨rfl,rfl⟩,⟨0,0,fun h=>by simp only at h;omega,fun i hi=>by simp only at hi;omega⟩,by simp only;omega,hz⟩
  ·simp only[Value.slice.injEq] at h1
   obtain⟨rfl,-,rfl⟩:=h1
   refine⟨fun _=>.inl ⟨_,rfl⟩,⟨g,0,fun _=>rfl,fun i hi=>?_⟩,h3.1,hz⟩
   rw[Nat.zero_add]
   simp[World.cell?,h4,h6 i hi]
 ·rw[hc]
  rcases h with ⟨h1,h2⟩|⟨g,cap',c,h1,h2,h3,h4,h5,h6⟩
  ·intro ad e hl;simp only at hl;omega
  ·simp only[Value.slice.injEq] at h1
   obtain⟨rfl,-,rfl⟩:=h1
   intro ad e _
   injection e with e;rw[←e];exact h2
theorem rplusN_c (na nb:Bool) (ua va:Option Addr) (un uc vn vc X Y:Nat) (ea eb:Int) (w:World) (hne:(na==nb)=true) (hX:dlen (X+Y)≤1000000) (hX1:dlen X≤1000000) (hX2:dlen Y≤1000000) (he1 : -4000000≤ea) (he2:ea≤4000000) (he3 : -4000000≤eb) (he4:eb≤4000000) (hn0:((un:Int)==0)=false) (hn1:((vn:Int)==0)=false)
  (ku:∀ W i,Bw w W→i=ea - min ea eb→Calls Tryz.prog 101 #[.slice ua un uc,.int .i64 i] W fun r w'=>∃ v,r=.returned v∧Ir w' v X∧Bw W w')
  (kv:∀ W i,Bw w W→i=eb - min ea eb→Calls Tryz.prog 101 #[.slice va vn vc,.int .i64 i] W fun r w'=>∃ v,r=.returned v∧Ir w' v Y∧Bw W w') :
  Calls Tryz.prog 83 #[.agg #[.bool na,.slice ua un uc,.int .i64 ea],.agg #[.bool nb,.slice va vn vc,.int .i64 eb]] w fun r w'=>∃ a,r=.returned a∧NC w' w.heap.size a na (X+Y) (min ea eb)∧Bw w w':=by
 obtain⟨W,hW⟩:∃ W,W=((w.alloc (.cells #[.bool na,.slice ua un uc,.int .i64 ea] 54)).alloc (.cells #[.bool nb,.slice va vn vc,.int .i64 eb] 54)).alloc (.cells #[.bool false,.slice none 0 0,.int .i64 0] 54):=⟨_,rfl⟩
 obtain⟨hA,hBb,hC,hsz,hBW⟩:=boxes3 _ _ _ hW
 have k1:=fun i hi=>ku W i hBW hi
 have HKV:Hid _:=kv
 have HH:Hid ((W.heap[w.heap.size]?=some (.cells #[.bool na,.slice ua un uc,.int .i64 ea] 54 (0,0))∧W.heap[w.heap.size+1]?=some (.cells #[.bool nb,.slice va vn vc,.int .i64 eb] 54 (0,0))∧W.heap[w.heap.size+1+1]?=some (.cells #[.bool false,.slice none 0 0,.int .i64 0] 54 (0,0)))∧W.heap.size=w.heap.size+1+1+1∧Bw w W):=⟨⟨hA,hBb,hC⟩,hsz,hBW⟩
 clear hA hBb hC hsz hBW ku kv
 go_enter Tryz.func83,Tryz.ntmps83
 go_wp2_with fail
 rw[←hW]
 clear hW
 refine(k1 _ (by first|rfl|(rw[IntKind.wrap_i64];omega)|omega)).mono ?_
 rintro r w4 ⟨p,rfl,hp,hB4⟩
 clear k1
 obtain⟨⟨a0,a1,a2⟩,-⟩:=box_cells29 (box_later HH.out.1.1 hB4 (by have:=HH.out.2.1;omega))
 obtain⟨⟨b0,b1,b2⟩,-⟩:=box_cells29 (box_later HH.out.1.2.1 hB4 (by have:=HH.out.2.1;omega))
 have HB4:Hid (Bw W w4):=hB4
 have HP4:Hid (Ir w4 p X):=hp
 clear hB4 hp
 go_wp2_with fail
 refine(HKV.out w4 _ (HH.out.2.2.trans (HB4.out.mono HH.out.2.2.size)) (by first|rfl|(rw[IntKind.wrap_i64];omega)|omega)).mono ?_
 rintro r w5 ⟨q,rfl,hq,hB5⟩
 have hB5':Bw W w5:=HB4.out.trans (hB5.mono HB4.out.size)
 have hp:=HP4.out.later hB5
 clear a0 a1 a2 b0 b1 b2 hB5
 obtain⟨⟨h1,h2,h3⟩,hs,hBW⟩:=HH.out
 obtain⟨⟨a0,a1,a2⟩,-⟩:=box_cells29 (box_later h1 hB5' (by omega))
 obtain⟨⟨b0,b1,b2⟩,-⟩:=box_cells29 (box_later h2 hB5' (by omega))
 have HC5:Hid (w5.heap[w.heap.size+1+1]?=some (.cells #[.bool false,.slice none 0 0,.int .i64 0] 54 (0,0))∧Bw W w5):=⟨box_later h3 hB5' (by omega),hB5'⟩
 have hp6:=hp
 have hq6:=hq
 have kS:∀ W6,Bw w5 W6→Calls Tryz.prog 148 #[p,q] W6 fun r w'=>∃ v,r=.returned v∧Ir w' v (X+Y)∧Bw w5 w':=fun W6 hb =>
  (rsum (w:=W6) (hp6.later hb) (hq6.later hb) (by omega) (by omega)).mono fun r w' ⟨v,e1,o1,o2⟩=>⟨v,e1,o1,hb.trans (o2.mono hb.size)⟩
 have hKeep:∀ w',Bw w5 w'→w'.cell? ⟨w.heap.size,0,none⟩=some (.bool na):=fun w' hb=>(hb.cell (World.block_lt_of_cell? _ _ a0)).trans a0
 have HK:Hid (∀ w',Bw w5 w'→w'.cell? ⟨w.heap.size,0,none⟩=some (.bool na)):=hKeep
 have HR5:Hid (∀ dd,Below w5.heap.size w5 (w5.drewN dd).drew):=(fun dd=>⟨rfl,rfl,rfl,Nat.le_refl _,fun _ _=>rfl⟩:∀ dd,Below w5.heap.size w5 (w5.drewN dd).drew)
 have hR5:Bw w5 w5.drew:=(Below.refl _ _).drew
 have k56:∀ v7 w7,Ir w7 v7 (X+Y)→Bw w5 w7→Calls Tryz.prog 103 #[.bool na,v7,.int .i64 (min ea eb)] w7 fun r w'=>∃ s ao n cap ex,r=.returned (.agg #[.bool s,.slice ao n cap,.int .i64 ex]) ∧
   Hid (NC w' w7.heap.size (.agg #[.bool s,.slice ao n cap,.int .i64 ex]) na (X+Y) (min ea eb)∧w5.heap.size≤w7.heap.size)∧Bw w5 w'∧Hid (w'.heap[w.heap.size+1+1]?=some (.cells #[.bool false,.slice none 0 0,.int .i64 0] 54 (0,0))) ∧
   (w'.cell? ⟨w.heap.size+1+1,0,none⟩=some (.bool false)∧w'.cell? ⟨w.heap.size+1+1,1,none⟩=some (.slice none 0 0)∧w'.cell? ⟨w.heap.size+1+1,2,none⟩=some (.int .i64 0))∧(w'.frozen? ⟨w.heap.size+1+1,0,none⟩=false∧w'.frozen? ⟨w.heap.size+1+1,1,none⟩=false∧w'.frozen? ⟨w.heap.size+1+1,2,none⟩=false):=by
  intro v7 w7 ho hb
  obtain⟨ao0,cap0,rfl,hl0,hat0⟩:=ho
  refine(rnorm ⟨ao0,cap0,rfl,hl0,hat0⟩ (by omega) (by omega)).mono ?_
  rintro r w8 ⟨a,rfl,hN,hb8⟩
  obtain⟨s,ao,n,cap,ex,rfl⟩:=hN.shape
  have hb58:Bw w5 w8:=hb.trans (hb8.mono hb.size)
  have hblk:=box_later HC5.out.1 hb58 (by have:=HC5.out.2.size;omega)
  obtain⟨f1,f2⟩:=box_cells29 hblk
  exact⟨s,ao,n,cap,ex,rfl,⟨hN,hb.size⟩,hb58,hblk,f1,f2⟩
 clear h1 h2 h3 hp hq hp6 hq6 hB5' hs hBW hKeep hX hX1 hX2 HR5
 go_wp2
 go_region_held3 (fun w'=>w'.cell? ⟨w.heap.size,0,none⟩=some (.bool na)) (first|(with_reducible assumption)|(refine HK.out _ ?_;with_reducible assumption)|(rw[World.cell?_setCell_other _ _ _ _ (by simp),World.cell?_setCell_other _ _ _ _ (by simp),World.cell?_setCell_other _ _ _ _ (by simp)];refine HK.out _ ?_;with_reducible assumption)|go_keep)
  (first|(go_at_call 148;refine(kS _ (by first|(with_reducible assumption)|exact hR5)).mono ?_;rintro r w7 ⟨v7,rfl,ho7,hb7⟩)|(go_at_call 103;refine(k56 _ _ ho7 hb7).mono ?_;rintro r w8 ⟨s8,ao8,n8,cap8,ex8,rfl,hN8,hb8,hblk8,⟨x1,x2,x3⟩,x4,x5,x6⟩))
 have HF:Hid (Bw w5 w8):=hb8
 clear ho7 hb7 hb8 k56 kS x1 x2 x3 x4 x5 x6 a0 a1 a2 b0 b1 b2 HK
 go_wp2
 refine bodyPost_ret (results_cell_row rfl _ _ (w.heap.size+1+1) 54 #[.bool s8,.slice ao8 n8 cap8,.int .i64 ex8] (0,0) _ rfl (store3_29 _ _ _ hblk8.out) Tryz.underlying54 rfl Tryz.info54) rfl ?_
 obtain⟨-,hs,hBW⟩:=HH.out
 have hs4:=HC5.out.2.size
 have hs5:=hN8.out.2
 exact⟨_,rfl,(hN8.out.1.store (by omega) _ _ _).mono (by omega),below_store3 (hBW.trans ((HC5.out.2.trans (HF.out.mono hs4)).mono hBW.size)) (by omega) _ _ _⟩
theorem rplusN_d (na nb:Bool) (ua va:Option Addr) (un uc vn vc X Y:Nat) (ea eb:Int) (w:World) (hlt:X<Y) (hne:(na==nb)=false) (hX:dlen (Y - X)≤1000000) (hX1:dlen X≤1000000) (hX2:dlen Y≤1000000) (he1 : -4000000≤ea) (he2:ea≤4000000) (he3 : -4000000≤eb) (he4:eb≤4000000) (hn0:((un:Int)==0)=false) (hn1:((vn:Int)==0)=false)
  (ku:∀ W i,Bw w W→i=ea - min ea eb→Calls Tryz.prog 101 #[.slice ua un uc,.int .i64 i] W fun r w'=>∃ v,r=.returned v∧Ir w' v X∧Bw W w')
  (kv:∀ W i,Bw w W→i=eb - min ea eb→Calls Tryz.prog 101 #[.slice va vn vc,.int .i64 i] W fun r w'=>∃ v,r=.returned v∧Ir w' v Y∧Bw W w') :
  Calls Tryz.prog 83 #[.agg #[.bool na,.slice ua un uc,.int .i64 ea],.agg #[.bool nb,.slice va vn vc,.int .i64 eb]] w fun r w'=>∃ a,r=.returned a∧NC w' w.heap.size a nb (Y - X) (min ea eb)∧Bw w w':=by
 obtain⟨W,hW⟩:∃ W,W=((w.alloc (.cells #[.bool na,.slice ua un uc,.int .i64 ea] 54)).alloc (.cells #[.bool nb,.slice va vn vc,.int .i64 eb] 54)).alloc (.cells #[.bool false,.slice none 0 0,.int .i64 0] 54):=⟨_,rfl⟩
 obtain⟨hA,hBb,hC,hsz,hBW⟩:=boxes3 _ _ _ hW
 have k1:=fun i hi=>ku W i hBW hi
 have HKV:Hid _:=kv
 have HH:Hid ((W.heap[w.heap.size]?=some (.cells #[.bool na,.slice ua un uc,.int .i64 ea] 54 (0,0))∧W.heap[w.heap.size+1]?=some (.cells #[.bool nb,.slice va vn vc,.int .i64 eb] 54 (0,0))∧W.heap[w.heap.size+1+1]?=some (.cells #[.bool false,.slice none 0 0,.int .i64 0] 54 (0,0)))∧W.heap.size=w.heap.size+1+1+1∧Bw w W):=⟨⟨hA,hBb,hC⟩,hsz,hBW⟩
 clear hA hBb hC hsz hBW ku kv
 go_enter Tryz.func83,Tryz.ntmps83
 go_wp2_with fail
 rw[←hW]
 clear hW
 refine(k1 _ (by first|rfl|(rw[IntKind.wrap_i64];omega)|omega)).mono ?_
 rintro r w4 ⟨p,rfl,hp,hB4⟩
 clear k1
 obtain⟨⟨a0,a1,a2⟩,-⟩:=box_cells29 (box_later HH.out.1.1 hB4 (by have:=HH.out.2.1;omega))
 obtain⟨⟨b0,b1,b2⟩,-⟩:=box_cells29 (box_later HH.out.1.2.1 hB4 (by have:=HH.out.2.1;omega))
 have HB4:Hid (Bw W w4):=hB4
 have HP4:Hid (Ir w4 p X):=hp
 clear hB4 hp
 go_wp2_with fail
 refine(HKV.out w4 _ (HH.out.2.2.trans (HB4.out.mono HH.out.2.2.size)) (by first|rfl|(rw[IntKind.wrap_i64];omega)|omega)).mono ?_
 rintro r w5 ⟨q,rfl,hq,hB5⟩
 have hB5':Bw W w5:=HB4.out.trans (hB5.mono HB4.out.size)
 have hp:=HP4.out.later hB5
 clear a0 a1 a2 b0 b1 b2 hB5
 obtain⟨⟨h1,h2,h3⟩,hs,hBW⟩:=HH.out
 obtain⟨⟨a0,a1,a2⟩,-⟩:=box_cells29 (box_later h1 hB5' (by omega))
 obtain⟨⟨b0,b1,b2⟩,-⟩:=box_cells29 (box_later h2 hB5' (by omega))
 have HC5:Hid (w5.heap[w.heap.size+1+1]?=some (.cells #[.bool false,.slice none 0 0,.int .i64 0] 54 (0,0))∧Bw W w5):=⟨box_later h3 hB5' (by omega),hB5'⟩
 have hp6:=hp
 have hq6:=hq
 have kS:∀ W6,Bw w5 W6→Calls Tryz.prog 150 #[q,p] W6 fun r w'=>∃ v,r=.returned v∧Ir w' v (Y - X)∧Bw w5 w':=fun W6 hb =>
  (rless (w:=W6) (hq6.later hb) (hp6.later hb) (by omega) (by omega)).mono fun r w' ⟨v,e1,o1,o2⟩=>⟨v,e1,o1,hb.trans (o2.mono hb.size)⟩
 have hKeep:∀ w',Bw w5 w'→w'.cell? ⟨w.heap.size+1,0,none⟩=some (.bool nb):=fun w' hb=>(hb.cell (World.block_lt_of_cell? _ _ b0)).trans b0
 have HK:Hid (∀ w',Bw w5 w'→w'.cell? ⟨w.heap.size+1,0,none⟩=some (.bool nb)):=hKeep
 have HR5:Hid (∀ dd,Below w5.heap.size w5 (w5.drewN dd).drew):=(fun dd=>⟨rfl,rfl,rfl,Nat.le_refl _,fun _ _=>rfl⟩:∀ dd,Below w5.heap.size w5 (w5.drewN dd).drew)
 have hR5:Bw w5 w5.drew:=(Below.refl _ _).drew
 have k56:∀ v7 w7,Ir w7 v7 (Y - X)→Bw w5 w7→Calls Tryz.prog 103 #[.bool nb,v7,.int .i64 (min ea eb)] w7 fun r w'=>∃ s ao n cap ex,r=.returned (.agg #[.bool s,.slice ao n cap,.int .i64 ex]) ∧
   Hid (NC w' w7.heap.size (.agg #[.bool s,.slice ao n cap,.int .i64 ex]) nb (Y - X) (min ea eb)∧w5.heap.size≤w7.heap.size)∧Bw w5 w'∧Hid (w'.heap[w.heap.size+1+1]?=some (.cells #[.bool false,.slice none 0 0,.int .i64 0] 54 (0,0))) ∧
   (w'.cell? ⟨w.heap.size+1+1,0,none⟩=some (.bool false)∧w'.cell? ⟨w.heap.size+1+1,1,none⟩=some (.slice none 0 0)∧w'.cell? ⟨w.heap.size+1+1,2,none⟩=some (.int .i64 0))∧(w'.frozen? ⟨w.heap.size+1+1,0,none⟩=false∧w'.frozen? ⟨w.heap.size+1+1,1,none⟩=false∧w'.frozen? ⟨w.heap.size+1+1,2,none⟩=false):=by
  intro v7 w7 ho hb
  obtain⟨ao0,cap0,rfl,hl0,hat0⟩:=ho
  refine(rnorm ⟨ao0,cap0,rfl,hl0,hat0⟩ (by omega) (by omega)).mono ?_
  rintro r w8 ⟨a,rfl,hN,hb8⟩
  obtain⟨s,ao,n,cap,ex,rfl⟩:=hN.shape
  have hb58:Bw w5 w8:=hb.trans (hb8.mono hb.size)
  have hblk:=box_later HC5.out.1 hb58 (by have:=HC5.out.2.size;omega)
  obtain⟨f1,f2⟩:=box_cells29 hblk
  exact⟨s,ao,n,cap,ex,rfl,⟨hN,hb.size⟩,hb58,hblk,f1,f2⟩
 have k129:=rord hp hq (by omega) (by omega)
 have hcm:cmpI (X:Int) (Y:Int)<0:=by unfold cmpI;rw[if_pos (by omega)];omega
 generalize cmpI (X:Int) (Y:Int)=cv at *
 clear h1 h2 h3 hp hq hp6 hq6 hB5' hs hBW hKeep hX hX1 hX2 hlt
 go_wp2_with fail
 refine k129.mono ?_
 rintro r w7 ⟨rfl,dd,rfl⟩
 have hR5:=HR5.out dd
 clear k129
 have z0:(w5.drewN dd).cell? ⟨w.heap.size+1,0,none⟩=some (.bool nb):=b0
 go_wp2
 go_region_held3 (fun w'=>w'.cell? ⟨w.heap.size+1,0,none⟩=some (.bool nb)) (first|(with_reducible assumption)|(refine HK.out _ ?_;with_reducible assumption)|(rw[World.cell?_setCell_other _ _ _ _ (by simp),World.cell?_setCell_other _ _ _ _ (by simp),World.cell?_setCell_other _ _ _ _ (by simp)];refine HK.out _ ?_;with_reducible assumption)|go_keep)
  (first|(go_at_call 150;refine(kS _ (by first|(with_reducible assumption)|exact hR5)).mono ?_;rintro r w7 ⟨v7,rfl,ho7,hb7⟩)|(go_at_call 103;refine(k56 _ _ ho7 hb7).mono ?_;rintro r w8 ⟨s8,ao8,n8,cap8,ex8,rfl,hN8,hb8,hblk8,⟨x1,x2,x3⟩,x4,x5,x6⟩))
 have HF:Hid (Bw w5 w8):=hb8
 clear ho7 hb7 hb8 k56 kS x1 x2 x3 x4 x5 x6 a0 a1 a2 b0 b1 b2 HK
 go_wp2
 refine bodyPost_ret (results_cell_row rfl _ _ (w.heap.size+1+1) 54 #[.bool s8,.slice ao8 n8 cap8,.int .i64 ex8] (0,0) _ rfl (store3_29 _ _ _ hblk8.out) Tryz.underlying54 rfl Tryz.info54) rfl ?_
 obtain⟨-,hs,hBW⟩:=HH.out
 have hs4:=HC5.out.2.size
 have hs5:=hN8.out.2
 exact⟨_,rfl,(hN8.out.1.store (by omega) _ _ _).mono (by omega),below_store3 (hBW.trans ((HC5.out.2.trans (HF.out.mono hs4)).mono hBW.size)) (by omega) _ _ _⟩
theorem rplusN_e (na nb:Bool) (ua va:Option Addr) (un uc vn vc X Y:Nat) (ea eb:Int) (w:World) (hlt:Y≤X) (hne:(na==nb)=false) (hX:dlen (X - Y)≤1000000) (hX1:dlen X≤1000000) (hX2:dlen Y≤1000000) (he1 : -4000000≤ea) (he2:ea≤4000000) (he3 : -4000000≤eb) (he4:eb≤4000000) (hn0:((un:Int)==0)=false) (hn1:((vn:Int)==0)=false)
  (ku:∀ W i,Bw w W→i=ea - min ea eb→Calls Tryz.prog 101 #[.slice ua un uc,.int .i64 i] W fun r w'=>∃ v,r=.returned v∧Ir w' v X∧Bw W w')
  (kv:∀ W i,Bw w W→i=eb - min ea eb→Calls Tryz.prog 101 #[.slice va vn vc,.int .i64 i] W fun r w'=>∃ v,r=.returned v∧Ir w' v Y∧Bw W w') :
  Calls Tryz.prog 83 #[.agg #[.bool na,.slice ua un uc,.int .i64 ea],.agg #[.bool nb,.slice va vn vc,.int .i64 eb]] w fun r w'=>∃ a,r=.returned a∧NC w' w.heap.size a na (X - Y) (min ea eb)∧Bw w w':=by
 obtain⟨W,hW⟩:∃ W,W=((w.alloc (.cells #[.bool na,.slice ua un uc,.int .i64 ea] 54)).alloc (.cells #[.bool nb,.slice va vn vc,.int .i64 eb] 54)).alloc (.cells #[.bool false,.slice none 0 0,.int .i64 0] 54):=⟨_,rfl⟩
 obtain⟨hA,hBb,hC,hsz,hBW⟩:=boxes3 _ _ _ hW
 have k1:=fun i hi=>ku W i hBW hi
 have HKV:Hid _:=kv
 have HH:Hid ((W.heap[w.heap.size]?=some (.cells #[.bool na,.slice ua un uc,.int .i64 ea] 54 (0,0))∧W.heap[w.heap.size+1]?=some (.cells #[.bool nb,.slice va vn vc,.int .i64 eb] 54 (0,0))∧W.heap[w.heap.size+1+1]?=some (.cells #[.bool false,.slice none 0 0,.int .i64 0] 54 (0,0)))∧W.heap.size=w.heap.size+1+1+1∧Bw w W):=⟨⟨hA,hBb,hC⟩,hsz,hBW⟩
 clear hA hBb hC hsz hBW ku kv
 go_enter Tryz.func83,Tryz.ntmps83
 go_wp2_with fail
 rw[←hW]
 clear hW
 refine(k1 _ (by first|rfl|(rw[IntKind.wrap_i64];omega)|omega)).mono ?_
 rintro r w4 ⟨p,rfl,hp,hB4⟩
 clear k1
 obtain⟨⟨a0,a1,a2⟩,-⟩:=box_cells29 (box_later HH.out.1.1 hB4 (by have:=HH.out.2.1;omega))
 obtain⟨⟨b0,b1,b2⟩,-⟩:=box_cells29 (box_later HH.out.1.2.1 hB4 (by have:=HH.out.2.1;omega))
 have HB4:Hid (Bw W w4):=hB4
 have HP4:Hid (Ir w4 p X):=hp
 clear hB4 hp
 go_wp2_with fail
 refine(HKV.out w4 _ (HH.out.2.2.trans (HB4.out.mono HH.out.2.2.size)) (by first|rfl|(rw[IntKind.wrap_i64];omega)|omega)).mono ?_
 rintro r w5 ⟨q,rfl,hq,hB5⟩
 have hB5':Bw W w5:=HB4.out.trans (hB5.mono HB4.out.size)
 have hp:=HP4.out.later hB5
 clear a0 a1 a2 b0 b1 b2 hB5
 obtain⟨⟨h1,h2,h3⟩,hs,hBW⟩:=HH.out
 obtain⟨⟨a0,a1,a2⟩,-⟩:=box_cells29 (box_later h1 hB5' (by omega))
 obtain⟨⟨b0,b1,b2⟩,-⟩:=box_cells29 (box_later h2 hB5' (by omega))
 have HC5:Hid (w5.heap[w.heap.size+1+1]?=some (.cells #[.bool false,.slice none 0 0,.int .i64 0] 54 (0,0))∧Bw W w5):=⟨box_later h3 hB5' (by omega),hB5'⟩
 have hp6:=hp
 have hq6:=hq
 have kS:∀ W6,Bw w5 W6→Calls Tryz.prog 150 #[p,q] W6 fun r w'=>∃ v,r=.returned v∧Ir w' v (X - Y)∧Bw w5 w':=fun W6 hb =>
  (rless (w:=W6) (hp6.later hb) (hq6.later hb) (by omega) (by omega)).mono fun r w' ⟨v,e1,o1,o2⟩=>⟨v,e1,o1,hb.trans (o2.mono hb.size)⟩
 have hKeep:∀ w',Bw w5 w'→w'.cell? ⟨w.heap.size,0,none⟩=some (.bool na):=fun w' hb=>(hb.cell (World.block_lt_of_cell? _ _ a0)).trans a0
 have HK:Hid (∀ w',Bw w5 w'→w'.cell? ⟨w.heap.size,0,none⟩=some (.bool na)):=hKeep
 have HR5:Hid (∀ dd,Below w5.heap.size w5 (w5.drewN dd).drew):=(fun dd=>⟨rfl,rfl,rfl,Nat.le_refl _,fun _ _=>rfl⟩:∀ dd,Below w5.heap.size w5 (w5.drewN dd).drew)
 have hR5:Bw w5 w5.drew:=(Below.refl _ _).drew
 have k56:∀ v7 w7,Ir w7 v7 (X - Y)→Bw w5 w7→Calls Tryz.prog 103 #[.bool na,v7,.int .i64 (min ea eb)] w7 fun r w'=>∃ s ao n cap ex,r=.returned (.agg #[.bool s,.slice ao n cap,.int .i64 ex]) ∧
   Hid (NC w' w7.heap.size (.agg #[.bool s,.slice ao n cap,.int .i64 ex]) na (X - Y) (min ea eb)∧w5.heap.size≤w7.heap.size)∧Bw w5 w'∧Hid (w'.heap[w.heap.size+1+1]?=some (.cells #[.bool false,.slice none 0 0,.int .i64 0] 54 (0,0))) ∧
   (w'.cell? ⟨w.heap.size+1+1,0,none⟩=some (.bool false)∧w'.cell? ⟨w.heap.size+1+1,1,none⟩=some (.slice none 0 0)∧w'.cell? ⟨w.heap.size+1+1,2,none⟩=some (.int .i64 0))∧(w'.frozen? ⟨w.heap.size+1+1,0,none⟩=false∧w'.frozen? ⟨w.heap.size+1+1,1,none⟩=false∧w'.frozen? ⟨w.heap.size+1+1,2,none⟩=false):=by
  intro v7 w7 ho hb
  obtain⟨ao0,cap0,rfl,hl0,hat0⟩:=ho
  refine(rnorm ⟨ao0,cap0,rfl,hl0,hat0⟩ (by omega) (by omega)).mono ?_
  rintro r w8 ⟨a,rfl,hN,hb8⟩
  obtain⟨s,ao,n,cap,ex,rfl⟩:=hN.shape
  have hb58:Bw w5 w8:=hb.trans (hb8.mono hb.size)
  have hblk:=box_later HC5.out.1 hb58 (by have:=HC5.out.2.size;omega)
  obtain⟨f1,f2⟩:=box_cells29 hblk
  exact⟨s,ao,n,cap,ex,rfl,⟨hN,hb.size⟩,hb58,hblk,f1,f2⟩
 have k129:=rord hp hq (by omega) (by omega)
 have hcm:¬ cmpI (X:Int) (Y:Int)<0:=by unfold cmpI;rw[if_neg (by omega)];split <;> omega
 generalize cmpI (X:Int) (Y:Int)=cv at *
 clear h1 h2 h3 hp hq hp6 hq6 hB5' hs hBW hKeep hX hX1 hX2 hlt
 go_wp2_with fail
 refine k129.mono ?_
 rintro r w7 ⟨rfl,dd,rfl⟩
 have hR5:=HR5.out dd
 clear k129
 have z0:(w5.drewN dd).cell? ⟨w.heap.size,0,none⟩=some (.bool na):=a0
 go_wp2
 go_region_held3 (fun w'=>w'.cell? ⟨w.heap.size,0,none⟩=some (.bool na)) (first|(with_reducible assumption)|(refine HK.out _ ?_;with_reducible assumption)|(rw[World.cell?_setCell_other _ _ _ _ (by simp),World.cell?_setCell_other _ _ _ _ (by simp),World.cell?_setCell_other _ _ _ _ (by simp)];refine HK.out _ ?_;with_reducible assumption)|go_keep)
  (first|(go_at_call 150;refine(kS _ (by first|(with_reducible assumption)|exact hR5)).mono ?_;rintro r w7 ⟨v7,rfl,ho7,hb7⟩)|(go_at_call 103;refine(k56 _ _ ho7 hb7).mono ?_;rintro r w8 ⟨s8,ao8,n8,cap8,ex8,rfl,hN8,hb8,hblk8,⟨x1,x2,x3⟩,x4,x5,x6⟩))
 have HF:Hid (Bw w5 w8):=hb8
 clear ho7 hb7 hb8 k56 kS x1 x2 x3 x4 x5 x6 a0 a1 a2 b0 b1 b2 HK
 go_wp2
 refine bodyPost_ret (results_cell_row rfl _ _ (w.heap.size+1+1) 54 #[.bool s8,.slice ao8 n8 cap8,.int .i64 ex8] (0,0) _ rfl (store3_29 _ _ _ hblk8.out) Tryz.underlying54 rfl Tryz.info54) rfl ?_
 obtain⟨-,hs,hBW⟩:=HH.out
 have hs4:=HC5.out.2.size
 have hs5:=hN8.out.2
 exact⟨_,rfl,(hN8.out.1.store (by omega) _ _ _).mono (by omega),below_store3 (hBW.trans ((HC5.out.2.trans (HF.out.mono hs4)).mono hBW.size)) (by omega) _ _ _⟩
theorem rplusS {na nb:Bool} {ua va:Option Addr} {uc vc x y:Nat} {ea eb:Int} {w:World} (h1:Arg w ua (dlen x) uc x) (h2:Arg w va (dlen y) vc y) (c1:cn na x ea=(na,x,ea)) (c2:cn nb y eb=(nb,y,eb)) (he1 : -2000000≤ea) (he2:ea≤2000000) (he3 : -2000000≤eb) (he4:eb≤2000000) (hl1:dlen x≤300000) (hl2:dlen y≤300000) (hsm:na=nb∨x=0) :
  Calls Tryz.prog 83 #[.agg #[.bool na,.slice ua (dlen x) uc,.int .i64 ea],.agg #[.bool nb,.slice va (dlen y) vc,.int .i64 eb]] w fun r w'=>∃ a,r=.returned a∧NC w' w.heap.size a (sumN na x ea nb y eb).1 (sumN na x ea nb y eb).2.1 (sumN na x ea nb y eb).2.2∧Bw w w':=by
 unfold sumN
 by_cases x0:x=0
 ·rw[if_pos x0]
  show Calls _ _ _ _ fun r w'=>∃ a,r=.returned a∧NC w' w.heap.size a nb y eb∧_
  subst x0
  rw[dlen_zero]
  refine(rplus_a na nb ua va uc _ vc ea eb w y h2).mono ?_
  rintro r w' ⟨ao',cap',rfl,hd,hb⟩
  exact⟨_,rfl,hd.nc (by first|exact c2|exact c1) (by omega),hb⟩
 ·rw[if_neg x0]
  by_cases y0:y=0
  ·rw[if_pos y0]
   show Calls _ _ _ _ fun r w'=>∃ a,r=.returned a∧NC w' w.heap.size a na x ea∧_
   subst y0
   rw[dlen_zero]
   refine(rplus_b na nb ua va _ uc vc ea eb w x h1 (len_ne (n:=0) x0)).mono ?_
   rintro r w' ⟨ao',cap',rfl,hd,hb⟩
   exact⟨_,rfl,hd.nc (by first|exact c2|exact c1) (by omega),hb⟩
  ·rw[if_neg y0]
   have l1:dlen (x*2^(ea - min ea eb).toNat)≤760000:=by have:=shl_len (x:=x) (k:=(ea - min ea eb).toNat) rfl;omega
   have l2:dlen (y*2^(eb - min ea eb).toNat)≤760000:=by have:=shl_len (x:=y) (k:=(eb - min ea eb).toNat) rfl;omega
   have ku:∀ W i,Bw w W→i=ea - min ea eb→Calls Tryz.prog 101 #[.slice ua (dlen x) uc,.int .i64 i] W fun r w'=>∃ v,r=.returned v∧Ir w' v (x*2^(ea - min ea eb).toNat)∧Bw W w':=by
    intro W i hW hi
    have hik:i=(((ea - min ea eb).toNat:Nat):Int):=by omega
    rw[hik]
    exact rup ⟨ua,uc,rfl,h1.le,(h1.later hW).at_⟩ _ (by omega) (by omega)
   have kv:∀ W i,Bw w W→i=eb - min ea eb→Calls Tryz.prog 101 #[.slice va (dlen y) vc,.int .i64 i] W fun r w'=>∃ v,r=.returned v∧Ir w' v (y*2^(eb - min ea eb).toNat)∧Bw W w':=by
    intro W i hW hi
    have hik:i=(((eb - min ea eb).toNat:Nat):Int):=by omega
    rw[hik]
    exact rup ⟨va,vc,rfl,h2.le,(h2.later hW).at_⟩ _ (by omega) (by omega)
   have hs:na=nb:=hsm.resolve_right x0
   rw[if_pos hs]
   have hne:(na==nb)=true:=by simp[hs]
   refine(rplusN_c na nb ua va _ uc _ vc _ _ ea eb w hne (by have:=dlen_add_le (x*2^(ea - min ea eb).toNat) (y*2^(eb - min ea eb).toNat);omega) (by omega) (by omega) (by omega) (by omega) (by omega) (by omega) (len_ne (n:=0) x0) (len_ne (n:=0) y0) ku kv).mono ?_
   rintro r w' ⟨a,rfl,hn,hb⟩
   exact⟨a,rfl,hn,hb⟩
theorem rplusG {na nb:Bool} {ua va:Option Addr} {uc vc x y:Nat} {ea eb:Int} {w:World} (h1:Arg w ua (dlen x) uc x) (h2:Arg w va (dlen y) vc y) (c1:cn na x ea=(na,x,ea)) (c2:cn nb y eb=(nb,y,eb)) (he1 : -2000000≤ea) (he2:ea≤2000000) (he3 : -2000000≤eb) (he4:eb≤2000000) (hl1:dlen x≤300000) (hl2:dlen y≤300000) :
  Calls Tryz.prog 83 #[.agg #[.bool na,.slice ua (dlen x) uc,.int .i64 ea],.agg #[.bool nb,.slice va (dlen y) vc,.int .i64 eb]] w fun r w'=>∃ a,r=.returned a∧NC w' w.heap.size a (sumN na x ea nb y eb).1 (sumN na x ea nb y eb).2.1 (sumN na x ea nb y eb).2.2∧Bw w w':=by
 unfold sumN
 by_cases x0:x=0
 ·rw[if_pos x0]
  show Calls _ _ _ _ fun r w'=>∃ a,r=.returned a∧NC w' w.heap.size a nb y eb∧_
  subst x0
  rw[dlen_zero]
  refine(rplus_a na nb ua va uc _ vc ea eb w y h2).mono ?_
  rintro r w' ⟨ao',cap',rfl,hd,hb⟩
  exact⟨_,rfl,hd.nc (by first|exact c2|exact c1) (by omega),hb⟩
 ·rw[if_neg x0]
  by_cases y0:y=0
  ·rw[if_pos y0]
   show Calls _ _ _ _ fun r w'=>∃ a,r=.returned a∧NC w' w.heap.size a na x ea∧_
   subst y0
   rw[dlen_zero]
   refine(rplus_b na nb ua va _ uc vc ea eb w x h1 (len_ne (n:=0) x0)).mono ?_
   rintro r w' ⟨ao',cap',rfl,hd,hb⟩
   exact⟨_,rfl,hd.nc (by first|exact c2|exact c1) (by omega),hb⟩
  ·rw[if_neg y0]
   have l1:dlen (x*2^(ea - min ea eb).toNat)≤760000:=by have:=shl_len (x:=x) (k:=(ea - min ea eb).toNat) rfl;omega
   have l2:dlen (y*2^(eb - min ea eb).toNat)≤760000:=by have:=shl_len (x:=y) (k:=(eb - min ea eb).toNat) rfl;omega
   have ku:∀ W i,Bw w W→i=ea - min ea eb→Calls Tryz.prog 101 #[.slice ua (dlen x) uc,.int .i64 i] W fun r w'=>∃ v,r=.returned v∧Ir w' v (x*2^(ea - min ea eb).toNat)∧Bw W w':=by
    intro W i hW hi
    have hik:i=(((ea - min ea eb).toNat:Nat):Int):=by omega
    rw[hik]
    exact rup ⟨ua,uc,rfl,h1.le,(h1.later hW).at_⟩ _ (by omega) (by omega)
   have kv:∀ W i,Bw w W→i=eb - min ea eb→Calls Tryz.prog 101 #[.slice va (dlen y) vc,.int .i64 i] W fun r w'=>∃ v,r=.returned v∧Ir w' v (y*2^(eb - min ea eb).toNat)∧Bw W w':=by
    intro W i hW hi
    have hik:i=(((eb - min ea eb).toNat:Nat):Int):=by omega
    rw[hik]
    exact rup ⟨va,vc,rfl,h2.le,(h2.later hW).at_⟩ _ (by omega) (by omega)
   by_cases hs:na=nb
   ·rw[if_pos hs]
    have hne:(na==nb)=true:=by simp[hs]
    refine(rplusN_c na nb ua va _ uc _ vc _ _ ea eb w hne (by have:=dlen_add_le (x*2^(ea - min ea eb).toNat) (y*2^(eb - min ea eb).toNat);omega) (by omega) (by omega) (by omega) (by omega) (by omega) (by omega) (len_ne (n:=0) x0) (len_ne (n:=0) y0) ku kv).mono ?_
    rintro r w' ⟨a,rfl,hn,hb⟩
    exact⟨a,rfl,hn,hb⟩
   ·rw[if_neg hs]
    have hne:(na==nb)=false:=by simp[hs]
    by_cases hlt:x*2^(ea - min ea eb).toNat<y*2^(eb - min ea eb).toNat
    ·rw[if_pos hlt]
     refine(rplusN_d na nb ua va _ uc _ vc _ _ ea eb w hlt hne (Nat.le_trans (dlen_mono (Nat.sub_le ..)) (by omega)) (by omega) (by omega) (by omega) (by omega) (by omega) (by omega) (len_ne (n:=0) x0) (len_ne (n:=0) y0) ku kv).mono ?_
     rintro r w' ⟨a,rfl,hn,hb⟩
     exact⟨a,rfl,hn,hb⟩
    ·rw[if_neg hlt]
     refine(rplusN_e na nb ua va _ uc _ vc _ _ ea eb w (by omega) hne (Nat.le_trans (dlen_mono (Nat.sub_le ..)) (by omega)) (by omega) (by omega) (by omega) (by omega) (by omega) (by omega) (len_ne (n:=0) x0) (len_ne (n:=0) y0) ku kv).mono ?_
     rintro r w' ⟨a,rfl,hn,hb⟩
     exact⟨a,rfl,hn,hb⟩
end Go.Proofs.YtfkaogdmlcdceaaGreatDoor
namespace Go.Proofs.YtfkaogdmlcdceaaGreatDoor
open Go.RowKit Go.Fl64
theorem rnormN {neg:Bool} {ao:Option Addr} {n cap x:Nat} {e:Int} {w:World} (h2:At w ao n x) (hn:dlen x≤n) (h1:n≤cap) (hc:n≤1000000000) (he : -4611686018427387904≤e∧e≤4611686018427387904) :
  Calls Tryz.prog 103 #[.bool neg,.slice ao n cap,.int .i64 e] w fun r w'=>∃ a,r=.returned a∧NC w' w.heap.size a neg x e∧Bw w w':=by
 by_cases h0:x=0
 ·subst h0
  refine(r34_0 neg ao _ cap e w h2 h1 (by omega)).mono ?_
  rintro r w' ⟨rfl,hb⟩
  refine⟨_,rfl,⟨none,0,?_,?_,fun ad e=>by cases e⟩,hb⟩
  ·unfold cn;rw[if_pos rfl,dlen_zero]
  ·unfold cn;rw[if_pos rfl]
   exact⟨fun _=>.inr ⟨rfl,rfl⟩,⟨0,0,fun h=>by rw[dlen_zero] at h;omega,fun i hi=>by rw[dlen_zero] at hi;omega⟩,by rw[dlen_zero];exact Nat.le_refl _,by rw[dlen_zero];omega⟩
 ·refine(r34c_1 neg ao _ cap x e w h2 hn h1 hc h0 he).mono ?_
  rintro r w' ⟨g,cap',rfl,hg,hcc,ho,hb⟩
  have hle:dlen (x / 2^tz x)≤dlen x:=dlen_mono (Nat.div_le_self _ _)
  refine⟨_,rfl,⟨some ⟨g,0,none⟩,cap',?_,?_,fun ad e _=>?_⟩,hb⟩
  ·unfold cn;rw[if_neg h0]
  ·unfold cn;rw[if_neg h0]
   exact⟨fun _=>.inl ⟨_,rfl⟩,ho,hcc,(by omega:dlen (x / 2^tz x)≤35184372088832)⟩
  ·injection e with e;rw[←e];exact hg
theorem xnorm_two {ng:Bool} {m:Nat} {e:Int} {W:World} (hm:m<18446744073709551616) (he : -4611686018427387904≤e∧e≤4611686018427387904) :
  Calls Tryz.prog 103 #[.bool ng,.slice (some ⟨W.heap.size,0,none⟩) 2 2,.int .i64 e] (W.alloc (Obj.cells #[Value.int IntKind.u32 ((m:Int) % 4294967296),Value.int IntKind.u32 ((m:Int) / 4294967296)] 96)) fun r w'=>∃ s ao n cap ex,r=.returned (.agg #[.bool s,.slice ao n cap,.int .i64 ex])∧NC w' (W.heap.size+1) (.agg #[.bool s,.slice ao n cap,.int .i64 ex]) ng m e∧Bw W w':=by
 have hL:dlen m≤2:=(dlen_le 2 m).2 (by unfold B;omega)
 refine(rnormN (two_at m W hm) hL (Nat.le_refl _) (by omega) he).mono ?_
 rintro r w' ⟨a,rfl,hn,hb⟩
 obtain⟨s,ao,n,cap,ex,rfl⟩:=hn.shape
 refine⟨_,_,_,_,_,rfl,hn.mono (by simp),?_⟩
 exact((Below.refl W.heap.size W).alloc (Nat.le_refl _) _).trans (hb.mono (by simp))
theorem x33_0 (a m:Nat) (w:World) (ng:Bool) (hX:bits .and .u64 ((a:Int) / 4503599627370496) 2047=0) (hand:bits .and .u64 (a:Int) 4503599627370495=(m:Int)) (hng:((a:Int) / 9223372036854775808==1)=ng) (hm:m<18446744073709551616) :
  Calls Tryz.prog 100 #[.float .f64 a] w fun r w'=>∃ A,r=.returned A∧NC w' w.heap.size A ng m (-1074)∧Bw w w':=by
 have kb:=Ie.run_bits
 obtain⟨W,hW⟩:∃ W,W=w.alloc (.cells #[.bool false,.slice none 0 0,.int .i64 0] 54):=⟨_,rfl⟩
 have k34:=xnorm_two (ng:=ng) (m:=m) (e:=(-1074)) (W:=W) hm (by omega)
 have HB0:Hid (Bw w W∧W.heap[w.heap.size]?=some (.cells #[.bool false,.slice none 0 0,.int .i64 0] 54 (0,0))∧W.heap.size=w.heap.size+1):=⟨by rw[hW];exact(Below.refl _ _).alloc (Nat.le_refl _) _,by rw[hW];exact heap_alloc_new _ _,by rw[hW];simp⟩
 (try unfold Bw at k34);rw[HB0.out.2.2] at k34
 go_enter Tryz.func100,Tryz.ntmps100
 go_wp2_with fail
 rw[←hW]
 clear hW
 refine k34.mono ?_
 rintro r w3 ⟨s,ao,n,cap,ex,rfl,hn,hb⟩
 have hs:=HB0.out.2.2
 have HC3:Hid (w3.heap[w.heap.size]?=some (.cells #[.bool false,.slice none 0 0,.int .i64 0] 54 (0,0))):=box_later HB0.out.2.1 hb (by omega)
 obtain⟨⟨a1,a2,a3⟩,a4,a5,a6⟩:=box_cells29 HC3.out
 have HN:Hid (NC w3 (w.heap.size+1) (.agg #[.bool s,.slice ao n cap,.int .i64 ex]) ng m (-1074)∧Below (w.heap.size+1) W w3):=⟨hn.mono (by omega),hb⟩
 clear hn hb k34 hs
 go_wp2
 refine bodyPost_ret (results_cell_row rfl _ _ w.heap.size 54 #[.bool s,.slice ao n cap,.int .i64 ex] (0,0) _ rfl (store3_29 _ _ _ HC3.out) Tryz.underlying54 rfl Tryz.info54) rfl ?_
 have hs:=HB0.out.2.2
 exact⟨_,rfl,(HN.out.1.store (by omega) _ _ _).mono (by omega),below_store3 (HB0.out.1.trans (HN.out.2.mono (by omega))) (Nat.le_refl _) _ _ _⟩
theorem x33_1 (a m0 m:Nat) (X:Int) (w:World) (ng:Bool) (hX:bits .and .u64 ((a:Int) / 4503599627370496) 2047=X) (hX0:(X==0)=false) (hX1:0≤X) (hX2:X<2048) (hand:bits .and .u64 (a:Int) 4503599627370495=(m0:Int)) (hor:bits .or .u64 (m0:Int) 4503599627370496=(m:Int)) (hng:((a:Int) / 9223372036854775808==1)=ng) (hm:m<18446744073709551616) :
  Calls Tryz.prog 100 #[.float .f64 a] w fun r w'=>∃ A,r=.returned A∧NC w' w.heap.size A ng m (X - 1075)∧Bw w w':=by
 have kb:=Ie.run_bits
 obtain⟨W,hW⟩:∃ W,W=w.alloc (.cells #[.bool false,.slice none 0 0,.int .i64 0] 54):=⟨_,rfl⟩
 have k34:=xnorm_two (ng:=ng) (m:=m) (e:=(X - 1075)) (W:=W) hm (by omega)
 have HB0:Hid (Bw w W∧W.heap[w.heap.size]?=some (.cells #[.bool false,.slice none 0 0,.int .i64 0] 54 (0,0))∧W.heap.size=w.heap.size+1):=⟨by rw[hW];exact(Below.refl _ _).alloc (Nat.le_refl _) _,by rw[hW];exact heap_alloc_new _ _,by rw[hW];simp⟩
 (try unfold Bw at k34);rw[HB0.out.2.2] at k34
 go_enter Tryz.func100,Tryz.ntmps100
 go_wp2_with fail
 rw[←hW]
 clear hW
 refine k34.mono ?_
 rintro r w3 ⟨s,ao,n,cap,ex,rfl,hn,hb⟩
 have hs:=HB0.out.2.2
 have HC3:Hid (w3.heap[w.heap.size]?=some (.cells #[.bool false,.slice none 0 0,.int .i64 0] 54 (0,0))):=box_later HB0.out.2.1 hb (by omega)
 obtain⟨⟨a1,a2,a3⟩,a4,a5,a6⟩:=box_cells29 HC3.out
 have HN:Hid (NC w3 (w.heap.size+1) (.agg #[.bool s,.slice ao n cap,.int .i64 ex]) ng m (X - 1075)∧Below (w.heap.size+1) W w3):=⟨hn.mono (by omega),hb⟩
 clear hn hb k34 hs
 go_wp2
 refine bodyPost_ret (results_cell_row rfl _ _ w.heap.size 54 #[.bool s,.slice ao n cap,.int .i64 ex] (0,0) _ rfl (store3_29 _ _ _ HC3.out) Tryz.underlying54 rfl Tryz.info54) rfl ?_
 have hs:=HB0.out.2.2
 exact⟨_,rfl,(HN.out.1.store (by omega) _ _ _).mono (by omega),below_store3 (HB0.out.1.trans (HN.out.2.mono (by omega))) (Nat.le_refl _) _ _ _⟩
theorem x33 (a:Nat) (ha:a<18446744073709551616) (w:World) :
  Calls Tryz.prog 100 #[.float .f64 a] w fun r w'=>∃ A,r=.returned A∧NC w' w.heap.size A (neg a) (Ie.mant a) (Ie.lp a)∧Bw w w':=by
 have hX:bits .and .u64 ((a:Int) / 4503599627370496) 2047=((mag a / 4503599627370496:Nat):Int):=by
  have e:(a:Int) / 4503599627370496=((a / 4503599627370496:Nat):Int):=by omega
  rw[e,and_2047 _ (by omega)]
  congr 1
  unfold mag
  omega
 have hand:bits .and .u64 (a:Int) 4503599627370495=((mag a % 4503599627370496:Nat):Int):=by
  rw[Ie.and_mant a ha]
  congr 1
  unfold mag
  omega
 have hng:((a:Int) / 9223372036854775808==1)=neg a:=by
  unfold neg
  rw[Bool.beq_eq_decide_eq]
  congr 1
  apply propext
  omega
 have hml:mag a<9223372036854775808:=by unfold mag;omega
 by_cases h0:mag a<4503599627370496
 ·have e1:mag a / 4503599627370496=0:=by omega
  have e2:mag a % 4503599627370496=mag a:=by omega
  rw[e1] at hX
  rw[e2] at hand
  have e3:Ie.mant a=mag a:=by unfold Ie.mant;rw[if_pos h0]
  have e4:Ie.lp a = -1074:=by unfold Ie.lp;rw[e1];omega
  rw[e3,e4]
  exact x33_0 a (mag a) w (neg a) hX hand hng (by omega)
 ·have e3:Ie.mant a=4503599627370496+mag a % 4503599627370496:=by unfold Ie.mant;rw[if_neg h0]
  have e4:Ie.lp a=((mag a / 4503599627370496:Nat):Int) - 1075:=by unfold Ie.lp;omega
  rw[e3,e4]
  exact x33_1 a _ _ _ w (neg a) hX (by rw[Bool.beq_eq_decide_eq];simp;omega) (by omega) (by omega) hand (Ie.or_mant _ (by omega)) hng (by omega)
def tF (a:Nat):Bool×Nat×Int:=cn (neg a) (Ie.mant a) (Ie.lp a)
def DN (w:World) (A:Value) (t:Bool×Nat×Int):Prop:=∃ ao cap,A=.agg #[.bool t.1,.slice ao (dlen t.2.1) cap,.int .i64 t.2.2]∧Arg w ao (dlen t.2.1) cap t.2.1
theorem DN.later {w w':World} {A:Value} {t:Bool×Nat×Int} (h:DN w A t) (hb:Bw w w'):DN w' A t:=by
 obtain⟨ao,cap,h1,h2⟩:=h
 exact⟨ao,cap,h1,h2.later hb⟩
theorem DN.shape {w:World} {A:Value} {t:Bool×Nat×Int} (h:DN w A t):∃ s ao n cap e,A=.agg #[.bool s,.slice ao n cap,.int .i64 e]:=by
 obtain⟨ao,cap,h1,-⟩:=h
 exact⟨_,_,_,_,_,h1⟩
theorem NC.dn {w:World} {base:Nat} {a:Value} {neg:Bool} {x:Nat} {e:Int} (h:NC w base a neg x e):DN w a (cn neg x e):=by
 obtain⟨ao,cap,h1,h2,-⟩:=h
 exact⟨ao,cap,h1,h2⟩
theorem float_dn (a:Nat) (ha:a<18446744073709551616) (w:World) :
  Calls Tryz.prog 100 #[.float .f64 a] w fun r w'=>∃ A,r=.returned A∧DN w' A (tF a)∧Bw w w' :=
 (x33 a ha w).mono fun r w' ⟨A,e,h,hb⟩=>⟨A,e,h.dn,hb⟩
end Go.Proofs.YtfkaogdmlcdceaaGreatDoor
namespace Go.Proofs.YtfkaogdmlcdceaaGreatDoor
open Go.RowKit
theorem c120_v (b o cap m whole part x k:Nat) (w:World) (hm0:0<m) (hm:m≤35184372088832) (hk:k≤1099511627776) (hcap:whole+m≤cap) (hcap2:cap≤9223372036854775807) (hwh:k / 32=whole) (hpa:k % 32=part)
  (hn:dlen x=whole+m) (hcell:∀ i,i<whole+m→w.cell? ⟨b,o+i,none⟩=some (.int .u32 (dg x i:Nat))) :
  Calls Tryz.prog 214 #[.slice (some ⟨b,o,none⟩) (whole+m:Nat) cap,.int .i64 k] w fun e w'=>∃ v,e=.returned v∧Own w' w.heap.size v (x / 2^k)∧Bw w w':=by
 have hq:(k:Int).tdiv 32=((k / 32:Nat):Int):=by rw[Int.tdiv_eq_ediv_of_nonneg (by omega)];rfl
 have hr:(k:Int).tmod 32=((k % 32:Nat):Int):=by rw[Int.tmod_eq_emod_of_nonneg (by omega)];rfl
 have hwb:whole≤1099511627776:=by omega
 have hpb:part<32:=by omega
 rw[hwh] at hq
 rw[hpa] at hr
 have hmk:=run_make_row' (P:=Tryz.prog) 48 96 (.int .u32 0) 4 Tryz.underlying48 Tryz.info96 rfl .i64 .i64 m (by omega) (by omega)
 have HN:Hid (dlen x=whole+m):=hn
 have HW:Hid (k / 32=whole):=hwh
 have HP:Hid (k % 32=part):=hpa
 clear hn hwh hpa
 have hmi:(whole:Int)<((whole+m:Nat):Int):=by omega
 have hmi2:¬ whole=cap:=by omega
 go_enter Tryz.func214,Tryz.ntmps214
 go_wp2
 clear hmk
 go_loopw [27] (fun i wr=>∃ j:Nat,j≤m∧i=.int .i64 j∧Mk w wr m (fun t=>if t<j then dg (x / 2^k) t else 0)) (fun i _=>m - (intOf i).toNat)
 case atStart=>exact⟨0,Nat.zero_le _,rfl,(Mk.start w _).congr fun i hi=>by rw[if_neg (by omega)]⟩
 case round =>
  obtain⟨j,hj,rfl,hM⟩:=hrel
  by_cases hjn:j+1<m
  ·have g1:=hM.old (hcell (whole+j) (by omega))
   have g4:=hM.old (hcell (whole+(j+1)) (by omega))
   rw[←Nat.add_assoc] at g1 g4
   have g2:=hM.cell (i:=j) (by omega)
   have g3:=hM.frozen j
   rw[if_neg (by omega)] at g2
   have hji:(j:Int)+1<(m:Int):=by omega
   have HM:Hid (Mk w wr m (fun t=>if t<j then dg (x / 2^k) t else 0)):=hM
   generalize hd:dg x (whole+j)=d at *
   generalize hd1:dg x (whole+(j+1))=d1 at *
   have HD:Hid (dg x (whole+j)=d):=hd
   have HD1:Hid (dg x (whole+(j+1))=d1):=hd1
   have HL:Hid (d<B∧d1<B):=⟨hd ▸ dg_lt _ _,hd1 ▸ dg_lt _ _⟩
   clear hd hd1 hM hcell
   go_wp2
   exact shr_round HM.out (by rw[shr_word2 HL.out.1 HL.out.2,shr_digit HW.out HP.out,HD.out,HD1.out]) (by omega)
  ·by_cases hjm:j<m
   ·have g1:=hM.old (hcell (whole+j) (by omega))
    rw[←Nat.add_assoc] at g1
    have g2:=hM.cell (i:=j) (by omega)
    have g3:=hM.frozen j
    rw[if_neg (by omega)] at g2
    have hji:¬ (j:Int)+1<(m:Int):=by omega
    have hji2:(j:Int)<(m:Int):=by omega
    have HM:Hid (Mk w wr m (fun t=>if t<j then dg (x / 2^k) t else 0)):=hM
    generalize hd:dg x (whole+j)=d at *
    have HD:Hid (dg x (whole+j)=d):=hd
    have HL:Hid (d<B):=hd ▸ dg_lt _ _
    have HZ:Hid (dg x (whole+(j+1))=0):=dg_past (by rw[HN.out];omega)
    clear hd hM hcell
    go_wp2
    exact shr_round HM.out (by rw[shr_word1 HL.out,shr_digit HW.out HP.out,HD.out,HZ.out,Nat.zero_mul,Nat.add_zero]) (by omega)
   ·obtain rfl:j=m:=by omega
    have hE:Mk w wr j (dg (x / 2^k)):=hM.congr fun i hi=>if_pos hi
    have hA:=hE.at
    have hL:=shr_len (k:=k) (m:=j) (by rw[HW.out];exact HN.out)
    have HC:Hid (Mk w wr j (dg (x / 2^k))):=hE
    clear hM hcell hE
    go_wp2_with (first|(go_at_call 199;refine(c62 _ _ _ (x / 2^k) _ hL (Nat.le_refl _) (by omega) hA).mono ?_;rintro e w' ⟨rfl,rfl⟩))
    go_ret
    exact⟨_,rfl,HC.out.own hL (by omega),HC.out.below⟩
theorem tz_in' {x:Nat} (hx0:x≠0):tz x / 32<dlen x:=by
 have h1:=(tz_spec _ x (Nat.le_refl _) hx0)
 have h2:2^tz x≤x:=by
  have h3:1≤x / 2^tz x:=Nat.pos_of_ne_zero fun e0=>by have:=h1.2;rw[e0] at this;simp at this
  have:=Nat.mul_le_mul_left (2^tz x) h3
  omega
 have h4:=lt_bl x
 have h5:tz x<bl x:=Nat.lt_of_not_le fun h6=>by
  have:=Nat.pow_le_pow_right (n:=2) (by omega) h6
  omega
 have hd0:dlen x≠0:=fun e=>hx0 (dlen_eq_zero.1 e)
 have:=bl_top hx0
 have:=bl_le32 (dg_lt x (dlen x - 1))
 omega
theorem c56_v (neg:Bool) (b o n cap x:Nat) (e:Int) (w:World) (hcell:∀ i,i<n→w.cell? ⟨b,o+i,none⟩=some (.int .u32 (dg x i:Nat))) (hc1:n≤cap) (hc2:cap≤9223372036854775807) (hn:dlen x=n) (hx:dlen x≤1000000000) (hx0:x≠0) (hT:Tab32 w) (he : -4611686018427387904≤e∧e≤4611686018427387904) :
  Calls Tryz.prog 153 #[.bool neg,.slice (some ⟨b,o,none⟩) n cap,.int .i64 e] w fun r w'=>∃ v,r=.returned (.agg #[.bool neg,v,.int .i64 (e+tz x)])∧Own w' w.heap.size v (x / 2^tz x)∧Bw w w':=by
 obtain⟨w0,hw0⟩:∃ w0,w0=w.alloc (.cells #[.bool false,.slice none 0 0,.int .i64 0] 50):=⟨_,rfl⟩
 have hB0:Bw w w0:=by rw[hw0];exact(Below.refl _ _).alloc (Nat.le_refl _) _
 have hcell0:∀ i,i<n→w0.cell? ⟨b,o+i,none⟩=some (.int .u32 (dg x i:Nat)):=fun i hi=>(hB0.cell (World.block_lt_of_cell? _ _ (hcell i hi))).trans (hcell i hi)
 have hT0:=hT.later hB0
 have k62:=c62 (some ⟨b,o,none⟩) n cap x w0 (by omega) hc1 (by omega) ⟨b,o,fun _=>rfl,hcell0⟩
 rw[hn] at k62
 have k119:=c119_1 b o n cap x w0 (by omega) hn hx0 hT0 hcell0
 have htz:=tz_in' hx0
 have htb:tz x≤40000000000:=by omega
 have k120:Calls Tryz.prog 214 #[.slice (some ⟨b,o,none⟩) n cap,.int .i64 (tz x:Nat)] w0 fun e w'=>∃ v,e=.returned v∧Own w' w0.heap.size v (x / 2^tz x)∧Bw w0 w':=by
  obtain⟨m,hm⟩:∃ m,dlen x=tz x / 32+m:=⟨dlen x - tz x / 32,by omega⟩
  rw[←hn,hm]
  exact c120_v b o cap m _ _ x (tz x) w0 (by omega) (by omega) (by omega) (by omega) hc2 rfl rfl hm (fun i hi=>hcell0 i (by omega))
 have hn0:((n:Int)==0)=false:=by
  have:dlen x≠0:=fun e=>hx0 (dlen_eq_zero.1 e)
  simp;omega
 have HH:Hid (w0.heap[w.heap.size]?=some (.cells #[.bool false,.slice none 0 0,.int .i64 0] 50 (0,0))):=(by rw[hw0];exact heap_alloc_new _ _:w0.heap[w.heap.size]?=some (.cells #[.bool false,.slice none 0 0,.int .i64 0] 50 (0,0)))
 have HB0:Hid (Bw w w0):=hB0
 have HX:Hid (w0.heap.size=w.heap.size+1):=(by rw[hw0];simp:w0.heap.size=w.heap.size+1)
 generalize htzx:tz x=t at *
 have HTZ:Hid (tz x=t):=htzx
 obtain⟨he1,he2⟩:=he
 clear hcell hcell0 hT hT0 hn hx0 hx hB0 htzx htz
 go_enter Tryz.func153,Tryz.ntmps153
 go_wp2_with fail
 rw[←hw0]
 clear hw0
 refine k62.mono ?_
 rintro e w1 ⟨rfl,rfl⟩
 clear k62
 go_wp2_with fail
 refine k119.mono ?_
 rintro e w2 ⟨rfl,rfl⟩
 clear k119
 go_wp2_with fail
 refine k120.mono ?_
 rintro e w3 ⟨v,rfl,hO,hB⟩
 obtain⟨va,vc,rfl,-,-,-⟩:=hO.is
 generalize dlen (x / 2^t)=vl at *
 have HH3:Hid (w3.heap[w.heap.size]?=some (.cells #[.bool false,.slice none 0 0,.int .i64 0] 50 (0,0))):=box_later HH.out hB (by have:=HX.out;omega)
 obtain⟨⟨a1,a2,a3⟩,a4,a5,a6⟩:=box_cells HH3.out
 have HO:Hid (Own w3 w2.heap.size (.slice va vl vc) (x / 2^t)):=hO
 have HB:Hid (Bw w2 w3):=hB
 clear k120 hO hB
 go_wp2
 refine bodyPost_ret (results_cell_row rfl _ _ w.heap.size 50 #[.bool neg,.slice va vl vc,.int .i64 (e+t)] (0,0) _ rfl (store3 _ _ _ HH3.out) Tryz.underlying50 rfl Tryz.info50) rfl ?_
 have hx:=HX.out
 exact⟨_,rfl,(own_store3 HO.out (by omega) _ _ _).mono (by omega),below_store3 (HB0.out.trans (HB.out.mono (by omega))) (Nat.le_refl _) _ _ _⟩
def Mk25 (w w':World) (neg:Bool) (x:Nat) (e:Int) (r:Ending):Prop :=
 (okR neg x e=true∧∃ A,r=.returned (.tuple #[A,.int .i64 0])∧Nrm w' w.heap.size A neg x e)∨(okR neg x e=false∧r=.returned (.tuple #[.agg #[.bool false,.slice none 0 0,.int .i64 0],.int .i64 2]))
theorem c15_0 (neg:Bool) (ao:Option Addr) (n cap:Nat) (e:Int) (w:World) (h:At w ao n 0) (hn:n≤cap) (hc:n≤70368744177664) :
  Calls Tryz.prog 138 #[.bool neg,.slice ao n cap,.int .i64 e] w fun r w'=>Mk25 w w' neg 0 e r∧Bw w w':=by
 have HB:Hid (Below w.heap.size w (w.alloc (.cells #[.bool false,.slice none 0 0,.int .i64 0] 50))):=(Below.refl _ _).alloc (Nat.le_refl _) _
 have k:=c62 ao n cap 0 (w.alloc (.cells #[.bool false,.slice none 0 0,.int .i64 0] 50)) (by rw[dlen_zero];omega) hn hc (h.later HB.out)
 rw[dlen_zero] at k
 clear h
 go_enter Tryz.func138,Tryz.ntmps138
 go_wp2_with fail
 refine k.mono ?_
 rintro r w1 ⟨rfl,rfl⟩
 go_wp2
 refine bodyPost_ret (results_cell_tmp_row rfl _ _ w.heap.size 50 #[.bool false,.slice none 0 0,.int .i64 0] (0,0) _ rfl (heap_alloc_new _ _) Tryz.underlying50 rfl Tryz.info50) rfl ?_
 refine⟨?_,HB.out⟩
 unfold Mk25
 exact .inl ⟨by unfold okR;rw[if_pos rfl],_,rfl,.inl ⟨rfl,rfl⟩⟩
theorem okR_bad {neg:Bool} {x:Nat} {e:Int} (hx:x≠0) (h:e > 65536∨e < -65536 - 32*(dlen x:Int)):okR neg x e=false:=by
 have ht:=tz_in' hx
 unfold okR okN
 rw[if_neg hx]
 have hy:dlen (x / 2^tz x)≠0:=by
  intro e0
  have:=(tz_spec _ x (Nat.le_refl _) hx).2
  rw[dlen_eq_zero.1 e0] at this
  simp at this
 rw[if_neg hy]
 simp only[Bool.and_eq_false_iff,decide_eq_false_iff_not]
 rcases h with h|h
 ·exact .inr (by omega)
 ·exact .inl (.inr (by omega))
theorem c15_1 (neg:Bool) (b o n cap x:Nat) (e:Int) (w:World) (hcell:∀ i,i<n→w.cell? ⟨b,o+i,none⟩=some (.int .u32 (dg x i:Nat))) (hxn:dlen x≤n) (hn:n≤cap) (hc2:cap≤9223372036854775807) (hc:n≤1000000000) (hx0:x≠0) (he : -9223372036854775808≤e∧e≤9223372036854775807) (hT:Tab32 w) :
  Calls Tryz.prog 138 #[.bool neg,.slice (some ⟨b,o,none⟩) n cap,.int .i64 e] w fun r w'=>Mk25 w w' neg x e r∧Bw w w':=by
 obtain⟨W,hW⟩:∃ W,W=w.alloc (.cells #[.bool false,.slice none 0 0,.int .i64 0] 50):=⟨_,rfl⟩
 have hBW:Bw w W:=by rw[hW];exact(Below.refl _ _).alloc (Nat.le_refl _) _
 have hcW:∀ i,i<n→W.cell? ⟨b,o+i,none⟩=some (.int .u32 (dg x i:Nat)):=fun i hi=>(hBW.cell (World.block_lt_of_cell? _ _ (hcell i hi))).trans (hcell i hi)
 have k38:=c62 (some ⟨b,o,none⟩) n cap x W hxn hn (by omega) ⟨b,o,fun _=>rfl,hcW⟩
 have HX:Hid (Bw w W∧W.heap.size=w.heap.size+1∧W.heap[w.heap.size]?=some (.cells #[.bool false,.slice none 0 0,.int .i64 0] 50 (0,0))):=⟨hBW,by rw[hW];simp,by rw[hW];exact heap_alloc_new _ _⟩
 obtain⟨he1,he2⟩:=he
 have hl0:dlen x≠0:=fun e=>hx0 (dlen_eq_zero.1 e)
 have hlb:dlen x≤1000000000:=by omega
 have hn0:((dlen x:Int)==0)=false:=by simp;omega
 by_cases hbad:e > 65536∨e < -65536 - 32*(dlen x:Int)
 ·have HO:Hid (okR neg x e=false):=okR_bad hx0 hbad
  clear hcell hcW hBW hT hx0
  generalize dlen x=L at *
  obtain⟨⟨a0,a1,a2⟩,a3,a4,a5⟩:=box_cells HX.out.2.2
  rcases hbad with hbad|hbad
  ·go_enter Tryz.func138,Tryz.ntmps138
   go_wp2_with fail
   rw[←hW]
   clear hW
   refine k38.mono ?_
   rintro r w1 ⟨rfl,hw1⟩
   replace hw1:=hw1.symm
   subst hw1
   clear k38
   go_wp2_with fail
   refine bodyPost_ret (results_cell_tmp_row rfl _ _ w.heap.size 50 #[.bool false,.slice none 0 0,.int .i64 0] (0,0) _ rfl (store3 _ _ _ HX.out.2.2) Tryz.underlying50 rfl Tryz.info50) rfl ?_
   refine⟨?_,below_store3 HX.out.1 (Nat.le_refl _) _ _ _⟩
   unfold Mk25
   exact .inr ⟨HO.out,rfl⟩
  ·have hnb:¬ e > 65536:=by omega
   go_enter Tryz.func138,Tryz.ntmps138
   go_wp2_with fail
   rw[←hW]
   clear hW
   refine k38.mono ?_
   rintro r w1 ⟨rfl,hw1⟩
   replace hw1:=hw1.symm
   subst hw1
   clear k38
   go_wp2_with fail
   refine bodyPost_ret (results_cell_tmp_row rfl _ _ w.heap.size 50 #[.bool false,.slice none 0 0,.int .i64 0] (0,0) _ rfl (store3 _ _ _ HX.out.2.2) Tryz.underlying50 rfl Tryz.info50) rfl ?_
   refine⟨?_,below_store3 HX.out.1 (Nat.le_refl _) _ _ _⟩
   unfold Mk25
   exact .inr ⟨HO.out,rfl⟩
 ·have h1:¬ e > 65536:=fun h=>hbad (.inl h)
  have h2:¬ e < -65536 - 32*(dlen x:Int):=fun h=>hbad (.inr h)
  have k31:=c56_v neg b o (dlen x) cap x e W (fun i hi=>hcW i (by omega)) (by omega) hc2 rfl (by omega) hx0 (hT.later hBW) (by omega)
  have HN0:Hid (x≠0∧dlen x≤35184372088832):=⟨hx0,by omega⟩
  clear hcell hcW hBW hT hx0 hbad
  generalize hLx:dlen x=L at *
  have HLx:Hid (dlen x=L):=hLx
  clear hLx
  go_enter Tryz.func138,Tryz.ntmps138
  go_wp2_with fail
  rw[←hW]
  clear hW
  refine k38.mono ?_
  rintro r w1 ⟨rfl,hw1⟩
  replace hw1:=hw1.symm
  subst hw1
  clear k38
  go_wp2_with fail
  refine k31.mono ?_
  rintro r w2 ⟨v,rfl,ho,hb2⟩
  obtain⟨va,vk,rfl,-,-,-⟩:=ho.is
  have HN:Hid (Nrm w2 W.heap.size (.agg #[.bool neg,.slice va (dlen (x / 2^tz x)) vk,.int .i64 (e+tz x)]) neg x e):=(.inr ⟨HN0.out.1,_,rfl,ho⟩:Nrm w2 W.heap.size (.agg #[.bool neg,.slice va (dlen (x / 2^tz x)) vk,.int .i64 (e+tz x)]) neg x e)
  have HB2:Hid (Bw W w2):=hb2
  have k39:=c63n HN.out (by rw[HLx.out];exact HN0.out.2)
  clear k31 ho hb2
  go_wp2_with fail
  refine k39.mono ?_
  rintro r w3 ⟨rfl,hb3⟩
  have HB3:Hid (Bw W w3):=HB2.out.trans (hb3.mono HB2.out.size)
  have HN3:Hid (Nrm w3 W.heap.size (.agg #[.bool neg,.slice va (dlen (x / 2^tz x)) vk,.int .i64 (e+tz x)]) neg x e):=HN.out.later hb3
  have HC3:Hid (w3.heap[w.heap.size]?=some (.cells #[.bool false,.slice none 0 0,.int .i64 0] 50 (0,0))):=box_later HX.out.2.2 HB3.out (by have:=HX.out.2.1;omega)
  obtain⟨⟨x1,x2,x3⟩,x4,x5,x6⟩:=box_cells HC3.out
  clear k39 hb3
  cases hok:okR neg x e
  ·have HOK:Hid (okR neg x e=false):=hok
   have hNil:Nil=.agg #[.bool false,.slice none 0 0,.int .i64 0]:=rfl
   go_wp2
   refine bodyPost_ret (results_cell_tmp_row rfl _ _ w.heap.size 50 #[.bool false,.slice none 0 0,.int .i64 0] (0,0) _ rfl (store3 _ _ _ HC3.out) Tryz.underlying50 rfl Tryz.info50) rfl ?_
   refine⟨?_,below_store3 (HX.out.1.trans (HB3.out.mono HX.out.1.size)) (Nat.le_refl _) _ _ _⟩
   unfold Mk25
   exact .inr ⟨HOK.out,rfl⟩
  ·have HOK:Hid (okR neg x e=true):=hok
   go_wp2
   refine bodyPost_ret (results_cell_tmp_row rfl _ _ w.heap.size 50 #[.bool neg,.slice va (dlen (x / 2^tz x)) vk,.int .i64 (e+tz x)] (0,0) _ rfl (store3 _ _ _ HC3.out) Tryz.underlying50 rfl Tryz.info50) rfl ?_
   refine⟨?_,below_store3 (HX.out.1.trans (HB3.out.mono HX.out.1.size)) (Nat.le_refl _) _ _ _⟩
   unfold Mk25
   have hn3:=HN3.out
   exact .inl ⟨HOK.out,_,rfl,(hn3.store (by have:=HX.out.2.1;omega) _ _ _).mono (by have:=HX.out.2.1;omega)⟩
end Go.Proofs.YtfkaogdmlcdceaaGreatDoor
namespace Go.Proofs.YtfkaogdmlcdceaaGreatDoor
open Go.RowKit Go.Fl64
theorem of_parts (a m:Nat) (ha:a<18446744073709551616) (hf:mag a<9218868437227405312) (hm:Ie.sM a=(m:Int)) :
  (m=0∧Ie.mant a=0)∨(m≠0∧Ie.mant a≠0∧neg a=neg a∧m / 2^tz m=Ie.mant a / 2^tz (Ie.mant a)∧Ie.sE a+(tz m:Int)=Ie.lp a+(tz (Ie.mant a):Int)):=by
 unfold Ie.sM at hm
 unfold Ie.sE
 rw[if_neg (by omega)] at hm ⊢
 by_cases h0:mag a=0
 ·rw[if_pos h0] at hm
  exact .inl ⟨by omega,by unfold Ie.mant;rw[if_pos (by omega)];exact h0⟩
 ·rw[if_neg h0] at hm ⊢
  have hb:=Ie.mant_bound a
  have hne:=Ie.mant_ne h0
  have hct:Lib.ctz 64 (Ie.mant a)=tz (Ie.mant a):=tz_ctz hne (by omega)
  rw[hct] at hm ⊢
  have e1:m=Ie.mant a / 2^tz (Ie.mant a):=by
   have:((Ie.mant a / 2^tz (Ie.mant a):Nat):Int)=(m:Int):=by rw[←hm];simp
   omega
  obtain⟨h1,h2⟩:=tz_spec _ (Ie.mant a) (Nat.le_refl _) hne
  rw[←e1] at h2
  have e2:tz m=0:=tz_odd h2
  refine .inr ⟨by intro e;rw[e] at h2;simp at h2,hne,rfl,?_,?_⟩
  ·rw[e2,←e1];simp
  ·rw[e2];simp
end Go.Proofs.YtfkaogdmlcdceaaGreatDoor
namespace Go.Proofs.YtfkaogdmlcdceaaGreatDoor
open Go.RowKit
theorem abs_no (na:Bool) (ua:Option Addr) (un uc:Nat) (ea:Int) (w:World)
  (k43:∀ W g,Bw w W→W.heap[g]?=some (.cells #[.bool na,.slice ua un uc,.int .i64 ea] 50 (0,0))→Calls Tryz.prog 128 #[.slice (some ⟨g,0,none⟩) 1 1] W fun r w'=>r=.returned (.bool false)∧Bw W w') :
  Calls Tryz.prog 61 #[.agg #[.bool na,.slice ua un uc,.int .i64 ea]] w fun r w'=>r=.returned (.agg #[.bool false,.slice none 0 0,.int .i64 0])∧Bw w w':=by
 obtain⟨W,hW⟩:∃ W,W=(w.alloc (.cells #[.bool na,.slice ua un uc,.int .i64 ea] 50)).alloc (.cells #[.bool false,.slice none 0 0,.int .i64 0] 50):=⟨_,rfl⟩
 have hBW:Bw w W:=by rw[hW];exact((Below.refl _ _).alloc (Nat.le_refl _) _).alloc (by simp) _
 have hbB:W.heap[w.heap.size+1]?=some (.cells #[.bool false,.slice none 0 0,.int .i64 0] 50 (0,0)):=by
  have:=heap_alloc_new (w.alloc (.cells #[.bool na,.slice ua un uc,.int .i64 ea] 50)) (.cells #[.bool false,.slice none 0 0,.int .i64 0] 50)
  rw[hW];simpa using this
 have hsz:W.heap.size=w.heap.size+1+1:=by rw[hW];simp
 have k1:=k43 (W.alloc (.cells #[.bool na,.slice ua un uc,.int .i64 ea] 50)) (w.heap.size+1+1) (hBW.alloc hBW.size _) (by rw[←hsz];exact heap_alloc_new _ _)
 have HX:Hid (Bw w W∧W.heap.size=w.heap.size+1+1∧W.heap[w.heap.size+1]?=some (.cells #[.bool false,.slice none 0 0,.int .i64 0] 50 (0,0))):=⟨hBW,hsz,hbB⟩
 clear hBW hsz hbB k43
 go_enter Tryz.func61,Tryz.ntmps61
 go_wp2_with fail
 rw[←hW]
 clear hW
 refine k1.mono ?_
 rintro r w1 ⟨rfl,hb1⟩
 have HB1:Hid (Bw W w1):=((Below.refl W.heap.size W).alloc (Nat.le_refl _) _).trans (hb1.mono (by simp))
 have HC:Hid (w1.heap[w.heap.size+1]?=some (.cells #[.bool false,.slice none 0 0,.int .i64 0] 50 (0,0))):=box_later HX.out.2.2 HB1.out (by have:=HX.out.2.1;omega)
 obtain⟨⟨x1,x2,x3⟩,x4,x5,x6⟩:=box_cells HC.out
 clear k1 hb1
 go_wp2
 refine bodyPost_ret (results_cell_row rfl _ _ (w.heap.size+1) 50 #[.bool false,.slice none 0 0,.int .i64 0] (0,0) _ rfl (store3 _ _ _ HC.out) Tryz.underlying50 rfl Tryz.info50) rfl ?_
 obtain⟨q1,q2,-⟩:=HX.out
 exact⟨rfl,below_store3 (q1.trans (HB1.out.mono q1.size)) (by omega) _ _ _⟩
theorem abs_1 (na:Bool) (ua:Option Addr) (un uc x:Nat) (ea:Int) (w:World) (h1:Is w (.slice ua un uc) x) (hx:dlen x≤1000000)
  (k43:∀ W g,Bw w W→W.heap[g]?=some (.cells #[.bool na,.slice ua un uc,.int .i64 ea] 50 (0,0))→Calls Tryz.prog 128 #[.slice (some ⟨g,0,none⟩) 1 1] W fun r w'=>r=.returned (.bool true)∧Bw W w') :
  Calls Tryz.prog 61 #[.agg #[.bool na,.slice ua un uc,.int .i64 ea]] w fun r w'=>∃ v,r=.returned (.agg #[.bool false,v,.int .i64 ea])∧Own w' w.heap.size v x∧Bw w w':=by
 obtain⟨W,hW⟩:∃ W,W=(w.alloc (.cells #[.bool na,.slice ua un uc,.int .i64 ea] 50)).alloc (.cells #[.bool false,.slice none 0 0,.int .i64 0] 50):=⟨_,rfl⟩
 have hBW:Bw w W:=by rw[hW];exact((Below.refl _ _).alloc (Nat.le_refl _) _).alloc (by simp) _
 have hbA:W.heap[w.heap.size]?=some (.cells #[.bool na,.slice ua un uc,.int .i64 ea] 50 (0,0)):=by
  rw[hW,Below.heap_alloc _ _ _ (by simp)];exact heap_alloc_new _ _
 have hbB:W.heap[w.heap.size+1]?=some (.cells #[.bool false,.slice none 0 0,.int .i64 0] 50 (0,0)):=by
  have:=heap_alloc_new (w.alloc (.cells #[.bool na,.slice ua un uc,.int .i64 ea] 50)) (.cells #[.bool false,.slice none 0 0,.int .i64 0] 50)
  rw[hW];simpa using this
 have hsz:W.heap.size=w.heap.size+1+1:=by rw[hW];simp
 have k1:=k43 (W.alloc (.cells #[.bool na,.slice ua un uc,.int .i64 ea] 50)) (w.heap.size+1+1) (hBW.alloc hBW.size _) (by rw[←hsz];exact heap_alloc_new _ _)
 have HX:Hid (Bw w W∧W.heap.size=w.heap.size+1+1∧W.heap[w.heap.size]?=some (.cells #[.bool na,.slice ua un uc,.int .i64 ea] 50 (0,0))∧W.heap[w.heap.size+1]?=some (.cells #[.bool false,.slice none 0 0,.int .i64 0] 50 (0,0))):=⟨hBW,hsz,hbA,hbB⟩
 have HI:Hid (Is w (.slice ua un uc) x∧dlen x≤1000000):=⟨h1,hx⟩
 clear hBW hsz hbA hbB k43 h1 hx
 go_enter Tryz.func61,Tryz.ntmps61
 go_wp2_with fail
 rw[←hW]
 clear hW
 refine k1.mono ?_
 rintro r w1 ⟨rfl,hb1⟩
 have HB1:Hid (Bw W w1):=((Below.refl W.heap.size W).alloc (Nat.le_refl _) _).trans (hb1.mono (by simp))
 have H3:Hid (w1.heap[w.heap.size]?=some (.cells #[.bool na,.slice ua un uc,.int .i64 ea] 50 (0,0))∧w1.heap[w.heap.size+1]?=some (.cells #[.bool false,.slice none 0 0,.int .i64 0] 50 (0,0))∧w.heap.size+1+1≤w1.heap.size∧Bw w w1):=⟨box_later HX.out.2.2.1 HB1.out (by have:=HX.out.2.1;omega),box_later HX.out.2.2.2 HB1.out (by have:=HX.out.2.1;omega),by have:=HB1.out.size;have:=HX.out.2.1;omega,HX.out.1.trans (HB1.out.mono HX.out.1.size)⟩
 clear k1 hb1
 have HK:Hid (∀ w',Below (w.heap.size+1) w1 w'→(w'.cell? ⟨w.heap.size,0,none⟩=some (.bool na)∧w'.cell? ⟨w.heap.size,1,none⟩=some (.slice ua un uc)∧w'.cell? ⟨w.heap.size,2,none⟩=some (.int .i64 ea))):=fun w' hb=>(box_cells (box_later H3.out.1 hb (by omega))).1
 have kC:∀ w4,Bw w1 w4→Calls Tryz.prog 129 #[.slice ua un uc] w4 fun r w'=>∃ ao n cap,r=.returned (.slice ao n cap)∧Own w' w1.heap.size (.slice ao n cap) x∧Bw w1 w':=fun w4 hb =>
  (clone_ok ((HI.out.1.later H3.out.2.2.2).later hb) (by have:=HI.out.2;omega)).mono fun r w' ⟨v,e1,o1,o2⟩=>by
   obtain⟨ao,cap,rfl,-,-,-⟩:=o1.is
   exact⟨_,_,_,e1,o1.mono hb.size,hb.trans (o2.mono hb.size)⟩
 have hBR:Bw w1 w1.drew:=(Below.refl _ _).drew
 have hBR1:Below (w.heap.size+1) w1 w1.drew:=(Below.refl _ _).drew
 have H1:Hid (w.heap.size+1≤w1.heap.size):=(by have:=H3.out.2.2.1;omega:w.heap.size+1≤w1.heap.size)
 go_upto_region 3 with fail
 go_region_held3 (fun w'=>w'.cell? ⟨w.heap.size,0,none⟩=some (.bool na)∧w'.cell? ⟨w.heap.size,1,none⟩=some (.slice ua un uc)∧w'.cell? ⟨w.heap.size,2,none⟩=some (.int .i64 ea)) (first|(with_reducible assumption)|exact HK.out _ hBR1|(refine HK.out _ (Below.mono ?_ H1.out);with_reducible assumption)|(refine HK.out _ (below_store3 (Below.mono hb5 H1.out) (Nat.le_refl _) _ _ _))|go_keep)
  (first|(go_at_call 129;refine(kC _ (by first|(with_reducible assumption)|exact hBR)).mono ?_;rintro r w5 ⟨ao5,n5,cap5,rfl,ho5,hb5⟩;have hblk5:=box_later H3.out.2.1 hb5 (by have:=H3.out.2.2.1;omega);obtain⟨⟨x1,x2,x3⟩,x4,x5,x6⟩:=box_cells hblk5))
 have HF:Hid (Bw w1 w5∧Own w5 w1.heap.size (.slice ao5 n5 cap5) x∧w5.heap[w.heap.size+1]?=some (.cells #[.bool false,.slice none 0 0,.int .i64 0] 50 (0,0))):=⟨hb5,ho5,hblk5⟩
 clear ho5 hb5 hblk5 x1 x2 x3 x4 x5 x6 kC HK hBR hBR1
 go_wp2
 refine bodyPost_ret (results_cell_row rfl _ _ (w.heap.size+1) 50 #[.bool false,.slice ao5 n5 cap5,.int .i64 ea] (0,0) _ rfl (store3 _ _ _ HF.out.2.2) Tryz.underlying50 rfl Tryz.info50) rfl ?_
 obtain⟨-,-,q2,q1⟩:=H3.out
 exact⟨_,rfl,(own_store3 HF.out.2.1 (by omega) _ _ _).mono (by omega),below_store3 (q1.trans (HF.out.1.mono q1.size)) (by omega) _ _ _⟩
theorem negw_1 (na:Bool) (ua:Option Addr) (un uc x:Nat) (ea:Int) (nn:Bool) (w:World)
  (k43:∀ W g,Bw w W→W.heap[g]?=some (.cells #[.bool na,.slice ua un uc,.int .i64 ea] 50 (0,0))→Calls Tryz.prog 128 #[.slice (some ⟨g,0,none⟩) 1 1] W fun r w'=>r=.returned (.bool true)∧Bw W w')
  (kN:∀ W,Bw w W→Calls Tryz.prog 178 #[.agg #[.bool na,.slice ua un uc,.int .i64 ea]] W fun r w'=>∃ v,r=.returned (.agg #[.bool nn,v,.int .i64 ea])∧Own w' W.heap.size v x∧Bw W w') :
  Calls Tryz.prog 123 #[.agg #[.bool na,.slice ua un uc,.int .i64 ea]] w fun r w'=>∃ v,r=.returned (.agg #[.bool nn,v,.int .i64 ea])∧Own w' w.heap.size v x∧Bw w w':=by
 obtain⟨W,hW⟩:∃ W,W=(w.alloc (.cells #[.bool na,.slice ua un uc,.int .i64 ea] 50)).alloc (.cells #[.bool false,.slice none 0 0,.int .i64 0] 50):=⟨_,rfl⟩
 have hBW:Bw w W:=by rw[hW];exact((Below.refl _ _).alloc (Nat.le_refl _) _).alloc (by simp) _
 have hbA:W.heap[w.heap.size]?=some (.cells #[.bool na,.slice ua un uc,.int .i64 ea] 50 (0,0)):=by
  rw[hW,Below.heap_alloc _ _ _ (by simp)];exact heap_alloc_new _ _
 have hbB:W.heap[w.heap.size+1]?=some (.cells #[.bool false,.slice none 0 0,.int .i64 0] 50 (0,0)):=by
  have:=heap_alloc_new (w.alloc (.cells #[.bool na,.slice ua un uc,.int .i64 ea] 50)) (.cells #[.bool false,.slice none 0 0,.int .i64 0] 50)
  rw[hW];simpa using this
 have hsz:W.heap.size=w.heap.size+1+1:=by rw[hW];simp
 have k1:=k43 (W.alloc (.cells #[.bool na,.slice ua un uc,.int .i64 ea] 50)) (w.heap.size+1+1) (hBW.alloc hBW.size _) (by rw[←hsz];exact heap_alloc_new _ _)
 have HX:Hid (Bw w W∧W.heap.size=w.heap.size+1+1∧W.heap[w.heap.size]?=some (.cells #[.bool na,.slice ua un uc,.int .i64 ea] 50 (0,0))∧W.heap[w.heap.size+1]?=some (.cells #[.bool false,.slice none 0 0,.int .i64 0] 50 (0,0))):=⟨hBW,hsz,hbA,hbB⟩
 have HKN:Hid _:=kN
 clear hBW hsz hbA hbB k43 kN
 go_enter Tryz.func123,Tryz.ntmps123
 go_wp2_with fail
 rw[←hW]
 clear hW
 refine k1.mono ?_
 rintro r w1 ⟨rfl,hb1⟩
 have HB1:Hid (Bw W w1):=((Below.refl W.heap.size W).alloc (Nat.le_refl _) _).trans (hb1.mono (by simp))
 have HW1:Hid (Bw w w1):=HX.out.1.trans (HB1.out.mono HX.out.1.size)
 obtain⟨⟨a0,a1,a2⟩,-⟩:=box_cells (box_later HX.out.2.2.1 HB1.out (by have:=HX.out.2.1;omega))
 have k2:=HKN.out w1 HW1.out
 clear k1 hb1
 go_wp2_with fail
 refine k2.mono ?_
 rintro r w2 ⟨v,rfl,ho,hb2⟩
 obtain⟨ao,cap,rfl,-,-,-⟩:=ho.is
 generalize dlen x=n2 at *
 have HC:Hid (w2.heap[w.heap.size+1]?=some (.cells #[.bool false,.slice none 0 0,.int .i64 0] 50 (0,0))):=box_later HX.out.2.2.2 (HB1.out.trans (hb2.mono HB1.out.size)) (by have:=HX.out.2.1;omega)
 have HF:Hid (Own w2 w1.heap.size (.slice ao n2 cap) x∧Bw w w2∧w.heap.size+1<w1.heap.size):=⟨ho,HW1.out.trans (hb2.mono HW1.out.size),by have:=HB1.out.size;have:=HX.out.2.1;omega⟩
 obtain⟨⟨x1,x2,x3⟩,x4,x5,x6⟩:=box_cells HC.out
 clear k2 ho hb2 a0 a1 a2
 go_wp2
 refine bodyPost_ret (results_cell_row rfl _ _ (w.heap.size+1) 50 #[.bool nn,.slice ao n2 cap,.int .i64 ea] (0,0) _ rfl (store3 _ _ _ HC.out) Tryz.underlying50 rfl Tryz.info50) rfl ?_
 exact⟨_,rfl,(own_store3 HF.out.1 HF.out.2.2 _ _ _).mono (by have:=HF.out.2.2;omega),below_store3 HF.out.2.1 (by omega) _ _ _⟩
theorem abs_ok {na:Bool} {ua:Option Addr} {uc x:Nat} {ea:Int} {w:World} (h1:Is w (.slice ua (dlen x) uc) x) (hx:dlen x≤1000000) (hoka:okN na (dlen x) x ea=true) :
  Calls Tryz.prog 61 #[.agg #[.bool na,.slice ua (dlen x) uc,.int .i64 ea]] w fun r w'=>∃ v,r=.returned (.agg #[.bool false,v,.int .i64 ea])∧Own w' w.heap.size v x∧Bw w w' :=
 abs_1 na ua _ uc x ea w h1 hx (fun W g hW hg=>by
  have:=maybe1 hg (h1.later hW) (by omega)
  rw[hoka] at this
  exact this)
theorem negw_ok {na:Bool} {ua:Option Addr} {uc x:Nat} {ea:Int} {w:World} (h1:Is w (.slice ua (dlen x) uc) x) (hx:dlen x≤1000000) (hoka:okN na (dlen x) x ea=true) :
  Calls Tryz.prog 123 #[.agg #[.bool na,.slice ua (dlen x) uc,.int .i64 ea]] w fun r w'=>∃ v,r=.returned (.agg #[.bool (!na&&decide (0<dlen x)),v,.int .i64 ea])∧Own w' w.heap.size v x∧Bw w w' :=
 negw_1 na ua _ uc x ea _ w (fun W g hW hg=>by
  have:=maybe1 hg (h1.later hW) (by omega)
  rw[hoka] at this
  exact this) (fun W hW=>neg_ok (h1.later hW) (by omega))
theorem sub_no (na nb:Bool) (ua va:Option Addr) (un uc vn vc:Nat) (ea eb:Int) (w:World)
  (k67:∀ W g,Bw w W→W.heap[g]?=some (.cells #[.bool na,.slice ua un uc,.int .i64 ea,.bool nb,.slice va vn vc,.int .i64 eb] 50 (0,0))→Calls Tryz.prog 128 #[.slice (some ⟨g,0,none⟩) 2 2] W fun r w'=>r=.returned (.bool false)∧Bw W w') :
  Calls Tryz.prog 161 #[NumV na (.slice ua un uc) ea,NumV nb (.slice va vn vc) eb] w fun r w'=>r=.returned (.tuple #[Nil,.int .i64 1])∧Bw w w':=by
 obtain⟨W,hW⟩:∃ W,W=((w.alloc (.cells #[.bool na,.slice ua un uc,.int .i64 ea] 50)).alloc (.cells #[.bool nb,.slice va vn vc,.int .i64 eb] 50)).alloc (.cells #[.bool false,.slice none 0 0,.int .i64 0] 50):=⟨_,rfl⟩
 obtain⟨hA,hBb,hC,hsz,hBW⟩:=boxes3 _ _ _ hW
 have hB4:Below w.heap.size w (W.alloc (.cells #[.bool na,.slice ua un uc,.int .i64 ea,.bool nb,.slice va vn vc,.int .i64 eb] 50)):=hBW.alloc hBW.size _
 have k1:=k67 (W.alloc (.cells #[.bool na,.slice ua un uc,.int .i64 ea,.bool nb,.slice va vn vc,.int .i64 eb] 50)) (w.heap.size+1+1+1) hB4 (by rw[←hsz];exact heap_alloc_new _ _)
 have HH:Hid (W.heap[w.heap.size+1+1]?=some (.cells #[.bool false,.slice none 0 0,.int .i64 0] 50 (0,0))∧W.heap.size=w.heap.size+1+1+1∧Bw w W∧Below W.heap.size W (W.alloc (.cells #[.bool na,.slice ua un uc,.int .i64 ea,.bool nb,.slice va vn vc,.int .i64 eb] 50))):=⟨hC,hsz,hBW,(Below.refl _ _).alloc (Nat.le_refl _) _⟩
 unfold NumV
 clear hA hBb hC hsz hBW hB4 k67
 go_enter Tryz.func161,Tryz.ntmps161
 go_wp2_with fail
 rw[←hW]
 clear hW
 refine k1.mono ?_
 rintro r w1 ⟨rfl,hB1⟩
 clear k1
 have hBW1:Bw W w1:=HH.out.2.2.2.trans (hB1.mono HH.out.2.2.2.size)
 have HC3:Hid (w1.heap[w.heap.size+1+1]?=some (.cells #[.bool false,.slice none 0 0,.int .i64 0] 50 (0,0))):=box_later HH.out.1 hBW1 (by have:=HH.out.2.1;omega)
 have HB1:Hid (Bw W w1):=hBW1
 obtain⟨⟨x1,x2,x3⟩,x4,x5,x6⟩:=box_cells HC3.out
 clear hB1 hBW1
 go_wp2
 refine bodyPost_ret (results_cell_tmp_row rfl _ _ (w.heap.size+1+1) 50 #[.bool false,.slice none 0 0,.int .i64 0] (0,0) _ rfl (store3 _ _ _ HC3.out) Tryz.underlying50 rfl Tryz.info50) rfl ?_
 obtain⟨b1,b2,b3,b4⟩:=HH.out
 exact⟨rfl,below_store3 (b3.trans (HB1.out.mono b3.size)) (by omega) _ _ _⟩
theorem shift_0 (na:Bool) (ua:Option Addr) (un uc:Nat) (ea k0:Int) (w:World) (k43:∀ W g,Bw w W→W.heap[g]?=some (.cells #[.bool na,.slice ua un uc,.int .i64 ea] 50 (0,0))→Calls Tryz.prog 128 #[.slice (some ⟨g,0,none⟩) 1 1] W fun r w'=>r=.returned (.bool false)∧Bw W w') :
  Calls Tryz.prog 204 #[.agg #[.bool na,.slice ua un uc,.int .i64 ea],.int .i64 k0] w fun r w'=>r=.returned (.tuple #[.agg #[.bool false,.slice none 0 0,.int .i64 0],.int .i64 1])∧Bw w w':=by
 obtain⟨W,hW⟩:∃ W,W=(w.alloc (.cells #[.bool na,.slice ua un uc,.int .i64 ea] 50)).alloc (.cells #[.bool false,.slice none 0 0,.int .i64 0] 50):=⟨_,rfl⟩
 have hBW:Bw w W:=by rw[hW];exact((Below.refl _ _).alloc (Nat.le_refl _) _).alloc (by simp) _
 have hbA:W.heap[w.heap.size]?=some (.cells #[.bool na,.slice ua un uc,.int .i64 ea] 50 (0,0)):=by
  rw[hW,Below.heap_alloc _ _ _ (by simp)];exact heap_alloc_new _ _
 have hbB:W.heap[w.heap.size+1]?=some (.cells #[.bool false,.slice none 0 0,.int .i64 0] 50 (0,0)):=by
  have:=heap_alloc_new (w.alloc (.cells #[.bool na,.slice ua un uc,.int .i64 ea] 50)) (.cells #[.bool false,.slice none 0 0,.int .i64 0] 50)
  rw[hW];simpa using this
 have hsz:W.heap.size=w.heap.size+1+1:=by rw[hW];simp
 have k1:=k43 (W.alloc (.cells #[.bool na,.slice ua un uc,.int .i64 ea] 50)) (w.heap.size+1+1) (hBW.alloc hBW.size _) (by rw[←hsz];exact heap_alloc_new _ _)
 have HX:Hid (Bw w W∧W.heap.size=w.heap.size+1+1∧W.heap[w.heap.size]?=some (.cells #[.bool na,.slice ua un uc,.int .i64 ea] 50 (0,0))∧W.heap[w.heap.size+1]?=some (.cells #[.bool false,.slice none 0 0,.int .i64 0] 50 (0,0))):=⟨hBW,hsz,hbA,hbB⟩
 clear hBW hsz hbA hbB k43
 go_enter Tryz.func204,Tryz.ntmps204
 go_wp2_with fail
 rw[←hW]
 clear hW
 refine k1.mono ?_
 rintro r w1 ⟨rfl,hb1⟩
 have HB1:Hid (Bw W w1):=((Below.refl W.heap.size W).alloc (Nat.le_refl _) _).trans (hb1.mono (by simp))
 have H3:Hid (w1.heap[w.heap.size]?=some (.cells #[.bool na,.slice ua un uc,.int .i64 ea] 50 (0,0))∧w1.heap[w.heap.size+1]?=some (.cells #[.bool false,.slice none 0 0,.int .i64 0] 50 (0,0))∧w.heap.size+1+1≤w1.heap.size∧Bw w w1):=⟨box_later HX.out.2.2.1 HB1.out (by have:=HX.out.2.1;omega),box_later HX.out.2.2.2 HB1.out (by have:=HX.out.2.1;omega),by have:=HB1.out.size;have:=HX.out.2.1;omega,HX.out.1.trans (HB1.out.mono HX.out.1.size)⟩
 clear k1 hb1
 obtain⟨⟨a0,a1,a2⟩,-⟩:=box_cells H3.out.1
 obtain⟨⟨x1,x2,x3⟩,x4,x5,x6⟩:=box_cells H3.out.2.1
 go_wp2
 refine bodyPost_ret (results_cell_tmp_row rfl _ _ (w.heap.size+1) 50 #[.bool false,.slice none 0 0,.int .i64 0] (0,0) _ rfl (store3 _ _ _ H3.out.2.1) Tryz.underlying50 rfl Tryz.info50) rfl ?_
 exact⟨rfl,below_store3 H3.out.2.2.2 (by omega) _ _ _⟩
theorem shift_1 (na:Bool) (ua:Option Addr) (uc:Nat) (ea k0:Int) (w:World) (k43:∀ W g,Bw w W→W.heap[g]?=some (.cells #[.bool na,.slice ua 0 uc,.int .i64 ea] 50 (0,0))→Calls Tryz.prog 128 #[.slice (some ⟨g,0,none⟩) 1 1] W fun r w'=>r=.returned (.bool true)∧Bw W w') :
  Calls Tryz.prog 204 #[.agg #[.bool na,.slice ua 0 uc,.int .i64 ea],.int .i64 k0] w fun r w'=>r=.returned (.tuple #[.agg #[.bool false,.slice none 0 0,.int .i64 0],.int .i64 0])∧Bw w w':=by
 obtain⟨W,hW⟩:∃ W,W=(w.alloc (.cells #[.bool na,.slice ua 0 uc,.int .i64 ea] 50)).alloc (.cells #[.bool false,.slice none 0 0,.int .i64 0] 50):=⟨_,rfl⟩
 have hBW:Bw w W:=by rw[hW];exact((Below.refl _ _).alloc (Nat.le_refl _) _).alloc (by simp) _
 have hbA:W.heap[w.heap.size]?=some (.cells #[.bool na,.slice ua 0 uc,.int .i64 ea] 50 (0,0)):=by
  rw[hW,Below.heap_alloc _ _ _ (by simp)];exact heap_alloc_new _ _
 have hbB:W.heap[w.heap.size+1]?=some (.cells #[.bool false,.slice none 0 0,.int .i64 0] 50 (0,0)):=by
  have:=heap_alloc_new (w.alloc (.cells #[.bool na,.slice ua 0 uc,.int .i64 ea] 50)) (.cells #[.bool false,.slice none 0 0,.int .i64 0] 50)
  rw[hW];simpa using this
 have hsz:W.heap.size=w.heap.size+1+1:=by rw[hW];simp
 have k1:=k43 (W.alloc (.cells #[.bool na,.slice ua 0 uc,.int .i64 ea] 50)) (w.heap.size+1+1) (hBW.alloc hBW.size _) (by rw[←hsz];exact heap_alloc_new _ _)
 have HX:Hid (Bw w W∧W.heap.size=w.heap.size+1+1∧W.heap[w.heap.size]?=some (.cells #[.bool na,.slice ua 0 uc,.int .i64 ea] 50 (0,0))∧W.heap[w.heap.size+1]?=some (.cells #[.bool false,.slice none 0 0,.int .i64 0] 50 (0,0))):=⟨hBW,hsz,hbA,hbB⟩
 clear hBW hsz hbA hbB k43
 go_enter Tryz.func204,Tryz.ntmps204
 go_wp2_with fail
 rw[←hW]
 clear hW
 refine k1.mono ?_
 rintro r w1 ⟨rfl,hb1⟩
 have HB1:Hid (Bw W w1):=((Below.refl W.heap.size W).alloc (Nat.le_refl _) _).trans (hb1.mono (by simp))
 have H3:Hid (w1.heap[w.heap.size]?=some (.cells #[.bool na,.slice ua 0 uc,.int .i64 ea] 50 (0,0))∧w1.heap[w.heap.size+1]?=some (.cells #[.bool false,.slice none 0 0,.int .i64 0] 50 (0,0))∧w.heap.size+1+1≤w1.heap.size∧Bw w w1):=⟨box_later HX.out.2.2.1 HB1.out (by have:=HX.out.2.1;omega),box_later HX.out.2.2.2 HB1.out (by have:=HX.out.2.1;omega),by have:=HB1.out.size;have:=HX.out.2.1;omega,HX.out.1.trans (HB1.out.mono HX.out.1.size)⟩
 clear k1 hb1
 obtain⟨⟨a0,a1,a2⟩,-⟩:=box_cells H3.out.1
 obtain⟨⟨x1,x2,x3⟩,x4,x5,x6⟩:=box_cells H3.out.2.1
 go_wp2
 refine bodyPost_ret (results_cell_tmp_row rfl _ _ (w.heap.size+1) 50 #[.bool false,.slice none 0 0,.int .i64 0] (0,0) _ rfl (store3 _ _ _ H3.out.2.1) Tryz.underlying50 rfl Tryz.info50) rfl ?_
 exact⟨rfl,below_store3 H3.out.2.2.2 (by omega) _ _ _⟩
theorem shift_2 (na:Bool) (ua:Option Addr) (un uc:Nat) (ea k0:Int) (w:World) (hn:un≤35184372088832) (hn0:((un:Int)==0)=false) (he1 : -65536≤ea) (he2:ea≤65536) (hk:k0 < -65536 - ea∨65536 - ea<k0) (k43:∀ W g,Bw w W→W.heap[g]?=some (.cells #[.bool na,.slice ua un uc,.int .i64 ea] 50 (0,0))→Calls Tryz.prog 128 #[.slice (some ⟨g,0,none⟩) 1 1] W fun r w'=>r=.returned (.bool true)∧Bw W w') :
  Calls Tryz.prog 204 #[.agg #[.bool na,.slice ua un uc,.int .i64 ea],.int .i64 k0] w fun r w'=>r=.returned (.tuple #[.agg #[.bool false,.slice none 0 0,.int .i64 0],.int .i64 2])∧Bw w w':=by
 obtain⟨W,hW⟩:∃ W,W=(w.alloc (.cells #[.bool na,.slice ua un uc,.int .i64 ea] 50)).alloc (.cells #[.bool false,.slice none 0 0,.int .i64 0] 50):=⟨_,rfl⟩
 have hBW:Bw w W:=by rw[hW];exact((Below.refl _ _).alloc (Nat.le_refl _) _).alloc (by simp) _
 have hbA:W.heap[w.heap.size]?=some (.cells #[.bool na,.slice ua un uc,.int .i64 ea] 50 (0,0)):=by
  rw[hW,Below.heap_alloc _ _ _ (by simp)];exact heap_alloc_new _ _
 have hbB:W.heap[w.heap.size+1]?=some (.cells #[.bool false,.slice none 0 0,.int .i64 0] 50 (0,0)):=by
  have:=heap_alloc_new (w.alloc (.cells #[.bool na,.slice ua un uc,.int .i64 ea] 50)) (.cells #[.bool false,.slice none 0 0,.int .i64 0] 50)
  rw[hW];simpa using this
 have hsz:W.heap.size=w.heap.size+1+1:=by rw[hW];simp
 have k1:=k43 (W.alloc (.cells #[.bool na,.slice ua un uc,.int .i64 ea] 50)) (w.heap.size+1+1) (hBW.alloc hBW.size _) (by rw[←hsz];exact heap_alloc_new _ _)
 have HX:Hid (Bw w W∧W.heap.size=w.heap.size+1+1∧W.heap[w.heap.size]?=some (.cells #[.bool na,.slice ua un uc,.int .i64 ea] 50 (0,0))∧W.heap[w.heap.size+1]?=some (.cells #[.bool false,.slice none 0 0,.int .i64 0] 50 (0,0))):=⟨hBW,hsz,hbA,hbB⟩
 clear hBW hsz hbA hbB k43
 go_enter Tryz.func204,Tryz.ntmps204
 go_wp2_with fail
 rw[←hW]
 clear hW
 refine k1.mono ?_
 rintro r w1 ⟨rfl,hb1⟩
 have HB1:Hid (Bw W w1):=((Below.refl W.heap.size W).alloc (Nat.le_refl _) _).trans (hb1.mono (by simp))
 have H3:Hid (w1.heap[w.heap.size]?=some (.cells #[.bool na,.slice ua un uc,.int .i64 ea] 50 (0,0))∧w1.heap[w.heap.size+1]?=some (.cells #[.bool false,.slice none 0 0,.int .i64 0] 50 (0,0))∧w.heap.size+1+1≤w1.heap.size∧Bw w w1):=⟨box_later HX.out.2.2.1 HB1.out (by have:=HX.out.2.1;omega),box_later HX.out.2.2.2 HB1.out (by have:=HX.out.2.1;omega),by have:=HB1.out.size;have:=HX.out.2.1;omega,HX.out.1.trans (HB1.out.mono HX.out.1.size)⟩
 clear k1 hb1
 obtain⟨⟨a0,a1,a2⟩,-⟩:=box_cells H3.out.1
 obtain⟨⟨x1,x2,x3⟩,x4,x5,x6⟩:=box_cells H3.out.2.1
 by_cases hk1:k0 < -65536 - ea
 ·clear hk
  go_wp2
  refine bodyPost_ret (results_cell_tmp_row rfl _ _ (w.heap.size+1) 50 #[.bool false,.slice none 0 0,.int .i64 0] (0,0) _ rfl (store3 _ _ _ H3.out.2.1) Tryz.underlying50 rfl Tryz.info50) rfl ?_
  exact⟨rfl,below_store3 H3.out.2.2.2 (by omega) _ _ _⟩
 ·have hk2:65536 - ea<k0:=by omega
  clear hk
  go_wp2
  refine bodyPost_ret (results_cell_tmp_row rfl _ _ (w.heap.size+1) 50 #[.bool false,.slice none 0 0,.int .i64 0] (0,0) _ rfl (store3 _ _ _ H3.out.2.1) Tryz.underlying50 rfl Tryz.info50) rfl ?_
  exact⟨rfl,below_store3 H3.out.2.2.2 (by omega) _ _ _⟩
theorem shift_3 (na:Bool) (ua:Option Addr) (un uc:Nat) (ea k0:Int) (w:World) (x:Nat) (h1:Is w (.slice ua un uc) x) (hx:dlen x≤1000000) (hn:un≤35184372088832) (hn0:((un:Int)==0)=false) (he1 : -65536≤ea) (he2:ea≤65536) (hk1:¬ k0 < -65536 - ea) (hk2:¬ 65536 - ea<k0) (k43:∀ W g,Bw w W→W.heap[g]?=some (.cells #[.bool na,.slice ua un uc,.int .i64 ea] 50 (0,0))→Calls Tryz.prog 128 #[.slice (some ⟨g,0,none⟩) 1 1] W fun r w'=>r=.returned (.bool true)∧Bw W w') :
  Calls Tryz.prog 204 #[.agg #[.bool na,.slice ua un uc,.int .i64 ea],.int .i64 k0] w fun r w'=>∃ v,r=.returned (.tuple #[.agg #[.bool na,v,.int .i64 (ea+k0)],.int .i64 0])∧Own w' w.heap.size v x∧Bw w w':=by
 obtain⟨W,hW⟩:∃ W,W=(w.alloc (.cells #[.bool na,.slice ua un uc,.int .i64 ea] 50)).alloc (.cells #[.bool false,.slice none 0 0,.int .i64 0] 50):=⟨_,rfl⟩
 have hBW:Bw w W:=by rw[hW];exact((Below.refl _ _).alloc (Nat.le_refl _) _).alloc (by simp) _
 have hbA:W.heap[w.heap.size]?=some (.cells #[.bool na,.slice ua un uc,.int .i64 ea] 50 (0,0)):=by
  rw[hW,Below.heap_alloc _ _ _ (by simp)];exact heap_alloc_new _ _
 have hbB:W.heap[w.heap.size+1]?=some (.cells #[.bool false,.slice none 0 0,.int .i64 0] 50 (0,0)):=by
  have:=heap_alloc_new (w.alloc (.cells #[.bool na,.slice ua un uc,.int .i64 ea] 50)) (.cells #[.bool false,.slice none 0 0,.int .i64 0] 50)
  rw[hW];simpa using this
 have hsz:W.heap.size=w.heap.size+1+1:=by rw[hW];simp
 have k1:=k43 (W.alloc (.cells #[.bool na,.slice ua un uc,.int .i64 ea] 50)) (w.heap.size+1+1) (hBW.alloc hBW.size _) (by rw[←hsz];exact heap_alloc_new _ _)
 have HX:Hid (Bw w W∧W.heap.size=w.heap.size+1+1∧W.heap[w.heap.size]?=some (.cells #[.bool na,.slice ua un uc,.int .i64 ea] 50 (0,0))∧W.heap[w.heap.size+1]?=some (.cells #[.bool false,.slice none 0 0,.int .i64 0] 50 (0,0))):=⟨hBW,hsz,hbA,hbB⟩
 have HI:Hid (Is w (.slice ua un uc) x∧dlen x≤1000000):=⟨h1,hx⟩
 clear h1 hx
 clear hBW hsz hbA hbB k43
 go_enter Tryz.func204,Tryz.ntmps204
 go_wp2_with fail
 rw[←hW]
 clear hW
 refine k1.mono ?_
 rintro r w1 ⟨rfl,hb1⟩
 have HB1:Hid (Bw W w1):=((Below.refl W.heap.size W).alloc (Nat.le_refl _) _).trans (hb1.mono (by simp))
 have H3:Hid (w1.heap[w.heap.size]?=some (.cells #[.bool na,.slice ua un uc,.int .i64 ea] 50 (0,0))∧w1.heap[w.heap.size+1]?=some (.cells #[.bool false,.slice none 0 0,.int .i64 0] 50 (0,0))∧w.heap.size+1+1≤w1.heap.size∧Bw w w1):=⟨box_later HX.out.2.2.1 HB1.out (by have:=HX.out.2.1;omega),box_later HX.out.2.2.2 HB1.out (by have:=HX.out.2.1;omega),by have:=HB1.out.size;have:=HX.out.2.1;omega,HX.out.1.trans (HB1.out.mono HX.out.1.size)⟩
 clear k1 hb1
 obtain⟨⟨a0,a1,a2⟩,-⟩:=box_cells H3.out.1
 obtain⟨⟨x1,x2,x3⟩,x4,x5,x6⟩:=box_cells H3.out.2.1
 have HK:Hid (∀ w',Below (w.heap.size+1) w1 w'→(w'.cell? ⟨w.heap.size,0,none⟩=some (.bool na)∧w'.cell? ⟨w.heap.size,1,none⟩=some (.slice ua un uc)∧w'.cell? ⟨w.heap.size,2,none⟩=some (.int .i64 ea))):=fun w' hb=>(box_cells (box_later H3.out.1 hb (by omega))).1
 have kC:∀ w4,Bw w1 w4→Calls Tryz.prog 129 #[.slice ua un uc] w4 fun r w'=>∃ ao n cap,r=.returned (.slice ao n cap)∧Own w' w1.heap.size (.slice ao n cap) x∧Bw w1 w':=fun w4 hb =>
  (clone_ok ((HI.out.1.later H3.out.2.2.2).later hb) (by have:=HI.out.2;omega)).mono fun r w' ⟨v,e1,o1,o2⟩=>by
   obtain⟨ao,cap,rfl,-,-,-⟩:=o1.is
   exact⟨_,_,_,e1,o1.mono hb.size,hb.trans (o2.mono hb.size)⟩
 have hBR:Bw w1 w1.drew:=(Below.refl _ _).drew
 have hBR1:Below (w.heap.size+1) w1 w1.drew:=(Below.refl _ _).drew
 have H1:Hid (w.heap.size+1≤w1.heap.size):=(by have:=H3.out.2.2.1;omega:w.heap.size+1≤w1.heap.size)
 have HZ:Hid (IntKind.i64.wrap (ea+k0)=ea+k0):=(by rw[IntKind.wrap_i64];omega:IntKind.i64.wrap (ea+k0)=ea+k0)
 go_upto_region 8 with fail
 clear x1 x2 x3 x4 x5 x6
 go_region_held3 (fun w'=>w'.cell? ⟨w.heap.size,0,none⟩=some (.bool na)∧w'.cell? ⟨w.heap.size,1,none⟩=some (.slice ua un uc)∧w'.cell? ⟨w.heap.size,2,none⟩=some (.int .i64 ea)) (first|(with_reducible assumption)|exact HK.out _ hBR1|(refine HK.out _ (Below.mono ?_ H1.out);with_reducible assumption)|(refine HK.out _ (below_store3 (Below.mono hb5 H1.out) (Nat.le_refl _) _ _ _))|go_keep)
  (first|(go_at_call 129;refine(kC _ (by first|(with_reducible assumption)|exact hBR)).mono ?_;rintro r w5 ⟨ao5,n5,cap5,rfl,ho5,hb5⟩;have hblk5:=box_later H3.out.2.1 hb5 (by have:=H3.out.2.2.1;omega);obtain⟨⟨x1,x2,x3⟩,x4,x5,x6⟩:=box_cells hblk5))
 all_goals (have HF:Hid (Bw w1 w5∧Own w5 w1.heap.size (.slice ao5 n5 cap5) x∧w5.heap[w.heap.size+1]?=some (.cells #[.bool false,.slice none 0 0,.int .i64 0] 50 (0,0))):=⟨hb5,ho5,hblk5⟩;clear ho5 hb5 hblk5 x1 x2 x3 x4 x5 x6 kC HK hBR hBR1 a0 a1 a2;(try rw[HZ.out]);go_wp2;refine bodyPost_ret (results_cell_tmp_row rfl _ _ (w.heap.size+1) 50 #[.bool na,.slice ao5 n5 cap5,.int .i64 (ea+k0)] (0,0) _ rfl (store3 _ _ _ HF.out.2.2) Tryz.underlying50 rfl Tryz.info50) rfl ?_;exact⟨_,rfl,(own_store3 HF.out.2.1 (by have:=H3.out.2.2.1;omega) _ _ _).mono (by have:=H3.out.2.2.1;omega),below_store3 (H3.out.2.2.2.trans (HF.out.1.mono H3.out.2.2.2.size)) (by omega) _ _ _⟩)
theorem rsgn {na:Bool} {ua:Option Addr} {un uc:Nat} {ea:Int} {w:World} (hn:un≤35184372088832) :
  Calls Tryz.prog 47 #[.agg #[.bool na,.slice ua un uc,.int .i64 ea]] w fun r w'=>r=.returned (.int .i64 (if un=0 then 0 else if na then -1 else 1))∧Bw w w':=by
 obtain⟨W,hW⟩:∃ W,W=w.alloc (.cells #[.bool na,.slice ua un uc,.int .i64 ea] 54):=⟨_,rfl⟩
 have HB:Hid (Bw w W):=(by rw[hW];exact(Below.refl _ _).alloc (Nat.le_refl _) _:Bw w W)
 by_cases h0:un=0
 ·subst h0
  rw[if_pos rfl]
  go_enter Tryz.func47,Tryz.ntmps47
  go_wp2
  go_ret
  exact⟨rfl,hW ▸ HB.out⟩
 ·have hn0:((un:Int)==0)=false:=by simp;omega
  rw[if_neg h0]
  clear h0
  cases na
  ·go_enter Tryz.func47,Tryz.ntmps47
   go_wp2
   go_ret
   exact⟨rfl,hW ▸ HB.out⟩
  ·go_enter Tryz.func47,Tryz.ntmps47
   go_wp2
   go_ret
   exact⟨rfl,hW ▸ HB.out⟩
end Go.Proofs.YtfkaogdmlcdceaaGreatDoor
namespace Go.Proofs.YtfkaogdmlcdceaaGreatDoor
open Go.RowKit Go.Fl64
end Go.Proofs.YtfkaogdmlcdceaaGreatDoor
namespace Go.Proofs.YtfkaogdmlcdceaaGreatDoor
open Go.RowKit
end Go.Proofs.YtfkaogdmlcdceaaGreatDoor
namespace Go.Proofs.YtfkaogdmlcdceaaGreatDoor
open Go.RowKit Go.Fl64
end Go.Proofs.YtfkaogdmlcdceaaGreatDoor
namespace Go.Proofs.YtfkaogdmlcdceaaGreatDoor
open Go.RowKit
end Go.Proofs.YtfkaogdmlcdceaaGreatDoor
