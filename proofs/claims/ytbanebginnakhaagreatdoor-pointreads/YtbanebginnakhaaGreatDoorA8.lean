/- Own work: contracts of the program's functions, part 8: RW1 SA3 RC2 RC3 V1 V2 E2 V3 E3 V4 RC4 W42 W44 RC5 RD1 SA6 L5 G3 W43 L7 L9 RT2 DV1. -/
import Derived.Test.YtbanebginnakhaaGreatDoorA7
import Derived.Test.YtbanebginnakhaaGreatDoorA4
import Derived.Test.YtbanebginnakhaaGreatDoorA6
import Derived.Test.YtbanebginnakhaaGreatDoorA3
import Derived.Test.YtbanebginnakhaaGreatDoorA5
import Derived.Laws.AppendOwnNone
import Derived.Deep.CutRange
import Derived.Test.YtbanebginnakhaaGreatDoorA2

set_option maxHeartbeats 16000000
set_option maxRecDepth 200000
set_option linter.unusedVariables false
set_option linter.unusedSimpArgs false
namespace Go.Proofs.YtbanebginnakhaaGreatDoor
open Go.RowKit
theorem NC.shape {w:World} {base:Nat} {a:Value} {s:Bool} {z:Nat} {e:Int} (h:NC w base a s z e):∃ s ao n cap ex,a=.agg #[.bool s,.slice ao n cap,.int .i64 ex]:=by
 obtain⟨ao,cap,h1,-⟩:=h;exact⟨_,_,_,_,_,h1⟩
theorem NC.store {w:World} {base g:Nat} {A:Value} {s:Bool} {z:Nat} {e:Int} (h:NC w base A s z e) (hg:g<base) (a b c:Value):NC (((w.setCell ⟨g,0,none⟩ a).setCell ⟨g,1,none⟩ b).setCell ⟨g,2,none⟩ c) base A s z e:=by
 obtain⟨ao,cap,h1,h2,h3⟩:=h;refine⟨ao,cap,h1,⟨h2.nil,?_,h2.le,h2.small⟩,h3⟩
 obtain⟨bb,oo,hb,hc⟩:=h2.at_;refine⟨bb,oo,hb,fun i hi=>?_⟩
 have hbb:base≤bb:=h3 _ (hb (by omega)) (by omega)
 rw[World.cell?_setCell_other _ _ _ _ (by intro e;simp at e <;> omega),World.cell?_setCell_other _ _ _ _ (by intro e;simp at e <;> omega),World.cell?_setCell_other _ _ _ _ (by intro e;simp at e <;> omega)]
 exact hc i hi
theorem Dn.nc {w:World} {base:Nat} {ao:Option Addr} {cap z:Nat} {s:Bool} {e:Int} (h:Dn w base (.slice ao (dlen z) cap) (dlen z) z) (hc:cn s z e=(s,z,e)) (hz:dlen z≤35184372088832):NC w base (.agg #[.bool s,.slice ao (dlen z) cap,.int .i64 e]) s z e:=by
 refine⟨ao,cap,by rw[hc],?_,?_⟩
 ·rw[hc];rcases h with ⟨h1,h2⟩|⟨g,cap',c,h1,h2,h3,h4,h5,h6⟩
  ·simp only[Value.slice.injEq] at h1;obtain⟨rfl,-,rfl⟩:=h1;exact⟨fun _=>.inr ⟨rfl,rfl⟩,⟨0,0,fun h=>by simp only at h;omega,fun i hi=>by simp only at hi;omega⟩,by simp only;omega,hz⟩
  ·simp only[Value.slice.injEq] at h1;obtain⟨rfl,-,rfl⟩:=h1;refine⟨fun _=>.inl ⟨_,rfl⟩,⟨g,0,fun _=>rfl,fun i hi=>?_⟩,h3.1,hz⟩
   rw[Nat.zero_add];simp[World.cell?,h4,h6 i hi]
 ·rw[hc];rcases h with ⟨h1,h2⟩|⟨g,cap',c,h1,h2,h3,h4,h5,h6⟩
  ·intro ad e hl;simp only at hl;omega
  ·simp only[Value.slice.injEq] at h1;obtain⟨rfl,-,rfl⟩:=h1;intro ad e _;injection e with e;rw[←e];exact h2
theorem zH3 (na nb:Bool) (ua va:Option Addr) (un uc vn vc X Y:Nat) (ea eb:Int) (w:World) (hne:(na==nb)=true) (hX:dlen (X+Y)≤1000000) (hX1:dlen X≤1000000) (hX2:dlen Y≤1000000) (he1 : -4000000≤ea) (he2:ea≤4000000) (he3 : -4000000≤eb) (he4:eb≤4000000) (hn0:((un:Int)==0)=false) (hn1:((vn:Int)==0)=false)
  (ku:∀ W i,Bw w W→i=ea - min ea eb→Calls Tryz.prog 137 #[.slice ua un uc,.int .i64 i] W fun r w'=>∃ v,r=.returned v∧Ir w' v X∧Bw W w')
  (kv:∀ W i,Bw w W→i=eb - min ea eb→Calls Tryz.prog 137 #[.slice va vn vc,.int .i64 i] W fun r w'=>∃ v,r=.returned v∧Ir w' v Y∧Bw W w') :
  Calls Tryz.prog 92 #[.agg #[.bool na,.slice ua un uc,.int .i64 ea],.agg #[.bool nb,.slice va vn vc,.int .i64 eb]] w fun r w'=>∃ a,r=.returned a∧NC w' w.heap.size a na (X+Y) (min ea eb)∧Bw w w':=by
 obtain⟨W,hW⟩:∃ W,W=((w.alloc (.cells #[.bool na,.slice ua un uc,.int .i64 ea] 132)).alloc (.cells #[.bool nb,.slice va vn vc,.int .i64 eb] 132)).alloc (.cells #[.bool false,.slice none 0 0,.int .i64 0] 132):=⟨_,rfl⟩;obtain⟨hA,hBb,hC,hsz,hBW⟩:=qK0 _ _ _ hW;have k1:=fun i hi=>ku W i hBW hi;have HKV:Hid _:=kv;have HH:Hid ((W.heap[w.heap.size]?=some (.cells #[.bool na,.slice ua un uc,.int .i64 ea] 132 (0,0))∧W.heap[w.heap.size+1]?=some (.cells #[.bool nb,.slice va vn vc,.int .i64 eb] 132 (0,0))∧W.heap[w.heap.size+1+1]?=some (.cells #[.bool false,.slice none 0 0,.int .i64 0] 132 (0,0)))∧W.heap.size=w.heap.size+1+1+1∧Bw w W):=⟨⟨hA,hBb,hC⟩,hsz,hBW⟩;clear hA hBb hC hsz hBW ku kv
 go_enter Tryz.func92,Tryz.ntmps92
 go_wp2_with fail;rw[←hW];clear hW;refine(k1 _ (by first|rfl|(rw[xW6];omega)|omega)).mono ?_
 rintro r w4 ⟨p,rfl,hp,hB4⟩;clear k1;obtain⟨⟨a0,a1,a2⟩,-⟩:=qQ0 (qQ HH.out.1.1 hB4 (by have:=HH.out.2.1;omega))
 obtain⟨⟨b0,b1,b2⟩,-⟩:=qQ0 (qQ HH.out.1.2.1 hB4 (by have:=HH.out.2.1;omega))
 have HB4:Hid (Bw W w4):=hB4;have HP4:Hid (Ir w4 p X):=hp;clear hB4 hp
 go_wp2_with fail;refine(HKV.out w4 _ (HH.out.2.2.trans (HB4.out.mono HH.out.2.2.size)) (by first|rfl|(rw[xW6];omega)|omega)).mono ?_
 rintro r w5 ⟨q,rfl,hq,hB5⟩;have hB5':Bw W w5:=HB4.out.trans (hB5.mono HB4.out.size);have hp:=HP4.out.later hB5;clear a0 a1 a2 b0 b1 b2 hB5;obtain⟨⟨h1,h2,h3⟩,hs,hBW⟩:=HH.out;obtain⟨⟨a0,a1,a2⟩,-⟩:=qQ0 (qQ h1 hB5' (by omega))
 obtain⟨⟨b0,b1,b2⟩,-⟩:=qQ0 (qQ h2 hB5' (by omega))
 have HC5:Hid (w5.heap[w.heap.size+1+1]?=some (.cells #[.bool false,.slice none 0 0,.int .i64 0] 132 (0,0))∧Bw W w5):=⟨qQ h3 hB5' (by omega),hB5'⟩
 have hp6:=hp;have hq6:=hq;have kS:∀ W6,Bw w5 W6→Calls Tryz.prog 139 #[p,q] W6 fun r w'=>∃ v,r=.returned v∧Ir w' v (X+Y)∧Bw w5 w':=fun W6 hb =>
  (rsum (w:=W6) (hp6.later hb) (hq6.later hb) (by omega) (by omega)).mono fun r w' ⟨v,e1,o1,o2⟩=>⟨v,e1,o1,hb.trans (o2.mono hb.size)⟩
 have hKeep:∀ w',Bw w5 w'→w'.cell? ⟨w.heap.size,0,none⟩=some (.bool na):=fun w' hb=>(hb.cell (World.block_lt_of_cell? _ _ a0)).trans a0;have HK:Hid (∀ w',Bw w5 w'→w'.cell? ⟨w.heap.size,0,none⟩=some (.bool na)):=hKeep;have HR5:Hid (∀ dd,Below w5.heap.size w5 (w5.drewN dd).drew):=(fun dd=>⟨rfl,rfl,rfl,xL0 _,fun _ _=>rfl⟩:∀ dd,Below w5.heap.size w5 (w5.drewN dd).drew);have hR5:Bw w5 w5.drew:=(xL1 _ _).drew;have k56:∀ v7 w7,Ir w7 v7 (X+Y)→Bw w5 w7→Calls Tryz.prog 138 #[.bool na,v7,.int .i64 (min ea eb)] w7 fun r w'=>∃ s ao n cap ex,r=.returned (.agg #[.bool s,.slice ao n cap,.int .i64 ex]) ∧
   Hid (NC w' w7.heap.size (.agg #[.bool s,.slice ao n cap,.int .i64 ex]) na (X+Y) (min ea eb)∧w5.heap.size≤w7.heap.size)∧Bw w5 w'∧Hid (w'.heap[w.heap.size+1+1]?=some (.cells #[.bool false,.slice none 0 0,.int .i64 0] 132 (0,0))) ∧
   (w'.cell? ⟨w.heap.size+1+1,0,none⟩=some (.bool false)∧w'.cell? ⟨w.heap.size+1+1,1,none⟩=some (.slice none 0 0)∧w'.cell? ⟨w.heap.size+1+1,2,none⟩=some (.int .i64 0))∧(w'.frozen? ⟨w.heap.size+1+1,0,none⟩=false∧w'.frozen? ⟨w.heap.size+1+1,1,none⟩=false∧w'.frozen? ⟨w.heap.size+1+1,2,none⟩=false):=by
  intro v7 w7 ho hb;obtain⟨ao0,cap0,rfl,hl0,hat0⟩:=ho;refine(zY2 ⟨ao0,cap0,rfl,hl0,hat0⟩ (by omega) (by omega)).mono ?_
  rintro r w8 ⟨a,rfl,hN,hb8⟩;obtain⟨s,ao,n,cap,ex,rfl⟩:=hN.shape;have hb58:Bw w5 w8:=hb.trans (hb8.mono hb.size);have hblk:=qQ HC5.out.1 hb58 (by have:=HC5.out.2.size;omega)
  obtain⟨f1,f2⟩:=qQ0 hblk;exact⟨s,ao,n,cap,ex,rfl,⟨hN,hb.size⟩,hb58,hblk,f1,f2⟩
 clear h1 h2 h3 hp hq hp6 hq6 hB5' hs hBW hKeep hX hX1 hX2 HR5
 go_wp2
 go_region_held3 (fun w'=>w'.cell? ⟨w.heap.size,0,none⟩=some (.bool na)) (first|(with_reducible assumption)|(refine HK.out _ ?_;with_reducible assumption)|(rw[World.cell?_setCell_other _ _ _ _ (by simp),World.cell?_setCell_other _ _ _ _ (by simp),World.cell?_setCell_other _ _ _ _ (by simp)];refine HK.out _ ?_;with_reducible assumption)|go_keep)
  (first|(go_at_call 139;refine(kS _ (by first|(with_reducible assumption)|exact hR5)).mono ?_;rintro r w7 ⟨v7,rfl,ho7,hb7⟩)|(go_at_call 138;refine(k56 _ _ ho7 hb7).mono ?_;rintro r w8 ⟨s8,ao8,n8,cap8,ex8,rfl,hN8,hb8,hblk8,⟨x1,x2,x3⟩,x4,x5,x6⟩))
 have HF:Hid (Bw w5 w8):=hb8;clear ho7 hb7 hb8 k56 kS x1 x2 x3 x4 x5 x6 a0 a1 a2 b0 b1 b2 HK
 go_wp2;refine xW9 (xE2 rfl _ _ (w.heap.size+1+1) 132 #[.bool s8,.slice ao8 n8 cap8,.int .i64 ex8] (0,0) _ rfl (qX1 _ _ _ hblk8.out) Tryz.underlying132 rfl Tryz.info132) rfl ?_;obtain⟨-,hs,hBW⟩:=HH.out;have hs4:=HC5.out.2.size;have hs5:=hN8.out.2;exact⟨_,rfl,(hN8.out.1.store (by omega) _ _ _).mono (by omega),qQ3 (hBW.trans ((HC5.out.2.trans (HF.out.mono hs4)).mono hBW.size)) (by omega) _ _ _⟩
theorem yU1 (na nb:Bool) (ua va:Option Addr) (un uc vn vc X Y:Nat) (ea eb:Int) (w:World) (hlt:X<Y) (hne:(na==nb)=false) (hX:dlen (Y - X)≤1000000) (hX1:dlen X≤1000000) (hX2:dlen Y≤1000000) (he1 : -4000000≤ea) (he2:ea≤4000000) (he3 : -4000000≤eb) (he4:eb≤4000000) (hn0:((un:Int)==0)=false) (hn1:((vn:Int)==0)=false)
  (ku:∀ W i,Bw w W→i=ea - min ea eb→Calls Tryz.prog 137 #[.slice ua un uc,.int .i64 i] W fun r w'=>∃ v,r=.returned v∧Ir w' v X∧Bw W w')
  (kv:∀ W i,Bw w W→i=eb - min ea eb→Calls Tryz.prog 137 #[.slice va vn vc,.int .i64 i] W fun r w'=>∃ v,r=.returned v∧Ir w' v Y∧Bw W w') :
  Calls Tryz.prog 92 #[.agg #[.bool na,.slice ua un uc,.int .i64 ea],.agg #[.bool nb,.slice va vn vc,.int .i64 eb]] w fun r w'=>∃ a,r=.returned a∧NC w' w.heap.size a nb (Y - X) (min ea eb)∧Bw w w':=by
 obtain⟨W,hW⟩:∃ W,W=((w.alloc (.cells #[.bool na,.slice ua un uc,.int .i64 ea] 132)).alloc (.cells #[.bool nb,.slice va vn vc,.int .i64 eb] 132)).alloc (.cells #[.bool false,.slice none 0 0,.int .i64 0] 132):=⟨_,rfl⟩;obtain⟨hA,hBb,hC,hsz,hBW⟩:=qK0 _ _ _ hW;have k1:=fun i hi=>ku W i hBW hi;have HKV:Hid _:=kv;have HH:Hid ((W.heap[w.heap.size]?=some (.cells #[.bool na,.slice ua un uc,.int .i64 ea] 132 (0,0))∧W.heap[w.heap.size+1]?=some (.cells #[.bool nb,.slice va vn vc,.int .i64 eb] 132 (0,0))∧W.heap[w.heap.size+1+1]?=some (.cells #[.bool false,.slice none 0 0,.int .i64 0] 132 (0,0)))∧W.heap.size=w.heap.size+1+1+1∧Bw w W):=⟨⟨hA,hBb,hC⟩,hsz,hBW⟩;clear hA hBb hC hsz hBW ku kv
 go_enter Tryz.func92,Tryz.ntmps92
 go_wp2_with fail;rw[←hW];clear hW;refine(k1 _ (by first|rfl|(rw[xW6];omega)|omega)).mono ?_
 rintro r w4 ⟨p,rfl,hp,hB4⟩;clear k1;obtain⟨⟨a0,a1,a2⟩,-⟩:=qQ0 (qQ HH.out.1.1 hB4 (by have:=HH.out.2.1;omega))
 obtain⟨⟨b0,b1,b2⟩,-⟩:=qQ0 (qQ HH.out.1.2.1 hB4 (by have:=HH.out.2.1;omega))
 have HB4:Hid (Bw W w4):=hB4;have HP4:Hid (Ir w4 p X):=hp;clear hB4 hp
 go_wp2_with fail;refine(HKV.out w4 _ (HH.out.2.2.trans (HB4.out.mono HH.out.2.2.size)) (by first|rfl|(rw[xW6];omega)|omega)).mono ?_
 rintro r w5 ⟨q,rfl,hq,hB5⟩;have hB5':Bw W w5:=HB4.out.trans (hB5.mono HB4.out.size);have hp:=HP4.out.later hB5;clear a0 a1 a2 b0 b1 b2 hB5;obtain⟨⟨h1,h2,h3⟩,hs,hBW⟩:=HH.out;obtain⟨⟨a0,a1,a2⟩,-⟩:=qQ0 (qQ h1 hB5' (by omega))
 obtain⟨⟨b0,b1,b2⟩,-⟩:=qQ0 (qQ h2 hB5' (by omega))
 have HC5:Hid (w5.heap[w.heap.size+1+1]?=some (.cells #[.bool false,.slice none 0 0,.int .i64 0] 132 (0,0))∧Bw W w5):=⟨qQ h3 hB5' (by omega),hB5'⟩
 have hp6:=hp;have hq6:=hq;have kS:∀ W6,Bw w5 W6→Calls Tryz.prog 141 #[q,p] W6 fun r w'=>∃ v,r=.returned v∧Ir w' v (Y - X)∧Bw w5 w':=fun W6 hb =>
  (xU4 (w:=W6) (hq6.later hb) (hp6.later hb) (by omega) (by omega)).mono fun r w' ⟨v,e1,o1,o2⟩=>⟨v,e1,o1,hb.trans (o2.mono hb.size)⟩
 have hKeep:∀ w',Bw w5 w'→w'.cell? ⟨w.heap.size+1,0,none⟩=some (.bool nb):=fun w' hb=>(hb.cell (World.block_lt_of_cell? _ _ b0)).trans b0;have HK:Hid (∀ w',Bw w5 w'→w'.cell? ⟨w.heap.size+1,0,none⟩=some (.bool nb)):=hKeep;have HR5:Hid (∀ dd,Below w5.heap.size w5 (w5.drewN dd).drew):=(fun dd=>⟨rfl,rfl,rfl,xL0 _,fun _ _=>rfl⟩:∀ dd,Below w5.heap.size w5 (w5.drewN dd).drew);have hR5:Bw w5 w5.drew:=(xL1 _ _).drew;have k56:∀ v7 w7,Ir w7 v7 (Y - X)→Bw w5 w7→Calls Tryz.prog 138 #[.bool nb,v7,.int .i64 (min ea eb)] w7 fun r w'=>∃ s ao n cap ex,r=.returned (.agg #[.bool s,.slice ao n cap,.int .i64 ex]) ∧
   Hid (NC w' w7.heap.size (.agg #[.bool s,.slice ao n cap,.int .i64 ex]) nb (Y - X) (min ea eb)∧w5.heap.size≤w7.heap.size)∧Bw w5 w'∧Hid (w'.heap[w.heap.size+1+1]?=some (.cells #[.bool false,.slice none 0 0,.int .i64 0] 132 (0,0))) ∧
   (w'.cell? ⟨w.heap.size+1+1,0,none⟩=some (.bool false)∧w'.cell? ⟨w.heap.size+1+1,1,none⟩=some (.slice none 0 0)∧w'.cell? ⟨w.heap.size+1+1,2,none⟩=some (.int .i64 0))∧(w'.frozen? ⟨w.heap.size+1+1,0,none⟩=false∧w'.frozen? ⟨w.heap.size+1+1,1,none⟩=false∧w'.frozen? ⟨w.heap.size+1+1,2,none⟩=false):=by
  intro v7 w7 ho hb;obtain⟨ao0,cap0,rfl,hl0,hat0⟩:=ho;refine(zY2 ⟨ao0,cap0,rfl,hl0,hat0⟩ (by omega) (by omega)).mono ?_
  rintro r w8 ⟨a,rfl,hN,hb8⟩;obtain⟨s,ao,n,cap,ex,rfl⟩:=hN.shape;have hb58:Bw w5 w8:=hb.trans (hb8.mono hb.size);have hblk:=qQ HC5.out.1 hb58 (by have:=HC5.out.2.size;omega)
  obtain⟨f1,f2⟩:=qQ0 hblk;exact⟨s,ao,n,cap,ex,rfl,⟨hN,hb.size⟩,hb58,hblk,f1,f2⟩
 have k129:=rord hp hq (by omega) (by omega)
 have hcm:cmpI (X:Int) (Y:Int)<0:=by unfold cmpI;rw[if_pos (by omega)];omega
 generalize cmpI (X:Int) (Y:Int)=cv at *;clear h1 h2 h3 hp hq hp6 hq6 hB5' hs hBW hKeep hX hX1 hX2 hlt
 go_wp2_with fail;refine k129.mono ?_;rintro r w7 ⟨rfl,dd,rfl⟩;have hR5:=HR5.out dd;clear k129;have z0:(w5.drewN dd).cell? ⟨w.heap.size+1,0,none⟩=some (.bool nb):=b0
 go_wp2
 go_region_held3 (fun w'=>w'.cell? ⟨w.heap.size+1,0,none⟩=some (.bool nb)) (first|(with_reducible assumption)|(refine HK.out _ ?_;with_reducible assumption)|(rw[World.cell?_setCell_other _ _ _ _ (by simp),World.cell?_setCell_other _ _ _ _ (by simp),World.cell?_setCell_other _ _ _ _ (by simp)];refine HK.out _ ?_;with_reducible assumption)|go_keep)
  (first|(go_at_call 141;refine(kS _ (by first|(with_reducible assumption)|exact hR5)).mono ?_;rintro r w7 ⟨v7,rfl,ho7,hb7⟩)|(go_at_call 138;refine(k56 _ _ ho7 hb7).mono ?_;rintro r w8 ⟨s8,ao8,n8,cap8,ex8,rfl,hN8,hb8,hblk8,⟨x1,x2,x3⟩,x4,x5,x6⟩))
 have HF:Hid (Bw w5 w8):=hb8;clear ho7 hb7 hb8 k56 kS x1 x2 x3 x4 x5 x6 a0 a1 a2 b0 b1 b2 HK
 go_wp2;refine xW9 (xE2 rfl _ _ (w.heap.size+1+1) 132 #[.bool s8,.slice ao8 n8 cap8,.int .i64 ex8] (0,0) _ rfl (qX1 _ _ _ hblk8.out) Tryz.underlying132 rfl Tryz.info132) rfl ?_;obtain⟨-,hs,hBW⟩:=HH.out;have hs4:=HC5.out.2.size;have hs5:=hN8.out.2;exact⟨_,rfl,(hN8.out.1.store (by omega) _ _ _).mono (by omega),qQ3 (hBW.trans ((HC5.out.2.trans (HF.out.mono hs4)).mono hBW.size)) (by omega) _ _ _⟩
theorem yU0 (na nb:Bool) (ua va:Option Addr) (un uc vn vc X Y:Nat) (ea eb:Int) (w:World) (hlt:Y≤X) (hne:(na==nb)=false) (hX:dlen (X - Y)≤1000000) (hX1:dlen X≤1000000) (hX2:dlen Y≤1000000) (he1 : -4000000≤ea) (he2:ea≤4000000) (he3 : -4000000≤eb) (he4:eb≤4000000) (hn0:((un:Int)==0)=false) (hn1:((vn:Int)==0)=false)
  (ku:∀ W i,Bw w W→i=ea - min ea eb→Calls Tryz.prog 137 #[.slice ua un uc,.int .i64 i] W fun r w'=>∃ v,r=.returned v∧Ir w' v X∧Bw W w')
  (kv:∀ W i,Bw w W→i=eb - min ea eb→Calls Tryz.prog 137 #[.slice va vn vc,.int .i64 i] W fun r w'=>∃ v,r=.returned v∧Ir w' v Y∧Bw W w') :
  Calls Tryz.prog 92 #[.agg #[.bool na,.slice ua un uc,.int .i64 ea],.agg #[.bool nb,.slice va vn vc,.int .i64 eb]] w fun r w'=>∃ a,r=.returned a∧NC w' w.heap.size a na (X - Y) (min ea eb)∧Bw w w':=by
 obtain⟨W,hW⟩:∃ W,W=((w.alloc (.cells #[.bool na,.slice ua un uc,.int .i64 ea] 132)).alloc (.cells #[.bool nb,.slice va vn vc,.int .i64 eb] 132)).alloc (.cells #[.bool false,.slice none 0 0,.int .i64 0] 132):=⟨_,rfl⟩;obtain⟨hA,hBb,hC,hsz,hBW⟩:=qK0 _ _ _ hW;have k1:=fun i hi=>ku W i hBW hi;have HKV:Hid _:=kv;have HH:Hid ((W.heap[w.heap.size]?=some (.cells #[.bool na,.slice ua un uc,.int .i64 ea] 132 (0,0))∧W.heap[w.heap.size+1]?=some (.cells #[.bool nb,.slice va vn vc,.int .i64 eb] 132 (0,0))∧W.heap[w.heap.size+1+1]?=some (.cells #[.bool false,.slice none 0 0,.int .i64 0] 132 (0,0)))∧W.heap.size=w.heap.size+1+1+1∧Bw w W):=⟨⟨hA,hBb,hC⟩,hsz,hBW⟩;clear hA hBb hC hsz hBW ku kv
 go_enter Tryz.func92,Tryz.ntmps92
 go_wp2_with fail;rw[←hW];clear hW;refine(k1 _ (by first|rfl|(rw[xW6];omega)|omega)).mono ?_
 rintro r w4 ⟨p,rfl,hp,hB4⟩;clear k1;obtain⟨⟨a0,a1,a2⟩,-⟩:=qQ0 (qQ HH.out.1.1 hB4 (by have:=HH.out.2.1;omega))
 obtain⟨⟨b0,b1,b2⟩,-⟩:=qQ0 (qQ HH.out.1.2.1 hB4 (by have:=HH.out.2.1;omega))
 have HB4:Hid (Bw W w4):=hB4;have HP4:Hid (Ir w4 p X):=hp;clear hB4 hp
 go_wp2_with fail;refine(HKV.out w4 _ (HH.out.2.2.trans (HB4.out.mono HH.out.2.2.size)) (by first|rfl|(rw[xW6];omega)|omega)).mono ?_
 rintro r w5 ⟨q,rfl,hq,hB5⟩;have hB5':Bw W w5:=HB4.out.trans (hB5.mono HB4.out.size);have hp:=HP4.out.later hB5;clear a0 a1 a2 b0 b1 b2 hB5;obtain⟨⟨h1,h2,h3⟩,hs,hBW⟩:=HH.out;obtain⟨⟨a0,a1,a2⟩,-⟩:=qQ0 (qQ h1 hB5' (by omega))
 obtain⟨⟨b0,b1,b2⟩,-⟩:=qQ0 (qQ h2 hB5' (by omega))
 have HC5:Hid (w5.heap[w.heap.size+1+1]?=some (.cells #[.bool false,.slice none 0 0,.int .i64 0] 132 (0,0))∧Bw W w5):=⟨qQ h3 hB5' (by omega),hB5'⟩
 have hp6:=hp;have hq6:=hq;have kS:∀ W6,Bw w5 W6→Calls Tryz.prog 141 #[p,q] W6 fun r w'=>∃ v,r=.returned v∧Ir w' v (X - Y)∧Bw w5 w':=fun W6 hb =>
  (xU4 (w:=W6) (hp6.later hb) (hq6.later hb) (by omega) (by omega)).mono fun r w' ⟨v,e1,o1,o2⟩=>⟨v,e1,o1,hb.trans (o2.mono hb.size)⟩
 have hKeep:∀ w',Bw w5 w'→w'.cell? ⟨w.heap.size,0,none⟩=some (.bool na):=fun w' hb=>(hb.cell (World.block_lt_of_cell? _ _ a0)).trans a0;have HK:Hid (∀ w',Bw w5 w'→w'.cell? ⟨w.heap.size,0,none⟩=some (.bool na)):=hKeep;have HR5:Hid (∀ dd,Below w5.heap.size w5 (w5.drewN dd).drew):=(fun dd=>⟨rfl,rfl,rfl,xL0 _,fun _ _=>rfl⟩:∀ dd,Below w5.heap.size w5 (w5.drewN dd).drew);have hR5:Bw w5 w5.drew:=(xL1 _ _).drew;have k56:∀ v7 w7,Ir w7 v7 (X - Y)→Bw w5 w7→Calls Tryz.prog 138 #[.bool na,v7,.int .i64 (min ea eb)] w7 fun r w'=>∃ s ao n cap ex,r=.returned (.agg #[.bool s,.slice ao n cap,.int .i64 ex]) ∧
   Hid (NC w' w7.heap.size (.agg #[.bool s,.slice ao n cap,.int .i64 ex]) na (X - Y) (min ea eb)∧w5.heap.size≤w7.heap.size)∧Bw w5 w'∧Hid (w'.heap[w.heap.size+1+1]?=some (.cells #[.bool false,.slice none 0 0,.int .i64 0] 132 (0,0))) ∧
   (w'.cell? ⟨w.heap.size+1+1,0,none⟩=some (.bool false)∧w'.cell? ⟨w.heap.size+1+1,1,none⟩=some (.slice none 0 0)∧w'.cell? ⟨w.heap.size+1+1,2,none⟩=some (.int .i64 0))∧(w'.frozen? ⟨w.heap.size+1+1,0,none⟩=false∧w'.frozen? ⟨w.heap.size+1+1,1,none⟩=false∧w'.frozen? ⟨w.heap.size+1+1,2,none⟩=false):=by
  intro v7 w7 ho hb;obtain⟨ao0,cap0,rfl,hl0,hat0⟩:=ho;refine(zY2 ⟨ao0,cap0,rfl,hl0,hat0⟩ (by omega) (by omega)).mono ?_
  rintro r w8 ⟨a,rfl,hN,hb8⟩;obtain⟨s,ao,n,cap,ex,rfl⟩:=hN.shape;have hb58:Bw w5 w8:=hb.trans (hb8.mono hb.size);have hblk:=qQ HC5.out.1 hb58 (by have:=HC5.out.2.size;omega)
  obtain⟨f1,f2⟩:=qQ0 hblk;exact⟨s,ao,n,cap,ex,rfl,⟨hN,hb.size⟩,hb58,hblk,f1,f2⟩
 have k129:=rord hp hq (by omega) (by omega)
 have hcm:¬ cmpI (X:Int) (Y:Int)<0:=by unfold cmpI;rw[if_neg (by omega)];split <;> omega
 generalize cmpI (X:Int) (Y:Int)=cv at *;clear h1 h2 h3 hp hq hp6 hq6 hB5' hs hBW hKeep hX hX1 hX2 hlt
 go_wp2_with fail;refine k129.mono ?_;rintro r w7 ⟨rfl,dd,rfl⟩;have hR5:=HR5.out dd;clear k129;have z0:(w5.drewN dd).cell? ⟨w.heap.size,0,none⟩=some (.bool na):=a0
 go_wp2
 go_region_held3 (fun w'=>w'.cell? ⟨w.heap.size,0,none⟩=some (.bool na)) (first|(with_reducible assumption)|(refine HK.out _ ?_;with_reducible assumption)|(rw[World.cell?_setCell_other _ _ _ _ (by simp),World.cell?_setCell_other _ _ _ _ (by simp),World.cell?_setCell_other _ _ _ _ (by simp)];refine HK.out _ ?_;with_reducible assumption)|go_keep)
  (first|(go_at_call 141;refine(kS _ (by first|(with_reducible assumption)|exact hR5)).mono ?_;rintro r w7 ⟨v7,rfl,ho7,hb7⟩)|(go_at_call 138;refine(k56 _ _ ho7 hb7).mono ?_;rintro r w8 ⟨s8,ao8,n8,cap8,ex8,rfl,hN8,hb8,hblk8,⟨x1,x2,x3⟩,x4,x5,x6⟩))
 have HF:Hid (Bw w5 w8):=hb8;clear ho7 hb7 hb8 k56 kS x1 x2 x3 x4 x5 x6 a0 a1 a2 b0 b1 b2 HK
 go_wp2;refine xW9 (xE2 rfl _ _ (w.heap.size+1+1) 132 #[.bool s8,.slice ao8 n8 cap8,.int .i64 ex8] (0,0) _ rfl (qX1 _ _ _ hblk8.out) Tryz.underlying132 rfl Tryz.info132) rfl ?_;obtain⟨-,hs,hBW⟩:=HH.out;have hs4:=HC5.out.2.size;have hs5:=hN8.out.2;exact⟨_,rfl,(hN8.out.1.store (by omega) _ _ _).mono (by omega),qQ3 (hBW.trans ((HC5.out.2.trans (HF.out.mono hs4)).mono hBW.size)) (by omega) _ _ _⟩
theorem yD6 {na nb:Bool} {ua va:Option Addr} {uc vc x y:Nat} {ea eb:Int} {w:World} (h1:Arg w ua (dlen x) uc x) (h2:Arg w va (dlen y) vc y) (c1:cn na x ea=(na,x,ea)) (c2:cn nb y eb=(nb,y,eb)) (he1 : -2000000≤ea) (he2:ea≤2000000) (he3 : -2000000≤eb) (he4:eb≤2000000) (hl1:dlen x≤300000) (hl2:dlen y≤300000) (hsm:na=nb∨x=0) :
  Calls Tryz.prog 92 #[.agg #[.bool na,.slice ua (dlen x) uc,.int .i64 ea],.agg #[.bool nb,.slice va (dlen y) vc,.int .i64 eb]] w fun r w'=>∃ a,r=.returned a∧NC w' w.heap.size a (sumN na x ea nb y eb).1 (sumN na x ea nb y eb).2.1 (sumN na x ea nb y eb).2.2∧Bw w w':=by
 unfold sumN;by_cases x0:x=0
 ·rw[if_pos x0];show Calls _ _ _ _ fun r w'=>∃ a,r=.returned a∧NC w' w.heap.size a nb y eb∧_
  subst x0;rw[qQ5];refine(zW7 na nb ua va uc _ vc ea eb w y h2).mono ?_
  rintro r w' ⟨ao',cap',rfl,hd,hb⟩;exact⟨_,rfl,hd.nc (by first|exact c2|exact c1) (by omega),hb⟩
 ·rw[if_neg x0];by_cases y0:y=0
  ·rw[if_pos y0];show Calls _ _ _ _ fun r w'=>∃ a,r=.returned a∧NC w' w.heap.size a na x ea∧_
   subst y0;rw[qQ5];refine(zW6 na nb ua va _ uc vc ea eb w x h1 (qY9 (n:=0) x0)).mono ?_
   rintro r w' ⟨ao',cap',rfl,hd,hb⟩;exact⟨_,rfl,hd.nc (by first|exact c2|exact c1) (by omega),hb⟩
  ·rw[if_neg y0];have l1:dlen (x*2^(ea - min ea eb).toNat)≤760000:=by have:=qK1 (x:=x) (k:=(ea - min ea eb).toNat) rfl;omega
   have l2:dlen (y*2^(eb - min ea eb).toNat)≤760000:=by have:=qK1 (x:=y) (k:=(eb - min ea eb).toNat) rfl;omega
   have ku:∀ W i,Bw w W→i=ea - min ea eb→Calls Tryz.prog 137 #[.slice ua (dlen x) uc,.int .i64 i] W fun r w'=>∃ v,r=.returned v∧Ir w' v (x*2^(ea - min ea eb).toNat)∧Bw W w':=by
    intro W i hW hi;have hik:i=(((ea - min ea eb).toNat:Nat):Int):=by omega
    rw[hik];exact rup ⟨ua,uc,rfl,h1.le,(h1.later hW).at_⟩ _ (by omega) (by omega)
   have kv:∀ W i,Bw w W→i=eb - min ea eb→Calls Tryz.prog 137 #[.slice va (dlen y) vc,.int .i64 i] W fun r w'=>∃ v,r=.returned v∧Ir w' v (y*2^(eb - min ea eb).toNat)∧Bw W w':=by
    intro W i hW hi;have hik:i=(((eb - min ea eb).toNat:Nat):Int):=by omega
    rw[hik];exact rup ⟨va,vc,rfl,h2.le,(h2.later hW).at_⟩ _ (by omega) (by omega)
   have hs:na=nb:=hsm.resolve_right x0;rw[if_pos hs];have hne:(na==nb)=true:=by simp[hs]
   refine(zH3 na nb ua va _ uc _ vc _ _ ea eb w hne (by have:=qK3 (x*2^(ea - min ea eb).toNat) (y*2^(eb - min ea eb).toNat);omega) (by omega) (by omega) (by omega) (by omega) (by omega) (by omega) (qY9 (n:=0) x0) (qY9 (n:=0) y0) ku kv).mono ?_
   rintro r w' ⟨a,rfl,hn,hb⟩;exact⟨a,rfl,hn,hb⟩
theorem yD7 {na nb:Bool} {ua va:Option Addr} {uc vc x y:Nat} {ea eb:Int} {w:World} (h1:Arg w ua (dlen x) uc x) (h2:Arg w va (dlen y) vc y) (c1:cn na x ea=(na,x,ea)) (c2:cn nb y eb=(nb,y,eb)) (he1 : -2000000≤ea) (he2:ea≤2000000) (he3 : -2000000≤eb) (he4:eb≤2000000) (hl1:dlen x≤300000) (hl2:dlen y≤300000) :
  Calls Tryz.prog 92 #[.agg #[.bool na,.slice ua (dlen x) uc,.int .i64 ea],.agg #[.bool nb,.slice va (dlen y) vc,.int .i64 eb]] w fun r w'=>∃ a,r=.returned a∧NC w' w.heap.size a (sumN na x ea nb y eb).1 (sumN na x ea nb y eb).2.1 (sumN na x ea nb y eb).2.2∧Bw w w':=by
 unfold sumN;by_cases x0:x=0
 ·rw[if_pos x0];show Calls _ _ _ _ fun r w'=>∃ a,r=.returned a∧NC w' w.heap.size a nb y eb∧_
  subst x0;rw[qQ5];refine(zW7 na nb ua va uc _ vc ea eb w y h2).mono ?_
  rintro r w' ⟨ao',cap',rfl,hd,hb⟩;exact⟨_,rfl,hd.nc (by first|exact c2|exact c1) (by omega),hb⟩
 ·rw[if_neg x0];by_cases y0:y=0
  ·rw[if_pos y0];show Calls _ _ _ _ fun r w'=>∃ a,r=.returned a∧NC w' w.heap.size a na x ea∧_
   subst y0;rw[qQ5];refine(zW6 na nb ua va _ uc vc ea eb w x h1 (qY9 (n:=0) x0)).mono ?_
   rintro r w' ⟨ao',cap',rfl,hd,hb⟩;exact⟨_,rfl,hd.nc (by first|exact c2|exact c1) (by omega),hb⟩
  ·rw[if_neg y0];have l1:dlen (x*2^(ea - min ea eb).toNat)≤760000:=by have:=qK1 (x:=x) (k:=(ea - min ea eb).toNat) rfl;omega
   have l2:dlen (y*2^(eb - min ea eb).toNat)≤760000:=by have:=qK1 (x:=y) (k:=(eb - min ea eb).toNat) rfl;omega
   have ku:∀ W i,Bw w W→i=ea - min ea eb→Calls Tryz.prog 137 #[.slice ua (dlen x) uc,.int .i64 i] W fun r w'=>∃ v,r=.returned v∧Ir w' v (x*2^(ea - min ea eb).toNat)∧Bw W w':=by
    intro W i hW hi;have hik:i=(((ea - min ea eb).toNat:Nat):Int):=by omega
    rw[hik];exact rup ⟨ua,uc,rfl,h1.le,(h1.later hW).at_⟩ _ (by omega) (by omega)
   have kv:∀ W i,Bw w W→i=eb - min ea eb→Calls Tryz.prog 137 #[.slice va (dlen y) vc,.int .i64 i] W fun r w'=>∃ v,r=.returned v∧Ir w' v (y*2^(eb - min ea eb).toNat)∧Bw W w':=by
    intro W i hW hi;have hik:i=(((eb - min ea eb).toNat:Nat):Int):=by omega
    rw[hik];exact rup ⟨va,vc,rfl,h2.le,(h2.later hW).at_⟩ _ (by omega) (by omega)
   by_cases hs:na=nb
   ·rw[if_pos hs];have hne:(na==nb)=true:=by simp[hs]
    refine(zH3 na nb ua va _ uc _ vc _ _ ea eb w hne (by have:=qK3 (x*2^(ea - min ea eb).toNat) (y*2^(eb - min ea eb).toNat);omega) (by omega) (by omega) (by omega) (by omega) (by omega) (by omega) (qY9 (n:=0) x0) (qY9 (n:=0) y0) ku kv).mono ?_
    rintro r w' ⟨a,rfl,hn,hb⟩;exact⟨a,rfl,hn,hb⟩
   ·rw[if_neg hs];have hne:(na==nb)=false:=by simp[hs]
    by_cases hlt:x*2^(ea - min ea eb).toNat<y*2^(eb - min ea eb).toNat
    ·rw[if_pos hlt];refine(yU1 na nb ua va _ uc _ vc _ _ ea eb w hlt hne (xW (qZ3 (Nat.sub_le ..)) (by omega)) (by omega) (by omega) (by omega) (by omega) (by omega) (by omega) (qY9 (n:=0) x0) (qY9 (n:=0) y0) ku kv).mono ?_
     rintro r w' ⟨a,rfl,hn,hb⟩;exact⟨a,rfl,hn,hb⟩
    ·rw[if_neg hlt];refine(yU0 na nb ua va _ uc _ vc _ _ ea eb w (by omega) hne (xW (qZ3 (Nat.sub_le ..)) (by omega)) (by omega) (by omega) (by omega) (by omega) (by omega) (by omega) (qY9 (n:=0) x0) (qY9 (n:=0) y0) ku kv).mono ?_
     rintro r w' ⟨a,rfl,hn,hb⟩;exact⟨a,rfl,hn,hb⟩
end Go.Proofs.YtbanebginnakhaaGreatDoor
namespace Go.Proofs.YtbanebginnakhaaGreatDoor
open Go.RowKit Go.Fl64
theorem yD8 {neg:Bool} {ao:Option Addr} {n cap x:Nat} {e:Int} {w:World} (h2:At w ao n x) (hn:dlen x≤n) (h1:n≤cap) (hc:n≤1000000000) (he : -4611686018427387904≤e∧e≤4611686018427387904) :
  Calls Tryz.prog 138 #[.bool neg,.slice ao n cap,.int .i64 e] w fun r w'=>∃ a,r=.returned a∧NC w' w.heap.size a neg x e∧Bw w w':=by
 by_cases h0:x=0
 ·subst h0;refine(xG5 neg ao _ cap e w h2 h1 (by omega)).mono ?_
  rintro r w' ⟨rfl,hb⟩;refine⟨_,rfl,⟨none,0,?_,?_,fun ad e=>by cases e⟩,hb⟩
  ·unfold cn;rw[if_pos rfl,qQ5]
  ·unfold cn;rw[if_pos rfl];exact⟨fun _=>.inr ⟨rfl,rfl⟩,⟨0,0,fun h=>by rw[qQ5] at h;omega,fun i hi=>by rw[qQ5] at hi;omega⟩,by rw[qQ5];exact xL0 _,by rw[qQ5];omega⟩
 ·refine(yS2 neg ao _ cap x e w h2 hn h1 hc h0 he).mono ?_
  rintro r w' ⟨g,cap',rfl,hg,hcc,ho,hb⟩;have hle:dlen (x / 2^tz x)≤dlen x:=qZ3 (xW0 _ _);refine⟨_,rfl,⟨some ⟨g,0,none⟩,cap',?_,?_,fun ad e _=>?_⟩,hb⟩
  ·unfold cn;rw[if_neg h0]
  ·unfold cn;rw[if_neg h0];exact⟨fun _=>.inl ⟨_,rfl⟩,ho,hcc,(by omega:dlen (x / 2^tz x)≤35184372088832)⟩
  ·injection e with e;rw[←e];exact hg
theorem qO {ng:Bool} {m:Nat} {e:Int} {W:World} (hm:m<18446744073709551616) (he : -4611686018427387904≤e∧e≤4611686018427387904) :
  Calls Tryz.prog 138 #[.bool ng,.slice (some ⟨W.heap.size,0,none⟩) 2 2,.int .i64 e] (W.alloc (Obj.cells #[Value.int IntKind.u32 ((m:Int) % 4294967296),Value.int IntKind.u32 ((m:Int) / 4294967296)] 50)) fun r w'=>∃ s ao n cap ex,r=.returned (.agg #[.bool s,.slice ao n cap,.int .i64 ex])∧NC w' (W.heap.size+1) (.agg #[.bool s,.slice ao n cap,.int .i64 ex]) ng m e∧Bw W w':=by
 have hL:dlen m≤2:=(qQ9 2 m).2 (by unfold B;omega)
 refine(yD8 (xK1 m W hm) hL (xL0 _) (by omega) he).mono ?_
 rintro r w' ⟨a,rfl,hn,hb⟩;obtain⟨s,ao,n,cap,ex,rfl⟩:=hn.shape;refine⟨_,_,_,_,_,rfl,hn.mono (by simp),?_⟩
 exact((xL1 W.heap.size W).alloc (xL0 _) _).trans (hb.mono (by simp))
def tF (a:Nat):Bool×Nat×Int:=cn (neg a) (Ie.mant a) (Ie.lp a)
def DN (w:World) (A:Value) (t:Bool×Nat×Int):Prop:=∃ ao cap,A=.agg #[.bool t.1,.slice ao (dlen t.2.1) cap,.int .i64 t.2.2]∧Arg w ao (dlen t.2.1) cap t.2.1
theorem DN.later {w w':World} {A:Value} {t:Bool×Nat×Int} (h:DN w A t) (hb:Bw w w'):DN w' A t:=by
 obtain⟨ao,cap,h1,h2⟩:=h;exact⟨ao,cap,h1,h2.later hb⟩
theorem DN.shape {w:World} {A:Value} {t:Bool×Nat×Int} (h:DN w A t):∃ s ao n cap e,A=.agg #[.bool s,.slice ao n cap,.int .i64 e]:=by
 obtain⟨ao,cap,h1,-⟩:=h;exact⟨_,_,_,_,_,h1⟩
theorem NC.dn {w:World} {base:Nat} {a:Value} {neg:Bool} {x:Nat} {e:Int} (h:NC w base a neg x e):DN w a (cn neg x e):=by
 obtain⟨ao,cap,h1,h2,-⟩:=h;exact⟨ao,cap,h1,h2⟩
end Go.Proofs.YtbanebginnakhaaGreatDoor
namespace Go.Proofs.YtbanebginnakhaaGreatDoor
open Go.RowKit
theorem xD8 (b o cap m whole part x k:Nat) (w:World) (hm0:0<m) (hm:m≤35184372088832) (hk:k≤1099511627776) (hcap:whole+m≤cap) (hcap2:cap≤9223372036854775807) (hwh:k / 32=whole) (hpa:k % 32=part)
  (hn:dlen x=whole+m) (hcell:∀ i,i<whole+m→w.cell? ⟨b,o+i,none⟩=some (.int .u32 (dg x i:Nat))) :
  Calls Tryz.prog 132 #[.slice (some ⟨b,o,none⟩) (whole+m:Nat) cap,.int .i64 k] w fun e w'=>∃ v,e=.returned v∧Own w' w.heap.size v (x / 2^k)∧Bw w w':=by
 have hq:(k:Int).tdiv 32=((k / 32:Nat):Int):=by rw[Int.tdiv_eq_ediv_of_nonneg (by omega)];rfl
 have hr:(k:Int).tmod 32=((k % 32:Nat):Int):=by rw[Int.tmod_eq_emod_of_nonneg (by omega)];rfl
 have hwb:whole≤1099511627776:=by omega
 have hpb:part<32:=by omega
 rw[hwh] at hq;rw[hpa] at hr;have hmk:=run_make_row' (P:=Tryz.prog) 82 50 (.int .u32 0) 4 Tryz.underlying82 Tryz.info50 rfl .i64 .i64 m (by omega) (by omega)
 have HN:Hid (dlen x=whole+m):=hn;have HW:Hid (k / 32=whole):=hwh;have HP:Hid (k % 32=part):=hpa;clear hn hwh hpa;have hmi:(whole:Int)<((whole+m:Nat):Int):=by omega
 have hmi2:¬ whole=cap:=by omega
 go_enter Tryz.func132,Tryz.ntmps132
 go_wp2;clear hmk
 go_loopw [27] (fun i wr=>∃ j:Nat,j≤m∧i=.int .i64 j∧Mk w wr m (fun t=>if t<j then dg (x / 2^k) t else 0)) (fun i _=>m - (intOf i).toNat)
 case atStart=>exact⟨0,xW5 _,rfl,(Mk.start w _).congr fun i hi=>by rw[if_neg (by omega)]⟩
 case round =>
  obtain⟨j,hj,rfl,hM⟩:=hrel;by_cases hjn:j+1<m
  ·have g1:=hM.old (hcell (whole+j) (by omega))
   have g4:=hM.old (hcell (whole+(j+1)) (by omega))
   rw[←Nat.add_assoc] at g1 g4;have g2:=hM.cell (i:=j) (by omega)
   have g3:=hM.frozen j;rw[if_neg (by omega)] at g2
   have hji:(j:Int)+1<(m:Int):=by omega
   have HM:Hid (Mk w wr m (fun t=>if t<j then dg (x / 2^k) t else 0)):=hM;generalize hd:dg x (whole+j)=d at *;generalize hd1:dg x (whole+(j+1))=d1 at *;have HD:Hid (dg x (whole+j)=d):=hd;have HD1:Hid (dg x (whole+(j+1))=d1):=hd1;have HL:Hid (d<B∧d1<B):=⟨hd ▸ qZ4 _ _,hd1 ▸ qZ4 _ _⟩;clear hd hd1 hM hcell
   go_wp2;exact qM8 HM.out (by rw[qM6 HL.out.1 HL.out.2,qJ9 HW.out HP.out,HD.out,HD1.out]) (by omega)
  ·by_cases hjm:j<m
   ·have g1:=hM.old (hcell (whole+j) (by omega))
    rw[←Nat.add_assoc] at g1;have g2:=hM.cell (i:=j) (by omega)
    have g3:=hM.frozen j;rw[if_neg (by omega)] at g2
    have hji:¬ (j:Int)+1<(m:Int):=by omega
    have hji2:(j:Int)<(m:Int):=by omega
    have HM:Hid (Mk w wr m (fun t=>if t<j then dg (x / 2^k) t else 0)):=hM;generalize hd:dg x (whole+j)=d at *;have HD:Hid (dg x (whole+j)=d):=hd;have HL:Hid (d<B):=hd ▸ qZ4 _ _;have HZ:Hid (dg x (whole+(j+1))=0):=qY6 (by rw[HN.out];omega)
    clear hd hM hcell
    go_wp2;exact qM8 HM.out (by rw[qM7 HL.out,qJ9 HW.out HP.out,HD.out,HZ.out,Nat.zero_mul,Nat.add_zero]) (by omega)
   ·obtain rfl:j=m:=by omega
    have hE:Mk w wr j (dg (x / 2^k)):=hM.congr fun i hi=>if_pos hi;have hA:=hE.at;have hL:=qE5 (k:=k) (m:=j) (by rw[HW.out];exact HN.out)
    have HC:Hid (Mk w wr j (dg (x / 2^k))):=hE;clear hM hcell hE
    go_wp2_with (first|(go_at_call 130;refine(c62 _ _ _ (x / 2^k) _ hL (xL0 _) (by omega) hA).mono ?_;rintro e w' ⟨rfl,rfl⟩))
    go_ret;exact⟨_,rfl,HC.out.own hL (by omega),HC.out.below⟩
theorem yP4 {x:Nat} (hx0:x≠0):tz x / 32<dlen x:=by
 have h1:=(qX0 _ x (xL0 _) hx0);have h2:2^tz x≤x:=by
  have h3:1≤x / 2^tz x:=xW1 fun e0=>by have:=h1.2;rw[e0] at this;simp at this
  have:=xW2 (2^tz x) h3
  omega
 have h4:=qV0 x;have h5:tz x<bl x:=Nat.lt_of_not_le fun h6=>by
  have:=xL6 (n:=2) (by omega) h6
  omega
 have hd0:dlen x≠0:=fun e=>hx0 (qQ7.1 e);have:=qE hx0
 have:=qN7 (qZ4 x (dlen x - 1))
 omega
theorem c56_v (neg:Bool) (b o n cap x:Nat) (e:Int) (w:World) (hcell:∀ i,i<n→w.cell? ⟨b,o+i,none⟩=some (.int .u32 (dg x i:Nat))) (hc1:n≤cap) (hc2:cap≤9223372036854775807) (hn:dlen x=n) (hx:dlen x≤1000000000) (hx0:x≠0) (hT:Tab32 w) (he : -4611686018427387904≤e∧e≤4611686018427387904) :
  Calls Tryz.prog 174 #[.bool neg,.slice (some ⟨b,o,none⟩) n cap,.int .i64 e] w fun r w'=>∃ v,r=.returned (.agg #[.bool neg,v,.int .i64 (e+tz x)])∧Own w' w.heap.size v (x / 2^tz x)∧Bw w w':=by
 obtain⟨w0,hw0⟩:∃ w0,w0=w.alloc (.cells #[.bool false,.slice none 0 0,.int .i64 0] 84):=⟨_,rfl⟩;have hB0:Bw w w0:=by rw[hw0];exact(xL1 _ _).alloc (xL0 _) _
 have hcell0:∀ i,i<n→w0.cell? ⟨b,o+i,none⟩=some (.int .u32 (dg x i:Nat)):=fun i hi=>(hB0.cell (World.block_lt_of_cell? _ _ (hcell i hi))).trans (hcell i hi);have hT0:=hT.later hB0;have k62:=c62 (some ⟨b,o,none⟩) n cap x w0 (by omega) hc1 (by omega) ⟨b,o,fun _=>rfl,hcell0⟩
 rw[hn] at k62;have k119:=yT b o n cap x w0 (by omega) hn hx0 hT0 hcell0
 have htz:=yP4 hx0;have htb:tz x≤40000000000:=by omega
 have k120:Calls Tryz.prog 132 #[.slice (some ⟨b,o,none⟩) n cap,.int .i64 (tz x:Nat)] w0 fun e w'=>∃ v,e=.returned v∧Own w' w0.heap.size v (x / 2^tz x)∧Bw w0 w':=by
  obtain⟨m,hm⟩:∃ m,dlen x=tz x / 32+m:=⟨dlen x - tz x / 32,by omega⟩
  rw[←hn,hm];exact xD8 b o cap m _ _ x (tz x) w0 (by omega) (by omega) (by omega) (by omega) hc2 rfl rfl hm (fun i hi=>hcell0 i (by omega))
 have hn0:((n:Int)==0)=false:=by
  have:dlen x≠0:=fun e=>hx0 (qQ7.1 e)
  simp;omega
 have HH:Hid (w0.heap[w.heap.size]?=some (.cells #[.bool false,.slice none 0 0,.int .i64 0] 84 (0,0))):=(by rw[hw0];exact xW8 _ _:w0.heap[w.heap.size]?=some (.cells #[.bool false,.slice none 0 0,.int .i64 0] 84 (0,0)))
 have HB0:Hid (Bw w w0):=hB0;have HX:Hid (w0.heap.size=w.heap.size+1):=(by rw[hw0];simp:w0.heap.size=w.heap.size+1)
 generalize htzx:tz x=t at *;have HTZ:Hid (tz x=t):=htzx;obtain⟨he1,he2⟩:=he;clear hcell hcell0 hT hT0 hn hx0 hx hB0 htzx htz
 go_enter Tryz.func174,Tryz.ntmps174
 go_wp2_with fail;rw[←hw0];clear hw0;refine k62.mono ?_;rintro e w1 ⟨rfl,rfl⟩;clear k62
 go_wp2_with fail;refine k119.mono ?_;rintro e w2 ⟨rfl,rfl⟩;clear k119
 go_wp2_with fail;refine k120.mono ?_;rintro e w3 ⟨v,rfl,hO,hB⟩;obtain⟨va,vc,rfl,-,-,-⟩:=hO.is;generalize dlen (x / 2^t)=vl at *;have HH3:Hid (w3.heap[w.heap.size]?=some (.cells #[.bool false,.slice none 0 0,.int .i64 0] 84 (0,0))):=qQ HH.out hB (by have:=HX.out;omega)
 obtain⟨⟨a1,a2,a3⟩,a4,a5,a6⟩:=qQ1 HH3.out;have HO:Hid (Own w3 w2.heap.size (.slice va vl vc) (x / 2^t)):=hO;have HB:Hid (Bw w2 w3):=hB;clear k120 hO hB
 go_wp2;refine xW9 (xE2 rfl _ _ w.heap.size 84 #[.bool neg,.slice va vl vc,.int .i64 (e+t)] (0,0) _ rfl (qX4 _ _ _ HH3.out) Tryz.underlying84 rfl Tryz.info84) rfl ?_;have hx:=HX.out;exact⟨_,rfl,(qV5 HO.out (by omega) _ _ _).mono (by omega),qQ3 (HB0.out.trans (HB.out.mono (by omega))) (xL0 _) _ _ _⟩
def Mk25 (w w':World) (neg:Bool) (x:Nat) (e:Int) (r:Ending):Prop :=
 (okR neg x e=true∧∃ A,r=.returned (.tuple #[A,.int .i64 0])∧Nrm w' w.heap.size A neg x e)∨(okR neg x e=false∧r=.returned (.tuple #[.agg #[.bool false,.slice none 0 0,.int .i64 0],.int .i64 2]))
theorem c15_0 (neg:Bool) (ao:Option Addr) (n cap:Nat) (e:Int) (w:World) (h:At w ao n 0) (hn:n≤cap) (hc:n≤70368744177664) :
  Calls Tryz.prog 120 #[.bool neg,.slice ao n cap,.int .i64 e] w fun r w'=>Mk25 w w' neg 0 e r∧Bw w w':=by
 have HB:Hid (Below w.heap.size w (w.alloc (.cells #[.bool false,.slice none 0 0,.int .i64 0] 84))):=(xL1 _ _).alloc (xL0 _) _;have k:=c62 ao n cap 0 (w.alloc (.cells #[.bool false,.slice none 0 0,.int .i64 0] 84)) (by rw[qQ5];omega) hn hc (h.later HB.out)
 rw[qQ5] at k;clear h
 go_enter Tryz.func120,Tryz.ntmps120
 go_wp2_with fail;refine k.mono ?_;rintro r w1 ⟨rfl,rfl⟩
 go_wp2;refine xW9 (qQ4 rfl _ _ w.heap.size 84 #[.bool false,.slice none 0 0,.int .i64 0] (0,0) _ rfl (xW8 _ _) Tryz.underlying84 rfl Tryz.info84) rfl ?_;refine⟨?_,HB.out⟩
 unfold Mk25;exact .inl ⟨by unfold okR;rw[if_pos rfl],_,rfl,.inl ⟨rfl,rfl⟩⟩
theorem yA5 {neg:Bool} {x:Nat} {e:Int} (hx:x≠0) (h:e > 65536∨e < -65536 - 32*(dlen x:Int)):okR neg x e=false:=by
 have ht:=yP4 hx;unfold okR okN;rw[if_neg hx];have hy:dlen (x / 2^tz x)≠0:=by
  intro e0;have:=(qX0 _ x (xL0 _) hx).2
  rw[qQ7.1 e0] at this;simp at this
 rw[if_neg hy];simp only[Bool.and_eq_false_iff,decide_eq_false_iff_not];rcases h with h|h
 ·exact .inr (by omega)
 ·exact .inl (.inr (by omega))
theorem c15_1 (neg:Bool) (b o n cap x:Nat) (e:Int) (w:World) (hcell:∀ i,i<n→w.cell? ⟨b,o+i,none⟩=some (.int .u32 (dg x i:Nat))) (hxn:dlen x≤n) (hn:n≤cap) (hc2:cap≤9223372036854775807) (hc:n≤1000000000) (hx0:x≠0) (he : -9223372036854775808≤e∧e≤9223372036854775807) (hT:Tab32 w) :
  Calls Tryz.prog 120 #[.bool neg,.slice (some ⟨b,o,none⟩) n cap,.int .i64 e] w fun r w'=>Mk25 w w' neg x e r∧Bw w w':=by
 obtain⟨W,hW⟩:∃ W,W=w.alloc (.cells #[.bool false,.slice none 0 0,.int .i64 0] 84):=⟨_,rfl⟩;have hBW:Bw w W:=by rw[hW];exact(xL1 _ _).alloc (xL0 _) _
 have hcW:∀ i,i<n→W.cell? ⟨b,o+i,none⟩=some (.int .u32 (dg x i:Nat)):=fun i hi=>(hBW.cell (World.block_lt_of_cell? _ _ (hcell i hi))).trans (hcell i hi);have k38:=c62 (some ⟨b,o,none⟩) n cap x W hxn hn (by omega) ⟨b,o,fun _=>rfl,hcW⟩
 have HX:Hid (Bw w W∧W.heap.size=w.heap.size+1∧W.heap[w.heap.size]?=some (.cells #[.bool false,.slice none 0 0,.int .i64 0] 84 (0,0))):=⟨hBW,by rw[hW];simp,by rw[hW];exact xW8 _ _⟩
 obtain⟨he1,he2⟩:=he;have hl0:dlen x≠0:=fun e=>hx0 (qQ7.1 e);have hlb:dlen x≤1000000000:=by omega
 have hn0:((dlen x:Int)==0)=false:=by simp;omega
 by_cases hbad:e > 65536∨e < -65536 - 32*(dlen x:Int)
 ·have HO:Hid (okR neg x e=false):=yA5 hx0 hbad;clear hcell hcW hBW hT hx0;generalize dlen x=L at *;obtain⟨⟨a0,a1,a2⟩,a3,a4,a5⟩:=qQ1 HX.out.2.2;rcases hbad with hbad|hbad
  ·go_enter Tryz.func120,Tryz.ntmps120
   go_wp2_with fail;rw[←hW];clear hW;refine k38.mono ?_;rintro r w1 ⟨rfl,hw1⟩;replace hw1:=hw1.symm;subst hw1;clear k38
   go_wp2_with fail;refine xW9 (qQ4 rfl _ _ w.heap.size 84 #[.bool false,.slice none 0 0,.int .i64 0] (0,0) _ rfl (qX4 _ _ _ HX.out.2.2) Tryz.underlying84 rfl Tryz.info84) rfl ?_;refine⟨?_,qQ3 HX.out.1 (xL0 _) _ _ _⟩
   unfold Mk25;exact .inr ⟨HO.out,rfl⟩
  ·have hnb:¬ e > 65536:=by omega
   go_enter Tryz.func120,Tryz.ntmps120
   go_wp2_with fail;rw[←hW];clear hW;refine k38.mono ?_;rintro r w1 ⟨rfl,hw1⟩;replace hw1:=hw1.symm;subst hw1;clear k38
   go_wp2_with fail;refine xW9 (qQ4 rfl _ _ w.heap.size 84 #[.bool false,.slice none 0 0,.int .i64 0] (0,0) _ rfl (qX4 _ _ _ HX.out.2.2) Tryz.underlying84 rfl Tryz.info84) rfl ?_;refine⟨?_,qQ3 HX.out.1 (xL0 _) _ _ _⟩
   unfold Mk25;exact .inr ⟨HO.out,rfl⟩
 ·have h1:¬ e > 65536:=fun h=>hbad (.inl h);have h2:¬ e < -65536 - 32*(dlen x:Int):=fun h=>hbad (.inr h);have k31:=c56_v neg b o (dlen x) cap x e W (fun i hi=>hcW i (by omega)) (by omega) hc2 rfl (by omega) hx0 (hT.later hBW) (by omega)
  have HN0:Hid (x≠0∧dlen x≤35184372088832):=⟨hx0,by omega⟩
  clear hcell hcW hBW hT hx0 hbad;generalize hLx:dlen x=L at *;have HLx:Hid (dlen x=L):=hLx;clear hLx
  go_enter Tryz.func120,Tryz.ntmps120
  go_wp2_with fail;rw[←hW];clear hW;refine k38.mono ?_;rintro r w1 ⟨rfl,hw1⟩;replace hw1:=hw1.symm;subst hw1;clear k38
  go_wp2_with fail;refine k31.mono ?_;rintro r w2 ⟨v,rfl,ho,hb2⟩;obtain⟨va,vk,rfl,-,-,-⟩:=ho.is;have HN:Hid (Nrm w2 W.heap.size (.agg #[.bool neg,.slice va (dlen (x / 2^tz x)) vk,.int .i64 (e+tz x)]) neg x e):=(.inr ⟨HN0.out.1,_,rfl,ho⟩:Nrm w2 W.heap.size (.agg #[.bool neg,.slice va (dlen (x / 2^tz x)) vk,.int .i64 (e+tz x)]) neg x e);have HB2:Hid (Bw W w2):=hb2;have k39:=c63n HN.out (by rw[HLx.out];exact HN0.out.2)
  clear k31 ho hb2
  go_wp2_with fail;refine k39.mono ?_;rintro r w3 ⟨rfl,hb3⟩;have HB3:Hid (Bw W w3):=HB2.out.trans (hb3.mono HB2.out.size);have HN3:Hid (Nrm w3 W.heap.size (.agg #[.bool neg,.slice va (dlen (x / 2^tz x)) vk,.int .i64 (e+tz x)]) neg x e):=HN.out.later hb3;have HC3:Hid (w3.heap[w.heap.size]?=some (.cells #[.bool false,.slice none 0 0,.int .i64 0] 84 (0,0))):=qQ HX.out.2.2 HB3.out (by have:=HX.out.2.1;omega)
  obtain⟨⟨x1,x2,x3⟩,x4,x5,x6⟩:=qQ1 HC3.out;clear k39 hb3;cases hok:okR neg x e
  ·have HOK:Hid (okR neg x e=false):=hok;have hNil:Nil=.agg #[.bool false,.slice none 0 0,.int .i64 0]:=rfl
   go_wp2;refine xW9 (qQ4 rfl _ _ w.heap.size 84 #[.bool false,.slice none 0 0,.int .i64 0] (0,0) _ rfl (qX4 _ _ _ HC3.out) Tryz.underlying84 rfl Tryz.info84) rfl ?_;refine⟨?_,qQ3 (HX.out.1.trans (HB3.out.mono HX.out.1.size)) (xL0 _) _ _ _⟩
   unfold Mk25;exact .inr ⟨HOK.out,rfl⟩
  ·have HOK:Hid (okR neg x e=true):=hok
   go_wp2;refine xW9 (qQ4 rfl _ _ w.heap.size 84 #[.bool neg,.slice va (dlen (x / 2^tz x)) vk,.int .i64 (e+tz x)] (0,0) _ rfl (qX4 _ _ _ HC3.out) Tryz.underlying84 rfl Tryz.info84) rfl ?_;refine⟨?_,qQ3 (HX.out.1.trans (HB3.out.mono HX.out.1.size)) (xL0 _) _ _ _⟩
   unfold Mk25;have hn3:=HN3.out;exact .inl ⟨HOK.out,_,rfl,(hn3.store (by have:=HX.out.2.1;omega) _ _ _).mono (by have:=HX.out.2.1;omega)⟩
end Go.Proofs.YtbanebginnakhaaGreatDoor
namespace Go.Proofs.YtbanebginnakhaaGreatDoor
open Go.RowKit Go.Fl64
theorem yG1 (a m:Nat) (ha:a<18446744073709551616) (hf:mag a<9218868437227405312) (hm:Ie.sM a=(m:Int)) :
  (m=0∧Ie.mant a=0)∨(m≠0∧Ie.mant a≠0∧neg a=neg a∧m / 2^tz m=Ie.mant a / 2^tz (Ie.mant a)∧Ie.sE a+(tz m:Int)=Ie.lp a+(tz (Ie.mant a):Int)):=by
 unfold Ie.sM at hm;unfold Ie.sE;rw[if_neg (by omega)] at hm ⊢
 by_cases h0:mag a=0
 ·rw[if_pos h0] at hm;exact .inl ⟨by omega,by unfold Ie.mant;rw[if_pos (by omega)];exact h0⟩
 ·rw[if_neg h0] at hm ⊢;have hb:=Ie.mant_bound a;have hne:=Ie.mant_ne h0;have hct:Lib.ctz 64 (Ie.mant a)=tz (Ie.mant a):=zT4 hne (by omega)
  rw[hct] at hm ⊢;have e1:m=Ie.mant a / 2^tz (Ie.mant a):=by
   have:((Ie.mant a / 2^tz (Ie.mant a):Nat):Int)=(m:Int):=by rw[←hm];simp
   omega
  obtain⟨h1,h2⟩:=qX0 _ (Ie.mant a) (xL0 _) hne;rw[←e1] at h2;have e2:tz m=0:=qO0 h2;refine .inr ⟨by intro e;rw[e] at h2;simp at h2,hne,rfl,?_,?_⟩
  ·rw[e2,←e1];simp
  ·rw[e2];simp
end Go.Proofs.YtbanebginnakhaaGreatDoor
namespace Go.Proofs.YtbanebginnakhaaGreatDoor
open Go.RowKit
theorem neg_no (na:Bool) (ua:Option Addr) (un uc:Nat) (ea:Int) (w:World)
  (k43:∀ W g,Bw w W→W.heap[g]?=some (.cells #[.bool na,.slice ua un uc,.int .i64 ea] 84 (0,0))→Calls Tryz.prog 78 #[.slice (some ⟨g,0,none⟩) 1 1] W fun r w'=>r=.returned (.bool false)∧Bw W w') :
  Calls Tryz.prog 49 #[.agg #[.bool na,.slice ua un uc,.int .i64 ea]] w fun r w'=>r=.returned (.agg #[.bool false,.slice none 0 0,.int .i64 0])∧Bw w w':=by
 obtain⟨W,hW⟩:∃ W,W=(w.alloc (.cells #[.bool na,.slice ua un uc,.int .i64 ea] 84)).alloc (.cells #[.bool false,.slice none 0 0,.int .i64 0] 84):=⟨_,rfl⟩;have hBW:Bw w W:=by rw[hW];exact((xL1 _ _).alloc (xL0 _) _).alloc (by simp) _
 have hbB:W.heap[w.heap.size+1]?=some (.cells #[.bool false,.slice none 0 0,.int .i64 0] 84 (0,0)):=by
  have:=xW8 (w.alloc (.cells #[.bool na,.slice ua un uc,.int .i64 ea] 84)) (.cells #[.bool false,.slice none 0 0,.int .i64 0] 84)
  rw[hW];simpa using this
 have hsz:W.heap.size=w.heap.size+1+1:=by rw[hW];simp
 have k1:=k43 (W.alloc (.cells #[.bool na,.slice ua un uc,.int .i64 ea] 84)) (w.heap.size+1+1) (hBW.alloc hBW.size _) (by rw[←hsz];exact xW8 _ _)
 have HX:Hid (Bw w W∧W.heap.size=w.heap.size+1+1∧W.heap[w.heap.size+1]?=some (.cells #[.bool false,.slice none 0 0,.int .i64 0] 84 (0,0))):=⟨hBW,hsz,hbB⟩;clear hBW hsz hbB k43
 go_enter Tryz.func49,Tryz.ntmps49
 go_wp2_with fail;rw[←hW];clear hW;refine k1.mono ?_;rintro r w1 ⟨rfl,hb1⟩;have HB1:Hid (Bw W w1):=((xL1 W.heap.size W).alloc (xL0 _) _).trans (hb1.mono (by simp))
 have HC:Hid (w1.heap[w.heap.size+1]?=some (.cells #[.bool false,.slice none 0 0,.int .i64 0] 84 (0,0))):=qQ HX.out.2.2 HB1.out (by have:=HX.out.2.1;omega)
 obtain⟨⟨x1,x2,x3⟩,x4,x5,x6⟩:=qQ1 HC.out;clear k1 hb1
 go_wp2;refine xW9 (xE2 rfl _ _ (w.heap.size+1) 84 #[.bool false,.slice none 0 0,.int .i64 0] (0,0) _ rfl (qX4 _ _ _ HC.out) Tryz.underlying84 rfl Tryz.info84) rfl ?_;obtain⟨q1,q2,-⟩:=HX.out;exact⟨rfl,qQ3 (q1.trans (HB1.out.mono q1.size)) (by omega) _ _ _⟩
theorem xF1 (na:Bool) (ua:Option Addr) (un uc x:Nat) (ea:Int) (nn:Bool) (w:World)
  (k43:∀ W g,Bw w W→W.heap[g]?=some (.cells #[.bool na,.slice ua un uc,.int .i64 ea] 84 (0,0))→Calls Tryz.prog 78 #[.slice (some ⟨g,0,none⟩) 1 1] W fun r w'=>r=.returned (.bool true)∧Bw W w')
  (kN:∀ W,Bw w W→Calls Tryz.prog 81 #[.agg #[.bool na,.slice ua un uc,.int .i64 ea]] W fun r w'=>∃ v,r=.returned (.agg #[.bool nn,v,.int .i64 ea])∧Own w' W.heap.size v x∧Bw W w') :
  Calls Tryz.prog 49 #[.agg #[.bool na,.slice ua un uc,.int .i64 ea]] w fun r w'=>∃ v,r=.returned (.agg #[.bool nn,v,.int .i64 ea])∧Own w' w.heap.size v x∧Bw w w':=by
 obtain⟨W,hW⟩:∃ W,W=(w.alloc (.cells #[.bool na,.slice ua un uc,.int .i64 ea] 84)).alloc (.cells #[.bool false,.slice none 0 0,.int .i64 0] 84):=⟨_,rfl⟩;have hBW:Bw w W:=by rw[hW];exact((xL1 _ _).alloc (xL0 _) _).alloc (by simp) _
 have hbA:W.heap[w.heap.size]?=some (.cells #[.bool na,.slice ua un uc,.int .i64 ea] 84 (0,0)):=by
  rw[hW,Below.heap_alloc _ _ _ (by simp)];exact xW8 _ _
 have hbB:W.heap[w.heap.size+1]?=some (.cells #[.bool false,.slice none 0 0,.int .i64 0] 84 (0,0)):=by
  have:=xW8 (w.alloc (.cells #[.bool na,.slice ua un uc,.int .i64 ea] 84)) (.cells #[.bool false,.slice none 0 0,.int .i64 0] 84)
  rw[hW];simpa using this
 have hsz:W.heap.size=w.heap.size+1+1:=by rw[hW];simp
 have k1:=k43 (W.alloc (.cells #[.bool na,.slice ua un uc,.int .i64 ea] 84)) (w.heap.size+1+1) (hBW.alloc hBW.size _) (by rw[←hsz];exact xW8 _ _)
 have HX:Hid (Bw w W∧W.heap.size=w.heap.size+1+1∧W.heap[w.heap.size]?=some (.cells #[.bool na,.slice ua un uc,.int .i64 ea] 84 (0,0))∧W.heap[w.heap.size+1]?=some (.cells #[.bool false,.slice none 0 0,.int .i64 0] 84 (0,0))):=⟨hBW,hsz,hbA,hbB⟩;have HKN:Hid _:=kN;clear hBW hsz hbA hbB k43 kN
 go_enter Tryz.func49,Tryz.ntmps49
 go_wp2_with fail;rw[←hW];clear hW;refine k1.mono ?_;rintro r w1 ⟨rfl,hb1⟩;have HB1:Hid (Bw W w1):=((xL1 W.heap.size W).alloc (xL0 _) _).trans (hb1.mono (by simp))
 have HW1:Hid (Bw w w1):=HX.out.1.trans (HB1.out.mono HX.out.1.size);obtain⟨⟨a0,a1,a2⟩,-⟩:=qQ1 (qQ HX.out.2.2.1 HB1.out (by have:=HX.out.2.1;omega))
 have k2:=HKN.out w1 HW1.out;clear k1 hb1
 go_wp2_with fail;refine k2.mono ?_;rintro r w2 ⟨v,rfl,ho,hb2⟩;obtain⟨ao,cap,rfl,-,-,-⟩:=ho.is;generalize dlen x=n2 at *;have HC:Hid (w2.heap[w.heap.size+1]?=some (.cells #[.bool false,.slice none 0 0,.int .i64 0] 84 (0,0))):=qQ HX.out.2.2.2 (HB1.out.trans (hb2.mono HB1.out.size)) (by have:=HX.out.2.1;omega)
 have HF:Hid (Own w2 w1.heap.size (.slice ao n2 cap) x∧Bw w w2∧w.heap.size+1<w1.heap.size):=⟨ho,HW1.out.trans (hb2.mono HW1.out.size),by have:=HB1.out.size;have:=HX.out.2.1;omega⟩
 obtain⟨⟨x1,x2,x3⟩,x4,x5,x6⟩:=qQ1 HC.out;clear k2 ho hb2 a0 a1 a2
 go_wp2;refine xW9 (xE2 rfl _ _ (w.heap.size+1) 84 #[.bool nn,.slice ao n2 cap,.int .i64 ea] (0,0) _ rfl (qX4 _ _ _ HC.out) Tryz.underlying84 rfl Tryz.info84) rfl ?_;exact⟨_,rfl,(qV5 HF.out.1 HF.out.2.2 _ _ _).mono (by have:=HF.out.2.2;omega),qQ3 HF.out.2.1 (by omega) _ _ _⟩
theorem yA9 {na:Bool} {ua:Option Addr} {uc x:Nat} {ea:Int} {w:World} (h1:Is w (.slice ua (dlen x) uc) x) (hx:dlen x≤1000000) (hoka:okN na (dlen x) x ea=true) :
  Calls Tryz.prog 49 #[.agg #[.bool na,.slice ua (dlen x) uc,.int .i64 ea]] w fun r w'=>∃ v,r=.returned (.agg #[.bool (!na&&decide (0<dlen x)),v,.int .i64 ea])∧Own w' w.heap.size v x∧Bw w w' :=
 xF1 na ua _ uc x ea _ w (fun W g hW hg=>by
  have:=zQ9 hg (h1.later hW) (by omega)
  rw[hoka] at this;exact this) (fun W hW=>yS8 (h1.later hW) (by omega))
theorem sub_no (na nb:Bool) (ua va:Option Addr) (un uc vn vc:Nat) (ea eb:Int) (w:World)
  (k67:∀ W g,Bw w W→W.heap[g]?=some (.cells #[.bool na,.slice ua un uc,.int .i64 ea,.bool nb,.slice va vn vc,.int .i64 eb] 84 (0,0))→Calls Tryz.prog 78 #[.slice (some ⟨g,0,none⟩) 2 2] W fun r w'=>r=.returned (.bool false)∧Bw W w') :
  Calls Tryz.prog 194 #[NumV na (.slice ua un uc) ea,NumV nb (.slice va vn vc) eb] w fun r w'=>r=.returned (.tuple #[Nil,.int .i64 1])∧Bw w w':=by
 obtain⟨W,hW⟩:∃ W,W=((w.alloc (.cells #[.bool na,.slice ua un uc,.int .i64 ea] 84)).alloc (.cells #[.bool nb,.slice va vn vc,.int .i64 eb] 84)).alloc (.cells #[.bool false,.slice none 0 0,.int .i64 0] 84):=⟨_,rfl⟩;obtain⟨hA,hBb,hC,hsz,hBW⟩:=qK0 _ _ _ hW;have hB4:Below w.heap.size w (W.alloc (.cells #[.bool na,.slice ua un uc,.int .i64 ea,.bool nb,.slice va vn vc,.int .i64 eb] 84)):=hBW.alloc hBW.size _;have k1:=k67 (W.alloc (.cells #[.bool na,.slice ua un uc,.int .i64 ea,.bool nb,.slice va vn vc,.int .i64 eb] 84)) (w.heap.size+1+1+1) hB4 (by rw[←hsz];exact xW8 _ _)
 have HH:Hid (W.heap[w.heap.size+1+1]?=some (.cells #[.bool false,.slice none 0 0,.int .i64 0] 84 (0,0))∧W.heap.size=w.heap.size+1+1+1∧Bw w W∧Below W.heap.size W (W.alloc (.cells #[.bool na,.slice ua un uc,.int .i64 ea,.bool nb,.slice va vn vc,.int .i64 eb] 84))):=⟨hC,hsz,hBW,(xL1 _ _).alloc (xL0 _) _⟩;unfold NumV;clear hA hBb hC hsz hBW hB4 k67
 go_enter Tryz.func194,Tryz.ntmps194
 go_wp2_with fail;rw[←hW];clear hW;refine k1.mono ?_;rintro r w1 ⟨rfl,hB1⟩;clear k1;have hBW1:Bw W w1:=HH.out.2.2.2.trans (hB1.mono HH.out.2.2.2.size);have HC3:Hid (w1.heap[w.heap.size+1+1]?=some (.cells #[.bool false,.slice none 0 0,.int .i64 0] 84 (0,0))):=qQ HH.out.1 hBW1 (by have:=HH.out.2.1;omega)
 have HB1:Hid (Bw W w1):=hBW1;obtain⟨⟨x1,x2,x3⟩,x4,x5,x6⟩:=qQ1 HC3.out;clear hB1 hBW1
 go_wp2;refine xW9 (qQ4 rfl _ _ (w.heap.size+1+1) 84 #[.bool false,.slice none 0 0,.int .i64 0] (0,0) _ rfl (qX4 _ _ _ HC3.out) Tryz.underlying84 rfl Tryz.info84) rfl ?_;obtain⟨b1,b2,b3,b4⟩:=HH.out;exact⟨rfl,qQ3 (b3.trans (HB1.out.mono b3.size)) (by omega) _ _ _⟩
theorem shift_0 (na:Bool) (ua:Option Addr) (un uc:Nat) (ea k0:Int) (w:World) (k43:∀ W g,Bw w W→W.heap[g]?=some (.cells #[.bool na,.slice ua un uc,.int .i64 ea] 84 (0,0))→Calls Tryz.prog 78 #[.slice (some ⟨g,0,none⟩) 1 1] W fun r w'=>r=.returned (.bool false)∧Bw W w') :
  Calls Tryz.prog 177 #[.agg #[.bool na,.slice ua un uc,.int .i64 ea],.int .i64 k0] w fun r w'=>r=.returned (.tuple #[.agg #[.bool false,.slice none 0 0,.int .i64 0],.int .i64 1])∧Bw w w':=by
 obtain⟨W,hW⟩:∃ W,W=(w.alloc (.cells #[.bool na,.slice ua un uc,.int .i64 ea] 84)).alloc (.cells #[.bool false,.slice none 0 0,.int .i64 0] 84):=⟨_,rfl⟩;have hBW:Bw w W:=by rw[hW];exact((xL1 _ _).alloc (xL0 _) _).alloc (by simp) _
 have hbA:W.heap[w.heap.size]?=some (.cells #[.bool na,.slice ua un uc,.int .i64 ea] 84 (0,0)):=by
  rw[hW,Below.heap_alloc _ _ _ (by simp)];exact xW8 _ _
 have hbB:W.heap[w.heap.size+1]?=some (.cells #[.bool false,.slice none 0 0,.int .i64 0] 84 (0,0)):=by
  have:=xW8 (w.alloc (.cells #[.bool na,.slice ua un uc,.int .i64 ea] 84)) (.cells #[.bool false,.slice none 0 0,.int .i64 0] 84)
  rw[hW];simpa using this
 have hsz:W.heap.size=w.heap.size+1+1:=by rw[hW];simp
 have k1:=k43 (W.alloc (.cells #[.bool na,.slice ua un uc,.int .i64 ea] 84)) (w.heap.size+1+1) (hBW.alloc hBW.size _) (by rw[←hsz];exact xW8 _ _)
 have HX:Hid (Bw w W∧W.heap.size=w.heap.size+1+1∧W.heap[w.heap.size]?=some (.cells #[.bool na,.slice ua un uc,.int .i64 ea] 84 (0,0))∧W.heap[w.heap.size+1]?=some (.cells #[.bool false,.slice none 0 0,.int .i64 0] 84 (0,0))):=⟨hBW,hsz,hbA,hbB⟩;clear hBW hsz hbA hbB k43
 go_enter Tryz.func177,Tryz.ntmps177
 go_wp2_with fail;rw[←hW];clear hW;refine k1.mono ?_;rintro r w1 ⟨rfl,hb1⟩;have HB1:Hid (Bw W w1):=((xL1 W.heap.size W).alloc (xL0 _) _).trans (hb1.mono (by simp))
 have H3:Hid (w1.heap[w.heap.size]?=some (.cells #[.bool na,.slice ua un uc,.int .i64 ea] 84 (0,0))∧w1.heap[w.heap.size+1]?=some (.cells #[.bool false,.slice none 0 0,.int .i64 0] 84 (0,0))∧w.heap.size+1+1≤w1.heap.size∧Bw w w1):=⟨qQ HX.out.2.2.1 HB1.out (by have:=HX.out.2.1;omega),qQ HX.out.2.2.2 HB1.out (by have:=HX.out.2.1;omega),by have:=HB1.out.size;have:=HX.out.2.1;omega,HX.out.1.trans (HB1.out.mono HX.out.1.size)⟩
 clear k1 hb1;obtain⟨⟨a0,a1,a2⟩,-⟩:=qQ1 H3.out.1;obtain⟨⟨x1,x2,x3⟩,x4,x5,x6⟩:=qQ1 H3.out.2.1
 go_wp2;refine xW9 (qQ4 rfl _ _ (w.heap.size+1) 84 #[.bool false,.slice none 0 0,.int .i64 0] (0,0) _ rfl (qX4 _ _ _ H3.out.2.1) Tryz.underlying84 rfl Tryz.info84) rfl ?_;exact⟨rfl,qQ3 H3.out.2.2.2 (by omega) _ _ _⟩
theorem yL7 (na:Bool) (ua:Option Addr) (uc:Nat) (ea k0:Int) (w:World) (k43:∀ W g,Bw w W→W.heap[g]?=some (.cells #[.bool na,.slice ua 0 uc,.int .i64 ea] 84 (0,0))→Calls Tryz.prog 78 #[.slice (some ⟨g,0,none⟩) 1 1] W fun r w'=>r=.returned (.bool true)∧Bw W w') :
  Calls Tryz.prog 177 #[.agg #[.bool na,.slice ua 0 uc,.int .i64 ea],.int .i64 k0] w fun r w'=>r=.returned (.tuple #[.agg #[.bool false,.slice none 0 0,.int .i64 0],.int .i64 0])∧Bw w w':=by
 obtain⟨W,hW⟩:∃ W,W=(w.alloc (.cells #[.bool na,.slice ua 0 uc,.int .i64 ea] 84)).alloc (.cells #[.bool false,.slice none 0 0,.int .i64 0] 84):=⟨_,rfl⟩;have hBW:Bw w W:=by rw[hW];exact((xL1 _ _).alloc (xL0 _) _).alloc (by simp) _
 have hbA:W.heap[w.heap.size]?=some (.cells #[.bool na,.slice ua 0 uc,.int .i64 ea] 84 (0,0)):=by
  rw[hW,Below.heap_alloc _ _ _ (by simp)];exact xW8 _ _
 have hbB:W.heap[w.heap.size+1]?=some (.cells #[.bool false,.slice none 0 0,.int .i64 0] 84 (0,0)):=by
  have:=xW8 (w.alloc (.cells #[.bool na,.slice ua 0 uc,.int .i64 ea] 84)) (.cells #[.bool false,.slice none 0 0,.int .i64 0] 84)
  rw[hW];simpa using this
 have hsz:W.heap.size=w.heap.size+1+1:=by rw[hW];simp
 have k1:=k43 (W.alloc (.cells #[.bool na,.slice ua 0 uc,.int .i64 ea] 84)) (w.heap.size+1+1) (hBW.alloc hBW.size _) (by rw[←hsz];exact xW8 _ _)
 have HX:Hid (Bw w W∧W.heap.size=w.heap.size+1+1∧W.heap[w.heap.size]?=some (.cells #[.bool na,.slice ua 0 uc,.int .i64 ea] 84 (0,0))∧W.heap[w.heap.size+1]?=some (.cells #[.bool false,.slice none 0 0,.int .i64 0] 84 (0,0))):=⟨hBW,hsz,hbA,hbB⟩;clear hBW hsz hbA hbB k43
 go_enter Tryz.func177,Tryz.ntmps177
 go_wp2_with fail;rw[←hW];clear hW;refine k1.mono ?_;rintro r w1 ⟨rfl,hb1⟩;have HB1:Hid (Bw W w1):=((xL1 W.heap.size W).alloc (xL0 _) _).trans (hb1.mono (by simp))
 have H3:Hid (w1.heap[w.heap.size]?=some (.cells #[.bool na,.slice ua 0 uc,.int .i64 ea] 84 (0,0))∧w1.heap[w.heap.size+1]?=some (.cells #[.bool false,.slice none 0 0,.int .i64 0] 84 (0,0))∧w.heap.size+1+1≤w1.heap.size∧Bw w w1):=⟨qQ HX.out.2.2.1 HB1.out (by have:=HX.out.2.1;omega),qQ HX.out.2.2.2 HB1.out (by have:=HX.out.2.1;omega),by have:=HB1.out.size;have:=HX.out.2.1;omega,HX.out.1.trans (HB1.out.mono HX.out.1.size)⟩
 clear k1 hb1;obtain⟨⟨a0,a1,a2⟩,-⟩:=qQ1 H3.out.1;obtain⟨⟨x1,x2,x3⟩,x4,x5,x6⟩:=qQ1 H3.out.2.1
 go_wp2;refine xW9 (qQ4 rfl _ _ (w.heap.size+1) 84 #[.bool false,.slice none 0 0,.int .i64 0] (0,0) _ rfl (qX4 _ _ _ H3.out.2.1) Tryz.underlying84 rfl Tryz.info84) rfl ?_;exact⟨rfl,qQ3 H3.out.2.2.2 (by omega) _ _ _⟩
theorem shift_2 (na:Bool) (ua:Option Addr) (un uc:Nat) (ea k0:Int) (w:World) (hn:un≤35184372088832) (hn0:((un:Int)==0)=false) (he1 : -65536≤ea) (he2:ea≤65536) (hk:k0 < -65536 - ea∨65536 - ea<k0) (k43:∀ W g,Bw w W→W.heap[g]?=some (.cells #[.bool na,.slice ua un uc,.int .i64 ea] 84 (0,0))→Calls Tryz.prog 78 #[.slice (some ⟨g,0,none⟩) 1 1] W fun r w'=>r=.returned (.bool true)∧Bw W w') :
  Calls Tryz.prog 177 #[.agg #[.bool na,.slice ua un uc,.int .i64 ea],.int .i64 k0] w fun r w'=>r=.returned (.tuple #[.agg #[.bool false,.slice none 0 0,.int .i64 0],.int .i64 2])∧Bw w w':=by
 obtain⟨W,hW⟩:∃ W,W=(w.alloc (.cells #[.bool na,.slice ua un uc,.int .i64 ea] 84)).alloc (.cells #[.bool false,.slice none 0 0,.int .i64 0] 84):=⟨_,rfl⟩;have hBW:Bw w W:=by rw[hW];exact((xL1 _ _).alloc (xL0 _) _).alloc (by simp) _
 have hbA:W.heap[w.heap.size]?=some (.cells #[.bool na,.slice ua un uc,.int .i64 ea] 84 (0,0)):=by
  rw[hW,Below.heap_alloc _ _ _ (by simp)];exact xW8 _ _
 have hbB:W.heap[w.heap.size+1]?=some (.cells #[.bool false,.slice none 0 0,.int .i64 0] 84 (0,0)):=by
  have:=xW8 (w.alloc (.cells #[.bool na,.slice ua un uc,.int .i64 ea] 84)) (.cells #[.bool false,.slice none 0 0,.int .i64 0] 84)
  rw[hW];simpa using this
 have hsz:W.heap.size=w.heap.size+1+1:=by rw[hW];simp
 have k1:=k43 (W.alloc (.cells #[.bool na,.slice ua un uc,.int .i64 ea] 84)) (w.heap.size+1+1) (hBW.alloc hBW.size _) (by rw[←hsz];exact xW8 _ _)
 have HX:Hid (Bw w W∧W.heap.size=w.heap.size+1+1∧W.heap[w.heap.size]?=some (.cells #[.bool na,.slice ua un uc,.int .i64 ea] 84 (0,0))∧W.heap[w.heap.size+1]?=some (.cells #[.bool false,.slice none 0 0,.int .i64 0] 84 (0,0))):=⟨hBW,hsz,hbA,hbB⟩;clear hBW hsz hbA hbB k43
 go_enter Tryz.func177,Tryz.ntmps177
 go_wp2_with fail;rw[←hW];clear hW;refine k1.mono ?_;rintro r w1 ⟨rfl,hb1⟩;have HB1:Hid (Bw W w1):=((xL1 W.heap.size W).alloc (xL0 _) _).trans (hb1.mono (by simp))
 have H3:Hid (w1.heap[w.heap.size]?=some (.cells #[.bool na,.slice ua un uc,.int .i64 ea] 84 (0,0))∧w1.heap[w.heap.size+1]?=some (.cells #[.bool false,.slice none 0 0,.int .i64 0] 84 (0,0))∧w.heap.size+1+1≤w1.heap.size∧Bw w w1):=⟨qQ HX.out.2.2.1 HB1.out (by have:=HX.out.2.1;omega),qQ HX.out.2.2.2 HB1.out (by have:=HX.out.2.1;omega),by have:=HB1.out.size;have:=HX.out.2.1;omega,HX.out.1.trans (HB1.out.mono HX.out.1.size)⟩
 clear k1 hb1;obtain⟨⟨a0,a1,a2⟩,-⟩:=qQ1 H3.out.1;obtain⟨⟨x1,x2,x3⟩,x4,x5,x6⟩:=qQ1 H3.out.2.1;by_cases hk1:k0 < -65536 - ea
 ·clear hk
  go_wp2;refine xW9 (qQ4 rfl _ _ (w.heap.size+1) 84 #[.bool false,.slice none 0 0,.int .i64 0] (0,0) _ rfl (qX4 _ _ _ H3.out.2.1) Tryz.underlying84 rfl Tryz.info84) rfl ?_;exact⟨rfl,qQ3 H3.out.2.2.2 (by omega) _ _ _⟩
 ·have hk2:65536 - ea<k0:=by omega
  clear hk
  go_wp2;refine xW9 (qQ4 rfl _ _ (w.heap.size+1) 84 #[.bool false,.slice none 0 0,.int .i64 0] (0,0) _ rfl (qX4 _ _ _ H3.out.2.1) Tryz.underlying84 rfl Tryz.info84) rfl ?_;exact⟨rfl,qQ3 H3.out.2.2.2 (by omega) _ _ _⟩
theorem yL6 (na:Bool) (ua:Option Addr) (un uc:Nat) (ea k0:Int) (w:World) (x:Nat) (h1:Is w (.slice ua un uc) x) (hx:dlen x≤1000000) (hn:un≤35184372088832) (hn0:((un:Int)==0)=false) (he1 : -65536≤ea) (he2:ea≤65536) (hk1:¬ k0 < -65536 - ea) (hk2:¬ 65536 - ea<k0) (k43:∀ W g,Bw w W→W.heap[g]?=some (.cells #[.bool na,.slice ua un uc,.int .i64 ea] 84 (0,0))→Calls Tryz.prog 78 #[.slice (some ⟨g,0,none⟩) 1 1] W fun r w'=>r=.returned (.bool true)∧Bw W w') :
  Calls Tryz.prog 177 #[.agg #[.bool na,.slice ua un uc,.int .i64 ea],.int .i64 k0] w fun r w'=>∃ v,r=.returned (.tuple #[.agg #[.bool na,v,.int .i64 (ea+k0)],.int .i64 0])∧Own w' w.heap.size v x∧Bw w w':=by
 obtain⟨W,hW⟩:∃ W,W=(w.alloc (.cells #[.bool na,.slice ua un uc,.int .i64 ea] 84)).alloc (.cells #[.bool false,.slice none 0 0,.int .i64 0] 84):=⟨_,rfl⟩;have hBW:Bw w W:=by rw[hW];exact((xL1 _ _).alloc (xL0 _) _).alloc (by simp) _
 have hbA:W.heap[w.heap.size]?=some (.cells #[.bool na,.slice ua un uc,.int .i64 ea] 84 (0,0)):=by
  rw[hW,Below.heap_alloc _ _ _ (by simp)];exact xW8 _ _
 have hbB:W.heap[w.heap.size+1]?=some (.cells #[.bool false,.slice none 0 0,.int .i64 0] 84 (0,0)):=by
  have:=xW8 (w.alloc (.cells #[.bool na,.slice ua un uc,.int .i64 ea] 84)) (.cells #[.bool false,.slice none 0 0,.int .i64 0] 84)
  rw[hW];simpa using this
 have hsz:W.heap.size=w.heap.size+1+1:=by rw[hW];simp
 have k1:=k43 (W.alloc (.cells #[.bool na,.slice ua un uc,.int .i64 ea] 84)) (w.heap.size+1+1) (hBW.alloc hBW.size _) (by rw[←hsz];exact xW8 _ _)
 have HX:Hid (Bw w W∧W.heap.size=w.heap.size+1+1∧W.heap[w.heap.size]?=some (.cells #[.bool na,.slice ua un uc,.int .i64 ea] 84 (0,0))∧W.heap[w.heap.size+1]?=some (.cells #[.bool false,.slice none 0 0,.int .i64 0] 84 (0,0))):=⟨hBW,hsz,hbA,hbB⟩;have HI:Hid (Is w (.slice ua un uc) x∧dlen x≤1000000):=⟨h1,hx⟩;clear h1 hx;clear hBW hsz hbA hbB k43
 go_enter Tryz.func177,Tryz.ntmps177
 go_wp2_with fail;rw[←hW];clear hW;refine k1.mono ?_;rintro r w1 ⟨rfl,hb1⟩;have HB1:Hid (Bw W w1):=((xL1 W.heap.size W).alloc (xL0 _) _).trans (hb1.mono (by simp))
 have H3:Hid (w1.heap[w.heap.size]?=some (.cells #[.bool na,.slice ua un uc,.int .i64 ea] 84 (0,0))∧w1.heap[w.heap.size+1]?=some (.cells #[.bool false,.slice none 0 0,.int .i64 0] 84 (0,0))∧w.heap.size+1+1≤w1.heap.size∧Bw w w1):=⟨qQ HX.out.2.2.1 HB1.out (by have:=HX.out.2.1;omega),qQ HX.out.2.2.2 HB1.out (by have:=HX.out.2.1;omega),by have:=HB1.out.size;have:=HX.out.2.1;omega,HX.out.1.trans (HB1.out.mono HX.out.1.size)⟩
 clear k1 hb1;obtain⟨⟨a0,a1,a2⟩,-⟩:=qQ1 H3.out.1;obtain⟨⟨x1,x2,x3⟩,x4,x5,x6⟩:=qQ1 H3.out.2.1;have HK:Hid (∀ w',Below (w.heap.size+1) w1 w'→(w'.cell? ⟨w.heap.size,0,none⟩=some (.bool na)∧w'.cell? ⟨w.heap.size,1,none⟩=some (.slice ua un uc)∧w'.cell? ⟨w.heap.size,2,none⟩=some (.int .i64 ea))):=fun w' hb=>(qQ1 (qQ H3.out.1 hb (by omega))).1
 have kC:∀ w4,Bw w1 w4→Calls Tryz.prog 124 #[.slice ua un uc] w4 fun r w'=>∃ ao n cap,r=.returned (.slice ao n cap)∧Own w' w1.heap.size (.slice ao n cap) x∧Bw w1 w':=fun w4 hb =>
  (qI0 ((HI.out.1.later H3.out.2.2.2).later hb) (by have:=HI.out.2;omega)).mono fun r w' ⟨v,e1,o1,o2⟩=>by
   obtain⟨ao,cap,rfl,-,-,-⟩:=o1.is;exact⟨_,_,_,e1,o1.mono hb.size,hb.trans (o2.mono hb.size)⟩
 have hBR:Bw w1 w1.drew:=(xL1 _ _).drew;have hBR1:Below (w.heap.size+1) w1 w1.drew:=(xL1 _ _).drew;have H1:Hid (w.heap.size+1≤w1.heap.size):=(by have:=H3.out.2.2.1;omega:w.heap.size+1≤w1.heap.size)
 have HZ:Hid (IntKind.i64.wrap (ea+k0)=ea+k0):=(by rw[xW6];omega:IntKind.i64.wrap (ea+k0)=ea+k0)
 go_upto_region 8 with fail;clear x1 x2 x3 x4 x5 x6
 go_region_held3 (fun w'=>w'.cell? ⟨w.heap.size,0,none⟩=some (.bool na)∧w'.cell? ⟨w.heap.size,1,none⟩=some (.slice ua un uc)∧w'.cell? ⟨w.heap.size,2,none⟩=some (.int .i64 ea)) (first|(with_reducible assumption)|exact HK.out _ hBR1|(refine HK.out _ (Below.mono ?_ H1.out);with_reducible assumption)|(refine HK.out _ (qQ3 (Below.mono hb5 H1.out) (xL0 _) _ _ _))|go_keep)
  (first|(go_at_call 124;refine(kC _ (by first|(with_reducible assumption)|exact hBR)).mono ?_;rintro r w5 ⟨ao5,n5,cap5,rfl,ho5,hb5⟩;have hblk5:=qQ H3.out.2.1 hb5 (by have:=H3.out.2.2.1;omega);obtain⟨⟨x1,x2,x3⟩,x4,x5,x6⟩:=qQ1 hblk5))
 all_goals (have HF:Hid (Bw w1 w5∧Own w5 w1.heap.size (.slice ao5 n5 cap5) x∧w5.heap[w.heap.size+1]?=some (.cells #[.bool false,.slice none 0 0,.int .i64 0] 84 (0,0))):=⟨hb5,ho5,hblk5⟩;clear ho5 hb5 hblk5 x1 x2 x3 x4 x5 x6 kC HK hBR hBR1 a0 a1 a2;(try rw[HZ.out]);go_wp2;refine xW9 (qQ4 rfl _ _ (w.heap.size+1) 84 #[.bool na,.slice ao5 n5 cap5,.int .i64 (ea+k0)] (0,0) _ rfl (qX4 _ _ _ HF.out.2.2) Tryz.underlying84 rfl Tryz.info84) rfl ?_;exact⟨_,rfl,(qV5 HF.out.2.1 (by have:=H3.out.2.2.1;omega) _ _ _).mono (by have:=H3.out.2.2.1;omega),qQ3 (H3.out.2.2.2.trans (HF.out.1.mono H3.out.2.2.2.size)) (by omega) _ _ _⟩)
end Go.Proofs.YtbanebginnakhaaGreatDoor
namespace Go.Proofs.YtbanebginnakhaaGreatDoor
open Go.RowKit Go.Fl64
end Go.Proofs.YtbanebginnakhaaGreatDoor
namespace Go.Proofs.YtbanebginnakhaaGreatDoor
open Go.RowKit
end Go.Proofs.YtbanebginnakhaaGreatDoor
namespace Go.Proofs.YtbanebginnakhaaGreatDoor
open Go.RowKit Go.Fl64
end Go.Proofs.YtbanebginnakhaaGreatDoor
namespace Go.Proofs.YtbanebginnakhaaGreatDoor
open Go.RowKit
theorem zI4 {x i d:Nat} (hd:dg x i=d):x % B^(i+1)=0↔(x % B^i=0∧d=0):=by
 have h:=Nat.mod_pow_succ (x:=x) (b:=B) (k:=i);have hp:0<B^i:=Nat.pow_pos qV4;unfold dg at hd;rw[h,hd];constructor
 ·intro h1;obtain⟨h1,h2⟩:=Nat.add_eq_zero_iff.1 h1;rcases Nat.mul_eq_zero.1 h2 with h3|h3
  ·omega
  ·exact⟨h1,h3⟩
 ·rintro⟨h1,h2⟩
  rw[h1,h2];rfl
theorem yO2 {x k whole part d:Nat} (hw:k / 32=whole) (hp:k % 32=part) (hd:dg x whole=d):x % 2^k=0↔(x % B^whole=0∧d % 2^part=0):=by
 have hB:B^whole=2^(32*whole):=by rw[show B=2^32 by rfl,←Nat.pow_mul]
 have hk:2^k=B^whole*2^part:=by rw[hB,←xC3];congr 1;omega
 have hpos:0<B^whole:=Nat.pow_pos qV4;have hdd:d % 2^part=x / B^whole % 2^part:=by
  rw[←hd];unfold dg;exact Nat.mod_mod_of_dvd _ (by rw[show B=2^32 by rfl];exact Nat.pow_dvd_pow 2 (by omega))
 rw[hk,Nat.mod_mul,hdd];constructor
 ·intro h1;obtain⟨h1,h2⟩:=Nat.add_eq_zero_iff.1 h1;rcases Nat.mul_eq_zero.1 h2 with h3|h3
  ·omega
  ·exact⟨h1,h3⟩
 ·rintro⟨h1,h2⟩
  rw[h1,h2];rfl
theorem zI6 {x k n:Nat} (hn:dlen x≤n) (hk:n≤k / 32):(x % B^n=0↔x % 2^k=0)∧x / 2^k=0:=by
 have h1:x<B^n:=xL8 (qY x) (xL6 qV4 hn);have h2:B^n≤2^k:=by rw[show B=2^32 by rfl,←Nat.pow_mul];exact xL6 (by omega) (by omega)
 rw[xW3 h1,xW3 (by omega)]
 exact⟨Iff.rfl,Nat.div_eq_of_lt (by omega)⟩
theorem yO3 {d part:Nat} (hd:d<B) (hp:part<32):(bits BinOp.and IntKind.u32 (d:Int) ((2^part - 1) % 4294967296)==0)=decide (d % 2^part=0):=by
 have h2:2^part<2^32:=Nat.pow_lt_pow_right (by omega) hp
 have hpos:=xL5 part;have e1:(((2:Int)^part - 1) % 4294967296)=((2^part - 1:Nat):Int):=by
  have:((2:Int)^part)=((2^part:Nat):Int):=by simp
  rw[this];omega
 rw[e1,u32_and_nat d (2^part - 1) (by unfold B at hd;omega) (by omega),Nat.and_two_pow_sub_one_eq_mod]
 generalize d % 2^part=r;by_cases h:r=0
 ·rw[h];simp
 ·rw[xL3 h];have:((r:Nat):Int)≠0:=by omega
  simpa using this
theorem zI5 {a:Value} {b c:Bool} (h:b=c):Ending.returned (Value.tuple #[a,.bool b])=.returned (.tuple #[a,.bool c]):=by rw[h]
theorem yF6 {x k i d part:Nat} (he:false=true↔x % B^i=0) (hx:x % 2^k=0↔(x % B^i=0∧d % 2^part=0)):false=decide (x % 2^k=0):=by
 rw[xL3];intro h;exact absurd (he.2 (hx.1 h).1) (by decide)
theorem yO1 {x k i d part:Nat} (he:True↔x % B^i=0) (hx:x % 2^k=0↔(x % B^i=0∧d % 2^part=0)) (h0:d=dg x i) (hd:d<B) (hp:part<32):(bits BinOp.and IntKind.u32 ((dg x i:Nat):Int) ((2^part - 1) % 4294967296)==0)=decide (x % 2^k=0):=by
 rw[←h0,yO3 hd hp];refine decide_eq_decide.2 ?_;rw[hx];exact⟨fun h=>⟨he.1 trivial,h⟩,fun h=>h.2⟩
theorem qA5 {x i d:Nat} {bb:Bool} (h:bb=true↔x % B^i=0) (hs:x % B^(i+1)=0↔(x % B^i=0∧d=0)):((bb&&((d:Int)==0))=true)↔x % B^(i+1)=0:=by
 rw[hs,←h];simp
theorem xG4 (b o cap m whole part x k:Nat) (w:World) (hm0:0<m) (hm:m≤17592186044416) (hk:k≤1099511627776) (hcap:whole+m≤cap) (hwh:k / 32=whole) (hpa:k % 32=part)
  (hn:dlen x=whole+m) (hcell:∀ i,i<whole+m→w.cell? ⟨b,o+i,none⟩=some (.int .u32 (dg x i:Nat))) :
  Calls Tryz.prog 146 #[.slice (some ⟨b,o,none⟩) (whole+m:Nat) cap,.int .i64 k] w fun e w'=>∃ ao cap',e=.returned (.tuple #[.slice ao (dlen (x / 2^k)) cap',.bool (decide (x % 2^k=0))])∧At w' ao (dlen (x / 2^k)) (x / 2^k)∧dlen (x / 2^k)≤cap'∧Bw w w':=by
 have hq:(k:Int).tdiv 32=((k / 32:Nat):Int):=by rw[Int.tdiv_eq_ediv_of_nonneg (by omega)];rfl
 have hr:(k:Int).tmod 32=((k % 32:Nat):Int):=by rw[Int.tmod_eq_emod_of_nonneg (by omega)];rfl
 have hwb:whole≤1099511627776:=by omega
 have hpb:part<32:=by omega
 rw[hwh] at hq;rw[hpa] at hr;have HN:Hid (dlen x=whole+m):=hn;have HW:Hid (k / 32=whole):=hwh;have HP:Hid (k % 32=part):=hpa;clear hn hwh hpa;have hmi:(whole:Int)<((whole+m:Nat):Int):=by omega
 go_enter Tryz.func146,Tryz.ntmps146
 go_wp2
 go_loop [6,7] (fun a v=>∃ (bb:Bool) (i:Nat),a=.bool bb∧v=.int .i64 (i:Int)∧i≤whole∧Hid (bb=true↔x % B^i=0)) (fun _ v=>whole - (intOf v).toNat)
 case atStart=>exact⟨true,0,rfl,rfl,xW5 _,(by rw[xC7,Nat.mod_one];simp:true=true↔x % B^0=0)⟩
 case round =>
  obtain⟨bb,i,rfl,rfl,hi,HE⟩:=hrel;by_cases hiw:i<whole
  ·have g1:=hcell i (by omega)
   have HS:Hid (x % B^(i+1)=0↔(x % B^i=0∧dg x i=0)):=zI4 rfl;generalize dg x i=d at *;have hii:(i:Int)<(whole:Int):=by omega
   clear hcell;cases bb
   ·go_wp2;exact⟨⟨_,i+1,rfl,by simp,by omega,qA5 HE.out HS.out⟩,by simp[intOf];omega⟩
   ·go_wp2;exact⟨⟨_,i+1,rfl,by simp,by omega,qA5 HE.out HS.out⟩,by simp[intOf];omega⟩
  ·obtain rfl:i=whole:=by omega
   clear hiw hi;have HX:Hid (x % 2^k=0↔(x % B^i=0∧dg x i % 2^part=0)):=yO2 HW.out HP.out rfl;have g0:=hcell i (by omega)
   have HDL:Hid (dg x i<B):=qZ4 _ _;have HQ:Hid (dg x i=dg x i):=rfl;obtain⟨d0,hd0⟩:∃ d0,d0=dg x i:=⟨_,rfl⟩;rw[←hd0] at g0 HX HDL;clear HQ;have HD0:Hid (d0=dg x i):=hd0;clear hd0;have HC:Hid (∀ i_1:Nat,i_1<i+m→w.cell? { block:=b,off:=o+i_1 }=some (Value.int IntKind.u32 ↑(dg x i_1))):=hcell;cases bb
   all_goals
    go_wp2_with fail;clear hq hmi hr hcell g0
    go_loopw [9,10] (fun v c wr=>∃ j:Nat,j≤m∧c=.int .i64 ((i:Int)+j)∧wr.ownsRow w.heap.size 50 1 v j (cells (x / 2^k) j)∧Bw w wr) (fun _ c _=>m - (intOf c - i).toNat)
    case atStart=>exact⟨0,xW5 _,by simp,World.ownsRow_nil ..,xL1 _ _⟩
    case round =>
     obtain⟨j,hj,rfl,ho,hB⟩:=hrel;have HO:Hid (wr.ownsRow w.heap.size 50 1 u9 j (cells (x / 2^k) j)):=ho;have HB:Hid (Bw w wr):=hB;have hbs:w.heap.size≤wr.heap.size:=hB.size;by_cases hjn:j+1<m
     ·have g1:=(hB.cell (World.block_lt_of_cell? _ _ (HC.out (i+j) (by omega)))).trans (HC.out (i+j) (by omega))
      have g4:=(hB.cell (World.block_lt_of_cell? _ _ (HC.out (i+j+1) (by omega)))).trans (HC.out (i+j+1) (by omega))
      have hji:(j:Int)+1<(m:Int):=by omega
      generalize hd:dg x (i+j)=d at *;generalize hd1:dg x (i+j+1)=d1 at *;have HD:Hid (dg x (i+j)=d):=hd;have HD1:Hid (dg x (i+(j+1))=d1):=hd1;have HL:Hid (d<B∧d1<B):=⟨hd ▸ qZ4 _ _,hd1 ▸ qZ4 _ _⟩;clear hd hd1 hB;obtain⟨i0,hi0,hz0,hz1,hz2⟩:=info_parts Tryz.info50
      go_wp2_with (at_builtin;refine wpList_append_own _ rfl _ _ 82 rfl w.heap.size 50 i0 (.int .u32 0) 1 4 Tryz.underlying82 hi0 hz0 hz1 hz2 rfl (by decide) _ _ _ rfl (ho.alloc _) ⟨wr.heap.size,0,none⟩ 1 1 [.int .u32 (bits BinOp.or IntKind.u64 (IntKind.u64.wrap (d:Int)) (IntKind.u64.wrap (IntKind.u64.wrap (d1:Int)*4294967296)) / 2^part % 4294967296)] rfl rfl (cell_one_new _ _ _) (by intro u hu;simp at hu;subst hu;rfl) (by unfold maxLen;omega) (by omega) (by simp;omega) ?_)
      intro v' w4 hown4 hgrow _
      go_wp2;exact qP0 (by rw[qM6 HL.out.1 HL.out.2,qJ9 HW.out HP.out,HD.out,HD1.out]) (by omega) HB.out HO.out hown4 hgrow
     ·by_cases hjm:j<m
      ·have g1:=(hB.cell (World.block_lt_of_cell? _ _ (HC.out (i+j) (by omega)))).trans (HC.out (i+j) (by omega))
       have hji:¬ (j:Int)+1<(m:Int):=by omega
       have hji2:(j:Int)<(m:Int):=by omega
       generalize hd:dg x (i+j)=d at *;have HD:Hid (dg x (i+j)=d):=hd;have HL:Hid (d<B):=hd ▸ qZ4 _ _;have HZ:Hid (dg x (i+(j+1))=0):=qY6 (by rw[HN.out];omega)
       clear hd hB;obtain⟨i0,hi0,hz0,hz1,hz2⟩:=info_parts Tryz.info50
       go_wp2_with (at_builtin;refine wpList_append_own _ rfl _ _ 82 rfl w.heap.size 50 i0 (.int .u32 0) 1 4 Tryz.underlying82 hi0 hz0 hz1 hz2 rfl (by decide) _ _ _ rfl (ho.alloc _) ⟨wr.heap.size,0,none⟩ 1 1 [.int .u32 (IntKind.u64.wrap (d:Int) / 2^part % 4294967296)] rfl rfl (cell_one_new _ _ _) (by intro u hu;simp at hu;subst hu;rfl) (by unfold maxLen;omega) (by omega) (by simp;omega) ?_)
       intro v' w4 hown4 hgrow _
       go_wp2;exact qP0 (by rw[qM7 HL.out,qJ9 HW.out HP.out,HD.out,HZ.out,Nat.zero_mul,Nat.add_zero]) (by omega) HB.out HO.out hown4 hgrow
      ·obtain rfl:j=m:=by omega
       have hL:=qE5 (k:=k) (m:=j) (by rw[HW.out];exact HN.out)
       obtain⟨ao',cap',rfl,hc',hA⟩:=qJ ho;have HA:Hid (At wr ao' (dlen (x / 2^k)) (x / 2^k)∧dlen (x / 2^k)≤cap'):=⟨qU5 hA hL,by omega⟩
       have k40:=r40 ao' j cap' (x / 2^k) wr hL hc' (by omega) hA
       clear hB ho hA
       go_wp2_with (first|(go_at_call 148;refine k40.mono ?_;rintro e w' ⟨rfl,rfl⟩))
       refine xW9 (xE3 rfl _ _ _) rfl ?_;first|exact⟨_,_,zI5 (yF6 HE.out HX.out),HA.out.1,HA.out.2,HB.out⟩|exact⟨_,_,zI5 (yO1 HE.out HX.out HD0.out HDL.out hpb),HA.out.1,HA.out.2,HB.out⟩
theorem xG3 (bo:Option Addr) (b o n cap whole x k:Nat) (w:World) (hn:n≤17592186044416) (hk:k≤1099511627776) (hcap:n≤cap) (hwh:k / 32=whole) (hwn:n≤whole) (hbo:0<n→bo=some ⟨b,o,none⟩) (hd:dlen x=n)
  (hcell:∀ i,i<n→w.cell? ⟨b,o+i,none⟩=some (.int .u32 (dg x i:Nat))) :
  Calls Tryz.prog 146 #[.slice bo n cap,.int .i64 k] w fun e w'=>e=.returned (.tuple #[.slice none 0 0,.bool (decide (x % 2^k=0))])∧w'=w:=by
 have hq:(k:Int).tdiv 32=((k / 32:Nat):Int):=by rw[Int.tdiv_eq_ediv_of_nonneg (by omega)];rfl
 rw[hwh] at hq;have HP:Hid ((x % B^n=0↔x % 2^k=0)∧x / 2^k=0):=zI6 (Nat.le_of_eq hd) (by omega)
 have hwb:whole≤1099511627776:=by omega
 clear hwh hd
 go_enter Tryz.func146,Tryz.ntmps146
 go_wp2
 go_loop [6,7] (fun a v=>∃ (bb:Bool) (i:Nat),a=.bool bb∧v=.int .i64 (i:Int)∧i≤n∧Hid (bb=true↔x % B^i=0)) (fun _ v=>n - (intOf v).toNat)
 case atStart=>exact⟨true,0,rfl,rfl,xW5 _,(by rw[xC7,Nat.mod_one];simp:true=true↔x % B^0=0)⟩
 case round =>
  obtain⟨bb,i,rfl,rfl,hi,HE⟩:=hrel;by_cases hiw:i<n
  ·obtain rfl:=hbo (by omega)
   have g1:=hcell i (by omega)
   have HS:Hid (x % B^(i+1)=0↔(x % B^i=0∧dg x i=0)):=zI4 rfl;generalize dg x i=d at *;have hii:(i:Int)<(whole:Int):=by omega
   have hin:(i:Int)<(n:Int):=by omega
   clear hcell hbo;cases bb
   ·go_wp2;exact⟨⟨_,i+1,rfl,by simp,by omega,qA5 HE.out HS.out⟩,by simp[intOf];omega⟩
   ·go_wp2;exact⟨⟨_,i+1,rfl,by simp,by omega,qA5 HE.out HS.out⟩,by simp[intOf];omega⟩
  ·obtain rfl:i=n:=by omega
   have hwi:(i:Int)≤(whole:Int):=by omega
   have hii:¬ (i:Int)<(i:Int):=by omega
   obtain⟨b2,hb2⟩:∃ b2:Bool,b2=bb:=⟨_,rfl⟩;have HE2:Hid (bb=decide (x % 2^k=0)):=(by
    have h1:=HE.out;have h2:=HP.out.1;cases bb
    ·rw[xL3];intro h;exact absurd (h1.2 (h2.2 h)) (by decide)
    ·rw[xL4 (h2.1 (h1.1 rfl))]:bb=decide (x % 2^k=0))
   clear hcell hbo hiw hi HE hb2 b2
   go_wp2;refine xW9 (xE3 rfl _ _ _) rfl ?_;exact⟨zI5 HE2.out,rfl⟩
theorem xU5 {v:Value} {x:Nat} {w:World} (h:Ir w v x) (k:Nat) (hx:dlen x≤17592186044416) (hk:k≤1099511627776) :
  Calls Tryz.prog 146 #[v,.int .i64 k] w fun e w'=>∃ ao cap',e=.returned (.tuple #[.slice ao (dlen (x / 2^k)) cap',.bool (decide (x % 2^k=0))])∧At w' ao (dlen (x / 2^k)) (x / 2^k)∧dlen (x / 2^k)≤cap'∧Bw w w':=by
 obtain⟨ao,cap,rfl,hc,b,o,hb,hcell⟩:=h;by_cases hlt:k / 32<dlen x
 ·obtain rfl:=hb (by omega)
  obtain⟨m,hm⟩:∃ m,dlen x=k / 32+m:=⟨dlen x - k / 32,by omega⟩
  rw[hm] at hcell hc ⊢;exact xG4 b o cap m _ _ x k w (by omega) (by omega) hk hc rfl rfl hm hcell
 ·have hp:=zI6 (x:=x) (k:=k) (xL0 _) (by omega)
  refine(xG3 ao b o (dlen x) cap (k / 32) x k w hx hk hc rfl (by omega) hb rfl hcell).mono ?_
  rintro e w' ⟨rfl,rfl⟩;rw[hp.2,qQ5];exact⟨none,0,rfl,⟨0,0,fun h=>by omega,fun i hi=>by omega⟩,xL0 _,xL1 _ _⟩
end Go.Proofs.YtbanebginnakhaaGreatDoor
namespace Go.Proofs.YtbanebginnakhaaGreatDoor
theorem xB0 {R V v1 v2 t r3 d r n:Nat} (hn:2≤n) (hV:(v1*B+v2)*B^(n - 2)≤V) (hR:R<(t*B+r3+1)*B^(n - 2)) (ht:d*v1+r=t) (h:r*B+r3<d*v2):R<d*V:=by
 have h1:(t*B+r3+1)≤d*(v1*B+v2):=by
  have e1:d*(v1*B+v2)=(d*v1)*B+d*v2:=by grind
  have e2:t*B=d*v1*B+r*B:=by rw[←ht,Nat.add_mul]
  omega
 calc R<(t*B+r3+1)*B^(n - 2):=hR
  _≤d*(v1*B+v2)*B^(n - 2):=xL7 _ h1
  _=d*((v1*B+v2)*B^(n - 2)):=xC6 _ _ _
  _≤d*V:=xW2 _ hV
theorem yI7 {R V v1 v2 t r3 d r n:Nat} (hn:2≤n) (hV:V<(v1*B+v2+1)*B^(n - 2)) (hR:(t*B+r3)*B^(n - 2)≤R) (ht:d*v1+r=t) (hd:d≤B) (hv:1≤v1) (h:d*v2≤r*B+r3):(d - 1)*V≤R:=by
 rcases Nat.eq_zero_or_pos d with h0|h0
 ·subst h0;simp
 obtain⟨c,rfl⟩:∃ c,d=c+1:=⟨d - 1,by omega⟩
 rw[xE5];have hb:c≤v1*B+v2:=by
  have:B≤v1*B:=Nat.le_mul_of_pos_left _ hv
  omega
 have h1:c*(v1*B+v2+1)≤t*B+r3:=by
  have e1:(c+1)*(v1*B+v2)=((c+1)*v1)*B+(c+1)*v2:=by grind
  have e2:t*B=(c+1)*v1*B+r*B:=by rw[←ht,Nat.add_mul]
  have e3:(c+1)*(v1*B+v2)=c*(v1*B+v2)+(v1*B+v2):=by grind
  have e4:c*(v1*B+v2+1)=c*(v1*B+v2)+c:=by grind
  omega
 calc c*V≤c*((v1*B+v2+1)*B^(n - 2)):=xW2 _ (xE8 hV)
  _=c*(v1*B+v2+1)*B^(n - 2):=(xC6 _ _ _).symm
  _≤(t*B+r3)*B^(n - 2):=xL7 _ h1
  _≤R:=hR
structure Kn (R V v1 t d r:Nat):Prop where
 sum:d*v1+r=t
 ge:R<(d+1)*V
 le:d≤B+1
theorem yH0 {R V v1 v2 t n:Nat} (hn:1≤n) (hv:1≤v1) (hh:B≤2*v1) (hv2:v2<B) (hV1:v1*B^(n - 1)≤V) (hR:R<(t+1)*B^(n - 1)) (ht:t≤v1*B+v2):Kn R V v1 t (t / v1) (t % v1):=by
 have h0:=Nat.div_add_mod t v1;have h1:=xW4 t (show 0<v1 by omega)
 refine⟨by rw[xC4];exact h0,?_,?_⟩
 ·have h2:t+1≤(t / v1+1)*v1:=by rw[Nat.add_mul,Nat.one_mul,xC4];omega
  calc R<(t+1)*B^(n - 1):=hR
   _≤(t / v1+1)*v1*B^(n - 1):=xL7 _ h2
   _=(t / v1+1)*(v1*B^(n - 1)):=xC6 _ _ _
   _≤(t / v1+1)*V:=xW2 _ hV1
 ·refine Nat.le_of_lt_succ ((xE6 (by omega)).2 ?_)
  have:(B+1).succ*v1=v1*B+2*v1:=by rw[Nat.succ_eq_add_one];grind
  rw[this];omega
theorem Kn.less {R V v1 v2 t d r r3 n:Nat} (h:Kn R V v1 t d r) (hn:2≤n) (hV:(v1*B+v2)*B^(n - 2)≤V) (hR:R<(t*B+r3+1)*B^(n - 2)) (hq:R<V*B) (hc:B≤d∨r*B+r3<d*v2):Kn R V v1 t (d - 1) (r+v1)∧1≤d:=by
 have hd:1≤d:=by
  rcases hc with h|h
  ·have:=qV4;omega
  ·rcases Nat.eq_zero_or_pos d with h0|h0
   ·rw[h0] at h;omega
   ·exact h0
 refine⟨⟨?_,?_,?_⟩,hd⟩
 ·have:=h.sum
  have e:d*v1=(d - 1)*v1+v1:=by
   obtain⟨c,rfl⟩:∃ c,d=c+1:=⟨d - 1,by omega⟩
   rw[xE5,Nat.add_mul,Nat.one_mul]
  omega
 ·rw[show d - 1+1=d by omega]
  rcases hc with h1|h1
  ·exact xL8 hq (by rw[xC4];exact xL7 _ h1)
  ·exact xB0 hn hV hR h.sum h1
 ·have:=h.le;omega
theorem Kn.done {R V v1 v2 t d r r3 n:Nat} (h:Kn R V v1 t d r) (hn:2≤n) (hv:1≤v1) (hv2:v2<B) (hV0:0<V) (hV:V<(v1*B+v2+1)*B^(n - 2)) (hR:(t*B+r3)*B^(n - 2)≤R) (hd:d<B) (hc:d*v2≤r*B+r3∨B≤r):R / V≤d∧d≤R / V+1:=by
 have hc':d*v2≤r*B+r3:=by
  rcases hc with h|h
  ·exact h
  ·have h1:d*v2≤B*B:=Nat.mul_le_mul (xE8 hd) (xE8 hv2);have h2:B*B≤r*B:=xL7 _ h;omega
 constructor
 ·exact Nat.le_of_lt_succ ((xE6 hV0).2 h.ge)
 ·have h1:=yI7 hn hV hR h.sum (xE8 hd) hv hc';have:=(Nat.le_div_iff_mul_le hV0).2 h1
  omega
theorem Kn.brk {R V v1 v2 t d r:Nat} (h:Kn R V v1 t d r) (hh:B≤2*v1) (hv2:v2<B) (hr:r<B) (ht:t≤v1*B+v2) (hc:B≤r+v1):d - 1<B:=by
 have h1:=h.sum;have h2:=h.le;have hB:=qV4;rcases Nat.lt_or_ge d (B+1)with h3|h3
 ·omega
 ·obtain rfl:d=B+1:=by omega
  have:(B+1)*v1=v1*B+v1:=by grind
  omega
end Go.Proofs.YtbanebginnakhaaGreatDoor
