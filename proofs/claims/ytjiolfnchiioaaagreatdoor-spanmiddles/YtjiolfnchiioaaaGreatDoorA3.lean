/- Own work: contracts of the program's functions, part 3: W18 W19 W20 W21 W22 W23 IFl IW1 IW3 IW5 IW6 IW7 IW4 W24 W30. -/
import Derived.Test.YtjiolfnchiioaaaGreatDoorA2
import Derived.WalkKit
import Derived.WalkLawsBesides
import Derived.WalkSpells
import Derived.BigQuiet
import Derived.Laws.MathBits
import Derived.Lib.TrailingZeros
import Derived.Lib.LaidTab
import Derived.Deep.QuietTactic

set_option maxHeartbeats 16000000
set_option maxRecDepth 200000
set_option linter.unusedVariables false
set_option linter.unusedSimpArgs false
namespace Go.Proofs.YtjiolfnchiioaaaGreatDoor
open Go.RowKit
theorem boxes3 {w W:World} (a b c:Obj) (hW:W=((w.alloc a).alloc b).alloc c) :
  W.heap[w.heap.size]?=some a∧W.heap[w.heap.size+1]?=some b∧W.heap[w.heap.size+1+1]?=some c∧W.heap.size=w.heap.size+1+1+1∧Bw w W:=by
 subst hW
 refine⟨?_,blk_mid _ _ _ _,?_,by simp,(((Below.refl _ _).alloc (Nat.le_refl _) _).alloc (by simp) _).alloc (by simp;omega) _⟩
 ·rw[Below.heap_alloc _ _ _ (by simp;omega),Below.heap_alloc _ _ _ (by simp)];exact heap_alloc_new _ _
 ·have:=heap_alloc_new ((w.alloc a).alloc b) c
  simpa using this
theorem Nrm.shape {w:World} {base:Nat} {a:Value} {neg:Bool} {x:Nat} {e:Int} (h:Nrm w base a neg x e):∃ s ao n cap ex,a=.agg #[.bool s,.slice ao n cap,.int .i64 ex]:=by
 rcases h with ⟨_,rfl⟩|⟨_,v,rfl,ho⟩
 ·exact⟨_,_,_,_,_,rfl⟩
 ·obtain⟨ao,cap,rfl,-,-,-⟩:=ho.is
  exact⟨_,_,_,_,_,rfl⟩
theorem Nrm.mono {w:World} {base base':Nat} {a:Value} {neg:Bool} {x:Nat} {e:Int} (h:Nrm w base a neg x e) (hb:base'≤base):Nrm w base' a neg x e:=by
 rcases h with h|⟨h0,v,h1,ho⟩
 ·exact .inl h
 ·exact .inr ⟨h0,v,h1,ho.mono hb⟩
theorem Nrm.store {w:World} {base:Nat} {a:Value} {neg:Bool} {x:Nat} {e:Int} (h:Nrm w base a neg x e) {g:Nat} (hg:g<base) (p q r:Value):Nrm (((w.setCell ⟨g,0,none⟩ p).setCell ⟨g,1,none⟩ q).setCell ⟨g,2,none⟩ r) base a neg x e:=by
 rcases h with h|⟨h0,v,h1,ho⟩
 ·exact .inl h
 ·exact .inr ⟨h0,v,h1,own_store3 ho hg _ _ _⟩
theorem c87_a (na nb:Bool) (ua va:Option Addr) (uc vn vc y:Nat) (ea eb:Int) (w:World) (hT:Tab32 w) (h2:Is w (.slice va vn vc) y) (hy:dlen y≤1000000) (hb : -4000000≤eb∧eb≤4000000) :
  Calls Tryz.prog 99 #[NumV na (.slice ua 0 uc) ea,NumV nb (.slice va vn vc) eb] w fun r w'=>∃ a,r=.returned a∧Nrm w' w.heap.size a nb y eb∧Bw w w':=by
 obtain⟨W,hW⟩:∃ W,W=((w.alloc (.cells #[.bool na,.slice ua 0 uc,.int .i64 ea] 80)).alloc (.cells #[.bool nb,.slice va vn vc,.int .i64 eb] 80)).alloc (.cells #[.bool false,.slice none 0 0,.int .i64 0] 80):=⟨_,rfl⟩
 obtain⟨hA,hBb,hC,hsz,hBW⟩:=boxes3 _ _ _ hW
 have k56:=c56 (neg:=nb) (e:=eb) (h2.later hBW) (by omega) (hT.later hBW) (by omega)
 have HH:Hid (W.heap[w.heap.size+1+1]?=some (.cells #[.bool false,.slice none 0 0,.int .i64 0] 80 (0,0))∧W.heap.size=w.heap.size+1+1+1∧Bw w W):=⟨hC,hsz,hBW⟩
 clear h2 hT hA hBb hC hsz hBW
 unfold NumV
 go_enter Tryz.func99,Tryz.ntmps99
 go_wp2_with fail
 rw[←hW]
 clear hW
 refine k56.mono ?_
 rintro r w3 ⟨a,rfl,hN,hB⟩
 obtain⟨s,ao,n,cap,ex,rfl⟩:=hN.shape
 have HC3:Hid (w3.heap[w.heap.size+1+1]?=some (.cells #[.bool false,.slice none 0 0,.int .i64 0] 80 (0,0))):=box_later HH.out.1 hB (by have:=HH.out.2.1;omega)
 obtain⟨⟨a1,a2,a3⟩,a4,a5,a6⟩:=box_cells HC3.out
 have HN:Hid (Nrm w3 W.heap.size (.agg #[.bool s,.slice ao n cap,.int .i64 ex]) nb y eb∧Bw W w3):=⟨hN,hB⟩
 clear k56 hN hB
 go_wp2
 refine bodyPost_ret (results_cell_row rfl _ _ (w.heap.size+1+1) 80 #[.bool s,.slice ao n cap,.int .i64 ex] (0,0) _ rfl (store3 _ _ _ HC3.out) Tryz.underlying80 rfl Tryz.info80) rfl ?_
 obtain⟨b1,b2,b3⟩:=HH.out
 exact⟨_,rfl,(HN.out.1.store (by omega) _ _ _).mono (by omega),below_store3 (b3.trans (HN.out.2.mono b3.size)) (by omega) _ _ _⟩
theorem c87_b (na nb:Bool) (ua va:Option Addr) (un uc vc x:Nat) (ea eb:Int) (w:World) (hT:Tab32 w) (h2:Is w (.slice ua un uc) x) (hy:dlen x≤1000000) (hb : -4000000≤ea∧ea≤4000000) (hn0:((un:Int)==0)=false) :
  Calls Tryz.prog 99 #[NumV na (.slice ua un uc) ea,NumV nb (.slice va 0 vc) eb] w fun r w'=>∃ a,r=.returned a∧Nrm w' w.heap.size a na x ea∧Bw w w':=by
 obtain⟨W,hW⟩:∃ W,W=((w.alloc (.cells #[.bool na,.slice ua un uc,.int .i64 ea] 80)).alloc (.cells #[.bool nb,.slice va 0 vc,.int .i64 eb] 80)).alloc (.cells #[.bool false,.slice none 0 0,.int .i64 0] 80):=⟨_,rfl⟩
 obtain⟨hA,hBb,hC,hsz,hBW⟩:=boxes3 _ _ _ hW
 have k56:=c56 (neg:=na) (e:=ea) (h2.later hBW) (by omega) (hT.later hBW) (by omega)
 have HH:Hid (W.heap[w.heap.size+1+1]?=some (.cells #[.bool false,.slice none 0 0,.int .i64 0] 80 (0,0))∧W.heap.size=w.heap.size+1+1+1∧Bw w W):=⟨hC,hsz,hBW⟩
 clear h2 hT hA hBb hC hsz hBW
 unfold NumV
 go_enter Tryz.func99,Tryz.ntmps99
 go_wp2_with fail
 rw[←hW]
 clear hW
 refine k56.mono ?_
 rintro r w3 ⟨a,rfl,hN,hB⟩
 obtain⟨s,ao,n,cap,ex,rfl⟩:=hN.shape
 have HC3:Hid (w3.heap[w.heap.size+1+1]?=some (.cells #[.bool false,.slice none 0 0,.int .i64 0] 80 (0,0))):=box_later HH.out.1 hB (by have:=HH.out.2.1;omega)
 obtain⟨⟨a1,a2,a3⟩,a4,a5,a6⟩:=box_cells HC3.out
 have HN:Hid (Nrm w3 W.heap.size (.agg #[.bool s,.slice ao n cap,.int .i64 ex]) na x ea∧Bw W w3):=⟨hN,hB⟩
 clear k56 hN hB
 go_wp2
 refine bodyPost_ret (results_cell_row rfl _ _ (w.heap.size+1+1) 80 #[.bool s,.slice ao n cap,.int .i64 ex] (0,0) _ rfl (store3 _ _ _ HC3.out) Tryz.underlying80 rfl Tryz.info80) rfl ?_
 obtain⟨b1,b2,b3⟩:=HH.out
 exact⟨_,rfl,(HN.out.1.store (by omega) _ _ _).mono (by omega),below_store3 (b3.trans (HN.out.2.mono b3.size)) (by omega) _ _ _⟩
theorem c87_c (na:Bool) (ua va:Option Addr) (un uc vn vc X Y:Nat) (ea eb e:Int) (w:World) (hT:Tab32 w) (hX:dlen (X+Y)≤1000000) (hX1:dlen X≤1000000) (hX2:dlen Y≤1000000) (he : -4000000≤e∧e≤4000000) (hn0:((un:Int)==0)=false) (hn1:((vn:Int)==0)=false)
  (h99:∀ W,Bw w W→Calls Tryz.prog 120 #[NumV na (.slice ua un uc) ea,NumV na (.slice va vn vc) eb] W fun r w'=>∃ p q,r=.returned (.tuple #[p,q,.int .i64 e])∧Own w' W.heap.size p X∧Own w' W.heap.size q Y∧Bw W w') :
  Calls Tryz.prog 99 #[NumV na (.slice ua un uc) ea,NumV na (.slice va vn vc) eb] w fun r w'=>∃ a,r=.returned a∧Nrm w' w.heap.size a na (X+Y) e∧Bw w w':=by
 obtain⟨W,hW⟩:∃ W,W=((w.alloc (.cells #[.bool na,.slice ua un uc,.int .i64 ea] 80)).alloc (.cells #[.bool na,.slice va vn vc,.int .i64 eb] 80)).alloc (.cells #[.bool false,.slice none 0 0,.int .i64 0] 80):=⟨_,rfl⟩
 obtain⟨hA,hBb,hC,hsz,hBW⟩:=boxes3 _ _ _ hW
 have k99:=h99 W hBW
 have HH:Hid ((W.heap[w.heap.size]?=some (.cells #[.bool na,.slice ua un uc,.int .i64 ea] 80 (0,0))∧W.heap[w.heap.size+1]?=some (.cells #[.bool na,.slice va vn vc,.int .i64 eb] 80 (0,0))∧W.heap[w.heap.size+1+1]?=some (.cells #[.bool false,.slice none 0 0,.int .i64 0] 80 (0,0)))∧W.heap.size=w.heap.size+1+1+1∧Bw w W∧Tab32 W):=⟨⟨hA,hBb,hC⟩,hsz,hBW,hT.later hBW⟩
 unfold NumV at *
 clear hT hA hBb hC hsz hBW h99
 go_enter Tryz.func99,Tryz.ntmps99
 go_wp2_with fail
 rw[←hW]
 clear hW
 refine k99.mono ?_
 rintro r w4 ⟨p,q,rfl,hp,hq,hB4⟩
 obtain⟨⟨h1,h2,h3⟩,hs,hBW,hTW⟩:=HH.out
 obtain⟨⟨a0,a1,a2⟩,-⟩:=box_cells (box_later h1 hB4 (by omega))
 obtain⟨⟨b0,b1,b2⟩,-⟩:=box_cells (box_later h2 hB4 (by omega))
 have HC4:Hid (w4.heap[w.heap.size+1+1]?=some (.cells #[.bool false,.slice none 0 0,.int .i64 0] 80 (0,0))∧Bw W w4):=⟨box_later h3 hB4 (by omega),hB4⟩
 have k122:Calls Tryz.prog 121 #[p,q] w4.drew fun r w'=>∃ v,r=.returned v∧Own w' w4.heap.size v (X+Y)∧Bw w4 w' :=
  (c122 (w:=w4.drew) hp.is hq.is (by omega) (by omega)).mono fun r w' ⟨v,e1,o1,o2⟩=>⟨v,e1,o1,Below.trans (b:=w4.drew) (Below.refl _ _).drew o2⟩
 have hKeep:∀ w',Bw w4 w'→w'.cell? ⟨w.heap.size,0,none⟩=some (.bool na):=fun w' hb=>(hb.cell (World.block_lt_of_cell? _ _ a0)).trans a0
 have HK:Hid (∀ w',Bw w4 w'→w'.cell? ⟨w.heap.size,0,none⟩=some (.bool na)):=hKeep
 have k56:∀ v5 w5,Own w5 w4.heap.size v5 (X+Y)→Bw w4 w5→Calls Tryz.prog 95 #[.bool na,v5,.int .i64 e] w5 fun r w'=>∃ s ao n cap ex,r=.returned (.agg #[.bool s,.slice ao n cap,.int .i64 ex]) ∧
   Hid (Nrm w' w5.heap.size (.agg #[.bool s,.slice ao n cap,.int .i64 ex]) na (X+Y) e∧w4.heap.size≤w5.heap.size)∧Bw w4 w'∧Hid (w'.heap[w.heap.size+1+1]?=some (.cells #[.bool false,.slice none 0 0,.int .i64 0] 80 (0,0))) ∧
   (w'.cell? ⟨w.heap.size+1+1,0,none⟩=some (.bool false)∧w'.cell? ⟨w.heap.size+1+1,1,none⟩=some (.slice none 0 0)∧w'.cell? ⟨w.heap.size+1+1,2,none⟩=some (.int .i64 0))∧(w'.frozen? ⟨w.heap.size+1+1,0,none⟩=false∧w'.frozen? ⟨w.heap.size+1+1,1,none⟩=false∧w'.frozen? ⟨w.heap.size+1+1,2,none⟩=false):=by
  intro v5 w5 ho hb
  refine(c56 ho.is (by omega) ((hTW.later hB4).later hb) (by omega)).mono ?_
  rintro r w6 ⟨a,rfl,hN,hb6⟩
  obtain⟨s,ao,n,cap,ex,rfl⟩:=hN.shape
  have hb46:Bw w4 w6:=hb.trans (hb6.mono hb.size)
  have hblk:=box_later HC4.out.1 hb46 (by have:=HC4.out.2.size;omega)
  obtain⟨f1,f2⟩:=box_cells hblk
  exact⟨s,ao,n,cap,ex,rfl,⟨hN,hb.size⟩,hb46,hblk,f1,f2⟩
 have hbl:(na==na)=true:=by simp
 clear h1 h2 h3 hp hq hB4 k99 hs hBW hTW hKeep hX hX1 hX2
 go_wp2
 go_region_held3 (fun w'=>w'.cell? ⟨w.heap.size,0,none⟩=some (.bool na)) (first|(with_reducible assumption)|(refine HK.out _ ?_;with_reducible assumption)|(rw[World.cell?_setCell_other _ _ _ _ (by simp),World.cell?_setCell_other _ _ _ _ (by simp),World.cell?_setCell_other _ _ _ _ (by simp)];refine HK.out _ ?_;with_reducible assumption)|go_keep)
  (first|(go_at_call 121;refine k122.mono ?_;rintro r w5 ⟨v5,rfl,ho5,hb5⟩)|(go_at_call 95;refine(k56 _ _ ho5 hb5).mono ?_;rintro r w6 ⟨s6,ao6,n6,cap6,ex6,rfl,hN6,hb6,hblk6,⟨x1,x2,x3⟩,x4,x5,x6⟩))
 have HF:Hid (Bw w4 w6):=hb6
 clear ho5 hb5 hb6 k56 k122 x1 x2 x3 x4 x5 x6 a0 a1 a2 b0 b1 b2 HK
 go_wp2
 refine bodyPost_ret (results_cell_row rfl _ _ (w.heap.size+1+1) 80 #[.bool s6,.slice ao6 n6 cap6,.int .i64 ex6] (0,0) _ rfl (store3 _ _ _ hblk6.out) Tryz.underlying80 rfl Tryz.info80) rfl ?_
 obtain⟨-,hs,hBW,-⟩:=HH.out
 have hs4:=HC4.out.2.size
 have hs5:=hN6.out.2
 exact⟨_,rfl,(hN6.out.1.store (by omega) _ _ _).mono (by omega),below_store3 (hBW.trans ((HC4.out.2.trans (HF.out.mono hs4)).mono hBW.size)) (by omega) _ _ _⟩
theorem c87_d (na nb:Bool) (ua va:Option Addr) (un uc vn vc X Y:Nat) (ea eb e:Int) (w:World) (hT:Tab32 w) (hlt:X<Y) (hne:(na==nb)=false) (hX1:dlen X≤1000000) (hX2:dlen Y≤1000000) (he : -4000000≤e∧e≤4000000) (hn0:((un:Int)==0)=false) (hn1:((vn:Int)==0)=false)
  (h99:∀ W,Bw w W→Calls Tryz.prog 120 #[NumV na (.slice ua un uc) ea,NumV nb (.slice va vn vc) eb] W fun r w'=>∃ p q,r=.returned (.tuple #[p,q,.int .i64 e])∧Own w' W.heap.size p X∧Own w' W.heap.size q Y∧Bw W w') :
  Calls Tryz.prog 99 #[NumV na (.slice ua un uc) ea,NumV nb (.slice va vn vc) eb] w fun r w'=>∃ a,r=.returned a∧Nrm w' w.heap.size a nb (Y - X) e∧Bw w w':=by
 obtain⟨W,hW⟩:∃ W,W=((w.alloc (.cells #[.bool na,.slice ua un uc,.int .i64 ea] 80)).alloc (.cells #[.bool nb,.slice va vn vc,.int .i64 eb] 80)).alloc (.cells #[.bool false,.slice none 0 0,.int .i64 0] 80):=⟨_,rfl⟩
 obtain⟨hA,hBb,hC,hsz,hBW⟩:=boxes3 _ _ _ hW
 have k99:=h99 W hBW
 have HH:Hid ((W.heap[w.heap.size]?=some (.cells #[.bool na,.slice ua un uc,.int .i64 ea] 80 (0,0))∧W.heap[w.heap.size+1]?=some (.cells #[.bool nb,.slice va vn vc,.int .i64 eb] 80 (0,0))∧W.heap[w.heap.size+1+1]?=some (.cells #[.bool false,.slice none 0 0,.int .i64 0] 80 (0,0)))∧W.heap.size=w.heap.size+1+1+1∧Bw w W∧Tab32 W):=⟨⟨hA,hBb,hC⟩,hsz,hBW,hT.later hBW⟩
 unfold NumV at *
 clear hT hA hBb hC hsz hBW h99
 go_enter Tryz.func99,Tryz.ntmps99
 go_wp2_with fail
 rw[←hW]
 clear hW
 refine k99.mono ?_
 rintro r w4 ⟨p,q,rfl,hp,hq,hB4⟩
 obtain⟨⟨h1,h2,h3⟩,hs,hBW,hTW⟩:=HH.out
 obtain⟨⟨a0,a1,a2⟩,-⟩:=box_cells (box_later h1 hB4 (by omega))
 obtain⟨⟨b0,b1,b2⟩,-⟩:=box_cells (box_later h2 hB4 (by omega))
 have HC4:Hid (w4.heap[w.heap.size+1+1]?=some (.cells #[.bool false,.slice none 0 0,.int .i64 0] 80 (0,0))∧Bw W w4):=⟨box_later h3 hB4 (by omega),hB4⟩
 have k129:=c129 hp.is hq.is (by omega) (by omega)
 have hcm:cmpI (X:Int) (Y:Int)<0:=by unfold cmpI;rw[if_pos (by omega)];omega
 generalize cmpI (X:Int) (Y:Int)=cv at *
 have k138:∀ dd,Calls Tryz.prog 123 #[q,p] (w4.drewN dd).drew fun r w'=>∃ v,r=.returned v∧Own w' w4.heap.size v (Y - X)∧Bw w4 w':=fun dd =>
  (c138 (w:=(w4.drewN dd).drew) hq.is hp.is (by omega) (by omega)).mono fun r w' ⟨v,e1,o1,o2⟩=>⟨v,e1,o1,Below.trans (b:=(w4.drewN dd).drew) ⟨rfl,rfl,rfl,Nat.le_refl _,fun _ _=>rfl⟩ o2⟩
 have hKeep:∀ w',Bw w4 w'→w'.cell? ⟨w.heap.size+1,0,none⟩=some (.bool nb):=fun w' hb=>(hb.cell (World.block_lt_of_cell? _ _ b0)).trans b0
 have HK:Hid (∀ w',Bw w4 w'→w'.cell? ⟨w.heap.size+1,0,none⟩=some (.bool nb)):=hKeep
 have k56:∀ v5 w5,Own w5 w4.heap.size v5 (Y - X)→Bw w4 w5→Calls Tryz.prog 95 #[.bool nb,v5,.int .i64 e] w5 fun r w'=>∃ s ao n cap ex,r=.returned (.agg #[.bool s,.slice ao n cap,.int .i64 ex]) ∧
   Hid (Nrm w' w5.heap.size (.agg #[.bool s,.slice ao n cap,.int .i64 ex]) nb (Y - X) e∧w4.heap.size≤w5.heap.size)∧Bw w4 w'∧Hid (w'.heap[w.heap.size+1+1]?=some (.cells #[.bool false,.slice none 0 0,.int .i64 0] 80 (0,0))) ∧
   (w'.cell? ⟨w.heap.size+1+1,0,none⟩=some (.bool false)∧w'.cell? ⟨w.heap.size+1+1,1,none⟩=some (.slice none 0 0)∧w'.cell? ⟨w.heap.size+1+1,2,none⟩=some (.int .i64 0))∧(w'.frozen? ⟨w.heap.size+1+1,0,none⟩=false∧w'.frozen? ⟨w.heap.size+1+1,1,none⟩=false∧w'.frozen? ⟨w.heap.size+1+1,2,none⟩=false):=by
  intro v5 w5 ho hb
  refine(c56 ho.is (Nat.le_trans (dlen_mono (Nat.sub_le ..)) (by omega)) ((hTW.later hB4).later hb) (by omega)).mono ?_
  rintro r w6 ⟨a,rfl,hN,hb6⟩
  obtain⟨s,ao,n,cap,ex,rfl⟩:=hN.shape
  have hb46:Bw w4 w6:=hb.trans (hb6.mono hb.size)
  have hblk:=box_later HC4.out.1 hb46 (by have:=HC4.out.2.size;omega)
  obtain⟨f1,f2⟩:=box_cells hblk
  exact⟨s,ao,n,cap,ex,rfl,⟨hN,hb.size⟩,hb46,hblk,f1,f2⟩
 clear h1 h2 h3 hp hq hB4 k99 hs hBW hTW hKeep hX1 hX2 hlt
 go_wp2_with fail
 refine k129.mono ?_
 rintro r w7 ⟨rfl,dd,rfl⟩
 have k138:=k138 dd
 clear k129
 have HK2:Hid (∀ w',Bw w4 w'→w'.cell? ⟨w.heap.size+1,0,none⟩=some (.bool nb)):=HK.out
 have z0:(w4.drewN dd).cell? ⟨w.heap.size+1,0,none⟩=some (.bool nb):=b0
 go_wp2
 go_region_held3 (fun w'=>w'.cell? ⟨w.heap.size+1,0,none⟩=some (.bool nb)) (first|(with_reducible assumption)|(refine HK.out _ ?_;with_reducible assumption)|(rw[World.cell?_setCell_other _ _ _ _ (by simp),World.cell?_setCell_other _ _ _ _ (by simp),World.cell?_setCell_other _ _ _ _ (by simp)];refine HK.out _ ?_;with_reducible assumption)|go_keep)
  (first|(go_at_call 123;refine k138.mono ?_;rintro r w5 ⟨v5,rfl,ho5,hb5⟩)|(go_at_call 95;refine(k56 _ _ ho5 hb5).mono ?_;rintro r w6 ⟨s6,ao6,n6,cap6,ex6,rfl,hN6,hb6,hblk6,⟨x1,x2,x3⟩,x4,x5,x6⟩))
 have HF:Hid (Bw w4 w6):=hb6
 clear ho5 hb5 hb6 k56 k138 x1 x2 x3 x4 x5 x6 a0 a1 a2 b0 b1 b2 HK
 go_wp2
 refine bodyPost_ret (results_cell_row rfl _ _ (w.heap.size+1+1) 80 #[.bool s6,.slice ao6 n6 cap6,.int .i64 ex6] (0,0) _ rfl (store3 _ _ _ hblk6.out) Tryz.underlying80 rfl Tryz.info80) rfl ?_
 obtain⟨-,hs,hBW,-⟩:=HH.out
 have hs4:=HC4.out.2.size
 have hs5:=hN6.out.2
 exact⟨_,rfl,(hN6.out.1.store (by omega) _ _ _).mono (by omega),below_store3 (hBW.trans ((HC4.out.2.trans (HF.out.mono hs4)).mono hBW.size)) (by omega) _ _ _⟩
theorem c87_e (na nb:Bool) (ua va:Option Addr) (un uc vn vc X Y:Nat) (ea eb e:Int) (w:World) (hT:Tab32 w) (hlt:Y≤X) (hne:(na==nb)=false) (hX1:dlen X≤1000000) (hX2:dlen Y≤1000000) (he : -4000000≤e∧e≤4000000) (hn0:((un:Int)==0)=false) (hn1:((vn:Int)==0)=false)
  (h99:∀ W,Bw w W→Calls Tryz.prog 120 #[NumV na (.slice ua un uc) ea,NumV nb (.slice va vn vc) eb] W fun r w'=>∃ p q,r=.returned (.tuple #[p,q,.int .i64 e])∧Own w' W.heap.size p X∧Own w' W.heap.size q Y∧Bw W w') :
  Calls Tryz.prog 99 #[NumV na (.slice ua un uc) ea,NumV nb (.slice va vn vc) eb] w fun r w'=>∃ a,r=.returned a∧Nrm w' w.heap.size a na (X - Y) e∧Bw w w':=by
 obtain⟨W,hW⟩:∃ W,W=((w.alloc (.cells #[.bool na,.slice ua un uc,.int .i64 ea] 80)).alloc (.cells #[.bool nb,.slice va vn vc,.int .i64 eb] 80)).alloc (.cells #[.bool false,.slice none 0 0,.int .i64 0] 80):=⟨_,rfl⟩
 obtain⟨hA,hBb,hC,hsz,hBW⟩:=boxes3 _ _ _ hW
 have k99:=h99 W hBW
 have HH:Hid ((W.heap[w.heap.size]?=some (.cells #[.bool na,.slice ua un uc,.int .i64 ea] 80 (0,0))∧W.heap[w.heap.size+1]?=some (.cells #[.bool nb,.slice va vn vc,.int .i64 eb] 80 (0,0))∧W.heap[w.heap.size+1+1]?=some (.cells #[.bool false,.slice none 0 0,.int .i64 0] 80 (0,0)))∧W.heap.size=w.heap.size+1+1+1∧Bw w W∧Tab32 W):=⟨⟨hA,hBb,hC⟩,hsz,hBW,hT.later hBW⟩
 unfold NumV at *
 clear hT hA hBb hC hsz hBW h99
 go_enter Tryz.func99,Tryz.ntmps99
 go_wp2_with fail
 rw[←hW]
 clear hW
 refine k99.mono ?_
 rintro r w4 ⟨p,q,rfl,hp,hq,hB4⟩
 obtain⟨⟨h1,h2,h3⟩,hs,hBW,hTW⟩:=HH.out
 obtain⟨⟨a0,a1,a2⟩,-⟩:=box_cells (box_later h1 hB4 (by omega))
 obtain⟨⟨b0,b1,b2⟩,-⟩:=box_cells (box_later h2 hB4 (by omega))
 have HC4:Hid (w4.heap[w.heap.size+1+1]?=some (.cells #[.bool false,.slice none 0 0,.int .i64 0] 80 (0,0))∧Bw W w4):=⟨box_later h3 hB4 (by omega),hB4⟩
 have k129:=c129 hp.is hq.is (by omega) (by omega)
 have hcm:¬ cmpI (X:Int) (Y:Int)<0:=by unfold cmpI;rw[if_neg (by omega)];split <;> omega
 generalize cmpI (X:Int) (Y:Int)=cv at *
 have k138:∀ dd,Calls Tryz.prog 123 #[p,q] (w4.drewN dd).drew fun r w'=>∃ v,r=.returned v∧Own w' w4.heap.size v (X - Y)∧Bw w4 w':=fun dd =>
  (c138 (w:=(w4.drewN dd).drew) hp.is hq.is (by omega) (by omega)).mono fun r w' ⟨v,e1,o1,o2⟩=>⟨v,e1,o1,Below.trans (b:=(w4.drewN dd).drew) ⟨rfl,rfl,rfl,Nat.le_refl _,fun _ _=>rfl⟩ o2⟩
 have hKeep:∀ w',Bw w4 w'→w'.cell? ⟨w.heap.size,0,none⟩=some (.bool na):=fun w' hb=>(hb.cell (World.block_lt_of_cell? _ _ a0)).trans a0
 have HK:Hid (∀ w',Bw w4 w'→w'.cell? ⟨w.heap.size,0,none⟩=some (.bool na)):=hKeep
 have k56:∀ v5 w5,Own w5 w4.heap.size v5 (X - Y)→Bw w4 w5→Calls Tryz.prog 95 #[.bool na,v5,.int .i64 e] w5 fun r w'=>∃ s ao n cap ex,r=.returned (.agg #[.bool s,.slice ao n cap,.int .i64 ex]) ∧
   Hid (Nrm w' w5.heap.size (.agg #[.bool s,.slice ao n cap,.int .i64 ex]) na (X - Y) e∧w4.heap.size≤w5.heap.size)∧Bw w4 w'∧Hid (w'.heap[w.heap.size+1+1]?=some (.cells #[.bool false,.slice none 0 0,.int .i64 0] 80 (0,0))) ∧
   (w'.cell? ⟨w.heap.size+1+1,0,none⟩=some (.bool false)∧w'.cell? ⟨w.heap.size+1+1,1,none⟩=some (.slice none 0 0)∧w'.cell? ⟨w.heap.size+1+1,2,none⟩=some (.int .i64 0))∧(w'.frozen? ⟨w.heap.size+1+1,0,none⟩=false∧w'.frozen? ⟨w.heap.size+1+1,1,none⟩=false∧w'.frozen? ⟨w.heap.size+1+1,2,none⟩=false):=by
  intro v5 w5 ho hb
  refine(c56 ho.is (Nat.le_trans (dlen_mono (Nat.sub_le ..)) (by omega)) ((hTW.later hB4).later hb) (by omega)).mono ?_
  rintro r w6 ⟨a,rfl,hN,hb6⟩
  obtain⟨s,ao,n,cap,ex,rfl⟩:=hN.shape
  have hb46:Bw w4 w6:=hb.trans (hb6.mono hb.size)
  have hblk:=box_later HC4.out.1 hb46 (by have:=HC4.out.2.size;omega)
  obtain⟨f1,f2⟩:=box_cells hblk
  exact⟨s,ao,n,cap,ex,rfl,⟨hN,hb.size⟩,hb46,hblk,f1,f2⟩
 clear h1 h2 h3 hp hq hB4 k99 hs hBW hTW hKeep hX1 hX2 hlt
 go_wp2_with fail
 refine k129.mono ?_
 rintro r w7 ⟨rfl,dd,rfl⟩
 have k138:=k138 dd
 clear k129
 have HK2:Hid (∀ w',Bw w4 w'→w'.cell? ⟨w.heap.size,0,none⟩=some (.bool na)):=HK.out
 have z0:(w4.drewN dd).cell? ⟨w.heap.size,0,none⟩=some (.bool na):=a0
 go_wp2
 go_region_held3 (fun w'=>w'.cell? ⟨w.heap.size,0,none⟩=some (.bool na)) (first|(with_reducible assumption)|(refine HK.out _ ?_;with_reducible assumption)|(rw[World.cell?_setCell_other _ _ _ _ (by simp),World.cell?_setCell_other _ _ _ _ (by simp),World.cell?_setCell_other _ _ _ _ (by simp)];refine HK.out _ ?_;with_reducible assumption)|go_keep)
  (first|(go_at_call 123;refine k138.mono ?_;rintro r w5 ⟨v5,rfl,ho5,hb5⟩)|(go_at_call 95;refine(k56 _ _ ho5 hb5).mono ?_;rintro r w6 ⟨s6,ao6,n6,cap6,ex6,rfl,hN6,hb6,hblk6,⟨x1,x2,x3⟩,x4,x5,x6⟩))
 have HF:Hid (Bw w4 w6):=hb6
 clear ho5 hb5 hb6 k56 k138 x1 x2 x3 x4 x5 x6 a0 a1 a2 b0 b1 b2 HK
 go_wp2
 refine bodyPost_ret (results_cell_row rfl _ _ (w.heap.size+1+1) 80 #[.bool s6,.slice ao6 n6 cap6,.int .i64 ex6] (0,0) _ rfl (store3 _ _ _ hblk6.out) Tryz.underlying80 rfl Tryz.info80) rfl ?_
 obtain⟨-,hs,hBW,-⟩:=HH.out
 have hs4:=HC4.out.2.size
 have hs5:=hN6.out.2
 exact⟨_,rfl,(hN6.out.1.store (by omega) _ _ _).mono (by omega),below_store3 (hBW.trans ((HC4.out.2.trans (HF.out.mono hs4)).mono hBW.size)) (by omega) _ _ _⟩
def sumN (na:Bool) (x:Nat) (ea:Int) (nb:Bool) (y:Nat) (eb:Int):Bool×Nat×Int :=
 if x=0 then(nb,y,eb)else if y=0 then(na,x,ea) else
  if na=nb then(na,x*2^(ea - min ea eb).toNat+y*2^(eb - min ea eb).toNat,min ea eb)
  else if x*2^(ea - min ea eb).toNat<y*2^(eb - min ea eb).toNat then(nb,y*2^(eb - min ea eb).toNat - x*2^(ea - min ea eb).toNat,min ea eb)
  else(na,x*2^(ea - min ea eb).toNat - y*2^(eb - min ea eb).toNat,min ea eb)
theorem len_ne {x n:Nat} (hx:x≠0):((dlen x:Int)==0)=false:=by
 have:dlen x≠0:=fun e=>hx (dlen_eq_zero.1 e)
 simp;omega
theorem dlen_add_le (x y:Nat):dlen (x+y)≤max (dlen x) (dlen y)+1:=by
 rw[dlen_le,Bpow_succ]
 have h1:=(dlen_le (max (dlen x) (dlen y)) x).1 (by omega)
 have h2:=(dlen_le (max (dlen x) (dlen y)) y).1 (by omega)
 have:B^max (dlen x) (dlen y)*2≤B^max (dlen x) (dlen y)*B:=Nat.mul_le_mul_left _ (by unfold B;omega)
 omega
theorem c87 {na nb:Bool} {u v:Value} {x y:Nat} {ea eb:Int} {w:World} (h1:Is w u x) (h2:Is w v y) (hx:dlen x≤500000) (hy:dlen y≤500000) (ha : -4000000≤ea∧ea≤4000000) (hb : -4000000≤eb∧eb≤4000000) (hT:Tab32 w) :
  Calls Tryz.prog 99 #[NumV na u ea,NumV nb v eb] w fun r w'=>∃ a,r=.returned a∧Nrm w' w.heap.size a (sumN na x ea nb y eb).1 (sumN na x ea nb y eb).2.1 (sumN na x ea nb y eb).2.2∧Bw w w':=by
 have h1':=h1
 have h2':=h2
 obtain⟨ua,uc,rfl,-,-,-⟩:=h1'
 obtain⟨va,vc,rfl,-,-,-⟩:=h2'
 unfold sumN
 by_cases x0:x=0
 ·subst x0
  rw[if_pos rfl,dlen_zero]
  exact c87_a na nb ua va uc _ vc y ea eb w hT h2 (by omega) hb
 ·rw[if_neg x0]
  by_cases y0:y=0
  ·subst y0
   rw[if_pos rfl,dlen_zero]
   exact c87_b na nb ua va _ uc vc x ea eb w hT h1 (by omega) ha (len_ne (n:=0) x0)
  ·rw[if_neg y0]
   have hm : -4000000≤min ea eb∧min ea eb≤4000000:=by omega
   have l1:dlen (x*2^(ea - min ea eb).toNat)≤760000:=by have:=shl_len (x:=x) (k:=(ea - min ea eb).toNat) rfl;omega
   have l2:dlen (y*2^(eb - min ea eb).toNat)≤760000:=by have:=shl_len (x:=y) (k:=(eb - min ea eb).toNat) rfl;omega
   have h99:∀ W,Bw w W→Calls Tryz.prog 120 #[NumV na (.slice ua (dlen x) uc) ea,NumV nb (.slice va (dlen y) vc) eb] W fun r w'=>∃ p q,r=.returned (.tuple #[p,q,.int .i64 (min ea eb)])∧Own w' W.heap.size p (x*2^(ea - min ea eb).toNat)∧Own w' W.heap.size q (y*2^(eb - min ea eb).toNat)∧Bw W w' :=
    fun W hW=>c99 (h1.later hW) (h2.later hW) (by omega) (by omega) ha hb
   by_cases hs:na=nb
   ·subst hs
    rw[if_pos rfl]
    exact c87_c na ua va _ uc _ vc _ _ ea eb _ w hT (by have:=dlen_add_le (x*2^(ea - min ea eb).toNat) (y*2^(eb - min ea eb).toNat);omega) (by omega) (by omega) hm (len_ne (n:=0) x0) (len_ne (n:=0) y0) h99
   ·rw[if_neg hs]
    have hne:(na==nb)=false:=by simp[hs]
    by_cases hlt:x*2^(ea - min ea eb).toNat<y*2^(eb - min ea eb).toNat
    ·rw[if_pos hlt]
     exact c87_d na nb ua va _ uc _ vc _ _ ea eb _ w hT hlt hne (by omega) (by omega) hm (len_ne (n:=0) x0) (len_ne (n:=0) y0) h99
    ·rw[if_neg hlt]
     exact c87_e na nb ua va _ uc _ vc _ _ ea eb _ w hT (by omega) hne (by omega) (by omega) hm (len_ne (n:=0) x0) (len_ne (n:=0) y0) h99
theorem maybe2 {na nb:Bool} {ua va:Option Addr} {uc vc x y g:Nat} {ea eb:Int} {W:World} (hg:W.heap[g]?=some (.cells #[.bool na,.slice ua (dlen x) uc,.int .i64 ea,.bool nb,.slice va (dlen y) vc,.int .i64 eb] 80 (0,0)))
  (h1:Is W (.slice ua (dlen x) uc) x) (h2:Is W (.slice va (dlen y) vc) y) (hx:dlen x≤35184372088832) (hy:dlen y≤35184372088832) :
  Calls Tryz.prog 97 #[.slice (some ⟨g,0,none⟩) 2 2] W fun r w'=>r=.returned (.bool (okN na (dlen x) x ea&&okN nb (dlen y) y eb))∧Bw W w':=by
 obtain⟨ao1,c1,e1,-,-,a1⟩:=h1
 obtain⟨ao2,c2,e2,-,-,a2⟩:=h2
 simp only[Value.slice.injEq] at e1 e2
 obtain⟨rfl,-,rfl⟩:=e1
 obtain⟨rfl,-,rfl⟩:=e2
 have k:=c67 g 2 (fun i=>if i=0 then na else nb) (fun i=>if i=0 then ua else va) (fun i=>if i=0 then dlen x else dlen y) (fun i=>if i=0 then uc else vc) (fun i=>if i=0 then x else y) (fun i=>if i=0 then ea else eb) W (by omega)
  (fun i hi=>by rcases(show i=0∨i=1 by omega)with rfl|rfl <;> simp[World.cell?,hg])
  (fun i hi=>by rcases(show i=0∨i=1 by omega)with rfl|rfl <;> simp[World.cell?,hg])
  (fun i hi=>by rcases(show i=0∨i=1 by omega)with rfl|rfl <;> simp[World.cell?,hg])
  (fun i hi=>by rcases(show i=0∨i=1 by omega)with rfl|rfl <;> simp <;> assumption)
  (fun i hi=>by rcases(show i=0∨i=1 by omega)with rfl|rfl <;> simp <;> omega)
 refine k.mono ?_
 rintro r w' ⟨rfl,hb⟩
 refine⟨congrArg Ending.returned (congrArg Value.bool ?_),hb⟩
 rw[Bool.eq_iff_iff]
 simp only[decide_eq_true_eq,Bool.and_eq_true]
 constructor
 ·intro h
  have h0:=h 0 (by omega)
  have h1:=h 1 (by omega)
  simp at h0 h1
  exact⟨h0,h1⟩
 ·rintro⟨h0,h1⟩ i hi
  rcases(show i=0∨i=1 by omega)with rfl|rfl
  ·simpa using h0
  ·simpa using h1
def okR (s:Bool) (z:Nat) (e:Int):Bool:=if z=0 then true else okN s (dlen (z / 2^tz z)) (z / 2^tz z) (e+tz z)
theorem c63n {s:Bool} {z:Nat} {e:Int} {A:Value} {w:World} {base:Nat} (h:Nrm w base A s z e) (hz:dlen z≤35184372088832) :
  Calls Tryz.prog 98 #[A] w fun r w'=>r=.returned (.tuple #[if okR s z e then A else Nil,.int .i64 (if okR s z e then 0 else 2)])∧Bw w w':=by
 unfold okR
 rcases h with ⟨rfl,rfl⟩|⟨h0,v,rfl,ho⟩
 ·have:=c63 (neg:=false) (cap:=0) (e:=0) (w:=w) (ao:=none) (n:=0) (z:=0) ⟨0,0,fun h=>by omega,fun i hi=>by omega⟩ (by omega)
  have e0:okN false 0 0 0=true:=rfl
  rw[e0] at this
  simpa [NumV] using this
 ·obtain⟨ao,cap,rfl,-,-,ha⟩:=ho.is
  rw[if_neg h0]
  exact c63 ha (Nat.le_trans (dlen_mono (Nat.div_le_self ..)) hz)
def Held (w:World) (s:Bool) (z:Nat) (e:Int) (r:Ending) (w':World):Prop :=
 ∃ A,r=.returned (.tuple #[if okR s z e then A else Nil,.int .i64 (if okR s z e then 0 else 2)])∧Nrm w' w.heap.size A s z e∧Bw w w'
theorem c34_1 (na nb:Bool) (ua va:Option Addr) (un uc vn vc x y z:Nat) (ea eb e:Int) (s:Bool) (w:World) (hz:dlen z≤35184372088832)
  (k67:∀ W g,Bw w W→W.heap[g]?=some (.cells #[.bool na,.slice ua un uc,.int .i64 ea,.bool nb,.slice va vn vc,.int .i64 eb] 80 (0,0))→Calls Tryz.prog 97 #[.slice (some ⟨g,0,none⟩) 2 2] W fun r w'=>r=.returned (.bool true)∧Bw W w')
  (k87:∀ W,Bw w W→Calls Tryz.prog 99 #[.agg #[.bool na,.slice ua un uc,.int .i64 ea],.agg #[.bool nb,.slice va vn vc,.int .i64 eb]] W fun r w'=>∃ a,r=.returned a∧Nrm w' W.heap.size a s z e∧Bw W w') :
  Calls Tryz.prog 62 #[NumV na (.slice ua un uc) ea,NumV nb (.slice va vn vc) eb] w fun r w'=>Held w s z e r w':=by
 obtain⟨W,hW⟩:∃ W,W=((w.alloc (.cells #[.bool na,.slice ua un uc,.int .i64 ea] 80)).alloc (.cells #[.bool nb,.slice va vn vc,.int .i64 eb] 80)).alloc (.cells #[.bool false,.slice none 0 0,.int .i64 0] 80):=⟨_,rfl⟩
 obtain⟨hA,hBb,hC,hsz,hBW⟩:=boxes3 _ _ _ hW
 have hB4:Below w.heap.size w (W.alloc (.cells #[.bool na,.slice ua un uc,.int .i64 ea,.bool nb,.slice va vn vc,.int .i64 eb] 80)):=hBW.alloc hBW.size _
 have k1:=k67 (W.alloc (.cells #[.bool na,.slice ua un uc,.int .i64 ea,.bool nb,.slice va vn vc,.int .i64 eb] 80)) (w.heap.size+1+1+1) hB4 (by rw[←hsz];exact heap_alloc_new _ _)
 have HH:Hid ((W.heap[w.heap.size]?=some (.cells #[.bool na,.slice ua un uc,.int .i64 ea] 80 (0,0))∧W.heap[w.heap.size+1]?=some (.cells #[.bool nb,.slice va vn vc,.int .i64 eb] 80 (0,0))∧W.heap[w.heap.size+1+1]?=some (.cells #[.bool false,.slice none 0 0,.int .i64 0] 80 (0,0)))∧W.heap.size=w.heap.size+1+1+1∧Bw w W∧Below W.heap.size W (W.alloc (.cells #[.bool na,.slice ua un uc,.int .i64 ea,.bool nb,.slice va vn vc,.int .i64 eb] 80))):=⟨⟨hA,hBb,hC⟩,hsz,hBW,(Below.refl _ _).alloc (Nat.le_refl _) _⟩
 have HZ:Hid (dlen z≤35184372088832):=hz
 have HK87:Hid _:=k87
 unfold NumV
 clear hA hBb hC hsz hBW hB4 k67 k87 hz
 go_enter Tryz.func62,Tryz.ntmps62
 go_wp2_with fail
 rw[←hW]
 clear hW
 refine k1.mono ?_
 rintro r w1 ⟨rfl,hB1⟩
 clear k1
 have hBW1:Bw W w1:=HH.out.2.2.2.trans (hB1.mono HH.out.2.2.2.size)
 obtain⟨⟨a0,a1,a2⟩,-⟩:=box_cells (box_later HH.out.1.1 hBW1 (by have:=HH.out.2.1;omega))
 obtain⟨⟨b0,b1,b2⟩,-⟩:=box_cells (box_later HH.out.1.2.1 hBW1 (by have:=HH.out.2.1;omega))
 have HB1:Hid (Bw W w1):=hBW1
 clear hB1 hBW1
 go_wp2_with fail
 refine(HK87.out w1 (HH.out.2.2.1.trans (HB1.out.mono HH.out.2.2.1.size))).mono ?_
 rintro r w2 ⟨A,rfl,hN,hB2⟩
 have HB2:Hid (Bw W w2):=HB1.out.trans (hB2.mono HB1.out.size)
 have HN:Hid (Nrm w2 W.heap.size A s z e):=hN.mono HB1.out.size
 clear hN hB2 a0 a1 a2 b0 b1 b2
 go_wp2_with fail
 refine(c63n HN.out HZ.out).mono ?_
 rintro r w3 ⟨rfl,hB3⟩
 have HB3:Hid (Bw W w3):=HB2.out.trans (hB3.mono HB2.out.size)
 have HN3:Hid (Nrm w3 W.heap.size A s z e):=by
  rcases HN.out with h|⟨h0,v,h1,ho⟩
  ·exact .inl h
  ·exact .inr ⟨h0,v,h1,ho.later hB3⟩
 have HC3:Hid (w3.heap[w.heap.size+1+1]?=some (.cells #[.bool false,.slice none 0 0,.int .i64 0] 80 (0,0))):=box_later HH.out.1.2.2 HB3.out (by have:=HH.out.2.1;omega)
 obtain⟨⟨x1,x2,x3⟩,x4,x5,x6⟩:=box_cells HC3.out
 obtain⟨s',ao,n,cap,ex,hsh⟩:=HN3.out.shape
 have HSH:Hid (A=.agg #[.bool s',.slice ao n cap,.int .i64 ex]):=hsh
 clear hB3
 cases hok:okR s z e
 ·clear hsh
  have hNil:Nil=.agg #[.bool false,.slice none 0 0,.int .i64 0]:=rfl
  go_wp2
  refine bodyPost_ret (results_cell_tmp_row rfl _ _ (w.heap.size+1+1) 80 #[.bool false,.slice none 0 0,.int .i64 0] (0,0) _ rfl (store3 _ _ _ HC3.out) Tryz.underlying80 rfl Tryz.info80) rfl ?_
  obtain⟨-,hs,hBW,-⟩:=HH.out
  exact⟨A,by rw[hok];rfl,(HN3.out.store (by omega) _ _ _).mono (by omega),below_store3 (hBW.trans (HB3.out.mono hBW.size)) (by omega) _ _ _⟩
 ·subst hsh
  go_wp2
  refine bodyPost_ret (results_cell_tmp_row rfl _ _ (w.heap.size+1+1) 80 #[.bool s',.slice ao n cap,.int .i64 ex] (0,0) _ rfl (store3 _ _ _ HC3.out) Tryz.underlying80 rfl Tryz.info80) rfl ?_
  obtain⟨-,hs,hBW,-⟩:=HH.out
  exact⟨_,by rw[hok];rfl,(HN3.out.store (by omega) _ _ _).mono (by omega),below_store3 (hBW.trans (HB3.out.mono hBW.size)) (by omega) _ _ _⟩
end Go.Proofs.YtjiolfnchiioaaaGreatDoor
/- Plain facts on the bits of a float64, of no program: its magnitude, its sign, whether it is a NaN, and that two floats stand in order as their numbers of steps from nought do. -/
namespace Go.Fl64
open Go.RowKit
def mag (a:Nat):Nat:=a % 9223372036854775808
def neg (a:Nat):Bool:=decide (9223372036854775808≤a)
def isNaN (a:Nat):Bool:=decide (9218868437227405312<mag a)
def sgn (s:Bool) (n:Nat):Int:=if s then -(n:Int) else(n:Int)
def stp (a:Nat):Int:=sgn (neg a) (mag a)
theorem mag_lt (a:Nat):mag a<9223372036854775808:=Nat.mod_lt _ (by decide)
theorem and_low (a:Nat):a &&& 9223372036854775807=a % 9223372036854775808:=by
 have:=Nat.and_two_pow_sub_one_eq_mod a 63
 simpa using this
theorem andNot_sign (a:Nat) (h:a<18446744073709551616):bits .andNot .u64 (a:Int) 9223372036854775808=(mag a:Int):=by
 have e:=u64_andNot_nat a 9223372036854775808 h (by decide)
 rw[show((9223372036854775808:Nat):Int)=9223372036854775808 from rfl] at e
 rw[e]
 congr 1
 unfold mag
 rw[←and_low]
theorem wrap_neg (a:Nat) (h:a<18446744073709551616):decide (wrap64 (a:Int)<0)=neg a:=by
 unfold neg wrap64
 congr 1
 apply propext
 omega
/-! ### The order of floats -/
def val (r:Nat):Nat:=if r<4503599627370496 then r else(4503599627370496+r % 4503599627370496)*2^(r / 4503599627370496 - 1)
theorem val_succ (r:Nat):val r<val (r+1):=by
 unfold val
 by_cases h1:r+1<4503599627370496
 ·rw[if_pos (by omega),if_pos h1];omega
 ·rw[if_neg h1]
  by_cases h2:r<4503599627370496
  ·rw[if_pos h2]
   have e:r+1=4503599627370496:=by omega
   rw[e]
   simp
   omega
  ·rw[if_neg h2]
   by_cases h3:r % 4503599627370496+1<4503599627370496
   ·have e1:(r+1) % 4503599627370496=r % 4503599627370496+1:=by omega
    have e2:(r+1) / 4503599627370496=r / 4503599627370496:=by omega
    rw[e1,e2]
    exact Nat.mul_lt_mul_of_pos_right (by omega) (Nat.two_pow_pos _)
   ·have e1:(r+1) % 4503599627370496=0:=by omega
    have e2:(r+1) / 4503599627370496 - 1=(r / 4503599627370496 - 1)+1:=by omega
    rw[e1,e2,Nat.pow_succ]
    have hp:=Nat.two_pow_pos (r / 4503599627370496 - 1)
    generalize 2^(r / 4503599627370496 - 1)=p at *
    have e3:(4503599627370496+r % 4503599627370496)*p≤9007199254740991*p:=Nat.mul_le_mul_right _ (by omega)
    omega
theorem val_lt_of_lt {r s:Nat} (h:r<s):val r<val s:=by
 obtain⟨d,rfl⟩:∃ d,s=r+1+d:=⟨s - r - 1,by omega⟩
 clear h
 induction d with
 | zero=>exact val_succ r
 | succ d ih=>exact Nat.lt_trans ih (val_succ _)
theorem val_lt (r s:Nat):val r<val s↔r<s:=by
 constructor
 ·intro h
  apply Nat.lt_of_not_le
  intro hle
  rcases Nat.lt_or_eq_of_le hle with h'|h'
  ·have:=val_lt_of_lt h';omega
  ·subst h';omega
 ·exact val_lt_of_lt
theorem val_eq (r s:Nat):val r=val s↔r=s:=by
 have h1:=val_lt r s
 have h2:=val_lt s r
 omega
theorem val_zero:val 0=0:=rfl
theorem val_eq_zero (r:Nat):val r=0↔r=0:=by
 have:=val_eq r 0
 rw[val_zero] at this
 exact this
theorem compare_congr {x y x' y':Int} (h1:x<y↔x'<y') (h2:x=y↔x'=y'):compare x y=compare x' y':=by
 show compareOfLessAndEq x y=compareOfLessAndEq x' y'
 unfold compareOfLessAndEq
 by_cases a:x<y
 ·rw[if_pos a,if_pos (h1.1 a)]
 ·rw[if_neg a,if_neg (fun b=>a (h1.2 b))]
  by_cases b:x=y
  ·rw[if_pos b,if_pos (h2.1 b)]
  ·rw[if_neg b,if_neg (fun c=>b (h2.2 c))]
theorem cmp_lt {x y:Int} (h:x<y):compare x y=.lt:=by
 show compareOfLessAndEq x y=_
 unfold compareOfLessAndEq
 rw[if_pos h]
theorem cmp_eq {x y:Int} (h:x=y):compare x y=.eq:=by
 show compareOfLessAndEq x y=_
 unfold compareOfLessAndEq
 rw[if_neg (by omega),if_pos h]
theorem cmp_gt {x y:Int} (h:y<x):compare x y=.gt:=by
 show compareOfLessAndEq x y=_
 unfold compareOfLessAndEq
 rw[if_neg (by omega),if_neg (by omega)]
theorem sgn_lt (s t:Bool) (m n m' n':Nat) (h1:m<n↔m'<n') (h2:n<m↔n'<m') (h3:m=0↔m'=0) (h4:n=0↔n'=0):sgn s m<sgn t n↔sgn s m'<sgn t n':=by
 unfold sgn
 cases s <;> cases t <;> simp <;> omega
theorem sgn_eq (s t:Bool) (m n m' n':Nat) (h1:m<n↔m'<n') (h2:n<m↔n'<m') (h3:m=0↔m'=0) (h4:n=0↔n'=0):sgn s m=sgn t n↔sgn s m'=sgn t n':=by
 unfold sgn
 cases s <;> cases t <;> simp <;> omega
theorem sgn_cmp (s t:Bool) (m n m' n':Nat) (h1:m<n↔m'<n') (h2:n<m↔n'<m') (h3:m=0↔m'=0) (h4:n=0↔n'=0):compare (sgn s m) (sgn t n)=compare (sgn s m') (sgn t n') :=
 compare_congr (sgn_lt s t m n m' n' h1 h2 h3 h4) (sgn_eq s t m n m' n' h1 h2 h3 h4)
theorem signed_sgn (s:Bool) (m u:Nat):Ieee.signed s m u=sgn s (m*2^u):=by
 unfold Ieee.signed sgn
 rw[Nat.shiftLeft_eq]
theorem read_number (a:Nat) (h:a<18446744073709551616) (hf:mag a<9218868437227405312) :
  ∃ (m k:Nat),Ieee.double.read a=.number (neg a) m (-1074+(k:Int))∧m*2^k=val (mag a):=by
 have hs:Ieee.double.signWeight=9223372036854775808:=by decide
 have hb:Ieee.double.binade=4503599627370496:=by decide
 have hi:Ieee.double.infRung=9218868437227405312:=by decide
 have hl:Ieee.double.leastPlace = -1074:=by decide
 have hn:(a / 9223372036854775808 % 2==1)=neg a:=by
  unfold neg
  rw[Bool.beq_eq_decide_eq]
  congr 1
  apply propext
  omega
 unfold Ieee.Format.read
 simp only[hs,hb,hi,hl,hn]
 show ∃ m k,(if mag a<4503599627370496 then _ else _)=_∧_
 unfold mag at hf ⊢
 by_cases h1:a % 9223372036854775808<4503599627370496
 ·refine⟨a % 9223372036854775808,0,?_,?_⟩
  ·rw[if_pos h1];simp
  ·unfold val;rw[if_pos h1];simp
 ·refine⟨4503599627370496+a % 9223372036854775808 % 4503599627370496,a % 9223372036854775808 / 4503599627370496 - 1,?_,?_⟩
  ·rw[if_neg h1,if_pos hf]
  ·unfold val;rw[if_neg h1]
theorem read_infinity (a:Nat) (h:a<18446744073709551616) (hf:mag a=9218868437227405312):Ieee.double.read a=.infinity (neg a):=by
 have hs:Ieee.double.signWeight=9223372036854775808:=by decide
 have hb:Ieee.double.binade=4503599627370496:=by decide
 have hi:Ieee.double.infRung=9218868437227405312:=by decide
 have hn:(a / 9223372036854775808 % 2==1)=neg a:=by
  unfold neg
  rw[Bool.beq_eq_decide_eq]
  congr 1
  apply propext
  omega
 unfold Ieee.Format.read
 simp only[hs,hb,hi,hn]
 unfold mag at hf
 rw[hf]
 simp
theorem read_nan (a:Nat) (hf:9218868437227405312<mag a):∃ s f,Ieee.double.read a=.nan s f:=by
 have hs:Ieee.double.signWeight=9223372036854775808:=by decide
 have hb:Ieee.double.binade=4503599627370496:=by decide
 have hi:Ieee.double.infRung=9218868437227405312:=by decide
 unfold Ieee.Format.read
 simp only[hs,hb,hi]
 unfold mag at hf
 rw[if_neg (by omega),if_neg (by omega),if_neg (by omega)]
 exact⟨_,_,rfl⟩
theorem order_nan_left (a b:Nat) (h:isNaN a=true):Ieee.double.order a b=none:=by
 obtain⟨s,f,e⟩:=read_nan a (of_decide_eq_true h)
 unfold Ieee.Format.order
 rw[e]
 rfl
theorem order_nan_right (a b:Nat) (h:isNaN b=true):Ieee.double.order a b=none:=by
 obtain⟨s,f,e⟩:=read_nan b (of_decide_eq_true h)
 unfold Ieee.Format.order
 rw[e]
 cases Ieee.double.read a <;> rfl
theorem order_num (a b:Nat) (ha:a<18446744073709551616) (hb:b<18446744073709551616) (na:isNaN a=false) (nb:isNaN b=false) :
  Ieee.double.order a b=some (compare (stp a) (stp b)):=by
 have na':¬ 9218868437227405312<mag a:=of_decide_eq_false na
 have nb':¬ 9218868437227405312<mag b:=of_decide_eq_false nb
 unfold Ieee.Format.order stp
 by_cases fa:mag a<9218868437227405312
 ·obtain⟨m,k,e,hm⟩:=read_number a ha fa
  by_cases fb:mag b<9218868437227405312
  ·obtain⟨n,l,e',hn⟩:=read_number b hb fb
   rw[e,e']
   unfold Ieee.Datum.order
   dsimp only
   rw[signed_sgn,signed_sgn]
   congr 1
   have e1:((-1074+(k:Int)) - min (-1074+(k:Int)) (-1074+(l:Int))).toNat=k - min k l:=by omega
   have e2:((-1074+(l:Int)) - min (-1074+(k:Int)) (-1074+(l:Int))).toNat=l - min k l:=by omega
   rw[e1,e2]
   have p1:m*2^(k - min k l)*2^min k l=val (mag a):=by
    rw[Nat.mul_assoc,←Nat.pow_add,show k - min k l+min k l=k by omega,hm]
   have p2:n*2^(l - min k l)*2^min k l=val (mag b):=by
    rw[Nat.mul_assoc,←Nat.pow_add,show l - min k l+min k l=l by omega,hn]
   have hp:=Nat.two_pow_pos (min k l)
   generalize m*2^(k - min k l)=X at *
   generalize n*2^(l - min k l)=Y at *
   generalize 2^min k l=p at *
   have v1:=val_lt (mag a) (mag b)
   have v2:=val_lt (mag b) (mag a)
   have z1:=val_eq_zero (mag a)
   have z2:=val_eq_zero (mag b)
   rw[←p1,←p2] at v1 v2
   rw[←p1] at z1
   rw[←p2] at z2
   apply sgn_cmp
   ·rw[←v1];exact(Nat.mul_lt_mul_right hp).symm
   ·rw[←v2];exact(Nat.mul_lt_mul_right hp).symm
   ·rw[←z1,Nat.mul_eq_zero];omega
   ·rw[←z2,Nat.mul_eq_zero];omega
  ·have fb':mag b=9218868437227405312:=by omega
   rw[e,read_infinity b hb fb',fb']
   unfold Ieee.Datum.order
   dsimp only
   congr 1
   cases neg b
   ·exact(cmp_lt (by unfold sgn;cases neg a <;> simp <;> omega)).symm
   ·exact(cmp_gt (by unfold sgn;cases neg a <;> simp <;> omega)).symm
 ·have fa':mag a=9218868437227405312:=by omega
  rw[read_infinity a ha fa',fa']
  by_cases fb:mag b<9218868437227405312
  ·obtain⟨n,l,e',hn⟩:=read_number b hb fb
   rw[e']
   unfold Ieee.Datum.order
   dsimp only
   congr 1
   cases neg a
   ·exact(cmp_gt (by unfold sgn;cases neg b <;> simp <;> omega)).symm
   ·exact(cmp_lt (by unfold sgn;cases neg b <;> simp <;> omega)).symm
  ·have fb':mag b=9218868437227405312:=by omega
   rw[read_infinity b hb fb',fb']
   unfold Ieee.Datum.order
   dsimp only
   congr 1
   cases neg b <;> cases neg a <;> rfl
/-! ### The six comparisons of Go, as the walk spells them -/
theorem f64:FloatKind.f64.format=Ieee.double:=rfl
theorem self_ne (a:Nat) (h:a<18446744073709551616):(FloatKind.f64.format.order a a != some Ordering.eq)=isNaN a:=by
 rw[f64]
 cases hn:isNaN a with
 | true=>rw[order_nan_left a a hn];rfl
 | false=>rw[order_num a a h h hn hn,cmp_eq rfl];rfl
def lt (a b:Nat):Bool := !isNaN a && !isNaN b&&decide (stp a<stp b)
def eq (a b:Nat):Bool := !isNaN a && !isNaN b&&decide (stp a=stp b)
theorem ord_lt (a b:Nat) (ha:a<18446744073709551616) (hb:b<18446744073709551616):(FloatKind.f64.format.order a b==some Ordering.lt)=lt a b:=by
 rw[f64]
 unfold lt
 cases na:isNaN a with
 | true=>rw[order_nan_left a b na];rfl
 | false =>
  cases nb:isNaN b with
  | true=>rw[order_nan_right a b nb];rfl
  | false =>
   rw[order_num a b ha hb na nb]
   rcases Int.lt_trichotomy (stp a) (stp b)with h|h|h
   ·rw[cmp_lt h];simp[h]
   ·rw[cmp_eq h];simp[h]
   ·rw[cmp_gt h,decide_eq_false (by omega)];rfl
theorem ord_eq (a b:Nat) (ha:a<18446744073709551616) (hb:b<18446744073709551616):(FloatKind.f64.format.order a b==some Ordering.eq)=eq a b:=by
 rw[f64]
 unfold eq
 cases na:isNaN a with
 | true=>rw[order_nan_left a b na];rfl
 | false =>
  cases nb:isNaN b with
  | true=>rw[order_nan_right a b nb];rfl
  | false =>
   rw[order_num a b ha hb na nb]
   rcases Int.lt_trichotomy (stp a) (stp b)with h|h|h
   ·rw[cmp_lt h,decide_eq_false (by omega)];rfl
   ·rw[cmp_eq h];simp[h]
   ·rw[cmp_gt h,decide_eq_false (by omega)];rfl
theorem ord_gt (a b:Nat) (ha:a<18446744073709551616) (hb:b<18446744073709551616):(FloatKind.f64.format.order a b==some Ordering.gt)=lt b a:=by
 rw[f64]
 unfold lt
 cases na:isNaN a with
 | true=>rw[order_nan_left a b na];cases isNaN b <;> rfl
 | false =>
  cases nb:isNaN b with
  | true=>rw[order_nan_right a b nb];rfl
  | false =>
   rw[order_num a b ha hb na nb]
   rcases Int.lt_trichotomy (stp a) (stp b)with h|h|h
   ·rw[cmp_lt h,decide_eq_false (by omega)];rfl
   ·rw[cmp_eq h,decide_eq_false (by omega)];rfl
   ·rw[cmp_gt h,decide_eq_true h];rfl
/-! ### Classes, signs -/
def cls (a:Nat):Int :=
 if(9218868437227405312:Int)<(mag a:Int)then 1 else if((mag a:Int)==9218868437227405312)then 2 else if((mag a:Int)==0)then 3 else if(mag a:Int)<4503599627370496 then 4 else 5
def cneg (a:Nat):Bool:=if(9218868437227405312:Int)<(mag a:Int)then false else neg a
def same (a b:Nat):Bool:=((a:Int)==(b:Int))||(isNaN a&&isNaN b)
theorem same_self (a:Nat):same a a=true:=by simp[same]
def sig (s:Bool) (m:Nat):Nat:=if s then m+9223372036854775808 else m
theorem or_sign (m:Nat) (h:m<9223372036854775808):bits .or .u64 (m:Int) 9223372036854775808=((m+9223372036854775808:Nat):Int):=by
 have e:=u64_or_nat m 9223372036854775808 (by omega) (by decide)
 rw[show((9223372036854775808:Nat):Int)=9223372036854775808 from rfl] at e
 rw[e]
 congr 1
 have:=Nat.two_pow_add_eq_or_of_lt (i:=63) h 1
 rw[Nat.or_comm,←(show 2^63*1=9223372036854775808 from rfl),←this,Nat.add_comm]
end Go.Fl64
/- What the small functions of the program answer, call by call: the bits, the sign, the magnitude of a float, whether it is a NaN. -/
namespace Go.Proofs.YtjiolfnchiioaaaGreatDoor.Ie
open Go.RowKit Go.Fl64
theorem run_bits (a:Nat) (w:World):(callFunc 77 #[.float .f64 a]).run Tryz.prog w=.ok (.value (.int .u64 a)) w :=
 run_callFunc_extern Tryz.func77 (e:=Extern.MathFloatBits.float64bits) (by kernel_rfl) (by kernel_rfl) (by kernel_rfl) (by kernel_rfl) #[.float .f64 a] w
theorem run_frombits (a:Int) (w:World):(callFunc 58 #[.int .u64 a]).run Tryz.prog w=.ok (.value (.float .f64 a.toNat)) w :=
 run_callFunc_extern Tryz.func58 (e:=Extern.MathFloatBits.float64frombits) (by kernel_rfl) (by kernel_rfl) (by kernel_rfl) (by kernel_rfl) #[.int .u64 a] w
theorem c32 (a:Nat) (ha:a<18446744073709551616) (w:World) :
  Calls Tryz.prog 113 #[.float .f64 a] w fun e w'=>e=.returned (.int .u64 (mag a))∧w'=w:=by
 have hb:=run_bits
 go_enter Tryz.func113,Tryz.ntmps113
 go_wp2
 go_ret
 refine⟨?_,rfl⟩
 show Ending.returned (.int .u64 (bits .andNot .u64 a 9223372036854775808))=_
 rw[andNot_sign a ha]
theorem c33 (a:Nat) (ha:a<18446744073709551616) (w:World) :
  Calls Tryz.prog 78 #[.float .f64 a] w fun e w'=>e=.returned (.bool (neg a))∧w'=w:=by
 have hb:=run_bits
 go_enter Tryz.func78,Tryz.ntmps78
 go_wp2
 go_ret
 refine⟨?_,rfl⟩
 show Ending.returned (.bool (decide (wrap64 (a:Int)<0)))=_
 rw[wrap_neg a ha]
theorem c9 (a:Nat) (ha:a<18446744073709551616) (w:World) :
  Calls Tryz.prog 112 #[.float .f64 a] w fun e w'=>e=.returned (.tuple #[.int .i64 (cls a),.bool (cneg a)])∧w'=w:=by
 have k32:=c32 a ha
 have k33:=c33 a ha
 unfold cls cneg
 generalize (mag a:Int)=m at k32 ⊢
 generalize neg a=s at k33 ⊢
 clear ha
 by_cases h1:(9218868437227405312:Int)<m
 ·simp only[h1,if_true]
  go_enter Tryz.func112,Tryz.ntmps112
  go_wp2_with (first|(go_at_call 113;refine(k32 _).mono ?_;rintro e w' ⟨rfl,rfl⟩)|(go_at_call 78;refine(k33 _).mono ?_;rintro e w' ⟨rfl,rfl⟩))
  go_ret2
  exact⟨rfl,rfl⟩
 ·cases h2:(m==9218868437227405312) with
  | true =>
   simp only[h1,if_true,if_false]
   go_enter Tryz.func112,Tryz.ntmps112
   go_wp2_with (first|(go_at_call 113;refine(k32 _).mono ?_;rintro e w' ⟨rfl,rfl⟩)|(go_at_call 78;refine(k33 _).mono ?_;rintro e w' ⟨rfl,rfl⟩))
   go_ret2
   exact⟨rfl,rfl⟩
  | false =>
   cases h3:(m==0) with
   | true =>
    simp only[h1,if_true,if_false,Bool.false_eq_true]
    go_enter Tryz.func112,Tryz.ntmps112
    go_wp2_with (first|(go_at_call 113;refine(k32 _).mono ?_;rintro e w' ⟨rfl,rfl⟩)|(go_at_call 78;refine(k33 _).mono ?_;rintro e w' ⟨rfl,rfl⟩))
    go_ret2
    exact⟨rfl,rfl⟩
   | false =>
    by_cases h4:m<4503599627370496
    ·simp only[h1,h4,if_true,if_false,Bool.false_eq_true]
     go_enter Tryz.func112,Tryz.ntmps112
     go_wp2_with (first|(go_at_call 113;refine(k32 _).mono ?_;rintro e w' ⟨rfl,rfl⟩)|(go_at_call 78;refine(k33 _).mono ?_;rintro e w' ⟨rfl,rfl⟩))
     go_ret2
     exact⟨rfl,rfl⟩
    ·simp only[h1,h4,if_false,Bool.false_eq_true]
     go_enter Tryz.func112,Tryz.ntmps112
     go_wp2_with (first|(go_at_call 113;refine(k32 _).mono ?_;rintro e w' ⟨rfl,rfl⟩)|(go_at_call 78;refine(k33 _).mono ?_;rintro e w' ⟨rfl,rfl⟩))
     go_ret2
     exact⟨rfl,rfl⟩
end Go.Proofs.YtjiolfnchiioaaaGreatDoor.Ie
/- What the library's bits.Len64, LeadingZeros64 and TrailingZeros64 answer. -/
namespace Go.Proofs.YtjiolfnchiioaaaGreatDoor.Ie
open Go.RowKit Go.Fl64
theorem len_fin (x k p:Nat) (y:Int) (hk:k≤56) (hp:2^k=p) (hy:y.toNat=x / p) (hy0:x / p≠0) (hy1:x / p<256):wrap64 ((k:Int)+wrap64 (bitLen y.toNat:Int))=(bitLen x:Int):=by
 have e:=bitLen_shift x k (by rw[hp];exact hy0)
 have l:=bitLen_le8 (x / p) hy1
 rw[hp] at e
 rw[hy,e]
 generalize bitLen (x / p)=a at *
 unfold wrap64
 omega
theorem len_fin0 (x:Nat) (hx:x<256):wrap64 (wrap64 (bitLen (x:Int).toNat:Int))=(bitLen x:Int):=by
 have l:=bitLen_le8 x hx
 rw[Int.toNat_natCast]
 generalize bitLen x=a at *
 unfold wrap64
 omega
theorem c62 (x:Nat) (hx:x<18446744073709551616) (w:World) :
  Calls Tryz.prog 142 #[.int .u64 x] w fun e w'=>e=.returned (.int .i64 (bitLen x))∧w'=w:=by
 obtain⟨X,hX⟩:∃ X:Int,X=(x:Int):=⟨_,rfl⟩
 rw[←hX]
 have hX0:0≤X:=by omega
 have hX1:Hid (X<18446744073709551616):=(by omega:X<18446744073709551616)
 have hX':Hid (X=(x:Int)):=hX
 clear hX hx
 go_enter Tryz.func142,Tryz.ntmps142
 go_wp2
 all_goals go_ret
 all_goals (refine⟨congrArg Ending.returned (congrArg (Value.int IntKind.i64) ?_),rfl⟩)
 all_goals have h1:=hX1.out
 all_goals have h2:=hX'.out
 all_goals clear hX1 hX'
 all_goals subst h2
 all_goals rw[len8tab_get]
 ·exact len_fin x 56 72057594037927936 _ (by decide) (by decide) (by omega) (by omega) (by omega)
 ·exact len_fin x 48 281474976710656 _ (by decide) (by decide) (by omega) (by omega) (by omega)
 ·exact len_fin x 40 1099511627776 _ (by decide) (by decide) (by omega) (by omega) (by omega)
 ·exact len_fin x 32 4294967296 _ (by decide) (by decide) (by omega) (by omega) (by omega)
 ·exact len_fin x 24 16777216 _ (by decide) (by decide) (by omega) (by omega) (by omega)
 ·exact len_fin x 16 65536 _ (by decide) (by decide) (by omega) (by omega) (by omega)
 ·exact len_fin x 8 256 _ (by decide) (by decide) (by omega) (by omega) (by omega)
 ·exact len_fin0 x (by omega)
theorem bitLen_le64 (x:Nat) (hx:x<18446744073709551616):bitLen x≤64:=by
 unfold bitLen
 split
 ·omega
 ·rename_i h0
  have:=(Nat.log2_lt h0).2 (show x<2^64 from hx)
  omega
theorem c57 (x:Nat) (hx:x<18446744073709551616) (w:World) :
  Calls Tryz.prog 134 #[.int .u64 x] w fun e w'=>e=.returned (.int .i64 (64 - (bitLen x:Int)))∧w'=w:=by
 have k:=c62 x hx
 have hl:Hid ((bitLen x:Int)≤64):=by have:=bitLen_le64 x hx;exact(by omega:(bitLen x:Int)≤64)
 have h0:Hid (0≤(bitLen x:Int)):=(by omega:0≤(bitLen x:Int))
 clear hx
 generalize (bitLen x:Int)=b at k hl h0 ⊢
 go_enter Tryz.func134,Tryz.ntmps134
 go_wp2_with (first|(go_at_call 142;refine(k _).mono ?_;rintro e w' ⟨rfl,rfl⟩))
 go_ret
 refine⟨?_,rfl⟩
 show Ending.returned (.int .i64 (wrap64 (64 - b)))=_
 have hl:=hl.out
 have h0:=h0.out
 rw[show wrap64 (64 - b)=64 - b by unfold wrap64;omega]
theorem tz_key (x a:Nat) (hx:x<18446744073709551616) (hx0:x≠0) (hlow:x &&& (18446744073709551616 - x)=a) :
  IntKind.u64.wrap (bits BinOp.and IntKind.u64 (x:Int) (IntKind.u64.wrap (-(x:Int)))*285870213051353865) / 288230376151711744=((a*285870213051353865 % 18446744073709551616 / 288230376151711744:Nat):Int):=by
 have e1:IntKind.u64.wrap (-(x:Int))=((18446744073709551616 - x:Nat):Int):=by rw[IntKind.wrap_u64];omega
 rw[e1,u64_and_nat x _ hx (by omega),hlow,IntKind.wrap_u64]
 omega
theorem c51x (x k idx:Nat) (w:World) (hx0:((x:Int)==0)=false)
  (key:IntKind.u64.wrap (bits BinOp.and IntKind.u64 (x:Int) (IntKind.u64.wrap (-(x:Int)))*285870213051353865) / 288230376151711744=(idx:Int))
  (hi:idx<64) (hk:k<64) (hcell:w.cell? ⟨1,idx,none⟩=some (.int .u8 k)) :
  Calls Tryz.prog 114 #[.int .u64 x] w fun e w'=>e=.returned (.int .i64 k)∧w'=w:=by
 go_enter Tryz.func114,Tryz.ntmps114
 go_wp2_with (simp only[key])
 go_ret
 exact⟨rfl,rfl⟩
def Tab (w:World):Prop:=∀ i,i<64→w.cell? ⟨1,i,none⟩=some (.int .u8 (Lib.deBruijn64tab.getD i 0:Nat))
theorem c51 (x:Nat) (hx:x<18446744073709551616) (hx0:x≠0) (w:World) (hT:Tab w) :
  Calls Tryz.prog 114 #[.int .u64 x] w fun e w'=>e=.returned (.int .i64 (Lib.ctz 64 x))∧w'=w:=by
 obtain⟨hlow,hk⟩:=Lib.lowest_bit 64 x hx0 hx
 obtain⟨hi,htab⟩:=Lib.deBruijn64_at _ hk
 have hcell:=hT _ hi
 rw[htab] at hcell
 exact c51x x _ _ w (by simp;omega) (tz_key x _ hx hx0 hlow) hi hk hcell
end Go.Proofs.YtjiolfnchiioaaaGreatDoor.Ie
/- What the program's rounding answers: a mantissa shifted and rounded, and the bits of m times 2 to the e, rounded. -/
namespace Go.Proofs.YtjiolfnchiioaaaGreatDoor.Ie
open Go.RowKit Go.Fl64
theorem c58_0 (m d K L F K1:Int) (o:Bool) (w:World) (h1:1≤d) (h2:d≤64) (hm:0≤m) (hK:m / 2^d.toNat=K) (hL:IntKind.u64.wrap (m - IntKind.u64.wrap (K*2^d.toNat))=L) (hF:IntKind.u64.wrap (2^(d.toNat - 1))=F) (ho:(bits BinOp.and IntKind.u64 K 1==1)=o) (hK1:IntKind.u64.wrap (K+1)=K1) :
  Calls Tryz.prog 135 #[.int .u64 m,.int .i64 d,.int .i64 0] w fun e w'=>e=.returned (.int .u64 K)∧w'=w:=by
 go_enter Tryz.func135,Tryz.ntmps135
 go_wp2
 go_ret
 exact⟨rfl,rfl⟩
theorem c58_1 (m d K L F K1:Int) (o:Bool) (w:World) (h1:1≤d) (h2:d≤64) (hm:0≤m) (hK:m / 2^d.toNat=K) (hL:IntKind.u64.wrap (m - IntKind.u64.wrap (K*2^d.toNat))=L) (hF:IntKind.u64.wrap (2^(d.toNat - 1))=F) (ho:(bits BinOp.and IntKind.u64 K 1==1)=o) (hK1:IntKind.u64.wrap (K+1)=K1) :
  Calls Tryz.prog 135 #[.int .u64 m,.int .i64 d,.int .i64 1] w fun e w'=>e=.returned (.int .u64 (if decide (F<L)||((L==F)&&o)then K1 else K))∧w'=w:=by
 by_cases h3:F<L
 ·rw[decide_eq_true h3]
  simp only[Bool.true_or,if_true]
  go_enter Tryz.func135,Tryz.ntmps135
  go_wp2
  go_ret
  exact⟨rfl,rfl⟩
 ·rw[decide_eq_false h3]
  cases h4:(L==F) with
  | true =>
   cases o with
   | true =>
    simp only[Bool.false_or,Bool.true_and,if_true]
    go_enter Tryz.func135,Tryz.ntmps135
    go_wp2
    go_ret
    exact⟨rfl,rfl⟩
   | false =>
    simp only[Bool.false_or,Bool.true_and,if_false,Bool.false_eq_true]
    go_enter Tryz.func135,Tryz.ntmps135
    go_wp2
    go_ret
    exact⟨rfl,rfl⟩
  | false =>
   simp only[Bool.false_or,Bool.false_and,if_false,Bool.false_eq_true]
   go_enter Tryz.func135,Tryz.ntmps135
   go_wp2
   go_ret
   exact⟨rfl,rfl⟩
theorem c58_2 (m d K L F K1:Int) (o:Bool) (w:World) (h1:1≤d) (h2:d≤64) (hm:0≤m) (hK:m / 2^d.toNat=K) (hL:IntKind.u64.wrap (m - IntKind.u64.wrap (K*2^d.toNat))=L) (hF:IntKind.u64.wrap (2^(d.toNat - 1))=F) (ho:(bits BinOp.and IntKind.u64 K 1==1)=o) (hK1:IntKind.u64.wrap (K+1)=K1) :
  Calls Tryz.prog 135 #[.int .u64 m,.int .i64 d,.int .i64 2] w fun e w'=>e=.returned (.int .u64 (if(L != 0)then K1 else K))∧w'=w:=by
 cases h3:(L != 0) with
 | true =>
  simp only[if_true]
  go_enter Tryz.func135,Tryz.ntmps135
  go_wp2
  go_ret
  exact⟨rfl,rfl⟩
 | false =>
  simp only[if_false,Bool.false_eq_true]
  go_enter Tryz.func135,Tryz.ntmps135
  go_wp2
  go_ret
  exact⟨rfl,rfl⟩
theorem c58_0b (m d:Int) (w:World) (h2:64<d) :
  Calls Tryz.prog 135 #[.int .u64 m,.int .i64 d,.int .i64 0] w fun e w'=>e=.returned (.int .u64 0)∧w'=w:=by
 go_enter Tryz.func135,Tryz.ntmps135
 go_wp2
 go_ret
 exact⟨rfl,rfl⟩
theorem c58_1b (m d:Int) (w:World) (h2:64<d) :
  Calls Tryz.prog 135 #[.int .u64 m,.int .i64 d,.int .i64 1] w fun e w'=>e=.returned (.int .u64 0)∧w'=w:=by
 go_enter Tryz.func135,Tryz.ntmps135
 go_wp2
 go_ret
 exact⟨rfl,rfl⟩
theorem c58_2b (m d:Int) (w:World) (h2:64<d) :
  Calls Tryz.prog 135 #[.int .u64 m,.int .i64 d,.int .i64 2] w fun e w'=>e=.returned (.int .u64 1)∧w'=w:=by
 go_enter Tryz.func135,Tryz.ntmps135
 go_wp2
 go_ret
 exact⟨rfl,rfl⟩
def rup (M d:Nat) (way:Int):Bool :=
 if way=1 then decide (2^d<2*(M % 2^d))||(decide (2*(M % 2^d)=2^d)&&decide (M / 2^d % 2=1))else if way=2 then decide (M % 2^d≠0)else false
def rnd (M d:Nat) (way:Int):Nat:=if rup M d way then M / 2^d+1 else M / 2^d
theorem rnd_big (M d:Nat) (way:Int) (hM:M<18446744073709551616) (hM0:M≠0) (hd:64<d):rnd M d way=if way=2 then 1 else 0:=by
 have hp:2^65≤2^d:=Nat.pow_le_pow_right (by decide) hd
 have hp':36893488147419103232≤2^d:=hp
 have e1:M % 2^d=M:=Nat.mod_eq_of_lt (by omega)
 have e2:M / 2^d=0:=Nat.div_eq_of_lt (by omega)
 unfold rnd rup
 rw[e1,e2]
 by_cases h1:way=1
 ·subst h1
  simp
  omega
 ·rw[if_neg h1]
  by_cases h2:way=2
  ·subst h2
   simp[hM0]
  ·rw[if_neg h2,if_neg h2]
   rfl
theorem c58 (M d:Nat) (way:Int) (hM:M<18446744073709551616) (hM0:M≠0) (hd:1≤d) (hw:way=0∨way=1∨way=2) (w:World) :
  Calls Tryz.prog 135 #[.int .u64 M,.int .i64 d,.int .i64 way] w fun e w'=>e=.returned (.int .u64 (rnd M d way))∧w'=w:=by
 by_cases hb:64<d
 ·rw[rnd_big M d way hM hM0 hb]
  rcases hw with rfl|rfl|rfl
  ·exact c58_0b M d w (by omega)
  ·exact c58_1b M d w (by omega)
  ·exact c58_2b M d w (by omega)
 ·have hp:0<2^d:=Nat.two_pow_pos d
  have hdm:2^d*(M / 2^d)+M % 2^d=M:=Nat.div_add_mod M (2^d)
  have hml:M % 2^d<2^d:=Nat.mod_lt _ hp
  have e1:2^d=2*2^(d - 1):=by rw[←Nat.pow_succ',show(d - 1).succ=d by omega]
  have hpb:2^(d - 1)≤9223372036854775808:=(show 2^(d - 1)≤2^63 from Nat.pow_le_pow_right (by decide) (by omega))
  have cK:(M:Int) / 2^(d:Int).toNat=((M / 2^d:Nat):Int):=by rw[Int.toNat_natCast];simp
  have cL:IntKind.u64.wrap ((M:Int) - IntKind.u64.wrap (((M / 2^d:Nat):Int)*2^(d:Int).toNat))=((M % 2^d:Nat):Int):=by
   have e2:((M / 2^d:Nat):Int)*2^(d:Int).toNat=((2^d*(M / 2^d):Nat):Int):=by
    rw[Int.toNat_natCast,Int.natCast_mul,Int.mul_comm]
    simp
   rw[e2,IntKind.wrap_u64,IntKind.wrap_u64]
   omega
  have cF:IntKind.u64.wrap (2^((d:Int).toNat - 1))=((2^(d - 1):Nat):Int):=by
   have e2:(2:Int)^((d:Int).toNat - 1)=((2^(d - 1):Nat):Int):=by rw[Int.toNat_natCast];simp
   rw[e2,IntKind.wrap_u64]
   omega
  have hkb:M / 2^d≤9223372036854775808:=by
   have:M / 2^d≤M / 2:=Nat.div_le_div_left (by omega) (by decide)
   omega
  have co:(bits BinOp.and IntKind.u64 ((M / 2^d:Nat):Int) 1==1)=decide (M / 2^d % 2=1):=by
   have e:=u64_and_nat (M / 2^d) 1 (by omega) (by decide)
   rw[show((1:Nat):Int)=1 from rfl] at e
   rw[e,Nat.and_one_is_mod,Bool.beq_eq_decide_eq]
   congr 1
   apply propext
   omega
  have cK1:IntKind.u64.wrap (((M / 2^d:Nat):Int)+1)=((M / 2^d+1:Nat):Int):=by
   clear cL cF cK co hdm hml
   generalize M / 2^d=q at hkb ⊢
   rw[IntKind.wrap_u64]
   omega
  rcases hw with rfl|rfl|rfl
  ·have:=c58_0 M d _ _ _ _ _ w (by omega) (by omega) (by omega) cK cL cF co cK1
   exact this
  ·have:=c58_1 M d _ _ _ _ _ w (by omega) (by omega) (by omega) cK cL cF co cK1
   have e3:(if decide (((2^(d - 1):Nat):Int)<((M % 2^d:Nat):Int))||((((M % 2^d:Nat):Int)==((2^(d - 1):Nat):Int))&&decide (M / 2^d % 2=1)) then((M / 2^d+1:Nat):Int) else((M / 2^d:Nat):Int))=(rnd M d 1:Int):=by
    unfold rnd rup
    rw[if_pos rfl]
    have e4:decide (((2^(d - 1):Nat):Int)<((M % 2^d:Nat):Int))=decide (2^d<2*(M % 2^d)):=by
     congr 1;apply propext;omega
    have e5:(((M % 2^d:Nat):Int)==((2^(d - 1):Nat):Int))=decide (2*(M % 2^d)=2^d):=by
     rw[Bool.beq_eq_decide_eq];congr 1;apply propext;omega
    rw[e4,e5]
    split <;> rfl
   rw[e3] at this
   exact this
  ·have:=c58_2 M d _ _ _ _ _ w (by omega) (by omega) (by omega) cK cL cF co cK1
   have e3:(if((((M % 2^d:Nat):Int)) != 0) then((M / 2^d+1:Nat):Int) else((M / 2^d:Nat):Int))=(rnd M d 2:Int):=by
    unfold rnd rup
    rw[if_neg (show ¬ (2:Int)=1 by decide),if_pos (show(2:Int)=2 from rfl)]
    have e4:((((M % 2^d:Nat):Int)) != 0)=decide (M % 2^d≠0):=by
     rw[bne,Bool.beq_eq_decide_eq,←decide_not];congr 1;apply propext;omega
    rw[e4]
    split <;> rfl
   rw[e3] at this
   exact this
end Go.Proofs.YtjiolfnchiioaaaGreatDoor.Ie
/- What the program's roundBody answers: the bits of m times 2 to the e, rounded inward, to the nearest or outward. -/
namespace Go.Proofs.YtjiolfnchiioaaaGreatDoor.Ie
open Go.RowKit Go.Fl64
def nz (m:Nat):Nat:=64 - bitLen m
def tp (m:Nat):Nat:=m*2^nz m
def pl (m:Nat) (e:Int):Int:=if e - (nz m:Int)+63 - 52 < -1074 then -1074 else e - (nz m:Int)+63 - 52
def raw (m:Nat) (e way:Int):Int:=(pl m e+1074)*4503599627370496+(rnd (tp m) (pl m e - (e - (nz m:Int))).toNat way:Int)
def bod (m:Nat) (e way:Int):Int:=if raw m e way<9218868437227405312 then raw m e way else if way==0 then 9218868437227405311 else 9218868437227405312
theorem nz_facts (m:Nat) (hm:m<18446744073709551616) (h0:m≠0):nz m≤63∧9223372036854775808≤tp m∧tp m<18446744073709551616:=by
 obtain⟨h1,h2⟩:=bitLen_spec m
 have h2:=h2 h0
 have h3:=bitLen_le64 m hm
 have h4:bitLen m≠0:=by unfold bitLen;rw[if_neg h0];omega
 have hp:0<2^nz m:=Nat.two_pow_pos _
 have e1:2^bitLen m*2^nz m=18446744073709551616:=by
  rw[←Nat.pow_add,show bitLen m+nz m=64 by unfold nz;omega]
 have e2:2^(bitLen m - 1)*2^nz m=9223372036854775808:=by
  rw[←Nat.pow_add,show bitLen m - 1+nz m=63 by unfold nz;omega]
 refine⟨by unfold nz;omega,?_,?_⟩
 ·rw[←e2];exact Nat.mul_le_mul_right _ h2
 ·rw[←e1];exact(Nat.mul_lt_mul_right hp).2 h1
theorem rnd_le (M d:Nat) (way:Int) (hM:M<18446744073709551616) (hd:11≤d):rnd M d way≤9007199254740992:=by
 have hp:2^11≤2^d:=Nat.pow_le_pow_right (by decide) hd
 have h1:M / 2^d≤M / 2^11:=Nat.div_le_div_left hp (by decide)
 have h2:M / 2^11<9007199254740992:=by omega
 unfold rnd
 split <;> omega
theorem drop_ge (m:Nat) (e:Int):11≤(pl m e - (e - (nz m:Int))).toNat:=by
 unfold pl
 split <;> omega
theorem raw_bounds (m:Nat) (e way:Int) (hm:m<18446744073709551616) (h0:m≠0):(pl m e+1074)*4503599627370496≤raw m e way∧raw m e way≤(pl m e+1076)*4503599627370496 ∧ -1074≤pl m e:=by
 have h1:=rnd_le (tp m) (pl m e - (e - (nz m:Int))).toNat way (nz_facts m hm h0).2.2 (drop_ge m e)
 unfold raw
 refine⟨by omega,by omega,?_⟩
 unfold pl
 split <;> omega
theorem bod_bounds (m:Nat) (e way:Int) (hm:m<18446744073709551616) (h0:m≠0):0≤bod m e way∧bod m e way≤9218868437227405312:=by
 have h1:=raw_bounds m e way hm h0
 unfold bod
 split
 ·omega
 ·split <;> omega
theorem bod_clamp (m:Nat) (e way:Int) (hm:m<18446744073709551616) (h0:m≠0) :
  bod m (if 1100<(if e < -1200 then -1200 else e)then 1100 else(if e < -1200 then -1200 else e)) way=bod m e way:=by
 obtain⟨hz,ht0,ht1⟩:=nz_facts m hm h0
 by_cases h1:e < -1200
 ·rw[if_pos h1,if_neg (by omega)]
  have p1:pl m (-1200) = -1074:=by unfold pl;rw[if_pos (by omega)]
  have p2:pl m e = -1074:=by unfold pl;rw[if_pos (by omega)]
  unfold bod raw
  rw[p1,p2,rnd_big _ _ way ht1 (by omega) (by omega),rnd_big _ _ way ht1 (by omega) (by omega)]
 ·rw[if_neg h1]
  by_cases h2:1100<e
  ·rw[if_pos h2]
   have q1:=(raw_bounds m 1100 way hm h0).1
   have q2:=(raw_bounds m e way hm h0).1
   have p1:pl m 1100=1100 - (nz m:Int)+63 - 52:=by unfold pl;rw[if_neg (by omega)]
   have p2:pl m e=e - (nz m:Int)+63 - 52:=by unfold pl;rw[if_neg (by omega)]
   unfold bod
   rw[if_neg (show ¬ raw m 1100 way<9218868437227405312 by omega),if_neg (show ¬ raw m e way<9218868437227405312 by omega)]
  ·rw[if_neg h2]
theorem c53x (m e way S Mn e0 E P B:Int) (R:Int→Int) (w:World) (hS0:0≤S) (hS1:S≤63) (hM:IntKind.u64.wrap (m*2^S.toNat)=Mn)
  (hc1:(if e < -1200 then -1200 else e)=e0) (hc2:(if 1100<e0 then 1100 else e0)=E) (hp:(if E - S+63 - 52 < -1074 then -1074 else E - S+63 - 52)=P)
  (hE0 : -1200≤E) (hE1:E≤1100) (hp0 : -1074≤P) (hp1:P≤1111)
  (hB:IntKind.u64.wrap ((P+1074)*4503599627370496+R (P - (E - S)))=B)
  (k57:∀ w,Calls Tryz.prog 134 #[.int .u64 m] w fun e w'=>e=.returned (.int .i64 S)∧w'=w)
  (k58:∀ w,Calls Tryz.prog 135 #[.int .u64 Mn,.int .i64 (P - (E - S)),.int .i64 way] w fun e w'=>e=.returned (.int .u64 (R (P - (E - S))))∧w'=w) :
  Calls Tryz.prog 124 #[.int .u64 m,.int .i64 e,.int .i64 way] w fun e w'=>e=.returned (.int .u64 (if B<9218868437227405312 then B else if way==0 then 9218868437227405311 else 9218868437227405312))∧w'=w:=by
 have kb:=run_bits
 by_cases h1:B<9218868437227405312
 ·rw[if_pos h1]
  go_enter Tryz.func124,Tryz.ntmps124
  go_wp2_with (first|(go_at_call 134;refine(k57 _).mono ?_;rintro e w' ⟨rfl,rfl⟩)|(go_at_call 135;refine(k58 _).mono ?_;rintro e w' ⟨rfl,rfl⟩))
  go_ret
  exact⟨rfl,rfl⟩
 ·rw[if_neg h1]
  cases h2:(way==0) with
  | true =>
   simp only[if_true]
   go_enter Tryz.func124,Tryz.ntmps124
   go_wp2_with (first|(go_at_call 134;refine(k57 _).mono ?_;rintro e w' ⟨rfl,rfl⟩)|(go_at_call 135;refine(k58 _).mono ?_;rintro e w' ⟨rfl,rfl⟩))
   go_ret
   exact⟨rfl,rfl⟩
  | false =>
   simp only[if_false,Bool.false_eq_true]
   go_enter Tryz.func124,Tryz.ntmps124
   go_wp2_with (first|(go_at_call 134;refine(k57 _).mono ?_;rintro e w' ⟨rfl,rfl⟩)|(go_at_call 135;refine(k58 _).mono ?_;rintro e w' ⟨rfl,rfl⟩))
   go_ret
   exact⟨rfl,rfl⟩
theorem c53 (m:Nat) (e way:Int) (hm:m<18446744073709551616) (h0:m≠0) (hw:way=0∨way=1∨way=2) (w:World) :
  Calls Tryz.prog 124 #[.int .u64 m,.int .i64 e,.int .i64 way] w fun r w'=>r=.returned (.int .u64 (bod m e way))∧w'=w:=by
 rw[←bod_clamp m e way hm h0]
 generalize hE:(if 1100<(if e < -1200 then -1200 else e)then 1100 else(if e < -1200 then -1200 else e))=E
 have hE0 : -1200≤E∧E≤1100:=by
  rw[←hE]
  by_cases h1:e < -1200
  ·rw[if_pos h1,if_neg (by omega)];omega
  ·rw[if_neg h1]
   by_cases h2:1100<e
   ·rw[if_pos h2];omega
   ·rw[if_neg h2];omega
 obtain⟨hz,ht0,ht1⟩:=nz_facts m hm h0
 have hb:=raw_bounds m E way hm h0
 have hd:=drop_ge m E
 have hl:=bitLen_le64 m hm
 have k57:=c57 m hm
 have ez:(64:Int) - (bitLen m:Int)=(nz m:Int):=by unfold nz;omega
 rw[ez] at k57
 have k58:=fun w=>c58 (tp m) (pl m E - (E - (nz m:Int))).toNat way ht1 (by omega) (by omega) hw w
 have ed:(((pl m E - (E - (nz m:Int))).toNat:Nat):Int)=pl m E - (E - (nz m:Int)):=by omega
 rw[ed] at k58
 have hM:IntKind.u64.wrap ((m:Int)*2^(nz m:Int).toNat)=((tp m:Nat):Int):=by
  have e1:(m:Int)*2^(nz m:Int).toNat=((tp m:Nat):Int):=by
   rw[Int.toNat_natCast]
   unfold tp
   simp
  rw[e1,IntKind.wrap_u64]
  omega
 have hP1:pl m E≤1111:=by unfold pl;split <;> omega
 have hB:IntKind.u64.wrap ((pl m E+1074)*4503599627370496+(fun D:Int=>(rnd (tp m) D.toNat way:Int)) (pl m E - (E - (nz m:Int))))=raw m E way:=by
  show IntKind.u64.wrap (raw m E way)=raw m E way
  rw[IntKind.wrap_u64]
  omega
 exact c53x m e way (nz m) (tp m) _ E (pl m E) (raw m E way) (fun D=>(rnd (tp m) D.toNat way:Int)) w (by omega) (by omega) hM rfl hE rfl hE0.1 hE0.2 hb.2.2 hP1 hB k57 k58
end Go.Proofs.YtjiolfnchiioaaaGreatDoor.Ie
/- What the program's Make answers: the float of m times 2 to the e, rounded by the mode. -/
namespace Go.Proofs.YtjiolfnchiioaaaGreatDoor.Ie
open Go.RowKit Go.Fl64
def wy (neg:Bool) (mode:Int):Int:=if mode=2 then 1 else if(neg==(mode==1))then 2 else 0
def mk (neg:Bool) (m:Nat) (e mode:Int) (nan:Nat):Nat:=if mode=1∨mode=2∨mode=3 then sig neg (if m=0 then 0 else(bod m e (wy neg mode)).toNat)else nan
theorem c52 (w:World):Calls Tryz.prog 83 #[] w fun e w'=>e=.returned (.float .f64 9221120237041090561)∧w'=w:=by
 have kf:=run_frombits
 go_enter Tryz.func83,Tryz.ntmps83
 go_wp2
 go_ret
 exact⟨rfl,rfl⟩
theorem c24_2true (m e B C:Int) (w:World) (hm:(m != 0)=true)
  (k53:∀ w,Calls Tryz.prog 124 #[.int .u64 m,.int .i64 e,.int .i64 1] w fun r w'=>r=.returned (.int .u64 B)∧w'=w) (hor:bits .or .u64 B 9223372036854775808=C) :
  Calls Tryz.prog 106 #[.bool true,.int .u64 m,.int .i64 e,.int .i64 2] w fun r w'=>r=.returned (.float .f64 C.toNat)∧w'=w:=by
 have kf:=run_frombits
 go_enter Tryz.func106,Tryz.ntmps106
 go_wp2_with (first|(go_at_call 124;refine(k53 _).mono ?_;rintro e w' ⟨rfl,rfl⟩))
 go_ret
 exact⟨rfl,rfl⟩
theorem c24_2truez (e C:Int) (w:World) (hor:bits .or .u64 0 9223372036854775808=C) :
  Calls Tryz.prog 106 #[.bool true,.int .u64 0,.int .i64 e,.int .i64 2] w fun r w'=>r=.returned (.float .f64 C.toNat)∧w'=w:=by
 have kf:=run_frombits
 go_enter Tryz.func106,Tryz.ntmps106
 go_wp2
 go_ret
 exact⟨rfl,rfl⟩
theorem c24_2false (m e B C:Int) (w:World) (hm:(m != 0)=true)
  (k53:∀ w,Calls Tryz.prog 124 #[.int .u64 m,.int .i64 e,.int .i64 1] w fun r w'=>r=.returned (.int .u64 B)∧w'=w) (hor:bits .or .u64 B 9223372036854775808=C) :
  Calls Tryz.prog 106 #[.bool false,.int .u64 m,.int .i64 e,.int .i64 2] w fun r w'=>r=.returned (.float .f64 B.toNat)∧w'=w:=by
 have kf:=run_frombits
 go_enter Tryz.func106,Tryz.ntmps106
 go_wp2_with (first|(go_at_call 124;refine(k53 _).mono ?_;rintro e w' ⟨rfl,rfl⟩))
 go_ret
 exact⟨rfl,rfl⟩
theorem c24_2falsez (e C:Int) (w:World) (hor:bits .or .u64 0 9223372036854775808=C) :
  Calls Tryz.prog 106 #[.bool false,.int .u64 0,.int .i64 e,.int .i64 2] w fun r w'=>r=.returned (.float .f64 0)∧w'=w:=by
 have kf:=run_frombits
 go_enter Tryz.func106,Tryz.ntmps106
 go_wp2
 go_ret
 exact⟨rfl,rfl⟩
theorem c24_1true (m e B C:Int) (w:World) (hm:(m != 0)=true)
  (k53:∀ w,Calls Tryz.prog 124 #[.int .u64 m,.int .i64 e,.int .i64 2] w fun r w'=>r=.returned (.int .u64 B)∧w'=w) (hor:bits .or .u64 B 9223372036854775808=C) :
  Calls Tryz.prog 106 #[.bool true,.int .u64 m,.int .i64 e,.int .i64 1] w fun r w'=>r=.returned (.float .f64 C.toNat)∧w'=w:=by
 have kf:=run_frombits
 go_enter Tryz.func106,Tryz.ntmps106
 go_wp2_with (first|(go_at_call 124;refine(k53 _).mono ?_;rintro e w' ⟨rfl,rfl⟩))
 go_ret
 exact⟨rfl,rfl⟩
theorem c24_1truez (e C:Int) (w:World) (hor:bits .or .u64 0 9223372036854775808=C) :
  Calls Tryz.prog 106 #[.bool true,.int .u64 0,.int .i64 e,.int .i64 1] w fun r w'=>r=.returned (.float .f64 C.toNat)∧w'=w:=by
 have kf:=run_frombits
 go_enter Tryz.func106,Tryz.ntmps106
 go_wp2
 go_ret
 exact⟨rfl,rfl⟩
theorem c24_3false (m e B C:Int) (w:World) (hm:(m != 0)=true)
  (k53:∀ w,Calls Tryz.prog 124 #[.int .u64 m,.int .i64 e,.int .i64 2] w fun r w'=>r=.returned (.int .u64 B)∧w'=w) (hor:bits .or .u64 B 9223372036854775808=C) :
  Calls Tryz.prog 106 #[.bool false,.int .u64 m,.int .i64 e,.int .i64 3] w fun r w'=>r=.returned (.float .f64 B.toNat)∧w'=w:=by
 have kf:=run_frombits
 go_enter Tryz.func106,Tryz.ntmps106
 go_wp2_with (first|(go_at_call 124;refine(k53 _).mono ?_;rintro e w' ⟨rfl,rfl⟩))
 go_ret
 exact⟨rfl,rfl⟩
theorem c24_3falsez (e C:Int) (w:World) (hor:bits .or .u64 0 9223372036854775808=C) :
  Calls Tryz.prog 106 #[.bool false,.int .u64 0,.int .i64 e,.int .i64 3] w fun r w'=>r=.returned (.float .f64 0)∧w'=w:=by
 have kf:=run_frombits
 go_enter Tryz.func106,Tryz.ntmps106
 go_wp2
 go_ret
 exact⟨rfl,rfl⟩
theorem c24_1false (m e B C:Int) (w:World) (hm:(m != 0)=true)
  (k53:∀ w,Calls Tryz.prog 124 #[.int .u64 m,.int .i64 e,.int .i64 0] w fun r w'=>r=.returned (.int .u64 B)∧w'=w) (hor:bits .or .u64 B 9223372036854775808=C) :
  Calls Tryz.prog 106 #[.bool false,.int .u64 m,.int .i64 e,.int .i64 1] w fun r w'=>r=.returned (.float .f64 B.toNat)∧w'=w:=by
 have kf:=run_frombits
 go_enter Tryz.func106,Tryz.ntmps106
 go_wp2_with (first|(go_at_call 124;refine(k53 _).mono ?_;rintro e w' ⟨rfl,rfl⟩))
 go_ret
 exact⟨rfl,rfl⟩
theorem c24_1falsez (e C:Int) (w:World) (hor:bits .or .u64 0 9223372036854775808=C) :
  Calls Tryz.prog 106 #[.bool false,.int .u64 0,.int .i64 e,.int .i64 1] w fun r w'=>r=.returned (.float .f64 0)∧w'=w:=by
 have kf:=run_frombits
 go_enter Tryz.func106,Tryz.ntmps106
 go_wp2
 go_ret
 exact⟨rfl,rfl⟩
theorem c24_3true (m e B C:Int) (w:World) (hm:(m != 0)=true)
  (k53:∀ w,Calls Tryz.prog 124 #[.int .u64 m,.int .i64 e,.int .i64 0] w fun r w'=>r=.returned (.int .u64 B)∧w'=w) (hor:bits .or .u64 B 9223372036854775808=C) :
  Calls Tryz.prog 106 #[.bool true,.int .u64 m,.int .i64 e,.int .i64 3] w fun r w'=>r=.returned (.float .f64 C.toNat)∧w'=w:=by
 have kf:=run_frombits
 go_enter Tryz.func106,Tryz.ntmps106
 go_wp2_with (first|(go_at_call 124;refine(k53 _).mono ?_;rintro e w' ⟨rfl,rfl⟩))
 go_ret
 exact⟨rfl,rfl⟩
theorem c24_3truez (e C:Int) (w:World) (hor:bits .or .u64 0 9223372036854775808=C) :
  Calls Tryz.prog 106 #[.bool true,.int .u64 0,.int .i64 e,.int .i64 3] w fun r w'=>r=.returned (.float .f64 C.toNat)∧w'=w:=by
 have kf:=run_frombits
 go_enter Tryz.func106,Tryz.ntmps106
 go_wp2
 go_ret
 exact⟨rfl,rfl⟩
theorem c24_none (neg:Bool) (m e mode:Int) (w:World) (h1:(mode==1)=false) (h2:(mode==2)=false) (h3:(mode==3)=false) :
  Calls Tryz.prog 106 #[.bool neg,.int .u64 m,.int .i64 e,.int .i64 mode] w fun r w'=>r=.returned (.float .f64 9221120237041090561)∧w'=w:=by
 go_enter Tryz.func106,Tryz.ntmps106
 go_wp2_with (first|(go_at_call 83;refine(c52 _).mono ?_;rintro e w' ⟨rfl,rfl⟩))
 go_ret
 exact⟨rfl,rfl⟩
theorem c24 (neg:Bool) (m:Nat) (e mode:Int) (hm:m<18446744073709551616) (w:World) :
  Calls Tryz.prog 106 #[.bool neg,.int .u64 m,.int .i64 e,.int .i64 mode] w fun r w'=>r=.returned (.float .f64 (mk neg m e mode 9221120237041090561))∧w'=w:=by
 have hz:bits .or .u64 0 9223372036854775808=9223372036854775808:=by decide +kernel
 by_cases hmode:mode=1∨mode=2∨mode=3
 ·unfold mk
  rw[if_pos hmode]
  by_cases h0:m=0
  ·subst h0
   rw[if_pos rfl]
   rcases hmode with rfl|rfl|rfl <;> cases neg
   ·exact c24_1falsez e _ w hz
   ·exact c24_1truez e _ w hz
   ·exact c24_2falsez e _ w hz
   ·exact c24_2truez e _ w hz
   ·exact c24_3falsez e _ w hz
   ·exact c24_3truez e _ w hz
  ·rw[if_neg h0]
   have hb:((m:Int) != 0)=true:=by simp;omega
   have hor:∀ way,bits .or .u64 (bod m e way) 9223372036854775808=(((bod m e way).toNat+9223372036854775808:Nat):Int):=by
    intro way
    have h1:=bod_bounds m e way hm h0
    have h2:=or_sign (bod m e way).toNat (by omega)
    rw[show(((bod m e way).toNat:Nat):Int)=bod m e way by omega] at h2
    exact h2
   rcases hmode with rfl|rfl|rfl <;> cases neg
   ·exact c24_1false m e _ _ w hb (fun w=>c53 m e 0 hm h0 (by simp) w) (hor 0)
   ·exact c24_1true m e _ _ w hb (fun w=>c53 m e 2 hm h0 (by simp) w) (hor 2)
   ·exact c24_2false m e _ _ w hb (fun w=>c53 m e 1 hm h0 (by simp) w) (hor 1)
   ·exact c24_2true m e _ _ w hb (fun w=>c53 m e 1 hm h0 (by simp) w) (hor 1)
   ·exact c24_3false m e _ _ w hb (fun w=>c53 m e 2 hm h0 (by simp) w) (hor 2)
   ·exact c24_3true m e _ _ w hb (fun w=>c53 m e 0 hm h0 (by simp) w) (hor 0)
 ·unfold mk
  rw[if_neg hmode]
  exact c24_none neg m e mode w (by simp;omega) (by simp;omega) (by simp;omega)
end Go.Proofs.YtjiolfnchiioaaaGreatDoor.Ie
/- What the program's lastPlace and Split answer. -/
namespace Go.Proofs.YtjiolfnchiioaaaGreatDoor.Ie
open Go.RowKit Go.Fl64
def lp (a:Nat):Int := -1075+max 1 ((mag a / 4503599627370496:Nat):Int)
def mant (a:Nat):Nat:=if mag a<4503599627370496 then mag a else 4503599627370496+mag a % 4503599627370496
theorem c47 (a:Nat) (ha:a<18446744073709551616) (w:World) :
  Calls Tryz.prog 115 #[.float .f64 a] w fun e w'=>e=.returned (.int .i64 (lp a))∧w'=w:=by
 have k32:=c32 a ha
 have e:Hid (wrap64 (-1075+max 1 (wrap64 ((mag a:Int) / 4503599627370496)))=lp a):=by
  have:=mag_lt a
  show wrap64 (-1075+max 1 (wrap64 ((mag a:Int) / 4503599627370496)))=lp a
  unfold lp wrap64
  omega
 clear ha
 generalize (mag a:Int)=m at k32 e ⊢
 generalize lp a=r at e ⊢
 go_enter Tryz.func115,Tryz.ntmps115
 go_wp2_with (first|(go_at_call 113;refine(k32 _).mono ?_;rintro e w' ⟨rfl,rfl⟩))
 all_goals go_ret
 ·refine⟨?_,rfl⟩
  show Ending.returned (.int .i64 (wrap64 (-1075+wrap64 (m / 4503599627370496))))=_
  rw[←e.out,Int.max_eq_right (Int.le_of_lt (by assumption))]
 ·refine⟨?_,rfl⟩
  show Ending.returned (.int .i64 (wrap64 (-1074)))=_
  rw[←e.out,Int.max_eq_left (by assumption)]
  rfl
theorem results_tmp4 {fn:Func} {t u v x:Tmp} (h:fn.results = #[.tmp t,.tmp u,.tmp v,.tmp x]) (tmps:Array Value) (P:Program) (w:World) :
  (results fn tmps).run P w=.ok (.tuple #[tmps.getD t undef,tmps.getD u undef,tmps.getD v undef,tmps.getD x undef]) w:=by
 simp[results,h]
theorem cls1 {a:Nat} (h:9218868437227405312<mag a):cls a=1∧cneg a=false:=by
 unfold cls cneg
 rw[if_pos (by omega),if_pos (by omega)]
 exact⟨rfl,rfl⟩
theorem cls2 {a:Nat} (h:mag a=9218868437227405312):cls a=2∧cneg a=neg a:=by
 unfold cls cneg
 rw[h]
 exact⟨rfl,rfl⟩
theorem cls3 {a:Nat} (h:mag a=0):cls a=3∧cneg a=neg a:=by
 unfold cls cneg
 rw[h]
 exact⟨rfl,rfl⟩
theorem int_beq_false {x y:Int} (h:x≠y):(x==y)=false:=by simpa using h
theorem cls4 {a:Nat} (h0:mag a≠0) (h:mag a<4503599627370496):cls a=4∧cneg a=neg a:=by
 have e1:¬ (9218868437227405312:Int)<(mag a:Int):=by omega
 have e2:((mag a:Int)==9218868437227405312)=false:=int_beq_false (by omega)
 have e3:((mag a:Int)==0)=false:=int_beq_false (by omega)
 have e4:(mag a:Int)<4503599627370496:=by omega
 refine⟨?_,if_neg e1⟩
 simp only[cls,e1,e2,e3,e4,if_true,if_false,Bool.false_eq_true]
theorem cls5 {a:Nat} (h:4503599627370496≤mag a) (h1:mag a<9218868437227405312):cls a=5∧cneg a=neg a:=by
 have e1:¬ (9218868437227405312:Int)<(mag a:Int):=by omega
 have e2:((mag a:Int)==9218868437227405312)=false:=int_beq_false (by omega)
 have e3:((mag a:Int)==0)=false:=int_beq_false (by omega)
 have e4:¬ (mag a:Int)<4503599627370496:=by omega
 refine⟨?_,if_neg e1⟩
 simp only[cls,e1,e2,e3,e4,if_false,Bool.false_eq_true]
def sM (a:Nat):Int:=if 9218868437227405312≤mag a then 0 else if mag a=0 then 0 else(mant a:Int) / 2^Lib.ctz 64 (mant a)
def sE (a:Nat):Int:=if 9218868437227405312≤mag a then 0 else if mag a=0 then 0 else lp a+(Lib.ctz 64 (mant a):Int)
def sN (a:Nat):Bool:=if 9218868437227405312≤mag a then false else neg a
def sO (a:Nat):Bool:=if 9218868437227405312≤mag a then false else true
theorem c22_12 (a:Nat) (w:World) (s:Bool) (M c:Int) (hc:c=1∨c=2)
  (k9:∀ w,Calls Tryz.prog 112 #[.float .f64 a] w fun e w'=>e=.returned (.tuple #[.int .i64 c,.bool s])∧w'=w)
  (k32:∀ w,Calls Tryz.prog 113 #[.float .f64 a] w fun e w'=>e=.returned (.int .u64 M)∧w'=w) :
  Calls Tryz.prog 94 #[.float .f64 a] w fun e w'=>e=.returned (.tuple #[.int .u64 0,.int .i64 0,.bool false,.bool false])∧w'=w:=by
 rcases hc with rfl|rfl
 ·go_enter Tryz.func94,Tryz.ntmps94
  go_wp2_with (first|(go_at_call 112;refine(k9 _).mono ?_;rintro e w' ⟨rfl,rfl⟩)|(go_at_call 113;refine(k32 _).mono ?_;rintro e w' ⟨rfl,rfl⟩))
  refine bodyPost_ret (results_tmp4 rfl _ _ _) rfl ?_
  exact⟨rfl,rfl⟩
 ·go_enter Tryz.func94,Tryz.ntmps94
  go_wp2_with (first|(go_at_call 112;refine(k9 _).mono ?_;rintro e w' ⟨rfl,rfl⟩)|(go_at_call 113;refine(k32 _).mono ?_;rintro e w' ⟨rfl,rfl⟩))
  refine bodyPost_ret (results_tmp4 rfl _ _ _) rfl ?_
  exact⟨rfl,rfl⟩
theorem c22_3 (a:Nat) (w:World) (s:Bool) (M:Int)
  (k9:∀ w,Calls Tryz.prog 112 #[.float .f64 a] w fun e w'=>e=.returned (.tuple #[.int .i64 3,.bool s])∧w'=w)
  (k32:∀ w,Calls Tryz.prog 113 #[.float .f64 a] w fun e w'=>e=.returned (.int .u64 M)∧w'=w) :
  Calls Tryz.prog 94 #[.float .f64 a] w fun e w'=>e=.returned (.tuple #[.int .u64 0,.int .i64 0,.bool s,.bool true])∧w'=w:=by
 go_enter Tryz.func94,Tryz.ntmps94
 go_wp2_with (first|(go_at_call 112;refine(k9 _).mono ?_;rintro e w' ⟨rfl,rfl⟩)|(go_at_call 113;refine(k32 _).mono ?_;rintro e w' ⟨rfl,rfl⟩))
 refine bodyPost_ret (results_tmp4 rfl _ _ _) rfl ?_
 exact⟨rfl,rfl⟩
theorem c22_4 (a:Nat) (w:World) (s:Bool) (x:Nat) (T L M:Int)
  (k9:∀ w,Calls Tryz.prog 112 #[.float .f64 a] w fun e w'=>e=.returned (.tuple #[.int .i64 4,.bool s])∧w'=w)
  (k32:∀ w,Calls Tryz.prog 113 #[.float .f64 a] w fun e w'=>e=.returned (.int .u64 M)∧w'=w)
  (k47:∀ w,Calls Tryz.prog 115 #[.float .f64 a] w fun e w'=>e=.returned (.int .i64 L)∧w'=w)
  (k51:∀ w,Tab w→Calls Tryz.prog 114 #[.int .u64 x] w fun e w'=>e=.returned (.int .i64 T)∧w'=w)
  (hand:bits .and .u64 M 4503599627370495=(x:Int)) (hT0:0≤T) (hT1:T<64) (hT:Tab w) :
  Calls Tryz.prog 94 #[.float .f64 a] w fun e w'=>e=.returned (.tuple #[.int .u64 ((x:Int) / 2^T.toNat),.int .i64 (wrap64 (L+T)),.bool s,.bool true])∧∃ n,w'=w.drewN n:=by
 have KT:Hid (Tab w):=hT
 clear hT
 go_enter Tryz.func94,Tryz.ntmps94
 go_wp2_with (first|(go_at_call 112;refine(k9 _).mono ?_;rintro e w' ⟨rfl,rfl⟩)|(go_at_call 113;refine(k32 _).mono ?_;rintro e w' ⟨rfl,rfl⟩)|(go_at_call 114;refine(k51 _ KT.out).mono ?_;rintro e w' ⟨rfl,rfl⟩))
 go_quiet (first|(go_at_call 115;refine Calls.quiet_of_same (k47 _)))
 go_wp2
 refine bodyPost_ret (results_tmp4 rfl _ _ _) rfl ?_
 exact⟨rfl,_,rfl⟩
theorem c22_5 (a:Nat) (w:World) (s:Bool) (x:Nat) (T L M m:Int)
  (k9:∀ w,Calls Tryz.prog 112 #[.float .f64 a] w fun e w'=>e=.returned (.tuple #[.int .i64 5,.bool s])∧w'=w)
  (k32:∀ w,Calls Tryz.prog 113 #[.float .f64 a] w fun e w'=>e=.returned (.int .u64 M)∧w'=w)
  (k47:∀ w,Calls Tryz.prog 115 #[.float .f64 a] w fun e w'=>e=.returned (.int .i64 L)∧w'=w)
  (k51:∀ w,Tab w→Calls Tryz.prog 114 #[.int .u64 x] w fun e w'=>e=.returned (.int .i64 T)∧w'=w)
  (hand:bits .and .u64 M 4503599627370495=m) (hor:bits .or .u64 m 4503599627370496=(x:Int)) (hT0:0≤T) (hT1:T<64) (hT:Tab w) :
  Calls Tryz.prog 94 #[.float .f64 a] w fun e w'=>e=.returned (.tuple #[.int .u64 ((x:Int) / 2^T.toNat),.int .i64 (wrap64 (L+T)),.bool s,.bool true])∧∃ n,w'=w.drewN n:=by
 have KT:Hid (Tab w):=hT
 clear hT
 go_enter Tryz.func94,Tryz.ntmps94
 go_wp2_with (first|(go_at_call 112;refine(k9 _).mono ?_;rintro e w' ⟨rfl,rfl⟩)|(go_at_call 113;refine(k32 _).mono ?_;rintro e w' ⟨rfl,rfl⟩)|(go_at_call 114;refine(k51 _ KT.out).mono ?_;rintro e w' ⟨rfl,rfl⟩))
 go_quiet (first|(go_at_call 115;refine Calls.quiet_of_same (k47 _)))
 go_wp2
 refine bodyPost_ret (results_tmp4 rfl _ _ _) rfl ?_
 exact⟨rfl,_,rfl⟩
theorem and_mant (x:Nat) (h:x<18446744073709551616):bits .and .u64 (x:Int) 4503599627370495=((x % 4503599627370496:Nat):Int):=by
 have e:=u64_and_nat x 4503599627370495 h (by decide)
 rw[show((4503599627370495:Nat):Int)=4503599627370495 from rfl] at e
 rw[e]
 congr 1
 have:=Nat.and_two_pow_sub_one_eq_mod x 52
 simpa using this
theorem or_mant (x:Nat) (h:x<4503599627370496):bits .or .u64 (x:Int) 4503599627370496=((4503599627370496+x:Nat):Int):=by
 have e:=u64_or_nat x 4503599627370496 (by omega) (by decide)
 rw[show((4503599627370496:Nat):Int)=4503599627370496 from rfl] at e
 rw[e]
 congr 1
 have:=Nat.two_pow_add_eq_or_of_lt (i:=52) h 1
 rw[Nat.or_comm,←(show 2^52*1=4503599627370496 from rfl),←this]
theorem mant_bound (a:Nat):mant a<9007199254740992:=by
 unfold mant
 split <;> omega
theorem mant_ne {a:Nat} (h:mag a≠0):mant a≠0:=by
 unfold mant
 split <;> omega
theorem lp_bound (a:Nat) : -1074≤lp a∧lp a≤972:=by
 have:=mag_lt a
 unfold lp
 omega
theorem c22 (a:Nat) (ha:a<18446744073709551616) (w:World) (hT:Tab w) :
  Calls Tryz.prog 94 #[.float .f64 a] w fun e w'=>e=.returned (.tuple #[.int .u64 (sM a),.int .i64 (sE a),.bool (sN a),.bool (sO a)])∧∃ n,w'=w.drewN n:=by
 have k9:=c9 a ha
 have k32:=c32 a ha
 have k47:=c47 a ha
 by_cases h1:9218868437227405312≤mag a
 ·unfold sM sE sN sO
  rw[if_pos h1,if_pos h1,if_pos h1,if_pos h1]
  by_cases h2:mag a=9218868437227405312
  ·rw[(cls2 h2).1] at k9
   exact(c22_12 a w _ _ 2 (.inr rfl) k9 k32).mono fun e w' h=>⟨h.1,0,h.2⟩
  ·rw[(cls1 (a:=a) (by omega)).1] at k9
   exact(c22_12 a w _ _ 1 (.inl rfl) k9 k32).mono fun e w' h=>⟨h.1,0,h.2⟩
 ·unfold sM sE sN sO
  rw[if_neg h1,if_neg h1,if_neg h1,if_neg h1]
  by_cases h2:mag a=0
  ·rw[if_pos h2,if_pos h2]
   rw[(cls3 h2).1,(cls3 h2).2] at k9
   exact(c22_3 a w _ _ k9 k32).mono fun e w' h=>⟨h.1,0,h.2⟩
  ·rw[if_neg h2,if_neg h2]
   have hm:=mant_ne h2
   have hb:=mant_bound a
   have hl:=lp_bound a
   obtain⟨_,hk⟩:=Lib.lowest_bit 64 (mant a) hm (by omega)
   have k51:=fun w hT=>c51 (mant a) (by omega) hm w hT
   have ew:wrap64 (lp a+(Lib.ctz 64 (mant a):Int))=lp a+(Lib.ctz 64 (mant a):Int):=by unfold wrap64;omega
   by_cases h3:mag a<4503599627370496
   ·rw[(cls4 h2 h3).1,(cls4 h2 h3).2] at k9
    have e:mant a=mag a:=if_pos h3
    have:=c22_4 a w _ (mant a) (Lib.ctz 64 (mant a)) (lp a) (mag a) k9 k32 k47 k51 (by rw[and_mant _ (by omega),e];omega) (by omega) (by omega) hT
    rw[ew,Int.toNat_natCast] at this
    exact this
   ·rw[(cls5 (a:=a) (by omega) (by omega)).1,(cls5 (a:=a) (by omega) (by omega)).2] at k9
    have e:mant a=4503599627370496+mag a % 4503599627370496:=if_neg h3
    have:=c22_5 a w _ (mant a) (Lib.ctz 64 (mant a)) (lp a) (mag a) _ k9 k32 k47 k51 (and_mant _ (by omega)) (by rw[or_mant _ (by omega),e]) (by omega) (by omega) hT
    rw[ew,Int.toNat_natCast] at this
    exact this
end Go.Proofs.YtjiolfnchiioaaaGreatDoor.Ie
namespace Go.Proofs.YtjiolfnchiioaaaGreatDoor
open Go.RowKit Go.Fl64
theorem c9_1 (a m:Nat) (e:Int) (s:Bool) (w:World) (hT:Tab32 w) (hm:m<18446744073709551616) (he1 : -4000000≤e) (he2:e≤4000000) (hnn:(FloatKind.f64.format.order a a != some Ordering.eq)=false)
  (k55:∀ W,Bw w W→Calls Tryz.prog 94 #[.float .f64 a] W fun r w'=>r=.returned (.tuple #[.int .u64 m,.int .i64 e,.bool s,.bool true])∧∃ n,w'=W.drewN n) :
  Calls Tryz.prog 61 #[.float .f64 a] w fun r w'=>∃ A,r=.returned (.tuple #[A,.int .i64 0])∧Nrm w' w.heap.size A s m e∧Bw w w':=by
 obtain⟨W,hW⟩:∃ W,W=w.alloc (.cells #[.bool false,.slice none 0 0,.int .i64 0] 80):=⟨_,rfl⟩
 have hBW:Bw w W:=by rw[hW];exact(Below.refl _ _).alloc (Nat.le_refl _) _
 have hC:W.heap[w.heap.size]?=some (.cells #[.bool false,.slice none 0 0,.int .i64 0] 80 (0,0)):=by rw[hW];exact heap_alloc_new _ _
 have hsz:W.heap.size=w.heap.size+1:=by rw[hW];simp
 have HH:Hid (W.heap[w.heap.size]?=some (.cells #[.bool false,.slice none 0 0,.int .i64 0] 80 (0,0))∧W.heap.size=w.heap.size+1∧Bw w W∧Tab32 W∧m<18446744073709551616):=⟨hC,hsz,hBW,hT.later hBW,hm⟩
 have k1:=k55 W hBW
 have HW:Hid (W=w.alloc (.cells #[.bool false,.slice none 0 0,.int .i64 0] 80)):=hW
 clear k55 hC hsz hBW hT hm
 go_enter Tryz.func61,Tryz.ntmps61
 go_wp2_with fail
 rw[←hW]
 clear hW
 refine k1.mono ?_
 rintro r w1' ⟨rfl,dd,rfl⟩
 obtain⟨w1,hw1⟩:∃ w1,w1=W.drewN dd:=⟨_,rfl⟩
 rw[←hw1]
 have HH0:=HH.out
 clear HH
 have HH:Hid (w1.heap[w.heap.size]?=some (.cells #[.bool false,.slice none 0 0,.int .i64 0] 80 (0,0))∧w1.heap.size=w.heap.size+1∧Bw w w1∧Tab32 w1∧m<18446744073709551616):=by
  rw[hw1]
  exact⟨HH0.1,HH0.2.1,HH0.2.2.1.trans ⟨rfl,rfl,rfl,Nat.le_refl _,fun _ _=>rfl⟩,HH0.2.2.2.1,HH0.2.2.2.2⟩
 have k57:=c57 m w1 HH0.2.2.2.2
 clear k1 hw1 HH0 HW
 go_wp2_with fail
 refine k57.mono ?_
 rintro r w2 ⟨v,rfl,hO,hB2⟩
 clear k57
 have hl:dlen m≤2:=(dlen_le 2 m).2 (by have:=HH.out.2.2.2.2;unfold B;omega)
 have k56:=c56 (neg:=s) (e:=e) hO.is (by omega) (HH.out.2.2.2.1.later hB2) (by omega)
 have HB2:Hid (Bw w1 w2):=hB2
 clear hO hB2 hl
 go_wp2_with fail
 refine k56.mono ?_
 rintro r w3 ⟨A,rfl,hN,hB3⟩
 clear k56
 obtain⟨s',ao,n',cap,ex,rfl⟩:=hN.shape
 have HB3:Hid (Bw w1 w3):=HB2.out.trans (hB3.mono HB2.out.size)
 have HC3:Hid (w3.heap[w.heap.size]?=some (.cells #[.bool false,.slice none 0 0,.int .i64 0] 80 (0,0))):=box_later HH.out.1 HB3.out (by have:=HH.out.2.1;omega)
 obtain⟨⟨a1,a2,a3⟩,a4,a5,a6⟩:=box_cells HC3.out
 have HN:Hid (Nrm w3 w1.heap.size (.agg #[.bool s',.slice ao n' cap,.int .i64 ex]) s m e):=hN.mono HB2.out.size
 clear hN hB3
 go_wp2
 refine bodyPost_ret (results_cell_tmp_row rfl _ _ w.heap.size 80 #[.bool s',.slice ao n' cap,.int .i64 ex] (0,0) _ rfl (store3 _ _ _ HC3.out) Tryz.underlying80 rfl Tryz.info80) rfl ?_
 have hs:=HH.out.2.1
 exact⟨_,rfl,(HN.out.store (by omega) _ _ _).mono (by omega),below_store3 (HH.out.2.2.1.trans (HB3.out.mono (by omega))) (Nat.le_refl _) _ _ _⟩
theorem Tab.later {w w':World} (h:Ie.Tab w) (hb:Bw w w'):Ie.Tab w':=fun i hi=>(hb.cell (World.block_lt_of_cell? _ _ (h i hi))).trans (h i hi)
theorem sM_lt (a:Nat) (ha:a<18446744073709551616):∃ m:Nat,Ie.sM a=(m:Int)∧m<18446744073709551616:=by
 unfold Ie.sM
 split
 ·exact⟨0,rfl,by omega⟩
 ·split
  ·exact⟨0,rfl,by omega⟩
  ·rename_i h1 h2
   have hm:Ie.mant a<18446744073709551616:=by
    unfold Ie.mant
    split <;> omega
   refine⟨Ie.mant a / 2^Lib.ctz 64 (Ie.mant a),by simp,Nat.lt_of_le_of_lt (Nat.div_le_self ..) hm⟩
end Go.Proofs.YtjiolfnchiioaaaGreatDoor
namespace Go.Proofs.YtjiolfnchiioaaaGreatDoor
open Go.RowKit Go.Fl64
theorem sE_le (a:Nat) : -4000000≤Ie.sE a∧Ie.sE a≤4000000:=by
 unfold Ie.sE
 split
 ·omega
 ·split
  ·omega
  ·rename_i h1 h2
   have hm:=Ie.mant_ne h2
   have hb:=Ie.mant_bound a
   have hl:=Ie.lp_bound a
   obtain⟨_,hk⟩:=Lib.lowest_bit 64 (Ie.mant a) hm (by omega)
   omega
theorem k55_at (a:Nat) (ha:a<18446744073709551616) (w:World) (hI:Ie.Tab w) :
  ∀ W,Bw w W→Calls Tryz.prog 94 #[.float .f64 a] W fun r w'=>r=.returned (.tuple #[.int .u64 (Ie.sM a),.int .i64 (Ie.sE a),.bool (Ie.sN a),.bool (Ie.sO a)])∧∃ n,w'=W.drewN n :=
 fun W hW=>Ie.c22 a ha W (Tab.later hI hW)
theorem of_fin (a m:Nat) (ha:a<18446744073709551616) (w:World) (hT:Tab32 w) (hI:Ie.Tab w) (hf:mag a<9218868437227405312)
  (hm:Ie.sM a=(m:Int)) :
  Calls Tryz.prog 61 #[.float .f64 a] w fun r w'=>∃ A,r=.returned (.tuple #[A,.int .i64 0])∧Nrm w' w.heap.size A (neg a) m (Ie.sE a)∧Bw w w':=by
 have k:=k55_at a ha w hI
 have hnn:(FloatKind.f64.format.order a a != some Ordering.eq)=false:=by rw[self_ne a ha];unfold isNaN;exact decide_eq_false (by omega)
 have hN:Ie.sN a=neg a:=if_neg (by omega)
 have hO:Ie.sO a=true:=if_neg (by omega)
 rw[hm,hN,hO] at k
 obtain⟨m',h1,h2⟩:=sM_lt a ha
 have:m=m':=by omega
 exact c9_1 a m (Ie.sE a) (neg a) w hT (by omega) (sE_le a).1 (sE_le a).2 hnn k
end Go.Proofs.YtjiolfnchiioaaaGreatDoor
