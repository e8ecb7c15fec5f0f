/- Own work: contracts of the program's functions, part 3: W17 W18 W19 W20 W21 W22 W23 IFl IW1 IW3. -/
import Derived.Test.YtokklnjoalkjaaaGreatDoorA2
import Derived.Deep.RegionHeld3
import Derived.WalkKit
import Derived.WalkLawsBesides
import Derived.WalkSpells
import Derived.BigQuiet
import Derived.Laws.MathBits
import Derived.Lib.TrailingZeros
import Derived.Lib.LaidTab

set_option maxHeartbeats 16000000
set_option maxRecDepth 200000
set_option linter.unusedVariables false
set_option linter.unusedSimpArgs false
namespace Go.Proofs.YtokklnjoalkjaaaGreatDoor
open Go.RowKit
def Ct (W:World) (f:Nat) (args:Array Value) (x:Nat):Prop :=
 ∀ w',Bw W w'→Calls Tryz.prog f args w' fun r w''=>∃ v,r=.returned v∧Own w'' W.heap.size v x∧Bw W w''∧Bw w' w''
theorem ct109 {W:World} {v:Value} {x k:Nat} (h:Is W v x) (hx:dlen x≤35184372088832) (hk:k≤1099511627776):Ct W 99 #[v,.int .i64 k] (x*2^k):=fun w' hb =>
 (c109 (h.later hb) k hx hk).mono fun r w'' ⟨v,e,ho,hb2⟩=>⟨v,e,ho.mono hb.size,hb.trans (hb2.mono hb.size),hb2⟩
theorem c99_1 (na nb:Bool) (ua va:Option Addr) (un vn uc vc x y:Nat) (ea:Int) (kb:Nat) (w:World)
  (h1:∀ W,Bw w W→Ct W 99 #[.slice ua un uc,.int .i64 0] x) (h2:∀ W,Bw w W→Ct W 99 #[.slice va vn vc,.int .i64 kb] (y*2^kb)) (hb1 : -4000000≤ea) (hb2:ea≤4000000) (hb3:kb≤8000000) :
  Calls Tryz.prog 153 #[NumV na (.slice ua un uc) ea,NumV nb (.slice va vn vc) (ea+kb)] w fun r w'=>∃ p q,r=.returned (.tuple #[p,q,.int .i64 ea])∧Own w' w.heap.size p x∧Own w' w.heap.size q (y*2^kb)∧Bw w w':=by
 obtain⟨W,hW⟩:∃ W,W=(w.alloc (.cells #[.bool na,.slice ua un uc,.int .i64 ea] 45)).alloc (.cells #[.bool nb,.slice va vn vc,.int .i64 (ea+kb)] 45):=⟨_,rfl⟩
 have hBW:Bw w W:=by rw[hW];exact((Below.refl _ _).alloc (Nat.le_refl _) _).alloc (by simp) _
 have hbA:W.heap[w.heap.size]?=some (.cells #[.bool na,.slice ua un uc,.int .i64 ea] 45 (0,0)):=by
  rw[hW,Below.heap_alloc _ _ _ (by simp)];exact heap_alloc_new _ _
 have hbB:W.heap[w.heap.size+1]?=some (.cells #[.bool nb,.slice va vn vc,.int .i64 (ea+kb)] 45 (0,0)):=by
  have:=heap_alloc_new (w.alloc (.cells #[.bool na,.slice ua un uc,.int .i64 ea] 45)) (.cells #[.bool nb,.slice va vn vc,.int .i64 (ea+kb)] 45)
  rw[hW];simpa using this
 have hsz:W.heap.size=w.heap.size+1+1:=by rw[hW];simp
 have k1:=h1 W hBW
 have k2:=h2 W hBW
 have HBW:Hid (Bw w W):=hBW
 have HCC:Hid (∀ w',Bw W w'→(w'.cell? ⟨w.heap.size,1,none⟩=some (.slice ua un uc)∧w'.cell? ⟨w.heap.size,2,none⟩=some (.int .i64 ea))∧w'.cell? ⟨w.heap.size+1,1,none⟩=some (.slice va vn vc)∧w'.cell? ⟨w.heap.size+1,2,none⟩=some (.int .i64 (ea+kb))):=by
  intro w' hB
  have a:=(box_cells (box_later hbA hB (by omega))).1
  have b:=(box_cells (box_later hbB hB (by omega))).1
  exact⟨⟨a.2.1,a.2.2⟩,b.2.1,b.2.2⟩
 unfold NumV
 have wz0:IntKind.i64.wrap 0=0:=by decide
 have wz1:IntKind.i64.wrap (ea+(kb:Int) - ea)=(kb:Int):=by rw[IntKind.wrap_i64];omega
 clear h1 h2 hbA hbB hsz hBW
 go_enter Tryz.func153,Tryz.ntmps153
 go_wp2
 rw[←hW]
 clear hW
 obtain⟨⟨c1,c2⟩,c3,c4⟩:=HCC.out W (Below.refl _ _)
 have hB0:Bw W W:=Below.refl _ _
 go_region_held3 (fun w'=>((w'.cell? ⟨w.heap.size,1,none⟩=some (.slice ua un uc)∧w'.cell? ⟨w.heap.size,2,none⟩=some (.int .i64 ea))∧w'.cell? ⟨w.heap.size+1,1,none⟩=some (.slice va vn vc)∧w'.cell? ⟨w.heap.size+1,2,none⟩=some (.int .i64 (ea+kb)))∧Bw W w') (first|assumption|exact⟨⟨⟨c1,c2⟩,c3,c4⟩,hB0⟩|(refine⟨HCC.out _ ?_,?_⟩ <;> first|assumption|exact Below.drew (by assumption)))
  (first|(go_at_call_of 99 (Value.slice ua un uc);(try simp only[wz0]);refine(k1 _ ?_).mono ?_;(first|assumption|exact Below.drew (by assumption));rintro r w2 ⟨p,rfl,hp,hb2,hb3⟩)|(go_at_call_of 99 (Value.slice va vn vc);(try simp only[wz1]);refine(k2 _ ?_).mono ?_;(first|assumption|exact Below.drew (by assumption));rintro r w3 ⟨q,rfl,hq,hb4,hb5⟩))
 have HP:Hid (Own w3 w.heap.size p x∧Own w3 w.heap.size q (y*2^kb)∧Bw w w3):=⟨(hp.later hb5).mono HBW.out.size,hq.mono HBW.out.size,HBW.out.trans (hb4.mono HBW.out.size)⟩
 clear hp hq hb2 hb4 hb5 k1 k2 HCC HBW c1 c2 c3 c4 hB0 wz0 wz1
 go_wp2
 go_ret3
 exact⟨p,q,rfl,HP.out⟩
theorem c99_2 (na nb:Bool) (ua va:Option Addr) (un vn uc vc x y:Nat) (eb:Int) (ka:Nat) (w:World)
  (h1:∀ W,Bw w W→Ct W 99 #[.slice ua un uc,.int .i64 ka] (x*2^ka)) (h2:∀ W,Bw w W→Ct W 99 #[.slice va vn vc,.int .i64 0] y) (hb1 : -4000000≤eb) (hb2:eb≤4000000) (hb3:ka≤8000000) (hb0:0<ka) :
  Calls Tryz.prog 153 #[NumV na (.slice ua un uc) (eb+ka),NumV nb (.slice va vn vc) eb] w fun r w'=>∃ p q,r=.returned (.tuple #[p,q,.int .i64 eb])∧Own w' w.heap.size p (x*2^ka)∧Own w' w.heap.size q y∧Bw w w':=by
 obtain⟨W,hW⟩:∃ W,W=(w.alloc (.cells #[.bool na,.slice ua un uc,.int .i64 (eb+ka)] 45)).alloc (.cells #[.bool nb,.slice va vn vc,.int .i64 eb] 45):=⟨_,rfl⟩
 have hBW:Bw w W:=by rw[hW];exact((Below.refl _ _).alloc (Nat.le_refl _) _).alloc (by simp) _
 have hbA:W.heap[w.heap.size]?=some (.cells #[.bool na,.slice ua un uc,.int .i64 (eb+ka)] 45 (0,0)):=by
  rw[hW,Below.heap_alloc _ _ _ (by simp)];exact heap_alloc_new _ _
 have hbB:W.heap[w.heap.size+1]?=some (.cells #[.bool nb,.slice va vn vc,.int .i64 eb] 45 (0,0)):=by
  have:=heap_alloc_new (w.alloc (.cells #[.bool na,.slice ua un uc,.int .i64 (eb+ka)] 45)) (.cells #[.bool nb,.slice va vn vc,.int .i64 eb] 45)
  rw[hW];simpa using this
 have hsz:W.heap.size=w.heap.size+1+1:=by rw[hW];simp
 have k1:=h1 W hBW
 have k2:=h2 W hBW
 have HBW:Hid (Bw w W):=hBW
 have HCC:Hid (∀ w',Bw W w'→(w'.cell? ⟨w.heap.size,1,none⟩=some (.slice ua un uc)∧w'.cell? ⟨w.heap.size,2,none⟩=some (.int .i64 (eb+ka)))∧w'.cell? ⟨w.heap.size+1,1,none⟩=some (.slice va vn vc)∧w'.cell? ⟨w.heap.size+1,2,none⟩=some (.int .i64 eb)):=by
  intro w' hB
  have a:=(box_cells (box_later hbA hB (by omega))).1
  have b:=(box_cells (box_later hbB hB (by omega))).1
  exact⟨⟨a.2.1,a.2.2⟩,b.2.1,b.2.2⟩
 unfold NumV
 have wz0:IntKind.i64.wrap 0=0:=by decide
 have wz1:IntKind.i64.wrap (eb+(ka:Int) - eb)=(ka:Int):=by rw[IntKind.wrap_i64];omega
 clear h1 h2 hbA hbB hsz hBW
 go_enter Tryz.func153,Tryz.ntmps153
 go_wp2
 rw[←hW]
 clear hW
 obtain⟨⟨c1,c2⟩,c3,c4⟩:=HCC.out W (Below.refl _ _)
 have hB0:Bw W W:=Below.refl _ _
 go_region_held3 (fun w'=>((w'.cell? ⟨w.heap.size,1,none⟩=some (.slice ua un uc)∧w'.cell? ⟨w.heap.size,2,none⟩=some (.int .i64 (eb+ka)))∧w'.cell? ⟨w.heap.size+1,1,none⟩=some (.slice va vn vc)∧w'.cell? ⟨w.heap.size+1,2,none⟩=some (.int .i64 eb))∧Bw W w') (first|assumption|exact⟨⟨⟨c1,c2⟩,c3,c4⟩,hB0⟩|(refine⟨HCC.out _ ?_,?_⟩ <;> first|assumption|exact Below.drew (by assumption)))
  (first|(go_at_call_of 99 (Value.slice ua un uc);(try simp only[wz0]);refine(k1 _ ?_).mono ?_;(first|assumption|exact Below.drew (by assumption));rintro r w2 ⟨p,rfl,hp,hb2,hb3⟩)|(go_at_call_of 99 (Value.slice va vn vc);(try simp only[wz1]);refine(k2 _ ?_).mono ?_;(first|assumption|exact Below.drew (by assumption));rintro r w3 ⟨q,rfl,hq,hb4,hb5⟩))
 have HP:Hid (Own w3 w.heap.size p (x*2^ka)∧Own w3 w.heap.size q y∧Bw w w3):=⟨(hp.later hb5).mono HBW.out.size,hq.mono HBW.out.size,HBW.out.trans (hb4.mono HBW.out.size)⟩
 clear hp hq hb2 hb4 hb5 k1 k2 HCC HBW c1 c2 c3 c4 hB0 wz0 wz1
 go_wp2
 go_ret3
 exact⟨p,q,rfl,HP.out⟩
theorem c99 {na nb:Bool} {u v:Value} {x y:Nat} {ea eb:Int} {w:World} (h1:Is w u x) (h2:Is w v y) (hx:dlen x≤1000000) (hy:dlen y≤1000000) (ha : -4000000≤ea∧ea≤4000000) (hb : -4000000≤eb∧eb≤4000000) :
  Calls Tryz.prog 153 #[NumV na u ea,NumV nb v eb] w fun r w'=>∃ p q,r=.returned (.tuple #[p,q,.int .i64 (min ea eb)])∧Own w' w.heap.size p (x*2^(ea - min ea eb).toNat)∧Own w' w.heap.size q (y*2^(eb - min ea eb).toNat)∧Bw w w':=by
 have h1':=h1
 have h2':=h2
 obtain⟨ua,uc,rfl,-,-,-⟩:=h1'
 obtain⟨va,vc,rfl,-,-,-⟩:=h2'
 by_cases h:ea≤eb
 ·obtain⟨k,rfl⟩:∃ k:Nat,eb=ea+k:=⟨(eb - ea).toNat,by omega⟩
  rw[show min ea (ea+(k:Int))=ea by omega,show(ea - ea).toNat=0 by omega,show(ea+(k:Int) - ea).toNat=k by omega,Nat.pow_zero,Nat.mul_one]
  refine c99_1 na nb ua va _ _ uc vc x y ea k w (fun W hW=>?_) (fun W hW=>ct109 (h2.later hW) (by omega) (by omega)) ha.1 ha.2 (by omega)
  have:=ct109 (k:=0) (h1.later hW) (by omega) (by omega)
  rwa [Nat.pow_zero,Nat.mul_one] at this
 ·obtain⟨k,rfl⟩:∃ k:Nat,ea=eb+k:=⟨(ea - eb).toNat,by omega⟩
  rw[show min (eb+(k:Int)) eb=eb by omega,show(eb - eb).toNat=0 by omega,show(eb+(k:Int) - eb).toNat=k by omega,Nat.pow_zero,Nat.mul_one]
  refine c99_2 na nb ua va _ _ uc vc x y eb k w (fun W hW=>ct109 (h1.later hW) (by omega) (by omega)) (fun W hW=>?_) hb.1 hb.2 (by omega) (by omega)
  have:=ct109 (k:=0) (h2.later hW) (by omega) (by omega)
  rwa [Nat.pow_zero,Nat.mul_one] at this
theorem boxes3 {w W:World} (a b c:Obj) (hW:W=((w.alloc a).alloc b).alloc c) :
  W.heap[w.heap.size]?=some a∧W.heap[w.heap.size+1]?=some b∧W.heap[w.heap.size+1+1]?=some c∧W.heap.size=w.heap.size+1+1+1∧Bw w W:=by
 subst hW
 refine⟨?_,blk_mid _ _ _ _,?_,by simp,(((Below.refl _ _).alloc (Nat.le_refl _) _).alloc (by simp) _).alloc (by simp;omega) _⟩
 ·rw[Below.heap_alloc _ _ _ (by simp;omega),Below.heap_alloc _ _ _ (by simp)];exact heap_alloc_new _ _
 ·have:=heap_alloc_new ((w.alloc a).alloc b) c
  simpa using this
theorem Nrm.shape {w:World} {base:Nat} {a:Value} {neg:Bool} {x:Nat} {e:Int} (h:Nrm w base a neg x e):∃ s ao n cap ex,a=.agg #[.bool s,.slice ao n cap,.int .i64 ex]:=by
 rcases h with ⟨_,rfl⟩|⟨_,v,rfl,ho⟩
 ·exact⟨_,_,_,_,_,rfl⟩
 ·obtain⟨ao,cap,rfl,-,-,-⟩:=ho.is
  exact⟨_,_,_,_,_,rfl⟩
theorem Nrm.mono {w:World} {base base':Nat} {a:Value} {neg:Bool} {x:Nat} {e:Int} (h:Nrm w base a neg x e) (hb:base'≤base):Nrm w base' a neg x e:=by
 rcases h with h|⟨h0,v,h1,ho⟩
 ·exact .inl h
 ·exact .inr ⟨h0,v,h1,ho.mono hb⟩
theorem Nrm.store {w:World} {base:Nat} {a:Value} {neg:Bool} {x:Nat} {e:Int} (h:Nrm w base a neg x e) {g:Nat} (hg:g<base) (p q r:Value):Nrm (((w.setCell ⟨g,0,none⟩ p).setCell ⟨g,1,none⟩ q).setCell ⟨g,2,none⟩ r) base a neg x e:=by
 rcases h with h|⟨h0,v,h1,ho⟩
 ·exact .inl h
 ·exact .inr ⟨h0,v,h1,own_store3 ho hg _ _ _⟩
theorem c87_a (na nb:Bool) (ua va:Option Addr) (uc vn vc y:Nat) (ea eb:Int) (w:World) (hT:Tab32 w) (h2:Is w (.slice va vn vc) y) (hy:dlen y≤1000000) (hb : -4000000≤eb∧eb≤4000000) :
  Calls Tryz.prog 124 #[NumV na (.slice ua 0 uc) ea,NumV nb (.slice va vn vc) eb] w fun r w'=>∃ a,r=.returned a∧Nrm w' w.heap.size a nb y eb∧Bw w w':=by
 obtain⟨W,hW⟩:∃ W,W=((w.alloc (.cells #[.bool na,.slice ua 0 uc,.int .i64 ea] 45)).alloc (.cells #[.bool nb,.slice va vn vc,.int .i64 eb] 45)).alloc (.cells #[.bool false,.slice none 0 0,.int .i64 0] 45):=⟨_,rfl⟩
 obtain⟨hA,hBb,hC,hsz,hBW⟩:=boxes3 _ _ _ hW
 have k56:=c56 (neg:=nb) (e:=eb) (h2.later hBW) (by omega) (hT.later hBW) (by omega)
 have HH:Hid (W.heap[w.heap.size+1+1]?=some (.cells #[.bool false,.slice none 0 0,.int .i64 0] 45 (0,0))∧W.heap.size=w.heap.size+1+1+1∧Bw w W):=⟨hC,hsz,hBW⟩
 clear h2 hT hA hBb hC hsz hBW
 unfold NumV
 go_enter Tryz.func124,Tryz.ntmps124
 go_wp2_with fail
 rw[←hW]
 clear hW
 refine k56.mono ?_
 rintro r w3 ⟨a,rfl,hN,hB⟩
 obtain⟨s,ao,n,cap,ex,rfl⟩:=hN.shape
 have HC3:Hid (w3.heap[w.heap.size+1+1]?=some (.cells #[.bool false,.slice none 0 0,.int .i64 0] 45 (0,0))):=box_later HH.out.1 hB (by have:=HH.out.2.1;omega)
 obtain⟨⟨a1,a2,a3⟩,a4,a5,a6⟩:=box_cells HC3.out
 have HN:Hid (Nrm w3 W.heap.size (.agg #[.bool s,.slice ao n cap,.int .i64 ex]) nb y eb∧Bw W w3):=⟨hN,hB⟩
 clear k56 hN hB
 go_wp2
 refine bodyPost_ret (results_cell_row rfl _ _ (w.heap.size+1+1) 45 #[.bool s,.slice ao n cap,.int .i64 ex] (0,0) _ rfl (store3 _ _ _ HC3.out) Tryz.underlying45 rfl Tryz.info45) rfl ?_
 obtain⟨b1,b2,b3⟩:=HH.out
 exact⟨_,rfl,(HN.out.1.store (by omega) _ _ _).mono (by omega),below_store3 (b3.trans (HN.out.2.mono b3.size)) (by omega) _ _ _⟩
theorem c87_b (na nb:Bool) (ua va:Option Addr) (un uc vc x:Nat) (ea eb:Int) (w:World) (hT:Tab32 w) (h2:Is w (.slice ua un uc) x) (hy:dlen x≤1000000) (hb : -4000000≤ea∧ea≤4000000) (hn0:((un:Int)==0)=false) :
  Calls Tryz.prog 124 #[NumV na (.slice ua un uc) ea,NumV nb (.slice va 0 vc) eb] w fun r w'=>∃ a,r=.returned a∧Nrm w' w.heap.size a na x ea∧Bw w w':=by
 obtain⟨W,hW⟩:∃ W,W=((w.alloc (.cells #[.bool na,.slice ua un uc,.int .i64 ea] 45)).alloc (.cells #[.bool nb,.slice va 0 vc,.int .i64 eb] 45)).alloc (.cells #[.bool false,.slice none 0 0,.int .i64 0] 45):=⟨_,rfl⟩
 obtain⟨hA,hBb,hC,hsz,hBW⟩:=boxes3 _ _ _ hW
 have k56:=c56 (neg:=na) (e:=ea) (h2.later hBW) (by omega) (hT.later hBW) (by omega)
 have HH:Hid (W.heap[w.heap.size+1+1]?=some (.cells #[.bool false,.slice none 0 0,.int .i64 0] 45 (0,0))∧W.heap.size=w.heap.size+1+1+1∧Bw w W):=⟨hC,hsz,hBW⟩
 clear h2 hT hA hBb hC hsz hBW
 unfold NumV
 go_enter Tryz.func124,Tryz.ntmps124
 go_wp2_with fail
 rw[←hW]
 clear hW
 refine k56.mono ?_
 rintro r w3 ⟨a,rfl,hN,hB⟩
 obtain⟨s,ao,n,cap,ex,rfl⟩:=hN.shape
 have HC3:Hid (w3.heap[w.heap.size+1+1]?=some (.cells #[.bool false,.slice none 0 0,.int .i64 0] 45 (0,0))):=box_later HH.out.1 hB (by have:=HH.out.2.1;omega)
 obtain⟨⟨a1,a2,a3⟩,a4,a5,a6⟩:=box_cells HC3.out
 have HN:Hid (Nrm w3 W.heap.size (.agg #[.bool s,.slice ao n cap,.int .i64 ex]) na x ea∧Bw W w3):=⟨hN,hB⟩
 clear k56 hN hB
 go_wp2
 refine bodyPost_ret (results_cell_row rfl _ _ (w.heap.size+1+1) 45 #[.bool s,.slice ao n cap,.int .i64 ex] (0,0) _ rfl (store3 _ _ _ HC3.out) Tryz.underlying45 rfl Tryz.info45) rfl ?_
 obtain⟨b1,b2,b3⟩:=HH.out
 exact⟨_,rfl,(HN.out.1.store (by omega) _ _ _).mono (by omega),below_store3 (b3.trans (HN.out.2.mono b3.size)) (by omega) _ _ _⟩
theorem c87_c (na:Bool) (ua va:Option Addr) (un uc vn vc X Y:Nat) (ea eb e:Int) (w:World) (hT:Tab32 w) (hX:dlen (X+Y)≤1000000) (hX1:dlen X≤1000000) (hX2:dlen Y≤1000000) (he : -4000000≤e∧e≤4000000) (hn0:((un:Int)==0)=false) (hn1:((vn:Int)==0)=false)
  (h99:∀ W,Bw w W→Calls Tryz.prog 153 #[NumV na (.slice ua un uc) ea,NumV na (.slice va vn vc) eb] W fun r w'=>∃ p q,r=.returned (.tuple #[p,q,.int .i64 e])∧Own w' W.heap.size p X∧Own w' W.heap.size q Y∧Bw W w') :
  Calls Tryz.prog 124 #[NumV na (.slice ua un uc) ea,NumV na (.slice va vn vc) eb] w fun r w'=>∃ a,r=.returned a∧Nrm w' w.heap.size a na (X+Y) e∧Bw w w':=by
 obtain⟨W,hW⟩:∃ W,W=((w.alloc (.cells #[.bool na,.slice ua un uc,.int .i64 ea] 45)).alloc (.cells #[.bool na,.slice va vn vc,.int .i64 eb] 45)).alloc (.cells #[.bool false,.slice none 0 0,.int .i64 0] 45):=⟨_,rfl⟩
 obtain⟨hA,hBb,hC,hsz,hBW⟩:=boxes3 _ _ _ hW
 have k99:=h99 W hBW
 have HH:Hid ((W.heap[w.heap.size]?=some (.cells #[.bool na,.slice ua un uc,.int .i64 ea] 45 (0,0))∧W.heap[w.heap.size+1]?=some (.cells #[.bool na,.slice va vn vc,.int .i64 eb] 45 (0,0))∧W.heap[w.heap.size+1+1]?=some (.cells #[.bool false,.slice none 0 0,.int .i64 0] 45 (0,0)))∧W.heap.size=w.heap.size+1+1+1∧Bw w W∧Tab32 W):=⟨⟨hA,hBb,hC⟩,hsz,hBW,hT.later hBW⟩
 unfold NumV at *
 clear hT hA hBb hC hsz hBW h99
 go_enter Tryz.func124,Tryz.ntmps124
 go_wp2_with fail
 rw[←hW]
 clear hW
 refine k99.mono ?_
 rintro r w4 ⟨p,q,rfl,hp,hq,hB4⟩
 obtain⟨⟨h1,h2,h3⟩,hs,hBW,hTW⟩:=HH.out
 obtain⟨⟨a0,a1,a2⟩,-⟩:=box_cells (box_later h1 hB4 (by omega))
 obtain⟨⟨b0,b1,b2⟩,-⟩:=box_cells (box_later h2 hB4 (by omega))
 have HC4:Hid (w4.heap[w.heap.size+1+1]?=some (.cells #[.bool false,.slice none 0 0,.int .i64 0] 45 (0,0))∧Bw W w4):=⟨box_later h3 hB4 (by omega),hB4⟩
 have k122:Calls Tryz.prog 146 #[p,q] w4.drew fun r w'=>∃ v,r=.returned v∧Own w' w4.heap.size v (X+Y)∧Bw w4 w' :=
  (c122 (w:=w4.drew) hp.is hq.is (by omega) (by omega)).mono fun r w' ⟨v,e1,o1,o2⟩=>⟨v,e1,o1,Below.trans (b:=w4.drew) (Below.refl _ _).drew o2⟩
 have hKeep:∀ w',Bw w4 w'→w'.cell? ⟨w.heap.size,0,none⟩=some (.bool na):=fun w' hb=>(hb.cell (World.block_lt_of_cell? _ _ a0)).trans a0
 have HK:Hid (∀ w',Bw w4 w'→w'.cell? ⟨w.heap.size,0,none⟩=some (.bool na)):=hKeep
 have k56:∀ v5 w5,Own w5 w4.heap.size v5 (X+Y)→Bw w4 w5→Calls Tryz.prog 126 #[.bool na,v5,.int .i64 e] w5 fun r w'=>∃ s ao n cap ex,r=.returned (.agg #[.bool s,.slice ao n cap,.int .i64 ex]) ∧
   Hid (Nrm w' w5.heap.size (.agg #[.bool s,.slice ao n cap,.int .i64 ex]) na (X+Y) e∧w4.heap.size≤w5.heap.size)∧Bw w4 w'∧Hid (w'.heap[w.heap.size+1+1]?=some (.cells #[.bool false,.slice none 0 0,.int .i64 0] 45 (0,0))) ∧
   (w'.cell? ⟨w.heap.size+1+1,0,none⟩=some (.bool false)∧w'.cell? ⟨w.heap.size+1+1,1,none⟩=some (.slice none 0 0)∧w'.cell? ⟨w.heap.size+1+1,2,none⟩=some (.int .i64 0))∧(w'.frozen? ⟨w.heap.size+1+1,0,none⟩=false∧w'.frozen? ⟨w.heap.size+1+1,1,none⟩=false∧w'.frozen? ⟨w.heap.size+1+1,2,none⟩=false):=by
  intro v5 w5 ho hb
  refine(c56 ho.is (by omega) ((hTW.later hB4).later hb) (by omega)).mono ?_
  rintro r w6 ⟨a,rfl,hN,hb6⟩
  obtain⟨s,ao,n,cap,ex,rfl⟩:=hN.shape
  have hb46:Bw w4 w6:=hb.trans (hb6.mono hb.size)
  have hblk:=box_later HC4.out.1 hb46 (by have:=HC4.out.2.size;omega)
  obtain⟨f1,f2⟩:=box_cells hblk
  exact⟨s,ao,n,cap,ex,rfl,⟨hN,hb.size⟩,hb46,hblk,f1,f2⟩
 have hbl:(na==na)=true:=by simp
 clear h1 h2 h3 hp hq hB4 k99 hs hBW hTW hKeep hX hX1 hX2
 go_wp2
 go_region_held3 (fun w'=>w'.cell? ⟨w.heap.size,0,none⟩=some (.bool na)) (first|(with_reducible assumption)|(refine HK.out _ ?_;with_reducible assumption)|(rw[World.cell?_setCell_other _ _ _ _ (by simp),World.cell?_setCell_other _ _ _ _ (by simp),World.cell?_setCell_other _ _ _ _ (by simp)];refine HK.out _ ?_;with_reducible assumption)|go_keep)
  (first|(go_at_call 146;refine k122.mono ?_;rintro r w5 ⟨v5,rfl,ho5,hb5⟩)|(go_at_call 126;refine(k56 _ _ ho5 hb5).mono ?_;rintro r w6 ⟨s6,ao6,n6,cap6,ex6,rfl,hN6,hb6,hblk6,⟨x1,x2,x3⟩,x4,x5,x6⟩))
 have HF:Hid (Bw w4 w6):=hb6
 clear ho5 hb5 hb6 k56 k122 x1 x2 x3 x4 x5 x6 a0 a1 a2 b0 b1 b2 HK
 go_wp2
 refine bodyPost_ret (results_cell_row rfl _ _ (w.heap.size+1+1) 45 #[.bool s6,.slice ao6 n6 cap6,.int .i64 ex6] (0,0) _ rfl (store3 _ _ _ hblk6.out) Tryz.underlying45 rfl Tryz.info45) rfl ?_
 obtain⟨-,hs,hBW,-⟩:=HH.out
 have hs4:=HC4.out.2.size
 have hs5:=hN6.out.2
 exact⟨_,rfl,(hN6.out.1.store (by omega) _ _ _).mono (by omega),below_store3 (hBW.trans ((HC4.out.2.trans (HF.out.mono hs4)).mono hBW.size)) (by omega) _ _ _⟩
theorem c87_d (na nb:Bool) (ua va:Option Addr) (un uc vn vc X Y:Nat) (ea eb e:Int) (w:World) (hT:Tab32 w) (hlt:X<Y) (hne:(na==nb)=false) (hX1:dlen X≤1000000) (hX2:dlen Y≤1000000) (he : -4000000≤e∧e≤4000000) (hn0:((un:Int)==0)=false) (hn1:((vn:Int)==0)=false)
  (h99:∀ W,Bw w W→Calls Tryz.prog 153 #[NumV na (.slice ua un uc) ea,NumV nb (.slice va vn vc) eb] W fun r w'=>∃ p q,r=.returned (.tuple #[p,q,.int .i64 e])∧Own w' W.heap.size p X∧Own w' W.heap.size q Y∧Bw W w') :
  Calls Tryz.prog 124 #[NumV na (.slice ua un uc) ea,NumV nb (.slice va vn vc) eb] w fun r w'=>∃ a,r=.returned a∧Nrm w' w.heap.size a nb (Y - X) e∧Bw w w':=by
 obtain⟨W,hW⟩:∃ W,W=((w.alloc (.cells #[.bool na,.slice ua un uc,.int .i64 ea] 45)).alloc (.cells #[.bool nb,.slice va vn vc,.int .i64 eb] 45)).alloc (.cells #[.bool false,.slice none 0 0,.int .i64 0] 45):=⟨_,rfl⟩
 obtain⟨hA,hBb,hC,hsz,hBW⟩:=boxes3 _ _ _ hW
 have k99:=h99 W hBW
 have HH:Hid ((W.heap[w.heap.size]?=some (.cells #[.bool na,.slice ua un uc,.int .i64 ea] 45 (0,0))∧W.heap[w.heap.size+1]?=some (.cells #[.bool nb,.slice va vn vc,.int .i64 eb] 45 (0,0))∧W.heap[w.heap.size+1+1]?=some (.cells #[.bool false,.slice none 0 0,.int .i64 0] 45 (0,0)))∧W.heap.size=w.heap.size+1+1+1∧Bw w W∧Tab32 W):=⟨⟨hA,hBb,hC⟩,hsz,hBW,hT.later hBW⟩
 unfold NumV at *
 clear hT hA hBb hC hsz hBW h99
 go_enter Tryz.func124,Tryz.ntmps124
 go_wp2_with fail
 rw[←hW]
 clear hW
 refine k99.mono ?_
 rintro r w4 ⟨p,q,rfl,hp,hq,hB4⟩
 obtain⟨⟨h1,h2,h3⟩,hs,hBW,hTW⟩:=HH.out
 obtain⟨⟨a0,a1,a2⟩,-⟩:=box_cells (box_later h1 hB4 (by omega))
 obtain⟨⟨b0,b1,b2⟩,-⟩:=box_cells (box_later h2 hB4 (by omega))
 have HC4:Hid (w4.heap[w.heap.size+1+1]?=some (.cells #[.bool false,.slice none 0 0,.int .i64 0] 45 (0,0))∧Bw W w4):=⟨box_later h3 hB4 (by omega),hB4⟩
 have k129:=c129 hp.is hq.is (by omega) (by omega)
 have hcm:cmpI (X:Int) (Y:Int)<0:=by unfold cmpI;rw[if_pos (by omega)];omega
 generalize cmpI (X:Int) (Y:Int)=cv at *
 have k138:∀ dd,Calls Tryz.prog 148 #[q,p] (w4.drewN dd).drew fun r w'=>∃ v,r=.returned v∧Own w' w4.heap.size v (Y - X)∧Bw w4 w':=fun dd =>
  (c138 (w:=(w4.drewN dd).drew) hq.is hp.is (by omega) (by omega)).mono fun r w' ⟨v,e1,o1,o2⟩=>⟨v,e1,o1,Below.trans (b:=(w4.drewN dd).drew) ⟨rfl,rfl,rfl,Nat.le_refl _,fun _ _=>rfl⟩ o2⟩
 have hKeep:∀ w',Bw w4 w'→w'.cell? ⟨w.heap.size+1,0,none⟩=some (.bool nb):=fun w' hb=>(hb.cell (World.block_lt_of_cell? _ _ b0)).trans b0
 have HK:Hid (∀ w',Bw w4 w'→w'.cell? ⟨w.heap.size+1,0,none⟩=some (.bool nb)):=hKeep
 have k56:∀ v5 w5,Own w5 w4.heap.size v5 (Y - X)→Bw w4 w5→Calls Tryz.prog 126 #[.bool nb,v5,.int .i64 e] w5 fun r w'=>∃ s ao n cap ex,r=.returned (.agg #[.bool s,.slice ao n cap,.int .i64 ex]) ∧
   Hid (Nrm w' w5.heap.size (.agg #[.bool s,.slice ao n cap,.int .i64 ex]) nb (Y - X) e∧w4.heap.size≤w5.heap.size)∧Bw w4 w'∧Hid (w'.heap[w.heap.size+1+1]?=some (.cells #[.bool false,.slice none 0 0,.int .i64 0] 45 (0,0))) ∧
   (w'.cell? ⟨w.heap.size+1+1,0,none⟩=some (.bool false)∧w'.cell? ⟨w.heap.size+1+1,1,none⟩=some (.slice none 0 0)∧w'.cell? ⟨w.heap.size+1+1,2,none⟩=some (.int .i64 0))∧(w'.frozen? ⟨w.heap.size+1+1,0,none⟩=false∧w'.frozen? ⟨w.heap.size+1+1,1,none⟩=false∧w'.frozen? ⟨w.heap.size+1+1,2,none⟩=false):=by
  intro v5 w5 ho hb
  refine(c56 ho.is (Nat.le_trans (dlen_mono (Nat.sub_le ..)) (by omega)) ((hTW.later hB4).later hb) (by omega)).mono ?_
  rintro r w6 ⟨a,rfl,hN,hb6⟩
  obtain⟨s,ao,n,cap,ex,rfl⟩:=hN.shape
  have hb46:Bw w4 w6:=hb.trans (hb6.mono hb.size)
  have hblk:=box_later HC4.out.1 hb46 (by have:=HC4.out.2.size;omega)
  obtain⟨f1,f2⟩:=box_cells hblk
  exact⟨s,ao,n,cap,ex,rfl,⟨hN,hb.size⟩,hb46,hblk,f1,f2⟩
 clear h1 h2 h3 hp hq hB4 k99 hs hBW hTW hKeep hX1 hX2 hlt
 go_wp2_with fail
 refine k129.mono ?_
 rintro r w7 ⟨rfl,dd,rfl⟩
 have k138:=k138 dd
 clear k129
 have HK2:Hid (∀ w',Bw w4 w'→w'.cell? ⟨w.heap.size+1,0,none⟩=some (.bool nb)):=HK.out
 have z0:(w4.drewN dd).cell? ⟨w.heap.size+1,0,none⟩=some (.bool nb):=b0
 go_wp2
 go_region_held3 (fun w'=>w'.cell? ⟨w.heap.size+1,0,none⟩=some (.bool nb)) (first|(with_reducible assumption)|(refine HK.out _ ?_;with_reducible assumption)|(rw[World.cell?_setCell_other _ _ _ _ (by simp),World.cell?_setCell_other _ _ _ _ (by simp),World.cell?_setCell_other _ _ _ _ (by simp)];refine HK.out _ ?_;with_reducible assumption)|go_keep)
  (first|(go_at_call 148;refine k138.mono ?_;rintro r w5 ⟨v5,rfl,ho5,hb5⟩)|(go_at_call 126;refine(k56 _ _ ho5 hb5).mono ?_;rintro r w6 ⟨s6,ao6,n6,cap6,ex6,rfl,hN6,hb6,hblk6,⟨x1,x2,x3⟩,x4,x5,x6⟩))
 have HF:Hid (Bw w4 w6):=hb6
 clear ho5 hb5 hb6 k56 k138 x1 x2 x3 x4 x5 x6 a0 a1 a2 b0 b1 b2 HK
 go_wp2
 refine bodyPost_ret (results_cell_row rfl _ _ (w.heap.size+1+1) 45 #[.bool s6,.slice ao6 n6 cap6,.int .i64 ex6] (0,0) _ rfl (store3 _ _ _ hblk6.out) Tryz.underlying45 rfl Tryz.info45) rfl ?_
 obtain⟨-,hs,hBW,-⟩:=HH.out
 have hs4:=HC4.out.2.size
 have hs5:=hN6.out.2
 exact⟨_,rfl,(hN6.out.1.store (by omega) _ _ _).mono (by omega),below_store3 (hBW.trans ((HC4.out.2.trans (HF.out.mono hs4)).mono hBW.size)) (by omega) _ _ _⟩
theorem c87_e (na nb:Bool) (ua va:Option Addr) (un uc vn vc X Y:Nat) (ea eb e:Int) (w:World) (hT:Tab32 w) (hlt:Y≤X) (hne:(na==nb)=false) (hX1:dlen X≤1000000) (hX2:dlen Y≤1000000) (he : -4000000≤e∧e≤4000000) (hn0:((un:Int)==0)=false) (hn1:((vn:Int)==0)=false)
  (h99:∀ W,Bw w W→Calls Tryz.prog 153 #[NumV na (.slice ua un uc) ea,NumV nb (.slice va vn vc) eb] W fun r w'=>∃ p q,r=.returned (.tuple #[p,q,.int .i64 e])∧Own w' W.heap.size p X∧Own w' W.heap.size q Y∧Bw W w') :
  Calls Tryz.prog 124 #[NumV na (.slice ua un uc) ea,NumV nb (.slice va vn vc) eb] w fun r w'=>∃ a,r=.returned a∧Nrm w' w.heap.size a na (X - Y) e∧Bw w w':=by
 obtain⟨W,hW⟩:∃ W,W=((w.alloc (.cells #[.bool na,.slice ua un uc,.int .i64 ea] 45)).alloc (.cells #[.bool nb,.slice va vn vc,.int .i64 eb] 45)).alloc (.cells #[.bool false,.slice none 0 0,.int .i64 0] 45):=⟨_,rfl⟩
 obtain⟨hA,hBb,hC,hsz,hBW⟩:=boxes3 _ _ _ hW
 have k99:=h99 W hBW
 have HH:Hid ((W.heap[w.heap.size]?=some (.cells #[.bool na,.slice ua un uc,.int .i64 ea] 45 (0,0))∧W.heap[w.heap.size+1]?=some (.cells #[.bool nb,.slice va vn vc,.int .i64 eb] 45 (0,0))∧W.heap[w.heap.size+1+1]?=some (.cells #[.bool false,.slice none 0 0,.int .i64 0] 45 (0,0)))∧W.heap.size=w.heap.size+1+1+1∧Bw w W∧Tab32 W):=⟨⟨hA,hBb,hC⟩,hsz,hBW,hT.later hBW⟩
 unfold NumV at *
 clear hT hA hBb hC hsz hBW h99
 go_enter Tryz.func124,Tryz.ntmps124
 go_wp2_with fail
 rw[←hW]
 clear hW
 refine k99.mono ?_
 rintro r w4 ⟨p,q,rfl,hp,hq,hB4⟩
 obtain⟨⟨h1,h2,h3⟩,hs,hBW,hTW⟩:=HH.out
 obtain⟨⟨a0,a1,a2⟩,-⟩:=box_cells (box_later h1 hB4 (by omega))
 obtain⟨⟨b0,b1,b2⟩,-⟩:=box_cells (box_later h2 hB4 (by omega))
 have HC4:Hid (w4.heap[w.heap.size+1+1]?=some (.cells #[.bool false,.slice none 0 0,.int .i64 0] 45 (0,0))∧Bw W w4):=⟨box_later h3 hB4 (by omega),hB4⟩
 have k129:=c129 hp.is hq.is (by omega) (by omega)
 have hcm:¬ cmpI (X:Int) (Y:Int)<0:=by unfold cmpI;rw[if_neg (by omega)];split <;> omega
 generalize cmpI (X:Int) (Y:Int)=cv at *
 have k138:∀ dd,Calls Tryz.prog 148 #[p,q] (w4.drewN dd).drew fun r w'=>∃ v,r=.returned v∧Own w' w4.heap.size v (X - Y)∧Bw w4 w':=fun dd =>
  (c138 (w:=(w4.drewN dd).drew) hp.is hq.is (by omega) (by omega)).mono fun r w' ⟨v,e1,o1,o2⟩=>⟨v,e1,o1,Below.trans (b:=(w4.drewN dd).drew) ⟨rfl,rfl,rfl,Nat.le_refl _,fun _ _=>rfl⟩ o2⟩
 have hKeep:∀ w',Bw w4 w'→w'.cell? ⟨w.heap.size,0,none⟩=some (.bool na):=fun w' hb=>(hb.cell (World.block_lt_of_cell? _ _ a0)).trans a0
 have HK:Hid (∀ w',Bw w4 w'→w'.cell? ⟨w.heap.size,0,none⟩=some (.bool na)):=hKeep
 have k56:∀ v5 w5,Own w5 w4.heap.size v5 (X - Y)→Bw w4 w5→Calls Tryz.prog 126 #[.bool na,v5,.int .i64 e] w5 fun r w'=>∃ s ao n cap ex,r=.returned (.agg #[.bool s,.slice ao n cap,.int .i64 ex]) ∧
   Hid (Nrm w' w5.heap.size (.agg #[.bool s,.slice ao n cap,.int .i64 ex]) na (X - Y) e∧w4.heap.size≤w5.heap.size)∧Bw w4 w'∧Hid (w'.heap[w.heap.size+1+1]?=some (.cells #[.bool false,.slice none 0 0,.int .i64 0] 45 (0,0))) ∧
   (w'.cell? ⟨w.heap.size+1+1,0,none⟩=some (.bool false)∧w'.cell? ⟨w.heap.size+1+1,1,none⟩=some (.slice none 0 0)∧w'.cell? ⟨w.heap.size+1+1,2,none⟩=some (.int .i64 0))∧(w'.frozen? ⟨w.heap.size+1+1,0,none⟩=false∧w'.frozen? ⟨w.heap.size+1+1,1,none⟩=false∧w'.frozen? ⟨w.heap.size+1+1,2,none⟩=false):=by
  intro v5 w5 ho hb
  refine(c56 ho.is (Nat.le_trans (dlen_mono (Nat.sub_le ..)) (by omega)) ((hTW.later hB4).later hb) (by omega)).mono ?_
  rintro r w6 ⟨a,rfl,hN,hb6⟩
  obtain⟨s,ao,n,cap,ex,rfl⟩:=hN.shape
  have hb46:Bw w4 w6:=hb.trans (hb6.mono hb.size)
  have hblk:=box_later HC4.out.1 hb46 (by have:=HC4.out.2.size;omega)
  obtain⟨f1,f2⟩:=box_cells hblk
  exact⟨s,ao,n,cap,ex,rfl,⟨hN,hb.size⟩,hb46,hblk,f1,f2⟩
 clear h1 h2 h3 hp hq hB4 k99 hs hBW hTW hKeep hX1 hX2 hlt
 go_wp2_with fail
 refine k129.mono ?_
 rintro r w7 ⟨rfl,dd,rfl⟩
 have k138:=k138 dd
 clear k129
 have HK2:Hid (∀ w',Bw w4 w'→w'.cell? ⟨w.heap.size,0,none⟩=some (.bool na)):=HK.out
 have z0:(w4.drewN dd).cell? ⟨w.heap.size,0,none⟩=some (.bool na):=a0
 go_wp2
 go_region_held3 (fun w'=>w'.cell? ⟨w.heap.size,0,none⟩=some (.bool na)) (first|(with_reducible assumption)|(refine HK.out _ ?_;with_reducible assumption)|(rw[World.cell?_setCell_other _ _ _ _ (by simp),World.cell?_setCell_other _ _ _ _ (by simp),World.cell?_setCell_other _ _ _ _ (by simp)];refine HK.out _ ?_;with_reducible assumption)|go_keep)
  (first|(go_at_call 148;refine k138.mono ?_;rintro r w5 ⟨v5,rfl,ho5,hb5⟩)|(go_at_call 126;refine(k56 _ _ ho5 hb5).mono ?_;rintro r w6 ⟨s6,ao6,n6,cap6,ex6,rfl,hN6,hb6,hblk6,⟨x1,x2,x3⟩,x4,x5,x6⟩))
 have HF:Hid (Bw w4 w6):=hb6
 clear ho5 hb5 hb6 k56 k138 x1 x2 x3 x4 x5 x6 a0 a1 a2 b0 b1 b2 HK
 go_wp2
 refine bodyPost_ret (results_cell_row rfl _ _ (w.heap.size+1+1) 45 #[.bool s6,.slice ao6 n6 cap6,.int .i64 ex6] (0,0) _ rfl (store3 _ _ _ hblk6.out) Tryz.underlying45 rfl Tryz.info45) rfl ?_
 obtain⟨-,hs,hBW,-⟩:=HH.out
 have hs4:=HC4.out.2.size
 have hs5:=hN6.out.2
 exact⟨_,rfl,(hN6.out.1.store (by omega) _ _ _).mono (by omega),below_store3 (hBW.trans ((HC4.out.2.trans (HF.out.mono hs4)).mono hBW.size)) (by omega) _ _ _⟩
def sumN (na:Bool) (x:Nat) (ea:Int) (nb:Bool) (y:Nat) (eb:Int):Bool×Nat×Int :=
 if x=0 then(nb,y,eb)else if y=0 then(na,x,ea) else
  if na=nb then(na,x*2^(ea - min ea eb).toNat+y*2^(eb - min ea eb).toNat,min ea eb)
  else if x*2^(ea - min ea eb).toNat<y*2^(eb - min ea eb).toNat then(nb,y*2^(eb - min ea eb).toNat - x*2^(ea - min ea eb).toNat,min ea eb)
  else(na,x*2^(ea - min ea eb).toNat - y*2^(eb - min ea eb).toNat,min ea eb)
theorem len_ne {x n:Nat} (hx:x≠0):((dlen x:Int)==0)=false:=by
 have:dlen x≠0:=fun e=>hx (dlen_eq_zero.1 e)
 simp;omega
theorem dlen_add_le (x y:Nat):dlen (x+y)≤max (dlen x) (dlen y)+1:=by
 rw[dlen_le,Bpow_succ]
 have h1:=(dlen_le (max (dlen x) (dlen y)) x).1 (by omega)
 have h2:=(dlen_le (max (dlen x) (dlen y)) y).1 (by omega)
 have:B^max (dlen x) (dlen y)*2≤B^max (dlen x) (dlen y)*B:=Nat.mul_le_mul_left _ (by unfold B;omega)
 omega
theorem c87 {na nb:Bool} {u v:Value} {x y:Nat} {ea eb:Int} {w:World} (h1:Is w u x) (h2:Is w v y) (hx:dlen x≤500000) (hy:dlen y≤500000) (ha : -4000000≤ea∧ea≤4000000) (hb : -4000000≤eb∧eb≤4000000) (hT:Tab32 w) :
  Calls Tryz.prog 124 #[NumV na u ea,NumV nb v eb] w fun r w'=>∃ a,r=.returned a∧Nrm w' w.heap.size a (sumN na x ea nb y eb).1 (sumN na x ea nb y eb).2.1 (sumN na x ea nb y eb).2.2∧Bw w w':=by
 have h1':=h1
 have h2':=h2
 obtain⟨ua,uc,rfl,-,-,-⟩:=h1'
 obtain⟨va,vc,rfl,-,-,-⟩:=h2'
 unfold sumN
 by_cases x0:x=0
 ·subst x0
  rw[if_pos rfl,dlen_zero]
  exact c87_a na nb ua va uc _ vc y ea eb w hT h2 (by omega) hb
 ·rw[if_neg x0]
  by_cases y0:y=0
  ·subst y0
   rw[if_pos rfl,dlen_zero]
   exact c87_b na nb ua va _ uc vc x ea eb w hT h1 (by omega) ha (len_ne (n:=0) x0)
  ·rw[if_neg y0]
   have hm : -4000000≤min ea eb∧min ea eb≤4000000:=by omega
   have l1:dlen (x*2^(ea - min ea eb).toNat)≤760000:=by have:=shl_len (x:=x) (k:=(ea - min ea eb).toNat) rfl;omega
   have l2:dlen (y*2^(eb - min ea eb).toNat)≤760000:=by have:=shl_len (x:=y) (k:=(eb - min ea eb).toNat) rfl;omega
   have h99:∀ W,Bw w W→Calls Tryz.prog 153 #[NumV na (.slice ua (dlen x) uc) ea,NumV nb (.slice va (dlen y) vc) eb] W fun r w'=>∃ p q,r=.returned (.tuple #[p,q,.int .i64 (min ea eb)])∧Own w' W.heap.size p (x*2^(ea - min ea eb).toNat)∧Own w' W.heap.size q (y*2^(eb - min ea eb).toNat)∧Bw W w' :=
    fun W hW=>c99 (h1.later hW) (h2.later hW) (by omega) (by omega) ha hb
   by_cases hs:na=nb
   ·subst hs
    rw[if_pos rfl]
    exact c87_c na ua va _ uc _ vc _ _ ea eb _ w hT (by have:=dlen_add_le (x*2^(ea - min ea eb).toNat) (y*2^(eb - min ea eb).toNat);omega) (by omega) (by omega) hm (len_ne (n:=0) x0) (len_ne (n:=0) y0) h99
   ·rw[if_neg hs]
    have hne:(na==nb)=false:=by simp[hs]
    by_cases hlt:x*2^(ea - min ea eb).toNat<y*2^(eb - min ea eb).toNat
    ·rw[if_pos hlt]
     exact c87_d na nb ua va _ uc _ vc _ _ ea eb _ w hT hlt hne (by omega) (by omega) hm (len_ne (n:=0) x0) (len_ne (n:=0) y0) h99
    ·rw[if_neg hlt]
     exact c87_e na nb ua va _ uc _ vc _ _ ea eb _ w hT (by omega) hne (by omega) (by omega) hm (len_ne (n:=0) x0) (len_ne (n:=0) y0) h99
theorem maybe2 {na nb:Bool} {ua va:Option Addr} {uc vc x y g:Nat} {ea eb:Int} {W:World} (hg:W.heap[g]?=some (.cells #[.bool na,.slice ua (dlen x) uc,.int .i64 ea,.bool nb,.slice va (dlen y) vc,.int .i64 eb] 45 (0,0)))
  (h1:Is W (.slice ua (dlen x) uc) x) (h2:Is W (.slice va (dlen y) vc) y) (hx:dlen x≤35184372088832) (hy:dlen y≤35184372088832) :
  Calls Tryz.prog 90 #[.slice (some ⟨g,0,none⟩) 2 2] W fun r w'=>r=.returned (.bool (okN na (dlen x) x ea&&okN nb (dlen y) y eb))∧Bw W w':=by
 obtain⟨ao1,c1,e1,-,-,a1⟩:=h1
 obtain⟨ao2,c2,e2,-,-,a2⟩:=h2
 simp only[Value.slice.injEq] at e1 e2
 obtain⟨rfl,-,rfl⟩:=e1
 obtain⟨rfl,-,rfl⟩:=e2
 have k:=c67 g 2 (fun i=>if i=0 then na else nb) (fun i=>if i=0 then ua else va) (fun i=>if i=0 then dlen x else dlen y) (fun i=>if i=0 then uc else vc) (fun i=>if i=0 then x else y) (fun i=>if i=0 then ea else eb) W (by omega)
  (fun i hi=>by rcases(show i=0∨i=1 by omega)with rfl|rfl <;> simp[World.cell?,hg])
  (fun i hi=>by rcases(show i=0∨i=1 by omega)with rfl|rfl <;> simp[World.cell?,hg])
  (fun i hi=>by rcases(show i=0∨i=1 by omega)with rfl|rfl <;> simp[World.cell?,hg])
  (fun i hi=>by rcases(show i=0∨i=1 by omega)with rfl|rfl <;> simp <;> assumption)
  (fun i hi=>by rcases(show i=0∨i=1 by omega)with rfl|rfl <;> simp <;> omega)
 refine k.mono ?_
 rintro r w' ⟨rfl,hb⟩
 refine⟨congrArg Ending.returned (congrArg Value.bool ?_),hb⟩
 rw[Bool.eq_iff_iff]
 simp only[decide_eq_true_eq,Bool.and_eq_true]
 constructor
 ·intro h
  have h0:=h 0 (by omega)
  have h1:=h 1 (by omega)
  simp at h0 h1
  exact⟨h0,h1⟩
 ·rintro⟨h0,h1⟩ i hi
  rcases(show i=0∨i=1 by omega)with rfl|rfl
  ·simpa using h0
  ·simpa using h1
def okR (s:Bool) (z:Nat) (e:Int):Bool:=if z=0 then true else okN s (dlen (z / 2^tz z)) (z / 2^tz z) (e+tz z)
theorem c63n {s:Bool} {z:Nat} {e:Int} {A:Value} {w:World} {base:Nat} (h:Nrm w base A s z e) (hz:dlen z≤35184372088832) :
  Calls Tryz.prog 123 #[A] w fun r w'=>r=.returned (.tuple #[if okR s z e then A else Nil,.int .i64 (if okR s z e then 0 else 2)])∧Bw w w':=by
 unfold okR
 rcases h with ⟨rfl,rfl⟩|⟨h0,v,rfl,ho⟩
 ·have:=c63 (neg:=false) (cap:=0) (e:=0) (w:=w) (ao:=none) (n:=0) (z:=0) ⟨0,0,fun h=>by omega,fun i hi=>by omega⟩ (by omega)
  have e0:okN false 0 0 0=true:=rfl
  rw[e0] at this
  simpa [NumV] using this
 ·obtain⟨ao,cap,rfl,-,-,ha⟩:=ho.is
  rw[if_neg h0]
  exact c63 ha (Nat.le_trans (dlen_mono (Nat.div_le_self ..)) hz)
def Held (w:World) (s:Bool) (z:Nat) (e:Int) (r:Ending) (w':World):Prop :=
 ∃ A,r=.returned (.tuple #[if okR s z e then A else Nil,.int .i64 (if okR s z e then 0 else 2)])∧Nrm w' w.heap.size A s z e∧Bw w w'
theorem c34_1 (na nb:Bool) (ua va:Option Addr) (un uc vn vc x y z:Nat) (ea eb e:Int) (s:Bool) (w:World) (hz:dlen z≤35184372088832)
  (k67:∀ W g,Bw w W→W.heap[g]?=some (.cells #[.bool na,.slice ua un uc,.int .i64 ea,.bool nb,.slice va vn vc,.int .i64 eb] 45 (0,0))→Calls Tryz.prog 90 #[.slice (some ⟨g,0,none⟩) 2 2] W fun r w'=>r=.returned (.bool true)∧Bw W w')
  (k87:∀ W,Bw w W→Calls Tryz.prog 124 #[.agg #[.bool na,.slice ua un uc,.int .i64 ea],.agg #[.bool nb,.slice va vn vc,.int .i64 eb]] W fun r w'=>∃ a,r=.returned a∧Nrm w' W.heap.size a s z e∧Bw W w') :
  Calls Tryz.prog 88 #[NumV na (.slice ua un uc) ea,NumV nb (.slice va vn vc) eb] w fun r w'=>Held w s z e r w':=by
 obtain⟨W,hW⟩:∃ W,W=((w.alloc (.cells #[.bool na,.slice ua un uc,.int .i64 ea] 45)).alloc (.cells #[.bool nb,.slice va vn vc,.int .i64 eb] 45)).alloc (.cells #[.bool false,.slice none 0 0,.int .i64 0] 45):=⟨_,rfl⟩
 obtain⟨hA,hBb,hC,hsz,hBW⟩:=boxes3 _ _ _ hW
 have hB4:Below w.heap.size w (W.alloc (.cells #[.bool na,.slice ua un uc,.int .i64 ea,.bool nb,.slice va vn vc,.int .i64 eb] 45)):=hBW.alloc hBW.size _
 have k1:=k67 (W.alloc (.cells #[.bool na,.slice ua un uc,.int .i64 ea,.bool nb,.slice va vn vc,.int .i64 eb] 45)) (w.heap.size+1+1+1) hB4 (by rw[←hsz];exact heap_alloc_new _ _)
 have HH:Hid ((W.heap[w.heap.size]?=some (.cells #[.bool na,.slice ua un uc,.int .i64 ea] 45 (0,0))∧W.heap[w.heap.size+1]?=some (.cells #[.bool nb,.slice va vn vc,.int .i64 eb] 45 (0,0))∧W.heap[w.heap.size+1+1]?=some (.cells #[.bool false,.slice none 0 0,.int .i64 0] 45 (0,0)))∧W.heap.size=w.heap.size+1+1+1∧Bw w W∧Below W.heap.size W (W.alloc (.cells #[.bool na,.slice ua un uc,.int .i64 ea,.bool nb,.slice va vn vc,.int .i64 eb] 45))):=⟨⟨hA,hBb,hC⟩,hsz,hBW,(Below.refl _ _).alloc (Nat.le_refl _) _⟩
 have HZ:Hid (dlen z≤35184372088832):=hz
 have HK87:Hid _:=k87
 unfold NumV
 clear hA hBb hC hsz hBW hB4 k67 k87 hz
 go_enter Tryz.func88,Tryz.ntmps88
 go_wp2_with fail
 rw[←hW]
 clear hW
 refine k1.mono ?_
 rintro r w1 ⟨rfl,hB1⟩
 clear k1
 have hBW1:Bw W w1:=HH.out.2.2.2.trans (hB1.mono HH.out.2.2.2.size)
 obtain⟨⟨a0,a1,a2⟩,-⟩:=box_cells (box_later HH.out.1.1 hBW1 (by have:=HH.out.2.1;omega))
 obtain⟨⟨b0,b1,b2⟩,-⟩:=box_cells (box_later HH.out.1.2.1 hBW1 (by have:=HH.out.2.1;omega))
 have HB1:Hid (Bw W w1):=hBW1
 clear hB1 hBW1
 go_wp2_with fail
 refine(HK87.out w1 (HH.out.2.2.1.trans (HB1.out.mono HH.out.2.2.1.size))).mono ?_
 rintro r w2 ⟨A,rfl,hN,hB2⟩
 have HB2:Hid (Bw W w2):=HB1.out.trans (hB2.mono HB1.out.size)
 have HN:Hid (Nrm w2 W.heap.size A s z e):=hN.mono HB1.out.size
 clear hN hB2 a0 a1 a2 b0 b1 b2
 go_wp2_with fail
 refine(c63n HN.out HZ.out).mono ?_
 rintro r w3 ⟨rfl,hB3⟩
 have HB3:Hid (Bw W w3):=HB2.out.trans (hB3.mono HB2.out.size)
 have HN3:Hid (Nrm w3 W.heap.size A s z e):=by
  rcases HN.out with h|⟨h0,v,h1,ho⟩
  ·exact .inl h
  ·exact .inr ⟨h0,v,h1,ho.later hB3⟩
 have HC3:Hid (w3.heap[w.heap.size+1+1]?=some (.cells #[.bool false,.slice none 0 0,.int .i64 0] 45 (0,0))):=box_later HH.out.1.2.2 HB3.out (by have:=HH.out.2.1;omega)
 obtain⟨⟨x1,x2,x3⟩,x4,x5,x6⟩:=box_cells HC3.out
 obtain⟨s',ao,n,cap,ex,hsh⟩:=HN3.out.shape
 have HSH:Hid (A=.agg #[.bool s',.slice ao n cap,.int .i64 ex]):=hsh
 clear hB3
 cases hok:okR s z e
 ·clear hsh
  have hNil:Nil=.agg #[.bool false,.slice none 0 0,.int .i64 0]:=rfl
  go_wp2
  refine bodyPost_ret (results_cell_tmp_row rfl _ _ (w.heap.size+1+1) 45 #[.bool false,.slice none 0 0,.int .i64 0] (0,0) _ rfl (store3 _ _ _ HC3.out) Tryz.underlying45 rfl Tryz.info45) rfl ?_
  obtain⟨-,hs,hBW,-⟩:=HH.out
  exact⟨A,by rw[hok];rfl,(HN3.out.store (by omega) _ _ _).mono (by omega),below_store3 (hBW.trans (HB3.out.mono hBW.size)) (by omega) _ _ _⟩
 ·subst hsh
  go_wp2
  refine bodyPost_ret (results_cell_tmp_row rfl _ _ (w.heap.size+1+1) 45 #[.bool s',.slice ao n cap,.int .i64 ex] (0,0) _ rfl (store3 _ _ _ HC3.out) Tryz.underlying45 rfl Tryz.info45) rfl ?_
  obtain⟨-,hs,hBW,-⟩:=HH.out
  exact⟨_,by rw[hok];rfl,(HN3.out.store (by omega) _ _ _).mono (by omega),below_store3 (hBW.trans (HB3.out.mono hBW.size)) (by omega) _ _ _⟩
theorem results_cell_tmp2_row {P:Program} {fn:Func} {p u v:Tmp} {ty:TypeId} (h:fn.results = #[.cell p ty,.tmp u,.tmp v]) (tmps:Array Value) (w:World) (g:Nat) (t:TypeId) (cs:Array Value) (fr:Nat×Nat) (d:TypeDesc)
  (hp:tmps.getD p undef=.pointer (some ⟨g,0,none⟩)) (hg:w.heap[g]?=some (.cells cs t fr))
  (hu:P.underlying ty=some d) (hd:(match d with | .struct _ | .array _ _=>true|_=>false)=true) (hi:(P.info? ty).map (·.size)=some cs.size) :
  (results fn tmps).run P w=.ok (.tuple #[.agg cs,tmps.getD u undef,tmps.getD v undef]) w:=by
 have hp':tmps[p]?.getD undef=.pointer (some ⟨g,0,none⟩):=by simpa using hp
 simp[results,h,hp',asAddr,run_loadVar_row w g t ty cs fr d hg hu hd hi]
def Held3 (w:World) (s:Bool) (z:Nat) (e:Int) (x:Bool) (r:Ending) (w':World):Prop :=
 ∃ A,r=.returned (.tuple #[if okR s z e then A else Nil,.bool (x&&okR s z e),.int .i64 (if okR s z e then 0 else 2)])∧Nrm w' w.heap.size A s z e∧Bw w w'
theorem c96_ff (v:Value) (x:Nat) (place:Int) (w:World) (hT:Tab32 w) (h:Is w v x) (hx:dlen x≤1000000) (hp1 : -4000000≤place) (hp2:place≤4000000) :
  Calls Tryz.prog 154 #[.bool false,v,.int .i64 place,.bool false] w fun r w'=>Held3 w false x (-place) false r w':=by
 obtain⟨W,hW⟩:∃ W,W=w.alloc (.cells #[.bool false,.slice none 0 0,.int .i64 0] 45):=⟨_,rfl⟩
 have hBW:Bw w W:=by rw[hW];exact(Below.refl _ _).alloc (Nat.le_refl _) _
 have hC:W.heap[w.heap.size]?=some (.cells #[.bool false,.slice none 0 0,.int .i64 0] 45 (0,0)):=by rw[hW];exact heap_alloc_new _ _
 have hsz:W.heap.size=w.heap.size+1:=by rw[hW];simp
 have k56:=c56 (neg:=false) (e := -place) (h.later hBW) (by omega) (hT.later hBW) (by omega)
 have HH:Hid (W.heap[w.heap.size]?=some (.cells #[.bool false,.slice none 0 0,.int .i64 0] 45 (0,0))∧W.heap.size=w.heap.size+1∧Bw w W∧dlen x≤1000000):=⟨hC,hsz,hBW,hx⟩
 have HB1:Hid (Bw W W):=Below.refl _ _
 clear hT h hx hBW hC hsz
 go_enter Tryz.func154,Tryz.ntmps154
 go_wp2_with fail
 rw[←hW]
 clear hW
 refine k56.mono ?_
 rintro r w2 ⟨A,rfl,hN,hB2⟩
 clear k56
 have HN:Hid (Nrm w2 W.heap.size A false x (-place)):=hN.mono HB1.out.size
 have HB2:Hid (Bw W w2):=HB1.out.trans (hB2.mono HB1.out.size)
 clear hN hB2
 go_wp2_with fail
 refine(c63n HN.out (by have:=HH.out.2.2.2;omega)).mono ?_
 rintro r w3 ⟨rfl,hB3⟩
 have HB3:Hid (Bw W w3):=HB2.out.trans (hB3.mono HB2.out.size)
 have HN3:Hid (Nrm w3 W.heap.size A false x (-place)):=by
  rcases HN.out with h|⟨h0,v,h1,ho⟩
  ·exact .inl h
  ·exact .inr ⟨h0,v,h1,ho.later hB3⟩
 have HC3:Hid (w3.heap[w.heap.size]?=some (.cells #[.bool false,.slice none 0 0,.int .i64 0] 45 (0,0))):=box_later HH.out.1 HB3.out (by have:=HH.out.2.1;omega)
 have hlt3:w.heap.size<w3.heap.size:=by have:=HB3.out.size;have:=HH.out.2.1;omega
 have HC4:Hid (∀ p q r o,((((w3.setCell ⟨w.heap.size,0,none⟩ p).setCell ⟨w.heap.size,1,none⟩ q).setCell ⟨w.heap.size,2,none⟩ r).alloc o).heap[w.heap.size]?=some (.cells #[p,q,r] 45 (0,0))):=fun p q r o=>(Below.heap_alloc _ _ _ (by simp[World.setCell];omega)).trans (store3 _ _ _ HC3.out)
 obtain⟨⟨x1,x2,x3⟩,x4,x5,x6⟩:=box_cells HC3.out
 obtain⟨s',ao,n,cap,ex,hsh⟩:=HN3.out.shape
 obtain⟨-,hs,hBW,-⟩:=HH.out
 have HFIN:Hid (∀ p q r o,Nrm ((((w3.setCell ⟨w.heap.size,0,none⟩ p).setCell ⟨w.heap.size,1,none⟩ q).setCell ⟨w.heap.size,2,none⟩ r).alloc o) w.heap.size A false x (-place)∧Below w.heap.size w ((((w3.setCell ⟨w.heap.size,0,none⟩ p).setCell ⟨w.heap.size,1,none⟩ q).setCell ⟨w.heap.size,2,none⟩ r).alloc o)):=by
  intro p q r o
  have hna:Nrm ((((w3.setCell ⟨w.heap.size,0,none⟩ p).setCell ⟨w.heap.size,1,none⟩ q).setCell ⟨w.heap.size,2,none⟩ r).alloc o) W.heap.size A false x (-place):=by
   rcases HN3.out.store (g:=w.heap.size) (by omega) p q r with h|⟨h0,v,h1,ho⟩
   ·exact .inl h
   ·exact .inr ⟨h0,v,h1,ho.later ((Below.refl _ _).alloc (Nat.le_refl _) _)⟩
  exact⟨hna.mono (by omega),(below_store3 (hBW.trans (HB3.out.mono (by omega))) (Nat.le_refl _) _ _ _).alloc (by simp[World.setCell];omega) _⟩
 clear hB3 hs hBW
 have HOK:Hid (okR false x (-place)=okR false x (-place)):=(rfl:_=_)
 cases hok:okR false x (-place)
 ·have hNil:Nil=.agg #[.bool false,.slice none 0 0,.int .i64 0]:=rfl
  clear hsh
  go_wp2
  refine bodyPost_ret (results_cell_tmp2_row rfl _ _ w.heap.size 45 #[.bool false,.slice none 0 0,.int .i64 0] (0,0) _ rfl (HC4.out _ _ _ _) Tryz.underlying45 rfl Tryz.info45) rfl ?_
  exact⟨A,by rw[hok];rfl,HFIN.out _ _ _ _⟩
 ·subst hsh
  go_wp2
  refine bodyPost_ret (results_cell_tmp2_row rfl _ _ w.heap.size 45 #[.bool s',.slice ao n cap,.int .i64 ex] (0,0) _ rfl (HC4.out _ _ _ _) Tryz.underlying45 rfl Tryz.info45) rfl ?_
  exact⟨_,by rw[hok];rfl,HFIN.out _ _ _ _⟩
theorem c96_ft (v:Value) (x:Nat) (place:Int) (w:World) (hT:Tab32 w) (h:Is w v x) (hx:dlen x≤1000000) (hp1 : -4000000≤place) (hp2:place≤4000000) :
  Calls Tryz.prog 154 #[.bool false,v,.int .i64 place,.bool true] w fun r w'=>Held3 w false x (-place) true r w':=by
 obtain⟨W,hW⟩:∃ W,W=w.alloc (.cells #[.bool false,.slice none 0 0,.int .i64 0] 45):=⟨_,rfl⟩
 have hBW:Bw w W:=by rw[hW];exact(Below.refl _ _).alloc (Nat.le_refl _) _
 have hC:W.heap[w.heap.size]?=some (.cells #[.bool false,.slice none 0 0,.int .i64 0] 45 (0,0)):=by rw[hW];exact heap_alloc_new _ _
 have hsz:W.heap.size=w.heap.size+1:=by rw[hW];simp
 have k56:=c56 (neg:=false) (e := -place) (h.later hBW) (by omega) (hT.later hBW) (by omega)
 have HH:Hid (W.heap[w.heap.size]?=some (.cells #[.bool false,.slice none 0 0,.int .i64 0] 45 (0,0))∧W.heap.size=w.heap.size+1∧Bw w W∧dlen x≤1000000):=⟨hC,hsz,hBW,hx⟩
 have HB1:Hid (Bw W W):=Below.refl _ _
 clear hT h hx hBW hC hsz
 go_enter Tryz.func154,Tryz.ntmps154
 go_wp2_with fail
 rw[←hW]
 clear hW
 refine k56.mono ?_
 rintro r w2 ⟨A,rfl,hN,hB2⟩
 clear k56
 have HN:Hid (Nrm w2 W.heap.size A false x (-place)):=hN.mono HB1.out.size
 have HB2:Hid (Bw W w2):=HB1.out.trans (hB2.mono HB1.out.size)
 clear hN hB2
 go_wp2_with fail
 refine(c63n HN.out (by have:=HH.out.2.2.2;omega)).mono ?_
 rintro r w3 ⟨rfl,hB3⟩
 have HB3:Hid (Bw W w3):=HB2.out.trans (hB3.mono HB2.out.size)
 have HN3:Hid (Nrm w3 W.heap.size A false x (-place)):=by
  rcases HN.out with h|⟨h0,v,h1,ho⟩
  ·exact .inl h
  ·exact .inr ⟨h0,v,h1,ho.later hB3⟩
 have HC3:Hid (w3.heap[w.heap.size]?=some (.cells #[.bool false,.slice none 0 0,.int .i64 0] 45 (0,0))):=box_later HH.out.1 HB3.out (by have:=HH.out.2.1;omega)
 have hlt3:w.heap.size<w3.heap.size:=by have:=HB3.out.size;have:=HH.out.2.1;omega
 have HC4:Hid (∀ p q r o,((((w3.setCell ⟨w.heap.size,0,none⟩ p).setCell ⟨w.heap.size,1,none⟩ q).setCell ⟨w.heap.size,2,none⟩ r).alloc o).heap[w.heap.size]?=some (.cells #[p,q,r] 45 (0,0))):=fun p q r o=>(Below.heap_alloc _ _ _ (by simp[World.setCell];omega)).trans (store3 _ _ _ HC3.out)
 obtain⟨⟨x1,x2,x3⟩,x4,x5,x6⟩:=box_cells HC3.out
 obtain⟨s',ao,n,cap,ex,hsh⟩:=HN3.out.shape
 obtain⟨-,hs,hBW,-⟩:=HH.out
 have HFIN:Hid (∀ p q r o,Nrm ((((w3.setCell ⟨w.heap.size,0,none⟩ p).setCell ⟨w.heap.size,1,none⟩ q).setCell ⟨w.heap.size,2,none⟩ r).alloc o) w.heap.size A false x (-place)∧Below w.heap.size w ((((w3.setCell ⟨w.heap.size,0,none⟩ p).setCell ⟨w.heap.size,1,none⟩ q).setCell ⟨w.heap.size,2,none⟩ r).alloc o)):=by
  intro p q r o
  have hna:Nrm ((((w3.setCell ⟨w.heap.size,0,none⟩ p).setCell ⟨w.heap.size,1,none⟩ q).setCell ⟨w.heap.size,2,none⟩ r).alloc o) W.heap.size A false x (-place):=by
   rcases HN3.out.store (g:=w.heap.size) (by omega) p q r with h|⟨h0,v,h1,ho⟩
   ·exact .inl h
   ·exact .inr ⟨h0,v,h1,ho.later ((Below.refl _ _).alloc (Nat.le_refl _) _)⟩
  exact⟨hna.mono (by omega),(below_store3 (hBW.trans (HB3.out.mono (by omega))) (Nat.le_refl _) _ _ _).alloc (by simp[World.setCell];omega) _⟩
 clear hB3 hs hBW
 have HOK:Hid (okR false x (-place)=okR false x (-place)):=(rfl:_=_)
 cases hok:okR false x (-place)
 ·have hNil:Nil=.agg #[.bool false,.slice none 0 0,.int .i64 0]:=rfl
  clear hsh
  go_wp2
  refine bodyPost_ret (results_cell_tmp2_row rfl _ _ w.heap.size 45 #[.bool false,.slice none 0 0,.int .i64 0] (0,0) _ rfl (HC4.out _ _ _ _) Tryz.underlying45 rfl Tryz.info45) rfl ?_
  exact⟨A,by rw[hok];rfl,HFIN.out _ _ _ _⟩
 ·subst hsh
  go_wp2
  refine bodyPost_ret (results_cell_tmp2_row rfl _ _ w.heap.size 45 #[.bool s',.slice ao n cap,.int .i64 ex] (0,0) _ rfl (HC4.out _ _ _ _) Tryz.underlying45 rfl Tryz.info45) rfl ?_
  exact⟨_,by rw[hok];rfl,HFIN.out _ _ _ _⟩
theorem c96_tt (v:Value) (x:Nat) (place:Int) (w:World) (hT:Tab32 w) (h:Is w v x) (hx:dlen x≤1000000) (hp1 : -4000000≤place) (hp2:place≤4000000) :
  Calls Tryz.prog 154 #[.bool true,v,.int .i64 place,.bool true] w fun r w'=>Held3 w true x (-place) true r w':=by
 obtain⟨W,hW⟩:∃ W,W=w.alloc (.cells #[.bool false,.slice none 0 0,.int .i64 0] 45):=⟨_,rfl⟩
 have hBW:Bw w W:=by rw[hW];exact(Below.refl _ _).alloc (Nat.le_refl _) _
 have hC:W.heap[w.heap.size]?=some (.cells #[.bool false,.slice none 0 0,.int .i64 0] 45 (0,0)):=by rw[hW];exact heap_alloc_new _ _
 have hsz:W.heap.size=w.heap.size+1:=by rw[hW];simp
 have k56:=c56 (neg:=true) (e := -place) (h.later hBW) (by omega) (hT.later hBW) (by omega)
 have HH:Hid (W.heap[w.heap.size]?=some (.cells #[.bool false,.slice none 0 0,.int .i64 0] 45 (0,0))∧W.heap.size=w.heap.size+1∧Bw w W∧dlen x≤1000000):=⟨hC,hsz,hBW,hx⟩
 have HB1:Hid (Bw W W):=Below.refl _ _
 clear hT h hx hBW hC hsz
 go_enter Tryz.func154,Tryz.ntmps154
 go_wp2_with fail
 rw[←hW]
 clear hW
 refine k56.mono ?_
 rintro r w2 ⟨A,rfl,hN,hB2⟩
 clear k56
 have HN:Hid (Nrm w2 W.heap.size A true x (-place)):=hN.mono HB1.out.size
 have HB2:Hid (Bw W w2):=HB1.out.trans (hB2.mono HB1.out.size)
 clear hN hB2
 go_wp2_with fail
 refine(c63n HN.out (by have:=HH.out.2.2.2;omega)).mono ?_
 rintro r w3 ⟨rfl,hB3⟩
 have HB3:Hid (Bw W w3):=HB2.out.trans (hB3.mono HB2.out.size)
 have HN3:Hid (Nrm w3 W.heap.size A true x (-place)):=by
  rcases HN.out with h|⟨h0,v,h1,ho⟩
  ·exact .inl h
  ·exact .inr ⟨h0,v,h1,ho.later hB3⟩
 have HC3:Hid (w3.heap[w.heap.size]?=some (.cells #[.bool false,.slice none 0 0,.int .i64 0] 45 (0,0))):=box_later HH.out.1 HB3.out (by have:=HH.out.2.1;omega)
 have hlt3:w.heap.size<w3.heap.size:=by have:=HB3.out.size;have:=HH.out.2.1;omega
 have HC4:Hid (∀ p q r o,((((w3.setCell ⟨w.heap.size,0,none⟩ p).setCell ⟨w.heap.size,1,none⟩ q).setCell ⟨w.heap.size,2,none⟩ r).alloc o).heap[w.heap.size]?=some (.cells #[p,q,r] 45 (0,0))):=fun p q r o=>(Below.heap_alloc _ _ _ (by simp[World.setCell];omega)).trans (store3 _ _ _ HC3.out)
 obtain⟨⟨x1,x2,x3⟩,x4,x5,x6⟩:=box_cells HC3.out
 obtain⟨s',ao,n,cap,ex,hsh⟩:=HN3.out.shape
 obtain⟨-,hs,hBW,-⟩:=HH.out
 have HFIN:Hid (∀ p q r o,Nrm ((((w3.setCell ⟨w.heap.size,0,none⟩ p).setCell ⟨w.heap.size,1,none⟩ q).setCell ⟨w.heap.size,2,none⟩ r).alloc o) w.heap.size A true x (-place)∧Below w.heap.size w ((((w3.setCell ⟨w.heap.size,0,none⟩ p).setCell ⟨w.heap.size,1,none⟩ q).setCell ⟨w.heap.size,2,none⟩ r).alloc o)):=by
  intro p q r o
  have hna:Nrm ((((w3.setCell ⟨w.heap.size,0,none⟩ p).setCell ⟨w.heap.size,1,none⟩ q).setCell ⟨w.heap.size,2,none⟩ r).alloc o) W.heap.size A true x (-place):=by
   rcases HN3.out.store (g:=w.heap.size) (by omega) p q r with h|⟨h0,v,h1,ho⟩
   ·exact .inl h
   ·exact .inr ⟨h0,v,h1,ho.later ((Below.refl _ _).alloc (Nat.le_refl _) _)⟩
  exact⟨hna.mono (by omega),(below_store3 (hBW.trans (HB3.out.mono (by omega))) (Nat.le_refl _) _ _ _).alloc (by simp[World.setCell];omega) _⟩
 clear hB3 hs hBW
 have HOK:Hid (okR true x (-place)=okR true x (-place)):=(rfl:_=_)
 cases hok:okR true x (-place)
 ·have hNil:Nil=.agg #[.bool false,.slice none 0 0,.int .i64 0]:=rfl
  clear hsh
  go_wp2
  refine bodyPost_ret (results_cell_tmp2_row rfl _ _ w.heap.size 45 #[.bool false,.slice none 0 0,.int .i64 0] (0,0) _ rfl (HC4.out _ _ _ _) Tryz.underlying45 rfl Tryz.info45) rfl ?_
  exact⟨A,by rw[hok];rfl,HFIN.out _ _ _ _⟩
 ·subst hsh
  go_wp2
  refine bodyPost_ret (results_cell_tmp2_row rfl _ _ w.heap.size 45 #[.bool s',.slice ao n cap,.int .i64 ex] (0,0) _ rfl (HC4.out _ _ _ _) Tryz.underlying45 rfl Tryz.info45) rfl ?_
  exact⟨_,by rw[hok];rfl,HFIN.out _ _ _ _⟩
theorem dlen_one:dlen 1=1:=dlen_eq (by unfold B;omega) (.inr (by simp))
theorem c96_tf (v:Value) (x:Nat) (place:Int) (w:World) (hT:Tab32 w) (h:Is w v x) (hx:dlen x≤900000) (hp1 : -4000000≤place) (hp2:place≤4000000) :
  Calls Tryz.prog 154 #[.bool true,v,.int .i64 place,.bool false] w fun r w'=>Held3 w true (x+1) (-place) false r w':=by
 obtain⟨W,hW⟩:∃ W,W=w.alloc (.cells #[.bool false,.slice none 0 0,.int .i64 0] 45):=⟨_,rfl⟩
 have hBW:Bw w W:=by rw[hW];exact(Below.refl _ _).alloc (Nat.le_refl _) _
 have hC:W.heap[w.heap.size]?=some (.cells #[.bool false,.slice none 0 0,.int .i64 0] 45 (0,0)):=by rw[hW];exact heap_alloc_new _ _
 have hsz:W.heap.size=w.heap.size+1:=by rw[hW];simp
 have HH:Hid (W.heap[w.heap.size]?=some (.cells #[.bool false,.slice none 0 0,.int .i64 0] 45 (0,0))∧W.heap.size=w.heap.size+1∧Bw w W∧dlen x≤900000):=⟨hC,hsz,hBW,hx⟩
 have HI:Hid (Is W v x∧Tab32 W):=⟨h.later hBW,hT.later hBW⟩
 clear hT h hx hBW hC hsz
 go_enter Tryz.func154,Tryz.ntmps154
 go_wp2_with fail
 rw[←hW]
 clear hW
 refine(c57 1 W (by omega)).mono ?_
 rintro r wa ⟨v1,rfl,hO1,hBa⟩
 have hIa:=HI.out.1.later hBa
 go_wp2_with fail
 refine(c122 hIa hO1.is (by have:=HH.out.2.2.2;omega) (by rw[dlen_one];omega)).mono ?_
 rintro r wb ⟨vb,rfl,hOb,hBb⟩
 have HB1:Hid (Bw W wb):=below_step hBa hBb
 have k56:=c56 (neg:=true) (e := -place) hOb.is (by have:=HH.out.2.2.2;have:=dlen_add_le x 1;have:=dlen_one;omega) (HI.out.2.later HB1.out) (by omega)
 clear hO1 hIa hBa hBb hOb HI
 go_wp2_with fail
 refine k56.mono ?_
 rintro r w2 ⟨A,rfl,hN,hB2⟩
 clear k56
 have HN:Hid (Nrm w2 W.heap.size A true (x+1) (-place)):=hN.mono HB1.out.size
 have HB2:Hid (Bw W w2):=HB1.out.trans (hB2.mono HB1.out.size)
 clear hN hB2
 go_wp2_with fail
 refine(c63n HN.out (by have:=HH.out.2.2.2;have:=dlen_add_le x 1;have:=dlen_one;omega)).mono ?_
 rintro r w3 ⟨rfl,hB3⟩
 have HB3:Hid (Bw W w3):=HB2.out.trans (hB3.mono HB2.out.size)
 have HN3:Hid (Nrm w3 W.heap.size A true (x+1) (-place)):=by
  rcases HN.out with h|⟨h0,v,h1,ho⟩
  ·exact .inl h
  ·exact .inr ⟨h0,v,h1,ho.later hB3⟩
 have HC3:Hid (w3.heap[w.heap.size]?=some (.cells #[.bool false,.slice none 0 0,.int .i64 0] 45 (0,0))):=box_later HH.out.1 HB3.out (by have:=HH.out.2.1;omega)
 have hlt3:w.heap.size<w3.heap.size:=by have:=HB3.out.size;have:=HH.out.2.1;omega
 have HC4:Hid (∀ p q r o,((((w3.setCell ⟨w.heap.size,0,none⟩ p).setCell ⟨w.heap.size,1,none⟩ q).setCell ⟨w.heap.size,2,none⟩ r).alloc o).heap[w.heap.size]?=some (.cells #[p,q,r] 45 (0,0))):=fun p q r o=>(Below.heap_alloc _ _ _ (by simp[World.setCell];omega)).trans (store3 _ _ _ HC3.out)
 obtain⟨⟨x1,x2,x3⟩,x4,x5,x6⟩:=box_cells HC3.out
 obtain⟨s',ao,n,cap,ex,hsh⟩:=HN3.out.shape
 obtain⟨-,hs,hBW,-⟩:=HH.out
 have HFIN:Hid (∀ p q r o,Nrm ((((w3.setCell ⟨w.heap.size,0,none⟩ p).setCell ⟨w.heap.size,1,none⟩ q).setCell ⟨w.heap.size,2,none⟩ r).alloc o) w.heap.size A true (x+1) (-place)∧Below w.heap.size w ((((w3.setCell ⟨w.heap.size,0,none⟩ p).setCell ⟨w.heap.size,1,none⟩ q).setCell ⟨w.heap.size,2,none⟩ r).alloc o)):=by
  intro p q r o
  have hna:Nrm ((((w3.setCell ⟨w.heap.size,0,none⟩ p).setCell ⟨w.heap.size,1,none⟩ q).setCell ⟨w.heap.size,2,none⟩ r).alloc o) W.heap.size A true (x+1) (-place):=by
   rcases HN3.out.store (g:=w.heap.size) (by omega) p q r with h|⟨h0,v,h1,ho⟩
   ·exact .inl h
   ·exact .inr ⟨h0,v,h1,ho.later ((Below.refl _ _).alloc (Nat.le_refl _) _)⟩
  exact⟨hna.mono (by omega),(below_store3 (hBW.trans (HB3.out.mono (by omega))) (Nat.le_refl _) _ _ _).alloc (by simp[World.setCell];omega) _⟩
 clear hB3 hs hBW
 have HOK:Hid (okR true (x+1) (-place)=okR true (x+1) (-place)):=(rfl:_=_)
 cases hok:okR true (x+1) (-place)
 ·have hNil:Nil=.agg #[.bool false,.slice none 0 0,.int .i64 0]:=rfl
  clear hsh
  go_wp2
  refine bodyPost_ret (results_cell_tmp2_row rfl _ _ w.heap.size 45 #[.bool false,.slice none 0 0,.int .i64 0] (0,0) _ rfl (HC4.out _ _ _ _) Tryz.underlying45 rfl Tryz.info45) rfl ?_
  exact⟨A,by rw[hok];rfl,HFIN.out _ _ _ _⟩
 ·subst hsh
  go_wp2
  refine bodyPost_ret (results_cell_tmp2_row rfl _ _ w.heap.size 45 #[.bool s',.slice ao n cap,.int .i64 ex] (0,0) _ rfl (HC4.out _ _ _ _) Tryz.underlying45 rfl Tryz.info45) rfl ?_
  exact⟨_,by rw[hok];rfl,HFIN.out _ _ _ _⟩
theorem c96 {neg exact:Bool} {v:Value} {x:Nat} {place:Int} {w:World} (hT:Tab32 w) (h:Is w v x) (hx:dlen x≤900000) (hp1 : -4000000≤place) (hp2:place≤4000000) :
  Calls Tryz.prog 154 #[.bool neg,v,.int .i64 place,.bool exact] w fun r w'=>Held3 w neg (if neg && !exact then x+1 else x) (-place) exact r w':=by
 cases neg <;> cases exact
 ·exact c96_ff v x place w hT h (by omega) hp1 hp2
 ·exact c96_ft v x place w hT h (by omega) hp1 hp2
 ·exact c96_tf v x place w hT h hx hp1 hp2
 ·exact c96_tt v x place w hT h (by omega) hp1 hp2
theorem c94 (place:Int) (w:World) (h : -65536≤place∧place≤65536):Calls Tryz.prog 152 #[.int .i64 place] w fun r w'=>r=.returned (.bool true)∧w'=w:=by
 obtain⟨h1,h2⟩:=h
 go_enter Tryz.func152,Tryz.ntmps152
 go_wp2
 go_ret
 exact⟨rfl,rfl⟩
theorem c44_1 (na nb:Bool) (ua va:Option Addr) (un uc vn vc X Y:Nat) (ea eb e place:Int) (sg xc:Bool) (zz:Nat) (w:World) (hsg:Hid ((!(na==nb))=sg)) (hxc:Hid (decide (X % Y=0)=xc)) (hzz:Hid ((if sg && !xc then X / Y+1 else X / Y)=zz)) (hT:Tab32 w) (hY0:Y≠0) (hX:dlen X≤900000) (hY:dlen Y≤900000) (hn1:((vn:Int)==0)=false) (hp : -65536≤place∧place≤65536) (hea1 : -65536≤ea) (hea2:ea≤65536)
  (k67:∀ W g,Bw w W→W.heap[g]?=some (.cells #[.bool na,.slice ua un uc,.int .i64 ea,.bool nb,.slice va vn vc,.int .i64 eb] 45 (0,0))→Calls Tryz.prog 90 #[.slice (some ⟨g,0,none⟩) 2 2] W fun r w'=>r=.returned (.bool true)∧Bw W w')
  (h99:∀ W,Bw w W→Calls Tryz.prog 153 #[.agg #[.bool false,.slice ua un uc,.int .i64 (ea+place)],.agg #[.bool nb,.slice va vn vc,.int .i64 eb]] W fun r w'=>∃ p q,r=.returned (.tuple #[p,q,.int .i64 e])∧Own w' W.heap.size p X∧Own w' W.heap.size q Y∧Bw W w') :
  Calls Tryz.prog 115 #[NumV na (.slice ua un uc) ea,NumV nb (.slice va vn vc) eb,.int .i64 place] w fun r w'=>Held3 w sg zz (-place) xc r w':=by
 obtain⟨W,hW⟩:∃ W,W=((w.alloc (.cells #[.bool na,.slice ua un uc,.int .i64 ea] 45)).alloc (.cells #[.bool nb,.slice va vn vc,.int .i64 eb] 45)).alloc (.cells #[.bool false,.slice none 0 0,.int .i64 0] 45):=⟨_,rfl⟩
 obtain⟨hA,hBb,hC,hsz,hBW⟩:=boxes3 _ _ _ hW
 have hB4:Below w.heap.size w (W.alloc (.cells #[.bool na,.slice ua un uc,.int .i64 ea,.bool nb,.slice va vn vc,.int .i64 eb] 45)):=hBW.alloc hBW.size _
 have k1:=k67 (W.alloc (.cells #[.bool na,.slice ua un uc,.int .i64 ea,.bool nb,.slice va vn vc,.int .i64 eb] 45)) (w.heap.size+1+1+1) hB4 (by rw[←hsz];exact heap_alloc_new _ _)
 have HH:Hid ((W.heap[w.heap.size]?=some (.cells #[.bool na,.slice ua un uc,.int .i64 ea] 45 (0,0))∧W.heap[w.heap.size+1]?=some (.cells #[.bool nb,.slice va vn vc,.int .i64 eb] 45 (0,0))∧W.heap[w.heap.size+1+1]?=some (.cells #[.bool false,.slice none 0 0,.int .i64 0] 45 (0,0)))∧W.heap.size=w.heap.size+1+1+1∧Bw w W∧Below W.heap.size W (W.alloc (.cells #[.bool na,.slice ua un uc,.int .i64 ea,.bool nb,.slice va vn vc,.int .i64 eb] 45))):=⟨⟨hA,hBb,hC⟩,hsz,hBW,(Below.refl _ _).alloc (Nat.le_refl _) _⟩
 have HT:Hid (Tab32 W∧Y≠0∧dlen X≤900000∧dlen Y≤900000):=⟨hT.later hBW,hY0,hX,hY⟩
 have HK99:Hid _:=h99
 have k94:=fun w=>c94 place w hp
 obtain⟨hp1,hp2⟩:=hp
 have hpk:Hid (-65536≤place∧place≤65536):=⟨hp1,hp2⟩
 unfold NumV
 clear hA hBb hC hsz hBW hB4 k67 h99 hT hY0 hX hY
 go_enter Tryz.func115,Tryz.ntmps115
 go_wp2_with fail
 rw[←hW]
 clear hW
 refine k1.mono ?_
 rintro r w1 ⟨rfl,hB1⟩
 clear k1
 have HB1:Hid (Bw W w1):=HH.out.2.2.2.trans (hB1.mono HH.out.2.2.2.size)
 obtain⟨⟨a0,a1,a2⟩,-⟩:=box_cells (box_later HH.out.1.1 HB1.out (by have:=HH.out.2.1;omega))
 obtain⟨⟨b0,b1,b2⟩,-⟩:=box_cells (box_later HH.out.1.2.1 HB1.out (by have:=HH.out.2.1;omega))
 clear hB1
 go_wp2_with fail
 refine(k94 _).mono ?_
 rintro r w1' ⟨rfl,rfl⟩
 clear k94
 go_wp2_with fail
 refine(HK99.out _ (HH.out.2.2.1.trans (HB1.out.mono HH.out.2.2.1.size))).mono ?_
 rintro r w2 ⟨p,q,rfl,hp,hq,hB2⟩
 have HB2:Hid (Bw W w2):=HB1.out.trans (hB2.mono HB1.out.size)
 clear a0 a1 a2 b0 b1 b2 hB2
 go_wp2_with fail
 refine(c100 hp.is hq.is (by have:=HT.out.2.2.1;omega) (by have:=HT.out.2.2.2;omega) HT.out.2.1).mono ?_
 rw[hxc.out]
 rintro r w3 ⟨qq,rfl,hO3,hB3⟩
 have HB3:Hid (Bw W w3):=HB2.out.trans (hB3.mono HB2.out.size)
 obtain⟨⟨a0,a1,a2⟩,-⟩:=box_cells (box_later HH.out.1.1 HB3.out (by have:=HH.out.2.1;omega))
 obtain⟨⟨b0,b1,b2⟩,-⟩:=box_cells (box_later HH.out.1.2.1 HB3.out (by have:=HH.out.2.1;omega))
 have k96:=c96 (neg:=sg) (exact:=xc) (place:=place) (HT.out.1.later HB3.out) hO3.is (Nat.le_trans (dlen_mono (Nat.div_le_self ..)) HT.out.2.2.1) (by omega) (by omega)
 rw[hzz.out] at k96
 clear hp hq hO3 hB3
 go_wp2_with fail
 rw[hsg.out]
 refine k96.mono ?_
 clear k96
 rintro r w4 ⟨A,rfl,hN,hB4⟩
 have HB4:Hid (Bw W w4):=HB3.out.trans (hB4.mono HB3.out.size)
 have HN4:Hid (Nrm w4 W.heap.size A sg zz (-place)):=hN.mono HB3.out.size
 have HC4:Hid (w4.heap[w.heap.size+1+1]?=some (.cells #[.bool false,.slice none 0 0,.int .i64 0] 45 (0,0))):=box_later HH.out.1.2.2 HB4.out (by have:=HH.out.2.1;omega)
 obtain⟨⟨x1,x2,x3⟩,x4,x5,x6⟩:=box_cells HC4.out
 obtain⟨s',ao,n,cap,ex,hsh⟩:=HN4.out.shape
 clear hN hB4 a0 a1 a2 b0 b1 b2 hsg
 obtain⟨-,hs,hBW,-⟩:=HH.out
 have HF:Hid (∀ p q r,Nrm (((w4.setCell ⟨w.heap.size+1+1,0,none⟩ p).setCell ⟨w.heap.size+1+1,1,none⟩ q).setCell ⟨w.heap.size+1+1,2,none⟩ r) w.heap.size A sg zz (-place)∧Below w.heap.size w (((w4.setCell ⟨w.heap.size+1+1,0,none⟩ p).setCell ⟨w.heap.size+1+1,1,none⟩ q).setCell ⟨w.heap.size+1+1,2,none⟩ r)):=fun p q r =>
  ⟨(HN4.out.store (by omega) _ _ _).mono (by omega),below_store3 (hBW.trans (HB4.out.mono hBW.size)) (by omega) _ _ _⟩
 clear hs hBW
 cases hok:okR sg zz (-place)
 ·have hNil:Nil=.agg #[.bool false,.slice none 0 0,.int .i64 0]:=rfl
  clear hsh
  go_wp2
  refine bodyPost_ret (results_cell_tmp2_row rfl _ _ (w.heap.size+1+1) 45 #[.bool false,.slice none 0 0,.int .i64 0] (0,0) _ rfl (store3 _ _ _ HC4.out) Tryz.underlying45 rfl Tryz.info45) rfl ?_
  exact⟨A,by rw[hok];simp[hNil],HF.out _ _ _⟩
 ·subst hsh
  go_wp2
  refine bodyPost_ret (results_cell_tmp2_row rfl _ _ (w.heap.size+1+1) 45 #[.bool s',.slice ao n cap,.int .i64 ex] (0,0) _ rfl (store3 _ _ _ HC4.out) Tryz.underlying45 rfl Tryz.info45) rfl ?_
  exact⟨_,by rw[hok];simp,HF.out _ _ _⟩
theorem c44 {na nb:Bool} {u v:Value} {x y:Nat} {ea eb place:Int} {w:World} (h1:Is w u x) (h2:Is w v y) (hT:Tab32 w) (hy0:y≠0) (hx:dlen x≤2048) (hy:dlen y≤2048) (hoka:okN na (dlen x) x ea=true) (hokb:okN nb (dlen y) y eb=true)
  (ha : -65536≤ea∧ea≤65536) (hb : -65536≤eb∧eb≤65536) (hp : -65536≤place∧place≤65536) (X Y:Nat) (hX:x*2^(ea+place - min (ea+place) eb).toNat=X) (hY:y*2^(eb - min (ea+place) eb).toNat=Y) :
  Calls Tryz.prog 115 #[NumV na u ea,NumV nb v eb,.int .i64 place] w fun r w'=>Held3 w (na != nb) (if(na != nb) && !(decide (X % Y=0))then X / Y+1 else X / Y) (-place) (decide (X % Y=0)) r w':=by
 have h1':=h1
 have h2':=h2
 obtain⟨ua,uc,rfl,-,-,-⟩:=h1'
 obtain⟨va,vc,rfl,-,-,-⟩:=h2'
 have lX:dlen X≤900000:=by have:=shl_len (x:=x) (k:=(ea+place - min (ea+place) eb).toNat) rfl;rw[←hX];omega
 have lY:dlen Y≤900000:=by have:=shl_len (x:=y) (k:=(eb - min (ea+place) eb).toNat) rfl;rw[←hY];omega
 have hY0:Y≠0:=by rw[←hY];exact Nat.ne_of_gt (Nat.mul_pos (by omega) (Nat.two_pow_pos _))
 refine c44_1 na nb ua va _ uc _ vc X Y ea eb (min (ea+place) eb) place (na != nb) _ _ w (rfl:(!(na==nb))=(na != nb)) rfl rfl hT hY0 lX lY (len_ne (n:=0) hy0) hp ha.1 ha.2 (fun W g hW hg=>?_) (fun W hW=>?_)
 ·have:=maybe2 hg (h1.later hW) (h2.later hW) (by omega) (by omega)
  rw[hoka,hokb] at this
  exact this
 ·have:=c99 (na:=false) (nb:=nb) (ea:=ea+place) (eb:=eb) (h1.later hW) (h2.later hW) (by omega) (by omega) (by omega) (by omega)
  rw[hX,hY] at this
  exact this
end Go.Proofs.YtokklnjoalkjaaaGreatDoor
/- Plain facts on the bits of a float64, of no program: its magnitude, its sign, whether it is a NaN, and that two floats stand in order as their numbers of steps from nought do. -/
namespace Go.Fl64
open Go.RowKit
def mag (a:Nat):Nat:=a % 9223372036854775808
def neg (a:Nat):Bool:=decide (9223372036854775808≤a)
def isNaN (a:Nat):Bool:=decide (9218868437227405312<mag a)
def sgn (s:Bool) (n:Nat):Int:=if s then -(n:Int) else(n:Int)
def stp (a:Nat):Int:=sgn (neg a) (mag a)
theorem mag_lt (a:Nat):mag a<9223372036854775808:=Nat.mod_lt _ (by decide)
theorem and_low (a:Nat):a &&& 9223372036854775807=a % 9223372036854775808:=by
 have:=Nat.and_two_pow_sub_one_eq_mod a 63
 simpa using this
theorem andNot_sign (a:Nat) (h:a<18446744073709551616):bits .andNot .u64 (a:Int) 9223372036854775808=(mag a:Int):=by
 have e:=u64_andNot_nat a 9223372036854775808 h (by decide)
 rw[show((9223372036854775808:Nat):Int)=9223372036854775808 from rfl] at e
 rw[e]
 congr 1
 unfold mag
 rw[←and_low]
theorem wrap_neg (a:Nat) (h:a<18446744073709551616):decide (wrap64 (a:Int)<0)=neg a:=by
 unfold neg wrap64
 congr 1
 apply propext
 omega
/-! ### The order of floats -/
def val (r:Nat):Nat:=if r<4503599627370496 then r else(4503599627370496+r % 4503599627370496)*2^(r / 4503599627370496 - 1)
theorem val_succ (r:Nat):val r<val (r+1):=by
 unfold val
 by_cases h1:r+1<4503599627370496
 ·rw[if_pos (by omega),if_pos h1];omega
 ·rw[if_neg h1]
  by_cases h2:r<4503599627370496
  ·rw[if_pos h2]
   have e:r+1=4503599627370496:=by omega
   rw[e]
   simp
   omega
  ·rw[if_neg h2]
   by_cases h3:r % 4503599627370496+1<4503599627370496
   ·have e1:(r+1) % 4503599627370496=r % 4503599627370496+1:=by omega
    have e2:(r+1) / 4503599627370496=r / 4503599627370496:=by omega
    rw[e1,e2]
    exact Nat.mul_lt_mul_of_pos_right (by omega) (Nat.two_pow_pos _)
   ·have e1:(r+1) % 4503599627370496=0:=by omega
    have e2:(r+1) / 4503599627370496 - 1=(r / 4503599627370496 - 1)+1:=by omega
    rw[e1,e2,Nat.pow_succ]
    have hp:=Nat.two_pow_pos (r / 4503599627370496 - 1)
    generalize 2^(r / 4503599627370496 - 1)=p at *
    have e3:(4503599627370496+r % 4503599627370496)*p≤9007199254740991*p:=Nat.mul_le_mul_right _ (by omega)
    omega
theorem val_lt_of_lt {r s:Nat} (h:r<s):val r<val s:=by
 obtain⟨d,rfl⟩:∃ d,s=r+1+d:=⟨s - r - 1,by omega⟩
 clear h
 induction d with
 | zero=>exact val_succ r
 | succ d ih=>exact Nat.lt_trans ih (val_succ _)
theorem val_lt (r s:Nat):val r<val s↔r<s:=by
 constructor
 ·intro h
  apply Nat.lt_of_not_le
  intro hle
  rcases Nat.lt_or_eq_of_le hle with h'|h'
  ·have:=val_lt_of_lt h';omega
  ·subst h';omega
 ·exact val_lt_of_lt
theorem val_eq (r s:Nat):val r=val s↔r=s:=by
 have h1:=val_lt r s
 have h2:=val_lt s r
 omega
theorem val_zero:val 0=0:=rfl
theorem val_eq_zero (r:Nat):val r=0↔r=0:=by
 have:=val_eq r 0
 rw[val_zero] at this
 exact this
theorem compare_congr {x y x' y':Int} (h1:x<y↔x'<y') (h2:x=y↔x'=y'):compare x y=compare x' y':=by
 show compareOfLessAndEq x y=compareOfLessAndEq x' y'
 unfold compareOfLessAndEq
 by_cases a:x<y
 ·rw[if_pos a,if_pos (h1.1 a)]
 ·rw[if_neg a,if_neg (fun b=>a (h1.2 b))]
  by_cases b:x=y
  ·rw[if_pos b,if_pos (h2.1 b)]
  ·rw[if_neg b,if_neg (fun c=>b (h2.2 c))]
theorem cmp_lt {x y:Int} (h:x<y):compare x y=.lt:=by
 show compareOfLessAndEq x y=_
 unfold compareOfLessAndEq
 rw[if_pos h]
theorem cmp_eq {x y:Int} (h:x=y):compare x y=.eq:=by
 show compareOfLessAndEq x y=_
 unfold compareOfLessAndEq
 rw[if_neg (by omega),if_pos h]
theorem cmp_gt {x y:Int} (h:y<x):compare x y=.gt:=by
 show compareOfLessAndEq x y=_
 unfold compareOfLessAndEq
 rw[if_neg (by omega),if_neg (by omega)]
theorem sgn_lt (s t:Bool) (m n m' n':Nat) (h1:m<n↔m'<n') (h2:n<m↔n'<m') (h3:m=0↔m'=0) (h4:n=0↔n'=0):sgn s m<sgn t n↔sgn s m'<sgn t n':=by
 unfold sgn
 cases s <;> cases t <;> simp <;> omega
theorem sgn_eq (s t:Bool) (m n m' n':Nat) (h1:m<n↔m'<n') (h2:n<m↔n'<m') (h3:m=0↔m'=0) (h4:n=0↔n'=0):sgn s m=sgn t n↔sgn s m'=sgn t n':=by
 unfold sgn
 cases s <;> cases t <;> simp <;> omega
theorem sgn_cmp (s t:Bool) (m n m' n':Nat) (h1:m<n↔m'<n') (h2:n<m↔n'<m') (h3:m=0↔m'=0) (h4:n=0↔n'=0):compare (sgn s m) (sgn t n)=compare (sgn s m') (sgn t n') :=
 compare_congr (sgn_lt s t m n m' n' h1 h2 h3 h4) (sgn_eq s t m n m' n' h1 h2 h3 h4)
theorem signed_sgn (s:Bool) (m u:Nat):Ieee.signed s m u=sgn s (m*2^u):=by
 unfold Ieee.signed sgn
 rw[Nat.shiftLeft_eq]
theorem read_number (a:Nat) (h:a<18446744073709551616) (hf:mag a<9218868437227405312) :
  ∃ (m k:Nat),Ieee.double.read a=.number (neg a) m (-1074+(k:Int))∧m*2^k=val (mag a):=by
 have hs:Ieee.double.signWeight=9223372036854775808:=by decide
 have hb:Ieee.double.binade=4503599627370496:=by decide
 have hi:Ieee.double.infRung=9218868437227405312:=by decide
 have hl:Ieee.double.leastPlace = -1074:=by decide
 have hn:(a / 9223372036854775808 % 2==1)=neg a:=by
  unfold neg
  rw[Bool.beq_eq_decide_eq]
  congr 1
  apply propext
  omega
 unfold Ieee.Format.read
 simp only[hs,hb,hi,hl,hn]
 show ∃ m k,(if mag a<4503599627370496 then _ else _)=_∧_
 unfold mag at hf ⊢
 by_cases h1:a % 9223372036854775808<4503599627370496
 ·refine⟨a % 9223372036854775808,0,?_,?_⟩
  ·rw[if_pos h1];simp
  ·unfold val;rw[if_pos h1];simp
 ·refine⟨4503599627370496+a % 9223372036854775808 % 4503599627370496,a % 9223372036854775808 / 4503599627370496 - 1,?_,?_⟩
  ·rw[if_neg h1,if_pos hf]
  ·unfold val;rw[if_neg h1]
theorem read_infinity (a:Nat) (h:a<18446744073709551616) (hf:mag a=9218868437227405312):Ieee.double.read a=.infinity (neg a):=by
 have hs:Ieee.double.signWeight=9223372036854775808:=by decide
 have hb:Ieee.double.binade=4503599627370496:=by decide
 have hi:Ieee.double.infRung=9218868437227405312:=by decide
 have hn:(a / 9223372036854775808 % 2==1)=neg a:=by
  unfold neg
  rw[Bool.beq_eq_decide_eq]
  congr 1
  apply propext
  omega
 unfold Ieee.Format.read
 simp only[hs,hb,hi,hn]
 unfold mag at hf
 rw[hf]
 simp
theorem read_nan (a:Nat) (hf:9218868437227405312<mag a):∃ s f,Ieee.double.read a=.nan s f:=by
 have hs:Ieee.double.signWeight=9223372036854775808:=by decide
 have hb:Ieee.double.binade=4503599627370496:=by decide
 have hi:Ieee.double.infRung=9218868437227405312:=by decide
 unfold Ieee.Format.read
 simp only[hs,hb,hi]
 unfold mag at hf
 rw[if_neg (by omega),if_neg (by omega),if_neg (by omega)]
 exact⟨_,_,rfl⟩
theorem order_nan_left (a b:Nat) (h:isNaN a=true):Ieee.double.order a b=none:=by
 obtain⟨s,f,e⟩:=read_nan a (of_decide_eq_true h)
 unfold Ieee.Format.order
 rw[e]
 rfl
theorem order_nan_right (a b:Nat) (h:isNaN b=true):Ieee.double.order a b=none:=by
 obtain⟨s,f,e⟩:=read_nan b (of_decide_eq_true h)
 unfold Ieee.Format.order
 rw[e]
 cases Ieee.double.read a <;> rfl
theorem order_num (a b:Nat) (ha:a<18446744073709551616) (hb:b<18446744073709551616) (na:isNaN a=false) (nb:isNaN b=false) :
  Ieee.double.order a b=some (compare (stp a) (stp b)):=by
 have na':¬ 9218868437227405312<mag a:=of_decide_eq_false na
 have nb':¬ 9218868437227405312<mag b:=of_decide_eq_false nb
 unfold Ieee.Format.order stp
 by_cases fa:mag a<9218868437227405312
 ·obtain⟨m,k,e,hm⟩:=read_number a ha fa
  by_cases fb:mag b<9218868437227405312
  ·obtain⟨n,l,e',hn⟩:=read_number b hb fb
   rw[e,e']
   unfold Ieee.Datum.order
   dsimp only
   rw[signed_sgn,signed_sgn]
   congr 1
   have e1:((-1074+(k:Int)) - min (-1074+(k:Int)) (-1074+(l:Int))).toNat=k - min k l:=by omega
   have e2:((-1074+(l:Int)) - min (-1074+(k:Int)) (-1074+(l:Int))).toNat=l - min k l:=by omega
   rw[e1,e2]
   have p1:m*2^(k - min k l)*2^min k l=val (mag a):=by
    rw[Nat.mul_assoc,←Nat.pow_add,show k - min k l+min k l=k by omega,hm]
   have p2:n*2^(l - min k l)*2^min k l=val (mag b):=by
    rw[Nat.mul_assoc,←Nat.pow_add,show l - min k l+min k l=l by omega,hn]
   have hp:=Nat.two_pow_pos (min k l)
   generalize m*2^(k - min k l)=X at *
   generalize n*2^(l - min k l)=Y at *
   generalize 2^min k l=p at *
   have v1:=val_lt (mag a) (mag b)
   have v2:=val_lt (mag b) (mag a)
   have z1:=val_eq_zero (mag a)
   have z2:=val_eq_zero (mag b)
   rw[←p1,←p2] at v1 v2
   rw[←p1] at z1
   rw[←p2] at z2
   apply sgn_cmp
   ·rw[←v1];exact(Nat.mul_lt_mul_right hp).symm
   ·rw[←v2];exact(Nat.mul_lt_mul_right hp).symm
   ·rw[←z1,Nat.mul_eq_zero];omega
   ·rw[←z2,Nat.mul_eq_zero];omega
  ·have fb':mag b=9218868437227405312:=by omega
   rw[e,read_infinity b hb fb',fb']
   unfold Ieee.Datum.order
   dsimp only
   congr 1
   cases neg b
   ·exact(cmp_lt (by unfold sgn;cases neg a <;> simp <;> omega)).symm
   ·exact(cmp_gt (by unfold sgn;cases neg a <;> simp <;> omega)).symm
 ·have fa':mag a=9218868437227405312:=by omega
  rw[read_infinity a ha fa',fa']
  by_cases fb:mag b<9218868437227405312
  ·obtain⟨n,l,e',hn⟩:=read_number b hb fb
   rw[e']
   unfold Ieee.Datum.order
   dsimp only
   congr 1
   cases neg a
   ·exact(cmp_gt (by unfold sgn;cases neg b <;> simp <;> omega)).symm
   ·exact(cmp_lt (by unfold sgn;cases neg b <;> simp <;> omega)).symm
  ·have fb':mag b=9218868437227405312:=by omega
   rw[read_infinity b hb fb',fb']
   unfold Ieee.Datum.order
   dsimp only
   congr 1
   cases neg b <;> cases neg a <;> rfl
/-! ### The six comparisons of Go, as the walk spells them -/
theorem f64:FloatKind.f64.format=Ieee.double:=rfl
theorem self_ne (a:Nat) (h:a<18446744073709551616):(FloatKind.f64.format.order a a != some Ordering.eq)=isNaN a:=by
 rw[f64]
 cases hn:isNaN a with
 | true=>rw[order_nan_left a a hn];rfl
 | false=>rw[order_num a a h h hn hn,cmp_eq rfl];rfl
def lt (a b:Nat):Bool := !isNaN a && !isNaN b&&decide (stp a<stp b)
def eq (a b:Nat):Bool := !isNaN a && !isNaN b&&decide (stp a=stp b)
theorem ord_eq (a b:Nat) (ha:a<18446744073709551616) (hb:b<18446744073709551616):(FloatKind.f64.format.order a b==some Ordering.eq)=eq a b:=by
 rw[f64]
 unfold eq
 cases na:isNaN a with
 | true=>rw[order_nan_left a b na];rfl
 | false =>
  cases nb:isNaN b with
  | true=>rw[order_nan_right a b nb];rfl
  | false =>
   rw[order_num a b ha hb na nb]
   rcases Int.lt_trichotomy (stp a) (stp b)with h|h|h
   ·rw[cmp_lt h,decide_eq_false (by omega)];rfl
   ·rw[cmp_eq h];simp[h]
   ·rw[cmp_gt h,decide_eq_false (by omega)];rfl
theorem ord_gt (a b:Nat) (ha:a<18446744073709551616) (hb:b<18446744073709551616):(FloatKind.f64.format.order a b==some Ordering.gt)=lt b a:=by
 rw[f64]
 unfold lt
 cases na:isNaN a with
 | true=>rw[order_nan_left a b na];cases isNaN b <;> rfl
 | false =>
  cases nb:isNaN b with
  | true=>rw[order_nan_right a b nb];rfl
  | false =>
   rw[order_num a b ha hb na nb]
   rcases Int.lt_trichotomy (stp a) (stp b)with h|h|h
   ·rw[cmp_lt h,decide_eq_false (by omega)];rfl
   ·rw[cmp_eq h,decide_eq_false (by omega)];rfl
   ·rw[cmp_gt h,decide_eq_true h];rfl
/-! ### Classes, signs -/
def cls (a:Nat):Int :=
 if(9218868437227405312:Int)<(mag a:Int)then 1 else if((mag a:Int)==9218868437227405312)then 2 else if((mag a:Int)==0)then 3 else if(mag a:Int)<4503599627370496 then 4 else 5
def cneg (a:Nat):Bool:=if(9218868437227405312:Int)<(mag a:Int)then false else neg a
def same (a b:Nat):Bool:=((a:Int)==(b:Int))||(isNaN a&&isNaN b)
theorem same_self (a:Nat):same a a=true:=by simp[same]
def sig (s:Bool) (m:Nat):Nat:=if s then m+9223372036854775808 else m
def withF (a b:Nat):Nat:=if isNaN a then a else if isNaN b then mag a else sig (neg b) (mag a)
theorem nan_int (a:Nat):decide ((9218868437227405312:Int)<(mag a:Int))=isNaN a:=by
 unfold isNaN
 congr 1
 apply propext
 omega
theorem neg_div (a:Nat) (h:a<18446744073709551616):((a:Int) / 9223372036854775808==1)=neg a:=by
 unfold neg
 rw[Bool.beq_eq_decide_eq]
 congr 1
 apply propext
 omega
theorem and_sign (b:Nat) (h:b<18446744073709551616):bits .and .u64 (b:Int) 9223372036854775808=if neg b then 9223372036854775808 else 0:=by
 have e:=u64_and_nat b 9223372036854775808 h (by decide)
 rw[show((9223372036854775808:Nat):Int)=9223372036854775808 from rfl] at e
 rw[e]
 have e2:b &&& 9223372036854775808=b / 9223372036854775808 % 2*9223372036854775808:=nat_bit 63 b
 rw[e2]
 unfold neg
 by_cases hn:9223372036854775808≤b
 ·rw[decide_eq_true hn];simp;omega
 ·rw[decide_eq_false hn];simp;omega
theorem or_sign (m:Nat) (h:m<9223372036854775808):bits .or .u64 (m:Int) 9223372036854775808=((m+9223372036854775808:Nat):Int):=by
 have e:=u64_or_nat m 9223372036854775808 (by omega) (by decide)
 rw[show((9223372036854775808:Nat):Int)=9223372036854775808 from rfl] at e
 rw[e]
 congr 1
 have:=Nat.two_pow_add_eq_or_of_lt (i:=63) h 1
 rw[Nat.or_comm,←(show 2^63*1=9223372036854775808 from rfl),←this,Nat.add_comm]
theorem or_zero (m:Nat) (h:m<9223372036854775808):bits .or .u64 (m:Int) 0=(m:Int):=by
 have e:=u64_or_nat m 0 (by omega) (by decide)
 rw[show((0:Nat):Int)=0 from rfl] at e
 rw[e]
 simp
end Go.Fl64
/- What the small functions of the program answer, call by call: the bits, the sign, the magnitude of a float, whether it is a NaN. -/
namespace Go.Proofs.YtokklnjoalkjaaaGreatDoor.Ie
open Go.RowKit Go.Fl64
theorem run_bits (a:Nat) (w:World):(callFunc 75 #[.float .f64 a]).run Tryz.prog w=.ok (.value (.int .u64 a)) w :=
 run_callFunc_extern Tryz.func75 (e:=Extern.MathFloatBits.float64bits) (by kernel_rfl) (by kernel_rfl) (by kernel_rfl) (by kernel_rfl) #[.float .f64 a] w
theorem run_frombits (a:Int) (w:World):(callFunc 87 #[.int .u64 a]).run Tryz.prog w=.ok (.value (.float .f64 a.toNat)) w :=
 run_callFunc_extern Tryz.func87 (e:=Extern.MathFloatBits.float64frombits) (by kernel_rfl) (by kernel_rfl) (by kernel_rfl) (by kernel_rfl) #[.int .u64 a] w
theorem c32 (a:Nat) (ha:a<18446744073709551616) (w:World) :
  Calls Tryz.prog 159 #[.float .f64 a] w fun e w'=>e=.returned (.int .u64 (mag a))∧w'=w:=by
 have hb:=run_bits
 go_enter Tryz.func159,Tryz.ntmps159
 go_wp2
 go_ret
 refine⟨?_,rfl⟩
 show Ending.returned (.int .u64 (bits .andNot .u64 a 9223372036854775808))=_
 rw[andNot_sign a ha]
theorem c33 (a:Nat) (ha:a<18446744073709551616) (w:World) :
  Calls Tryz.prog 44 #[.float .f64 a] w fun e w'=>e=.returned (.bool (neg a))∧w'=w:=by
 have hb:=run_bits
 go_enter Tryz.func44,Tryz.ntmps44
 go_wp2
 go_ret
 refine⟨?_,rfl⟩
 show Ending.returned (.bool (decide (wrap64 (a:Int)<0)))=_
 rw[wrap_neg a ha]
theorem c9 (a:Nat) (ha:a<18446744073709551616) (w:World) :
  Calls Tryz.prog 158 #[.float .f64 a] w fun e w'=>e=.returned (.tuple #[.int .i64 (cls a),.bool (cneg a)])∧w'=w:=by
 have k32:=c32 a ha
 have k33:=c33 a ha
 unfold cls cneg
 generalize (mag a:Int)=m at k32 ⊢
 generalize neg a=s at k33 ⊢
 clear ha
 by_cases h1:(9218868437227405312:Int)<m
 ·simp only[h1,if_true]
  go_enter Tryz.func158,Tryz.ntmps158
  go_wp2_with (first|(go_at_call 159;refine(k32 _).mono ?_;rintro e w' ⟨rfl,rfl⟩)|(go_at_call 44;refine(k33 _).mono ?_;rintro e w' ⟨rfl,rfl⟩))
  go_ret2
  exact⟨rfl,rfl⟩
 ·cases h2:(m==9218868437227405312) with
  | true =>
   simp only[h1,if_true,if_false]
   go_enter Tryz.func158,Tryz.ntmps158
   go_wp2_with (first|(go_at_call 159;refine(k32 _).mono ?_;rintro e w' ⟨rfl,rfl⟩)|(go_at_call 44;refine(k33 _).mono ?_;rintro e w' ⟨rfl,rfl⟩))
   go_ret2
   exact⟨rfl,rfl⟩
  | false =>
   cases h3:(m==0) with
   | true =>
    simp only[h1,if_true,if_false,Bool.false_eq_true]
    go_enter Tryz.func158,Tryz.ntmps158
    go_wp2_with (first|(go_at_call 159;refine(k32 _).mono ?_;rintro e w' ⟨rfl,rfl⟩)|(go_at_call 44;refine(k33 _).mono ?_;rintro e w' ⟨rfl,rfl⟩))
    go_ret2
    exact⟨rfl,rfl⟩
   | false =>
    by_cases h4:m<4503599627370496
    ·simp only[h1,h4,if_true,if_false,Bool.false_eq_true]
     go_enter Tryz.func158,Tryz.ntmps158
     go_wp2_with (first|(go_at_call 159;refine(k32 _).mono ?_;rintro e w' ⟨rfl,rfl⟩)|(go_at_call 44;refine(k33 _).mono ?_;rintro e w' ⟨rfl,rfl⟩))
     go_ret2
     exact⟨rfl,rfl⟩
    ·simp only[h1,h4,if_false,Bool.false_eq_true]
     go_enter Tryz.func158,Tryz.ntmps158
     go_wp2_with (first|(go_at_call 159;refine(k32 _).mono ?_;rintro e w' ⟨rfl,rfl⟩)|(go_at_call 44;refine(k33 _).mono ?_;rintro e w' ⟨rfl,rfl⟩))
     go_ret2
     exact⟨rfl,rfl⟩
end Go.Proofs.YtokklnjoalkjaaaGreatDoor.Ie
/- What the library's bits.Len64, LeadingZeros64 and TrailingZeros64 answer. -/
namespace Go.Proofs.YtokklnjoalkjaaaGreatDoor.Ie
open Go.RowKit Go.Fl64
theorem len_fin (x k p:Nat) (y:Int) (hk:k≤56) (hp:2^k=p) (hy:y.toNat=x / p) (hy0:x / p≠0) (hy1:x / p<256):wrap64 ((k:Int)+wrap64 (bitLen y.toNat:Int))=(bitLen x:Int):=by
 have e:=bitLen_shift x k (by rw[hp];exact hy0)
 have l:=bitLen_le8 (x / p) hy1
 rw[hp] at e
 rw[hy,e]
 generalize bitLen (x / p)=a at *
 unfold wrap64
 omega
theorem len_fin0 (x:Nat) (hx:x<256):wrap64 (wrap64 (bitLen (x:Int).toNat:Int))=(bitLen x:Int):=by
 have l:=bitLen_le8 x hx
 rw[Int.toNat_natCast]
 generalize bitLen x=a at *
 unfold wrap64
 omega
theorem c62 (x:Nat) (hx:x<18446744073709551616) (w:World) :
  Calls Tryz.prog 171 #[.int .u64 x] w fun e w'=>e=.returned (.int .i64 (bitLen x))∧w'=w:=by
 obtain⟨X,hX⟩:∃ X:Int,X=(x:Int):=⟨_,rfl⟩
 rw[←hX]
 have hX0:0≤X:=by omega
 have hX1:Hid (X<18446744073709551616):=(by omega:X<18446744073709551616)
 have hX':Hid (X=(x:Int)):=hX
 clear hX hx
 go_enter Tryz.func171,Tryz.ntmps171
 go_wp2
 all_goals go_ret
 all_goals (refine⟨congrArg Ending.returned (congrArg (Value.int IntKind.i64) ?_),rfl⟩)
 all_goals have h1:=hX1.out
 all_goals have h2:=hX'.out
 all_goals clear hX1 hX'
 all_goals subst h2
 all_goals rw[len8tab_get]
 ·exact len_fin x 56 72057594037927936 _ (by decide) (by decide) (by omega) (by omega) (by omega)
 ·exact len_fin x 48 281474976710656 _ (by decide) (by decide) (by omega) (by omega) (by omega)
 ·exact len_fin x 40 1099511627776 _ (by decide) (by decide) (by omega) (by omega) (by omega)
 ·exact len_fin x 32 4294967296 _ (by decide) (by decide) (by omega) (by omega) (by omega)
 ·exact len_fin x 24 16777216 _ (by decide) (by decide) (by omega) (by omega) (by omega)
 ·exact len_fin x 16 65536 _ (by decide) (by decide) (by omega) (by omega) (by omega)
 ·exact len_fin x 8 256 _ (by decide) (by decide) (by omega) (by omega) (by omega)
 ·exact len_fin0 x (by omega)
theorem bitLen_le64 (x:Nat) (hx:x<18446744073709551616):bitLen x≤64:=by
 unfold bitLen
 split
 ·omega
 ·rename_i h0
  have:=(Nat.log2_lt h0).2 (show x<2^64 from hx)
  omega
theorem c57 (x:Nat) (hx:x<18446744073709551616) (w:World) :
  Calls Tryz.prog 162 #[.int .u64 x] w fun e w'=>e=.returned (.int .i64 (64 - (bitLen x:Int)))∧w'=w:=by
 have k:=c62 x hx
 have hl:Hid ((bitLen x:Int)≤64):=by have:=bitLen_le64 x hx;exact(by omega:(bitLen x:Int)≤64)
 have h0:Hid (0≤(bitLen x:Int)):=(by omega:0≤(bitLen x:Int))
 clear hx
 generalize (bitLen x:Int)=b at k hl h0 ⊢
 go_enter Tryz.func162,Tryz.ntmps162
 go_wp2_with (first|(go_at_call 171;refine(k _).mono ?_;rintro e w' ⟨rfl,rfl⟩))
 go_ret
 refine⟨?_,rfl⟩
 show Ending.returned (.int .i64 (wrap64 (64 - b)))=_
 have hl:=hl.out
 have h0:=h0.out
 rw[show wrap64 (64 - b)=64 - b by unfold wrap64;omega]
theorem tz_key (x a:Nat) (hx:x<18446744073709551616) (hx0:x≠0) (hlow:x &&& (18446744073709551616 - x)=a) :
  IntKind.u64.wrap (bits BinOp.and IntKind.u64 (x:Int) (IntKind.u64.wrap (-(x:Int)))*285870213051353865) / 288230376151711744=((a*285870213051353865 % 18446744073709551616 / 288230376151711744:Nat):Int):=by
 have e1:IntKind.u64.wrap (-(x:Int))=((18446744073709551616 - x:Nat):Int):=by rw[IntKind.wrap_u64];omega
 rw[e1,u64_and_nat x _ hx (by omega),hlow,IntKind.wrap_u64]
 omega
theorem c51x (x k idx:Nat) (w:World) (hx0:((x:Int)==0)=false)
  (key:IntKind.u64.wrap (bits BinOp.and IntKind.u64 (x:Int) (IntKind.u64.wrap (-(x:Int)))*285870213051353865) / 288230376151711744=(idx:Int))
  (hi:idx<64) (hk:k<64) (hcell:w.cell? ⟨1,idx,none⟩=some (.int .u8 k)) :
  Calls Tryz.prog 160 #[.int .u64 x] w fun e w'=>e=.returned (.int .i64 k)∧w'=w:=by
 go_enter Tryz.func160,Tryz.ntmps160
 go_wp2_with (simp only[key])
 go_ret
 exact⟨rfl,rfl⟩
def Tab (w:World):Prop:=∀ i,i<64→w.cell? ⟨1,i,none⟩=some (.int .u8 (Lib.deBruijn64tab.getD i 0:Nat))
theorem c51 (x:Nat) (hx:x<18446744073709551616) (hx0:x≠0) (w:World) (hT:Tab w) :
  Calls Tryz.prog 160 #[.int .u64 x] w fun e w'=>e=.returned (.int .i64 (Lib.ctz 64 x))∧w'=w:=by
 obtain⟨hlow,hk⟩:=Lib.lowest_bit 64 x hx0 hx
 obtain⟨hi,htab⟩:=Lib.deBruijn64_at _ hk
 have hcell:=hT _ hi
 rw[htab] at hcell
 exact c51x x _ _ w (by simp;omega) (tz_key x _ hx hx0 hlow) hi hk hcell
end Go.Proofs.YtokklnjoalkjaaaGreatDoor.Ie
