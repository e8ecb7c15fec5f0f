/- Own work: contracts of the program's functions, part 10: RE4 DL1 DE1 FR1 FR2 FR3 FR4 DL5 PV PV2 FR5 FR6 DC1 SB1 SB2 SB3 SC1 RY6 SC2 DE2 PV3 RY7 SD1 SD2 UA8 UA9 UB1 UB2 UB3 SB4 SB5 SH5 SB6 SH6 SH7 SH8 SH9 SI1 SI2 SI3 SI4 UB4 HX W46. -/
import Derived.Test.YthhaamilfioddaaGreatDoorA9
import Derived.Test.YthhaamilfioddaaGreatDoorA8
import Derived.Test.YthhaamilfioddaaGreatDoorA7
import Derived.Test.YthhaamilfioddaaGreatDoorA1
import Derived.Test.YthhaamilfioddaaGreatDoorA4
import Derived.Test.YthhaamilfioddaaGreatDoorA6
import Derived.Deep.MidRow
import Derived.Test.YthhaamilfioddaaGreatDoorA5
import Derived.Test.YthhaamilfioddaaGreatDoorA3

set_option maxHeartbeats 16000000
set_option maxRecDepth 200000
set_option linter.unusedVariables false
set_option linter.unusedSimpArgs false
namespace Go.Proofs.YthhaamilfioddaaGreatDoor
open Go.RowKit
theorem magI_sign {x y:Nat} {ea eb:Int}:cmpI (magI x ea y eb) 0=cmpI (x*2^(ea - min ea eb).toNat:Nat) (y*2^(eb - min ea eb).toNat:Nat):=by
 unfold magI
 by_cases h0:x=0∨y=0
 ·rw[if_pos h0]
  by_cases hx:x=0
  ·subst hx
   rw[dlen_zero,Nat.zero_mul]
   by_cases hy:y=0
   ·subst hy;rw[dlen_zero,Nat.zero_mul];rfl
   ·have h1:dlen y≠0:=fun e=>hy (dlen_eq_zero.1 e)
    have h2:0<y*2^(eb - min ea eb).toNat:=Nat.mul_pos (by omega) (Nat.two_pow_pos _)
    unfold cmpI
    rw[if_pos (by omega),if_pos (by omega)]
  ·have hy:y=0:=by omega
   subst hy
   rw[dlen_zero,Nat.zero_mul]
   have h1:dlen x≠0:=fun e=>hx (dlen_eq_zero.1 e)
   have h2:0<x*2^(ea - min ea eb).toNat:=Nat.mul_pos (by omega) (Nat.two_pow_pos _)
   unfold cmpI
   rw[if_neg (by omega),if_pos (by omega),if_neg (by omega),if_pos (by omega)]
 ·rw[if_neg h0]
  have hx0:x≠0:=fun e=>h0 (.inl e)
  have hy0:y≠0:=fun e=>h0 (.inr e)
  by_cases ht:(bl x:Int)+ea=bl y+eb
  ·rw[if_pos ht]
   rcases cmpI_cases (x*2^(ea - min ea eb).toNat:Nat) (y*2^(eb - min ea eb).toNat:Nat)with h|h|h <;> rw[h.2] <;> rfl
  ·rw[if_neg ht]
   rcases cmpI_cases (bl x+ea) (bl y+eb)with h|h|h
   ·have:=top_lt (x:=x) (k:=(ea - min ea eb).toNat) (l:=(eb - min ea eb).toNat) hy0 (by omega)
    unfold cmpI;rw[if_pos (by omega),if_pos (by omega)]
   ·have:=top_lt (x:=y) (y:=x) (k:=(eb - min ea eb).toNat) (l:=(ea - min ea eb).toNat) hx0 (by omega)
    unfold cmpI;rw[if_neg (by omega),if_pos (by omega),if_neg (by omega),if_pos (by omega)]
   ·exact absurd h.1 ht
theorem magI_le {x y:Nat} {ea eb:Int} (hx:dlen x≤400000) (hy:dlen y≤400000) (ha : -2000000≤ea∧ea≤2000000) (hb : -2000000≤eb∧eb≤2000000) : -90000000000≤magI x ea y eb∧magI x ea y eb≤90000000000:=by
 have b1:=bl_le_dlen x
 have b2:=bl_le_dlen y
 unfold magI
 split
 ·omega
 ·split
  ·rcases cmpI_cases (x*2^(ea - min ea eb).toNat:Nat) (y*2^(eb - min ea eb).toNat:Nat)with h|h|h <;> rw[h.2] <;> omega
  ·omega
theorem rorder {na nb:Bool} {ua va:Option Addr} {uc vc x y:Nat} {ea eb:Int} {w:World} (h1:Arg w ua (dlen x) uc x) (h2:Arg w va (dlen y) vc y) (hx:dlen x≤400000) (hy:dlen y≤400000) (ha : -2000000≤ea∧ea≤2000000) (hb : -2000000≤eb∧eb≤2000000) :
  Calls Tryz.prog 12 #[.agg #[.bool na,.slice ua (dlen x) uc,.int .i64 ea],.agg #[.bool nb,.slice va (dlen y) vc,.int .i64 eb]] w fun r w'=>r=.returned (.int .i64 (ordN na x ea nb y eb))∧Bw w w':=by
 have kA:∀ W,Bw w W→Calls Tryz.prog 14 #[.agg #[.bool na,.slice ua (dlen x) uc,.int .i64 ea]] W fun r w'=>r=.returned (.int .i64 (sgI na (dlen x)))∧Bw W w':=fun W hW=>rsgn (by omega)
 have kB:∀ W,Bw w W→Calls Tryz.prog 14 #[.agg #[.bool nb,.slice va (dlen y) vc,.int .i64 eb]] W fun r w'=>r=.returned (.int .i64 (sgI nb (dlen y)))∧Bw W w':=fun W hW=>rsgn (by omega)
 have kM:∀ W,Bw w W→Calls Tryz.prog 33 #[.agg #[.bool na,.slice ua (dlen x) uc,.int .i64 ea],.agg #[.bool nb,.slice va (dlen y) vc,.int .i64 eb]] W fun r w'=>r=.returned (.int .i64 (magI x ea y eb))∧Bw W w':=fun W hW=>rmag (h1.later hW) (h2.later hW) hx hy ha hb
 have hl:=magI_le (ea:=ea) (eb:=eb) hx hy ha hb
 have hm:=magI_sign (x:=x) (y:=y) (ea:=ea) (eb:=eb)
 unfold ordN
 rw[←hm]
 generalize hsa:sgI na (dlen x)=sa at *
 generalize hsb:sgI nb (dlen y)=sb at *
 generalize magI x ea y eb=c at *
 by_cases hs:sa=sb
 ·rw[if_pos hs]
  have hs3:sa=0∨sa = -1∨sa=1:=by
   rw[←hsa];unfold sgI
   split
   ·exact .inl rfl
   ·split
    ·exact .inr (.inl rfl)
    ·exact .inr (.inr rfl)
  by_cases hsn:sa<0
  ·have hs1:sa = -1:=by omega
   rcases cmpI_cases c 0 with h|h|h
   ·rw[h.2,show sa * -1=1 by omega];exact rorder_all na nb ua va _ uc _ vc ea eb sa sb c _ w hs (.inr ⟨hsn,.inr (.inr ⟨h.1,rfl⟩)⟩) hl.1 hl.2 kA kB kM
   ·rw[h.2,show sa*1 = -1 by omega];exact rorder_all na nb ua va _ uc _ vc ea eb sa sb c _ w hs (.inr ⟨hsn,.inr (.inl ⟨h.1,rfl⟩)⟩) hl.1 hl.2 kA kB kM
   ·rw[h.2,Int.mul_zero];exact rorder_all na nb ua va _ uc _ vc ea eb sa sb c _ w hs (.inr ⟨hsn,.inl ⟨h.1,rfl⟩⟩) hl.1 hl.2 kA kB kM
  ·by_cases h0:sa=0
   ·have hc0:c=0:=by
     have hdx:dlen x=0:=by
      apply Decidable.byContradiction
      intro hne
      rw[h0,sgI_pos hne] at hsa
      cases na <;> simp at hsa
     have hdy:dlen y=0:=by
      apply Decidable.byContradiction
      intro hne
      rw[←hs,h0,sgI_pos hne] at hsb
      cases nb <;> simp at hsb
     have ex:x=0:=dlen_eq_zero.1 hdx
     have ey:y=0:=dlen_eq_zero.1 hdy
     subst ex;subst ey
     rw[Nat.zero_mul,Nat.zero_mul] at hm
     rcases cmpI_cases c 0 with h|h|h
     ·rw[h.2] at hm;exact absurd hm (by decide)
     ·rw[h.2] at hm;exact absurd hm (by decide)
     ·exact h.1
    rw[show sa*cmpI c 0=0 by rw[h0,Int.zero_mul]]
    exact rorder_all na nb ua va _ uc _ vc ea eb sa sb c _ w hs (.inl ⟨(by omega),.inl ⟨hc0,rfl⟩⟩) hl.1 hl.2 kA kB kM
   ·have hs1:sa=1:=by omega
    rw[show sa*cmpI c 0=cmpI c 0 by rw[hs1,Int.one_mul]]
    rcases cmpI_cases c 0 with h|h|h
    ·rw[h.2];exact rorder_all na nb ua va _ uc _ vc ea eb sa sb c _ w hs (.inl ⟨(by omega),.inr (.inr ⟨h.1,rfl⟩)⟩) hl.1 hl.2 kA kB kM
    ·rw[h.2];exact rorder_all na nb ua va _ uc _ vc ea eb sa sb c _ w hs (.inl ⟨(by omega),.inr (.inl ⟨h.1,rfl⟩)⟩) hl.1 hl.2 kA kB kM
    ·rw[h.2];exact rorder_all na nb ua va _ uc _ vc ea eb sa sb c _ w hs (.inl ⟨(by omega),.inl ⟨h.1,rfl⟩⟩) hl.1 hl.2 kA kB kM
 ·rw[if_neg hs]
  unfold cmpI
  by_cases hlt:sa<sb
  ·rw[if_pos hlt];exact rorder_lt na nb ua va _ uc _ vc ea eb sa sb c w hlt kA kB
  ·rw[if_neg hlt,if_pos (by omega)];exact rorder_gt na nb ua va _ uc _ vc ea eb sa sb c w hlt hs kA kB
end Go.Proofs.YthhaamilfioddaaGreatDoor
namespace Go.Proofs.YthhaamilfioddaaGreatDoor
open Go.RowKit Go.Fl64
def gS (t1 t2:Bool×Nat×Int):Bool×Nat×Int:=cn (sumN t1.1 t1.2.1 t1.2.2 t2.1 t2.2.1 t2.2.2).1 (sumN t1.1 t1.2.1 t1.2.2 t2.1 t2.2.1 t2.2.2).2.1 (sumN t1.1 t1.2.1 t1.2.2 t2.1 t2.2.1 t2.2.2).2.2
def gM (t1 t2:Bool×Nat×Int):Bool×Nat×Int:=cn (!(t1.1==t2.1)) (t1.2.1*t2.2.1) (t1.2.2+t2.2.2)
def gD (t1 t2:Bool×Nat×Int):Bool×Nat×Int:=cn (sumN t1.1 t1.2.1 t1.2.2 (!t2.1&&decide (0<dlen t2.2.1)) t2.2.1 t2.2.2).1 (sumN t1.1 t1.2.1 t1.2.2 (!t2.1&&decide (0<dlen t2.2.1)) t2.2.1 t2.2.2).2.1 (sumN t1.1 t1.2.1 t1.2.2 (!t2.1&&decide (0<dlen t2.2.1)) t2.2.1 t2.2.2).2.2
def gN (t:Bool×Nat×Int):Bool×Nat×Int:=if t.2.1=0 then(false,0,0) else(!t.1,t.2.1,t.2.2)
theorem gtimes_1 (na nb sg:Bool) (ua va:Option Addr) (un uc vn vc x y:Nat) (ea eb:Int) (w:World) (h1:Ir w (.slice ua un uc) x) (h2:Ir w (.slice va vn vc) y) (hx:dlen x≤400000) (hy:dlen y≤400000) (he1 : -4000000≤ea) (he2:ea≤4000000) (he3 : -4000000≤eb) (he4:eb≤4000000) (hsg:(!(na==nb))=sg) :
  Calls Tryz.prog 8 #[.agg #[.bool na,.slice ua un uc,.int .i64 ea],.agg #[.bool nb,.slice va vn vc,.int .i64 eb]] w fun r w'=>∃ a,r=.returned a∧NC w' w.heap.size a sg (x*y) (ea+eb)∧Bw w w':=by
 obtain⟨W,hW⟩:∃ W,W=((w.alloc (.cells #[.bool na,.slice ua un uc,.int .i64 ea] 30)).alloc (.cells #[.bool nb,.slice va vn vc,.int .i64 eb] 30)).alloc (.cells #[.bool false,.slice none 0 0,.int .i64 0] 30):=⟨_,rfl⟩
 obtain⟨hA,hBb,hC,hsz,hBW⟩:=boxes3 _ _ _ hW
 have hxy:dlen (x*y)≤1000000:=by
  have l1:=(dlen_le (dlen x) x).1 (Nat.le_refl _)
  have l2:=(dlen_le (dlen y) y).1 (Nat.le_refl _)
  have:dlen (x*y)≤dlen x+dlen y:=(dlen_le _ _).2 (by
   rw[Nat.pow_add]
   rcases Nat.eq_zero_or_pos x with h|h
   ·rw[h,Nat.zero_mul];exact Nat.mul_pos (Bpow_pos _) (Bpow_pos _)
   ·exact Nat.mul_lt_mul_of_lt_of_le l1 (Nat.le_of_lt l2) (Bpow_pos _))
  omega
 have HH:Hid (W.heap[w.heap.size+1+1]?=some (.cells #[.bool false,.slice none 0 0,.int .i64 0] 30 (0,0))∧W.heap.size=w.heap.size+1+1+1∧Bw w W):=⟨hC,hsz,hBW⟩
 have k78:∀ w4,Bw W w4→Calls Tryz.prog 31 #[.slice ua un uc,.slice va vn vc] w4 fun r w'=>∃ v,r=.returned v∧Own w' W.heap.size v (x*y)∧Bw W w':=fun w4 hb =>
  (rprod ((h1.later hBW).later hb) ((h2.later hBW).later hb) (by omega) (by omega)).mono fun r w' ⟨v,e1,o1,o2⟩=>⟨v,e1,o1.mono hb.size,hb.trans (o2.mono hb.size)⟩
 have k31:∀ v5 w5,Own w5 W.heap.size v5 (x*y)→Bw W w5→Calls Tryz.prog 30 #[.bool sg,v5,.int .i64 (ea+eb)] w5 fun r w'=>∃ s ao n cap ex,r=.returned (.agg #[.bool s,.slice ao n cap,.int .i64 ex]) ∧
   Hid (NC w' w5.heap.size (.agg #[.bool s,.slice ao n cap,.int .i64 ex]) sg (x*y) (ea+eb)∧W.heap.size≤w5.heap.size)∧Bw W w'∧Hid (w'.heap[w.heap.size+1+1]?=some (.cells #[.bool false,.slice none 0 0,.int .i64 0] 30 (0,0))) ∧
   (w'.cell? ⟨w.heap.size+1+1,0,none⟩=some (.bool false)∧w'.cell? ⟨w.heap.size+1+1,1,none⟩=some (.slice none 0 0)∧w'.cell? ⟨w.heap.size+1+1,2,none⟩=some (.int .i64 0))∧(w'.frozen? ⟨w.heap.size+1+1,0,none⟩=false∧w'.frozen? ⟨w.heap.size+1+1,1,none⟩=false∧w'.frozen? ⟨w.heap.size+1+1,2,none⟩=false):=by
  intro v5 w5 ho hb
  obtain⟨ao0,cap0,rfl,hl0,-,hat0⟩:=ho.is
  refine(rnormN hat0 (Nat.le_refl _) hl0 (by omega) (by omega)).mono ?_
  rintro r w6 ⟨a,rfl,hN,hb6⟩
  obtain⟨s,ao,n,cap,ex,rfl⟩:=hN.shape
  have hb46:Bw W w6:=hb.trans (hb6.mono hb.size)
  have hblk:=box_later HH.out.1 hb46 (by have:=HH.out.2.1;omega)
  obtain⟨f1,f2⟩:=box_cells29 hblk
  exact⟨s,ao,n,cap,ex,rfl,⟨hN,hb.size⟩,hb46,hblk,f1,f2⟩
 obtain⟨⟨a0,a1,a2⟩,-⟩:=box_cells29 hA
 obtain⟨⟨b0,b1,b2⟩,-⟩:=box_cells29 hBb
 have HK:Hid (∀ w',Bw W w'→((w'.cell? ⟨w.heap.size,0,none⟩=some (.bool na)∧w'.cell? ⟨w.heap.size,1,none⟩=some (.slice ua un uc)∧w'.cell? ⟨w.heap.size,2,none⟩=some (.int .i64 ea))∧(w'.cell? ⟨w.heap.size+1,0,none⟩=some (.bool nb)∧w'.cell? ⟨w.heap.size+1,1,none⟩=some (.slice va vn vc)∧w'.cell? ⟨w.heap.size+1,2,none⟩=some (.int .i64 eb)))):=fun w' hb=>⟨(box_cells29 (box_later hA hb (by omega))).1,(box_cells29 (box_later hBb hb (by omega))).1⟩
 have HK2:Hid (∀ w',Below (w.heap.size+1+1) W w'→((w'.cell? ⟨w.heap.size,0,none⟩=some (.bool na)∧w'.cell? ⟨w.heap.size,1,none⟩=some (.slice ua un uc)∧w'.cell? ⟨w.heap.size,2,none⟩=some (.int .i64 ea))∧(w'.cell? ⟨w.heap.size+1,0,none⟩=some (.bool nb)∧w'.cell? ⟨w.heap.size+1,1,none⟩=some (.slice va vn vc)∧w'.cell? ⟨w.heap.size+1,2,none⟩=some (.int .i64 eb)))):=fun w' hb=>⟨(box_cells29 (box_later hA hb (by omega))).1,(box_cells29 (box_later hBb hb (by omega))).1⟩
 have HS2:Hid (w.heap.size+1+1≤W.heap.size):=(by omega:w.heap.size+1+1≤W.heap.size)
 have hBR:Bw W W.drew:=(Below.refl _ _).drew
 have wz:IntKind.i64.wrap (ea+eb)=ea+eb:=by rw[IntKind.wrap_i64];omega
 clear hA hBb hC hsz hBW h1 h2 hx hy hxy
 go_enter Tryz.func8,Tryz.ntmps8
 go_upto_region 1 with fail
 rw[←hW]
 clear hW
 go_region_held3 (fun w'=>((w'.cell? ⟨w.heap.size,0,none⟩=some (.bool na)∧w'.cell? ⟨w.heap.size,1,none⟩=some (.slice ua un uc)∧w'.cell? ⟨w.heap.size,2,none⟩=some (.int .i64 ea))∧(w'.cell? ⟨w.heap.size+1,0,none⟩=some (.bool nb)∧w'.cell? ⟨w.heap.size+1,1,none⟩=some (.slice va vn vc)∧w'.cell? ⟨w.heap.size+1,2,none⟩=some (.int .i64 eb)))) (first|(with_reducible assumption)|exact⟨⟨a0,a1,a2⟩,b0,b1,b2⟩|(refine HK.out _ ?_;with_reducible assumption)|(refine HK2.out _ (below_store3 (Below.mono hb6 HS2.out) (Nat.le_refl _) _ _ _))|go_keep)
  (first|(go_at_call 31;refine(k78 _ (by first|(with_reducible assumption)|exact hBR)).mono ?_;rintro r w5 ⟨v5,rfl,ho5,hb5⟩)|(go_at_call 30;(try simp only[hsg,wz]);refine(k31 _ _ ho5 hb5).mono ?_;rintro r w6 ⟨s6,ao6,n6,cap6,ex6,rfl,hN6,hb6,hblk6,⟨x1,x2,x3⟩,x4,x5,x6⟩))
 have HF:Hid (Bw W w6):=hb6
 clear ho5 hb5 hb6 k31 k78 x1 x2 x3 x4 x5 x6 a0 a1 a2 b0 b1 b2 HK HK2
 go_wp2
 refine bodyPost_ret (results_cell_row rfl _ _ (w.heap.size+1+1) 30 #[.bool s6,.slice ao6 n6 cap6,.int .i64 ex6] (0,0) _ rfl (store3_29 _ _ _ hblk6.out) Tryz.underlying30 rfl Tryz.info30) rfl ?_
 obtain⟨-,hs,hBW⟩:=HH.out
 have hs5:=hN6.out.2
 exact⟨_,rfl,(hN6.out.1.store (by omega) _ _ _).mono (by omega),below_store3 (hBW.trans (HF.out.mono hBW.size)) (by omega) _ _ _⟩
theorem garg0 (w:World):Arg w none 0 0 0:=⟨fun _=>.inr ⟨rfl,rfl⟩,⟨0,0,fun h=>absurd h (by omega),fun i hi=>absurd hi (by omega)⟩,Nat.le_refl _,by omega⟩
theorem garg0D (w:World):Arg w none (dlen 0) 0 0:=by rw[dlen_zero];exact garg0 w
theorem gdn0 (w:World):DN w (.agg #[.bool false,.slice none 0 0,.int .i64 0]) (false,0,0):=⟨none,0,by show _=Value.agg #[.bool false,.slice none (dlen 0) 0,.int .i64 0];rw[dlen_zero],garg0D w⟩
def Gn (t:Bool×Nat×Int):Prop:=cn t.1 t.2.1 t.2.2=t∧dlen t.2.1≤60000 ∧ -1000000≤t.2.2∧t.2.2≤1000000
theorem gplus {t1 t2:Bool×Nat×Int} {X Y:Value} {w:World} (o1:Gn t1) (o2:Gn t2) (h1:DN w X t1) (h2:DN w Y t2):Calls Tryz.prog 32 #[X,Y] w fun r w'=>∃ A,r=.returned A∧DN w' A (gS t1 t2)∧Bw w w':=by
 obtain⟨ao,cap,rfl,a1⟩:=h1
 obtain⟨ao',cap',rfl,a2⟩:=h2
 obtain⟨c1,f1,f2,f3⟩:=o1
 obtain⟨c2,g1,g2,g3⟩:=o2
 exact(rplusG a1 a2 c1 c2 (by omega) (by omega) (by omega) (by omega) (by omega) (by omega)).mono fun r w' ⟨A,e,h,hb⟩=>⟨A,e,h.dn,hb⟩
theorem gtimes {t1 t2:Bool×Nat×Int} {X Y:Value} {w:World} (o1:Gn t1) (o2:Gn t2) (h1:DN w X t1) (h2:DN w Y t2):Calls Tryz.prog 8 #[X,Y] w fun r w'=>∃ A,r=.returned A∧DN w' A (gM t1 t2)∧Bw w w':=by
 obtain⟨ao,cap,rfl,a1⟩:=h1
 obtain⟨ao',cap',rfl,a2⟩:=h2
 obtain⟨c1,f1,f2,f3⟩:=o1
 obtain⟨c2,g1,g2,g3⟩:=o2
 exact(gtimes_1 t1.1 t2.1 _ ao ao' _ cap _ cap' t1.2.1 t2.2.1 t1.2.2 t2.2.2 w ⟨ao,cap,rfl,a1.le,a1.at_⟩ ⟨ao',cap',rfl,a2.le,a2.at_⟩ (by omega) (by omega) (by omega) (by omega) (by omega) (by omega) rfl).mono fun r w' ⟨A,e,h,hb⟩=>⟨A,e,h.dn,hb⟩
theorem gorder {t1 t2:Bool×Nat×Int} {X Y:Value} {w:World} (o1:Gn t1) (o2:Gn t2) (h1:DN w X t1) (h2:DN w Y t2):Calls Tryz.prog 12 #[X,Y] w fun r w'=>r=.returned (.int .i64 (ordN t1.1 t1.2.1 t1.2.2 t2.1 t2.2.1 t2.2.2))∧Bw w w':=by
 obtain⟨ao,cap,rfl,a1⟩:=h1
 obtain⟨ao',cap',rfl,a2⟩:=h2
 obtain⟨c1,f1,f2,f3⟩:=o1
 obtain⟨c2,g1,g2,g3⟩:=o2
 exact rorder a1 a2 (by omega) (by omega) (by omega) (by omega)
theorem Gn.zero {t:Bool×Nat×Int} (h:Gn t) (h0:t.2.1=0):t=(false,0,0):=by
 have e:=h.1
 unfold cn at e
 rw[if_pos h0] at e
 exact e.symm
theorem gcn_turn {t:Bool×Nat×Int} (h:cn t.1 t.2.1 t.2.2=t) (h0:t.2.1≠0) (s:Bool):cn s t.2.1 t.2.2=(s,t.2.1,t.2.2):=by
 unfold cn at h ⊢
 rw[if_neg h0] at h ⊢
 rw[Prod.ext_iff] at h
 exact Prod.ext rfl h.2
theorem gless {t1 t2:Bool×Nat×Int} {X Y:Value} {w:World} (o1:Gn t1) (o2:Gn t2) (h1:DN w X t1) (h2:DN w Y t2):Calls Tryz.prog 11 #[X,Y] w fun r w'=>∃ A,r=.returned A∧DN w' A (gD t1 t2)∧Bw w w':=by
 obtain⟨ao,cap,rfl,a1⟩:=h1
 obtain⟨ao',cap',rfl,a2⟩:=h2
 have z2:=o2.zero
 obtain⟨c1,f1,f2,f3⟩:=o1
 obtain⟨c2,g1,g2,g3⟩:=o2
 unfold gD
 by_cases h0:t2.2.1=0
 ·have e2:=z2 h0
  have e3:t2.1=false:=by rw[e2]
  have e4:t2.2.2=0:=by rw[e2]
  rw[h0,e3,e4,dlen_zero]
  have k2:=fun(W:World) (hW:Bw w W)=>rplusG (nb:=false) (y:=0) (eb:=0) (a1.later hW) (garg0D W) c1 rfl (by omega) (by omega) (by omega) (by omega) (by omega) (by rw[dlen_zero];omega)
  simp only[dlen_zero] at k2
  exact(rlessN_1 t1.1 false ao ao' (dlen t1.2.1) cap 0 cap' t1.2.2 0 false none 0 0 0 _ _ _ w (fun W=>rminus_0 false ao' cap' 0 W) k2).mono fun r w' ⟨A,e,h,hb⟩=>⟨A,e,h.dn,hb⟩
 ·have hl:0<dlen t2.2.1:=by have:=dlen_pos h0;omega
  rw[decide_eq_true hl,Bool.and_true]
  exact(rlessN_1 t1.1 t2.1 ao ao' (dlen t1.2.1) cap (dlen t2.2.1) cap' t1.2.2 t2.2.2 (!t2.1) ao' (dlen t2.2.1) cap' t2.2.2 _ _ _ w (fun W=>rminus_1 t2.1 ao' (dlen t2.2.1) cap' t2.2.2 W (by omega) (by rw[beq_eq_false_iff_ne];omega)) (fun W hW=>rplusG (a1.later hW) (a2.later hW) c1 (gcn_turn c2 h0 _) (by omega) (by omega) (by omega) (by omega) (by omega) (by omega))).mono fun r w' ⟨A,e,h,hb⟩=>⟨A,e,h.dn,hb⟩
def gK (k:Int) (t:Bool×Nat×Int):Bool×Nat×Int:=if t.2.1=0 then(false,0,0) else(t.1,t.2.1,t.2.2+k)
theorem gminus {t:Bool×Nat×Int} {A:Value} {w:World} (h:DN w A t):Calls Tryz.prog 29 #[A] w fun r w'=>∃ B,r=.returned B∧DN w' B (gN t)∧Bw w w':=by
 obtain⟨ao,cap,rfl,hA⟩:=h
 unfold gN
 by_cases h0:t.2.1=0
 ·rw[if_pos h0,dlen_eq_zero.2 h0]
  refine(rminus_0 t.1 ao cap t.2.2 w).mono ?_
  rintro r w' ⟨rfl,hb⟩
  exact⟨_,rfl,gdn0 _,hb⟩
 ·rw[if_neg h0]
  have hd:dlen t.2.1≠0:=fun e=>h0 (dlen_eq_zero.1 e)
  refine(rminus_1 t.1 ao (dlen t.2.1) cap t.2.2 w hA.small (by simp;omega)).mono ?_
  rintro r w' ⟨rfl,hb⟩
  exact⟨_,rfl,⟨ao,cap,rfl,hA.later hb⟩,hb⟩
theorem gwhole_1 (n:Int) (m:Nat) (w:World) (hm:m<18446744073709551616) (hn1:0≤n) (hn2:n≤9223372036854775807) (hwr:IntKind.u64.wrap n=(m:Int)) :
  Calls Tryz.prog 13 #[.int .i64 n] w fun r w'=>∃ A,r=.returned A∧NC w' w.heap.size A false m 0∧Bw w w':=by
 have hnn:¬ n<0:=by omega
 obtain⟨W,hW⟩:∃ W,W=w.alloc (.cells #[.bool false,.slice none 0 0,.int .i64 0] 30):=⟨_,rfl⟩
 have k34:=xnorm_two (ng:=false) (m:=m) (e:=0) (W:=W) hm (by omega)
 have HB0:Hid (Bw w W∧W.heap[w.heap.size]?=some (.cells #[.bool false,.slice none 0 0,.int .i64 0] 30 (0,0))∧W.heap.size=w.heap.size+1):=⟨by rw[hW];exact(Below.refl _ _).alloc (Nat.le_refl _) _,by rw[hW];exact heap_alloc_new _ _,by rw[hW];simp⟩
 (try unfold Bw at k34);rw[HB0.out.2.2] at k34
 go_enter Tryz.func13,Tryz.ntmps13
 go_wp2_with fail
 rw[←hW]
 clear hW
 refine k34.mono ?_
 rintro r w3 ⟨s,ao,n,cap,ex,rfl,hn,hb⟩
 have hs:=HB0.out.2.2
 have HC3:Hid (w3.heap[w.heap.size]?=some (.cells #[.bool false,.slice none 0 0,.int .i64 0] 30 (0,0))):=box_later HB0.out.2.1 hb (by omega)
 obtain⟨⟨a1,a2,a3⟩,a4,a5,a6⟩:=box_cells29 HC3.out
 have HN:Hid (NC w3 (w.heap.size+1) (.agg #[.bool s,.slice ao n cap,.int .i64 ex]) false m 0∧Below (w.heap.size+1) W w3):=⟨hn.mono (by omega),hb⟩
 clear hn hb k34 hs
 go_wp2
 refine bodyPost_ret (results_cell_row rfl _ _ w.heap.size 30 #[.bool s,.slice ao n cap,.int .i64 ex] (0,0) _ rfl (store3_29 _ _ _ HC3.out) Tryz.underlying30 rfl Tryz.info30) rfl ?_
 have hs:=HB0.out.2.2
 exact⟨_,rfl,(HN.out.1.store (by omega) _ _ _).mono (by omega),below_store3 (HB0.out.1.trans (HN.out.2.mono (by omega))) (Nat.le_refl _) _ _ _⟩
theorem gwhole_2 (n:Int) (m:Nat) (w:World) (hm:m<18446744073709551616) (hn1:n<0) (hn2 : -9223372036854775808≤n) (hwr : -(n+1)+1=(m:Int)) :
  Calls Tryz.prog 13 #[.int .i64 n] w fun r w'=>∃ A,r=.returned A∧NC w' w.heap.size A true m 0∧Bw w w':=by
 obtain⟨W,hW⟩:∃ W,W=w.alloc (.cells #[.bool false,.slice none 0 0,.int .i64 0] 30):=⟨_,rfl⟩
 have k34:=xnorm_two (ng:=true) (m:=m) (e:=0) (W:=W) hm (by omega)
 have HB0:Hid (Bw w W∧W.heap[w.heap.size]?=some (.cells #[.bool false,.slice none 0 0,.int .i64 0] 30 (0,0))∧W.heap.size=w.heap.size+1):=⟨by rw[hW];exact(Below.refl _ _).alloc (Nat.le_refl _) _,by rw[hW];exact heap_alloc_new _ _,by rw[hW];simp⟩
 (try unfold Bw at k34);rw[HB0.out.2.2] at k34
 go_enter Tryz.func13,Tryz.ntmps13
 go_wp2_with fail
 rw[←hW]
 clear hW
 refine k34.mono ?_
 rintro r w3 ⟨s,ao,n,cap,ex,rfl,hn,hb⟩
 have hs:=HB0.out.2.2
 have HC3:Hid (w3.heap[w.heap.size]?=some (.cells #[.bool false,.slice none 0 0,.int .i64 0] 30 (0,0))):=box_later HB0.out.2.1 hb (by omega)
 obtain⟨⟨a1,a2,a3⟩,a4,a5,a6⟩:=box_cells29 HC3.out
 have HN:Hid (NC w3 (w.heap.size+1) (.agg #[.bool s,.slice ao n cap,.int .i64 ex]) true m 0∧Below (w.heap.size+1) W w3):=⟨hn.mono (by omega),hb⟩
 clear hn hb k34 hs
 go_wp2
 refine bodyPost_ret (results_cell_row rfl _ _ w.heap.size 30 #[.bool s,.slice ao n cap,.int .i64 ex] (0,0) _ rfl (store3_29 _ _ _ HC3.out) Tryz.underlying30 rfl Tryz.info30) rfl ?_
 have hs:=HB0.out.2.2
 exact⟨_,rfl,(HN.out.1.store (by omega) _ _ _).mono (by omega),below_store3 (HB0.out.1.trans (HN.out.2.mono (by omega))) (Nat.le_refl _) _ _ _⟩
theorem gwhole {n:Int} {w:World} (hn : -9223372036854775808≤n∧n≤9223372036854775807) :
  Calls Tryz.prog 13 #[.int .i64 n] w fun r w'=>∃ A,r=.returned A∧DN w' A (cn (decide (n<0)) n.natAbs 0)∧Bw w w':=by
 by_cases h:n<0
 ·rw[decide_eq_true h]
  exact(gwhole_2 n n.natAbs w (by omega) h (by omega) (by omega)).mono fun r w' ⟨A,e,h,hb⟩=>⟨A,e,h.dn,hb⟩
 ·rw[decide_eq_false h]
  exact(gwhole_1 n n.natAbs w (by omega) (by omega) (by omega) (by rw[IntKind.wrap_u64];omega)).mono fun r w' ⟨A,e,h,hb⟩=>⟨A,e,h.dn,hb⟩
def un (Z:Int) (p:Nat):Bool×Nat×Int:=cn (decide (Z<0)) Z.natAbs (-(p:Int))
theorem sv_nat (Z:Int):sv (decide (Z<0)) Z.natAbs=Z:=by
 unfold sv
 by_cases h:Z<0
 ·rw[if_pos (decide_eq_true h)];omega
 ·rw[if_neg (by simpa using h)];omega
theorem vz_un {K p:Nat} (Z:Int) (h:p≤K):vz K (un Z p).1 (un Z p).2.1 (un Z p).2.2=Z*((2^(K - p):Nat):Int):=by
 unfold un
 rw[vz_cn (by omega)]
 unfold vz
 rw[sv_nat,show(-(p:Int)+(K:Int)).toNat=K - p by omega]
theorem tz_le {x b:Nat} (h:x<2^b):tz x≤b:=by
 by_cases h0:x=0
 ·rw[h0];exact Nat.le_trans (Nat.le_of_eq (by rw[tz];rfl)) (Nat.zero_le _)
 ·have h2:=(tz_spec x x (Nat.le_refl _) h0).1
  have h3:2^tz x≤x:=by
   have h4:0<x / 2^tz x:=by
    rcases Nat.eq_zero_or_pos (x / 2^tz x)with h|h
    ·rw[h,Nat.mul_zero] at h2;omega
    ·exact h
   exact Nat.le_trans (Nat.le_mul_of_pos_right _ h4) (Nat.le_of_eq h2)
  exact Nat.le_of_lt ((Nat.pow_lt_pow_iff_right (by omega)).1 (Nat.lt_of_le_of_lt h3 h))
theorem un_e {Z:Int} {p b:Nat} (h:Z.natAbs<2^b) : -(p:Int)≤(un Z p).2.2∧(un Z p).2.2≤b∧0≤(un Z p).2.2+(p:Int):=by
 have ht:=tz_le h
 unfold un cn
 by_cases h0:Z.natAbs=0
 ·rw[if_pos h0];simp only;omega
 ·rw[if_neg h0];simp only;omega
theorem dlen_two9 {x b:Nat} (h:x<2^b):dlen x≤b / 32+1:=by
 refine(dlen_le _ _).2 (Nat.lt_of_lt_of_le h ?_)
 rw[show B=2^32 by rfl,←Nat.pow_mul]
 exact Nat.pow_le_pow_right (by decide) (by omega)
theorem cn_idem (s:Bool) (z:Nat) (e:Int):cn (cn s z e).1 (cn s z e).2.1 (cn s z e).2.2=cn s z e:=by
 by_cases h0:z=0
 ·unfold cn;rw[if_pos h0,if_pos rfl]
 ·have h2:=(tz_spec z z (Nat.le_refl _) h0).2
  have:cn s z e=(s,z / 2^tz z,e+tz z):=by unfold cn;rw[if_neg h0]
  rw[this]
  exact cn_odd h2
theorem un_small {Z:Int} {p b:Nat} (h:Z.natAbs<2^b):(un Z p).2.1<2^b:=by
 unfold un cn
 split
 ·exact Nat.two_pow_pos _
 ·exact Nat.lt_of_le_of_lt (Nat.div_le_self _ _) h
theorem un_gn {Z:Int} {p b:Nat} (h:Z.natAbs<2^b) (hb:b≤90000) (hp:p≤90000):Gn (un Z p):=by
 have h1:=un_e (p:=p) h
 have h2:=dlen_two9 (un_small (p:=p) h)
 exact⟨cn_idem _ _ _,by omega,by omega,by omega⟩
theorem un_eq {s:Bool} {z:Nat} {e:Int} {Z:Int} {p K:Nat} (hp:p≤K) (he:0≤e+K) (h:vz K s z e=Z*((2^(K - p):Nat):Int)):cn s z e=un Z p:=by
 unfold un
 refine cn_eq he (by omega) ?_
 rw[h]
 unfold vz
 rw[sv_nat,show(-(p:Int)+(K:Int)).toNat=K - p by omega]
theorem gS_un {a b:Int} {p:Nat}:gS (un a p) (un b p)=un (a+b) p:=by
 have e1:=(un_e (p:=p) (Nat.lt_two_pow_self (n:=a.natAbs))).2.2
 have e2:=(un_e (p:=p) (Nat.lt_two_pow_self (n:=b.natAbs))).2.2
 unfold gS
 have hs:0≤(sumN (un a p).1 (un a p).2.1 (un a p).2.2 (un b p).1 (un b p).2.1 (un b p).2.2).2.2+(p:Int):=by
  unfold sumN
  split
  ·exact e2
  ·split
   ·exact e1
   ·split
    ·simp only;omega
    ·split <;> (simp only;omega)
 refine un_eq (K:=p) (Nat.le_refl _) hs ?_
 rw[vz_sumN e1 e2,vz_un a (Nat.le_refl _),vz_un b (Nat.le_refl _),←Int.add_mul]
theorem un_sign {Z:Int} {p:Nat}:((un Z p).1=true→0<dlen (un Z p).2.1)∧((un Z p).2.1=0↔Z=0):=by
 have hz:(un Z p).2.1=0↔Z=0:=by
  have h:=vz_un (K:=p) (p:=p) Z (Nat.le_refl _)
  have e:=vz_eq_zero (K:=p) (s:=(un Z p).1) (x:=(un Z p).2.1) (e:=(un Z p).2.2)
  rw[h,Nat.sub_self,Nat.pow_zero] at e
  constructor
  ·intro h0;have:=e.2 h0;simpa using this
  ·intro h0;exact e.1 (by rw[h0];simp)
 refine⟨fun h=>?_,hz⟩
 by_cases h0:(un Z p).2.1=0
 ·have:Z=0:=hz.1 h0
  subst this
  exact absurd h (by unfold un cn;rw[if_pos (by decide)];decide)
 ·have:dlen (un Z p).2.1≠0:=fun e=>h0 (dlen_eq_zero.1 e)
  omega
theorem gN_un {a:Int} {p:Nat}:gN (un a p)=un (-a) p:=by
 unfold gN
 by_cases h0:(un a p).2.1=0
 ·rw[if_pos h0]
  have:=un_sign.2.1 h0
  subst this
  unfold un cn;rw[if_pos (by decide)]
 ·rw[if_neg h0]
  have e1:=(un_e (p:=p) (Nat.lt_two_pow_self (n:=a.natAbs))).2.2
  have k:cn (!(un a p).1) (un a p).2.1 (un a p).2.2=(!(un a p).1,(un a p).2.1,(un a p).2.2):=gcn_turn (cn_idem _ _ _) h0 _
  rw[←k]
  refine un_eq (K:=p) (Nat.le_refl _) e1 ?_
  have h:=vz_un (K:=p) (p:=p) a (Nat.le_refl _)
  unfold vz at h ⊢
  have hs:sv (!(un a p).1) (un a p).2.1 = - sv (un a p).1 (un a p).2.1:=by unfold sv;cases (un a p).1 <;> simp
  rw[hs,Int.neg_mul,h,Int.neg_mul]
theorem gD_un {a b:Int} {p:Nat}:gD (un a p) (un b p)=un (a - b) p:=by
 have h:gD (un a p) (un b p)=gS (un a p) (gN (un b p)):=by
  unfold gD gS gN
  by_cases h0:(un b p).2.1=0
  ·rw[if_pos h0]
   have hb:=un_sign.2.1 h0
   subst hb
   have e:un 0 p=(false,0,0):=by unfold un cn;rw[if_pos (by decide)]
   rw[e,dlen_zero]
   rfl
  ·rw[if_neg h0]
   have hd:dlen (un b p).2.1≠0:=fun e=>h0 (dlen_eq_zero.1 e)
   rw[decide_eq_true (show 0<dlen (un b p).2.1 by omega),Bool.and_true]
 rw[h,gN_un,gS_un,Int.sub_eq_add_neg]
theorem gM_un {a b:Int} {p q:Nat}:gM (un a p) (un b q)=un (a*b) (p+q):=by
 have e1:=(un_e (p:=p) (Nat.lt_two_pow_self (n:=a.natAbs))).2.2
 have e2:=(un_e (p:=q) (Nat.lt_two_pow_self (n:=b.natAbs))).2.2
 unfold gM
 refine un_eq (K:=p+q) (Nat.le_refl _) (by omega) ?_
 rw[vz_mul e1 e2,vz_un a (Nat.le_refl _),vz_un b (Nat.le_refl _),Nat.sub_self,Nat.sub_self,Nat.sub_self]
 simp
theorem gK_un {a:Int} {p:Nat} {k:Int} {q:Nat} (h:(p:Int) - k=q):gK k (un a p)=un a q:=by
 unfold gK
 by_cases h0:(un a p).2.1=0
 ·rw[if_pos h0]
  have hb:=un_sign.2.1 h0
  subst hb
  unfold un cn;rw[if_pos (by decide)]
 ·rw[if_neg h0]
  unfold un at h0 ⊢
  unfold cn at h0 ⊢
  by_cases hz:a.natAbs=0
  ·rw[if_pos hz] at h0;exact absurd rfl h0
  ·rw[if_neg hz,if_neg hz]
   refine Prod.ext rfl (Prod.ext rfl ?_)
   simp only;omega
theorem un_whole (n:Int):cn (decide (n<0)) n.natAbs 0=un n 0:=rfl
end Go.Proofs.YthhaamilfioddaaGreatDoor
namespace Go.Proofs.YthhaamilfioddaaGreatDoor
inductive Smp:Nat→Nat→Nat→Nat→Nat→Nat→Prop
 | whole {a b c d:Nat}:0<b→a % b=0→Smp a b c d (a / b) 1
 | above {a b c d:Nat}:0<b→a % b≠0→(a / b+1)*d≤c→Smp a b c d (a / b+1) 1
 | more {a b c d p q:Nat}:0<b→a % b≠0→c<(a / b+1)*d→Smp d (c - a / b*d) b (a % b) p q→Smp a b c d (a / b*p+q) p
end Go.Proofs.YthhaamilfioddaaGreatDoor
namespace Go.Proofs.YthhaamilfioddaaGreatDoor
open Go.RowKit Go.Fl64
theorem okR_un {Z:Int} {p b:Nat} (h:Z.natAbs<2^b) (hb:b≤60000) (hp:p≤60000):okR (decide (Z<0)) Z.natAbs (-(p:Int))=true :=
 Fits.ok (lo := -(p:Int)) (hi:=(b:Int) - p) (.inr ⟨by omega,by omega,by rw[show((b:Int) - p - (-(p:Int))).toNat=b by omega];exact h⟩) (by omega) (by omega) (by omega)
theorem ok_un {Z:Int} {p b:Nat} (h:Z.natAbs<2^b) (hb:b≤60000) (hp:p≤60000):Ok (un Z p):=ok_cn (okR_un h hb hp)
theorem pow_grow {x b:Nat} (k:Nat) (h:x<2^b):x<2^(b+k):=Nat.lt_of_lt_of_le h (Nat.pow_le_pow_right (by decide) (by omega))
theorem abs_add {a b:Int} {k:Nat} (h1:a.natAbs<2^k) (h2:b.natAbs<2^k):(a+b).natAbs<2^(k+1):=by rw[Nat.pow_succ];omega
theorem abs_sub {a b:Int} {k:Nat} (h1:a.natAbs<2^k) (h2:b.natAbs<2^k):(a - b).natAbs<2^(k+1):=by rw[Nat.pow_succ];omega
theorem abs_mul {a b:Int} {k l:Nat} (h1:a.natAbs<2^k) (h2:b.natAbs<2^l):(a*b).natAbs<2^(k+l):=by
 rw[Int.natAbs_mul,Nat.pow_add]
 exact Nat.mul_lt_mul'' h1 h2
theorem padd_un {a b:Int} {p k:Nat} (h1:a.natAbs<2^k) (h2:b.natAbs<2^k) (hk:k<60000) (hp:p≤60000):Op2 109 (un a p) (un b p) (un (a+b) p):=by
 have e:=gS_un (a:=a) (b:=b) (p:=p)
 have:=add_op (ok_un (p:=p) h1 (by omega) hp) (ok_un (p:=p) h2 (by omega) hp) (by
  rw[okR_cn]
  have o:=ok_un (p:=p) (abs_add h1 h2) (by omega) hp
  rw[←e] at o
  exact o)
 rw[←e]
 exact this
theorem psub_un {a b:Int} {p k:Nat} (h1:a.natAbs<2^k) (h2:b.natAbs<2^k) (hk:k<60000) (hp:p≤60000):Op2 101 (un a p) (un b p) (un (a - b) p):=by
 have e:=gD_un (a:=a) (b:=b) (p:=p)
 have:=sub_op (ok_un (p:=p) h1 (by omega) hp) (ok_un (p:=p) h2 (by omega) hp) (by
  rw[okR_cn]
  have o:=ok_un (p:=p) (abs_sub h1 h2) (by omega) hp
  rw[←e] at o
  exact o)
 rw[←e]
 exact this
theorem pmul_un {a b:Int} {p q k l:Nat} (h1:a.natAbs<2^k) (h2:b.natAbs<2^l) (hk:k+l≤60000) (hp:p+q≤60000):Op2 102 (un a p) (un b q) (un (a*b) (p+q)):=by
 have e:=gM_un (a:=a) (b:=b) (p:=p) (q:=q)
 have:=mul_op (ok_un (p:=p) h1 (by omega) (by omega)) (ok_un (p:=q) h2 (by omega) (by omega)) (by
  rw[okR_cn]
  have o:=ok_un (p:=p+q) (abs_mul h1 h2) (by omega) hp
  rw[←e] at o
  exact o)
 rw[←e]
 exact this
theorem ord_un {a b:Int} {p:Nat}:ordN (un a p).1 (un a p).2.1 (un a p).2.2 (un b p).1 (un b p).2.1 (un b p).2.2=cmpI a b:=by
 have e1:=(un_e (p:=p) (Nat.lt_two_pow_self (n:=a.natAbs))).2.2
 have e2:=(un_e (p:=p) (Nat.lt_two_pow_self (n:=b.natAbs))).2.2
 rw[ordN_vz e1 e2,vz_un a (Nat.le_refl _),vz_un b (Nat.le_refl _),Nat.sub_self,Nat.pow_zero]
 simp
theorem pcmp_un {a b:Int} {p k:Nat} (h1:a.natAbs<2^k) (h2:b.natAbs<2^k) (hk:k≤60000) (hp:p≤60000) {W:World} {X Y:Value} (hX:PN W X (un a p)) (hY:PN W Y (un b p)) :
  Calls Tryz.prog 108 #[X,Y] W fun r w'=>r=.returned (.int .i64 (cmpI a b))∧Bw W w':=by
 have o1:=ok_un (p:=p) h1 hk hp
 have o2:=ok_un (p:=p) h2 hk hp
 have f1:=o1.facts
 have f2:=o2.facts
 obtain⟨ua,uc,rfl,i1⟩:=hX
 obtain⟨va,vc,rfl,i2⟩:=hY
 have:=cmp_ok i1 i2 (by omega) (by omega) (by omega) (by omega) o1 o2
 rw[ord_un] at this
 exact this
theorem div_cross {X Y A B:Nat} (hY:0<Y) (hB:0<B) (h:X*B=A*Y):X / Y=A / B∧(X % Y=0↔A % B=0):=by
 have h1:X / Y=A / B:=by
  rw[←Nat.mul_div_mul_right X Y hB,h,Nat.mul_comm Y B,Nat.mul_div_mul_right A B hY]
 refine⟨h1,?_⟩
 have e1:=Nat.div_add_mod X Y
 have e2:=Nat.div_add_mod A B
 have e3:X % Y*B=A % B*Y:=by
  have g1:X*B=Y*(A / B)*B+X % Y*B:=by rw[←Nat.add_mul,←h1,e1]
  have g2:A*Y=B*(A / B)*Y+A % B*Y:=by rw[←Nat.add_mul,e2]
  have g3:Y*(A / B)*B=B*(A / B)*Y:=by ac_rfl
  omega
 constructor
 ·intro h0
  rw[h0,Nat.zero_mul] at e3
  rcases Nat.mul_eq_zero.1 e3.symm with h|h
  ·exact h
  ·omega
 ·intro h0
  rw[h0,Nat.zero_mul] at e3
  rcases Nat.mul_eq_zero.1 e3 with h|h
  ·exact h
  ·omega
theorem un_nat {A p:Nat}:(un (A:Int) p).1=false:=by
 unfold un cn
 rw[decide_eq_false (by omega)]
 split <;> rfl
theorem pquo_un {A B p k:Nat} (h1:A<2^k) (h2:B<2^k) (h0:0<B) (hk:k≤60000) (hp:p≤60000) {W:World} {X Y:Value} (hT:Tab32 W) (hX:PN W X (un (A:Int) p)) (hY:PN W Y (un (B:Int) p)) :
  Calls Tryz.prog 51 #[X,Y,.int .i64 0] W fun r w'=>∃ s ao n cap e,r=.returned (.tuple #[.agg #[.bool s,.slice ao n cap,.int .i64 e],.bool (decide (A % B=0)),.int .i64 0])∧PN w' (.agg #[.bool s,.slice ao n cap,.int .i64 e]) (un ((A / B:Nat):Int) 0)∧Bw W w':=by
 have a1:((A:Nat):Int).natAbs<2^k:=by rw[Int.natAbs_natCast];exact h1
 have b1:((B:Nat):Int).natAbs<2^k:=by rw[Int.natAbs_natCast];exact h2
 have o1:=ok_un (p:=p) a1 hk hp
 have o2:=ok_un (p:=p) b1 hk hp
 have f1:=o1.facts
 have f2:=o2.facts
 have v1:=vz_un (K:=p) (p:=p) (A:Int) (Nat.le_refl _)
 have v2:=vz_un (K:=p) (p:=p) (B:Int) (Nat.le_refl _)
 have g1:=(un_e (p:=p) a1).2.2
 have g2:=(un_e (p:=p) b1).2.2
 have n1:=un_nat (A:=A) (p:=p)
 have n2:=un_nat (A:=B) (p:=p)
 have z2:(un (B:Int) p).2.1≠0:=fun h=>by have:=un_sign.2.1 h;omega
 obtain⟨ua,uc,rfl,i1⟩:=hX
 obtain⟨va,vc,rfl,i2⟩:=hY
 obtain⟨t1,ht1⟩:∃ t,t=un (A:Int) p:=⟨_,rfl⟩
 obtain⟨t2,ht2⟩:∃ t,t=un (B:Int) p:=⟨_,rfl⟩
 rw[←ht1] at o1 f1 v1 g1 n1 i1 ⊢
 rw[←ht2] at o2 f2 v2 g2 n2 z2 i2 ⊢
 obtain⟨s1,x,ea⟩:=t1
 obtain⟨s2,y,eb⟩:=t2
 simp only at o1 f1 v1 g1 n1 i1 o2 f2 v2 g2 n2 z2 i2 ⊢
 subst n1
 subst n2
 have eA:x*2^(ea+(p:Int)).toNat=A:=by
  unfold vz sv at v1
  rw[Nat.sub_self,Nat.pow_zero] at v1
  simp only[Bool.false_eq_true,if_false,Int.mul_one] at v1
  have:((x*2^(ea+(p:Int)).toNat:Nat):Int)=(A:Int):=by
   rw[Int.natCast_mul];simpa using v1
  exact Int.ofNat.inj this
 have eB:y*2^(eb+(p:Int)).toNat=B:=by
  unfold vz sv at v2
  rw[Nat.sub_self,Nat.pow_zero] at v2
  simp only[Bool.false_eq_true,if_false,Int.mul_one] at v2
  have:((y*2^(eb+(p:Int)).toNat:Nat):Int)=(B:Int):=by
   rw[Int.natCast_mul];simpa using v2
  exact Int.ofNat.inj this
 obtain⟨P,hP⟩:∃ P,x*2^(ea+0 - min (ea+0) eb).toNat=P:=⟨_,rfl⟩
 obtain⟨Q,hQ⟩:∃ Q,y*2^(eb - min (ea+0) eb).toNat=Q:=⟨_,rfl⟩
 have hQ0:0<Q:=by rw[←hQ];exact Nat.mul_pos (Nat.pos_of_ne_zero z2) (Nat.two_pow_pos _)
 have hcr:P*B=A*Q:=by
  rw[←hP,←hQ,←eA,←eB]
  have e1:(ea+0 - min (ea+0) eb).toNat+(eb+(p:Int)).toNat=(ea+(p:Int)).toNat+(eb - min (ea+0) eb).toNat:=by omega
  generalize (ea+0 - min (ea+0) eb).toNat=j1 at *
  generalize (eb+(p:Int)).toNat=j2 at *
  generalize (ea+(p:Int)).toNat=j3 at *
  generalize (eb - min (ea+0) eb).toNat=j4 at *
  have e2:(2:Nat)^j1*2^j2=2^j3*2^j4:=by rw[←Nat.pow_add,←Nat.pow_add,e1]
  calc x*2^j1*(y*2^j2)=x*y*(2^j1*2^j2):=by ac_rfl
   _=x*y*(2^j3*2^j4):=by rw[e2]
   _=x*2^j3*(y*2^j4):=by ac_rfl
 obtain⟨d1,d2⟩:=div_cross hQ0 h0 hcr
 refine(c44 (na:=false) (nb:=false) (place:=0) i1 i2 hT z2 (by omega) (by omega) o1 o2 ⟨f1.2.1,f1.2.2.1⟩ ⟨f2.2.1,f2.2.2.1⟩ (by omega) P Q hP hQ).mono ?_
 rintro r w' ⟨N,rfl,hN,hb⟩
 have hz:(if((false:Bool) != false) && !(decide (P % Q=0))then P / Q+1 else P / Q)=A / B:=by rw[←d1];rfl
 have hdec:decide (P % Q=0)=decide (A % B=0):=by
  by_cases h:A % B=0
  ·rw[decide_eq_true h,decide_eq_true (d2.2 h)]
  ·rw[decide_eq_false h,decide_eq_false (fun g=>h (d2.1 g))]
 rw[hz] at hN
 have hq1:((A / B:Nat):Int).natAbs<2^k:=by rw[Int.natAbs_natCast];exact Nat.lt_of_le_of_lt (Nat.div_le_self _ _) h1
 have hokq:okR ((false:Bool) != false) (A / B) (-(0:Int))=true:=by
  have:=okR_un (p:=0) hq1 hk (by omega)
  rw[decide_eq_false (by omega),Int.natAbs_natCast] at this
  exact this
 rw[hz,hokq,hdec]
 have hpn:=hN.pn
 have he:cn ((false:Bool) != false) (A / B) (-(0:Int))=un ((A / B:Nat):Int) 0:=by
  unfold un
  rw[decide_eq_false (by omega),Int.natAbs_natCast]
  rfl
 rw[he] at hpn
 obtain⟨s',ao,n,cap,e',rfl⟩:=hpn.shape
 exact⟨s',ao,n,cap,e',by rw[Bool.and_true];rfl,hpn,hb⟩
def Fv (W:World) (U:Value) (t1 t2:Bool×Nat×Int):Prop:=∃ (s1:Bool) (ao1:Option Addr) (n1 cp1:Nat) (e1:Int) (s2:Bool) (ao2:Option Addr) (n2 cp2:Nat) (e2:Int),U=.agg #[.bool s1,.slice ao1 n1 cp1,.int .i64 e1,.bool s2,.slice ao2 n2 cp2,.int .i64 e2]∧PN W (.agg #[.bool s1,.slice ao1 n1 cp1,.int .i64 e1]) t1∧PN W (.agg #[.bool s2,.slice ao2 n2 cp2,.int .i64 e2]) t2
theorem Fv.later {W w':World} {U:Value} {t1 t2:Bool×Nat×Int} (h:Fv W U t1 t2) (hb:Bw W w'):Fv w' U t1 t2:=by
 obtain⟨_,_,_,_,_,_,_,_,_,_,e,h1,h2⟩:=h
 exact⟨_,_,_,_,_,_,_,_,_,_,e,h1.later hb,h2.later hb⟩
theorem cells6F {w:World} {g:Nat} {a b c d e f:Value} {T:TypeId} (h:w.heap[g]?=some (.cells #[a,b,c,d,e,f] T (0,0))) :
  (w.cell? ⟨g,0,none⟩=some a∧w.cell? ⟨g,1,none⟩=some b∧w.cell? ⟨g,2,none⟩=some c∧w.cell? ⟨g,3,none⟩=some d∧w.cell? ⟨g,4,none⟩=some e∧w.cell? ⟨g,5,none⟩=some f)∧(w.frozen? ⟨g,0,none⟩=false∧w.frozen? ⟨g,1,none⟩=false∧w.frozen? ⟨g,2,none⟩=false∧w.frozen? ⟨g,3,none⟩=false∧w.frozen? ⟨g,4,none⟩=false∧w.frozen? ⟨g,5,none⟩=false):=by
 simp[World.cell?,World.frozen?,h]
theorem cells3N {w:World} {g:Nat} {a b c:Value} {T:TypeId} (h:w.heap[g]?=some (.cells #[a,b,c] T (0,0))) :
  (w.cell? ⟨g,0,none⟩=some a∧w.cell? ⟨g,1,none⟩=some b∧w.cell? ⟨g,2,none⟩=some c)∧(w.frozen? ⟨g,0,none⟩=false∧w.frozen? ⟨g,1,none⟩=false∧w.frozen? ⟨g,2,none⟩=false):=by
 simp[World.cell?,World.frozen?,h]
theorem two_new {w W:World} (a b:Obj) (hW:W=(w.alloc a).alloc b):W.heap[w.heap.size]?=some a∧W.heap[w.heap.size+1]?=some b∧W.heap.size=w.heap.size+1+1∧Bw w W:=by
 subst hW
 refine⟨?_,?_,by simp,((Below.refl _ _).alloc (Nat.le_refl _) _).alloc (by simp) _⟩
 ·rw[Below.heap_alloc _ _ _ (by simp)];exact heap_alloc_new _ _
 ·have:=heap_alloc_new (w.alloc a) b
  simpa using this
theorem at_cells {W W':World} {ao:Option Addr} {n z g:Nat} {T:TypeId} {s1 s2:Bool} {a1 a2:Option Addr} {m1 c1 m2 c2:Nat} {e1 e2:Int} (h:At W ao n z) (hE:W.heap[g]?=some (.cells #[.bool s1,.slice a1 m1 c1,.int .i64 e1] T (0,0))∨W.heap[g]?=some (.cells #[.bool s1,.slice a1 m1 c1,.int .i64 e1,.bool s2,.slice a2 m2 c2,.int .i64 e2] T (0,0))) (hW:∀ b,b≠g→W'.heap[b]?=W.heap[b]?):At W' ao n z:=by
 obtain⟨bb,o,h1,h2⟩:=h
 refine⟨bb,o,h1,fun i hi=>?_⟩
 have hc:=h2 i hi
 have hne:bb≠g:=by
  rintro rfl
  rcases hE with hE|hE
  ·simp only[World.cell?,hE] at hc
   rcases(show o+i=0∨o+i=1∨o+i=2∨3≤o+i by omega)with e|e|e|e
   ·rw[e] at hc;simp at hc
   ·rw[e] at hc;simp at hc
   ·rw[e] at hc;simp at hc
   ·rw[Array.getElem?_eq_none (by simpa using e)] at hc;cases hc
  ·simp only[World.cell?,hE] at hc
   rcases(show o+i=0∨o+i=1∨o+i=2∨o+i=3∨o+i=4∨o+i=5∨6≤o+i by omega)with e|e|e|e|e|e|e
   ·rw[e] at hc;simp at hc
   ·rw[e] at hc;simp at hc
   ·rw[e] at hc;simp at hc
   ·rw[e] at hc;simp at hc
   ·rw[e] at hc;simp at hc
   ·rw[e] at hc;simp at hc
   ·rw[Array.getElem?_eq_none (by simpa using e)] at hc;cases hc
 unfold World.cell? at hc ⊢
 rw[hW bb hne]
 exact hc
theorem set_other (W:World) (g b i:Nat) (v:Value) (h:b≠g):(W.setCell ⟨g,i,none⟩ v).heap[b]?=W.heap[b]?:=by
 simp[World.setCell,Array.getElem?_modify,Ne.symm h]
theorem PN.cells {W W':World} {A:Value} {t:Bool×Nat×Int} {g:Nat} {T:TypeId} {s1 s2:Bool} {a1 a2:Option Addr} {m1 c1 m2 c2:Nat} {e1 e2:Int} (h:PN W A t) (hE:W.heap[g]?=some (.cells #[.bool s1,.slice a1 m1 c1,.int .i64 e1] T (0,0))∨W.heap[g]?=some (.cells #[.bool s1,.slice a1 m1 c1,.int .i64 e1,.bool s2,.slice a2 m2 c2,.int .i64 e2] T (0,0))) (hW:∀ b,b≠g→W'.heap[b]?=W.heap[b]?):PN W' A t:=by
 obtain⟨ao,cap,rfl,a',c',h1,h2,h3,h4⟩:=h
 exact⟨ao,cap,rfl,a',c',h1,h2,h3,at_cells h4 hE hW⟩
theorem PN.set3 {W:World} {A:Value} {t:Bool×Nat×Int} {g:Nat} {T:TypeId} {s1:Bool} {a1:Option Addr} {m1 c1:Nat} {e1:Int} (h:PN W A t) (hE:W.heap[g]?=some (.cells #[.bool s1,.slice a1 m1 c1,.int .i64 e1] T (0,0))) (x y z:Value):PN (((W.setCell ⟨g,0,none⟩ x).setCell ⟨g,1,none⟩ y).setCell ⟨g,2,none⟩ z) A t :=
 h.cells (s2:=false) (a2:=none) (m2:=0) (c2:=0) (e2:=0) (.inl hE) fun b hb=>by rw[set_other _ _ _ _ _ hb,set_other _ _ _ _ _ hb,set_other _ _ _ _ _ hb]
theorem set6_at {w:World} {g:Nat} {a b c d e f:Value} {T:TypeId} (a1 b1 c1 a2 b2 c2:Value) (h:w.heap[g]?=some (.cells #[a,b,c,d,e,f] T (0,0))) :
  ((((((w.setCell ⟨g,0,none⟩ a1).setCell ⟨g,1,none⟩ b1).setCell ⟨g,2,none⟩ c1).setCell ⟨g,3,none⟩ a2).setCell ⟨g,4,none⟩ b2).setCell ⟨g,5,none⟩ c2).heap[g]?=some (.cells #[a1,b1,c1,a2,b2,c2] T (0,0)):=by
 simp[World.setCell,Array.getElem?_modify,h]
theorem PN.set6 {W:World} {A:Value} {t:Bool×Nat×Int} {g:Nat} {T:TypeId} {s1 s2:Bool} {a1 a2:Option Addr} {m1 c1 m2 c2:Nat} {e1 e2:Int} (h:PN W A t) (hE:W.heap[g]?=some (.cells #[.bool s1,.slice a1 m1 c1,.int .i64 e1,.bool s2,.slice a2 m2 c2,.int .i64 e2] T (0,0))) (x y z x' y' z':Value):PN ((((((W.setCell ⟨g,0,none⟩ x).setCell ⟨g,1,none⟩ y).setCell ⟨g,2,none⟩ z).setCell ⟨g,3,none⟩ x').setCell ⟨g,4,none⟩ y').setCell ⟨g,5,none⟩ z') A t :=
 h.cells (.inr hE) fun b hb=>by rw[set_other _ _ _ _ _ hb,set_other _ _ _ _ _ hb,set_other _ _ _ _ _ hb,set_other _ _ _ _ _ hb,set_other _ _ _ _ _ hb,set_other _ _ _ _ _ hb]
theorem below_set3 {B:Nat} {w0 w:World} {g:Nat} (h:Below B w0 w) (hg:B≤g) (x y z:Value):Below B w0 (((w.setCell ⟨g,0,none⟩ x).setCell ⟨g,1,none⟩ y).setCell ⟨g,2,none⟩ z):=((h.setCell hg _).setCell hg _).setCell hg _
theorem below_set6 {B:Nat} {w0 w:World} {g:Nat} (h:Below B w0 w) (hg:B≤g) (x y z x' y' z':Value):Below B w0 ((((((w.setCell ⟨g,0,none⟩ x).setCell ⟨g,1,none⟩ y).setCell ⟨g,2,none⟩ z).setCell ⟨g,3,none⟩ x').setCell ⟨g,4,none⟩ y').setCell ⟨g,5,none⟩ z'):=(((((h.setCell hg _).setCell hg _).setCell hg _).setCell hg _).setCell hg _).setCell hg _
theorem set3_at {w:World} {g:Nat} {a b c:Value} {T:TypeId} (a1 b1 c1:Value) (h:w.heap[g]?=some (.cells #[a,b,c] T (0,0))) :
  (((w.setCell ⟨g,0,none⟩ a1).setCell ⟨g,1,none⟩ b1).setCell ⟨g,2,none⟩ c1).heap[g]?=some (.cells #[a1,b1,c1] T (0,0)):=by
 simp[World.setCell,Array.getElem?_modify,h]
theorem three_new {w W:World} (a b c:Obj) (hW:W=((w.alloc a).alloc b).alloc c):W.heap[w.heap.size]?=some a∧W.heap[w.heap.size+1]?=some b∧W.heap[w.heap.size+1+1]?=some c∧Bw w W:=by
 obtain⟨V,hV⟩:∃ V,V=(w.alloc a).alloc b:=⟨_,rfl⟩
 obtain⟨h1,h2,h3,h4⟩:=two_new a b hV
 have hb:Bw V W:=by rw[hW,←hV];exact(Below.refl _ _).alloc (Nat.le_refl _) _
 refine⟨box_later h1 hb (by omega),box_later h2 hb (by omega),?_,h4.trans (hb.mono h4.size)⟩
 rw[hW,←hV,←h3];exact heap_alloc_new _ _
def OutP (W:World) (T:Bool×Nat×Int) (r:Ending) (w':World):Prop:=∃ s ao n cap e,r=.returned (.agg #[.bool s,.slice ao n cap,.int .i64 e])∧PN w' (.agg #[.bool s,.slice ao n cap,.int .i64 e]) T∧Bw W w'
def OutFv (W:World) (t1 t2:Bool×Nat×Int) (r:Ending) (w':World):Prop:=∃ U,r=.returned U∧Fv w' U t1 t2∧Bw W w'
end Go.Proofs.YthhaamilfioddaaGreatDoor
namespace Go.Proofs.YthhaamilfioddaaGreatDoor
open Go.RowKit
structure ParL (W0:World) (a0:Act) (m:Nat) (slot:Nat→Tmp) (V:Nat→World→Value→Prop) (listed:Array Bool) (a:Act) (w:World):Prop where
 below:Bw W0 w
 size:a.tmps.size=a0.tmps.size
 defers:a.defers=a0.defers
 other:∀ s,(∀ j,j<m→s≠slot j)→a.tmps[s]?=a0.tmps[s]?
 val:∀ j,j<m→listed.getD j false=true→∃ u,a.tmps[slot j]?=some u∧V j w u
theorem parl_region {P:Program} {ops:Array Oper} {Q:Exit→Act→World→Prop} {id:Nat} (hm:P.follows .mixedOrders=true) (m:Nat) (slot:Nat→Tmp) (dep:Nat→List Nat)
  (W0:World) (a0:Act) (V:Nat→World→Value→Prop) (hsz:ops.size=m+1)
  (hord:∀ (i:Nat) (o:Oper),ops[i]?=some o→∀ e ∈ o.after,e.on<i)
  (hV1:∀ j w w' u,Bw w w'→V j w u→V j w' u)
  (hdep:∀ j,j<m→∀ j' ∈ dep j,j'<m∧∀ o,ops[j]?=some o→∃ e ∈ o.after,e.on=j'∧Region.binds .any e=true)
  (hA:∀ j,j<m→∀ (a:Act) (w:World),Bw W0 w→(∀ s,(∀ j,j<m→s≠slot j)→a.tmps[s]?=a0.tmps[s]?) →
   (∀ j' ∈ dep j,∃ u,a.tmps[slot j']?=some u∧V j' w u)→wpOp P ops Q j (fun a' w'=>∃ u,a'=a.put (some (slot j)) u∧V j w' u∧Bw w w') a w)
  (hlast:∀ o,ops[m]?=some o→∀ j,j<m→∃ e ∈ o.after,e.on=j∧Region.binds .any e=true)
  (hin:∀ j,j<m→slot j<a0.tmps.size)
  (hinj:∀ j j',j<m→j'<m→slot j=slot j'→j=j')
  (hL:∀ (u:Nat→Value) (a:Act) (w:World),Bw W0 w→(∀ j,j<m→a.tmps[slot j]?=some (u j)∧V j w (u j)) →
   a.tmps.size=a0.tmps.size→a.defers=a0.defers→(∀ s,(∀ j,j<m→s≠slot j)→a.tmps[s]?=a0.tmps[s]?)→wpOp P ops Q m (fun a' w'=>Q .normal a' w') a w) :
  (Code.region id ops true).wp P Q a0 W0:=by
 refine wp_region_any hm ?_
 refine wpAny_inv (fun listed a w=>(listed.getD m false=false∧ParL W0 a0 m slot V listed a w)∨((∀ i,i<m+1→listed.getD i false=true)∧Q .normal a w)) ?_ ?_ ops.size _ a0 _ (by simp) ?_ (by simp)
 ·intro listed a w i hl hI hr
  obtain⟨hun,o,ho,hall⟩:=mem_ready.1 hr
  have hunf:=not_listed hun
  have hio:i<ops.size:=(Array.getElem?_eq_some_iff.1 ho).1
  have hil:i<listed.size:=by omega
  have hset:=listed_set hil
  have hne:∀ x,x≠i→(listed.setIfInBounds i true).getD x false=listed.getD x false:=fun x hx=>getD_set_ne false (Ne.symm hx)
  rcases hI with ⟨hm0,hI⟩|⟨hfull,-⟩
  ·by_cases him:i<m
   ·refine wpOp_mono ?_ (hA i him a w hI.below hI.other fun j' hj'=>?_)
    ·rintro a' w' ⟨u,rfl,hu,hb⟩
     have hlt:slot i<a.tmps.size:=by rw[hI.size];exact hin i him
     refine .inl ⟨by rw[hne m (by omega)];exact hm0,hI.below.trans (hb.mono hI.below.size),by rw[put_size];exact hI.size,by rw[put_defers];exact hI.defers,fun s h1=>?_,fun j hj h1=>?_⟩
     ·rw[put_get_ne (h1 i him)];exact hI.other s h1
     ·by_cases e:j=i
      ·subst e;exact⟨u,put_get hlt,hu⟩
      ·rw[hne j e] at h1
       obtain⟨u',g1,g2⟩:=hI.val j hj h1
       exact⟨u',by rw[put_get_ne (fun e2=>e (hinj j i hj him e2))];exact g1,hV1 _ _ _ _ hb g2⟩
    ·obtain⟨h1,h2⟩:=hdep i him j' hj'
     obtain⟨e,he,rfl,hbd⟩:=h2 o ho
     exact hI.val _ h1 (hall e he hbd)
   ·obtain rfl:i=m:=by omega
    have hl2:∀ j,j<i→listed.getD j false=true:=fun j hj=>by
     obtain⟨e,he,rfl,hbd⟩:=hlast o ho j hj
     exact hall e he hbd
    have hval:∀ j,∃ u,j<i→a.tmps[slot j]?=some u∧V j w u:=fun j=>by
     by_cases hj:j<i
     ·obtain⟨u,h1,h2⟩:=hI.val j hj (hl2 j hj)
      exact⟨u,fun _=>⟨h1,h2⟩⟩
     ·exact⟨undef,fun h=>absurd h hj⟩
    obtain⟨u,hu⟩:=Classical.axiomOfChoice hval
    refine wpOp_mono ?_ (hL u a w hI.below hu hI.size hI.defers hI.other)
    intro a' w' hq
    refine .inr ⟨fun j hj=>?_,hq⟩
    by_cases e:j=i
    ·rw[e];exact hset
    ·rw[hne j e];exact hl2 j (by omega)
  ·rw[hfull i (by omega)] at hunf
   cases hunf
 ·intro listed a w hl hI hr
  rcases hI with ⟨hm0,hI⟩|⟨-,hq⟩
  ·exfalso
   have hfull:∀ i,i<ops.size→listed.getD i false=true:=by
    intro i
    induction i using Nat.strongRecOn with
    | _ i ih =>
     intro hi
     cases hx:listed.getD i false with
     | true=>rfl
     | false =>
      exfalso
      have ho:ops[i]?=some ops[i]:=Array.getElem?_eq_getElem hi
      have:i ∈ Region.ready .any ops listed:=by
       refine mem_ready.2 ⟨?_,ops[i],ho,fun e he _=>ih e.on (hord i _ ho e he) (Nat.lt_trans (hord i _ ho e he) hi)⟩
       have hil:i<listed.size:=by omega
       simp only[Array.getD_eq_getD_getElem?,Array.getElem?_eq_getElem hil,Option.getD_some] at hx ⊢
       exact hx
      rw[hr] at this
      cases this
   rw[hfull m (by omega)] at hm0
   cases hm0
  ·exact hq
 ·have h0:∀ x,(Array.replicate ops.size false).getD x false=true→False:=fun x h=>by
   simp[Array.getD_eq_getD_getElem?,Array.getElem?_replicate] at h
   split at h <;> simp at h
  refine .inl ⟨?_,(Below.refl _ _).drew,rfl,rfl,fun _ _=>rfl,fun j _ h=>(h0 _ h).elim⟩
  cases hx:(Array.replicate ops.size false).getD m false with
  | false=>rfl
  | true=>exact(h0 _ hx).elim
def vhas (o:Oper) (j:Nat):Bool:=o.after.any fun e=>e.on==j&&Region.binds .any e
def vrow (m sl:Nat) (dep:Nat→List Nat) (i:Nat) (o:Oper):Bool :=
 o.after.all (fun e=>decide (e.on<i))&&o.guard.isNone&&(i==m||o.dst==some (sl+i))&&((if i==m then List.range m else dep i).all fun j=>decide (j<m)&&vhas o j)
def vchk (ops:Array Oper) (m sl:Nat) (dep:Nat→List Nat):Bool :=
 ops.size==m+1&&(List.range (m+1)).all fun i=>match ops[i]? with|some o=>vrow m sl dep i o|none=>false
theorem vhas_ex {o:Oper} {j:Nat} (h:vhas o j=true):∃ e ∈ o.after,e.on=j∧Region.binds .any e=true:=by
 unfold vhas at h
 obtain⟨i,hi,h2⟩:=Array.any_eq_true.1 h
 rw[Bool.and_eq_true,beq_iff_eq] at h2
 exact⟨_,Array.getElem_mem hi,h2.1,h2.2⟩
theorem vchk_row {ops:Array Oper} {m sl:Nat} {dep:Nat→List Nat} (h:vchk ops m sl dep=true) {i:Nat} {o:Oper} (ho:ops[i]?=some o):i<m+1∧vrow m sl dep i o=true:=by
 unfold vchk at h
 rw[Bool.and_eq_true,beq_iff_eq] at h
 have hi:i<m+1:=by have:=(Array.getElem?_eq_some_iff.1 ho).1;omega
 have h1:=List.all_eq_true.1 h.2 i (List.mem_range.2 hi)
 simp only[ho] at h1
 exact⟨hi,h1⟩
theorem vrow_split {m sl:Nat} {dep:Nat→List Nat} {i:Nat} {o:Oper} (h:vrow m sl dep i o=true) :
  (∀ e ∈ o.after,e.on<i)∧o.guard=none∧(i<m→o.dst=some (sl+i))∧∀ j ∈ (if i==m then List.range m else dep i),j<m∧∃ e ∈ o.after,e.on=j∧Region.binds .any e=true:=by
 unfold vrow at h
 rw[Bool.and_eq_true,Bool.and_eq_true,Bool.and_eq_true] at h
 obtain⟨⟨⟨h1,h2⟩,h3⟩,h4⟩:=h
 refine⟨fun e he=>of_decide_eq_true (Array.all_eq_true_iff_forall_mem.1 h1 e he),Option.isNone_iff_eq_none.1 h2,fun hi=>?_,fun j hj=>?_⟩
 ·rw[Bool.or_eq_true] at h3
  rcases h3 with h3|h3
  ·rw[beq_iff_eq] at h3;omega
  ·simpa using h3
 ·have:=List.all_eq_true.1 h4 j hj
  rw[Bool.and_eq_true] at this
  exact⟨of_decide_eq_true this.1,vhas_ex this.2⟩
theorem val_region {P:Program} {ops:Array Oper} {Q:Exit→Act→World→Prop} {id:Nat} (hm:P.follows .mixedOrders=true) (m sl:Nat) (dep:Nat→List Nat)
  (W0:World) (a0:Act) (V:Nat→World→Value→Prop) (hchk:vchk ops m sl dep=true)
  (hV1:∀ j w w' u,Bw w w'→V j w u→V j w' u) (hin:sl+m≤a0.tmps.size)
  (hA:∀ j,j<m→∀ o,ops[j]?=some o→∀ (a:Act) (w:World),Bw W0 w→(∀ s:Nat,(s<sl∨sl+m≤s)→a.tmps[s]?=a0.tmps[s]?) →
   (∀ j' ∈ dep j,∃ u,a.tmps[sl+j']?=some u∧V j' w u)→o.wp P a w (fun a' w'=>∃ u,a'=a.put o.dst u∧V j w' u∧Bw w w') Q)
  (hL:∀ o,ops[m]?=some o→∀ (u:Nat→Value) (w:World),Bw W0 w→(∀ j,j<m→V j w (u j)) →
   o.wp P (putL a0 ((List.range m).map (fun j=>(sl+j,u j)))) w (fun a' w'=>Q .normal a' w') Q) :
  (Code.region id ops true).wp P Q a0 W0:=by
 have hsz:ops.size=m+1:=by
  unfold vchk at hchk
  rw[Bool.and_eq_true,beq_iff_eq] at hchk
  exact hchk.1
 have hoth:∀ {s:Nat},(s<sl∨sl+m≤s)→∀ j,j<m→s≠sl+j:=fun h j hj=>by omega
 refine parl_region hm m (fun j=>sl+j) dep W0 a0 V hsz (fun i o ho=>(vrow_split (vchk_row hchk ho).2).1) hV1 ?_ ?_ ?_ (fun j hj=>Nat.lt_of_lt_of_le (Nat.add_lt_add_left hj sl) hin) (fun i i' _ _ h=>Nat.add_left_cancel h) ?_
 ·intro j hj j' hj'
  obtain⟨o,ho⟩:∃ o,ops[j]?=some o:=⟨ops[j]'(by omega),Array.getElem?_eq_getElem (by omega)⟩
  have h4:=(vrow_split (vchk_row hchk ho).2).2.2.2 j' (by rw[if_neg (by rw[beq_iff_eq];omega)];exact hj')
  refine⟨h4.1,fun o' ho'=>?_⟩
  obtain rfl:o=o':=Option.some.inj (ho.symm.trans ho')
  exact h4.2
 ·intro j hj a w hb ho1 hd
  obtain⟨o,ho⟩:∃ o,ops[j]?=some o:=⟨ops[j]'(by omega),Array.getElem?_eq_getElem (by omega)⟩
  obtain⟨-,h2,h3,-⟩:=vrow_split (vchk_row hchk ho).2
  refine step_wanted ho h2 ?_
  have h5:=hA j hj o ho a w hb (fun s hs=>ho1 s (hoth hs)) hd
  rw[h3 hj] at h5
  exact h5
 ·intro o ho j hj
  exact((vrow_split (vchk_row hchk ho).2).2.2.2 j (by rw[if_pos (by rw[beq_iff_eq])];exact List.mem_range.2 hj)).2
 ·intro u a w hb hu hs hd ho1
  obtain⟨o,ho⟩:∃ o,ops[m]?=some o:=⟨ops[m]'(by omega),Array.getElem?_eq_getElem (by omega)⟩
  obtain⟨-,h2,-,-⟩:=vrow_split (vchk_row hchk ho).2
  refine step_wanted ho h2 ?_
  have q1:((List.range m).map (fun j=>((sl+j,u j):Tmp×Value))).map (fun p:Tmp×Value=>p.1)=(List.range m).map (fun j=>sl+j):=by simp[Function.comp_def]
  have ha:=act_putL (a:=a) (a0:=a0) (l:=(List.range m).map (fun j=>((sl+j,u j):Tmp×Value))) (by
    rw[q1]
    refine List.pairwise_map.2 ((List.nodup_range (n:=m)).imp_of_mem ?_)
    intro x y hx hy hne he
    exact hne (Nat.add_left_cancel he)) hs hd (by
    intro p hp
    obtain⟨i,hi,rfl⟩:=List.mem_map.1 hp
    exact(hu i (List.mem_range.1 hi)).1) (fun s hsn=>ho1 s (fun i hi he=>hsn (List.mem_map.2 ⟨_,List.mem_map.2 ⟨i,List.mem_range.2 hi,rfl⟩,he.symm⟩)))
  rw[ha]
  exact hL o ho u w hb (fun j hj=>(hu j hj).2)
theorem owp_move {P:Program} {Q:Exit→Act→World→Prop} {o:Oper} {K:Act→World→Prop} {a:Act} {w:World} {s:Tmp} {v:Value}
  (hop:o.op=.move (.tmp s)) (hs:a.tmps[s]?=some v) (h:K (a.put o.dst v) w):o.wp P a w K Q:=by
 unfold Oper.wp
 simp[execOp,hop,eval_get hs,Oper.upon,h]
theorem owp_assign {P:Program} {Q:Exit→Act→World→Prop} {o:Oper} {K:Act→World→Prop} {a:Act} {w:World} {s:Tmp} {v:Value}
  (hop:o.op=.assign (.tmp s)) (hs:a.tmps[s]?=some v) (h:K (a.put o.dst v) w):o.wp P a w K Q:=by
 unfold Oper.wp
 simp[execOp,hop,eval_get hs,Oper.upon,h]
theorem owp_call {P:Program} {Q:Exit→Act→World→Prop} {o:Oper} {K:Act→World→Prop} {a:Act} {w:World}
  {f:FuncId} {args:Array Operand} {ts:Array TypeId} (hop:o.op=.call { callee:=.value (.func f),args:=args,argTypes:=ts }) {vs:Array Value}
  (hc:∀ vs w,(callFunc f vs).run P w=.ok (.enter f vs) w) (hv:args.map a.eval=vs) (h:Calls P f vs w fun r w'=>∃ v,r=.returned v∧K (a.put o.dst v) w'):o.wp P a w K Q:=by
 unfold Oper.wp
 have e:(execOp a.eval o).run P w=.ok (.enter f vs) w:=by
  simp[execOp,hop,resolve,Deferred.ofValue,Act.eval,invoke,hv,hc]
 rw[e,Oper.upon_enter]
 refine h.mono ?_
 rintro r w' ⟨v,rfl,hk⟩
 exact hk
theorem owp_run1 {P:Program} {Q:Exit→Act→World→Prop} {o:Oper} {K:Act→World→Prop} {a:Act} {w w':World} {v:Value}
  (hr:(execOp a.eval o).run P w=.ok (.value v) w') (h:K (a.put o.dst v) w'):o.wp P a w K Q:=by
 unfold Oper.wp
 rw[hr]
 exact h
def Stays (P:World→Value→Prop):Prop:=∀ W W' A,Bw W W'→P W A→P W' A
def StaysAll:List (World→Value→Prop)→Prop
 | []=>True
 | P :: r=>Stays P∧StaysAll r
def vL (L:List (World→Value→Prop)) (j:Nat):World→Value→Prop:=L[j]?.getD (fun _ _=>False)
def dL (D:List (List Nat)) (j:Nat):List Nat:=D[j]?.getD []
def isV (x:Value):World→Value→Prop:=fun _ u=>u=x
theorem isV_stays (x:Value):Stays (isV x):=fun _ _ _ _ h=>h
theorem vL_stays:∀ {L:List (World→Value→Prop)},StaysAll L→∀ j,Stays (vL L j)
 | [],_,j=>fun W W' A hb h=>by simp[vL] at h
 | P :: r,hL,0=>hL.1
 | P :: r,hL,j+1=>by
  have:=vL_stays hL.2 j
  exact this
theorem valL_region {P:Program} {ops:Array Oper} {Q:Exit→Act→World→Prop} {id:Nat} (hm:P.follows .mixedOrders=true) (m sl:Nat) (D:List (List Nat))
  (W0:World) (a0:Act) (L:List (World→Value→Prop)) (hchk:vchk ops m sl (dL D)=true)
  (hV1:StaysAll L) (hin:sl+m≤a0.tmps.size)
  (hA:∀ j,j<m→∀ o,ops[j]?=some o→∀ (a:Act) (w:World),Bw W0 w→(∀ s:Nat,(s<sl∨sl+m≤s)→a.tmps[s]?=a0.tmps[s]?) →
   (∀ j' ∈ dL D j,∃ u,a.tmps[sl+j']?=some u∧vL L j' w u)→o.wp P a w (fun a' w'=>∃ u,a'=a.put o.dst u∧vL L j w' u∧Bw w w') Q)
  (hL:∀ o,ops[m]?=some o→∀ (u:Nat→Value) (w:World),Bw W0 w→(∀ j,j<m→vL L j w (u j)) →
   o.wp P (putL a0 ((List.range m).map (fun j=>(sl+j,u j)))) w (fun a' w'=>Q .normal a' w') Q) :
  (Code.region id ops true).wp P Q a0 W0 :=
 val_region hm m sl (dL D) W0 a0 (vL L) hchk (fun j w w' u hb h=>vL_stays hV1 j w w' u hb h) hin hA hL
theorem owp_store {P:Program} {Q:Exit→Act→World→Prop} {o:Oper} {K:Act→World→Prop} {a:Act} {w:World}
  {ty:TypeId} {s v:Tmp} (hop:o.op=.store ty (.tmp s) (.tmp v)) {g:Nat} {old cs:Array Value}
  (hs:a.tmps[s]?=some (.pointer (some ⟨g,0,none⟩))) (hv:a.tmps[v]?=some (.agg cs)) (hb:w.heap[g]?=some (.cells old ty (0,0))) (hn:(P.info? ty).map (·.size)=some cs.size) (ho:old.size=cs.size) (h1:cs.all (·.oneCell')=true)
  (h:K (a.put o.dst undef) (w.setRow g cs)):o.wp P a w K Q:=by
 unfold Oper.wp
 simp[execOp,hop,eval_get hs,eval_get hv,Instr.storeAt,Instr.sureAddr,run_storeVar_row w g ty ty old cs hb hn ho h1,Result.andThen,Oper.upon,h]
end Go.Proofs.YthhaamilfioddaaGreatDoor
namespace Go.Proofs.YthhaamilfioddaaGreatDoor
open Go.RowKit Go.Fl64
theorem run_ldN (g o:Nat) (s:Bool) (ao:Option Addr) (n cp:Nat) (e:Int) (w:World) (h0:w.cell? ⟨g,o,none⟩=some (.bool s)) (h1:w.cell? ⟨g,o+1,none⟩=some (.slice ao n cp)) (h2:w.cell? ⟨g,o+2,none⟩=some (.int .i64 e)):(Instr.loadAt 49 (.pointer (some ⟨g,o,none⟩))).run Tryz.prog w=.ok (.agg #[.bool s,.slice ao n cp,.int .i64 e]) w :=
 run_loadAt_mid w g o 49 [.bool s,.slice ao n cp,.int .i64 e] _ (fun j v hv=>by
  match j with
  | 0=>simp at hv;subst hv;exact h0
  | 1=>simp at hv;subst hv;exact h1
  | 2=>simp at hv;subst hv;exact h2
  | k+3=>simp at hv) Tryz.underlying49 rfl Tryz.info49
def isP (T:Bool×Nat×Int):World→Value→Prop:=fun w u=>PN w u T
theorem isP_stays (T:Bool×Nat×Int):Stays (isP T):=fun _ _ _ hb h=>PN.later h hb
def isF (T T':Bool×Nat×Int):World→Value→Prop:=fun w u=>Fv w u T T'
theorem isF_stays (T T':Bool×Nat×Int):Stays (isF T T'):=fun _ _ _ hb h=>Fv.later h hb
theorem nabs {A k:Nat} (h:A<2^k):((A:Nat):Int).natAbs<2^k:=by rw[Int.natAbs_natCast];exact h
theorem mul_lt2 {a b k l:Nat} (h1:a<2^k) (h2:b<2^l):a*b<2^(k+l):=by rw[Nat.pow_add];exact Nat.mul_lt_mul'' h1 h2
theorem paddN {a b p k:Nat} (h1:a<2^k) (h2:b<2^k) (hk:k<60000) (hp:p≤60000):Op2 109 (un (a:Int) p) (un (b:Int) p) (un ((a+b:Nat):Int) p):=by
 have:=padd_un (p:=p) (nabs h1) (nabs h2) hk hp
 rw[←Int.natCast_add] at this
 exact this
theorem psubN {a b p k:Nat} (h1:a<2^k) (hle:b≤a) (hk:k<60000) (hp:p≤60000):Op2 101 (un (a:Int) p) (un (b:Int) p) (un ((a - b:Nat):Int) p):=by
 have:=psub_un (p:=p) (nabs h1) (nabs (Nat.lt_of_le_of_lt hle h1)) hk hp
 rw[←Int.natCast_sub hle] at this
 exact this
theorem Dexact_1 (a:Nat) (t:Bool×Nat×Int) (w:World)
  (k:∀ W,Bw w W→Calls Tryz.prog 91 #[.float .f64 a] W fun r w'=>∃ s ao n cap e,r=.returned (.tuple #[.agg #[.bool s,.slice ao n cap,.int .i64 e],.int .i64 0])∧PN w' (.agg #[.bool s,.slice ao n cap,.int .i64 e]) t∧Bw W w') :
  Calls Tryz.prog 46 #[.float .f64 a] w fun r w'=>OutA w t r w':=by
 obtain⟨W,hW⟩:∃ W,W=w.alloc (.cells #[.bool false,.slice none 0 0,.int .i64 0] 49):=⟨_,rfl⟩
 have HX:Hid (Bw w W∧W.heap[w.heap.size]?=some (.cells #[.bool false,.slice none 0 0,.int .i64 0] 49 (0,0))):=⟨by rw[hW];exact(Below.refl _ _).alloc (Nat.le_refl _) _,by rw[hW];exact heap_alloc_new _ _⟩
 have k1:=k W HX.out.1
 clear k
 go_enter Tryz.func46,Tryz.ntmps46
 go_wp2_with fail
 rw[←hW]
 clear hW
 refine k1.mono ?_
 rintro r w1 ⟨s1,ao1,n1,cap1,ex1,rfl,hA,hb1⟩
 obtain⟨W1,hW1⟩:∃ W1,W1=w1.alloc (.cells #[.bool s1,.slice ao1 n1 cap1,.int .i64 ex1] 49):=⟨_,rfl⟩
 have hb2:Bw W W1:=by rw[hW1];exact hb1.alloc hb1.size _
 have HY:Hid (PN W1 (.agg #[.bool s1,.slice ao1 n1 cap1,.int .i64 ex1]) t∧Bw w W1∧W1.heap[w1.heap.size]?=some (.cells #[.bool s1,.slice ao1 n1 cap1,.int .i64 ex1] 49 (0,0))∧W1.heap[w.heap.size]?=some (.cells #[.bool false,.slice none 0 0,.int .i64 0] 49 (0,0))) :=
  ⟨by rw[hW1];exact hA.later ((Below.refl _ _).alloc (Nat.le_refl _) _),HX.out.1.trans (hb2.mono HX.out.1.size),by rw[hW1];exact heap_alloc_new _ _,box_later HX.out.2 hb2 (lt_of_box HX.out.2)⟩
 clear k1 hA hb1 hb2
 go_upto_region 2 with fail
 rw[←hW1]
 clear hW1
 generalize w1.heap.size=g1 at *
 obtain⟨⟨a0,a1,a2⟩,-⟩:=box_cells HY.out.2.2.1
 obtain⟨⟨x1,x2,x3⟩,x4,x5,x6⟩:=box_cells HY.out.2.2.2
 go_wp2
 refine bodyPost_ret (results_cell_row rfl _ _ w.heap.size 49 #[.bool s1,.slice ao1 n1 cap1,.int .i64 ex1] (0,0) _ rfl (store3 _ _ _ HY.out.2.2.2) Tryz.underlying49 rfl Tryz.info49) rfl ?_
 exact⟨_,_,_,_,_,rfl,pn_store HY.out.1 HY.out.2.2.2 _ _ _,below_store3 HY.out.2.1 (Nat.le_refl _) _ _ _⟩
-- GEN: one call of two numbers each, the error let go
theorem Dadded_1 (na nb:Bool) (ua va:Option Addr) (un uc vn vc:Nat) (ea eb:Int) (t:Bool×Nat×Int) (w:World)
  (k:∀ W,Bw w W→Calls Tryz.prog 109 #[.agg #[.bool na,.slice ua un uc,.int .i64 ea],.agg #[.bool nb,.slice va vn vc,.int .i64 eb]] W fun r w'=>∃ s ao n cap e,r=.returned (.tuple #[.agg #[.bool s,.slice ao n cap,.int .i64 e],.int .i64 0])∧PN w' (.agg #[.bool s,.slice ao n cap,.int .i64 e]) t∧Bw W w') :
  Calls Tryz.prog 60 #[.agg #[.bool na,.slice ua un uc,.int .i64 ea],.agg #[.bool nb,.slice va vn vc,.int .i64 eb]] w fun r w'=>OutA w t r w':=by
 obtain⟨W,hW⟩:∃ W,W=((w.alloc (.cells #[.bool na,.slice ua un uc,.int .i64 ea] 49)).alloc (.cells #[.bool nb,.slice va vn vc,.int .i64 eb] 49)).alloc (.cells #[.bool false,.slice none 0 0,.int .i64 0] 49):=⟨_,rfl⟩
 obtain⟨hA,hB,hC,hsz,hBW⟩:=boxes3 _ _ _ hW
 obtain⟨⟨a0,a1,a2⟩,-⟩:=box_cells hA
 obtain⟨⟨b0,b1,b2⟩,-⟩:=box_cells hB
 have HX:Hid (Bw w W∧W.heap[w.heap.size+1+1]?=some (.cells #[.bool false,.slice none 0 0,.int .i64 0] 49 (0,0))):=⟨hBW,hC⟩
 have k1:=k W HX.out.1
 clear k hA hB hC hBW hsz
 rw[hW] at a0 a1 a2 b0 b1 b2
 go_enter Tryz.func60,Tryz.ntmps60
 go_wp2_with fail
 rw[←hW]
 clear hW a0 a1 a2 b0 b1 b2
 refine k1.mono ?_
 rintro r w1 ⟨s1,ao1,n1,cap1,ex1,rfl,hA,hb1⟩
 obtain⟨W1,hW1⟩:∃ W1,W1=w1.alloc (.cells #[.bool s1,.slice ao1 n1 cap1,.int .i64 ex1] 49):=⟨_,rfl⟩
 have hb2:Bw W W1:=by rw[hW1];exact hb1.alloc hb1.size _
 have HY:Hid (PN W1 (.agg #[.bool s1,.slice ao1 n1 cap1,.int .i64 ex1]) t∧Bw w W1∧W1.heap[w1.heap.size]?=some (.cells #[.bool s1,.slice ao1 n1 cap1,.int .i64 ex1] 49 (0,0))∧W1.heap[w.heap.size+1+1]?=some (.cells #[.bool false,.slice none 0 0,.int .i64 0] 49 (0,0))) :=
  ⟨by rw[hW1];exact hA.later ((Below.refl _ _).alloc (Nat.le_refl _) _),HX.out.1.trans (hb2.mono HX.out.1.size),by rw[hW1];exact heap_alloc_new _ _,box_later HX.out.2 hb2 (lt_of_box HX.out.2)⟩
 clear k1 hA hb1 hb2
 go_upto_region 2 with fail
 rw[←hW1]
 clear hW1
 generalize w1.heap.size=g1 at *
 obtain⟨⟨c0,c1,c2⟩,-⟩:=box_cells HY.out.2.2.1
 obtain⟨⟨x1,x2,x3⟩,x4,x5,x6⟩:=box_cells HY.out.2.2.2
 go_wp2
 refine bodyPost_ret (results_cell_row rfl _ _ (w.heap.size+1+1) 49 #[.bool s1,.slice ao1 n1 cap1,.int .i64 ex1] (0,0) _ rfl (store3 _ _ _ HY.out.2.2.2) Tryz.underlying49 rfl Tryz.info49) rfl ?_
 exact⟨_,_,_,_,_,rfl,pn_store HY.out.1 HY.out.2.2.2 _ _ _,below_store3 HY.out.2.1 (by omega) _ _ _⟩
theorem Dtaken_1 (na nb:Bool) (ua va:Option Addr) (un uc vn vc:Nat) (ea eb:Int) (t:Bool×Nat×Int) (w:World)
  (k:∀ W,Bw w W→Calls Tryz.prog 101 #[.agg #[.bool na,.slice ua un uc,.int .i64 ea],.agg #[.bool nb,.slice va vn vc,.int .i64 eb]] W fun r w'=>∃ s ao n cap e,r=.returned (.tuple #[.agg #[.bool s,.slice ao n cap,.int .i64 e],.int .i64 0])∧PN w' (.agg #[.bool s,.slice ao n cap,.int .i64 e]) t∧Bw W w') :
  Calls Tryz.prog 54 #[.agg #[.bool na,.slice ua un uc,.int .i64 ea],.agg #[.bool nb,.slice va vn vc,.int .i64 eb]] w fun r w'=>OutA w t r w':=by
 obtain⟨W,hW⟩:∃ W,W=((w.alloc (.cells #[.bool na,.slice ua un uc,.int .i64 ea] 49)).alloc (.cells #[.bool nb,.slice va vn vc,.int .i64 eb] 49)).alloc (.cells #[.bool false,.slice none 0 0,.int .i64 0] 49):=⟨_,rfl⟩
 obtain⟨hA,hB,hC,hsz,hBW⟩:=boxes3 _ _ _ hW
 obtain⟨⟨a0,a1,a2⟩,-⟩:=box_cells hA
 obtain⟨⟨b0,b1,b2⟩,-⟩:=box_cells hB
 have HX:Hid (Bw w W∧W.heap[w.heap.size+1+1]?=some (.cells #[.bool false,.slice none 0 0,.int .i64 0] 49 (0,0))):=⟨hBW,hC⟩
 have k1:=k W HX.out.1
 clear k hA hB hC hBW hsz
 rw[hW] at a0 a1 a2 b0 b1 b2
 go_enter Tryz.func54,Tryz.ntmps54
 go_wp2_with fail
 rw[←hW]
 clear hW a0 a1 a2 b0 b1 b2
 refine k1.mono ?_
 rintro r w1 ⟨s1,ao1,n1,cap1,ex1,rfl,hA,hb1⟩
 obtain⟨W1,hW1⟩:∃ W1,W1=w1.alloc (.cells #[.bool s1,.slice ao1 n1 cap1,.int .i64 ex1] 49):=⟨_,rfl⟩
 have hb2:Bw W W1:=by rw[hW1];exact hb1.alloc hb1.size _
 have HY:Hid (PN W1 (.agg #[.bool s1,.slice ao1 n1 cap1,.int .i64 ex1]) t∧Bw w W1∧W1.heap[w1.heap.size]?=some (.cells #[.bool s1,.slice ao1 n1 cap1,.int .i64 ex1] 49 (0,0))∧W1.heap[w.heap.size+1+1]?=some (.cells #[.bool false,.slice none 0 0,.int .i64 0] 49 (0,0))) :=
  ⟨by rw[hW1];exact hA.later ((Below.refl _ _).alloc (Nat.le_refl _) _),HX.out.1.trans (hb2.mono HX.out.1.size),by rw[hW1];exact heap_alloc_new _ _,box_later HX.out.2 hb2 (lt_of_box HX.out.2)⟩
 clear k1 hA hb1 hb2
 go_upto_region 2 with fail
 rw[←hW1]
 clear hW1
 generalize w1.heap.size=g1 at *
 obtain⟨⟨c0,c1,c2⟩,-⟩:=box_cells HY.out.2.2.1
 obtain⟨⟨x1,x2,x3⟩,x4,x5,x6⟩:=box_cells HY.out.2.2.2
 go_wp2
 refine bodyPost_ret (results_cell_row rfl _ _ (w.heap.size+1+1) 49 #[.bool s1,.slice ao1 n1 cap1,.int .i64 ex1] (0,0) _ rfl (store3 _ _ _ HY.out.2.2.2) Tryz.underlying49 rfl Tryz.info49) rfl ?_
 exact⟨_,_,_,_,_,rfl,pn_store HY.out.1 HY.out.2.2.2 _ _ _,below_store3 HY.out.2.1 (by omega) _ _ _⟩
theorem Dmultiplied_1 (na nb:Bool) (ua va:Option Addr) (un uc vn vc:Nat) (ea eb:Int) (t:Bool×Nat×Int) (w:World)
  (k:∀ W,Bw w W→Calls Tryz.prog 102 #[.agg #[.bool na,.slice ua un uc,.int .i64 ea],.agg #[.bool nb,.slice va vn vc,.int .i64 eb]] W fun r w'=>∃ s ao n cap e,r=.returned (.tuple #[.agg #[.bool s,.slice ao n cap,.int .i64 e],.int .i64 0])∧PN w' (.agg #[.bool s,.slice ao n cap,.int .i64 e]) t∧Bw W w') :
  Calls Tryz.prog 55 #[.agg #[.bool na,.slice ua un uc,.int .i64 ea],.agg #[.bool nb,.slice va vn vc,.int .i64 eb]] w fun r w'=>OutA w t r w':=by
 obtain⟨W,hW⟩:∃ W,W=((w.alloc (.cells #[.bool na,.slice ua un uc,.int .i64 ea] 49)).alloc (.cells #[.bool nb,.slice va vn vc,.int .i64 eb] 49)).alloc (.cells #[.bool false,.slice none 0 0,.int .i64 0] 49):=⟨_,rfl⟩
 obtain⟨hA,hB,hC,hsz,hBW⟩:=boxes3 _ _ _ hW
 obtain⟨⟨a0,a1,a2⟩,-⟩:=box_cells hA
 obtain⟨⟨b0,b1,b2⟩,-⟩:=box_cells hB
 have HX:Hid (Bw w W∧W.heap[w.heap.size+1+1]?=some (.cells #[.bool false,.slice none 0 0,.int .i64 0] 49 (0,0))):=⟨hBW,hC⟩
 have k1:=k W HX.out.1
 clear k hA hB hC hBW hsz
 rw[hW] at a0 a1 a2 b0 b1 b2
 go_enter Tryz.func55,Tryz.ntmps55
 go_wp2_with fail
 rw[←hW]
 clear hW a0 a1 a2 b0 b1 b2
 refine k1.mono ?_
 rintro r w1 ⟨s1,ao1,n1,cap1,ex1,rfl,hA,hb1⟩
 obtain⟨W1,hW1⟩:∃ W1,W1=w1.alloc (.cells #[.bool s1,.slice ao1 n1 cap1,.int .i64 ex1] 49):=⟨_,rfl⟩
 have hb2:Bw W W1:=by rw[hW1];exact hb1.alloc hb1.size _
 have HY:Hid (PN W1 (.agg #[.bool s1,.slice ao1 n1 cap1,.int .i64 ex1]) t∧Bw w W1∧W1.heap[w1.heap.size]?=some (.cells #[.bool s1,.slice ao1 n1 cap1,.int .i64 ex1] 49 (0,0))∧W1.heap[w.heap.size+1+1]?=some (.cells #[.bool false,.slice none 0 0,.int .i64 0] 49 (0,0))) :=
  ⟨by rw[hW1];exact hA.later ((Below.refl _ _).alloc (Nat.le_refl _) _),HX.out.1.trans (hb2.mono HX.out.1.size),by rw[hW1];exact heap_alloc_new _ _,box_later HX.out.2 hb2 (lt_of_box HX.out.2)⟩
 clear k1 hA hb1 hb2
 go_upto_region 2 with fail
 rw[←hW1]
 clear hW1
 generalize w1.heap.size=g1 at *
 obtain⟨⟨c0,c1,c2⟩,-⟩:=box_cells HY.out.2.2.1
 obtain⟨⟨x1,x2,x3⟩,x4,x5,x6⟩:=box_cells HY.out.2.2.2
 go_wp2
 refine bodyPost_ret (results_cell_row rfl _ _ (w.heap.size+1+1) 49 #[.bool s1,.slice ao1 n1 cap1,.int .i64 ex1] (0,0) _ rfl (store3 _ _ _ HY.out.2.2.2) Tryz.underlying49 rfl Tryz.info49) rfl ?_
 exact⟨_,_,_,_,_,rfl,pn_store HY.out.1 HY.out.2.2.2 _ _ _,below_store3 HY.out.2.1 (by omega) _ _ _⟩
theorem Dadded_op {t1 t2 t3:Bool×Nat×Int} (h:Op2 109 t1 t2 t3) {X Y:Value} {w:World} (hT:Tab32 w) (h1:PN w X t1) (h2:PN w Y t2):Calls Tryz.prog 60 #[X,Y] w fun r w'=>OutA w t3 r w':=by
 obtain⟨s,ao,n,cap,e,rfl⟩:=h1.shape
 obtain⟨s',ao',n',cap',e',rfl⟩:=h2.shape
 exact Dadded_1 s s' ao ao' n cap n' cap' e e' t3 w fun W hW=>h W _ _ (hT.later hW) (h1.later hW) (h2.later hW)
theorem Dtaken_op {t1 t2 t3:Bool×Nat×Int} (h:Op2 101 t1 t2 t3) {X Y:Value} {w:World} (hT:Tab32 w) (h1:PN w X t1) (h2:PN w Y t2):Calls Tryz.prog 54 #[X,Y] w fun r w'=>OutA w t3 r w':=by
 obtain⟨s,ao,n,cap,e,rfl⟩:=h1.shape
 obtain⟨s',ao',n',cap',e',rfl⟩:=h2.shape
 exact Dtaken_1 s s' ao ao' n cap n' cap' e e' t3 w fun W hW=>h W _ _ (hT.later hW) (h1.later hW) (h2.later hW)
theorem Dmultiplied_op {t1 t2 t3:Bool×Nat×Int} (h:Op2 102 t1 t2 t3) {X Y:Value} {w:World} (hT:Tab32 w) (h1:PN w X t1) (h2:PN w Y t2):Calls Tryz.prog 55 #[X,Y] w fun r w'=>OutA w t3 r w':=by
 obtain⟨s,ao,n,cap,e,rfl⟩:=h1.shape
 obtain⟨s',ao',n',cap',e',rfl⟩:=h2.shape
 exact Dmultiplied_1 s s' ao ao' n cap n' cap' e e' t3 w fun W hW=>h W _ _ (hT.later hW) (h1.later hW) (h2.later hW)
def rtK (t1 t2:Bool×Nat×Int):Nat:=(max 0 (64+(bl t2.2.1:Int) - (bl t1.2.1:Int))).toNat
def rtF (t1 t2:Bool×Nat×Int) (m:Int):Nat:=tfF (t1.1 != t2.1) (decide (t1.2.1*2^rtK t1 t2 % t2.2.1=0)) (t1.2.1*2^rtK t1 t2 / t2.2.1) (t1.2.2 - t2.2.2 - rtK t1 t2) m
theorem pratio {t1 t2:Bool×Nat×Int} {X Y:Value} {m:Int} {w:World} (hT:Tab32 w) (o1:Ok t1) (o2:Ok t2) (h1:PN w X t1) (h2:PN w Y t2) (x0:t1.2.1≠0) (y0:t2.2.1≠0) (hm:1≤m∧m≤3) :
  Calls Tryz.prog 80 #[X,Y,.int .i64 m] w fun r w'=>r=.returned (.tuple #[.float .f64 (rtF t1 t2 m),.int .i64 0])∧Bw w w':=by
 obtain⟨pa,pc,rfl,i1⟩:=h1
 obtain⟨qa,qc,rfl,i2⟩:=h2
 have f1:=o1.facts
 have f2:=o2.facts
 have bx:=bl_le_dlen t1.2.1
 have by':=bl_le_dlen t2.2.1
 have hn0:((dlen t1.2.1:Int)==0)=false:=by
  have:dlen t1.2.1≠0:=fun e=>x0 (dlen_eq_zero.1 e)
  simp;omega
 have hn1:((dlen t2.2.1:Int)==0)=false:=by
  have:dlen t2.2.1≠0:=fun e=>y0 (dlen_eq_zero.1 e)
  simp;omega
 have hk:max 0 (64+(bl t2.2.1:Int) - (bl t1.2.1:Int))=(rtK t1 t2:Int):=by unfold rtK;omega
 refine pratio_1 t1.1 t2.1 pa qa _ pc _ qc _ _ (rtK t1 t2) (bl t1.2.1) (bl t2.2.1) t1.2.2 t2.2.2 m (t1.1 != t2.1) w (rfl:(!(t1.1==t2.1))=(t1.1 != t2.1)) hT i1 i2 (by omega) (by omega) y0 (by omega) (by omega) (by omega) (by omega) (by omega) rfl rfl (by omega) (by omega) hk (by omega) hn0 hn1 (fun W' g hW' hg=>?_)
 have:=maybe2 hg (i1.later hW') (i2.later hW') (by omega) (by omega)
 rw[show okN t1.1 (dlen t1.2.1) t1.2.1 t1.2.2=true from o1,show okN t2.1 (dlen t2.2.1) t2.2.1 t2.2.2=true from o2] at this
 exact this
end Go.Proofs.YthhaamilfioddaaGreatDoor
namespace Go.Proofs.YthhaamilfioddaaGreatDoor
open Go.RowKit Go.Fl64
open Ie
end Go.Proofs.YthhaamilfioddaaGreatDoor
namespace Go.Proofs.YthhaamilfioddaaGreatDoor
open Go.RowKit Go.Fl64
theorem bl_neD {x:Nat} (h0:x≠0):1≤bl x:=by unfold bl;rw[if_neg h0];omega
theorem bl_shlD {x k:Nat} (h:x≠0):bl (x*2^k)=bl x+k:=by
 have h1:=lt_bl x
 have h2:=le_bl h
 have hb:=bl_neD h
 have a:bl (x*2^k)≤bl x+k:=(bl_le _ _).2 (by rw[Nat.pow_add];exact Nat.mul_lt_mul_of_pos_right h1 (Nat.two_pow_pos k))
 have b:bl x+k - 1<bl (x*2^k):=by
  apply Decidable.byContradiction
  intro hn
  have h3:=lt_bl (x*2^k)
  have h4:x*2^k<2^(bl x+k - 1):=Nat.lt_of_lt_of_le h3 (Nat.pow_le_pow_right (by decide) (by omega))
  rw[show bl x+k - 1=bl x - 1+k by omega,Nat.pow_add] at h4
  have:=Nat.mul_le_mul_right (2^k) h2
  omega
 omega
end Go.Proofs.YthhaamilfioddaaGreatDoor
namespace Go.Proofs.YthhaamilfioddaaGreatDoor
open Go.RowKit
def vrowS (m:Nat) (SL:List Nat) (dep:Nat→List Nat) (i:Nat) (o:Oper):Bool :=
 o.after.all (fun e=>decide (e.on<i))&&o.guard.isNone&&(i==m||o.dst==some (SL.getD i 0))&&((if i==m then List.range m else dep i).all fun j=>decide (j<m)&&vhas o j)
def vchkS (ops:Array Oper) (m:Nat) (SL:List Nat) (dep:Nat→List Nat):Bool :=
 ops.size==m+1&&(List.range (m+1)).all fun i=>match ops[i]? with|some o=>vrowS m SL dep i o|none=>false
theorem vchkS_row {ops:Array Oper} {m:Nat} {SL:List Nat} {dep:Nat→List Nat} (h:vchkS ops m SL dep=true) {i:Nat} {o:Oper} (ho:ops[i]?=some o):i<m+1∧vrowS m SL dep i o=true:=by
 unfold vchkS at h
 rw[Bool.and_eq_true,beq_iff_eq] at h
 have hi:i<m+1:=by have:=(Array.getElem?_eq_some_iff.1 ho).1;omega
 have h1:=List.all_eq_true.1 h.2 i (List.mem_range.2 hi)
 simp only[ho] at h1
 exact⟨hi,h1⟩
theorem vrowS_split {m:Nat} {SL:List Nat} {dep:Nat→List Nat} {i:Nat} {o:Oper} (h:vrowS m SL dep i o=true) :
  (∀ e ∈ o.after,e.on<i)∧o.guard=none∧(i<m→o.dst=some (SL.getD i 0))∧∀ j ∈ (if i==m then List.range m else dep i),j<m∧∃ e ∈ o.after,e.on=j∧Region.binds .any e=true:=by
 unfold vrowS at h
 rw[Bool.and_eq_true,Bool.and_eq_true,Bool.and_eq_true] at h
 obtain⟨⟨⟨h1,h2⟩,h3⟩,h4⟩:=h
 refine⟨fun e he=>of_decide_eq_true (Array.all_eq_true_iff_forall_mem.1 h1 e he),Option.isNone_iff_eq_none.1 h2,fun hi=>?_,fun j hj=>?_⟩
 ·rw[Bool.or_eq_true] at h3
  rcases h3 with h3|h3
  ·rw[beq_iff_eq] at h3;omega
  ·simpa using h3
 ·have:=List.all_eq_true.1 h4 j hj
  rw[Bool.and_eq_true] at this
  exact⟨of_decide_eq_true this.1,vhas_ex this.2⟩
theorem valS_region {P:Program} {ops:Array Oper} {Q:Exit→Act→World→Prop} {id:Nat} (hm:P.follows .mixedOrders=true) (m:Nat) (SL:List Nat) (dep:Nat→List Nat)
  (W0:World) (a0:Act) (V:Nat→World→Value→Prop) (hchk:vchkS ops m SL dep=true)
  (hV1:∀ j w w' u,Bw w w'→V j w u→V j w' u) (hsl:SL.length=m∧SL.Nodup∧∀ s ∈ SL,s<a0.tmps.size)
  (hA:∀ j,j<m→∀ o,ops[j]?=some o→∀ (a:Act) (w:World),Bw W0 w→(∀ s:Nat,SL.contains s=false→a.tmps[s]?=a0.tmps[s]?) →
   (∀ j' ∈ dep j,∃ u,a.tmps[SL.getD j' 0]?=some u∧V j' w u)→o.wp P a w (fun a' w'=>∃ u,a'=a.put o.dst u∧V j w' u∧Bw w w') Q)
  (hL:∀ o,ops[m]?=some o→∀ (u:Nat→Value) (w:World),Bw W0 w→(∀ j,j<m→V j w (u j)) →
   o.wp P (putL a0 ((List.range m).map (fun j=>(SL.getD j 0,u j)))) w (fun a' w'=>Q .normal a' w') Q) :
  (Code.region id ops true).wp P Q a0 W0:=by
 have hsz:ops.size=m+1:=by
  unfold vchkS at hchk
  rw[Bool.and_eq_true,beq_iff_eq] at hchk
  exact hchk.1
 have hmem:∀ j,j<m→SL.getD j 0 ∈ SL:=fun j hj=>by
  have h1:j<SL.length:=by rw[hsl.1];exact hj
  rw[List.getD_eq_getElem?_getD,List.getElem?_eq_getElem h1]
  exact List.getElem_mem h1
 have hinj:∀ i i',i<m→i'<m→SL.getD i 0=SL.getD i' 0→i=i':=fun i i' h1 h2 h=>by
  have g1:i<SL.length:=by rw[hsl.1];exact h1
  have g2:i'<SL.length:=by rw[hsl.1];exact h2
  rw[List.getD_eq_getElem?_getD,List.getD_eq_getElem?_getD,List.getElem?_eq_getElem g1,List.getElem?_eq_getElem g2] at h
  exact(List.getElem_inj hsl.2.1).1 h
 have hoth:∀ {s:Nat},SL.contains s=false→∀ j,j<m→s≠SL.getD j 0:=fun {s} h j hj e=>by
  have h2:=hmem j hj
  rw[←e] at h2
  have:SL.contains s=true:=by simpa using h2
  rw[h] at this;cases this
 refine parl_region hm m (fun j=>SL.getD j 0) dep W0 a0 V hsz (fun i o ho=>(vrowS_split (vchkS_row hchk ho).2).1) hV1 ?_ ?_ ?_ (fun j hj=>hsl.2.2 _ (hmem j hj)) hinj ?_
 ·intro j hj j' hj'
  obtain⟨o,ho⟩:∃ o,ops[j]?=some o:=⟨ops[j]'(by omega),Array.getElem?_eq_getElem (by omega)⟩
  have h4:=(vrowS_split (vchkS_row hchk ho).2).2.2.2 j' (by rw[if_neg (by rw[beq_iff_eq];omega)];exact hj')
  refine⟨h4.1,fun o' ho'=>?_⟩
  obtain rfl:o=o':=Option.some.inj (ho.symm.trans ho')
  exact h4.2
 ·intro j hj a w hb ho1 hd
  obtain⟨o,ho⟩:∃ o,ops[j]?=some o:=⟨ops[j]'(by omega),Array.getElem?_eq_getElem (by omega)⟩
  obtain⟨-,h2,h3,-⟩:=vrowS_split (vchkS_row hchk ho).2
  refine step_wanted ho h2 ?_
  have h5:=hA j hj o ho a w hb (fun s hs=>ho1 s (hoth hs)) hd
  rw[h3 hj] at h5
  exact h5
 ·intro o ho j hj
  exact((vrowS_split (vchkS_row hchk ho).2).2.2.2 j (by rw[if_pos (by rw[beq_iff_eq])];exact List.mem_range.2 hj)).2
 ·intro u a w hb hu hs hd ho1
  obtain⟨o,ho⟩:∃ o,ops[m]?=some o:=⟨ops[m]'(by omega),Array.getElem?_eq_getElem (by omega)⟩
  obtain⟨-,h2,-,-⟩:=vrowS_split (vchkS_row hchk ho).2
  refine step_wanted ho h2 ?_
  have q1:((List.range m).map (fun j=>((SL.getD j 0,u j):Tmp×Value))).map (fun p:Tmp×Value=>p.1)=(List.range m).map (fun j=>SL.getD j 0):=by simp[Function.comp_def]
  have ha:=act_putL (a:=a) (a0:=a0) (l:=(List.range m).map (fun j=>((SL.getD j 0,u j):Tmp×Value))) (by
    rw[q1]
    refine List.pairwise_map.2 ((List.nodup_range (n:=m)).imp_of_mem ?_)
    intro x y hx hy hne he
    exact hne (hinj x y (List.mem_range.1 hx) (List.mem_range.1 hy) he)) hs hd (by
    intro p hp
    obtain⟨i,hi,rfl⟩:=List.mem_map.1 hp
    exact(hu i (List.mem_range.1 hi)).1) (fun s hsn=>ho1 s (fun i hi he=>hsn (List.mem_map.2 ⟨_,List.mem_map.2 ⟨i,List.mem_range.2 hi,rfl⟩,he.symm⟩)))
  rw[ha]
  exact hL o ho u w hb (fun j hj=>(hu j hj).2)
theorem valSL_region {P:Program} {ops:Array Oper} {Q:Exit→Act→World→Prop} {id:Nat} (hm:P.follows .mixedOrders=true) (m:Nat) (SL:List Nat) (D:List (List Nat))
  (W0:World) (a0:Act) (L:List (World→Value→Prop)) (hchk:vchkS ops m SL (dL D)=true)
  (hV1:StaysAll L) (hsl:SL.length=m∧SL.Nodup∧∀ s ∈ SL,s<a0.tmps.size)
  (hA:∀ j,j<m→∀ o,ops[j]?=some o→∀ (a:Act) (w:World),Bw W0 w→(∀ s:Nat,SL.contains s=false→a.tmps[s]?=a0.tmps[s]?) →
   (∀ j' ∈ dL D j,∃ u,a.tmps[SL.getD j' 0]?=some u∧vL L j' w u)→o.wp P a w (fun a' w'=>∃ u,a'=a.put o.dst u∧vL L j w' u∧Bw w w') Q)
  (hL:∀ o,ops[m]?=some o→∀ (u:Nat→Value) (w:World),Bw W0 w→(∀ j,j<m→vL L j w (u j)) →
   o.wp P (putL a0 ((List.range m).map (fun j=>(SL.getD j 0,u j)))) w (fun a' w'=>Q .normal a' w') Q) :
  (Code.region id ops true).wp P Q a0 W0 :=
 valS_region hm m SL (dL D) W0 a0 (vL L) hchk (fun j w w' u hb h=>vL_stays hV1 j w w' u hb h) hsl hA hL
end Go.Proofs.YthhaamilfioddaaGreatDoor
namespace Go.Proofs.YthhaamilfioddaaGreatDoor
open Go.RowKit Go.Fl64
theorem unought {a:Nat} (ha:a<18446744073709551616):(FloatKind.f64.format.order a 0 != some Ordering.eq) = !decide (mag a=0):=by
 have h:(FloatKind.f64.format.order a 0==some Ordering.eq)=decide (mag a=0):=by
  rw[ord_eq a 0 ha (by decide)]
  have nb:isNaN 0=false:=by decide
  unfold Fl64.eq
  rw[nb]
  have e0:stp 0=0:=by decide
  rw[e0]
  by_cases h:mag a=0
  ·have:stp a=0:=by unfold stp sgn;rw[h];simp
   have na:isNaN a=false:=by unfold isNaN;simp;omega
   simp[this,h,na]
  ·have:stp a≠0:=by unfold stp sgn;split <;> omega
   simp[this,h]
 rw[←h];rfl
end Go.Proofs.YthhaamilfioddaaGreatDoor
namespace Go.Proofs.YthhaamilfioddaaGreatDoor
open Go.RowKit
end Go.Proofs.YthhaamilfioddaaGreatDoor
