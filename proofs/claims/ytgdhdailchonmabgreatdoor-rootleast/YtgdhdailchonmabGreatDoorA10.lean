/- Own work: contracts of the program's functions, part 10: DL1 DE1 FR1 FR2 FR3 FR4 DL5 PV PV2 FR5 FR6 DC1 FL2 SA9 UA1 UA2 UA3 UA4 UA5 UA6 UA7 SB1 SB2 SB3 SC1 RY6 SC2 DE2 PV3 RY7 SD1 SD2 UA8 UA9 UB1 UB2 UB3 SB4 SB5 SH5 SB6 SH6 SH7 SH8 SH9 SI1 SI2 SI3 SI4 UB4 HX W46 W47 W48 RE2 RE5 RE6 RD2 L12 L15 SE1 SE2 SB7 SE3 SF1 SF2 SF3 SF4 PTJ SG1 SD3 VU2 VU3 UB5 UB6 UB7 UB8 UB9 UC1 UC2 VU4 UF1 UF2. -/
import Derived.Test.YtgdhdailchonmabGreatDoorA8
import Derived.Test.YtgdhdailchonmabGreatDoorA7
import Derived.Test.YtgdhdailchonmabGreatDoorA9
import Derived.Test.YtgdhdailchonmabGreatDoorA1
import Derived.Test.YtgdhdailchonmabGreatDoorA4
import Derived.Test.YtgdhdailchonmabGreatDoorA6
import Derived.Deep.MidRow
import Derived.RangeFuncNested
import Derived.RangeFuncBound
import Derived.RangeFuncCalls
import Derived.RangeFuncLeaves
import Derived.Test.YtgdhdailchonmabGreatDoorA2
import Derived.Shelf.Abstract
import Derived.Shelf.RegionOpen
import Derived.WalkKit
import Derived.OwnWalkIn
import Derived.TacticsInMore
import Derived.LoopNIn
import Derived.LoopIn
import Derived.Test.YtgdhdailchonmabGreatDoorA5
import Derived.Test.YtgdhdailchonmabGreatDoorA3
import Derived.Lib.ItoaNum
import Derived.Deep.CutRange

set_option maxHeartbeats 16000000
set_option maxRecDepth 200000
set_option linter.unusedVariables false
set_option linter.unusedSimpArgs false
namespace Go.Proofs.YtgdhdailchonmabGreatDoor
open Go.RowKit Go.Fl64
def gS (t1 t2:Bool×Nat×Int):Bool×Nat×Int:=cn (sumN t1.1 t1.2.1 t1.2.2 t2.1 t2.2.1 t2.2.2).1 (sumN t1.1 t1.2.1 t1.2.2 t2.1 t2.2.1 t2.2.2).2.1 (sumN t1.1 t1.2.1 t1.2.2 t2.1 t2.2.1 t2.2.2).2.2
def gM (t1 t2:Bool×Nat×Int):Bool×Nat×Int:=cn (!(t1.1==t2.1)) (t1.2.1*t2.2.1) (t1.2.2+t2.2.2)
def gD (t1 t2:Bool×Nat×Int):Bool×Nat×Int:=cn (sumN t1.1 t1.2.1 t1.2.2 (!t2.1&&decide (0<dlen t2.2.1)) t2.2.1 t2.2.2).1 (sumN t1.1 t1.2.1 t1.2.2 (!t2.1&&decide (0<dlen t2.2.1)) t2.2.1 t2.2.2).2.1 (sumN t1.1 t1.2.1 t1.2.2 (!t2.1&&decide (0<dlen t2.2.1)) t2.2.1 t2.2.2).2.2
def gN (t:Bool×Nat×Int):Bool×Nat×Int:=if t.2.1=0 then(false,0,0) else(!t.1,t.2.1,t.2.2)
theorem gtimes_1 (na nb sg:Bool) (ua va:Option Addr) (un uc vn vc x y:Nat) (ea eb:Int) (w:World) (h1:Ir w (.slice ua un uc) x) (h2:Ir w (.slice va vn vc) y) (hx:dlen x≤400000) (hy:dlen y≤400000) (he1 : -4000000≤ea) (he2:ea≤4000000) (he3 : -4000000≤eb) (he4:eb≤4000000) (hsg:(!(na==nb))=sg) :
  Calls Tryz.prog 12 #[.agg #[.bool na,.slice ua un uc,.int .i64 ea],.agg #[.bool nb,.slice va vn vc,.int .i64 eb]] w fun r w'=>∃ a,r=.returned a∧NC w' w.heap.size a sg (x*y) (ea+eb)∧Bw w w':=by
 obtain⟨W,hW⟩:∃ W,W=((w.alloc (.cells #[.bool na,.slice ua un uc,.int .i64 ea] 30)).alloc (.cells #[.bool nb,.slice va vn vc,.int .i64 eb] 30)).alloc (.cells #[.bool false,.slice none 0 0,.int .i64 0] 30):=⟨_,rfl⟩
 obtain⟨hA,hBb,hC,hsz,hBW⟩:=boxes3 _ _ _ hW
 have hxy:dlen (x*y)≤1000000:=by
  have l1:=(dlen_le (dlen x) x).1 (Nat.le_refl _)
  have l2:=(dlen_le (dlen y) y).1 (Nat.le_refl _)
  have:dlen (x*y)≤dlen x+dlen y:=(dlen_le _ _).2 (by
   rw[Nat.pow_add]
   rcases Nat.eq_zero_or_pos x with h|h
   ·rw[h,Nat.zero_mul];exact Nat.mul_pos (Bpow_pos _) (Bpow_pos _)
   ·exact Nat.mul_lt_mul_of_lt_of_le l1 (Nat.le_of_lt l2) (Bpow_pos _))
  omega
 have HH:Hid (W.heap[w.heap.size+1+1]?=some (.cells #[.bool false,.slice none 0 0,.int .i64 0] 30 (0,0))∧W.heap.size=w.heap.size+1+1+1∧Bw w W):=⟨hC,hsz,hBW⟩
 have k78:∀ w4,Bw W w4→Calls Tryz.prog 33 #[.slice ua un uc,.slice va vn vc] w4 fun r w'=>∃ v,r=.returned v∧Own w' W.heap.size v (x*y)∧Bw W w':=fun w4 hb =>
  (rprod ((h1.later hBW).later hb) ((h2.later hBW).later hb) (by omega) (by omega)).mono fun r w' ⟨v,e1,o1,o2⟩=>⟨v,e1,o1.mono hb.size,hb.trans (o2.mono hb.size)⟩
 have k31:∀ v5 w5,Own w5 W.heap.size v5 (x*y)→Bw W w5→Calls Tryz.prog 22 #[.bool sg,v5,.int .i64 (ea+eb)] w5 fun r w'=>∃ s ao n cap ex,r=.returned (.agg #[.bool s,.slice ao n cap,.int .i64 ex]) ∧
   Hid (NC w' w5.heap.size (.agg #[.bool s,.slice ao n cap,.int .i64 ex]) sg (x*y) (ea+eb)∧W.heap.size≤w5.heap.size)∧Bw W w'∧Hid (w'.heap[w.heap.size+1+1]?=some (.cells #[.bool false,.slice none 0 0,.int .i64 0] 30 (0,0))) ∧
   (w'.cell? ⟨w.heap.size+1+1,0,none⟩=some (.bool false)∧w'.cell? ⟨w.heap.size+1+1,1,none⟩=some (.slice none 0 0)∧w'.cell? ⟨w.heap.size+1+1,2,none⟩=some (.int .i64 0))∧(w'.frozen? ⟨w.heap.size+1+1,0,none⟩=false∧w'.frozen? ⟨w.heap.size+1+1,1,none⟩=false∧w'.frozen? ⟨w.heap.size+1+1,2,none⟩=false):=by
  intro v5 w5 ho hb
  obtain⟨ao0,cap0,rfl,hl0,-,hat0⟩:=ho.is
  refine(rnormN hat0 (Nat.le_refl _) hl0 (by omega) (by omega)).mono ?_
  rintro r w6 ⟨a,rfl,hN,hb6⟩
  obtain⟨s,ao,n,cap,ex,rfl⟩:=hN.shape
  have hb46:Bw W w6:=hb.trans (hb6.mono hb.size)
  have hblk:=box_later HH.out.1 hb46 (by have:=HH.out.2.1;omega)
  obtain⟨f1,f2⟩:=box_cells29 hblk
  exact⟨s,ao,n,cap,ex,rfl,⟨hN,hb.size⟩,hb46,hblk,f1,f2⟩
 obtain⟨⟨a0,a1,a2⟩,-⟩:=box_cells29 hA
 obtain⟨⟨b0,b1,b2⟩,-⟩:=box_cells29 hBb
 have HK:Hid (∀ w',Bw W w'→((w'.cell? ⟨w.heap.size,0,none⟩=some (.bool na)∧w'.cell? ⟨w.heap.size,1,none⟩=some (.slice ua un uc)∧w'.cell? ⟨w.heap.size,2,none⟩=some (.int .i64 ea))∧(w'.cell? ⟨w.heap.size+1,0,none⟩=some (.bool nb)∧w'.cell? ⟨w.heap.size+1,1,none⟩=some (.slice va vn vc)∧w'.cell? ⟨w.heap.size+1,2,none⟩=some (.int .i64 eb)))):=fun w' hb=>⟨(box_cells29 (box_later hA hb (by omega))).1,(box_cells29 (box_later hBb hb (by omega))).1⟩
 have HK2:Hid (∀ w',Below (w.heap.size+1+1) W w'→((w'.cell? ⟨w.heap.size,0,none⟩=some (.bool na)∧w'.cell? ⟨w.heap.size,1,none⟩=some (.slice ua un uc)∧w'.cell? ⟨w.heap.size,2,none⟩=some (.int .i64 ea))∧(w'.cell? ⟨w.heap.size+1,0,none⟩=some (.bool nb)∧w'.cell? ⟨w.heap.size+1,1,none⟩=some (.slice va vn vc)∧w'.cell? ⟨w.heap.size+1,2,none⟩=some (.int .i64 eb)))):=fun w' hb=>⟨(box_cells29 (box_later hA hb (by omega))).1,(box_cells29 (box_later hBb hb (by omega))).1⟩
 have HS2:Hid (w.heap.size+1+1≤W.heap.size):=(by omega:w.heap.size+1+1≤W.heap.size)
 have hBR:Bw W W.drew:=(Below.refl _ _).drew
 have wz:IntKind.i64.wrap (ea+eb)=ea+eb:=by rw[IntKind.wrap_i64];omega
 clear hA hBb hC hsz hBW h1 h2 hx hy hxy
 go_enter Tryz.func12,Tryz.ntmps12
 go_upto_region 1 with fail
 rw[←hW]
 clear hW
 go_region_held3 (fun w'=>((w'.cell? ⟨w.heap.size,0,none⟩=some (.bool na)∧w'.cell? ⟨w.heap.size,1,none⟩=some (.slice ua un uc)∧w'.cell? ⟨w.heap.size,2,none⟩=some (.int .i64 ea))∧(w'.cell? ⟨w.heap.size+1,0,none⟩=some (.bool nb)∧w'.cell? ⟨w.heap.size+1,1,none⟩=some (.slice va vn vc)∧w'.cell? ⟨w.heap.size+1,2,none⟩=some (.int .i64 eb)))) (first|(with_reducible assumption)|exact⟨⟨a0,a1,a2⟩,b0,b1,b2⟩|(refine HK.out _ ?_;with_reducible assumption)|(refine HK2.out _ (below_store3 (Below.mono hb6 HS2.out) (Nat.le_refl _) _ _ _))|go_keep)
  (first|(go_at_call 33;refine(k78 _ (by first|(with_reducible assumption)|exact hBR)).mono ?_;rintro r w5 ⟨v5,rfl,ho5,hb5⟩)|(go_at_call 22;(try simp only[hsg,wz]);refine(k31 _ _ ho5 hb5).mono ?_;rintro r w6 ⟨s6,ao6,n6,cap6,ex6,rfl,hN6,hb6,hblk6,⟨x1,x2,x3⟩,x4,x5,x6⟩))
 have HF:Hid (Bw W w6):=hb6
 clear ho5 hb5 hb6 k31 k78 x1 x2 x3 x4 x5 x6 a0 a1 a2 b0 b1 b2 HK HK2
 go_wp2
 refine bodyPost_ret (results_cell_row rfl _ _ (w.heap.size+1+1) 30 #[.bool s6,.slice ao6 n6 cap6,.int .i64 ex6] (0,0) _ rfl (store3_29 _ _ _ hblk6.out) Tryz.underlying30 rfl Tryz.info30) rfl ?_
 obtain⟨-,hs,hBW⟩:=HH.out
 have hs5:=hN6.out.2
 exact⟨_,rfl,(hN6.out.1.store (by omega) _ _ _).mono (by omega),below_store3 (hBW.trans (HF.out.mono hBW.size)) (by omega) _ _ _⟩
theorem garg0 (w:World):Arg w none 0 0 0:=⟨fun _=>.inr ⟨rfl,rfl⟩,⟨0,0,fun h=>absurd h (by omega),fun i hi=>absurd hi (by omega)⟩,Nat.le_refl _,by omega⟩
theorem garg0D (w:World):Arg w none (dlen 0) 0 0:=by rw[dlen_zero];exact garg0 w
theorem gdn0 (w:World):DN w (.agg #[.bool false,.slice none 0 0,.int .i64 0]) (false,0,0):=⟨none,0,by show _=Value.agg #[.bool false,.slice none (dlen 0) 0,.int .i64 0];rw[dlen_zero],garg0D w⟩
def Gn (t:Bool×Nat×Int):Prop:=cn t.1 t.2.1 t.2.2=t∧dlen t.2.1≤60000 ∧ -1000000≤t.2.2∧t.2.2≤1000000
theorem gplus {t1 t2:Bool×Nat×Int} {X Y:Value} {w:World} (o1:Gn t1) (o2:Gn t2) (h1:DN w X t1) (h2:DN w Y t2):Calls Tryz.prog 10 #[X,Y] w fun r w'=>∃ A,r=.returned A∧DN w' A (gS t1 t2)∧Bw w w':=by
 obtain⟨ao,cap,rfl,a1⟩:=h1
 obtain⟨ao',cap',rfl,a2⟩:=h2
 obtain⟨c1,f1,f2,f3⟩:=o1
 obtain⟨c2,g1,g2,g3⟩:=o2
 exact(rplusG a1 a2 c1 c2 (by omega) (by omega) (by omega) (by omega) (by omega) (by omega)).mono fun r w' ⟨A,e,h,hb⟩=>⟨A,e,h.dn,hb⟩
theorem gtimes {t1 t2:Bool×Nat×Int} {X Y:Value} {w:World} (o1:Gn t1) (o2:Gn t2) (h1:DN w X t1) (h2:DN w Y t2):Calls Tryz.prog 12 #[X,Y] w fun r w'=>∃ A,r=.returned A∧DN w' A (gM t1 t2)∧Bw w w':=by
 obtain⟨ao,cap,rfl,a1⟩:=h1
 obtain⟨ao',cap',rfl,a2⟩:=h2
 obtain⟨c1,f1,f2,f3⟩:=o1
 obtain⟨c2,g1,g2,g3⟩:=o2
 exact(gtimes_1 t1.1 t2.1 _ ao ao' _ cap _ cap' t1.2.1 t2.2.1 t1.2.2 t2.2.2 w ⟨ao,cap,rfl,a1.le,a1.at_⟩ ⟨ao',cap',rfl,a2.le,a2.at_⟩ (by omega) (by omega) (by omega) (by omega) (by omega) (by omega) rfl).mono fun r w' ⟨A,e,h,hb⟩=>⟨A,e,h.dn,hb⟩
theorem gorder {t1 t2:Bool×Nat×Int} {X Y:Value} {w:World} (o1:Gn t1) (o2:Gn t2) (h1:DN w X t1) (h2:DN w Y t2):Calls Tryz.prog 11 #[X,Y] w fun r w'=>r=.returned (.int .i64 (ordN t1.1 t1.2.1 t1.2.2 t2.1 t2.2.1 t2.2.2))∧Bw w w':=by
 obtain⟨ao,cap,rfl,a1⟩:=h1
 obtain⟨ao',cap',rfl,a2⟩:=h2
 obtain⟨c1,f1,f2,f3⟩:=o1
 obtain⟨c2,g1,g2,g3⟩:=o2
 exact rorder a1 a2 (by omega) (by omega) (by omega) (by omega)
theorem Gn.zero {t:Bool×Nat×Int} (h:Gn t) (h0:t.2.1=0):t=(false,0,0):=by
 have e:=h.1
 unfold cn at e
 rw[if_pos h0] at e
 exact e.symm
theorem gcn_turn {t:Bool×Nat×Int} (h:cn t.1 t.2.1 t.2.2=t) (h0:t.2.1≠0) (s:Bool):cn s t.2.1 t.2.2=(s,t.2.1,t.2.2):=by
 unfold cn at h ⊢
 rw[if_neg h0] at h ⊢
 rw[Prod.ext_iff] at h
 exact Prod.ext rfl h.2
theorem gscaled_0 (na:Bool) (ua:Option Addr) (uc:Nat) (ea k:Int) (w:World) :
  Calls Tryz.prog 9 #[.agg #[.bool na,.slice ua 0 uc,.int .i64 ea],.int .i64 k] w fun r w'=>r=.returned (.agg #[.bool false,.slice none 0 0,.int .i64 0])∧Bw w w':=by
 obtain⟨W,hW⟩:∃ W,W=(w.alloc (.cells #[.bool na,.slice ua 0 uc,.int .i64 ea] 30)).alloc (.cells #[.bool false,.slice none 0 0,.int .i64 0] 30):=⟨_,rfl⟩
 obtain⟨hA,hB,hsz,hBW⟩:=two29 _ _ hW
 obtain⟨⟨a0,a1,a2⟩,-⟩:=box_cells29 hA
 obtain⟨⟨b0,b1,b2⟩,b3,b4,b5⟩:=box_cells29 hB
 have HX:Hid (Bw w W∧W.heap[w.heap.size+1]?=some (.cells #[.bool false,.slice none 0 0,.int .i64 0] 30 (0,0))):=⟨hBW,hB⟩
 clear hA hB hsz hBW
 have HE:Hid (W=(w.alloc (.cells #[.bool na,.slice ua 0 uc,.int .i64 ea] 30)).alloc (.cells #[.bool false,.slice none 0 0,.int .i64 0] 30)):=hW
 rw[hW] at a0 a1 a2 b0 b1 b2 b3 b4 b5
 clear hW
 go_enter Tryz.func9,Tryz.ntmps9
 go_wp2
 refine bodyPost_ret (results_cell_row rfl _ _ (w.heap.size+1) 30 #[.bool false,.slice none 0 0,.int .i64 0] (0,0) _ rfl (two29 _ _ rfl).2.1 Tryz.underlying30 rfl Tryz.info30) rfl ?_
 exact⟨rfl,(two29 _ _ rfl).2.2.2⟩
def gK (k:Int) (t:Bool×Nat×Int):Bool×Nat×Int:=if t.2.1=0 then(false,0,0) else(t.1,t.2.1,t.2.2+k)
theorem gscaled_1 (na:Bool) (ua:Option Addr) (un uc:Nat) (ea k:Int) (w:World) (hn:un≤35184372088832) (hn0:((un:Int)==0)=false) (he : -2000000≤ea∧ea≤2000000) (hk : -2000000≤k∧k≤2000000) :
  Calls Tryz.prog 9 #[.agg #[.bool na,.slice ua un uc,.int .i64 ea],.int .i64 k] w fun r w'=>r=.returned (.agg #[.bool na,.slice ua un uc,.int .i64 (ea+k)])∧Bw w w':=by
 obtain⟨W,hW⟩:∃ W,W=(w.alloc (.cells #[.bool na,.slice ua un uc,.int .i64 ea] 30)).alloc (.cells #[.bool false,.slice none 0 0,.int .i64 0] 30):=⟨_,rfl⟩
 obtain⟨hA,hB,hsz,hBW⟩:=two29 _ _ hW
 obtain⟨⟨a0,a1,a2⟩,-⟩:=box_cells29 hA
 obtain⟨⟨b0,b1,b2⟩,b3,b4,b5⟩:=box_cells29 hB
 obtain⟨he1,he2⟩:=he
 obtain⟨hk1,hk2⟩:=hk
 clear hA hB hsz hBW
 rw[hW] at a0 a1 a2 b0 b1 b2 b3 b4 b5
 clear hW
 go_enter Tryz.func9,Tryz.ntmps9
 go_wp2
 refine bodyPost_ret (results_cell_row rfl _ _ (w.heap.size+1) 30 #[.bool na,.slice ua un uc,.int .i64 (ea+k)] (0,0) _ rfl (two29 _ _ rfl).2.1 Tryz.underlying30 rfl Tryz.info30) rfl ?_
 exact⟨rfl,(two29 _ _ rfl).2.2.2⟩
theorem gscaled {t:Bool×Nat×Int} {X:Value} {w:World} {k:Int} (o:Gn t) (h:DN w X t) (hk : -1000000≤k∧k≤1000000):Calls Tryz.prog 9 #[X,.int .i64 k] w fun r w'=>∃ A,r=.returned A∧DN w' A (gK k t)∧Bw w w':=by
 obtain⟨ao,cap,rfl,a1⟩:=h
 have hz:=o.zero
 obtain⟨c1,f1,f2,f3⟩:=o
 unfold gK
 by_cases h0:t.2.1=0
 ·rw[if_pos h0,h0,dlen_zero]
  refine(gscaled_0 t.1 ao cap t.2.2 k w).mono ?_
  rintro r w' ⟨rfl,hb⟩
  exact⟨_,rfl,gdn0 _,hb⟩
 ·rw[if_neg h0]
  have hl:0<dlen t.2.1:=by have:=dlen_pos h0;omega
  refine(gscaled_1 t.1 ao (dlen t.2.1) cap t.2.2 k w (by omega) (by rw[beq_eq_false_iff_ne];omega) ⟨by omega,by omega⟩ ⟨by omega,by omega⟩).mono ?_
  rintro r w' ⟨rfl,hb⟩
  exact⟨_,rfl,⟨ao,cap,rfl,a1.later hb⟩,hb⟩
def un (Z:Int) (p:Nat):Bool×Nat×Int:=cn (decide (Z<0)) Z.natAbs (-(p:Int))
theorem sv_nat (Z:Int):sv (decide (Z<0)) Z.natAbs=Z:=by
 unfold sv
 by_cases h:Z<0
 ·rw[if_pos (decide_eq_true h)];omega
 ·rw[if_neg (by simpa using h)];omega
theorem vz_un {K p:Nat} (Z:Int) (h:p≤K):vz K (un Z p).1 (un Z p).2.1 (un Z p).2.2=Z*((2^(K - p):Nat):Int):=by
 unfold un
 rw[vz_cn (by omega)]
 unfold vz
 rw[sv_nat,show(-(p:Int)+(K:Int)).toNat=K - p by omega]
theorem tz_le {x b:Nat} (h:x<2^b):tz x≤b:=by
 by_cases h0:x=0
 ·rw[h0];exact Nat.le_trans (Nat.le_of_eq (by rw[tz];rfl)) (Nat.zero_le _)
 ·have h2:=(tz_spec x x (Nat.le_refl _) h0).1
  have h3:2^tz x≤x:=by
   have h4:0<x / 2^tz x:=by
    rcases Nat.eq_zero_or_pos (x / 2^tz x)with h|h
    ·rw[h,Nat.mul_zero] at h2;omega
    ·exact h
   exact Nat.le_trans (Nat.le_mul_of_pos_right _ h4) (Nat.le_of_eq h2)
  exact Nat.le_of_lt ((Nat.pow_lt_pow_iff_right (by omega)).1 (Nat.lt_of_le_of_lt h3 h))
theorem un_e {Z:Int} {p b:Nat} (h:Z.natAbs<2^b) : -(p:Int)≤(un Z p).2.2∧(un Z p).2.2≤b∧0≤(un Z p).2.2+(p:Int):=by
 have ht:=tz_le h
 unfold un cn
 by_cases h0:Z.natAbs=0
 ·rw[if_pos h0];simp only;omega
 ·rw[if_neg h0];simp only;omega
theorem dlen_two9 {x b:Nat} (h:x<2^b):dlen x≤b / 32+1:=by
 refine(dlen_le _ _).2 (Nat.lt_of_lt_of_le h ?_)
 rw[show B=2^32 by rfl,←Nat.pow_mul]
 exact Nat.pow_le_pow_right (by decide) (by omega)
theorem cn_idem (s:Bool) (z:Nat) (e:Int):cn (cn s z e).1 (cn s z e).2.1 (cn s z e).2.2=cn s z e:=by
 by_cases h0:z=0
 ·unfold cn;rw[if_pos h0,if_pos rfl]
 ·have h2:=(tz_spec z z (Nat.le_refl _) h0).2
  have:cn s z e=(s,z / 2^tz z,e+tz z):=by unfold cn;rw[if_neg h0]
  rw[this]
  exact cn_odd h2
theorem un_small {Z:Int} {p b:Nat} (h:Z.natAbs<2^b):(un Z p).2.1<2^b:=by
 unfold un cn
 split
 ·exact Nat.two_pow_pos _
 ·exact Nat.lt_of_le_of_lt (Nat.div_le_self _ _) h
theorem un_gn {Z:Int} {p b:Nat} (h:Z.natAbs<2^b) (hb:b≤90000) (hp:p≤90000):Gn (un Z p):=by
 have h1:=un_e (p:=p) h
 have h2:=dlen_two9 (un_small (p:=p) h)
 exact⟨cn_idem _ _ _,by omega,by omega,by omega⟩
theorem un_eq {s:Bool} {z:Nat} {e:Int} {Z:Int} {p K:Nat} (hp:p≤K) (he:0≤e+K) (h:vz K s z e=Z*((2^(K - p):Nat):Int)):cn s z e=un Z p:=by
 unfold un
 refine cn_eq he (by omega) ?_
 rw[h]
 unfold vz
 rw[sv_nat,show(-(p:Int)+(K:Int)).toNat=K - p by omega]
theorem gS_un {a b:Int} {p:Nat}:gS (un a p) (un b p)=un (a+b) p:=by
 have e1:=(un_e (p:=p) (Nat.lt_two_pow_self (n:=a.natAbs))).2.2
 have e2:=(un_e (p:=p) (Nat.lt_two_pow_self (n:=b.natAbs))).2.2
 unfold gS
 have hs:0≤(sumN (un a p).1 (un a p).2.1 (un a p).2.2 (un b p).1 (un b p).2.1 (un b p).2.2).2.2+(p:Int):=by
  unfold sumN
  split
  ·exact e2
  ·split
   ·exact e1
   ·split
    ·simp only;omega
    ·split <;> (simp only;omega)
 refine un_eq (K:=p) (Nat.le_refl _) hs ?_
 rw[vz_sumN e1 e2,vz_un a (Nat.le_refl _),vz_un b (Nat.le_refl _),←Int.add_mul]
theorem un_sign {Z:Int} {p:Nat}:((un Z p).1=true→0<dlen (un Z p).2.1)∧((un Z p).2.1=0↔Z=0):=by
 have hz:(un Z p).2.1=0↔Z=0:=by
  have h:=vz_un (K:=p) (p:=p) Z (Nat.le_refl _)
  have e:=vz_eq_zero (K:=p) (s:=(un Z p).1) (x:=(un Z p).2.1) (e:=(un Z p).2.2)
  rw[h,Nat.sub_self,Nat.pow_zero] at e
  constructor
  ·intro h0;have:=e.2 h0;simpa using this
  ·intro h0;exact e.1 (by rw[h0];simp)
 refine⟨fun h=>?_,hz⟩
 by_cases h0:(un Z p).2.1=0
 ·have:Z=0:=hz.1 h0
  subst this
  exact absurd h (by unfold un cn;rw[if_pos (by decide)];decide)
 ·have:dlen (un Z p).2.1≠0:=fun e=>h0 (dlen_eq_zero.1 e)
  omega
theorem gN_un {a:Int} {p:Nat}:gN (un a p)=un (-a) p:=by
 unfold gN
 by_cases h0:(un a p).2.1=0
 ·rw[if_pos h0]
  have:=un_sign.2.1 h0
  subst this
  unfold un cn;rw[if_pos (by decide)]
 ·rw[if_neg h0]
  have e1:=(un_e (p:=p) (Nat.lt_two_pow_self (n:=a.natAbs))).2.2
  have k:cn (!(un a p).1) (un a p).2.1 (un a p).2.2=(!(un a p).1,(un a p).2.1,(un a p).2.2):=gcn_turn (cn_idem _ _ _) h0 _
  rw[←k]
  refine un_eq (K:=p) (Nat.le_refl _) e1 ?_
  have h:=vz_un (K:=p) (p:=p) a (Nat.le_refl _)
  unfold vz at h ⊢
  have hs:sv (!(un a p).1) (un a p).2.1 = - sv (un a p).1 (un a p).2.1:=by unfold sv;cases (un a p).1 <;> simp
  rw[hs,Int.neg_mul,h,Int.neg_mul]
theorem gD_un {a b:Int} {p:Nat}:gD (un a p) (un b p)=un (a - b) p:=by
 have h:gD (un a p) (un b p)=gS (un a p) (gN (un b p)):=by
  unfold gD gS gN
  by_cases h0:(un b p).2.1=0
  ·rw[if_pos h0]
   have hb:=un_sign.2.1 h0
   subst hb
   have e:un 0 p=(false,0,0):=by unfold un cn;rw[if_pos (by decide)]
   rw[e,dlen_zero]
   rfl
  ·rw[if_neg h0]
   have hd:dlen (un b p).2.1≠0:=fun e=>h0 (dlen_eq_zero.1 e)
   rw[decide_eq_true (show 0<dlen (un b p).2.1 by omega),Bool.and_true]
 rw[h,gN_un,gS_un,Int.sub_eq_add_neg]
theorem gM_un {a b:Int} {p q:Nat}:gM (un a p) (un b q)=un (a*b) (p+q):=by
 have e1:=(un_e (p:=p) (Nat.lt_two_pow_self (n:=a.natAbs))).2.2
 have e2:=(un_e (p:=q) (Nat.lt_two_pow_self (n:=b.natAbs))).2.2
 unfold gM
 refine un_eq (K:=p+q) (Nat.le_refl _) (by omega) ?_
 rw[vz_mul e1 e2,vz_un a (Nat.le_refl _),vz_un b (Nat.le_refl _),Nat.sub_self,Nat.sub_self,Nat.sub_self]
 simp
theorem gK_un {a:Int} {p:Nat} {k:Int} {q:Nat} (h:(p:Int) - k=q):gK k (un a p)=un a q:=by
 unfold gK
 by_cases h0:(un a p).2.1=0
 ·rw[if_pos h0]
  have hb:=un_sign.2.1 h0
  subst hb
  unfold un cn;rw[if_pos (by decide)]
 ·rw[if_neg h0]
  unfold un at h0 ⊢
  unfold cn at h0 ⊢
  by_cases hz:a.natAbs=0
  ·rw[if_pos hz] at h0;exact absurd rfl h0
  ·rw[if_neg hz,if_neg hz]
   refine Prod.ext rfl (Prod.ext rfl ?_)
   simp only;omega
end Go.Proofs.YtgdhdailchonmabGreatDoor
namespace Go.Proofs.YtgdhdailchonmabGreatDoor
inductive Smp:Nat→Nat→Nat→Nat→Nat→Nat→Prop
 | whole {a b c d:Nat}:0<b→a % b=0→Smp a b c d (a / b) 1
 | above {a b c d:Nat}:0<b→a % b≠0→(a / b+1)*d≤c→Smp a b c d (a / b+1) 1
 | more {a b c d p q:Nat}:0<b→a % b≠0→c<(a / b+1)*d→Smp d (c - a / b*d) b (a % b) p q→Smp a b c d (a / b*p+q) p
end Go.Proofs.YtgdhdailchonmabGreatDoor
namespace Go.Proofs.YtgdhdailchonmabGreatDoor
open Go.RowKit Go.Fl64
theorem okR_un {Z:Int} {p b:Nat} (h:Z.natAbs<2^b) (hb:b≤60000) (hp:p≤60000):okR (decide (Z<0)) Z.natAbs (-(p:Int))=true :=
 Fits.ok (lo := -(p:Int)) (hi:=(b:Int) - p) (.inr ⟨by omega,by omega,by rw[show((b:Int) - p - (-(p:Int))).toNat=b by omega];exact h⟩) (by omega) (by omega) (by omega)
theorem ok_un {Z:Int} {p b:Nat} (h:Z.natAbs<2^b) (hb:b≤60000) (hp:p≤60000):Ok (un Z p):=ok_cn (okR_un h hb hp)
theorem abs_add {a b:Int} {k:Nat} (h1:a.natAbs<2^k) (h2:b.natAbs<2^k):(a+b).natAbs<2^(k+1):=by rw[Nat.pow_succ];omega
theorem abs_sub {a b:Int} {k:Nat} (h1:a.natAbs<2^k) (h2:b.natAbs<2^k):(a - b).natAbs<2^(k+1):=by rw[Nat.pow_succ];omega
theorem abs_mul {a b:Int} {k l:Nat} (h1:a.natAbs<2^k) (h2:b.natAbs<2^l):(a*b).natAbs<2^(k+l):=by
 rw[Int.natAbs_mul,Nat.pow_add]
 exact Nat.mul_lt_mul'' h1 h2
theorem padd_un {a b:Int} {p k:Nat} (h1:a.natAbs<2^k) (h2:b.natAbs<2^k) (hk:k<60000) (hp:p≤60000):Op2 69 (un a p) (un b p) (un (a+b) p):=by
 have e:=gS_un (a:=a) (b:=b) (p:=p)
 have:=add_op (ok_un (p:=p) h1 (by omega) hp) (ok_un (p:=p) h2 (by omega) hp) (by
  rw[okR_cn]
  have o:=ok_un (p:=p) (abs_add h1 h2) (by omega) hp
  rw[←e] at o
  exact o)
 rw[←e]
 exact this
theorem psub_un {a b:Int} {p k:Nat} (h1:a.natAbs<2^k) (h2:b.natAbs<2^k) (hk:k<60000) (hp:p≤60000):Op2 116 (un a p) (un b p) (un (a - b) p):=by
 have e:=gD_un (a:=a) (b:=b) (p:=p)
 have:=sub_op (ok_un (p:=p) h1 (by omega) hp) (ok_un (p:=p) h2 (by omega) hp) (by
  rw[okR_cn]
  have o:=ok_un (p:=p) (abs_sub h1 h2) (by omega) hp
  rw[←e] at o
  exact o)
 rw[←e]
 exact this
theorem pmul_un {a b:Int} {p q k l:Nat} (h1:a.natAbs<2^k) (h2:b.natAbs<2^l) (hk:k+l≤60000) (hp:p+q≤60000):Op2 70 (un a p) (un b q) (un (a*b) (p+q)):=by
 have e:=gM_un (a:=a) (b:=b) (p:=p) (q:=q)
 have:=mul_op (ok_un (p:=p) h1 (by omega) (by omega)) (ok_un (p:=q) h2 (by omega) (by omega)) (by
  rw[okR_cn]
  have o:=ok_un (p:=p+q) (abs_mul h1 h2) (by omega) hp
  rw[←e] at o
  exact o)
 rw[←e]
 exact this
theorem ord_un {a b:Int} {p:Nat}:ordN (un a p).1 (un a p).2.1 (un a p).2.2 (un b p).1 (un b p).2.1 (un b p).2.2=cmpI a b:=by
 have e1:=(un_e (p:=p) (Nat.lt_two_pow_self (n:=a.natAbs))).2.2
 have e2:=(un_e (p:=p) (Nat.lt_two_pow_self (n:=b.natAbs))).2.2
 rw[ordN_vz e1 e2,vz_un a (Nat.le_refl _),vz_un b (Nat.le_refl _),Nat.sub_self,Nat.pow_zero]
 simp
theorem un_nat {A p:Nat}:(un (A:Int) p).1=false:=by
 unfold un cn
 rw[decide_eq_false (by omega)]
 split <;> rfl
theorem at_cells {W W':World} {ao:Option Addr} {n z g:Nat} {T:TypeId} {s1 s2:Bool} {a1 a2:Option Addr} {m1 c1 m2 c2:Nat} {e1 e2:Int} (h:At W ao n z) (hE:W.heap[g]?=some (.cells #[.bool s1,.slice a1 m1 c1,.int .i64 e1] T (0,0))∨W.heap[g]?=some (.cells #[.bool s1,.slice a1 m1 c1,.int .i64 e1,.bool s2,.slice a2 m2 c2,.int .i64 e2] T (0,0))) (hW:∀ b,b≠g→W'.heap[b]?=W.heap[b]?):At W' ao n z:=by
 obtain⟨bb,o,h1,h2⟩:=h
 refine⟨bb,o,h1,fun i hi=>?_⟩
 have hc:=h2 i hi
 have hne:bb≠g:=by
  rintro rfl
  rcases hE with hE|hE
  ·simp only[World.cell?,hE] at hc
   rcases(show o+i=0∨o+i=1∨o+i=2∨3≤o+i by omega)with e|e|e|e
   ·rw[e] at hc;simp at hc
   ·rw[e] at hc;simp at hc
   ·rw[e] at hc;simp at hc
   ·rw[Array.getElem?_eq_none (by simpa using e)] at hc;cases hc
  ·simp only[World.cell?,hE] at hc
   rcases(show o+i=0∨o+i=1∨o+i=2∨o+i=3∨o+i=4∨o+i=5∨6≤o+i by omega)with e|e|e|e|e|e|e
   ·rw[e] at hc;simp at hc
   ·rw[e] at hc;simp at hc
   ·rw[e] at hc;simp at hc
   ·rw[e] at hc;simp at hc
   ·rw[e] at hc;simp at hc
   ·rw[e] at hc;simp at hc
   ·rw[Array.getElem?_eq_none (by simpa using e)] at hc;cases hc
 unfold World.cell? at hc ⊢
 rw[hW bb hne]
 exact hc
theorem set_other (W:World) (g b i:Nat) (v:Value) (h:b≠g):(W.setCell ⟨g,i,none⟩ v).heap[b]?=W.heap[b]?:=by
 simp[World.setCell,Array.getElem?_modify,Ne.symm h]
theorem PN.cells {W W':World} {A:Value} {t:Bool×Nat×Int} {g:Nat} {T:TypeId} {s1 s2:Bool} {a1 a2:Option Addr} {m1 c1 m2 c2:Nat} {e1 e2:Int} (h:PN W A t) (hE:W.heap[g]?=some (.cells #[.bool s1,.slice a1 m1 c1,.int .i64 e1] T (0,0))∨W.heap[g]?=some (.cells #[.bool s1,.slice a1 m1 c1,.int .i64 e1,.bool s2,.slice a2 m2 c2,.int .i64 e2] T (0,0))) (hW:∀ b,b≠g→W'.heap[b]?=W.heap[b]?):PN W' A t:=by
 obtain⟨ao,cap,rfl,a',c',h1,h2,h3,h4⟩:=h
 exact⟨ao,cap,rfl,a',c',h1,h2,h3,at_cells h4 hE hW⟩
theorem PN.set3 {W:World} {A:Value} {t:Bool×Nat×Int} {g:Nat} {T:TypeId} {s1:Bool} {a1:Option Addr} {m1 c1:Nat} {e1:Int} (h:PN W A t) (hE:W.heap[g]?=some (.cells #[.bool s1,.slice a1 m1 c1,.int .i64 e1] T (0,0))) (x y z:Value):PN (((W.setCell ⟨g,0,none⟩ x).setCell ⟨g,1,none⟩ y).setCell ⟨g,2,none⟩ z) A t :=
 h.cells (s2:=false) (a2:=none) (m2:=0) (c2:=0) (e2:=0) (.inl hE) fun b hb=>by rw[set_other _ _ _ _ _ hb,set_other _ _ _ _ _ hb,set_other _ _ _ _ _ hb]
def OutP (W:World) (T:Bool×Nat×Int) (r:Ending) (w':World):Prop:=∃ s ao n cap e,r=.returned (.agg #[.bool s,.slice ao n cap,.int .i64 e])∧PN w' (.agg #[.bool s,.slice ao n cap,.int .i64 e]) T∧Bw W w'
end Go.Proofs.YtgdhdailchonmabGreatDoor
namespace Go.Proofs.YtgdhdailchonmabGreatDoor
open Go.RowKit
def vhas (o:Oper) (j:Nat):Bool:=o.after.any fun e=>e.on==j&&Region.binds .any e
theorem vhas_ex {o:Oper} {j:Nat} (h:vhas o j=true):∃ e ∈ o.after,e.on=j∧Region.binds .any e=true:=by
 unfold vhas at h
 obtain⟨i,hi,h2⟩:=Array.any_eq_true.1 h
 rw[Bool.and_eq_true,beq_iff_eq] at h2
 exact⟨_,Array.getElem_mem hi,h2.1,h2.2⟩
theorem owp_move {P:Program} {Q:Exit→Act→World→Prop} {o:Oper} {K:Act→World→Prop} {a:Act} {w:World} {s:Tmp} {v:Value}
  (hop:o.op=.move (.tmp s)) (hs:a.tmps[s]?=some v) (h:K (a.put o.dst v) w):o.wp P a w K Q:=by
 unfold Oper.wp
 simp[execOp,hop,eval_get hs,Oper.upon,h]
theorem owp_assign {P:Program} {Q:Exit→Act→World→Prop} {o:Oper} {K:Act→World→Prop} {a:Act} {w:World} {s:Tmp} {v:Value}
  (hop:o.op=.assign (.tmp s)) (hs:a.tmps[s]?=some v) (h:K (a.put o.dst v) w):o.wp P a w K Q:=by
 unfold Oper.wp
 simp[execOp,hop,eval_get hs,Oper.upon,h]
theorem owp_call {P:Program} {Q:Exit→Act→World→Prop} {o:Oper} {K:Act→World→Prop} {a:Act} {w:World}
  {f:FuncId} {args:Array Operand} {ts:Array TypeId} (hop:o.op=.call { callee:=.value (.func f),args:=args,argTypes:=ts }) {vs:Array Value}
  (hc:∀ vs w,(callFunc f vs).run P w=.ok (.enter f vs) w) (hv:args.map a.eval=vs) (h:Calls P f vs w fun r w'=>∃ v,r=.returned v∧K (a.put o.dst v) w'):o.wp P a w K Q:=by
 unfold Oper.wp
 have e:(execOp a.eval o).run P w=.ok (.enter f vs) w:=by
  simp[execOp,hop,resolve,Deferred.ofValue,Act.eval,invoke,hv,hc]
 rw[e,Oper.upon_enter]
 refine h.mono ?_
 rintro r w' ⟨v,rfl,hk⟩
 exact hk
theorem owp_run1 {P:Program} {Q:Exit→Act→World→Prop} {o:Oper} {K:Act→World→Prop} {a:Act} {w w':World} {v:Value}
  (hr:(execOp a.eval o).run P w=.ok (.value v) w') (h:K (a.put o.dst v) w'):o.wp P a w K Q:=by
 unfold Oper.wp
 rw[hr]
 exact h
def Stays (P:World→Value→Prop):Prop:=∀ W W' A,Bw W W'→P W A→P W' A
def StaysAll:List (World→Value→Prop)→Prop
 | []=>True
 | P :: r=>Stays P∧StaysAll r
def vL (L:List (World→Value→Prop)) (j:Nat):World→Value→Prop:=L[j]?.getD (fun _ _=>False)
def dL (D:List (List Nat)) (j:Nat):List Nat:=D[j]?.getD []
def isV (x:Value):World→Value→Prop:=fun _ u=>u=x
theorem isV_stays (x:Value):Stays (isV x):=fun _ _ _ _ h=>h
theorem vL_stays:∀ {L:List (World→Value→Prop)},StaysAll L→∀ j,Stays (vL L j)
 | [],_,j=>fun W W' A hb h=>by simp[vL] at h
 | P :: r,hL,0=>hL.1
 | P :: r,hL,j+1=>by
  have:=vL_stays hL.2 j
  exact this
end Go.Proofs.YtgdhdailchonmabGreatDoor
namespace Go.Proofs.YtgdhdailchonmabGreatDoor
open Go.RowKit Go.Fl64
theorem run_ldN (g o:Nat) (s:Bool) (ao:Option Addr) (n cp:Nat) (e:Int) (w:World) (h0:w.cell? ⟨g,o,none⟩=some (.bool s)) (h1:w.cell? ⟨g,o+1,none⟩=some (.slice ao n cp)) (h2:w.cell? ⟨g,o+2,none⟩=some (.int .i64 e)):(Instr.loadAt 47 (.pointer (some ⟨g,o,none⟩))).run Tryz.prog w=.ok (.agg #[.bool s,.slice ao n cp,.int .i64 e]) w :=
 run_loadAt_mid w g o 47 [.bool s,.slice ao n cp,.int .i64 e] _ (fun j v hv=>by
  match j with
  | 0=>simp at hv;subst hv;exact h0
  | 1=>simp at hv;subst hv;exact h1
  | 2=>simp at hv;subst hv;exact h2
  | k+3=>simp at hv) Tryz.underlying47 rfl Tryz.info47
def isP (T:Bool×Nat×Int):World→Value→Prop:=fun w u=>PN w u T
theorem isP_stays (T:Bool×Nat×Int):Stays (isP T):=fun _ _ _ hb h=>PN.later h hb
end Go.Proofs.YtgdhdailchonmabGreatDoor
/- Products and quotients of floats of which one is nought or not finite. -/
namespace Go.Fl64
theorem nan_of {a:Nat} (h:9218868437227405312<mag a):isNaN a=true:=by unfold isNaN;simp;omega
theorem nan_no {a:Nat} (h:mag a≤9218868437227405312):isNaN a=false:=by unfold isNaN;simp;omega
end Go.Fl64
namespace Go.Proofs.YtgdhdailchonmabGreatDoor
open Go.RowKit Go.Fl64
theorem psub_1 (a b X:Nat) (m:Int) (w:World) (hb:b<18446744073709551616) (k:Calls Tryz.prog 58 #[.float .f64 a,.float .f64 (ngt b),.int .i64 m] w fun r w'=>OutF2 w X r w') :
  Calls Tryz.prog 82 #[.float .f64 a,.float .f64 b,.int .i64 m] w fun r w'=>OutF2 w X r w':=by
 have hn:∀ w,(Op.unary UnOp.neg (.float .f64 b)).run Tryz.prog w=.ok (.float .f64 (ngt b)) w:=fun w=>by rw[←negF b hb];rfl
 go_enter Tryz.func82,Tryz.ntmps82
 go_wp2_with fail
 refine k.mono ?_
 rintro r w1 ⟨n,rfl,h1,h2⟩
 have HB:Hid (lk n X∧Bw w w1):=⟨h1,h2⟩
 clear k h1 h2
 go_wp2_with fail
 go_ret
 exact⟨_,rfl,HB.out.1,HB.out.2⟩
end Go.Proofs.YtgdhdailchonmabGreatDoor
namespace Go.Proofs.YtgdhdailchonmabGreatDoor
open Go Go.RowKit
end Go.Proofs.YtgdhdailchonmabGreatDoor
namespace Go.Proofs.YtgdhdailchonmabGreatDoor
open Go.RowKit Go.Fl64
end Go.Proofs.YtgdhdailchonmabGreatDoor
namespace Go.Proofs.YtgdhdailchonmabGreatDoor
open Go Go.RowKit Go.Fl64 Go.Shelf
attribute [local go_sem] Oper.semAt_some
attribute [local go_sem] Oper.semAt_some
theorem pn_storeG {w:World} {A:Value} {t:Bool×Nat×Int} {g:Nat} {s:Bool} {ao:Option Addr} {n cap:Nat} {e:Int} (h:PN w A t) (hg:w.heap[g]?=some (.cells #[.bool s,.slice ao n cap,.int .i64 e] 47 (0,0))) (a b c:Value):PN (((w.setCell ⟨g,0,none⟩ a).setCell ⟨g,1,none⟩ b).setCell ⟨g,2,none⟩ c) A t:=by
 obtain⟨oo,cc,h1,ao',cap',h2,h3,h4,h5⟩:=h
 exact⟨oo,cc,h1,ao',cap',h2,h3,h4,at_boxP h5 hg (by simp) (by simp) (by simp) a b c⟩
end Go.Proofs.YtgdhdailchonmabGreatDoor
namespace Go.Proofs.YtgdhdailchonmabGreatDoor
open Go.RowKit Go.Fl64
def rtK (t1 t2:Bool×Nat×Int):Nat:=(max 0 (64+(bl t2.2.1:Int) - (bl t1.2.1:Int))).toNat
def rtF (t1 t2:Bool×Nat×Int) (m:Int):Nat:=tfF (t1.1 != t2.1) (decide (t1.2.1*2^rtK t1 t2 % t2.2.1=0)) (t1.2.1*2^rtK t1 t2 / t2.2.1) (t1.2.2 - t2.2.2 - rtK t1 t2) m
theorem pratio {t1 t2:Bool×Nat×Int} {X Y:Value} {m:Int} {w:World} (hT:Tab32 w) (o1:Ok t1) (o2:Ok t2) (h1:PN w X t1) (h2:PN w Y t2) (x0:t1.2.1≠0) (y0:t2.2.1≠0) (hm:1≤m∧m≤3) :
  Calls Tryz.prog 123 #[X,Y,.int .i64 m] w fun r w'=>r=.returned (.tuple #[.float .f64 (rtF t1 t2 m),.int .i64 0])∧Bw w w':=by
 obtain⟨pa,pc,rfl,i1⟩:=h1
 obtain⟨qa,qc,rfl,i2⟩:=h2
 have f1:=o1.facts
 have f2:=o2.facts
 have bx:=bl_le_dlen t1.2.1
 have by':=bl_le_dlen t2.2.1
 have hn0:((dlen t1.2.1:Int)==0)=false:=by
  have:dlen t1.2.1≠0:=fun e=>x0 (dlen_eq_zero.1 e)
  simp;omega
 have hn1:((dlen t2.2.1:Int)==0)=false:=by
  have:dlen t2.2.1≠0:=fun e=>y0 (dlen_eq_zero.1 e)
  simp;omega
 have hk:max 0 (64+(bl t2.2.1:Int) - (bl t1.2.1:Int))=(rtK t1 t2:Int):=by unfold rtK;omega
 refine pratio_1 t1.1 t2.1 pa qa _ pc _ qc _ _ (rtK t1 t2) (bl t1.2.1) (bl t2.2.1) t1.2.2 t2.2.2 m (t1.1 != t2.1) w (rfl:(!(t1.1==t2.1))=(t1.1 != t2.1)) hT i1 i2 (by omega) (by omega) y0 (by omega) (by omega) (by omega) (by omega) (by omega) rfl rfl (by omega) (by omega) hk (by omega) hn0 hn1 (fun W' g hW' hg=>?_)
 have:=maybe2 hg (i1.later hW') (i2.later hW') (by omega) (by omega)
 rw[show okN t1.1 (dlen t1.2.1) t1.2.1 t1.2.2=true from o1,show okN t2.1 (dlen t2.2.1) t2.2.1 t2.2.2=true from o2] at this
 exact this
theorem ne_nought {a:Nat} (ha:a<18446744073709551616) (hf:mag a<9218868437227405312):(FloatKind.f64.format.order a 0 != some Ordering.eq)=decide (mag a≠0):=by
 rw[bne,ord_eq a 0 ha (by decide)]
 have na:isNaN a=false:=by unfold isNaN;simp;omega
 have nb:isNaN 0=false:=by decide
 unfold Fl64.eq
 rw[na,nb]
 have e0:stp 0=0:=by decide
 rw[e0]
 by_cases h:mag a=0
 ·have:stp a=0:=by unfold stp sgn;rw[h];simp
  simp[this,h]
 ·have:stp a≠0:=by unfold stp sgn;split <;> omega
  simp[this,h]
theorem pplain_y (a:Nat) (ha:a<18446744073709551616) (hf:mag a<9218868437227405312) (h0:mag a≠0) (w:World):Calls Tryz.prog 92 #[.float .f64 a] w fun r w'=>r=.returned (.bool true)∧w'=w:=by
 have k:=pfin_y a ha hf
 have he:=ne_nought ha hf
 rw[decide_eq_true h0] at he
 clear ha hf h0
 go_enter Tryz.func92,Tryz.ntmps92
 go_wp2_with (go_at_call 83;refine(k _).mono ?_;rintro e w' ⟨rfl,rfl⟩)
 go_ret
 exact⟨rfl,rfl⟩
theorem pdiv_r (a b F:Nat) (m:Int) (ta tb:Bool×Nat×Int) (w:World) (hm:isM m=true)
  (hfa:∀ W,Calls Tryz.prog 92 #[.float .f64 a] W fun r w'=>r=.returned (.bool true)∧w'=W)
  (hfb:∀ W,Calls Tryz.prog 92 #[.float .f64 b] W fun r w'=>r=.returned (.bool true)∧w'=W)
  (kA:Calls Tryz.prog 85 #[.float .f64 a] w fun r w'=>OutA w ta r w')
  (kB:∀ W,Bw w W→Calls Tryz.prog 85 #[.float .f64 b] W fun r w'=>OutA W tb r w')
  (kC:∀ W X Y,Bw w W→PN W X ta→PN W Y tb→Calls Tryz.prog 123 #[X,Y,.int .i64 m] W fun r w'=>r=.returned (.tuple #[.float .f64 F,.int .i64 0])∧Bw W w') :
  Calls Tryz.prog 95 #[.float .f64 a,.float .f64 b,.int .i64 m] w fun r w'=>r=.returned (.float .f64 F)∧Bw w w':=by
 have kV:=pvalid m w
 rw[hm] at kV
 have HKB:Hid _:=kB
 have HKC:Hid _:=kC
 clear kB kC
 go_enter Tryz.func95,Tryz.ntmps95
 go_wp2_with fail
 refine kV.mono ?_
 rintro r w' ⟨rfl,hw⟩
 rw[hw]
 clear hw kV
 have kN:=hfa w
 go_wp2_with fail
 refine kN.mono ?_
 rintro r w' ⟨rfl,hw⟩
 rw[hw]
 clear hw kN hfa
 have kN:=hfb w
 go_wp2_with fail
 refine kN.mono ?_
 rintro r w' ⟨rfl,hw⟩
 rw[hw]
 clear hw kN hfb
 go_wp2_with fail
 refine kA.mono ?_
 rintro r w1 ⟨s1,ao1,n1,cap1,ex1,rfl,hP1,hb1⟩
 have k2:=HKB.out w1 hb1
 clear kA
 go_wp2_with fail
 refine k2.mono ?_
 rintro r w2 ⟨s2,ao2,n2,cap2,ex2,rfl,hP2,hb2⟩
 have HB2:Hid (Bw w w2):=hb1.trans (hb2.mono hb1.size)
 have k3:=HKC.out w2 _ _ HB2.out (hP1.later hb2) hP2
 clear k2 hP1 hP2 hb1 hb2
 go_wp2_with fail
 refine k3.mono ?_
 rintro r w3 ⟨rfl,hb3⟩
 have HB3:Hid (Bw w w3):=HB2.out.trans (hb3.mono HB2.out.size)
 clear k3 hb3
 go_wp2_with fail
 go_ret
 exact⟨rfl,HB3.out⟩
theorem pdiv_ok (a b:Nat) (m:Int) (w:World) (hm:isM m=true) (hT:Tab32 w) (hI:Ie.Tab w) (ha:a<18446744073709551616) (hb:b<18446744073709551616) (hfa:mag a<9218868437227405312) (hfb:mag b<9218868437227405312) (ha0:mag a≠0) (hb0:mag b≠0) (xa:(tF a).2.1≠0) (xb:(tF b).2.1≠0) :
  Calls Tryz.prog 95 #[.float .f64 a,.float .f64 b,.int .i64 m] w fun r w'=>r=.returned (.float .f64 (rtF (tF a) (tF b) m))∧Bw w w' :=
 pdiv_r a b _ m (tF a) (tF b) w hm (pplain_y a ha hfa ha0) (pplain_y b hb hfb hb0) (exact_ok a ha hfa w hT hI) (fun W h=>exact_ok b hb hfb W (hT.later h) (Tab.later hI h)) (fun W X Y h h1 h2=>pratio (hT.later h) (tF_ok a) (tF_ok b) h1 h2 xa xb (isM_iff.1 hm))
theorem phyp_r (a b F : Nat) (m : Int) (ta tb t1 t2 t3 : Bool × Nat × Int) (w : World) (hm : isM m = true)
    (hia : ∀ W, Calls Tryz.prog 139 #[.float .f64 a, .int .i64 0] W fun r w' => r = .returned (.bool false) ∧ w' = W)
    (hib : ∀ W, Calls Tryz.prog 139 #[.float .f64 b, .int .i64 0] W fun r w' => r = .returned (.bool false) ∧ w' = W)
    (hfa : ∀ W, Calls Tryz.prog 83 #[.float .f64 a] W fun r w' => r = .returned (.bool true) ∧ w' = W)
    (hfb : ∀ W, Calls Tryz.prog 83 #[.float .f64 b] W fun r w' => r = .returned (.bool true) ∧ w' = W)
    (kA : Calls Tryz.prog 85 #[.float .f64 a] w fun r w' => OutA w ta r w')
    (kB : ∀ W, Bw w W → Calls Tryz.prog 85 #[.float .f64 b] W fun r w' => OutA W tb r w')
    (kM1 : ∀ W X, Bw w W → PN W X ta → Calls Tryz.prog 144 #[X, X] W fun r w' => OutA W t1 r w')
    (kM2 : ∀ W X, Bw w W → PN W X tb → Calls Tryz.prog 144 #[X, X] W fun r w' => OutA W t2 r w')
    (kC : ∀ W X Y, Bw w W → PN W X t1 → PN W Y t2 → Calls Tryz.prog 84 #[X, Y] W fun r w' => OutA W t3 r w')
    (kR : ∀ W X, Bw w W → PN W X t3 → Calls Tryz.prog 93 #[X, .int .i64 m] W fun r w' => r = .returned (.tuple #[.float .f64 F, .int .i64 0]) ∧ Bw W w') :
    Calls Tryz.prog 122 #[.float .f64 a, .float .f64 b, .int .i64 m] w fun r w' => r = .returned (.float .f64 F) ∧ Bw w w' := by
  have kV := pvalid m w
  rw [hm] at kV
  have HKB : Hid _ := kB
  have HM1 : Hid _ := kM1
  have HM2 : Hid _ := kM2
  have HKC : Hid _ := kC
  have HKR : Hid _ := kR
  clear kB kM1 kM2 kC kR
  go_enter Tryz.func122, Tryz.ntmps122
  go_wp2_with fail
  refine kV.mono ?_
  rintro r w' ⟨rfl, hw⟩
  rw [hw]
  clear hw kV
  have kN := hia w
  go_wp2_with fail
  refine kN.mono ?_
  rintro r w' ⟨rfl, hw⟩
  rw [hw]
  clear hw kN hia
  have kN := hib w
  go_wp2_with fail
  refine kN.mono ?_
  rintro r w' ⟨rfl, hw⟩
  rw [hw]
  clear hw kN hib
  have kN := hfa w
  go_wp2_with fail
  refine kN.mono ?_
  rintro r w' ⟨rfl, hw⟩
  rw [hw]
  clear hw kN hfa
  have kN := hfb w
  go_wp2_with fail
  refine kN.mono ?_
  rintro r w' ⟨rfl, hw⟩
  rw [hw]
  clear hw kN hfb
  go_wp2_with fail
  refine kA.mono ?_
  rintro r w1 ⟨s1, ao1, n1, cap1, ex1, rfl, hP1, hb1⟩
  have k2 := HKB.out w1 hb1
  clear kA
  go_wp2_with fail
  refine k2.mono ?_
  rintro r w2 ⟨s2, ao2, n2, cap2, ex2, rfl, hP2, hb2⟩
  have HB2 : Hid (Bw w w2 ∧ PN w2 (.agg #[.bool s1, .slice ao1 n1 cap1, .int .i64 ex1]) ta ∧ PN w2 (.agg #[.bool s2, .slice ao2 n2 cap2, .int .i64 ex2]) tb) := ⟨hb1.trans (hb2.mono hb1.size), hP1.later hb2, hP2⟩
  clear k2 hP1 hP2 hb1 hb2
  obtain ⟨W, hW⟩ : ∃ W, W = (w2.alloc (.cells #[.bool s1, .slice ao1 n1 cap1, .int .i64 ex1] 47)).alloc (.cells #[.bool s2, .slice ao2 n2 cap2, .int .i64 ex2] 47) := ⟨_, rfl⟩
  have hh := two29 _ _ hW
  have HX : Hid (Bw w W ∧ W.heap[w2.heap.size]? = some (.cells #[.bool s1, .slice ao1 n1 cap1, .int .i64 ex1] 47 (0, 0)) ∧ W.heap[w2.heap.size + 1]? = some (.cells #[.bool s2, .slice ao2 n2 cap2, .int .i64 ex2] 47 (0, 0)) ∧ PN W (.agg #[.bool s1, .slice ao1 n1 cap1, .int .i64 ex1]) ta ∧ PN W (.agg #[.bool s2, .slice ao2 n2 cap2, .int .i64 ex2]) tb) := ⟨HB2.out.1.trans (hh.2.2.2.mono HB2.out.1.size), hh.1, hh.2.1, HB2.out.2.1.later hh.2.2.2, HB2.out.2.2.later hh.2.2.2⟩
  clear hh
  go_upto_region 8 with fail
  rw [← hW]
  clear hW HB2
  generalize w2.heap.size = g2 at *
  have HK : Hid (∀ w', Bw W w' → ((w'.cell? ⟨g2, 0, none⟩ = some (.bool s1) ∧ w'.cell? ⟨g2, 1, none⟩ = some (.slice ao1 n1 cap1) ∧ w'.cell? ⟨g2, 2, none⟩ = some (.int .i64 ex1)) ∧ (w'.cell? ⟨g2 + 1, 0, none⟩ = some (.bool s2) ∧ w'.cell? ⟨g2 + 1, 1, none⟩ = some (.slice ao2 n2 cap2) ∧ w'.cell? ⟨g2 + 1, 2, none⟩ = some (.int .i64 ex2))) ∧ Bw W w') := fun w' hb => ⟨⟨(box_cells (box_later HX.out.2.1 hb (lt_of_box HX.out.2.1))).1, (box_cells (box_later HX.out.2.2.1 hb (lt_of_box HX.out.2.2.1))).1⟩, hb⟩
  have hBR : Bw W W.drew := (Below.refl _ _).drew
  have km1 : ∀ w4, Bw W w4 → Calls Tryz.prog 144 #[.agg #[.bool s1, .slice ao1 n1 cap1, .int .i64 ex1], .agg #[.bool s1, .slice ao1 n1 cap1, .int .i64 ex1]] w4 fun r w' => ∃ s ao n cap e, r = .returned (.agg #[.bool s, .slice ao n cap, .int .i64 e]) ∧ PN w' (.agg #[.bool s, .slice ao n cap, .int .i64 e]) t1 ∧ Bw W w' := fun w4 hb =>
    (HM1.out w4 _ (HX.out.1.trans (hb.mono HX.out.1.size)) (HX.out.2.2.2.1.later hb)).mono fun r w' ⟨s, ao, n, cap, e, e1, o1, o2⟩ => ⟨s, ao, n, cap, e, e1, o1, hb.trans (o2.mono hb.size)⟩
  have km2 : ∀ w4, Bw W w4 → Calls Tryz.prog 144 #[.agg #[.bool s2, .slice ao2 n2 cap2, .int .i64 ex2], .agg #[.bool s2, .slice ao2 n2 cap2, .int .i64 ex2]] w4 fun r w' => ∃ s ao n cap e, r = .returned (.agg #[.bool s, .slice ao n cap, .int .i64 e]) ∧ PN w' (.agg #[.bool s, .slice ao n cap, .int .i64 e]) t2 ∧ Bw W w' ∧ Hid (Bw w4 w') := fun w4 hb =>
    (HM2.out w4 _ (HX.out.1.trans (hb.mono HX.out.1.size)) (HX.out.2.2.2.2.later hb)).mono fun r w' ⟨s, ao, n, cap, e, e1, o1, o2⟩ => ⟨s, ao, n, cap, e, e1, o1, hb.trans (o2.mono hb.size), o2⟩
  have kc : ∀ w4 X Y, Bw W w4 → PN w4 X t1 → PN w4 Y t2 → Calls Tryz.prog 84 #[X, Y] w4 fun r w' => ∃ s ao n cap e, r = .returned (.agg #[.bool s, .slice ao n cap, .int .i64 e]) ∧ PN w' (.agg #[.bool s, .slice ao n cap, .int .i64 e]) t3 ∧ Bw W w' := fun w4 X Y hb h1 h2 =>
    (HKC.out w4 _ _ (HX.out.1.trans (hb.mono HX.out.1.size)) h1 h2).mono fun r w' ⟨s, ao, n, cap, e, e1, o1, o2⟩ => ⟨s, ao, n, cap, e, e1, o1, hb.trans (o2.mono hb.size)⟩
  have kr : ∀ w4 X, Bw W w4 → PN w4 X t3 → Calls Tryz.prog 93 #[X, .int .i64 m] w4 fun r w' => r = .returned (.tuple #[.float .f64 F, .int .i64 0]) ∧ Bw W w' := fun w4 X hb h1 =>
    (HKR.out w4 _ (HX.out.1.trans (hb.mono HX.out.1.size)) h1).mono fun r w' ⟨e1, o2⟩ => ⟨e1, hb.trans (o2.mono hb.size)⟩
  obtain ⟨⟨⟨a0, a1, a2⟩, ⟨b0, b1, b2⟩⟩, -⟩ := HK.out W (Below.refl _ _)
  go_region_held3 (fun w' => ((w'.cell? ⟨g2, 0, none⟩ = some (.bool s1) ∧ w'.cell? ⟨g2, 1, none⟩ = some (.slice ao1 n1 cap1) ∧ w'.cell? ⟨g2, 2, none⟩ = some (.int .i64 ex1)) ∧ (w'.cell? ⟨g2 + 1, 0, none⟩ = some (.bool s2) ∧ w'.cell? ⟨g2 + 1, 1, none⟩ = some (.slice ao2 n2 cap2) ∧ w'.cell? ⟨g2 + 1, 2, none⟩ = some (.int .i64 ex2))) ∧ Bw W w') (first | (with_reducible assumption) | exact ⟨⟨⟨a0, a1, a2⟩, ⟨b0, b1, b2⟩⟩, hBR⟩ | (refine HK.out _ ?_; with_reducible assumption) | go_keep)
    (first | (go_at_call 144; first | (have hq := hP5; clear hq; refine (km2 _ hb5).mono ?_; rintro r w6 ⟨s6, ao6, n6, cap6, e6, rfl, hP6, hb6, hk6⟩) | (refine (km1 _ hBR).mono ?_; rintro r w5 ⟨s5, ao5, n5, cap5, e5, rfl, hP5, hb5⟩))
           | (go_at_call 84; refine (kc _ _ _ hb6 (hP5.later hk6.out) hP6).mono ?_; rintro r w7 ⟨s7, ao7, n7, cap7, e7, rfl, hP7, hb7⟩)
           | (go_at_call 93; refine (kr _ _ hb7 hP7).mono ?_; rintro r w8 ⟨rfl, hb8⟩))
  all_goals
    have HF : Hid (Bw w w8) := HX.out.1.trans (hb8.mono HX.out.1.size)
    clear hP5 hb5 hP6 hb6 hk6 hP7 hb7 hb8 km1 km2 kc kr HK hBR a0 a1 a2 b0 b1 b2
    go_wp2_with fail
    go_ret
    exact ⟨rfl, HF.out⟩
def tM (t1 t2:Bool×Nat×Int):Bool×Nat×Int:=cn (!(t1.1==t2.1)) (t1.2.1*t2.2.1) (t1.2.2+t2.2.2)
def sqK (t:Bool×Nat×Int):Nat:=if((t.2.2 - ((max 0 (128 - (bl t.2.1:Int))).toNat:Int)).tmod 2 != 0)=true then(max 0 (128 - (bl t.2.1:Int))).toNat+1 else(max 0 (128 - (bl t.2.1:Int))).toNat
theorem td2 (z:Int) (h1 : -80000≤z) (h2:z≤80000) : -40000≤z.tdiv 2∧z.tdiv 2≤40000:=by
 by_cases h:0≤z
 ·rw[Int.tdiv_eq_ediv_of_nonneg h];omega
 ·obtain⟨y,rfl⟩:∃ y,z = -y:=⟨-z,by omega⟩
  rw[Int.neg_tdiv,Int.tdiv_eq_ediv_of_nonneg (by omega)];omega
theorem psqrt {t:Bool×Nat×Int} {X:Value} {m:Int} {w:World} (hT:Tab32 w) (ok:Ok t) (h:PN w X t) (hs:t.1=false) (hm:1≤m∧m≤3) :
  Calls Tryz.prog 93 #[X,.int .i64 m] w fun r w'=>∃ q,(q*q≤t.2.1*2^sqK t∧t.2.1*2^sqK t<(q+1)*(q+1))∧r=.returned (.tuple #[.float .f64 (tfF false (decide (q*q=t.2.1*2^sqK t)) q ((t.2.2 - (sqK t:Int)).tdiv 2) m),.int .i64 0])∧Bw w w':=by
 obtain⟨pa,pc,rfl,i1⟩:=h
 have f1:=ok.facts
 have bx:=bl_le_dlen t.2.1
 rw[hs]
 obtain⟨k0',hk0⟩:∃ k0':Nat,max 0 (128 - (bl t.2.1:Int))=(k0':Int):=⟨(max 0 (128 - (bl t.2.1:Int))).toNat,by omega⟩
 have hq:(max 0 (128 - (bl t.2.1:Int))).toNat=k0':=by omega
 have hmb:∀ W' g,Bw w W'→W'.heap[g]?=some (.cells #[.bool false,.slice pa (dlen t.2.1) pc,.int .i64 t.2.2] 47 (0,0))→Calls Tryz.prog 76 #[.slice (some ⟨g,0,none⟩) 1 1] W' fun r w'=>r=.returned (.bool true)∧Bw W' w':=fun W' g hW' hg=>by
  have:=maybe1 hg (i1.later hW') (by omega)
  have ok':okN t.1 (dlen t.2.1) t.2.1 t.2.2=true:=ok
  rw[hs] at ok'
  rw[ok'] at this
  exact this
 unfold sqK
 rw[hq]
 by_cases hod:((t.2.2 - (k0':Int)).tmod 2 != 0)=true
 ·simp only[if_pos hod]
  have:=psqrt_o pa _ pc t.2.1 k0' (bl t.2.1) t.2.2 m _ w hT i1 (by omega) (by omega) (by omega) (by omega) rfl (by omega) hk0 (by omega) hod rfl (td2 _ (by omega) (by omega)).1 (td2 _ (by omega) (by omega)).2 hmb
  rw[show((k0'+1:Nat):Int)=(k0':Int)+1 by omega]
  exact this
 ·simp only[if_neg hod]
  exact psqrt_e pa _ pc t.2.1 k0' (bl t.2.1) t.2.2 m _ w hT i1 (by omega) (by omega) (by omega) (by omega) rfl (by omega) hk0 (by omega) (by simpa using hod) rfl (td2 _ (by omega) (by omega)).1 (td2 _ (by omega) (by omega)).2 hmb
theorem root_only {q q' N:Nat} (h1:q*q≤N) (h2:N<(q+1)*(q+1)) (h3:q'*q'≤N) (h4:N<(q'+1)*(q'+1)):q=q':=by
 rcases Nat.lt_trichotomy q q' with h|h|h
 ·have:(q+1)*(q+1)≤q'*q':=Nat.mul_le_mul h h
  omega
 ·exact h
 ·have:(q'+1)*(q'+1)≤q*q:=Nat.mul_le_mul h h
  omega
theorem pinf_n (a:Nat) (ha:a<18446744073709551616) (hf:mag a<9218868437227405312) (w:World):Calls Tryz.prog 139 #[.float .f64 a,.int .i64 0] w fun r w'=>r=.returned (.bool false)∧w'=w:=by
 have:=c123 a ha w
 rw[show lt 9218868437227405311 (mag a)=false by
  unfold lt
  have h1:stp 9218868437227405311=9218868437227405311:=by decide
  have h2:stp (mag a)=mag a:=by unfold stp sgn neg;rw[decide_eq_false (by omega)];unfold mag;simp
  rw[h1,h2]
  simp;omega] at this
 exact this
theorem tM_ok {t1 t2:Bool×Nat×Int} (h:okR (!(t1.1==t2.1)) (t1.2.1*t2.2.1) (t1.2.2+t2.2.2)=true):Ok (tM t1 t2):=ok_cn h
end Go.Proofs.YtgdhdailchonmabGreatDoor
namespace Go.Proofs.YtgdhdailchonmabGreatDoor
open Go.RowKit Go.Fl64
open Ie
end Go.Proofs.YtgdhdailchonmabGreatDoor
namespace Go.Proofs.YtgdhdailchonmabGreatDoor
open Go.RowKit Go.Fl64
end Go.Proofs.YtgdhdailchonmabGreatDoor
namespace Go.Proofs.YtgdhdailchonmabGreatDoor
open Go.RowKit
end Go.Proofs.YtgdhdailchonmabGreatDoor
namespace Go.Proofs.YtgdhdailchonmabGreatDoor
open Go.RowKit Go.Fl64
theorem psq_r (a F:Nat) (m:Int) (ta:Bool×Nat×Int) (w:World) (hm:isM m=true) (hl:(FloatKind.f64.format.order a 0==some Ordering.lt)=false) (hf:∀ W,Calls Tryz.prog 92 #[.float .f64 a] W fun r w'=>r=.returned (.bool true)∧w'=W)
  (kA:Calls Tryz.prog 85 #[.float .f64 a] w fun r w'=>OutA w ta r w')
  (kR:∀ W X,Bw w W→PN W X ta→Calls Tryz.prog 93 #[X,.int .i64 m] W fun r w'=>r=.returned (.tuple #[.float .f64 F,.int .i64 0])∧Bw W w'):Calls Tryz.prog 61 #[.float .f64 a,.int .i64 m] w fun r w'=>r=.returned (.float .f64 F)∧Bw w w':=by
 have kV:=pvalid m w
 rw[hm] at kV
 have HKR:Hid _:=kR
 clear kR
 go_enter Tryz.func61,Tryz.ntmps61
 go_wp2_with fail
 refine kV.mono ?_
 rintro r w' ⟨rfl,hw⟩
 rw[hw]
 clear hw kV w'
 have kN:=hf w
 go_wp2_with fail
 refine kN.mono ?_
 rintro r w' ⟨rfl,hw⟩
 rw[hw]
 clear hw kN hf w'
 go_wp2_with fail
 refine kA.mono ?_
 rintro r w1 ⟨s1,ao1,n1,cap1,ex1,rfl,hP1,hb1⟩
 have HB1:Hid (Bw w w1):=hb1
 have k2:=HKR.out w1 _ hb1 hP1
 clear kA hb1 hP1
 go_wp2_with fail
 refine k2.mono ?_
 rintro r w2 ⟨rfl,hb2⟩
 have HB2:Hid (Bw w w2):=HB1.out.trans (hb2.mono HB1.out.size)
 clear k2 hb2
 go_wp2_with fail
 go_ret
 exact⟨rfl,HB2.out⟩
theorem unought {a:Nat} (ha:a<18446744073709551616):(FloatKind.f64.format.order a 0 != some Ordering.eq) = !decide (mag a=0):=by
 have h:(FloatKind.f64.format.order a 0==some Ordering.eq)=decide (mag a=0):=by
  rw[ord_eq a 0 ha (by decide)]
  have nb:isNaN 0=false:=by decide
  unfold Fl64.eq
  rw[nb]
  have e0:stp 0=0:=by decide
  rw[e0]
  by_cases h:mag a=0
  ·have:stp a=0:=by unfold stp sgn;rw[h];simp
   have na:isNaN a=false:=by unfold isNaN;simp;omega
   simp[this,h,na]
  ·have:stp a≠0:=by unfold stp sgn;split <;> omega
   simp[this,h]
 rw[←h];rfl
theorem pcopysign (a b:Nat) (ha:a<18446744073709551616) (hb:b<18446744073709551616) (w:World) :
  Calls Tryz.prog 13 #[.float .f64 a,.float .f64 b] w fun e w'=>e=.returned (.float .f64 (sig (neg b) (mag a)))∧w'=w:=by
 have kb:=Ie.run_bits
 have kf:=Ie.run_frombits
 go_enter Tryz.func13,Tryz.ntmps13
 go_wp2
 go_ret
 refine⟨?_,rfl⟩
 show Ending.returned (.float .f64 (bits .or .u64 (bits .andNot .u64 (a:Int) 9223372036854775808) (bits .and .u64 (b:Int) 9223372036854775808)).toNat)=_
 rw[andNot_sign a ha,and_sign b hb]
 cases neg b with
 | true=>rw[if_pos rfl,or_sign _ (mag_lt a)];rfl
 | false=>rw[if_neg (by decide),or_zero _ (mag_lt a)];rfl
theorem pwith (a b:Nat) (ha:a<18446744073709551616) (hb:b<18446744073709551616) (w:World) :
  Calls Tryz.prog 52 #[.float .f64 a,.float .f64 b] w fun e w'=>e=.returned (.float .f64 (withF a b))∧w'=w:=by
 have na:=self_ne a ha
 have nb:=self_ne b hb
 have k38:=c159 a ha
 have k39:=pcopysign a b ha hb
 unfold withF
 clear ha hb
 generalize isNaN a=x at na ⊢
 generalize isNaN b=y at nb ⊢
 generalize mag a=m at k38 k39 ⊢
 generalize sig (neg b) m=r at k39 ⊢
 cases x with
 | true =>
  simp only[if_true]
  go_enter Tryz.func52,Tryz.ntmps52
  go_wp2_with (first|(go_at_call 43;refine(k38 _).mono ?_;rintro e w' ⟨rfl,rfl⟩)|(go_at_call 13;refine(k39 _).mono ?_;rintro e w' ⟨rfl,rfl⟩))
  go_ret
  exact⟨rfl,rfl⟩
 | false =>
  cases y with
  | true =>
   simp only[if_true,if_false,Bool.false_eq_true]
   go_enter Tryz.func52,Tryz.ntmps52
   go_wp2_with (first|(go_at_call 43;refine(k38 _).mono ?_;rintro e w' ⟨rfl,rfl⟩)|(go_at_call 13;refine(k39 _).mono ?_;rintro e w' ⟨rfl,rfl⟩))
   go_ret
   exact⟨rfl,rfl⟩
  | false =>
   simp only[if_false,Bool.false_eq_true]
   go_enter Tryz.func52,Tryz.ntmps52
   go_wp2_with (first|(go_at_call 43;refine(k38 _).mono ?_;rintro e w' ⟨rfl,rfl⟩)|(go_at_call 13;refine(k39 _).mono ?_;rintro e w' ⟨rfl,rfl⟩))
   go_ret
   exact⟨rfl,rfl⟩
theorem pcmp {t1 t2:Bool×Nat×Int} {X Y:Value} {w:World} (o1:Ok t1) (o2:Ok t2) (h1:PN w X t1) (h2:PN w Y t2):Calls Tryz.prog 137 #[X,Y] w fun r w'=>r=.returned (.int .i64 (ordN t1.1 t1.2.1 t1.2.2 t2.1 t2.2.1 t2.2.2))∧Bw w w':=by
 obtain⟨ao,cap,rfl,i1⟩:=h1
 obtain⟨ao',cap',rfl,i2⟩:=h2
 obtain⟨f1,f2,f3,-,-⟩:=o1.facts
 obtain⟨g1,g2,g3,-,-⟩:=o2.facts
 exact cmp_ok i1 i2 (by omega) (by omega) (by omega) (by omega) o1 o2
theorem vz_cnF {K:Nat} {lo hi:Int} {s:Bool} {z:Nat} {e:Int} (h:Fits lo hi z e) (hK:0≤lo+K):vz K (cn s z e).1 (cn s z e).2.1 (cn s z e).2.2=vz K s z e:=by
 rcases h with h|⟨h,-,-⟩
 ·subst h;rw[show cn s 0 e=(false,0,0)from if_pos rfl,vz_zero,vz_zero]
 ·exact vz_cn (by omega)
theorem vz_turn {K:Nat} {s:Bool} {x:Nat} {e:Int}:vz K (!s&&decide (0<dlen x)) x e = - vz K s x e:=by
 by_cases h:x=0
 ·subst h;rw[vz_zero,vz_zero];rfl
 ·have h1:0<dlen x:=by have:=dlen_pos h;omega
  rw[decide_eq_true h1,Bool.and_true]
  unfold vz sv
  cases s <;> simp[Int.neg_mul]
def tD (t1 t2:Bool×Nat×Int):Bool×Nat×Int:=cn (sumN t1.1 t1.2.1 t1.2.2 (!t2.1&&decide (0<dlen t2.2.1)) t2.2.1 t2.2.2).1 (sumN t1.1 t1.2.1 t1.2.2 (!t2.1&&decide (0<dlen t2.2.1)) t2.2.1 t2.2.2).2.1 (sumN t1.1 t1.2.1 t1.2.2 (!t2.1&&decide (0<dlen t2.2.1)) t2.2.1 t2.2.2).2.2
theorem tD_fits {lo hi:Int} {t1 t2:Bool×Nat×Int} (h1:Fits lo hi t1.2.1 t1.2.2) (h2:Fits lo hi t2.2.1 t2.2.2):Fits lo (hi+1) (tD t1 t2).2.1 (tD t1 t2).2.2:=Fits.cn (Fits.sum h1 h2)
theorem vz_tD {K:Nat} {lo hi:Int} {t1 t2:Bool×Nat×Int} (h1:Fits lo hi t1.2.1 t1.2.2) (h2:Fits lo hi t2.2.1 t2.2.2) (e1:0≤t1.2.2+K) (e2:0≤t2.2.2+K) (hK:0≤lo+K) :
  vz K (tD t1 t2).1 (tD t1 t2).2.1 (tD t1 t2).2.2=vz K t1.1 t1.2.1 t1.2.2 - vz K t2.1 t2.2.1 t2.2.2:=by
 unfold tD
 rw[vz_cnF (Fits.sum h1 h2) hK,vz_sumN e1 e2,vz_turn]
 omega
theorem vz_tS {K:Nat} {lo hi:Int} {t1 t2:Bool×Nat×Int} (h1:Fits lo hi t1.2.1 t1.2.2) (h2:Fits lo hi t2.2.1 t2.2.2) (e1:0≤t1.2.2+K) (e2:0≤t2.2.2+K) (hK:0≤lo+K):vz K (tS t1 t2).1 (tS t1 t2).2.1 (tS t1 t2).2.2=vz K t1.1 t1.2.1 t1.2.2+vz K t2.1 t2.2.1 t2.2.2:=by
 unfold tS
 rw[vz_cnF (Fits.sum h1 h2) hK,vz_sumN e1 e2]
end Go.Proofs.YtgdhdailchonmabGreatDoor
namespace Go.Proofs.YtgdhdailchonmabGreatDoor
open Go.RowKit
end Go.Proofs.YtgdhdailchonmabGreatDoor
namespace Go.Proofs.YtgdhdailchonmabGreatDoor
open Go.RowKit Go.Fl64
end Go.Proofs.YtgdhdailchonmabGreatDoor
namespace Go.Proofs.YtgdhdailchonmabGreatDoor
open Go Go.RowKit Go.Fl64
theorem P6Like (a:Nat) (ha:a<18446744073709551616) (w:World) :
  Calls Tryz.prog 65 #[.float .f64 a,.float .f64 a] w fun r w'=>r=.returned (.bool true)∧w'=w:=by
 have kb:=Ie.run_bits
 have q1:=self_ne a ha
 cases ha':isNaN a
 ·rw[ha'] at q1
  clear ha'
  go_enter Tryz.func65,Tryz.ntmps65
  go_wp2
  go_ret
  exact⟨by simp,rfl⟩
 ·rw[ha'] at q1
  clear ha'
  go_enter Tryz.func65,Tryz.ntmps65
  go_wp2
  go_ret
  exact⟨by simp,rfl⟩
theorem P6Same (a b:Nat) (w:World)
  (k1:∀ w,Calls Tryz.prog 65 #[.float .f64 a,.float .f64 a] w fun r w'=>r=.returned (.bool true)∧w'=w)
  (k2:∀ w,Calls Tryz.prog 65 #[.float .f64 b,.float .f64 b] w fun r w'=>r=.returned (.bool true)∧w'=w) :
  Calls Tryz.prog 64 #[.complex .f64 a b,.complex .f64 a b] w fun r w'=>r=.returned (.bool true)∧w'=w:=by
 go_enter Tryz.func64,Tryz.ntmps64
 go_wp2_with fail
 refine(k1 _).mono ?_
 rintro r w' ⟨rfl,hw⟩
 replace hw:=hw.symm
 subst hw
 clear k1
 go_wp2_with fail
 refine(k2 _).mono ?_
 rintro r w' ⟨rfl,hw⟩
 replace hw:=hw.symm
 subst hw
 go_wp2
 go_ret
 exact⟨rfl,rfl⟩
theorem P6copy (w:World):Calls Tryz.prog 13 #[.float .f64 0,.float .f64 13830554455654793216] w fun r w'=>r=.returned (.float .f64 9223372036854775808)∧w'=w:=by
 have kb:=Ie.run_bits
 have kf:=Ie.run_frombits
 go_enter Tryz.func13,Tryz.ntmps13
 go_wp2
 go_ret
 exact⟨by kernel_rfl,rfl⟩
end Go.Proofs.YtgdhdailchonmabGreatDoor
namespace Go.Proofs.YtgdhdailchonmabGreatDoor
open Go.RowKit Go.Fl64
def agI (C P Q X:Int):Int:=if X - C<0 then 1 else if(X - C)*(X - C) - (P+Q)<0 then 1 else cmpI (4*(P*Q)) (((X - C)*(X - C) - (P+Q))*((X - C)*(X - C) - (P+Q)))
theorem cmpI_gt {a b:Int}:0<cmpI a b↔b<a:=by unfold cmpI;split <;> (try split) <;> omega
theorem cmpI_lt {a b:Int}:cmpI a b<0↔a<b:=by unfold cmpI;split <;> (try split) <;> omega
theorem cmpI_eq {a b:Int}:cmpI a b=0↔a=b:=by unfold cmpI;split <;> (try split) <;> omega
theorem agI_cases (C P Q X:Int):(X - C<0∧agI C P Q X=1)∨(0≤X - C∧(X - C)*(X - C) - (P+Q)<0∧agI C P Q X=1)∨(0≤X - C∧0≤(X - C)*(X - C) - (P+Q)∧agI C P Q X=cmpI (4*(P*Q)) (((X - C)*(X - C) - (P+Q))*((X - C)*(X - C) - (P+Q)))):=by
 unfold agI
 by_cases h1:X - C<0
 ·exact .inl ⟨h1,if_pos h1⟩
 ·right
  rw[if_neg h1]
  by_cases h2:(X - C)*(X - C) - (P+Q)<0
  ·exact .inl ⟨by omega,h2,if_pos h2⟩
  ·exact .inr ⟨by omega,by omega,if_neg h2⟩
theorem sq_le {a b:Int} (h0:0≤a) (h:a≤b):a*a≤b*b:=Int.mul_le_mul h h h0 (by omega)
theorem sq_lt {a b:Int} (h0:0≤a) (h:a<b):a*a<b*b:=by
 have h1:a*a≤a*b:=Int.mul_le_mul_of_nonneg_left (by omega) h0
 have h2:a*b<b*b:=Int.mul_lt_mul_of_pos_right h (by omega)
 omega
theorem agI_mono {C P Q X Y:Int} (h:X≤Y) (hp:0<agI C P Q Y):0<agI C P Q X:=by
 rcases agI_cases C P Q X with ⟨-,e⟩|⟨-,-,e⟩|⟨a1,a2,e⟩
 ·omega
 ·omega
 ·rw[e,cmpI_gt]
  have hs:=sq_le a1 (show X - C≤Y - C by omega)
  rcases agI_cases C P Q Y with ⟨b1,-⟩|⟨b1,b2,-⟩|⟨b1,b2,e'⟩
  ·omega
  ·omega
  ·rw[e',cmpI_gt] at hp
   have:=sq_le a2 (show(X - C)*(X - C) - (P+Q)≤(Y - C)*(Y - C) - (P+Q) by omega)
   omega
theorem agI_high {C P Q X a b:Int} (ha:0<a) (hb:0<b) (hP0:0≤P) (hQ0:0≤Q) (hP:P<a*a) (hQ:Q<b*b) (h:C+(a+b)≤X):agI C P Q X<0:=by
 have hd:=sq_le (show(0:Int)≤a+b by omega) (show a+b≤X - C by omega)
 have e1:(a+b)*(a+b)=a*a+2*(a*b)+b*b:=by rw[Int.add_mul,Int.mul_add,Int.mul_add,Int.mul_comm b a];omega
 have hab:0<a*b:=Int.mul_pos ha hb
 rcases agI_cases C P Q X with ⟨b1,-⟩|⟨b1,b2,-⟩|⟨b1,b2,e'⟩
 ·omega
 ·omega
 ·rw[e',cmpI_lt]
  have h1:=sq_lt (show(0:Int)≤2*(a*b) by omega) (show 2*(a*b)<(X - C)*(X - C) - (P+Q) by omega)
  have h2:P*Q≤(a*a)*(b*b):=Int.mul_le_mul (by omega) (by omega) hQ0 (Int.le_of_lt (Int.mul_pos ha ha))
  have e2:2*(a*b)*(2*(a*b))=4*((a*a)*(b*b)):=by grind
  omega
theorem agI_low {C P Q X a b:Int} (ha:0≤a) (hb:0≤b) (hP:a*a≤P) (hQ:b*b≤Q) (h:X<C+(a+b)):0<agI C P Q X:=by
 have e1:(a+b)*(a+b)=a*a+2*(a*b)+b*b:=by rw[Int.add_mul,Int.mul_add,Int.mul_add,Int.mul_comm b a];omega
 have hab:0≤a*b:=Int.mul_nonneg ha hb
 rcases agI_cases C P Q X with ⟨b1,e⟩|⟨b1,b2,e⟩|⟨b1,b2,e'⟩
 ·omega
 ·omega
 ·have hd:=sq_lt b1 (show X - C<a+b by omega)
  rw[e',cmpI_gt]
  have h1:=sq_lt b2 (show(X - C)*(X - C) - (P+Q)<2*(a*b) by omega)
  have h2:(a*a)*(b*b)≤P*Q:=Int.mul_le_mul hP hQ (Int.mul_nonneg hb hb) (by have:=Int.mul_nonneg ha ha;omega)
  have e2:2*(a*b)*(2*(a*b))=4*((a*a)*(b*b)):=by grind
  omega
theorem agI_at {C P Q X a b:Int} (ha:0≤a) (hb:0≤b) (hP:a*a≤P) (hQ:b*b≤Q) (h:X≤C+(a+b)):0≤agI C P Q X:=by
 have e1:(a+b)*(a+b)=a*a+2*(a*b)+b*b:=by rw[Int.add_mul,Int.mul_add,Int.mul_add,Int.mul_comm b a];omega
 have hab:0≤a*b:=Int.mul_nonneg ha hb
 rcases agI_cases C P Q X with ⟨b1,e⟩|⟨b1,b2,e⟩|⟨b1,b2,e'⟩
 ·omega
 ·omega
 ·have hd:=sq_le b1 (show X - C≤a+b by omega)
  rw[e']
  have h1:=sq_le b2 (show(X - C)*(X - C) - (P+Q)≤2*(a*b) by omega)
  have h2:(a*a)*(b*b)≤P*Q:=Int.mul_le_mul hP hQ (Int.mul_nonneg hb hb) (by have:=Int.mul_nonneg ha ha;omega)
  have e2:2*(a*b)*(2*(a*b))=4*((a*a)*(b*b)):=by grind
  apply Decidable.byContradiction
  intro hc
  have:=cmpI_lt.1 (show cmpI (4*(P*Q)) (((X - C)*(X - C) - (P+Q))*((X - C)*(X - C) - (P+Q)))<0 by omega)
  omega
theorem agI_root {C P Q X a b:Int} (ha:0≤a) (hb:0≤b) (hP:a*a=P) (hQ:b*b=Q):(C+(a+b)=X→agI C P Q X=0)∧(C+(a+b)<X→agI C P Q X<0):=by
 have e1:(a+b)*(a+b)=a*a+2*(a*b)+b*b:=by rw[Int.add_mul,Int.mul_add,Int.mul_add,Int.mul_comm b a];omega
 have hab:0≤a*b:=Int.mul_nonneg ha hb
 have e2:2*(a*b)*(2*(a*b))=4*((a*a)*(b*b)):=by grind
 have e3:(a*a)*(b*b)=P*Q:=by rw[hP,hQ]
 constructor
 ·intro h
  have hd:X - C=a+b:=by omega
  rcases agI_cases C P Q X with ⟨b1,e⟩|⟨b1,b2,e⟩|⟨b1,b2,e'⟩
  ·omega
  ·rw[hd] at b2;omega
  ·rw[e',cmpI_eq,hd,show(a+b)*(a+b) - (P+Q)=2*(a*b) by omega];omega
 ·intro h
  have hd:=sq_lt (show(0:Int)≤a+b by omega) (show a+b<X - C by omega)
  rcases agI_cases C P Q X with ⟨b1,e⟩|⟨b1,b2,e⟩|⟨b1,b2,e'⟩
  ·omega
  ·omega
  ·rw[e',cmpI_lt]
   have h1:=sq_lt (show(0:Int)≤2*(a*b) by omega) (show 2*(a*b)<(X - C)*(X - C) - (P+Q) by omega)
   omega
structure Bg (t:Bool×Nat×Int) (lo hi:Int):Prop where
 cn:cn t.1 t.2.1 t.2.2=t
 fits:Fits lo hi t.2.1 t.2.2
theorem cn_idemV (s:Bool) (z:Nat) (e:Int):Go.Proofs.YtgdhdailchonmabGreatDoor.cn (cn s z e).1 (cn s z e).2.1 (cn s z e).2.2=Go.Proofs.YtgdhdailchonmabGreatDoor.cn s z e:=by
 by_cases h0:z=0
 ·subst h0;rfl
 ·have h1:Go.Proofs.YtgdhdailchonmabGreatDoor.cn s z e=(s,z / 2^tz z,e+tz z):=by unfold Go.Proofs.YtgdhdailchonmabGreatDoor.cn;rw[if_neg h0]
  obtain⟨p1,p2⟩:=tz_spec _ z (Nat.le_refl _) h0
  rw[h1]
  show Go.Proofs.YtgdhdailchonmabGreatDoor.cn s (z / 2^tz z) (e+tz z)=_
  generalize z / 2^tz z=y at *
  unfold Go.Proofs.YtgdhdailchonmabGreatDoor.cn
  rw[if_neg (by omega),tz_odd p2]
  simp
theorem Bg.bounds {t:Bool×Nat×Int} {lo hi:Int} (h:Bg t lo hi) (h1:lo≤0) (h2:0≤hi):lo≤t.2.2∧t.2.2≤hi:=by
 rcases h.fits with h0|⟨a,b,-⟩
 ·have e:=h.cn
  unfold Go.Proofs.YtgdhdailchonmabGreatDoor.cn at e
  rw[if_pos h0] at e
  rw[←e]
  exact⟨h1,h2⟩
 ·exact⟨a,b⟩
theorem Fits.dlenG {lo hi:Int} {x:Nat} {e:Int} (h:Fits lo hi x e) {n:Nat} (hb:hi - lo≤32*n):Go.Proofs.YtgdhdailchonmabGreatDoor.dlen x≤n:=by
 rcases h with rfl|⟨h1,h2,h3⟩
 ·rw[dlen_zero];omega
 ·refine(dlen_le _ _).2 (Nat.lt_of_lt_of_le h3 ?_)
  have hB:∀ n,B^n=2^(32*n):=fun n=>by
   have:(B:Nat)=2^32:=by decide
   rw[this,←Nat.pow_mul]
  have hn:(hi - e).toNat≤32*n:=by omega
  rw[hB]
  exact Nat.pow_le_pow_right (by omega) hn
theorem Bg.mono {t:Bool×Nat×Int} {lo hi lo' hi':Int} (h:Bg t lo hi) (h1:lo'≤lo) (h2:hi≤hi'):Bg t lo' hi':=⟨h.cn,h.fits.mono h1 h2⟩
theorem Ok.fits {t:Bool×Nat×Int} (h:Ok t):Fits (-65536) 131072 t.2.1 t.2.2:=by
 obtain⟨f1,f2,f3,-,-⟩:=h.facts
 refine .inr ⟨by omega,by omega,Nat.lt_of_lt_of_le ((dlen_le _ _).1 f1) ?_⟩
 have hB:∀ n,B^n=2^(32*n):=fun n=>by
  have:(B:Nat)=2^32:=by decide
  rw[this,←Nat.pow_mul]
 have hn:32*2048≤(131072 - t.2.2).toNat:=by omega
 generalize 2048=n at *
 rw[hB]
 exact Nat.pow_le_pow_right (by omega) hn
theorem Ok.bg {t:Bool×Nat×Int} (h:Ok t):Bg t (-65536) 131072:=⟨cn_ok h,h.fits⟩
theorem Bg.add {t u:Bool×Nat×Int} {lo hi:Int} (h1:Bg t lo hi) (h2:Bg u lo hi):Bg (tS t u) lo (hi+1):=⟨cn_idemV _ _ _,tS_fits h1.fits h2.fits⟩
theorem Bg.sub {t u:Bool×Nat×Int} {lo hi:Int} (h1:Bg t lo hi) (h2:Bg u lo hi):Bg (tD t u) lo (hi+1):=⟨cn_idemV _ _ _,tD_fits h1.fits h2.fits⟩
theorem Bg.mul {t u:Bool×Nat×Int} {lo hi lo' hi':Int} (h1:Bg t lo hi) (h2:Bg u lo' hi'):Bg (tM t u) (lo+lo') (hi+hi'):=⟨cn_idemV _ _ _,Fits.cn (Fits.mul h1.fits h2.fits)⟩
theorem Bg.vadd {K:Nat} {t u:Bool×Nat×Int} {lo hi:Int} (h1:Bg t lo hi) (h2:Bg u lo hi) (hl:lo≤0) (hh:0≤hi) (hK:0≤lo+K):vz K (tS t u).1 (tS t u).2.1 (tS t u).2.2=vz K t.1 t.2.1 t.2.2+vz K u.1 u.2.1 u.2.2 :=
 vz_tS h1.fits h2.fits (by have:=h1.bounds hl hh;omega) (by have:=h2.bounds hl hh;omega) hK
theorem Bg.vsub {K:Nat} {t u:Bool×Nat×Int} {lo hi:Int} (h1:Bg t lo hi) (h2:Bg u lo hi) (hl:lo≤0) (hh:0≤hi) (hK:0≤lo+K):vz K (tD t u).1 (tD t u).2.1 (tD t u).2.2=vz K t.1 t.2.1 t.2.2 - vz K u.1 u.2.1 u.2.2 :=
 vz_tD h1.fits h2.fits (by have:=h1.bounds hl hh;omega) (by have:=h2.bounds hl hh;omega) hK
theorem Bg.vmul {K L:Nat} {t u:Bool×Nat×Int} {lo hi lo' hi':Int} (h1:Bg t lo hi) (h2:Bg u lo' hi') (hl:lo≤0) (hh:0≤hi) (hK:0≤lo+K) (hl':lo'≤0) (hh':0≤hi') (hL:0≤lo'+L):vz (K+L) (tM t u).1 (tM t u).2.1 (tM t u).2.2=vz K t.1 t.2.1 t.2.2*vz L u.1 u.2.1 u.2.2:=by
 have b1:=h1.bounds hl hh
 have b2:=h2.bounds hl' hh'
 unfold tM
 rw[vz_cn (by omega),vz_mul (by omega) (by omega)]
theorem Bg.neg {t:Bool×Nat×Int} {lo hi:Int} {K:Nat} (h:Bg t lo hi):t.1=decide (vz K t.1 t.2.1 t.2.2<0):=by
 have hp:0<2^(t.2.2+K).toNat:=Nat.two_pow_pos _
 by_cases h0:t.2.1=0
 ·have e:=h.cn
  unfold Go.Proofs.YtgdhdailchonmabGreatDoor.cn at e
  rw[if_pos h0] at e
  rw[←e,vz_zero]
  rfl
 ·unfold vz sv
  have h1:(0:Int)<(t.2.1:Int)*((2^(t.2.2+K).toNat:Nat):Int):=Int.mul_pos (by omega) (by omega)
  cases ht:t.1
  ·rw[if_neg (by decide),decide_eq_false (by omega)]
  ·rw[if_pos rfl,Int.neg_mul,decide_eq_true (by omega)]
theorem Bg.order {K:Nat} {t u:Bool×Nat×Int} {lo hi:Int} (h1:Bg t lo hi) (h2:Bg u lo hi) (hl:lo≤0) (hh:0≤hi) (hK:0≤lo+K):ordN t.1 t.2.1 t.2.2 u.1 u.2.1 u.2.2=cmpI (vz K t.1 t.2.1 t.2.2) (vz K u.1 u.2.1 u.2.2) :=
 ordN_vz (by have:=h1.bounds hl hh;omega) (by have:=h2.bounds hl hh;omega)
def agT (c p q x:Bool×Nat×Int):Int:=agI (vz 70000 c.1 c.2.1 c.2.2) (vz (70000+70000) p.1 p.2.1 p.2.2) (vz (70000+70000) q.1 q.2.1 q.2.2) (vz 70000 x.1 x.2.1 x.2.2)
def gT (c p q x:Bool×Nat×Int):Bool×Nat×Int:=tD (tM (tD x c) (tD x c)) (tS p q)
theorem d_bg {c x:Bool×Nat×Int} (hc:Ok c) (hx:Bg x (-65536) 131072):Bg (tD x c) (-65536) 131073:=hx.sub hc.bg
theorem dd_bg {c x:Bool×Nat×Int} (hc:Ok c) (hx:Bg x (-65536) 131072):Bg (tM (tD x c) (tD x c)) (-131072) 262146:=(d_bg hc hx).mul (d_bg hc hx)
theorem pq_bg {p q:Bool×Nat×Int} (hp:Ok p) (hq:Ok q):Bg (tS p q) (-65536) 131073:=hp.bg.add hq.bg
theorem g_bg {c p q x:Bool×Nat×Int} (hc:Ok c) (hp:Ok p) (hq:Ok q) (hx:Bg x (-65536) 131072):Bg (gT c p q x) (-131072) 262147:=(dd_bg hc hx).sub ((pq_bg hp hq).mono (by omega) (by omega))
theorem gg_bg {c p q x:Bool×Nat×Int} (hc:Ok c) (hp:Ok p) (hq:Ok q) (hx:Bg x (-65536) 131072):Bg (tM (gT c p q x) (gT c p q x)) (-262144) 524294:=(g_bg hc hp hq hx).mul (g_bg hc hp hq hx)
theorem p4_bg {p q:Bool×Nat×Int} (hp:Ok p) (hq:Ok q):Bg (tM p q) (-131072) 262144:=hp.bg.mul hq.bg
theorem d_val {c x:Bool×Nat×Int} (hc:Ok c) (hx:Bg x (-65536) 131072):vz 70000 (tD x c).1 (tD x c).2.1 (tD x c).2.2=vz 70000 x.1 x.2.1 x.2.2 - vz 70000 c.1 c.2.1 c.2.2:=hx.vsub hc.bg (by omega) (by omega) (by omega)
theorem g_val {c p q x:Bool×Nat×Int} (hc:Ok c) (hp:Ok p) (hq:Ok q) (hx:Bg x (-65536) 131072):vz (70000+70000) (gT c p q x).1 (gT c p q x).2.1 (gT c p q x).2.2=(vz 70000 x.1 x.2.1 x.2.2 - vz 70000 c.1 c.2.1 c.2.2)*(vz 70000 x.1 x.2.1 x.2.2 - vz 70000 c.1 c.2.1 c.2.2) - (vz (70000+70000) p.1 p.2.1 p.2.2+vz (70000+70000) q.1 q.2.1 q.2.2):=by
 unfold gT
 rw[(dd_bg hc hx).vsub ((pq_bg hp hq).mono (by omega) (by omega)) (by omega) (by omega) (by omega),(d_bg hc hx).vmul (K:=70000) (L:=70000) (d_bg hc hx) (by omega) (by omega) (by omega) (by omega) (by omega) (by omega),d_val hc hx,hp.bg.vadd hq.bg (by omega) (by omega) (by omega)]
theorem agT_eq {c p q x u:Bool×Nat×Int} (hc:Ok c) (hp:Ok p) (hq:Ok q) (hx:Bg x (-65536) 131072) (hu:Bg u (-262144) 524294) (hv:vz (70000+70000+(70000+70000)) u.1 u.2.1 u.2.2=4*(vz (70000+70000) p.1 p.2.1 p.2.2*vz (70000+70000) q.1 q.2.1 q.2.2)) :
  agT c p q x=if(tD x c).1 then 1 else if(gT c p q x).1 then 1 else ordN u.1 u.2.1 u.2.2 (tM (gT c p q x) (gT c p q x)).1 (tM (gT c p q x) (gT c p q x)).2.1 (tM (gT c p q x) (gT c p q x)).2.2:=by
 unfold agT agI
 rw[hu.order (K:=70000+70000+(70000+70000)) (gg_bg hc hp hq hx) (by omega) (by omega) (by omega),hv,(g_bg hc hp hq hx).vmul (K:=70000+70000) (L:=70000+70000) (g_bg hc hp hq hx) (by omega) (by omega) (by omega) (by omega) (by omega) (by omega),g_val hc hp hq hx,
  (d_bg hc hx).neg (K:=70000),d_val hc hx,(g_bg hc hp hq hx).neg (K:=70000+70000),g_val hc hp hq hx]
 simp only[decide_eq_true_eq]
def Lg (t:Bool×Nat×Int):Prop:=cn t.1 t.2.1 t.2.2=t∧dlen t.2.1≤60000 ∧ -1000000≤t.2.2∧t.2.2≤1000000
theorem Bg.lg {t:Bool×Nat×Int} {lo hi:Int} (h:Bg t lo hi) (h1 : -900000≤lo) (h2:hi≤900000) (h3:lo≤0) (h4:0≤hi):Lg t:=by
 have b:=h.bounds h3 h4
 exact⟨h.cn,h.fits.dlenG (by omega),by omega,by omega⟩
theorem cn_turn {t:Bool×Nat×Int} (h:cn t.1 t.2.1 t.2.2=t) (h0:t.2.1≠0) (s:Bool):cn s t.2.1 t.2.2=(s,t.2.1,t.2.2):=by
 unfold cn at h ⊢
 rw[if_neg h0] at h ⊢
 rw[Prod.ext_iff] at h
 exact Prod.ext rfl h.2
theorem vz_num5 {a:Nat} (ha:a<18446744073709551616) (hf:mag a<9218868437227405312):vz 70000 (tF a).1 (tF a).2.1 (tF a).2.2=sv (neg a) (bv (mag a))*(UU 70000:Nat):=by
 obtain⟨m,hm,-⟩:=sM_lt a ha
 have e:nM a=m:=by unfold nM;rw[hm];rfl
 have hE : -1074≤Ie.sE a:=by
  by_cases h0:mag a=0
  ·rw[(num_zero h0).2];omega
  ·exact(num_parts hf h0).2.2.1
 rw[←sv_scale,←cn_parts a m ha hf hm,vz_cn (by omega),←vz_num (K:=70000) (by omega) hf,e]
 unfold nN
 by_cases h0:mag a=0
 ·have:nM a=0:=(num_zero h0).1
  rw[←e,this]
  unfold vz
  rw[sv_zero,sv_zero]
 ·rw[if_neg h0]
end Go.Proofs.YtgdhdailchonmabGreatDoor
