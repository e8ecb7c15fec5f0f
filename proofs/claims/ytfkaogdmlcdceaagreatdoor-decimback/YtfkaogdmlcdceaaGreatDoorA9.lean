/- Own work: contracts of the program's functions, part 9: DC1 SB1 SB2 SB3 SC1 RY6 SC2 DE2 PV3 RY7 SD1 SD2 UA8 UA9 UB1 UB2 UB3 SB4 SB5 SH5 SB6 SH6 SH7 SH8 SH9 SI1 SI2 SI3 SI4 UB4 HX W46 W47 W48 RE2 RE5 RE6 RD2 L12 L15 SE1 SE2 SB7 SE3 SF1 SF2 SF3 SF4. -/
import Derived.Test.YtfkaogdmlcdceaaGreatDoorA7
import Derived.Test.YtfkaogdmlcdceaaGreatDoorA8
import Derived.Test.YtfkaogdmlcdceaaGreatDoorA5
import Derived.Test.YtfkaogdmlcdceaaGreatDoorA3
import Derived.Test.YtfkaogdmlcdceaaGreatDoorA6
import Derived.Lib.ItoaNum

set_option maxHeartbeats 16000000
set_option maxRecDepth 200000
set_option linter.unusedVariables false
set_option linter.unusedSimpArgs false
namespace Go.Proofs.YtfkaogdmlcdceaaGreatDoor
open Go.RowKit Go.Fl64
theorem Dexact_1 (a:Nat) (t:Bool×Nat×Int) (w:World)
  (k:∀ W,Bw w W→Calls Tryz.prog 87 #[.float .f64 a] W fun r w'=>∃ s ao n cap e,r=.returned (.tuple #[.agg #[.bool s,.slice ao n cap,.int .i64 e],.int .i64 0])∧PN w' (.agg #[.bool s,.slice ao n cap,.int .i64 e]) t∧Bw W w') :
  Calls Tryz.prog 32 #[.float .f64 a] w fun r w'=>OutA w t r w':=by
 obtain⟨W,hW⟩:∃ W,W=w.alloc (.cells #[.bool false,.slice none 0 0,.int .i64 0] 50):=⟨_,rfl⟩
 have HX:Hid (Bw w W∧W.heap[w.heap.size]?=some (.cells #[.bool false,.slice none 0 0,.int .i64 0] 50 (0,0))):=⟨by rw[hW];exact(Below.refl _ _).alloc (Nat.le_refl _) _,by rw[hW];exact heap_alloc_new _ _⟩
 have k1:=k W HX.out.1
 clear k
 go_enter Tryz.func32,Tryz.ntmps32
 go_wp2_with fail
 rw[←hW]
 clear hW
 refine k1.mono ?_
 rintro r w1 ⟨s1,ao1,n1,cap1,ex1,rfl,hA,hb1⟩
 obtain⟨W1,hW1⟩:∃ W1,W1=w1.alloc (.cells #[.bool s1,.slice ao1 n1 cap1,.int .i64 ex1] 50):=⟨_,rfl⟩
 have hb2:Bw W W1:=by rw[hW1];exact hb1.alloc hb1.size _
 have HY:Hid (PN W1 (.agg #[.bool s1,.slice ao1 n1 cap1,.int .i64 ex1]) t∧Bw w W1∧W1.heap[w1.heap.size]?=some (.cells #[.bool s1,.slice ao1 n1 cap1,.int .i64 ex1] 50 (0,0))∧W1.heap[w.heap.size]?=some (.cells #[.bool false,.slice none 0 0,.int .i64 0] 50 (0,0))) :=
  ⟨by rw[hW1];exact hA.later ((Below.refl _ _).alloc (Nat.le_refl _) _),HX.out.1.trans (hb2.mono HX.out.1.size),by rw[hW1];exact heap_alloc_new _ _,box_later HX.out.2 hb2 (lt_of_box HX.out.2)⟩
 clear k1 hA hb1 hb2
 go_upto_region 2 with fail
 rw[←hW1]
 clear hW1
 generalize w1.heap.size=g1 at *
 obtain⟨⟨a0,a1,a2⟩,-⟩:=box_cells HY.out.2.2.1
 obtain⟨⟨x1,x2,x3⟩,x4,x5,x6⟩:=box_cells HY.out.2.2.2
 go_wp2
 refine bodyPost_ret (results_cell_row rfl _ _ w.heap.size 50 #[.bool s1,.slice ao1 n1 cap1,.int .i64 ex1] (0,0) _ rfl (store3 _ _ _ HY.out.2.2.2) Tryz.underlying50 rfl Tryz.info50) rfl ?_
 exact⟨_,_,_,_,_,rfl,pn_store HY.out.1 HY.out.2.2.2 _ _ _,below_store3 HY.out.2.1 (Nat.le_refl _) _ _ _⟩
-- GEN: one call of two numbers each, the error let go
theorem Dadded_1 (na nb:Bool) (ua va:Option Addr) (un uc vn vc:Nat) (ea eb:Int) (t:Bool×Nat×Int) (w:World)
  (k:∀ W,Bw w W→Calls Tryz.prog 167 #[.agg #[.bool na,.slice ua un uc,.int .i64 ea],.agg #[.bool nb,.slice va vn vc,.int .i64 eb]] W fun r w'=>∃ s ao n cap e,r=.returned (.tuple #[.agg #[.bool s,.slice ao n cap,.int .i64 e],.int .i64 0])∧PN w' (.agg #[.bool s,.slice ao n cap,.int .i64 e]) t∧Bw W w') :
  Calls Tryz.prog 98 #[.agg #[.bool na,.slice ua un uc,.int .i64 ea],.agg #[.bool nb,.slice va vn vc,.int .i64 eb]] w fun r w'=>OutA w t r w':=by
 obtain⟨W,hW⟩:∃ W,W=((w.alloc (.cells #[.bool na,.slice ua un uc,.int .i64 ea] 50)).alloc (.cells #[.bool nb,.slice va vn vc,.int .i64 eb] 50)).alloc (.cells #[.bool false,.slice none 0 0,.int .i64 0] 50):=⟨_,rfl⟩
 obtain⟨hA,hB,hC,hsz,hBW⟩:=boxes3 _ _ _ hW
 obtain⟨⟨a0,a1,a2⟩,-⟩:=box_cells hA
 obtain⟨⟨b0,b1,b2⟩,-⟩:=box_cells hB
 have HX:Hid (Bw w W∧W.heap[w.heap.size+1+1]?=some (.cells #[.bool false,.slice none 0 0,.int .i64 0] 50 (0,0))):=⟨hBW,hC⟩
 have k1:=k W HX.out.1
 clear k hA hB hC hBW hsz
 rw[hW] at a0 a1 a2 b0 b1 b2
 go_enter Tryz.func98,Tryz.ntmps98
 go_wp2_with fail
 rw[←hW]
 clear hW a0 a1 a2 b0 b1 b2
 refine k1.mono ?_
 rintro r w1 ⟨s1,ao1,n1,cap1,ex1,rfl,hA,hb1⟩
 obtain⟨W1,hW1⟩:∃ W1,W1=w1.alloc (.cells #[.bool s1,.slice ao1 n1 cap1,.int .i64 ex1] 50):=⟨_,rfl⟩
 have hb2:Bw W W1:=by rw[hW1];exact hb1.alloc hb1.size _
 have HY:Hid (PN W1 (.agg #[.bool s1,.slice ao1 n1 cap1,.int .i64 ex1]) t∧Bw w W1∧W1.heap[w1.heap.size]?=some (.cells #[.bool s1,.slice ao1 n1 cap1,.int .i64 ex1] 50 (0,0))∧W1.heap[w.heap.size+1+1]?=some (.cells #[.bool false,.slice none 0 0,.int .i64 0] 50 (0,0))) :=
  ⟨by rw[hW1];exact hA.later ((Below.refl _ _).alloc (Nat.le_refl _) _),HX.out.1.trans (hb2.mono HX.out.1.size),by rw[hW1];exact heap_alloc_new _ _,box_later HX.out.2 hb2 (lt_of_box HX.out.2)⟩
 clear k1 hA hb1 hb2
 go_upto_region 2 with fail
 rw[←hW1]
 clear hW1
 generalize w1.heap.size=g1 at *
 obtain⟨⟨c0,c1,c2⟩,-⟩:=box_cells HY.out.2.2.1
 obtain⟨⟨x1,x2,x3⟩,x4,x5,x6⟩:=box_cells HY.out.2.2.2
 go_wp2
 refine bodyPost_ret (results_cell_row rfl _ _ (w.heap.size+1+1) 50 #[.bool s1,.slice ao1 n1 cap1,.int .i64 ex1] (0,0) _ rfl (store3 _ _ _ HY.out.2.2.2) Tryz.underlying50 rfl Tryz.info50) rfl ?_
 exact⟨_,_,_,_,_,rfl,pn_store HY.out.1 HY.out.2.2.2 _ _ _,below_store3 HY.out.2.1 (by omega) _ _ _⟩
theorem Dtaken_1 (na nb:Bool) (ua va:Option Addr) (un uc vn vc:Nat) (ea eb:Int) (t:Bool×Nat×Int) (w:World)
  (k:∀ W,Bw w W→Calls Tryz.prog 161 #[.agg #[.bool na,.slice ua un uc,.int .i64 ea],.agg #[.bool nb,.slice va vn vc,.int .i64 eb]] W fun r w'=>∃ s ao n cap e,r=.returned (.tuple #[.agg #[.bool s,.slice ao n cap,.int .i64 e],.int .i64 0])∧PN w' (.agg #[.bool s,.slice ao n cap,.int .i64 e]) t∧Bw W w') :
  Calls Tryz.prog 93 #[.agg #[.bool na,.slice ua un uc,.int .i64 ea],.agg #[.bool nb,.slice va vn vc,.int .i64 eb]] w fun r w'=>OutA w t r w':=by
 obtain⟨W,hW⟩:∃ W,W=((w.alloc (.cells #[.bool na,.slice ua un uc,.int .i64 ea] 50)).alloc (.cells #[.bool nb,.slice va vn vc,.int .i64 eb] 50)).alloc (.cells #[.bool false,.slice none 0 0,.int .i64 0] 50):=⟨_,rfl⟩
 obtain⟨hA,hB,hC,hsz,hBW⟩:=boxes3 _ _ _ hW
 obtain⟨⟨a0,a1,a2⟩,-⟩:=box_cells hA
 obtain⟨⟨b0,b1,b2⟩,-⟩:=box_cells hB
 have HX:Hid (Bw w W∧W.heap[w.heap.size+1+1]?=some (.cells #[.bool false,.slice none 0 0,.int .i64 0] 50 (0,0))):=⟨hBW,hC⟩
 have k1:=k W HX.out.1
 clear k hA hB hC hBW hsz
 rw[hW] at a0 a1 a2 b0 b1 b2
 go_enter Tryz.func93,Tryz.ntmps93
 go_wp2_with fail
 rw[←hW]
 clear hW a0 a1 a2 b0 b1 b2
 refine k1.mono ?_
 rintro r w1 ⟨s1,ao1,n1,cap1,ex1,rfl,hA,hb1⟩
 obtain⟨W1,hW1⟩:∃ W1,W1=w1.alloc (.cells #[.bool s1,.slice ao1 n1 cap1,.int .i64 ex1] 50):=⟨_,rfl⟩
 have hb2:Bw W W1:=by rw[hW1];exact hb1.alloc hb1.size _
 have HY:Hid (PN W1 (.agg #[.bool s1,.slice ao1 n1 cap1,.int .i64 ex1]) t∧Bw w W1∧W1.heap[w1.heap.size]?=some (.cells #[.bool s1,.slice ao1 n1 cap1,.int .i64 ex1] 50 (0,0))∧W1.heap[w.heap.size+1+1]?=some (.cells #[.bool false,.slice none 0 0,.int .i64 0] 50 (0,0))) :=
  ⟨by rw[hW1];exact hA.later ((Below.refl _ _).alloc (Nat.le_refl _) _),HX.out.1.trans (hb2.mono HX.out.1.size),by rw[hW1];exact heap_alloc_new _ _,box_later HX.out.2 hb2 (lt_of_box HX.out.2)⟩
 clear k1 hA hb1 hb2
 go_upto_region 2 with fail
 rw[←hW1]
 clear hW1
 generalize w1.heap.size=g1 at *
 obtain⟨⟨c0,c1,c2⟩,-⟩:=box_cells HY.out.2.2.1
 obtain⟨⟨x1,x2,x3⟩,x4,x5,x6⟩:=box_cells HY.out.2.2.2
 go_wp2
 refine bodyPost_ret (results_cell_row rfl _ _ (w.heap.size+1+1) 50 #[.bool s1,.slice ao1 n1 cap1,.int .i64 ex1] (0,0) _ rfl (store3 _ _ _ HY.out.2.2.2) Tryz.underlying50 rfl Tryz.info50) rfl ?_
 exact⟨_,_,_,_,_,rfl,pn_store HY.out.1 HY.out.2.2.2 _ _ _,below_store3 HY.out.2.1 (by omega) _ _ _⟩
theorem Dmultiplied_1 (na nb:Bool) (ua va:Option Addr) (un uc vn vc:Nat) (ea eb:Int) (t:Bool×Nat×Int) (w:World)
  (k:∀ W,Bw w W→Calls Tryz.prog 162 #[.agg #[.bool na,.slice ua un uc,.int .i64 ea],.agg #[.bool nb,.slice va vn vc,.int .i64 eb]] W fun r w'=>∃ s ao n cap e,r=.returned (.tuple #[.agg #[.bool s,.slice ao n cap,.int .i64 e],.int .i64 0])∧PN w' (.agg #[.bool s,.slice ao n cap,.int .i64 e]) t∧Bw W w') :
  Calls Tryz.prog 94 #[.agg #[.bool na,.slice ua un uc,.int .i64 ea],.agg #[.bool nb,.slice va vn vc,.int .i64 eb]] w fun r w'=>OutA w t r w':=by
 obtain⟨W,hW⟩:∃ W,W=((w.alloc (.cells #[.bool na,.slice ua un uc,.int .i64 ea] 50)).alloc (.cells #[.bool nb,.slice va vn vc,.int .i64 eb] 50)).alloc (.cells #[.bool false,.slice none 0 0,.int .i64 0] 50):=⟨_,rfl⟩
 obtain⟨hA,hB,hC,hsz,hBW⟩:=boxes3 _ _ _ hW
 obtain⟨⟨a0,a1,a2⟩,-⟩:=box_cells hA
 obtain⟨⟨b0,b1,b2⟩,-⟩:=box_cells hB
 have HX:Hid (Bw w W∧W.heap[w.heap.size+1+1]?=some (.cells #[.bool false,.slice none 0 0,.int .i64 0] 50 (0,0))):=⟨hBW,hC⟩
 have k1:=k W HX.out.1
 clear k hA hB hC hBW hsz
 rw[hW] at a0 a1 a2 b0 b1 b2
 go_enter Tryz.func94,Tryz.ntmps94
 go_wp2_with fail
 rw[←hW]
 clear hW a0 a1 a2 b0 b1 b2
 refine k1.mono ?_
 rintro r w1 ⟨s1,ao1,n1,cap1,ex1,rfl,hA,hb1⟩
 obtain⟨W1,hW1⟩:∃ W1,W1=w1.alloc (.cells #[.bool s1,.slice ao1 n1 cap1,.int .i64 ex1] 50):=⟨_,rfl⟩
 have hb2:Bw W W1:=by rw[hW1];exact hb1.alloc hb1.size _
 have HY:Hid (PN W1 (.agg #[.bool s1,.slice ao1 n1 cap1,.int .i64 ex1]) t∧Bw w W1∧W1.heap[w1.heap.size]?=some (.cells #[.bool s1,.slice ao1 n1 cap1,.int .i64 ex1] 50 (0,0))∧W1.heap[w.heap.size+1+1]?=some (.cells #[.bool false,.slice none 0 0,.int .i64 0] 50 (0,0))) :=
  ⟨by rw[hW1];exact hA.later ((Below.refl _ _).alloc (Nat.le_refl _) _),HX.out.1.trans (hb2.mono HX.out.1.size),by rw[hW1];exact heap_alloc_new _ _,box_later HX.out.2 hb2 (lt_of_box HX.out.2)⟩
 clear k1 hA hb1 hb2
 go_upto_region 2 with fail
 rw[←hW1]
 clear hW1
 generalize w1.heap.size=g1 at *
 obtain⟨⟨c0,c1,c2⟩,-⟩:=box_cells HY.out.2.2.1
 obtain⟨⟨x1,x2,x3⟩,x4,x5,x6⟩:=box_cells HY.out.2.2.2
 go_wp2
 refine bodyPost_ret (results_cell_row rfl _ _ (w.heap.size+1+1) 50 #[.bool s1,.slice ao1 n1 cap1,.int .i64 ex1] (0,0) _ rfl (store3 _ _ _ HY.out.2.2.2) Tryz.underlying50 rfl Tryz.info50) rfl ?_
 exact⟨_,_,_,_,_,rfl,pn_store HY.out.1 HY.out.2.2.2 _ _ _,below_store3 HY.out.2.1 (by omega) _ _ _⟩
theorem Dadded_op {t1 t2 t3:Bool×Nat×Int} (h:Op2 167 t1 t2 t3) {X Y:Value} {w:World} (hT:Tab32 w) (h1:PN w X t1) (h2:PN w Y t2):Calls Tryz.prog 98 #[X,Y] w fun r w'=>OutA w t3 r w':=by
 obtain⟨s,ao,n,cap,e,rfl⟩:=h1.shape
 obtain⟨s',ao',n',cap',e',rfl⟩:=h2.shape
 exact Dadded_1 s s' ao ao' n cap n' cap' e e' t3 w fun W hW=>h W _ _ (hT.later hW) (h1.later hW) (h2.later hW)
theorem Dtaken_op {t1 t2 t3:Bool×Nat×Int} (h:Op2 161 t1 t2 t3) {X Y:Value} {w:World} (hT:Tab32 w) (h1:PN w X t1) (h2:PN w Y t2):Calls Tryz.prog 93 #[X,Y] w fun r w'=>OutA w t3 r w':=by
 obtain⟨s,ao,n,cap,e,rfl⟩:=h1.shape
 obtain⟨s',ao',n',cap',e',rfl⟩:=h2.shape
 exact Dtaken_1 s s' ao ao' n cap n' cap' e e' t3 w fun W hW=>h W _ _ (hT.later hW) (h1.later hW) (h2.later hW)
theorem Dmultiplied_op {t1 t2 t3:Bool×Nat×Int} (h:Op2 162 t1 t2 t3) {X Y:Value} {w:World} (hT:Tab32 w) (h1:PN w X t1) (h2:PN w Y t2):Calls Tryz.prog 94 #[X,Y] w fun r w'=>OutA w t3 r w':=by
 obtain⟨s,ao,n,cap,e,rfl⟩:=h1.shape
 obtain⟨s',ao',n',cap',e',rfl⟩:=h2.shape
 exact Dmultiplied_1 s s' ao ao' n cap n' cap' e e' t3 w fun W hW=>h W _ _ (hT.later hW) (h1.later hW) (h2.later hW)
def rtK (t1 t2:Bool×Nat×Int):Nat:=(max 0 (64+(bl t2.2.1:Int) - (bl t1.2.1:Int))).toNat
def rtF (t1 t2:Bool×Nat×Int) (m:Int):Nat:=tfF (t1.1 != t2.1) (decide (t1.2.1*2^rtK t1 t2 % t2.2.1=0)) (t1.2.1*2^rtK t1 t2 / t2.2.1) (t1.2.2 - t2.2.2 - rtK t1 t2) m
theorem pratio {t1 t2:Bool×Nat×Int} {X Y:Value} {m:Int} {w:World} (hT:Tab32 w) (o1:Ok t1) (o2:Ok t2) (h1:PN w X t1) (h2:PN w Y t2) (x0:t1.2.1≠0) (y0:t2.2.1≠0) (hm:1≤m∧m≤3) :
  Calls Tryz.prog 125 #[X,Y,.int .i64 m] w fun r w'=>r=.returned (.tuple #[.float .f64 (rtF t1 t2 m),.int .i64 0])∧Bw w w':=by
 obtain⟨pa,pc,rfl,i1⟩:=h1
 obtain⟨qa,qc,rfl,i2⟩:=h2
 have f1:=o1.facts
 have f2:=o2.facts
 have bx:=bl_le_dlen t1.2.1
 have by':=bl_le_dlen t2.2.1
 have hn0:((dlen t1.2.1:Int)==0)=false:=by
  have:dlen t1.2.1≠0:=fun e=>x0 (dlen_eq_zero.1 e)
  simp;omega
 have hn1:((dlen t2.2.1:Int)==0)=false:=by
  have:dlen t2.2.1≠0:=fun e=>y0 (dlen_eq_zero.1 e)
  simp;omega
 have hk:max 0 (64+(bl t2.2.1:Int) - (bl t1.2.1:Int))=(rtK t1 t2:Int):=by unfold rtK;omega
 refine pratio_1 t1.1 t2.1 pa qa _ pc _ qc _ _ (rtK t1 t2) (bl t1.2.1) (bl t2.2.1) t1.2.2 t2.2.2 m (t1.1 != t2.1) w (rfl:(!(t1.1==t2.1))=(t1.1 != t2.1)) hT i1 i2 (by omega) (by omega) y0 (by omega) (by omega) (by omega) (by omega) (by omega) rfl rfl (by omega) (by omega) hk (by omega) hn0 hn1 (fun W' g hW' hg=>?_)
 have:=maybe2 hg (i1.later hW') (i2.later hW') (by omega) (by omega)
 rw[show okN t1.1 (dlen t1.2.1) t1.2.1 t1.2.2=true from o1,show okN t2.1 (dlen t2.2.1) t2.2.1 t2.2.2=true from o2] at this
 exact this
end Go.Proofs.YtfkaogdmlcdceaaGreatDoor
namespace Go.Proofs.YtfkaogdmlcdceaaGreatDoor
open Go.RowKit Go.Fl64
open Ie
end Go.Proofs.YtfkaogdmlcdceaaGreatDoor
namespace Go.Proofs.YtfkaogdmlcdceaaGreatDoor
open Go.RowKit Go.Fl64
theorem un_zero (p:Nat):un 0 p=(false,0,0):=by unfold un cn;rw[if_pos (by decide)]
theorem bl_neD {x:Nat} (h0:x≠0):1≤bl x:=by unfold bl;rw[if_neg h0];omega
theorem bl_shlD {x k:Nat} (h:x≠0):bl (x*2^k)=bl x+k:=by
 have h1:=lt_bl x
 have h2:=le_bl h
 have hb:=bl_neD h
 have a:bl (x*2^k)≤bl x+k:=(bl_le _ _).2 (by rw[Nat.pow_add];exact Nat.mul_lt_mul_of_pos_right h1 (Nat.two_pow_pos k))
 have b:bl x+k - 1<bl (x*2^k):=by
  apply Decidable.byContradiction
  intro hn
  have h3:=lt_bl (x*2^k)
  have h4:x*2^k<2^(bl x+k - 1):=Nat.lt_of_lt_of_le h3 (Nat.pow_le_pow_right (by decide) (by omega))
  rw[show bl x+k - 1=bl x - 1+k by omega,Nat.pow_add] at h4
  have:=Nat.mul_le_mul_right (2^k) h2
  omega
 omega
end Go.Proofs.YtfkaogdmlcdceaaGreatDoor
namespace Go.Proofs.YtfkaogdmlcdceaaGreatDoor
open Go.RowKit
def vrowS (m:Nat) (SL:List Nat) (dep:Nat→List Nat) (i:Nat) (o:Oper):Bool :=
 o.after.all (fun e=>decide (e.on<i))&&o.guard.isNone&&(i==m||o.dst==some (SL.getD i 0))&&((if i==m then List.range m else dep i).all fun j=>decide (j<m)&&vhas o j)
def vchkS (ops:Array Oper) (m:Nat) (SL:List Nat) (dep:Nat→List Nat):Bool :=
 ops.size==m+1&&(List.range (m+1)).all fun i=>match ops[i]? with|some o=>vrowS m SL dep i o|none=>false
theorem vchkS_row {ops:Array Oper} {m:Nat} {SL:List Nat} {dep:Nat→List Nat} (h:vchkS ops m SL dep=true) {i:Nat} {o:Oper} (ho:ops[i]?=some o):i<m+1∧vrowS m SL dep i o=true:=by
 unfold vchkS at h
 rw[Bool.and_eq_true,beq_iff_eq] at h
 have hi:i<m+1:=by have:=(Array.getElem?_eq_some_iff.1 ho).1;omega
 have h1:=List.all_eq_true.1 h.2 i (List.mem_range.2 hi)
 simp only[ho] at h1
 exact⟨hi,h1⟩
theorem vrowS_split {m:Nat} {SL:List Nat} {dep:Nat→List Nat} {i:Nat} {o:Oper} (h:vrowS m SL dep i o=true) :
  (∀ e ∈ o.after,e.on<i)∧o.guard=none∧(i<m→o.dst=some (SL.getD i 0))∧∀ j ∈ (if i==m then List.range m else dep i),j<m∧∃ e ∈ o.after,e.on=j∧Region.binds .any e=true:=by
 unfold vrowS at h
 rw[Bool.and_eq_true,Bool.and_eq_true,Bool.and_eq_true] at h
 obtain⟨⟨⟨h1,h2⟩,h3⟩,h4⟩:=h
 refine⟨fun e he=>of_decide_eq_true (Array.all_eq_true_iff_forall_mem.1 h1 e he),Option.isNone_iff_eq_none.1 h2,fun hi=>?_,fun j hj=>?_⟩
 ·rw[Bool.or_eq_true] at h3
  rcases h3 with h3|h3
  ·rw[beq_iff_eq] at h3;omega
  ·simpa using h3
 ·have:=List.all_eq_true.1 h4 j hj
  rw[Bool.and_eq_true] at this
  exact⟨of_decide_eq_true this.1,vhas_ex this.2⟩
theorem valS_region {P:Program} {ops:Array Oper} {Q:Exit→Act→World→Prop} {id:Nat} (hm:P.follows .mixedOrders=true) (m:Nat) (SL:List Nat) (dep:Nat→List Nat)
  (W0:World) (a0:Act) (V:Nat→World→Value→Prop) (hchk:vchkS ops m SL dep=true)
  (hV1:∀ j w w' u,Bw w w'→V j w u→V j w' u) (hsl:SL.length=m∧SL.Nodup∧∀ s ∈ SL,s<a0.tmps.size)
  (hA:∀ j,j<m→∀ o,ops[j]?=some o→∀ (a:Act) (w:World),Bw W0 w→(∀ s:Nat,SL.contains s=false→a.tmps[s]?=a0.tmps[s]?) →
   (∀ j' ∈ dep j,∃ u,a.tmps[SL.getD j' 0]?=some u∧V j' w u)→o.wp P a w (fun a' w'=>∃ u,a'=a.put o.dst u∧V j w' u∧Bw w w') Q)
  (hL:∀ o,ops[m]?=some o→∀ (u:Nat→Value) (w:World),Bw W0 w→(∀ j,j<m→V j w (u j)) →
   o.wp P (putL a0 ((List.range m).map (fun j=>(SL.getD j 0,u j)))) w (fun a' w'=>Q .normal a' w') Q) :
  (Code.region id ops true).wp P Q a0 W0:=by
 have hsz:ops.size=m+1:=by
  unfold vchkS at hchk
  rw[Bool.and_eq_true,beq_iff_eq] at hchk
  exact hchk.1
 have hmem:∀ j,j<m→SL.getD j 0 ∈ SL:=fun j hj=>by
  have h1:j<SL.length:=by rw[hsl.1];exact hj
  rw[List.getD_eq_getElem?_getD,List.getElem?_eq_getElem h1]
  exact List.getElem_mem h1
 have hinj:∀ i i',i<m→i'<m→SL.getD i 0=SL.getD i' 0→i=i':=fun i i' h1 h2 h=>by
  have g1:i<SL.length:=by rw[hsl.1];exact h1
  have g2:i'<SL.length:=by rw[hsl.1];exact h2
  rw[List.getD_eq_getElem?_getD,List.getD_eq_getElem?_getD,List.getElem?_eq_getElem g1,List.getElem?_eq_getElem g2] at h
  exact(List.getElem_inj hsl.2.1).1 h
 have hoth:∀ {s:Nat},SL.contains s=false→∀ j,j<m→s≠SL.getD j 0:=fun {s} h j hj e=>by
  have h2:=hmem j hj
  rw[←e] at h2
  have:SL.contains s=true:=by simpa using h2
  rw[h] at this;cases this
 refine parl_region hm m (fun j=>SL.getD j 0) dep W0 a0 V hsz (fun i o ho=>(vrowS_split (vchkS_row hchk ho).2).1) hV1 ?_ ?_ ?_ (fun j hj=>hsl.2.2 _ (hmem j hj)) hinj ?_
 ·intro j hj j' hj'
  obtain⟨o,ho⟩:∃ o,ops[j]?=some o:=⟨ops[j]'(by omega),Array.getElem?_eq_getElem (by omega)⟩
  have h4:=(vrowS_split (vchkS_row hchk ho).2).2.2.2 j' (by rw[if_neg (by rw[beq_iff_eq];omega)];exact hj')
  refine⟨h4.1,fun o' ho'=>?_⟩
  obtain rfl:o=o':=Option.some.inj (ho.symm.trans ho')
  exact h4.2
 ·intro j hj a w hb ho1 hd
  obtain⟨o,ho⟩:∃ o,ops[j]?=some o:=⟨ops[j]'(by omega),Array.getElem?_eq_getElem (by omega)⟩
  obtain⟨-,h2,h3,-⟩:=vrowS_split (vchkS_row hchk ho).2
  refine step_wanted ho h2 ?_
  have h5:=hA j hj o ho a w hb (fun s hs=>ho1 s (hoth hs)) hd
  rw[h3 hj] at h5
  exact h5
 ·intro o ho j hj
  exact((vrowS_split (vchkS_row hchk ho).2).2.2.2 j (by rw[if_pos (by rw[beq_iff_eq])];exact List.mem_range.2 hj)).2
 ·intro u a w hb hu hs hd ho1
  obtain⟨o,ho⟩:∃ o,ops[m]?=some o:=⟨ops[m]'(by omega),Array.getElem?_eq_getElem (by omega)⟩
  obtain⟨-,h2,-,-⟩:=vrowS_split (vchkS_row hchk ho).2
  refine step_wanted ho h2 ?_
  have q1:((List.range m).map (fun j=>((SL.getD j 0,u j):Tmp×Value))).map (fun p:Tmp×Value=>p.1)=(List.range m).map (fun j=>SL.getD j 0):=by simp[Function.comp_def]
  have ha:=act_putL (a:=a) (a0:=a0) (l:=(List.range m).map (fun j=>((SL.getD j 0,u j):Tmp×Value))) (by
    rw[q1]
    refine List.pairwise_map.2 ((List.nodup_range (n:=m)).imp_of_mem ?_)
    intro x y hx hy hne he
    exact hne (hinj x y (List.mem_range.1 hx) (List.mem_range.1 hy) he)) hs hd (by
    intro p hp
    obtain⟨i,hi,rfl⟩:=List.mem_map.1 hp
    exact(hu i (List.mem_range.1 hi)).1) (fun s hsn=>ho1 s (fun i hi he=>hsn (List.mem_map.2 ⟨_,List.mem_map.2 ⟨i,List.mem_range.2 hi,rfl⟩,he.symm⟩)))
  rw[ha]
  exact hL o ho u w hb (fun j hj=>(hu j hj).2)
theorem valSL_region {P:Program} {ops:Array Oper} {Q:Exit→Act→World→Prop} {id:Nat} (hm:P.follows .mixedOrders=true) (m:Nat) (SL:List Nat) (D:List (List Nat))
  (W0:World) (a0:Act) (L:List (World→Value→Prop)) (hchk:vchkS ops m SL (dL D)=true)
  (hV1:StaysAll L) (hsl:SL.length=m∧SL.Nodup∧∀ s ∈ SL,s<a0.tmps.size)
  (hA:∀ j,j<m→∀ o,ops[j]?=some o→∀ (a:Act) (w:World),Bw W0 w→(∀ s:Nat,SL.contains s=false→a.tmps[s]?=a0.tmps[s]?) →
   (∀ j' ∈ dL D j,∃ u,a.tmps[SL.getD j' 0]?=some u∧vL L j' w u)→o.wp P a w (fun a' w'=>∃ u,a'=a.put o.dst u∧vL L j w' u∧Bw w w') Q)
  (hL:∀ o,ops[m]?=some o→∀ (u:Nat→Value) (w:World),Bw W0 w→(∀ j,j<m→vL L j w (u j)) →
   o.wp P (putL a0 ((List.range m).map (fun j=>(SL.getD j 0,u j)))) w (fun a' w'=>Q .normal a' w') Q) :
  (Code.region id ops true).wp P Q a0 W0 :=
 valS_region hm m SL (dL D) W0 a0 (vL L) hchk (fun j w w' u hb h=>vL_stays hV1 j w w' u hb h) hsl hA hL
end Go.Proofs.YtfkaogdmlcdceaaGreatDoor
namespace Go.Proofs.YtfkaogdmlcdceaaGreatDoor
open Go.RowKit Go.Fl64
theorem unought {a:Nat} (ha:a<18446744073709551616):(FloatKind.f64.format.order a 0 != some Ordering.eq) = !decide (mag a=0):=by
 have h:(FloatKind.f64.format.order a 0==some Ordering.eq)=decide (mag a=0):=by
  rw[ord_eq a 0 ha (by decide)]
  have nb:isNaN 0=false:=by decide
  unfold Fl64.eq
  rw[nb]
  have e0:stp 0=0:=by decide
  rw[e0]
  by_cases h:mag a=0
  ·have:stp a=0:=by unfold stp sgn;rw[h];simp
   have na:isNaN a=false:=by unfold isNaN;simp;omega
   simp[this,h,na]
  ·have:stp a≠0:=by unfold stp sgn;split <;> omega
   simp[this,h]
 rw[←h];rfl
end Go.Proofs.YtfkaogdmlcdceaaGreatDoor
namespace Go.Proofs.YtfkaogdmlcdceaaGreatDoor
open Go.RowKit
theorem pSign_no (na:Bool) (ua:Option Addr) (un uc:Nat) (ea:Int) (w:World)
  (k43:∀ W g,Bw w W→W.heap[g]?=some (.cells #[.bool na,.slice ua un uc,.int .i64 ea] 50 (0,0))→Calls Tryz.prog 128 #[.slice (some ⟨g,0,none⟩) 1 1] W fun r w'=>r=.returned (.bool false)∧Bw W w') :
  Calls Tryz.prog 89 #[.agg #[.bool na,.slice ua un uc,.int .i64 ea]] w fun r w'=>r=.returned (.int .i64 0)∧Bw w w':=by
 obtain⟨W,hW⟩:∃ W,W=w.alloc (.cells #[.bool na,.slice ua un uc,.int .i64 ea] 50):=⟨_,rfl⟩
 have hBW:Bw w W:=by rw[hW];exact(Below.refl _ _).alloc (Nat.le_refl _) _
 have hsz:W.heap.size=w.heap.size+1:=by rw[hW];simp
 have hbx:W.heap[w.heap.size]?=some (.cells #[.bool na,.slice ua un uc,.int .i64 ea] 50 (0,0)):=by rw[hW];exact heap_alloc_new _ _
 have k1:=k43 (W.alloc (.cells #[.bool na,.slice ua un uc,.int .i64 ea] 50)) (w.heap.size+1) (hBW.alloc hBW.size _) (by rw[←hsz];exact heap_alloc_new _ _)
 have HX:Hid (Bw w W∧W.heap.size=w.heap.size+1∧W.heap[w.heap.size]?=some (.cells #[.bool na,.slice ua un uc,.int .i64 ea] 50 (0,0))):=⟨hBW,hsz,hbx⟩
 clear hBW hsz hbx k43
 go_enter Tryz.func89,Tryz.ntmps89
 go_wp2_with fail
 rw[←hW]
 clear hW
 refine k1.mono ?_
 rintro r w1 ⟨rfl,hb1⟩
 have HB1:Hid (Bw W w1):=((Below.refl W.heap.size W).alloc (Nat.le_refl _) _).trans (hb1.mono (by simp))
 clear k1 hb1
 obtain⟨⟨x0,x1,x2⟩,-⟩:=box_cells (box_later HX.out.2.2 HB1.out (by have:=HX.out.2.1;omega))
 have HB2:Hid (Bw w w1):=HX.out.1.trans (HB1.out.mono HX.out.1.size)
 go_wp2
 go_ret
 exact⟨rfl,HB2.out⟩
theorem pTop_1 (na:Bool) (ua:Option Addr) (un uc:Nat) (ea c:Int) (w:World)
  (k43:∀ W g,Bw w W→W.heap[g]?=some (.cells #[.bool na,.slice ua un uc,.int .i64 ea] 50 (0,0))→Calls Tryz.prog 128 #[.slice (some ⟨g,0,none⟩) 1 1] W fun r w'=>r=.returned (.bool true)∧Bw W w')
  (kC:∀ W,Bw w W→Calls Tryz.prog 189 #[.agg #[.bool na,.slice ua un uc,.int .i64 ea]] W fun r w'=>r=.returned (.int .i64 c)∧Bw W w') :
  Calls Tryz.prog 127 #[.agg #[.bool na,.slice ua un uc,.int .i64 ea]] w fun r w'=>r=.returned (.int .i64 c)∧Bw w w':=by
 have HKC:Hid _:=kC
 clear kC
 obtain⟨W,hW⟩:∃ W,W=w.alloc (.cells #[.bool na,.slice ua un uc,.int .i64 ea] 50):=⟨_,rfl⟩
 have hBW:Bw w W:=by rw[hW];exact(Below.refl _ _).alloc (Nat.le_refl _) _
 have hsz:W.heap.size=w.heap.size+1:=by rw[hW];simp
 have hbx:W.heap[w.heap.size]?=some (.cells #[.bool na,.slice ua un uc,.int .i64 ea] 50 (0,0)):=by rw[hW];exact heap_alloc_new _ _
 have k1:=k43 (W.alloc (.cells #[.bool na,.slice ua un uc,.int .i64 ea] 50)) (w.heap.size+1) (hBW.alloc hBW.size _) (by rw[←hsz];exact heap_alloc_new _ _)
 have HX:Hid (Bw w W∧W.heap.size=w.heap.size+1∧W.heap[w.heap.size]?=some (.cells #[.bool na,.slice ua un uc,.int .i64 ea] 50 (0,0))):=⟨hBW,hsz,hbx⟩
 clear hBW hsz hbx k43
 go_enter Tryz.func127,Tryz.ntmps127
 go_wp2_with fail
 rw[←hW]
 clear hW
 refine k1.mono ?_
 rintro r w1 ⟨rfl,hb1⟩
 have HB1:Hid (Bw W w1):=((Below.refl W.heap.size W).alloc (Nat.le_refl _) _).trans (hb1.mono (by simp))
 clear k1 hb1
 obtain⟨⟨x0,x1,x2⟩,-⟩:=box_cells (box_later HX.out.2.2 HB1.out (by have:=HX.out.2.1;omega))
 have HB2:Hid (Bw w w1):=HX.out.1.trans (HB1.out.mono HX.out.1.size)
 have k3:=HKC.out w1 HB2.out
 go_wp2_with fail
 refine k3.mono ?_
 rintro r w3 ⟨rfl,hb3⟩
 have HB3:Hid (Bw w w3):=HB2.out.trans (hb3.mono HB2.out.size)
 clear k3 hb3 x0 x1 x2
 go_wp2_with fail
 go_ret
 exact⟨rfl,HB3.out⟩
theorem bytes_cat (L M:List UInt8):(⟨L.toArray⟩:ByteArray)++⟨M.toArray⟩=⟨(L++M).toArray⟩:=by
 apply ByteArray.ext
 simp
theorem decDigits_len (k:Nat):∀ n,n<10^(k+1)→(Lib.decDigits n).length≤k+1:=by
 induction k with
 | zero=>intro n h;rw[Lib.decDigits,dif_pos (by simpa using h)];simp
 | succ k ih =>
  intro n h
  by_cases h0:n<10
  ·rw[Lib.decDigits,dif_pos h0];simp
  ·rw[Lib.decDigits,dif_neg h0,List.length_append,List.length_singleton]
   have:=ih (n / 10) (by rw[Nat.pow_succ] at h;omega)
   omega
end Go.Proofs.YtfkaogdmlcdceaaGreatDoor
namespace Go.Proofs.YtfkaogdmlcdceaaGreatDoor
open Go.RowKit Go.Fl64
end Go.Proofs.YtfkaogdmlcdceaaGreatDoor
