/- Own work: contracts of the program's functions, part 9: SC2 DE2 PV3 RY7 SD1 SD2 UA8 UA9 UB1 UB2 UB3 SB4 SB5 SH5 SB6 SH6 SH7 SH8 SH9 SI1 SI2 SI3 SI4 UB4 HX W46 W47 W48 RE2 RE5 RE6 RD2 L12 L15 SE1 SE2 SB7 SE3 SF1 SF2 SF3 SF4. -/
import Derived.Test.YtfkaogdmlcdceaaGreatDoorA8
import Derived.Test.YtfkaogdmlcdceaaGreatDoorA7
import Derived.Test.YtfkaogdmlcdceaaGreatDoorA3
import Derived.Test.YtfkaogdmlcdceaaGreatDoorA5
import Derived.Test.YtfkaogdmlcdceaaGreatDoorA6
import Derived.Lib.ItoaNum

set_option maxHeartbeats 16000000
set_option maxRecDepth 200000
set_option linter.unusedVariables false
set_option linter.unusedSimpArgs false
namespace Go.Proofs.YtfkaogdmlcdceaaGreatDoor
open Go.RowKit Go.Fl64
theorem bl_neD {x:Nat} (h0:x≠0):1≤bl x:=by unfold bl;rw[if_neg h0];omega
theorem bl_shlD {x k:Nat} (h:x≠0):bl (x*2^k)=bl x+k:=by
 have h1:=lt_bl x
 have h2:=le_bl h
 have hb:=bl_neD h
 have a:bl (x*2^k)≤bl x+k:=(bl_le _ _).2 (by rw[Nat.pow_add];exact Nat.mul_lt_mul_of_pos_right h1 (Nat.two_pow_pos k))
 have b:bl x+k - 1<bl (x*2^k):=by
  apply Decidable.byContradiction
  intro hn
  have h3:=lt_bl (x*2^k)
  have h4:x*2^k<2^(bl x+k - 1):=Nat.lt_of_lt_of_le h3 (Nat.pow_le_pow_right (by decide) (by omega))
  rw[show bl x+k - 1=bl x - 1+k by omega,Nat.pow_add] at h4
  have:=Nat.mul_le_mul_right (2^k) h2
  omega
 omega
end Go.Proofs.YtfkaogdmlcdceaaGreatDoor
namespace Go.Proofs.YtfkaogdmlcdceaaGreatDoor
open Go.RowKit
def vrowS (m:Nat) (SL:List Nat) (dep:Nat→List Nat) (i:Nat) (o:Oper):Bool :=
 o.after.all (fun e=>decide (e.on<i))&&o.guard.isNone&&(i==m||o.dst==some (SL.getD i 0))&&((if i==m then List.range m else dep i).all fun j=>decide (j<m)&&vhas o j)
def vchkS (ops:Array Oper) (m:Nat) (SL:List Nat) (dep:Nat→List Nat):Bool :=
 ops.size==m+1&&(List.range (m+1)).all fun i=>match ops[i]? with|some o=>vrowS m SL dep i o|none=>false
theorem vchkS_row {ops:Array Oper} {m:Nat} {SL:List Nat} {dep:Nat→List Nat} (h:vchkS ops m SL dep=true) {i:Nat} {o:Oper} (ho:ops[i]?=some o):i<m+1∧vrowS m SL dep i o=true:=by
 unfold vchkS at h
 rw[Bool.and_eq_true,beq_iff_eq] at h
 have hi:i<m+1:=by have:=(Array.getElem?_eq_some_iff.1 ho).1;omega
 have h1:=List.all_eq_true.1 h.2 i (List.mem_range.2 hi)
 simp only[ho] at h1
 exact⟨hi,h1⟩
theorem vrowS_split {m:Nat} {SL:List Nat} {dep:Nat→List Nat} {i:Nat} {o:Oper} (h:vrowS m SL dep i o=true) :
  (∀ e ∈ o.after,e.on<i)∧o.guard=none∧(i<m→o.dst=some (SL.getD i 0))∧∀ j ∈ (if i==m then List.range m else dep i),j<m∧∃ e ∈ o.after,e.on=j∧Region.binds .any e=true:=by
 unfold vrowS at h
 rw[Bool.and_eq_true,Bool.and_eq_true,Bool.and_eq_true] at h
 obtain⟨⟨⟨h1,h2⟩,h3⟩,h4⟩:=h
 refine⟨fun e he=>of_decide_eq_true (Array.all_eq_true_iff_forall_mem.1 h1 e he),Option.isNone_iff_eq_none.1 h2,fun hi=>?_,fun j hj=>?_⟩
 ·rw[Bool.or_eq_true] at h3
  rcases h3 with h3|h3
  ·rw[beq_iff_eq] at h3;omega
  ·simpa using h3
 ·have:=List.all_eq_true.1 h4 j hj
  rw[Bool.and_eq_true] at this
  exact⟨of_decide_eq_true this.1,vhas_ex this.2⟩
theorem valS_region {P:Program} {ops:Array Oper} {Q:Exit→Act→World→Prop} {id:Nat} (hm:P.follows .mixedOrders=true) (m:Nat) (SL:List Nat) (dep:Nat→List Nat)
  (W0:World) (a0:Act) (V:Nat→World→Value→Prop) (hchk:vchkS ops m SL dep=true)
  (hV1:∀ j w w' u,Bw w w'→V j w u→V j w' u) (hsl:SL.length=m∧SL.Nodup∧∀ s ∈ SL,s<a0.tmps.size)
  (hA:∀ j,j<m→∀ o,ops[j]?=some o→∀ (a:Act) (w:World),Bw W0 w→(∀ s:Nat,SL.contains s=false→a.tmps[s]?=a0.tmps[s]?) →
   (∀ j' ∈ dep j,∃ u,a.tmps[SL.getD j' 0]?=some u∧V j' w u)→o.wp P a w (fun a' w'=>∃ u,a'=a.put o.dst u∧V j w' u∧Bw w w') Q)
  (hL:∀ o,ops[m]?=some o→∀ (u:Nat→Value) (w:World),Bw W0 w→(∀ j,j<m→V j w (u j)) →
   o.wp P (putL a0 ((List.range m).map (fun j=>(SL.getD j 0,u j)))) w (fun a' w'=>Q .normal a' w') Q) :
  (Code.region id ops true).wp P Q a0 W0:=by
 have hsz:ops.size=m+1:=by
  unfold vchkS at hchk
  rw[Bool.and_eq_true,beq_iff_eq] at hchk
  exact hchk.1
 have hmem:∀ j,j<m→SL.getD j 0 ∈ SL:=fun j hj=>by
  have h1:j<SL.length:=by rw[hsl.1];exact hj
  rw[List.getD_eq_getElem?_getD,List.getElem?_eq_getElem h1]
  exact List.getElem_mem h1
 have hinj:∀ i i',i<m→i'<m→SL.getD i 0=SL.getD i' 0→i=i':=fun i i' h1 h2 h=>by
  have g1:i<SL.length:=by rw[hsl.1];exact h1
  have g2:i'<SL.length:=by rw[hsl.1];exact h2
  rw[List.getD_eq_getElem?_getD,List.getD_eq_getElem?_getD,List.getElem?_eq_getElem g1,List.getElem?_eq_getElem g2] at h
  exact(List.getElem_inj hsl.2.1).1 h
 have hoth:∀ {s:Nat},SL.contains s=false→∀ j,j<m→s≠SL.getD j 0:=fun {s} h j hj e=>by
  have h2:=hmem j hj
  rw[←e] at h2
  have:SL.contains s=true:=by simpa using h2
  rw[h] at this;cases this
 refine parl_region hm m (fun j=>SL.getD j 0) dep W0 a0 V hsz (fun i o ho=>(vrowS_split (vchkS_row hchk ho).2).1) hV1 ?_ ?_ ?_ (fun j hj=>hsl.2.2 _ (hmem j hj)) hinj ?_
 ·intro j hj j' hj'
  obtain⟨o,ho⟩:∃ o,ops[j]?=some o:=⟨ops[j]'(by omega),Array.getElem?_eq_getElem (by omega)⟩
  have h4:=(vrowS_split (vchkS_row hchk ho).2).2.2.2 j' (by rw[if_neg (by rw[beq_iff_eq];omega)];exact hj')
  refine⟨h4.1,fun o' ho'=>?_⟩
  obtain rfl:o=o':=Option.some.inj (ho.symm.trans ho')
  exact h4.2
 ·intro j hj a w hb ho1 hd
  obtain⟨o,ho⟩:∃ o,ops[j]?=some o:=⟨ops[j]'(by omega),Array.getElem?_eq_getElem (by omega)⟩
  obtain⟨-,h2,h3,-⟩:=vrowS_split (vchkS_row hchk ho).2
  refine step_wanted ho h2 ?_
  have h5:=hA j hj o ho a w hb (fun s hs=>ho1 s (hoth hs)) hd
  rw[h3 hj] at h5
  exact h5
 ·intro o ho j hj
  exact((vrowS_split (vchkS_row hchk ho).2).2.2.2 j (by rw[if_pos (by rw[beq_iff_eq])];exact List.mem_range.2 hj)).2
 ·intro u a w hb hu hs hd ho1
  obtain⟨o,ho⟩:∃ o,ops[m]?=some o:=⟨ops[m]'(by omega),Array.getElem?_eq_getElem (by omega)⟩
  obtain⟨-,h2,-,-⟩:=vrowS_split (vchkS_row hchk ho).2
  refine step_wanted ho h2 ?_
  have q1:((List.range m).map (fun j=>((SL.getD j 0,u j):Tmp×Value))).map (fun p:Tmp×Value=>p.1)=(List.range m).map (fun j=>SL.getD j 0):=by simp[Function.comp_def]
  have ha:=act_putL (a:=a) (a0:=a0) (l:=(List.range m).map (fun j=>((SL.getD j 0,u j):Tmp×Value))) (by
    rw[q1]
    refine List.pairwise_map.2 ((List.nodup_range (n:=m)).imp_of_mem ?_)
    intro x y hx hy hne he
    exact hne (hinj x y (List.mem_range.1 hx) (List.mem_range.1 hy) he)) hs hd (by
    intro p hp
    obtain⟨i,hi,rfl⟩:=List.mem_map.1 hp
    exact(hu i (List.mem_range.1 hi)).1) (fun s hsn=>ho1 s (fun i hi he=>hsn (List.mem_map.2 ⟨_,List.mem_map.2 ⟨i,List.mem_range.2 hi,rfl⟩,he.symm⟩)))
  rw[ha]
  exact hL o ho u w hb (fun j hj=>(hu j hj).2)
theorem valSL_region {P:Program} {ops:Array Oper} {Q:Exit→Act→World→Prop} {id:Nat} (hm:P.follows .mixedOrders=true) (m:Nat) (SL:List Nat) (D:List (List Nat))
  (W0:World) (a0:Act) (L:List (World→Value→Prop)) (hchk:vchkS ops m SL (dL D)=true)
  (hV1:StaysAll L) (hsl:SL.length=m∧SL.Nodup∧∀ s ∈ SL,s<a0.tmps.size)
  (hA:∀ j,j<m→∀ o,ops[j]?=some o→∀ (a:Act) (w:World),Bw W0 w→(∀ s:Nat,SL.contains s=false→a.tmps[s]?=a0.tmps[s]?) →
   (∀ j' ∈ dL D j,∃ u,a.tmps[SL.getD j' 0]?=some u∧vL L j' w u)→o.wp P a w (fun a' w'=>∃ u,a'=a.put o.dst u∧vL L j w' u∧Bw w w') Q)
  (hL:∀ o,ops[m]?=some o→∀ (u:Nat→Value) (w:World),Bw W0 w→(∀ j,j<m→vL L j w (u j)) →
   o.wp P (putL a0 ((List.range m).map (fun j=>(SL.getD j 0,u j)))) w (fun a' w'=>Q .normal a' w') Q) :
  (Code.region id ops true).wp P Q a0 W0 :=
 valS_region hm m SL (dL D) W0 a0 (vL L) hchk (fun j w w' u hb h=>vL_stays hV1 j w w' u hb h) hsl hA hL
end Go.Proofs.YtfkaogdmlcdceaaGreatDoor
namespace Go.Proofs.YtfkaogdmlcdceaaGreatDoor
open Go.RowKit Go.Fl64
theorem unought {a:Nat} (ha:a<18446744073709551616):(FloatKind.f64.format.order a 0 != some Ordering.eq) = !decide (mag a=0):=by
 have h:(FloatKind.f64.format.order a 0==some Ordering.eq)=decide (mag a=0):=by
  rw[ord_eq a 0 ha (by decide)]
  have nb:isNaN 0=false:=by decide
  unfold Fl64.eq
  rw[nb]
  have e0:stp 0=0:=by decide
  rw[e0]
  by_cases h:mag a=0
  ·have:stp a=0:=by unfold stp sgn;rw[h];simp
   have na:isNaN a=false:=by unfold isNaN;simp;omega
   simp[this,h,na]
  ·have:stp a≠0:=by unfold stp sgn;split <;> omega
   simp[this,h]
 rw[←h];rfl
end Go.Proofs.YtfkaogdmlcdceaaGreatDoor
namespace Go.Proofs.YtfkaogdmlcdceaaGreatDoor
open Go.RowKit
theorem pSign_no (na:Bool) (ua:Option Addr) (un uc:Nat) (ea:Int) (w:World)
  (k43:∀ W g,Bw w W→W.heap[g]?=some (.cells #[.bool na,.slice ua un uc,.int .i64 ea] 50 (0,0))→Calls Tryz.prog 128 #[.slice (some ⟨g,0,none⟩) 1 1] W fun r w'=>r=.returned (.bool false)∧Bw W w') :
  Calls Tryz.prog 89 #[.agg #[.bool na,.slice ua un uc,.int .i64 ea]] w fun r w'=>r=.returned (.int .i64 0)∧Bw w w':=by
 obtain⟨W,hW⟩:∃ W,W=w.alloc (.cells #[.bool na,.slice ua un uc,.int .i64 ea] 50):=⟨_,rfl⟩
 have hBW:Bw w W:=by rw[hW];exact(Below.refl _ _).alloc (Nat.le_refl _) _
 have hsz:W.heap.size=w.heap.size+1:=by rw[hW];simp
 have hbx:W.heap[w.heap.size]?=some (.cells #[.bool na,.slice ua un uc,.int .i64 ea] 50 (0,0)):=by rw[hW];exact heap_alloc_new _ _
 have k1:=k43 (W.alloc (.cells #[.bool na,.slice ua un uc,.int .i64 ea] 50)) (w.heap.size+1) (hBW.alloc hBW.size _) (by rw[←hsz];exact heap_alloc_new _ _)
 have HX:Hid (Bw w W∧W.heap.size=w.heap.size+1∧W.heap[w.heap.size]?=some (.cells #[.bool na,.slice ua un uc,.int .i64 ea] 50 (0,0))):=⟨hBW,hsz,hbx⟩
 clear hBW hsz hbx k43
 go_enter Tryz.func89,Tryz.ntmps89
 go_wp2_with fail
 rw[←hW]
 clear hW
 refine k1.mono ?_
 rintro r w1 ⟨rfl,hb1⟩
 have HB1:Hid (Bw W w1):=((Below.refl W.heap.size W).alloc (Nat.le_refl _) _).trans (hb1.mono (by simp))
 clear k1 hb1
 obtain⟨⟨x0,x1,x2⟩,-⟩:=box_cells (box_later HX.out.2.2 HB1.out (by have:=HX.out.2.1;omega))
 have HB2:Hid (Bw w w1):=HX.out.1.trans (HB1.out.mono HX.out.1.size)
 go_wp2
 go_ret
 exact⟨rfl,HB2.out⟩
theorem pTop_1 (na:Bool) (ua:Option Addr) (un uc:Nat) (ea c:Int) (w:World)
  (k43:∀ W g,Bw w W→W.heap[g]?=some (.cells #[.bool na,.slice ua un uc,.int .i64 ea] 50 (0,0))→Calls Tryz.prog 128 #[.slice (some ⟨g,0,none⟩) 1 1] W fun r w'=>r=.returned (.bool true)∧Bw W w')
  (kC:∀ W,Bw w W→Calls Tryz.prog 189 #[.agg #[.bool na,.slice ua un uc,.int .i64 ea]] W fun r w'=>r=.returned (.int .i64 c)∧Bw W w') :
  Calls Tryz.prog 127 #[.agg #[.bool na,.slice ua un uc,.int .i64 ea]] w fun r w'=>r=.returned (.int .i64 c)∧Bw w w':=by
 have HKC:Hid _:=kC
 clear kC
 obtain⟨W,hW⟩:∃ W,W=w.alloc (.cells #[.bool na,.slice ua un uc,.int .i64 ea] 50):=⟨_,rfl⟩
 have hBW:Bw w W:=by rw[hW];exact(Below.refl _ _).alloc (Nat.le_refl _) _
 have hsz:W.heap.size=w.heap.size+1:=by rw[hW];simp
 have hbx:W.heap[w.heap.size]?=some (.cells #[.bool na,.slice ua un uc,.int .i64 ea] 50 (0,0)):=by rw[hW];exact heap_alloc_new _ _
 have k1:=k43 (W.alloc (.cells #[.bool na,.slice ua un uc,.int .i64 ea] 50)) (w.heap.size+1) (hBW.alloc hBW.size _) (by rw[←hsz];exact heap_alloc_new _ _)
 have HX:Hid (Bw w W∧W.heap.size=w.heap.size+1∧W.heap[w.heap.size]?=some (.cells #[.bool na,.slice ua un uc,.int .i64 ea] 50 (0,0))):=⟨hBW,hsz,hbx⟩
 clear hBW hsz hbx k43
 go_enter Tryz.func127,Tryz.ntmps127
 go_wp2_with fail
 rw[←hW]
 clear hW
 refine k1.mono ?_
 rintro r w1 ⟨rfl,hb1⟩
 have HB1:Hid (Bw W w1):=((Below.refl W.heap.size W).alloc (Nat.le_refl _) _).trans (hb1.mono (by simp))
 clear k1 hb1
 obtain⟨⟨x0,x1,x2⟩,-⟩:=box_cells (box_later HX.out.2.2 HB1.out (by have:=HX.out.2.1;omega))
 have HB2:Hid (Bw w w1):=HX.out.1.trans (HB1.out.mono HX.out.1.size)
 have k3:=HKC.out w1 HB2.out
 go_wp2_with fail
 refine k3.mono ?_
 rintro r w3 ⟨rfl,hb3⟩
 have HB3:Hid (Bw w w3):=HB2.out.trans (hb3.mono HB2.out.size)
 clear k3 hb3 x0 x1 x2
 go_wp2_with fail
 go_ret
 exact⟨rfl,HB3.out⟩
theorem bytes_cat (L M:List UInt8):(⟨L.toArray⟩:ByteArray)++⟨M.toArray⟩=⟨(L++M).toArray⟩:=by
 apply ByteArray.ext
 simp
end Go.Proofs.YtfkaogdmlcdceaaGreatDoor
namespace Go.Proofs.YtfkaogdmlcdceaaGreatDoor
open Go.RowKit Go.Fl64
end Go.Proofs.YtfkaogdmlcdceaaGreatDoor
