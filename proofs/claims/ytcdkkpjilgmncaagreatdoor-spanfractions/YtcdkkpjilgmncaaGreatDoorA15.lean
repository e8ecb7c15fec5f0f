/- Own work: contracts of the program's functions, part 15: SNC SND SNE FR7 SNP DL2 PQ PW FR8 PW2. -/
import Derived.Test.YtcdkkpjilgmncaaGreatDoorA14
import Derived.Test.YtcdkkpjilgmncaaGreatDoorA13
import Derived.Test.YtcdkkpjilgmncaaGreatDoorA9
import Derived.Test.YtcdkkpjilgmncaaGreatDoorA11
import Derived.Test.YtcdkkpjilgmncaaGreatDoorA4

set_option maxHeartbeats 16000000
set_option maxRecDepth 200000
set_option linter.unusedVariables false
set_option linter.unusedSimpArgs false
namespace Go.Proofs.YtcdkkpjilgmncaaGreatDoor
open Go.RowKit Go.Fl64
attribute [local go_sem] run_store_flt
def lowF (D:Nat→Nat):Nat→Nat
 | 0=>9218868437227405312
 | n+1=>fMin (lowF D n) (D n)
def hiF (D:Nat→Nat):Nat→Nat
 | 0=>18442240474082181120
 | n+1=>fMax (hiF D n) (D n)
theorem lowF_ok {D:Nat→Nat} (h:∀ i,D i<18446744073709551616∧isNaN (D i)=false):∀ n,lowF D n<18446744073709551616∧isNaN (lowF D n)=false
 | 0=>⟨by unfold lowF;omega,by unfold lowF;decide⟩
 | n+1=>⟨fMin_lt (lowF_ok h n).1 (h n).1,fMin_nn (lowF_ok h n).2 (h n).2⟩
theorem hiF_ok {D:Nat→Nat} (h:∀ i,D i<18446744073709551616∧isNaN (D i)=false):∀ n,hiF D n<18446744073709551616∧isNaN (hiF D n)=false
 | 0=>⟨by unfold hiF;omega,by unfold hiF;decide⟩
 | n+1=>⟨fMax_lt (hiF_ok h n).1 (h n).1,fMax_nn (hiF_ok h n).2 (h n).2⟩
def onF (a:Nat):Nat:=if isNaN a then 0 else a
theorem onF_ok {a:Nat} (h:a<18446744073709551616):onF a<18446744073709551616∧isNaN (onF a)=false:=by
 unfold onF
 cases e:isNaN a
 ·exact⟨h,e⟩
 ·rw[if_pos rfl];exact⟨by omega,by decide⟩
theorem onF_lk {n X:Nat} (h:lk n X):onF n=onF X:=by
 rcases lk_or h with rfl|⟨h1,h2⟩
 ·rfl
 ·unfold onF;rw[h1,h2];rfl
theorem sorn_lk {n X:Nat} (h:lk n X) (w:World):Calls Tryz.prog 114 #[.float .f64 n] w fun r w'=>r=.returned (.float .f64 (onF X))∧w'=w:=by
 rw[←onF_lk h]
 exact sorn n h.1 w
theorem run_pairs0 (a b c d e f g h:Nat) (w:World):(Instr.index 101 (.agg #[.float .f64 a,.float .f64 b,.float .f64 c,.float .f64 d,.float .f64 e,.float .f64 f,.float .f64 g,.float .f64 h]) (.int .i64 0)).run Tryz.prog w=.ok (.agg #[.float .f64 a,.float .f64 b]) w:=by kernel_rfl
theorem run_pairs1 (a b c d e f g h:Nat) (w:World):(Instr.index 101 (.agg #[.float .f64 a,.float .f64 b,.float .f64 c,.float .f64 d,.float .f64 e,.float .f64 f,.float .f64 g,.float .f64 h]) (.int .i64 1)).run Tryz.prog w=.ok (.agg #[.float .f64 c,.float .f64 d]) w:=by kernel_rfl
theorem run_pairs2 (a b c d e f g h:Nat) (w:World):(Instr.index 101 (.agg #[.float .f64 a,.float .f64 b,.float .f64 c,.float .f64 d,.float .f64 e,.float .f64 f,.float .f64 g,.float .f64 h]) (.int .i64 2)).run Tryz.prog w=.ok (.agg #[.float .f64 e,.float .f64 f]) w:=by kernel_rfl
theorem run_pairs3 (a b c d e f g h:Nat) (w:World):(Instr.index 101 (.agg #[.float .f64 a,.float .f64 b,.float .f64 c,.float .f64 d,.float .f64 e,.float .f64 f,.float .f64 g,.float .f64 h]) (.int .i64 3)).run Tryz.prog w=.ok (.agg #[.float .f64 g,.float .f64 h]) w:=by kernel_rfl
theorem sspread_Mul (X Y D E:Nat→Nat) (w:World) (hD:∀ i,D i<18446744073709551616) (hE:∀ i,E i<18446744073709551616)
  (kd:∀ i,i<4→∀ W,Bw w W→Calls Tryz.prog 71 #[.float .f64 (X i),.float .f64 (Y i),.int .i64 1] W fun r w'=>∃ n,r=.returned (.float .f64 n)∧lk n (D i)∧Bw W w')
  (ku:∀ i,i<4→∀ W,Bw w W→Calls Tryz.prog 71 #[.float .f64 (X i),.float .f64 (Y i),.int .i64 3] W fun r w'=>∃ n,r=.returned (.float .f64 n)∧lk n (E i)∧Bw W w') :
  Calls Tryz.prog 70 #[.agg #[.float .f64 (X 0),.float .f64 (Y 0),.float .f64 (X 1),.float .f64 (Y 1),.float .f64 (X 2),.float .f64 (Y 2),.float .f64 (X 3),.float .f64 (Y 3)],.func (.func 71) #[] #[]] w fun r w'=>r=.returned (.agg #[.float .f64 (pl (lowF (fun i=>onF (D i)) 4)),.float .f64 (pl (hiF (fun i=>onF (E i)) 4))])∧Bw w w':=by
 have HD:Hid _:=kd
 have HU:Hid _:=ku
 have HLo:Hid (∀ n,lowF (fun i=>onF (D i)) n<18446744073709551616∧isNaN (lowF (fun i=>onF (D i)) n)=false):=lowF_ok fun i=>onF_ok (hD i)
 have HHi:Hid (∀ n,hiF (fun i=>onF (E i)) n<18446744073709551616∧isNaN (hiF (fun i=>onF (E i)) n)=false):=hiF_ok fun i=>onF_ok (hE i)
 have HDE:Hid ((∀ i,D i<18446744073709551616)∧∀ i,E i<18446744073709551616):=⟨hD,hE⟩
 obtain⟨W,hW⟩:∃ W,W=(w.alloc (.cells #[.float .f64 (X 0),.float .f64 (Y 0),.float .f64 (X 1),.float .f64 (Y 1),.float .f64 (X 2),.float .f64 (Y 2),.float .f64 (X 3),.float .f64 (Y 3)] 101)).alloc (.cells #[.float .f64 0,.float .f64 0] 24):=⟨_,rfl⟩
 have HX:Hid (Bw w W∧W.heap[w.heap.size]?=some (.cells #[.float .f64 (X 0),.float .f64 (Y 0),.float .f64 (X 1),.float .f64 (Y 1),.float .f64 (X 2),.float .f64 (Y 2),.float .f64 (X 3),.float .f64 (Y 3)] 101 (0,0))∧IvB W (w.heap.size+1) 0 0):=by
  rw[hW]
  refine⟨((Below.refl _ _).alloc (Nat.le_refl _) _).alloc (by simp) _,?_,?_⟩
  ·exact(Below.heap_alloc _ _ _ (by simp)).trans (heap_alloc_new _ _)
  ·have:=IvB.new (w.alloc (.cells #[.float .f64 (X 0),.float .f64 (Y 0),.float .f64 (X 1),.float .f64 (Y 1),.float .f64 (X 2),.float .f64 (Y 2),.float .f64 (X 3),.float .f64 (Y 3)] 101)) 0 0
   simpa using this
 clear kd ku hD hE
 go_enter Tryz.func70,Tryz.ntmps70
 go_upto_region 1 with fail
 rw[←hW]
 clear hW
 have hc:W.cell? ⟨w.heap.size,0,none⟩=some (.float .f64 (X 0))∧W.cell? ⟨w.heap.size,1,none⟩=some (.float .f64 (Y 0))∧W.cell? ⟨w.heap.size,2,none⟩=some (.float .f64 (X 1))∧W.cell? ⟨w.heap.size,3,none⟩=some (.float .f64 (Y 1))∧W.cell? ⟨w.heap.size,4,none⟩=some (.float .f64 (X 2))∧W.cell? ⟨w.heap.size,5,none⟩=some (.float .f64 (Y 2))∧W.cell? ⟨w.heap.size,6,none⟩=some (.float .f64 (X 3))∧W.cell? ⟨w.heap.size,7,none⟩=some (.float .f64 (Y 3)):=by
  have:=HX.out.2.1
  simp[World.cell?,this]
 obtain⟨q0,q1,q2,q3,q4,q5,q6,q7⟩:=hc
 have hI1:∀ W,Calls Tryz.prog 29 #[.int .i64 1] W fun r w'=>r=.returned (.float .f64 (lowF (fun i=>onF (D i)) 0))∧w'=W:=cinf_p
 have hI2:∀ W,Calls Tryz.prog 29 #[.int .i64 (-1)] W fun r w'=>r=.returned (.float .f64 (hiF (fun i=>onF (E i)) 0))∧w'=W:=cinf_m
 generalize hlo:lowF (fun i=>onF (D i))=Lo at *
 generalize hhi:hiF (fun i=>onF (E i))=Hi at *
 have HlH:Hid (lowF (fun i=>onF (D i))=Lo∧hiF (fun i=>onF (E i))=Hi):=⟨hlo,hhi⟩
 clear hlo hhi
 go_wp2_with (first|(go_at_call 29;first|(with_reducible refine(hI1 _).mono ?_;rintro r w' ⟨rfl,hw⟩;replace hw:=hw.symm;subst hw)|(with_reducible refine(hI2 _).mono ?_;rintro r w' ⟨rfl,hw⟩;replace hw:=hw.symm;subst hw)))
 clear hI1 hI2 q0 q1 q2 q3 q4 q5 q6 q7
 go_loopw [5,6,12] (fun lo hi i wr=>∃ j:Nat,j≤4∧i=.int .i64 j∧lo=.float .f64 (Lo j)∧hi=.float .f64 (Hi j)∧Hid (Bw W wr)) (fun lo hi i _=>4 - (intOf i).toNat)
 case atStart=>exact⟨0,by omega,rfl,rfl,rfl,Below.refl _ _⟩
 case round =>
  obtain⟨j,hj,rfl,rfl,rfl,hB⟩:=hrel
  obtain⟨W1,hW1⟩:∃ f:Nat→World,f=fun j=>wr.alloc (.cells #[.float .f64 (X j),.float .f64 (Y j)] 99):=⟨_,rfl⟩
  have HB1:Hid (∀ j,(W1 j).heap[wr.heap.size]?=some (.cells #[.float .f64 (X j),.float .f64 (Y j)] 99 (0,0))):=fun j=>by rw[hW1];exact heap_alloc_new _ _
  have HBW1:Hid (∀ j,Below W.heap.size W (W1 j)):=fun j=>by rw[hW1];exact hB.out.alloc hB.out.size _
  have HL1:Hid (∀ j,Lo (j+1)=fMin (Lo j) (onF (D j))∧Hi (j+1)=fMax (Hi j) (onF (E j))):=fun j=>by rw[←HlH.out.1,←HlH.out.2];exact⟨rfl,rfl⟩
  rcases(show j=0∨j=1∨j=2∨j=3∨j=4 by omega)with rfl|rfl|rfl|rfl|rfl
  ·have hW1:W1 0=wr.alloc (.cells #[.float .f64 (X 0),.float .f64 (Y 0)] 99):=by rw[hW1]
   have hp:=run_pairs0 (X 0) (Y 0) (X 1) (Y 1) (X 2) (Y 2) (X 3) (Y 3) wr
   have kd:=HD.out 0 (by omega) (W1 0) (HX.out.1.trans ((HBW1.out 0).mono HX.out.1.size))
   have ⟨s0,s1⟩:=box_cells2 (HB1.out 0)
   have HB1:=HB1.out 0
   have HB1:Hid ((W1 0).heap[wr.heap.size]?=some (.cells #[.float .f64 (X 0),.float .f64 (Y 0)] 99 (0,0))):=HB1
   have HBW:Hid (Below W.heap.size W (W1 0)):=HBW1.out 0
   clear HBW1
   generalize W1 0=V at *
   go_upto_region 5 with fail
   rw[←hW1]
   clear hW1
   go_wp2_with fail
   refine kd.mono ?_
   rintro r w2 ⟨n,rfl,hl,hb2⟩
   have ko:=sorn_lk hl w2
   have hm:=fun ts t=>run_fmin (P:=Tryz.prog) w2 ts t _ _ (HLo.out 0).1 (onF_ok (HDE.out.1 0)).1 (HLo.out 0).2 (onF_ok (HDE.out.1 0)).2
   rw[←(HL1.out 0).1] at hm
   obtain⟨t0,t1⟩:=box_cells2 (box_later HB1.out hb2 (lt_of_box HB1.out))
   have HB3:Hid (Bw W w2):=HBW.out.trans (hb2.mono HBW.out.size)
   clear hl hb2 kd s0 s1 HBW HB1
   have ku:=HU.out 0 (by omega) w2 (HX.out.1.trans (HB3.out.mono HX.out.1.size))
   generalize onF (D 0)=d0 at *
   go_wp2_with fail
   refine ko.mono ?_
   rintro r w3 ⟨rfl,hw⟩
   replace hw:=hw.symm
   subst hw
   clear ko
   go_wp2_with fail
   refine ku.mono ?_
   rintro r w3 ⟨n2,rfl,hl,hb2⟩
   have ko:=sorn_lk hl w3
   clear hm
   have hm:=fun ts t=>run_fmax (P:=Tryz.prog) w3 ts t _ _ (HHi.out 0).1 (onF_ok (HDE.out.2 0)).1 (HHi.out 0).2 (onF_ok (HDE.out.2 0)).2
   rw[←(HL1.out 0).2] at hm
   have HB4:Hid (Bw W w3):=HB3.out.trans (hb2.mono HB3.out.size)
   clear hl hb2 ku t0 t1 HB3
   generalize onF (E 0)=e0 at *
   go_wp2_with fail
   refine ko.mono ?_
   rintro r w4 ⟨rfl,hw⟩
   replace hw:=hw.symm
   subst hw
   clear ko
   go_wp2_with fail
   exact⟨⟨0+1,by omega,rfl,rfl,rfl,HB4⟩,by simp[intOf]⟩
  ·have hW1:W1 1=wr.alloc (.cells #[.float .f64 (X 1),.float .f64 (Y 1)] 99):=by rw[hW1]
   have hp:=run_pairs1 (X 0) (Y 0) (X 1) (Y 1) (X 2) (Y 2) (X 3) (Y 3) wr
   have kd:=HD.out 1 (by omega) (W1 1) (HX.out.1.trans ((HBW1.out 1).mono HX.out.1.size))
   have ⟨s0,s1⟩:=box_cells2 (HB1.out 1)
   have HB1:=HB1.out 1
   have HB1:Hid ((W1 1).heap[wr.heap.size]?=some (.cells #[.float .f64 (X 1),.float .f64 (Y 1)] 99 (0,0))):=HB1
   have HBW:Hid (Below W.heap.size W (W1 1)):=HBW1.out 1
   clear HBW1
   generalize W1 1=V at *
   go_upto_region 5 with fail
   rw[←hW1]
   clear hW1
   go_wp2_with fail
   refine kd.mono ?_
   rintro r w2 ⟨n,rfl,hl,hb2⟩
   have ko:=sorn_lk hl w2
   have hm:=fun ts t=>run_fmin (P:=Tryz.prog) w2 ts t _ _ (HLo.out 1).1 (onF_ok (HDE.out.1 1)).1 (HLo.out 1).2 (onF_ok (HDE.out.1 1)).2
   rw[←(HL1.out 1).1] at hm
   obtain⟨t0,t1⟩:=box_cells2 (box_later HB1.out hb2 (lt_of_box HB1.out))
   have HB3:Hid (Bw W w2):=HBW.out.trans (hb2.mono HBW.out.size)
   clear hl hb2 kd s0 s1 HBW HB1
   have ku:=HU.out 1 (by omega) w2 (HX.out.1.trans (HB3.out.mono HX.out.1.size))
   generalize onF (D 1)=d0 at *
   go_wp2_with fail
   refine ko.mono ?_
   rintro r w3 ⟨rfl,hw⟩
   replace hw:=hw.symm
   subst hw
   clear ko
   go_wp2_with fail
   refine ku.mono ?_
   rintro r w3 ⟨n2,rfl,hl,hb2⟩
   have ko:=sorn_lk hl w3
   clear hm
   have hm:=fun ts t=>run_fmax (P:=Tryz.prog) w3 ts t _ _ (HHi.out 1).1 (onF_ok (HDE.out.2 1)).1 (HHi.out 1).2 (onF_ok (HDE.out.2 1)).2
   rw[←(HL1.out 1).2] at hm
   have HB4:Hid (Bw W w3):=HB3.out.trans (hb2.mono HB3.out.size)
   clear hl hb2 ku t0 t1 HB3
   generalize onF (E 1)=e0 at *
   go_wp2_with fail
   refine ko.mono ?_
   rintro r w4 ⟨rfl,hw⟩
   replace hw:=hw.symm
   subst hw
   clear ko
   go_wp2_with fail
   exact⟨⟨1+1,by omega,rfl,rfl,rfl,HB4⟩,by simp[intOf]⟩
  ·have hW1:W1 2=wr.alloc (.cells #[.float .f64 (X 2),.float .f64 (Y 2)] 99):=by rw[hW1]
   have hp:=run_pairs2 (X 0) (Y 0) (X 1) (Y 1) (X 2) (Y 2) (X 3) (Y 3) wr
   have kd:=HD.out 2 (by omega) (W1 2) (HX.out.1.trans ((HBW1.out 2).mono HX.out.1.size))
   have ⟨s0,s1⟩:=box_cells2 (HB1.out 2)
   have HB1:=HB1.out 2
   have HB1:Hid ((W1 2).heap[wr.heap.size]?=some (.cells #[.float .f64 (X 2),.float .f64 (Y 2)] 99 (0,0))):=HB1
   have HBW:Hid (Below W.heap.size W (W1 2)):=HBW1.out 2
   clear HBW1
   generalize W1 2=V at *
   go_upto_region 5 with fail
   rw[←hW1]
   clear hW1
   go_wp2_with fail
   refine kd.mono ?_
   rintro r w2 ⟨n,rfl,hl,hb2⟩
   have ko:=sorn_lk hl w2
   have hm:=fun ts t=>run_fmin (P:=Tryz.prog) w2 ts t _ _ (HLo.out 2).1 (onF_ok (HDE.out.1 2)).1 (HLo.out 2).2 (onF_ok (HDE.out.1 2)).2
   rw[←(HL1.out 2).1] at hm
   obtain⟨t0,t1⟩:=box_cells2 (box_later HB1.out hb2 (lt_of_box HB1.out))
   have HB3:Hid (Bw W w2):=HBW.out.trans (hb2.mono HBW.out.size)
   clear hl hb2 kd s0 s1 HBW HB1
   have ku:=HU.out 2 (by omega) w2 (HX.out.1.trans (HB3.out.mono HX.out.1.size))
   generalize onF (D 2)=d0 at *
   go_wp2_with fail
   refine ko.mono ?_
   rintro r w3 ⟨rfl,hw⟩
   replace hw:=hw.symm
   subst hw
   clear ko
   go_wp2_with fail
   refine ku.mono ?_
   rintro r w3 ⟨n2,rfl,hl,hb2⟩
   have ko:=sorn_lk hl w3
   clear hm
   have hm:=fun ts t=>run_fmax (P:=Tryz.prog) w3 ts t _ _ (HHi.out 2).1 (onF_ok (HDE.out.2 2)).1 (HHi.out 2).2 (onF_ok (HDE.out.2 2)).2
   rw[←(HL1.out 2).2] at hm
   have HB4:Hid (Bw W w3):=HB3.out.trans (hb2.mono HB3.out.size)
   clear hl hb2 ku t0 t1 HB3
   generalize onF (E 2)=e0 at *
   go_wp2_with fail
   refine ko.mono ?_
   rintro r w4 ⟨rfl,hw⟩
   replace hw:=hw.symm
   subst hw
   clear ko
   go_wp2_with fail
   exact⟨⟨2+1,by omega,rfl,rfl,rfl,HB4⟩,by simp[intOf]⟩
  ·have hW1:W1 3=wr.alloc (.cells #[.float .f64 (X 3),.float .f64 (Y 3)] 99):=by rw[hW1]
   have hp:=run_pairs3 (X 0) (Y 0) (X 1) (Y 1) (X 2) (Y 2) (X 3) (Y 3) wr
   have kd:=HD.out 3 (by omega) (W1 3) (HX.out.1.trans ((HBW1.out 3).mono HX.out.1.size))
   have ⟨s0,s1⟩:=box_cells2 (HB1.out 3)
   have HB1:=HB1.out 3
   have HB1:Hid ((W1 3).heap[wr.heap.size]?=some (.cells #[.float .f64 (X 3),.float .f64 (Y 3)] 99 (0,0))):=HB1
   have HBW:Hid (Below W.heap.size W (W1 3)):=HBW1.out 3
   clear HBW1
   generalize W1 3=V at *
   go_upto_region 5 with fail
   rw[←hW1]
   clear hW1
   go_wp2_with fail
   refine kd.mono ?_
   rintro r w2 ⟨n,rfl,hl,hb2⟩
   have ko:=sorn_lk hl w2
   have hm:=fun ts t=>run_fmin (P:=Tryz.prog) w2 ts t _ _ (HLo.out 3).1 (onF_ok (HDE.out.1 3)).1 (HLo.out 3).2 (onF_ok (HDE.out.1 3)).2
   rw[←(HL1.out 3).1] at hm
   obtain⟨t0,t1⟩:=box_cells2 (box_later HB1.out hb2 (lt_of_box HB1.out))
   have HB3:Hid (Bw W w2):=HBW.out.trans (hb2.mono HBW.out.size)
   clear hl hb2 kd s0 s1 HBW HB1
   have ku:=HU.out 3 (by omega) w2 (HX.out.1.trans (HB3.out.mono HX.out.1.size))
   generalize onF (D 3)=d0 at *
   go_wp2_with fail
   refine ko.mono ?_
   rintro r w3 ⟨rfl,hw⟩
   replace hw:=hw.symm
   subst hw
   clear ko
   go_wp2_with fail
   refine ku.mono ?_
   rintro r w3 ⟨n2,rfl,hl,hb2⟩
   have ko:=sorn_lk hl w3
   clear hm
   have hm:=fun ts t=>run_fmax (P:=Tryz.prog) w3 ts t _ _ (HHi.out 3).1 (onF_ok (HDE.out.2 3)).1 (HHi.out 3).2 (onF_ok (HDE.out.2 3)).2
   rw[←(HL1.out 3).2] at hm
   have HB4:Hid (Bw W w3):=HB3.out.trans (hb2.mono HB3.out.size)
   clear hl hb2 ku t0 t1 HB3
   generalize onF (E 3)=e0 at *
   go_wp2_with fail
   refine ko.mono ?_
   rintro r w4 ⟨rfl,hw⟩
   replace hw:=hw.symm
   subst hw
   clear ko
   go_wp2_with fail
   exact⟨⟨3+1,by omega,rfl,rfl,rfl,HB4⟩,by simp[intOf]⟩
  ·have kb:=sbetween (Lo 4) (Hi 4) wr (HLo.out 4).1 (HHi.out 4).1
   have HR:Hid (IvB wr (w.heap.size+1) 0 0):=HX.out.2.2.box hB.out
   have HBw:Hid (Bw w wr):=HX.out.1.trans (hB.out.mono HX.out.1.size)
   clear HB1 HBW1 hW1
   go_wp2_with fail
   refine kb.mono ?_
   rintro r w2 ⟨rfl,hb2⟩
   have hR2:IvB w2 (w.heap.size+1) 0 0:=HR.out.box hb2
   obtain⟨y0,y1,y2,y3⟩:=hR2.facts
   have HR:Hid (IvB w2 (w.heap.size+1) 0 0):=hR2
   have HB2:Hid (Bw w w2):=HBw.out.trans (hb2.mono HBw.out.size)
   clear hb2 hR2 kb
   generalize hA:pl (Lo 4)=A at *
   generalize hC:pl (Hi 4)=C at *
   have HAC:Hid (pl (Lo 4)=A∧pl (Hi 4)=C):=⟨hA,hC⟩
   clear hA hC
   go_wp2_with fail
   refine bodyPost_ret (results_cell_row rfl _ _ (w.heap.size+1) 24 #[.float .f64 A,.float .f64 C] (0,0) _ rfl (HR.out.set _ _) Tryz.underlying24 rfl iv_info) rfl ?_
   exact⟨by rw[HlH.out.1,HlH.out.2,HAC.out.1,HAC.out.2],below_store2 HB2.out (by omega) _ _⟩
theorem sspread_Div (X Y D E:Nat→Nat) (w:World) (hD:∀ i,D i<18446744073709551616) (hE:∀ i,E i<18446744073709551616)
  (kd:∀ i,i<4→∀ W,Bw w W→Calls Tryz.prog 73 #[.float .f64 (X i),.float .f64 (Y i),.int .i64 1] W fun r w'=>∃ n,r=.returned (.float .f64 n)∧lk n (D i)∧Bw W w')
  (ku:∀ i,i<4→∀ W,Bw w W→Calls Tryz.prog 73 #[.float .f64 (X i),.float .f64 (Y i),.int .i64 3] W fun r w'=>∃ n,r=.returned (.float .f64 n)∧lk n (E i)∧Bw W w') :
  Calls Tryz.prog 70 #[.agg #[.float .f64 (X 0),.float .f64 (Y 0),.float .f64 (X 1),.float .f64 (Y 1),.float .f64 (X 2),.float .f64 (Y 2),.float .f64 (X 3),.float .f64 (Y 3)],.func (.func 73) #[] #[]] w fun r w'=>r=.returned (.agg #[.float .f64 (pl (lowF (fun i=>onF (D i)) 4)),.float .f64 (pl (hiF (fun i=>onF (E i)) 4))])∧Bw w w':=by
 have HD:Hid _:=kd
 have HU:Hid _:=ku
 have HLo:Hid (∀ n,lowF (fun i=>onF (D i)) n<18446744073709551616∧isNaN (lowF (fun i=>onF (D i)) n)=false):=lowF_ok fun i=>onF_ok (hD i)
 have HHi:Hid (∀ n,hiF (fun i=>onF (E i)) n<18446744073709551616∧isNaN (hiF (fun i=>onF (E i)) n)=false):=hiF_ok fun i=>onF_ok (hE i)
 have HDE:Hid ((∀ i,D i<18446744073709551616)∧∀ i,E i<18446744073709551616):=⟨hD,hE⟩
 obtain⟨W,hW⟩:∃ W,W=(w.alloc (.cells #[.float .f64 (X 0),.float .f64 (Y 0),.float .f64 (X 1),.float .f64 (Y 1),.float .f64 (X 2),.float .f64 (Y 2),.float .f64 (X 3),.float .f64 (Y 3)] 101)).alloc (.cells #[.float .f64 0,.float .f64 0] 24):=⟨_,rfl⟩
 have HX:Hid (Bw w W∧W.heap[w.heap.size]?=some (.cells #[.float .f64 (X 0),.float .f64 (Y 0),.float .f64 (X 1),.float .f64 (Y 1),.float .f64 (X 2),.float .f64 (Y 2),.float .f64 (X 3),.float .f64 (Y 3)] 101 (0,0))∧IvB W (w.heap.size+1) 0 0):=by
  rw[hW]
  refine⟨((Below.refl _ _).alloc (Nat.le_refl _) _).alloc (by simp) _,?_,?_⟩
  ·exact(Below.heap_alloc _ _ _ (by simp)).trans (heap_alloc_new _ _)
  ·have:=IvB.new (w.alloc (.cells #[.float .f64 (X 0),.float .f64 (Y 0),.float .f64 (X 1),.float .f64 (Y 1),.float .f64 (X 2),.float .f64 (Y 2),.float .f64 (X 3),.float .f64 (Y 3)] 101)) 0 0
   simpa using this
 clear kd ku hD hE
 go_enter Tryz.func70,Tryz.ntmps70
 go_upto_region 1 with fail
 rw[←hW]
 clear hW
 have hc:W.cell? ⟨w.heap.size,0,none⟩=some (.float .f64 (X 0))∧W.cell? ⟨w.heap.size,1,none⟩=some (.float .f64 (Y 0))∧W.cell? ⟨w.heap.size,2,none⟩=some (.float .f64 (X 1))∧W.cell? ⟨w.heap.size,3,none⟩=some (.float .f64 (Y 1))∧W.cell? ⟨w.heap.size,4,none⟩=some (.float .f64 (X 2))∧W.cell? ⟨w.heap.size,5,none⟩=some (.float .f64 (Y 2))∧W.cell? ⟨w.heap.size,6,none⟩=some (.float .f64 (X 3))∧W.cell? ⟨w.heap.size,7,none⟩=some (.float .f64 (Y 3)):=by
  have:=HX.out.2.1
  simp[World.cell?,this]
 obtain⟨q0,q1,q2,q3,q4,q5,q6,q7⟩:=hc
 have hI1:∀ W,Calls Tryz.prog 29 #[.int .i64 1] W fun r w'=>r=.returned (.float .f64 (lowF (fun i=>onF (D i)) 0))∧w'=W:=cinf_p
 have hI2:∀ W,Calls Tryz.prog 29 #[.int .i64 (-1)] W fun r w'=>r=.returned (.float .f64 (hiF (fun i=>onF (E i)) 0))∧w'=W:=cinf_m
 generalize hlo:lowF (fun i=>onF (D i))=Lo at *
 generalize hhi:hiF (fun i=>onF (E i))=Hi at *
 have HlH:Hid (lowF (fun i=>onF (D i))=Lo∧hiF (fun i=>onF (E i))=Hi):=⟨hlo,hhi⟩
 clear hlo hhi
 go_wp2_with (first|(go_at_call 29;first|(with_reducible refine(hI1 _).mono ?_;rintro r w' ⟨rfl,hw⟩;replace hw:=hw.symm;subst hw)|(with_reducible refine(hI2 _).mono ?_;rintro r w' ⟨rfl,hw⟩;replace hw:=hw.symm;subst hw)))
 clear hI1 hI2 q0 q1 q2 q3 q4 q5 q6 q7
 go_loopw [5,6,12] (fun lo hi i wr=>∃ j:Nat,j≤4∧i=.int .i64 j∧lo=.float .f64 (Lo j)∧hi=.float .f64 (Hi j)∧Hid (Bw W wr)) (fun lo hi i _=>4 - (intOf i).toNat)
 case atStart=>exact⟨0,by omega,rfl,rfl,rfl,Below.refl _ _⟩
 case round =>
  obtain⟨j,hj,rfl,rfl,rfl,hB⟩:=hrel
  obtain⟨W1,hW1⟩:∃ f:Nat→World,f=fun j=>wr.alloc (.cells #[.float .f64 (X j),.float .f64 (Y j)] 99):=⟨_,rfl⟩
  have HB1:Hid (∀ j,(W1 j).heap[wr.heap.size]?=some (.cells #[.float .f64 (X j),.float .f64 (Y j)] 99 (0,0))):=fun j=>by rw[hW1];exact heap_alloc_new _ _
  have HBW1:Hid (∀ j,Below W.heap.size W (W1 j)):=fun j=>by rw[hW1];exact hB.out.alloc hB.out.size _
  have HL1:Hid (∀ j,Lo (j+1)=fMin (Lo j) (onF (D j))∧Hi (j+1)=fMax (Hi j) (onF (E j))):=fun j=>by rw[←HlH.out.1,←HlH.out.2];exact⟨rfl,rfl⟩
  rcases(show j=0∨j=1∨j=2∨j=3∨j=4 by omega)with rfl|rfl|rfl|rfl|rfl
  ·have hW1:W1 0=wr.alloc (.cells #[.float .f64 (X 0),.float .f64 (Y 0)] 99):=by rw[hW1]
   have hp:=run_pairs0 (X 0) (Y 0) (X 1) (Y 1) (X 2) (Y 2) (X 3) (Y 3) wr
   have kd:=HD.out 0 (by omega) (W1 0) (HX.out.1.trans ((HBW1.out 0).mono HX.out.1.size))
   have ⟨s0,s1⟩:=box_cells2 (HB1.out 0)
   have HB1:=HB1.out 0
   have HB1:Hid ((W1 0).heap[wr.heap.size]?=some (.cells #[.float .f64 (X 0),.float .f64 (Y 0)] 99 (0,0))):=HB1
   have HBW:Hid (Below W.heap.size W (W1 0)):=HBW1.out 0
   clear HBW1
   generalize W1 0=V at *
   go_upto_region 5 with fail
   rw[←hW1]
   clear hW1
   go_wp2_with fail
   refine kd.mono ?_
   rintro r w2 ⟨n,rfl,hl,hb2⟩
   have ko:=sorn_lk hl w2
   have hm:=fun ts t=>run_fmin (P:=Tryz.prog) w2 ts t _ _ (HLo.out 0).1 (onF_ok (HDE.out.1 0)).1 (HLo.out 0).2 (onF_ok (HDE.out.1 0)).2
   rw[←(HL1.out 0).1] at hm
   obtain⟨t0,t1⟩:=box_cells2 (box_later HB1.out hb2 (lt_of_box HB1.out))
   have HB3:Hid (Bw W w2):=HBW.out.trans (hb2.mono HBW.out.size)
   clear hl hb2 kd s0 s1 HBW HB1
   have ku:=HU.out 0 (by omega) w2 (HX.out.1.trans (HB3.out.mono HX.out.1.size))
   generalize onF (D 0)=d0 at *
   go_wp2_with fail
   refine ko.mono ?_
   rintro r w3 ⟨rfl,hw⟩
   replace hw:=hw.symm
   subst hw
   clear ko
   go_wp2_with fail
   refine ku.mono ?_
   rintro r w3 ⟨n2,rfl,hl,hb2⟩
   have ko:=sorn_lk hl w3
   clear hm
   have hm:=fun ts t=>run_fmax (P:=Tryz.prog) w3 ts t _ _ (HHi.out 0).1 (onF_ok (HDE.out.2 0)).1 (HHi.out 0).2 (onF_ok (HDE.out.2 0)).2
   rw[←(HL1.out 0).2] at hm
   have HB4:Hid (Bw W w3):=HB3.out.trans (hb2.mono HB3.out.size)
   clear hl hb2 ku t0 t1 HB3
   generalize onF (E 0)=e0 at *
   go_wp2_with fail
   refine ko.mono ?_
   rintro r w4 ⟨rfl,hw⟩
   replace hw:=hw.symm
   subst hw
   clear ko
   go_wp2_with fail
   exact⟨⟨0+1,by omega,rfl,rfl,rfl,HB4⟩,by simp[intOf]⟩
  ·have hW1:W1 1=wr.alloc (.cells #[.float .f64 (X 1),.float .f64 (Y 1)] 99):=by rw[hW1]
   have hp:=run_pairs1 (X 0) (Y 0) (X 1) (Y 1) (X 2) (Y 2) (X 3) (Y 3) wr
   have kd:=HD.out 1 (by omega) (W1 1) (HX.out.1.trans ((HBW1.out 1).mono HX.out.1.size))
   have ⟨s0,s1⟩:=box_cells2 (HB1.out 1)
   have HB1:=HB1.out 1
   have HB1:Hid ((W1 1).heap[wr.heap.size]?=some (.cells #[.float .f64 (X 1),.float .f64 (Y 1)] 99 (0,0))):=HB1
   have HBW:Hid (Below W.heap.size W (W1 1)):=HBW1.out 1
   clear HBW1
   generalize W1 1=V at *
   go_upto_region 5 with fail
   rw[←hW1]
   clear hW1
   go_wp2_with fail
   refine kd.mono ?_
   rintro r w2 ⟨n,rfl,hl,hb2⟩
   have ko:=sorn_lk hl w2
   have hm:=fun ts t=>run_fmin (P:=Tryz.prog) w2 ts t _ _ (HLo.out 1).1 (onF_ok (HDE.out.1 1)).1 (HLo.out 1).2 (onF_ok (HDE.out.1 1)).2
   rw[←(HL1.out 1).1] at hm
   obtain⟨t0,t1⟩:=box_cells2 (box_later HB1.out hb2 (lt_of_box HB1.out))
   have HB3:Hid (Bw W w2):=HBW.out.trans (hb2.mono HBW.out.size)
   clear hl hb2 kd s0 s1 HBW HB1
   have ku:=HU.out 1 (by omega) w2 (HX.out.1.trans (HB3.out.mono HX.out.1.size))
   generalize onF (D 1)=d0 at *
   go_wp2_with fail
   refine ko.mono ?_
   rintro r w3 ⟨rfl,hw⟩
   replace hw:=hw.symm
   subst hw
   clear ko
   go_wp2_with fail
   refine ku.mono ?_
   rintro r w3 ⟨n2,rfl,hl,hb2⟩
   have ko:=sorn_lk hl w3
   clear hm
   have hm:=fun ts t=>run_fmax (P:=Tryz.prog) w3 ts t _ _ (HHi.out 1).1 (onF_ok (HDE.out.2 1)).1 (HHi.out 1).2 (onF_ok (HDE.out.2 1)).2
   rw[←(HL1.out 1).2] at hm
   have HB4:Hid (Bw W w3):=HB3.out.trans (hb2.mono HB3.out.size)
   clear hl hb2 ku t0 t1 HB3
   generalize onF (E 1)=e0 at *
   go_wp2_with fail
   refine ko.mono ?_
   rintro r w4 ⟨rfl,hw⟩
   replace hw:=hw.symm
   subst hw
   clear ko
   go_wp2_with fail
   exact⟨⟨1+1,by omega,rfl,rfl,rfl,HB4⟩,by simp[intOf]⟩
  ·have hW1:W1 2=wr.alloc (.cells #[.float .f64 (X 2),.float .f64 (Y 2)] 99):=by rw[hW1]
   have hp:=run_pairs2 (X 0) (Y 0) (X 1) (Y 1) (X 2) (Y 2) (X 3) (Y 3) wr
   have kd:=HD.out 2 (by omega) (W1 2) (HX.out.1.trans ((HBW1.out 2).mono HX.out.1.size))
   have ⟨s0,s1⟩:=box_cells2 (HB1.out 2)
   have HB1:=HB1.out 2
   have HB1:Hid ((W1 2).heap[wr.heap.size]?=some (.cells #[.float .f64 (X 2),.float .f64 (Y 2)] 99 (0,0))):=HB1
   have HBW:Hid (Below W.heap.size W (W1 2)):=HBW1.out 2
   clear HBW1
   generalize W1 2=V at *
   go_upto_region 5 with fail
   rw[←hW1]
   clear hW1
   go_wp2_with fail
   refine kd.mono ?_
   rintro r w2 ⟨n,rfl,hl,hb2⟩
   have ko:=sorn_lk hl w2
   have hm:=fun ts t=>run_fmin (P:=Tryz.prog) w2 ts t _ _ (HLo.out 2).1 (onF_ok (HDE.out.1 2)).1 (HLo.out 2).2 (onF_ok (HDE.out.1 2)).2
   rw[←(HL1.out 2).1] at hm
   obtain⟨t0,t1⟩:=box_cells2 (box_later HB1.out hb2 (lt_of_box HB1.out))
   have HB3:Hid (Bw W w2):=HBW.out.trans (hb2.mono HBW.out.size)
   clear hl hb2 kd s0 s1 HBW HB1
   have ku:=HU.out 2 (by omega) w2 (HX.out.1.trans (HB3.out.mono HX.out.1.size))
   generalize onF (D 2)=d0 at *
   go_wp2_with fail
   refine ko.mono ?_
   rintro r w3 ⟨rfl,hw⟩
   replace hw:=hw.symm
   subst hw
   clear ko
   go_wp2_with fail
   refine ku.mono ?_
   rintro r w3 ⟨n2,rfl,hl,hb2⟩
   have ko:=sorn_lk hl w3
   clear hm
   have hm:=fun ts t=>run_fmax (P:=Tryz.prog) w3 ts t _ _ (HHi.out 2).1 (onF_ok (HDE.out.2 2)).1 (HHi.out 2).2 (onF_ok (HDE.out.2 2)).2
   rw[←(HL1.out 2).2] at hm
   have HB4:Hid (Bw W w3):=HB3.out.trans (hb2.mono HB3.out.size)
   clear hl hb2 ku t0 t1 HB3
   generalize onF (E 2)=e0 at *
   go_wp2_with fail
   refine ko.mono ?_
   rintro r w4 ⟨rfl,hw⟩
   replace hw:=hw.symm
   subst hw
   clear ko
   go_wp2_with fail
   exact⟨⟨2+1,by omega,rfl,rfl,rfl,HB4⟩,by simp[intOf]⟩
  ·have hW1:W1 3=wr.alloc (.cells #[.float .f64 (X 3),.float .f64 (Y 3)] 99):=by rw[hW1]
   have hp:=run_pairs3 (X 0) (Y 0) (X 1) (Y 1) (X 2) (Y 2) (X 3) (Y 3) wr
   have kd:=HD.out 3 (by omega) (W1 3) (HX.out.1.trans ((HBW1.out 3).mono HX.out.1.size))
   have ⟨s0,s1⟩:=box_cells2 (HB1.out 3)
   have HB1:=HB1.out 3
   have HB1:Hid ((W1 3).heap[wr.heap.size]?=some (.cells #[.float .f64 (X 3),.float .f64 (Y 3)] 99 (0,0))):=HB1
   have HBW:Hid (Below W.heap.size W (W1 3)):=HBW1.out 3
   clear HBW1
   generalize W1 3=V at *
   go_upto_region 5 with fail
   rw[←hW1]
   clear hW1
   go_wp2_with fail
   refine kd.mono ?_
   rintro r w2 ⟨n,rfl,hl,hb2⟩
   have ko:=sorn_lk hl w2
   have hm:=fun ts t=>run_fmin (P:=Tryz.prog) w2 ts t _ _ (HLo.out 3).1 (onF_ok (HDE.out.1 3)).1 (HLo.out 3).2 (onF_ok (HDE.out.1 3)).2
   rw[←(HL1.out 3).1] at hm
   obtain⟨t0,t1⟩:=box_cells2 (box_later HB1.out hb2 (lt_of_box HB1.out))
   have HB3:Hid (Bw W w2):=HBW.out.trans (hb2.mono HBW.out.size)
   clear hl hb2 kd s0 s1 HBW HB1
   have ku:=HU.out 3 (by omega) w2 (HX.out.1.trans (HB3.out.mono HX.out.1.size))
   generalize onF (D 3)=d0 at *
   go_wp2_with fail
   refine ko.mono ?_
   rintro r w3 ⟨rfl,hw⟩
   replace hw:=hw.symm
   subst hw
   clear ko
   go_wp2_with fail
   refine ku.mono ?_
   rintro r w3 ⟨n2,rfl,hl,hb2⟩
   have ko:=sorn_lk hl w3
   clear hm
   have hm:=fun ts t=>run_fmax (P:=Tryz.prog) w3 ts t _ _ (HHi.out 3).1 (onF_ok (HDE.out.2 3)).1 (HHi.out 3).2 (onF_ok (HDE.out.2 3)).2
   rw[←(HL1.out 3).2] at hm
   have HB4:Hid (Bw W w3):=HB3.out.trans (hb2.mono HB3.out.size)
   clear hl hb2 ku t0 t1 HB3
   generalize onF (E 3)=e0 at *
   go_wp2_with fail
   refine ko.mono ?_
   rintro r w4 ⟨rfl,hw⟩
   replace hw:=hw.symm
   subst hw
   clear ko
   go_wp2_with fail
   exact⟨⟨3+1,by omega,rfl,rfl,rfl,HB4⟩,by simp[intOf]⟩
  ·have kb:=sbetween (Lo 4) (Hi 4) wr (HLo.out 4).1 (HHi.out 4).1
   have HR:Hid (IvB wr (w.heap.size+1) 0 0):=HX.out.2.2.box hB.out
   have HBw:Hid (Bw w wr):=HX.out.1.trans (hB.out.mono HX.out.1.size)
   clear HB1 HBW1 hW1
   go_wp2_with fail
   refine kb.mono ?_
   rintro r w2 ⟨rfl,hb2⟩
   have hR2:IvB w2 (w.heap.size+1) 0 0:=HR.out.box hb2
   obtain⟨y0,y1,y2,y3⟩:=hR2.facts
   have HR:Hid (IvB w2 (w.heap.size+1) 0 0):=hR2
   have HB2:Hid (Bw w w2):=HBw.out.trans (hb2.mono HBw.out.size)
   clear hb2 hR2 kb
   generalize hA:pl (Lo 4)=A at *
   generalize hC:pl (Hi 4)=C at *
   have HAC:Hid (pl (Lo 4)=A∧pl (Hi 4)=C):=⟨hA,hC⟩
   clear hA hC
   go_wp2_with fail
   refine bodyPost_ret (results_cell_row rfl _ _ (w.heap.size+1) 24 #[.float .f64 A,.float .f64 C] (0,0) _ rfl (HR.out.set _ _) Tryz.underlying24 rfl iv_info) rfl ?_
   exact⟨by rw[HlH.out.1,HlH.out.2,HAC.out.1,HAC.out.2],below_store2 HB2.out (by omega) _ _⟩
def pk4 (a b c d:Nat):Nat→Nat
 | 0=>a
 | 1=>b
 | 2=>c
 | _=>d
theorem pk4_lt {a b c d:Nat} (ha:a<18446744073709551616) (hb:b<18446744073709551616) (hc:c<18446744073709551616) (hd:d<18446744073709551616) (i:Nat):pk4 a b c d i<18446744073709551616:=by
 unfold pk4
 split <;> assumption
def mlo (a b c d:Nat):Nat:=pl (lowF (fun i=>onF (fMul (pk4 a a b b i) (pk4 c d c d i) 1)) 4)
def mhi (a b c d:Nat):Nat:=pl (hiF (fun i=>onF (fMul (pk4 a a b b i) (pk4 c d c d i) 3)) 4)
def qlo (a b c d:Nat):Nat:=pl (lowF (fun i=>onF (fDiv (pk4 a a b b i) (pk4 c d c d i) 1)) 4)
def qhi (a b c d:Nat):Nat:=pl (hiF (fun i=>onF (fDiv (pk4 a a b b i) (pk4 c d c d i) 3)) 4)
theorem smul (a b c d:Nat) (ha:a<18446744073709551616) (hb:b<18446744073709551616) (hc:c<18446744073709551616) (hd:d<18446744073709551616) (w:World) (hT:Tab32 w) (hJ:Ie.Tab w) :
  Calls Tryz.prog 27 #[.agg #[.float .f64 a,.float .f64 b],.agg #[.float .f64 c,.float .f64 d]] w fun r w'=>r=.returned (orV (vI a b&&vI c d) (mlo a b c d) (mhi a b c d) (.int .i64 0) (.int .i64 1))∧Bw w w' :=
 smul_1 a b c d _ _ _ w (fun W g T h=>smaybe h ha hb hc hd) (fun _ W hW =>
  sspread_Mul (pk4 a a b b) (pk4 c d c d) (fun i=>fMul (pk4 a a b b i) (pk4 c d c d i) 1) (fun i=>fMul (pk4 a a b b i) (pk4 c d c d i) 3) W (fun i=>fMul_lt) (fun i=>fMul_lt)
   (fun i _ V hV=>pmul_all _ _ 1 (pk4_lt ha ha hb hb i) (pk4_lt hc hd hc hd i) V (hT.later (hW.trans (hV.mono hW.size))) (Tab.later hJ (hW.trans (hV.mono hW.size))))
   (fun i _ V hV=>pmul_all _ _ 3 (pk4_lt ha ha hb hb i) (pk4_lt hc hd hc hd i) V (hT.later (hW.trans (hV.mono hW.size))) (Tab.later hJ (hW.trans (hV.mono hW.size)))))
theorem squo (a b c d:Nat) (ha:a<18446744073709551616) (hb:b<18446744073709551616) (hc:c<18446744073709551616) (hd:d<18446744073709551616) (w:World) (hT:Tab32 w) (hJ:Ie.Tab w) :
  Calls Tryz.prog 30 #[.agg #[.float .f64 a,.float .f64 b],.agg #[.float .f64 c,.float .f64 d]] w fun r w'=>r=.returned (quoV (vI a b&&vI c d) (hI c d 0) (qlo a b c d) (qhi a b c d))∧Bw w w' :=
 squo_1 a b c d _ _ _ _ w (fun W g T h=>smaybe h ha hb hc hd) (fun _ _ W hW =>
  sspread_Div (pk4 a a b b) (pk4 c d c d) (fun i=>fDiv (pk4 a a b b i) (pk4 c d c d i) 1) (fun i=>fDiv (pk4 a a b b i) (pk4 c d c d i) 3) W (fun i=>fDiv_lt) (fun i=>fDiv_lt)
   (fun i _ V hV=>pdiv_all _ _ 1 (pk4_lt ha ha hb hb i) (pk4_lt hc hd hc hd i) V (hT.later (hW.trans (hV.mono hW.size))) (Tab.later hJ (hW.trans (hV.mono hW.size))))
   (fun i _ V hV=>pdiv_all _ _ 3 (pk4_lt ha ha hb hb i) (pk4_lt hc hd hc hd i) V (hT.later (hW.trans (hV.mono hW.size))) (Tab.later hJ (hW.trans (hV.mono hW.size)))))
  (fun _ W=>shas c d 0 hc hd (by omega) W)
theorem mul_at:mlo 13830554455654793216 4611686018427387904 4613937818241073152 9218868437227405312=18442240474082181120∧mhi 13830554455654793216 4611686018427387904 4613937818241073152 9218868437227405312=9218868437227405312∧(vI 13830554455654793216 4611686018427387904&&vI 4613937818241073152 9218868437227405312)=true:=by decide +kernel
theorem quo_at:qlo 4607182418800017408 4607182418800017408 4613937818241073152 4613937818241073152=4599676419421066581∧qhi 4607182418800017408 4607182418800017408 4613937818241073152 4613937818241073152=4599676419421066582∧(vI 4607182418800017408 4607182418800017408&&vI 4613937818241073152 4613937818241073152)=true∧hI 4613937818241073152 4613937818241073152 0=false:=by decide +kernel
theorem quo_at2:(vI 4607182418800017408 4607182418800017408&&vI 13830554455654793216 4607182418800017408)=true∧hI 13830554455654793216 4607182418800017408 0=true:=by decide +kernel
theorem has_at:hI 4607182418800017408 4611686018427387904 4609434218613702656=true∧hI 4607182418800017408 4611686018427387904 4613937818241073152=false:=by decide +kernel
attribute [local go_sem] run_store_flt
def OutN8 (W:World) (t:Bool×Nat×Int) (r:Ending) (w':World):Prop:=∃ s ao n cap e,r=.returned (.tuple #[.agg #[.bool s,.slice ao n cap,.int .i64 e],.int .i64 0])∧PN w' (.agg #[.bool s,.slice ao n cap,.int .i64 e]) t∧Bw W w'
def tSh (t:Bool×Nat×Int) (k:Int):Bool×Nat×Int:=if t.2.1=0 then(false,0,0) else(t.1,t.2.1,t.2.2+k)
theorem pshift {t:Bool×Nat×Int} {A:Value} {k0:Int} {w:World} (ok:Ok t) (h:PN w A t) (hk1:¬ k0 < -65536 - t.2.2) (hk2:¬ 65536 - t.2.2<k0) :
  Calls Tryz.prog 141 #[A,.int .i64 k0] w fun r w'=>OutN8 w (tSh t k0) r w':=by
 obtain⟨pa,pc,rfl,i1⟩:=h
 obtain⟨f1,f2,f3,f4,f5⟩:=ok.facts
 have km:∀ W g,Bw w W→W.heap[g]?=some (.cells #[.bool t.1,.slice pa (dlen t.2.1) pc,.int .i64 t.2.2] 28 (0,0))→Calls Tryz.prog 44 #[.slice (some ⟨g,0,none⟩) 1 1] W fun r w'=>r=.returned (.bool true)∧Bw W w':=fun W g hW hg=>by
  have:=maybe1 hg (i1.later hW) (by omega)
  rw[show okN t.1 (dlen t.2.1) t.2.1 t.2.2=true from ok] at this
  exact this
 unfold tSh
 by_cases h0:t.2.1=0
 ·rw[if_pos h0]
  have hd:dlen t.2.1=0:=by rw[h0,dlen_zero]
  rw[hd] at km ⊢
  refine(shift_1 t.1 pa pc t.2.2 k0 w km).mono ?_
  rintro r w' ⟨rfl,hb⟩
  exact⟨_,_,_,_,_,rfl,⟨none,0,by rw[dlen_zero],by rw[dlen_zero];exact is_nil _⟩,hb⟩
 ·rw[if_neg h0]
  refine(shift_3 t.1 pa (dlen t.2.1) pc t.2.2 k0 w t.2.1 i1 (by omega) (by omega) (by have:=dlen_pos h0;simp;omega) (by omega) (by omega) hk1 hk2 km).mono ?_
  rintro r w' ⟨v,rfl,ho,hb⟩
  obtain⟨ao,cap,rfl,h1,h2,h3⟩:=ho.is
  exact⟨_,_,_,_,_,rfl,⟨ao,cap,rfl,ao,cap,rfl,h1,h2,h3⟩,hb⟩
theorem shalf_1 (a b F:Nat) (t1 t2 t3 t4:Bool×Nat×Int) (w:World)
  (k1:∀ W,Bw w W→Calls Tryz.prog 78 #[.float .f64 a] W fun r w'=>OutN8 W t1 r w')
  (k2:∀ W,Bw w W→Calls Tryz.prog 78 #[.float .f64 b] W fun r w'=>OutN8 W t2 r w')
  (k3:∀ W X Y,Bw w W→PN W X t1→PN W Y t2→Calls Tryz.prog 39 #[X,Y] W fun r w'=>OutN8 W t3 r w')
  (k4:∀ W X,Bw w W→PN W X t3→Calls Tryz.prog 141 #[X,.int .i64 (-1)] W fun r w'=>OutN8 W t4 r w')
  (k5:∀ W X,Bw w W→PN W X t4→Calls Tryz.prog 140 #[X,.int .i64 2] W fun r w'=>r=.returned (.tuple #[.float .f64 F,.int .i64 0])∧Bw W w') :
  Calls Tryz.prog 121 #[.float .f64 a,.float .f64 b] w fun r w'=>r=.returned (.float .f64 F)∧Bw w w':=by
 have H2:Hid _:=k2
 have H3:Hid _:=k3
 have H4:Hid _:=k4
 have H5:Hid _:=k5
 have kk:=k1 w (Below.refl _ _)
 clear k1 k2 k3 k4 k5
 go_enter Tryz.func121,Tryz.ntmps121
 go_wp2_with fail
 refine kk.mono ?_
 rintro r w1 ⟨s1,ao1,n1,cap1,e1,rfl,hP1,hb1⟩
 clear kk
 obtain⟨W1,hW1⟩:∃ W1,W1=w1.alloc (.cells #[.bool s1,.slice ao1 n1 cap1,.int .i64 e1] 28):=⟨_,rfl⟩
 have hbW1:Bw w W1:=by rw[hW1];exact hb1.alloc hb1.size _
 have HP1:Hid (PN W1 (.agg #[.bool s1,.slice ao1 n1 cap1,.int .i64 e1]) t1):=by rw[hW1];exact hP1.later ((Below.refl _ _).alloc (Nat.le_refl _) _)
 have HH1:Hid (W1.heap[w1.heap.size]?=some (.cells #[.bool s1,.slice ao1 n1 cap1,.int .i64 e1] 28 (0,0))):=by rw[hW1];exact heap_alloc_new _ _
 have HB1:Hid (Bw w W1):=hbW1
 have kk:=H2.out W1 hbW1
 clear hP1 hb1 hbW1 H2
 go_wp2_with fail
 rw[←hW1]
 clear hW1
 generalize w1.heap.size=g1 at *
 refine kk.mono ?_
 rintro r w2 ⟨s2,ao2,n2,cap2,e2,rfl,hP2,hb2⟩
 clear kk
 obtain⟨W2,hW2⟩:∃ W2,W2=w2.alloc (.cells #[.bool s2,.slice ao2 n2 cap2,.int .i64 e2] 28):=⟨_,rfl⟩
 have hbW2:Bw W1 W2:=by rw[hW2];exact hb2.alloc hb2.size _
 have HP2:Hid (PN W2 (.agg #[.bool s2,.slice ao2 n2 cap2,.int .i64 e2]) t2):=by rw[hW2];exact hP2.later ((Below.refl _ _).alloc (Nat.le_refl _) _)
 have HH2:Hid (W2.heap[w2.heap.size]?=some (.cells #[.bool s2,.slice ao2 n2 cap2,.int .i64 e2] 28 (0,0))):=by rw[hW2];exact heap_alloc_new _ _
 have HB2:Hid (Bw w W2):=HB1.out.trans (hbW2.mono HB1.out.size)
 obtain⟨⟨a0,a1,a2⟩,-⟩:=box_cells (box_later HH1.out hbW2 (lt_of_box HH1.out))
 obtain⟨⟨b0,b1,b2⟩,-⟩:=box_cells HH2.out
 rw[hW2] at a0 a1 a2 b0 b1 b2
 have kk:=H3.out W2 _ _ HB2.out (HP1.out.later hbW2) HP2.out
 clear hP2 hb2 hbW2 H3 HB1 HP1 HH1
 go_wp2_with fail
 rw[←hW2]
 clear hW2 a0 a1 a2 b0 b1 b2
 generalize w2.heap.size=g2 at *
 refine kk.mono ?_
 rintro r w3 ⟨s3,ao3,n3,cap3,e3,rfl,hP3,hb3⟩
 clear kk
 obtain⟨W3,hW3⟩:∃ W3,W3=w3.alloc (.cells #[.bool s3,.slice ao3 n3 cap3,.int .i64 e3] 28):=⟨_,rfl⟩
 have hbW3:Bw W2 W3:=by rw[hW3];exact hb3.alloc hb3.size _
 have HP3:Hid (PN W3 (.agg #[.bool s3,.slice ao3 n3 cap3,.int .i64 e3]) t3):=by rw[hW3];exact hP3.later ((Below.refl _ _).alloc (Nat.le_refl _) _)
 have HH3:Hid (W3.heap[w3.heap.size]?=some (.cells #[.bool s3,.slice ao3 n3 cap3,.int .i64 e3] 28 (0,0))):=by rw[hW3];exact heap_alloc_new _ _
 have HB3:Hid (Bw w W3):=HB2.out.trans (hbW3.mono HB2.out.size)
 obtain⟨⟨b0,b1,b2⟩,-⟩:=box_cells HH3.out
 rw[hW3] at b0 b1 b2
 have kk:=H4.out W3 _ HB3.out HP3.out
 clear hP3 hb3 hbW3 H4 HB2 HP2 HH2
 go_wp2_with fail
 rw[←hW3]
 clear hW3 b0 b1 b2
 generalize w3.heap.size=g3 at *
 refine kk.mono ?_
 rintro r w4 ⟨s4,ao4,n4,cap4,e4,rfl,hP4,hb4⟩
 clear kk
 obtain⟨W4,hW4⟩:∃ W4,W4=w4.alloc (.cells #[.bool s4,.slice ao4 n4 cap4,.int .i64 e4] 28):=⟨_,rfl⟩
 have hbW4:Bw W3 W4:=by rw[hW4];exact hb4.alloc hb4.size _
 have HP4:Hid (PN W4 (.agg #[.bool s4,.slice ao4 n4 cap4,.int .i64 e4]) t4):=by rw[hW4];exact hP4.later ((Below.refl _ _).alloc (Nat.le_refl _) _)
 have HH4:Hid (W4.heap[w4.heap.size]?=some (.cells #[.bool s4,.slice ao4 n4 cap4,.int .i64 e4] 28 (0,0))):=by rw[hW4];exact heap_alloc_new _ _
 have HB4:Hid (Bw w W4):=HB3.out.trans (hbW4.mono HB3.out.size)
 obtain⟨⟨b0,b1,b2⟩,-⟩:=box_cells HH4.out
 rw[hW4] at b0 b1 b2
 have kk:=H5.out W4 _ HB4.out HP4.out
 clear hP4 hb4 hbW4 H5 HB3 HP3 HH3
 go_wp2_with fail
 rw[←hW4]
 clear hW4 b0 b1 b2
 generalize w4.heap.size=g4 at *
 refine kk.mono ?_
 rintro r w5 ⟨rfl,hb5⟩
 have HB5:Hid (Bw w w5):=HB4.out.trans (hb5.mono HB4.out.size)
 clear kk hb5 HB4 HP4 HH4
 go_wp2_with fail
 go_ret
 exact⟨rfl,HB5.out⟩
def hfS (a b:Nat):Nat:=tfF (tSh (tS (tF a) (tF b)) (-1)).1 true (tSh (tS (tF a) (tF b)) (-1)).2.1 (tSh (tS (tF a) (tF b)) (-1)).2.2 2
theorem tSh_ok {t:Bool×Nat×Int} {k:Int} (ok:Ok t) (h:t.2.1≠0 → -65536≤t.2.2+k∧t.2.2+k≤65536):Ok (tSh t k):=by
 unfold tSh
 by_cases h0:t.2.1=0
 ·rw[if_pos h0];unfold Ok;rw[dlen_zero];rfl
 ·rw[if_neg h0]
  obtain⟨h1,h2⟩:=h h0
  unfold Ok okN at ok ⊢
  have hd:dlen t.2.1≠0:=by rw[dlen_pos h0];omega
  rw[if_neg hd] at ok
  rw[if_neg hd]
  simp only[Bool.and_eq_true,decide_eq_true_eq] at ok ⊢
  exact⟨⟨ok.1.1,h1⟩,h2⟩
theorem ofN (a:Nat) (ha:a<18446744073709551616) (hf:mag a<9218868437227405312) (w:World) (hT:Tab32 w) (hJ:Ie.Tab w):Calls Tryz.prog 78 #[.float .f64 a] w fun r w'=>OutN8 w (tF a) r w':=by
 obtain⟨m,hm,hml⟩:=sM_lt a ha
 refine(of_fin a m ha w hT hJ hf hm).mono ?_
 rintro r w' ⟨A,rfl,hN,hb⟩
 have hp:=hN.pn
 rw[cn_parts a m ha hf hm] at hp
 obtain⟨s,ao,n,cap,e,rfl⟩:=hp.shape
 exact⟨s,ao,n,cap,e,rfl,hp,hb⟩
theorem hfS_facts (a b:Nat):Ok (tS (tF a) (tF b))∧Ok (tSh (tS (tF a) (tF b)) (-1))∧¬ (-1:Int) < -65536 - (tS (tF a) (tF b)).2.2∧¬ 65536 - (tS (tF a) (tF b)).2.2 < -1:=by
 have hfs:=tS_fits (tF_fits a) (tF_fits b)
 have hok:Ok (tS (tF a) (tF b)):=ok_cn (tS_okR (tF_fits a) (tF_fits b) (by omega) (by omega) (by omega))
 obtain⟨f1,f2,f3,f4,f5⟩:=hok.facts
 by_cases h0:(tS (tF a) (tF b)).2.1=0
 ·have e:=f4 h0
  refine⟨hok,tSh_ok hok (fun h=>absurd h0 h),?_,?_⟩ <;> rw[e] <;> decide
 ·rcases hfs with h|⟨h1,h2,-⟩
  ·exact absurd h h0
  ·exact⟨hok,tSh_ok hok (fun _=>⟨by omega,by omega⟩),by omega,by omega⟩
theorem shalf (a b:Nat) (ha:a<18446744073709551616) (hb:b<18446744073709551616) (hfa:mag a<9218868437227405312) (hfb:mag b<9218868437227405312) (w:World) (hT:Tab32 w) (hJ:Ie.Tab w) :
  Calls Tryz.prog 121 #[.float .f64 a,.float .f64 b] w fun r w'=>r=.returned (.float .f64 (hfS a b))∧Bw w w':=by
 obtain⟨o1,o2,o3,o4⟩:=hfS_facts a b
 have hokR:=tS_okR (tF_fits a) (tF_fits b) (by omega) (by omega) (by omega)
 exact shalf_1 a b _ (tF a) (tF b) (tS (tF a) (tF b)) (tSh (tS (tF a) (tF b)) (-1)) w (fun W h=>ofN a ha hfa W (hT.later h) (Tab.later hJ h)) (fun W h=>ofN b hb hfb W (hT.later h) (Tab.later hJ h))
  (fun W X Y h h1 h2=>add_op (tF_ok a) (tF_ok b) hokR W X Y (hT.later h) h1 h2) (fun W X h h1=>pshift o1 h1 o3 o4) (fun W X h h1=>pround (hT.later h) o2 h1 (by omega))
theorem hfS_lt (a b:Nat):hfS a b<18446744073709551616:=tfF_lt (by omega)
def fAdM (a b:Nat) (m:Int):Nat:=if fin a=false∨fin b=false then addX a b else if(tS (tF a) (tF b)).2.1=0 then sig (z0 (neg a) (neg b) m) 0 else tfF (tS (tF a) (tF b)).1 true (tS (tF a) (tF b)).2.1 (tS (tF a) (tF b)).2.2 m
theorem faddM_p (a b:Nat) (m:Int) (hm':1≤m∧m≤3) (ha:a<18446744073709551616) (hb:b<18446744073709551616) :
  fAdM a b m<18446744073709551616∧((isNaN a=true∨isNaN b=true)→fAdM a b m=9221120237041090560) ∧
   (∀ W,Tab32 W→Ie.Tab W→Calls Tryz.prog 122 #[.float .f64 a,.float .f64 b,.int .i64 m] W fun r w'=>OutF2 W (fAdM a b m) r w'):=by
 have hm:isM m=true:=by unfold isM;rcases(show m=1∨m=2∨m=3 by omega)with rfl|rfl|rfl <;> rfl
 by_cases hf:fin a=false∨fin b=false
 ·have e:fAdM a b m=addX a b:=if_pos hf
  rw[e]
  refine⟨addX_lt ha hb,fun h=>?_,fun W _ _=>?_⟩
  ·unfold addX
   rcases h with h|h
   ·rw[h,Bool.true_or,if_pos rfl]
   ·rw[h,Bool.or_true,if_pos rfl]
  ·have hrun:(∀ W,(binOp .add 22 (.float .f64 a) (.float .f64 b)).run Tryz.prog W=.ok (.float .f64 (addX a b)) W)∨∀ W,∃ n,lk n (addX a b)∧(binOp .add 22 (.float .f64 a) (.float .f64 b)).run Tryz.prog W=.ok (.float .f64 n) W.drew:=by
    rcases add_non ha hb hf with ⟨h1,h2⟩|h1
    ·refine .inr fun W=>?_
     obtain⟨n,n1,n2,hs⟩:=run_nan (P:=Tryz.prog) W .add 22 a b (by simp) h1
     exact⟨n,lk.nan n1 n2 h2,hs⟩
    ·exact .inl fun W=>run_float_arith W .add 22 .f64 a b _ h1
   by_cases hfa:mag a<9218868437227405312
   ·have hfb:¬ mag b<9218868437227405312:=by
     rcases hf with h|h
     ·exact absurd hfa (fin_false.1 h)
     ·exact fin_false.1 h
    exact padd_b a b (addX a b) m W hm (pfin_y a ha hfa) (pfin_n b hb hfb) hrun (addX_lt ha hb)
   ·exact padd_a a b (addX a b) m W hm (pfin_n a ha hfa) hrun (addX_lt ha hb)
 ·have hfa:mag a<9218868437227405312:=Nat.lt_of_not_le fun h=>hf (.inl (fin_false.2 (by omega)))
  have hfb:mag b<9218868437227405312:=Nat.lt_of_not_le fun h=>hf (.inr (fin_false.2 (by omega)))
  have hfs:=tS_fits (tF_fits a) (tF_fits b)
  have hokR:=tS_okR (tF_fits a) (tF_fits b) (by omega) (by omega) (by omega)
  have hok:Ok (tS (tF a) (tF b)):=ok_cn hokR
  obtain⟨f1,f2,f3,f4,f5⟩:=hok.facts
  have hadd:=add_op (tF_ok a) (tF_ok b) hokR
  have e:fAdM a b m=if(tS (tF a) (tF b)).2.1=0 then sig (z0 (neg a) (neg b) m) 0 else tfF (tS (tF a) (tF b)).1 true (tS (tF a) (tF b)).2.1 (tS (tF a) (tF b)).2.2 m:=if_neg hf
  rw[e]
  refine⟨?_,fun h=>(by unfold isNaN at h;simp only[decide_eq_true_eq] at h;rcases h with h|h;omega;omega),fun W hT hI=>?_⟩
  ·split
   ·exact sig_lt (by omega)
   ·exact tfF_lt hm'
  ·by_cases h0:(tS (tF a) (tF b)).2.1=0
   ·rw[if_pos h0]
    refine(padd_z a b _ m _ (tF a) (tF b) (tS (tF a) (tF b)) W hm ha hb (pfin_y a ha hfa) (pfin_y b hb hfb) (exact_ok a ha hfa W hT hI) (fun W' h=>exact_ok b hb hfb W' (hT.later h) (Tab.later hI h)) (fun W' X Y h h1 h2=>added_op hadd (hT.later h) h1 h2) (fun W' X h=>psign hok h) (by rw[sgI_nought,decide_eq_true h0]) (fun W'=>pnought _ _ m hm' W')).mono ?_
    rintro r w' ⟨rfl,hb'⟩
    exact⟨_,rfl,lk.refl (sig_lt (by omega)),hb'⟩
   ·rw[if_neg h0]
    refine(padd_r a b _ m _ (tF a) (tF b) (tS (tF a) (tF b)) W hm ha hb (pfin_y a ha hfa) (pfin_y b hb hfb) (exact_ok a ha hfa W hT hI) (fun W' h=>exact_ok b hb hfb W' (hT.later h) (Tab.later hI h)) (fun W' X Y h h1 h2=>added_op hadd (hT.later h) h1 h2) (fun W' X h=>psign hok h) (by rw[sgI_nought,decide_eq_false h0]) (fun W' X h h1=>prounded (hT.later h) hok h1 hm')).mono ?_
    rintro r w' ⟨rfl,hb'⟩
    exact⟨_,rfl,lk.refl (tfF_lt hm'),hb'⟩
theorem faddM (a b:Nat) (m:Int) (hm:1≤m∧m≤3) (ha:a<18446744073709551616) (hb:b<18446744073709551616) (W:World) (hT:Tab32 W) (hJ:Ie.Tab W):Calls Tryz.prog 122 #[.float .f64 a,.float .f64 b,.int .i64 m] W fun r w'=>OutF2 W (fAdM a b m) r w':=(faddM_p a b m hm ha hb).2.2 W hT hJ
theorem fsubM (a b:Nat) (m:Int) (hm:1≤m∧m≤3) (ha:a<18446744073709551616) (hb:b<18446744073709551616) (W:World) (hT:Tab32 W) (hJ:Ie.Tab W):Calls Tryz.prog 75 #[.float .f64 a,.float .f64 b,.int .i64 m] W fun r w'=>OutF2 W (fAdM a (ngt b) m) r w':=psub_1 a b _ m W hb (faddM a (ngt b) m hm ha (ngt_lt hb) W hT hJ)
def fU (a:Nat):Nat:=Ie.mant a*2^(Ie.lp a+1074).toNat
theorem tF_un {a:Nat} (hn:neg a=false) (hl : -1074≤Ie.lp a):tF a=un (fU a:Int) 1074:=by
 unfold tF
 refine un_eq (K:=1074) (Nat.le_refl _) (by omega) ?_
 rw[hn]
 unfold vz sv fU
 rw[Nat.sub_self,Nat.pow_zero,Int.natCast_mul]
 simp
theorem whole_pn {n:Int} {w:World} (hT:Tab32 w) (hn : -9223372036854775808≤n∧n≤9223372036854775807):Calls Tryz.prog 37 #[.int .i64 n] w fun r w'=>OutP w (un n 0) r w':=by
 refine(c12 hT hn).mono ?_
 rintro r w' ⟨A,rfl,hN,hb⟩
 have hp:=hN.pn
 obtain⟨s,ao,m,cap,e,rfl⟩:=hp.shape
 exact⟨_,_,_,_,_,rfl,hp,hb⟩
def nilN:Bool×Nat×Int:=(false,0,0)
theorem un_0 (p:Nat):un 0 p=nilN:=by unfold un cn nilN;rw[if_pos (by decide)]
theorem pn_nilN (w:World):PN w (.agg #[.bool false,.slice none 0 0,.int .i64 0]) nilN:=⟨none,0,by unfold nilN;rw[dlen_zero],by unfold nilN;rw[dlen_zero];exact is_nil w⟩
theorem lt3F {k:Nat} (h:k<3):k=0∨k=1∨k=2:=by omega
theorem fracOf_fin (a:Nat) (T T1:Bool×Nat×Int) (w:World)
  (k1:∀ W,Bw w W→Calls Tryz.prog 78 #[.float .f64 a] W fun r w'=>∃ s ao n cap e,r=.returned (.tuple #[.agg #[.bool s,.slice ao n cap,.int .i64 e],.int .i64 0])∧PN w' (.agg #[.bool s,.slice ao n cap,.int .i64 e]) T∧Bw W w')
  (k2:∀ W,Bw w W→Calls Tryz.prog 37 #[.int .i64 1] W fun r w'=>OutP W T1 r w') :
  Calls Tryz.prog 36 #[.float .f64 a] w fun r w'=>OutFv w T T1 r w':=by
 obtain⟨W,hW⟩:∃ W,W=w.alloc (.cells #[.bool false,.slice none 0 0,.int .i64 0,.bool false,.slice none 0 0,.int .i64 0] 45):=⟨_,rfl⟩
 have HC:Hid (W.heap[w.heap.size]?=some (.cells #[.bool false,.slice none 0 0,.int .i64 0,.bool false,.slice none 0 0,.int .i64 0] 45 (0,0))∧Bw w W):=(by rw[hW];exact⟨heap_alloc_new _ _,(Below.refl _ _).alloc (Nat.le_refl _) _⟩:W.heap[w.heap.size]?=some (.cells #[.bool false,.slice none 0 0,.int .i64 0,.bool false,.slice none 0 0,.int .i64 0] 45 (0,0))∧Bw w W)
 have HK2:Hid _:=k2
 have kk:=k1 W HC.out.2
 clear k1 k2
 go_enter Tryz.func36,Tryz.ntmps36
 go_upto_region 1 with fail
 rw[←hW]
 clear hW
 go_wp2_with fail
 refine kk.mono ?_
 rintro r w1 ⟨s4,ao4,n4,cp4,e4,rfl,hP,hb1⟩
 clear kk
 obtain⟨W1,hW1⟩:∃ W1,W1=w1.alloc (.cells #[.bool s4,.slice ao4 n4 cp4,.int .i64 e4] 28):=⟨_,rfl⟩
 obtain⟨gx,hgx⟩:∃ g,g=w1.heap.size:=⟨_,rfl⟩
 have hbW:Bw W W1:=by rw[hW1];exact hb1.alloc hb1.size _
 have HG:Hid (W1.heap[w.heap.size]?=some (.cells #[.bool false,.slice none 0 0,.int .i64 0,.bool false,.slice none 0 0,.int .i64 0] 45 (0,0))∧Bw w W1∧PN W1 (.agg #[.bool s4,.slice ao4 n4 cp4,.int .i64 e4]) T∧W1.heap[gx]?=some (.cells #[.bool s4,.slice ao4 n4 cp4,.int .i64 e4] 28 (0,0))):=⟨box_later HC.out.1 hbW (lt_of_box HC.out.1),HC.out.2.trans (hbW.mono HC.out.2.size),hP.later (by rw[hW1];exact(Below.refl _ _).alloc (Nat.le_refl _) _),by rw[hW1,hgx];exact heap_alloc_new _ _⟩
 clear hP hb1 hbW HC
 go_upto_region 4 with fail
 rw[←hW1,←hgx]
 clear hW1 hgx
 obtain⟨hR,hBW,hPT,hX⟩:=HG.out
 have ld:∀ {V:World} {g:Nat} {o:Obj},Bw W1 V→W1.heap[g]?=some o→V.heap[g]?=some o:=fun hb h=>(hb.block _ (Array.getElem?_eq_some_iff.1 h).1).trans h
 refine valL_region follows_mixed 3 14 [[],[],[0,1]] W1 _ [isV (.agg #[.bool s4,.slice ao4 n4 cp4,.int .i64 e4]),isP T1,isF T T1] (by kernel_rfl) ⟨isV_stays _,isP_stays _,isF_stays _ _,trivial⟩ (by show 17≤17;decide) ?_ ?_
 ·intro k hk o ho a V hbV hoth hdep
  have c3:=(cells3N (ld hbV hX)).1
  rcases lt3F hk with rfl|rfl|rfl
  ·obtain rfl:=Option.some.inj ho
   have h0:a.tmps[(3:Nat)]?=some (Value.pointer (some ⟨gx,0,none⟩)):=(hoth 3 (by omega)).trans rfl
   exact owp_run1 (w':=V) (v:=.agg #[.bool s4,.slice ao4 n4 cp4,.int .i64 e4]) (by simp[execOp,eval_get h0,run_ldN _ 0 s4 ao4 n4 cp4 e4 V c3.1 c3.2.1 c3.2.2]) ⟨_,rfl,rfl,Below.refl _ _⟩
  ·obtain rfl:=Option.some.inj ho
   refine owp_call rfl (enters Tryz.func37 (by kernel_rfl) (by kernel_rfl)) (vs:=#[.int .i64 1]) (by simp only[List.map_toArray,List.map_cons,List.map_nil];rfl) ?_
   refine(HK2.out V (hBW.trans (hbV.mono hBW.size))).mono ?_
   rintro r w' ⟨s',ao',n',cap',e',rfl,hP,hb'⟩
   exact⟨_,rfl,_,rfl,hP,hb'⟩
  ·obtain rfl:=Option.some.inj ho
   obtain⟨u0,h0,v0⟩:=hdep 0 (by simp[dL])
   obtain⟨u1,h1,v1⟩:=hdep 1 (by simp[dL])
   obtain rfl:u0=_:=v0
   have v1':PN V u1 T1:=v1
   obtain⟨sb,aob,nb,cpb,eb,rfl⟩:=v1'.shape
   exact owp_run1 (w':=V) (v:=.agg #[.bool s4,.slice ao4 n4 cp4,.int .i64 e4,.bool sb,.slice aob nb cpb,.int .i64 eb]) (by simp[execOp,eval_get h0,eval_get h1,run_bF]) ⟨_,rfl,⟨_,_,_,_,_,_,_,_,_,_,rfl,hPT.later hbV,v1'⟩,Below.refl _ _⟩
 ·intro o ho u V hbV hu
  have hop:o.op=.store 45 (.tmp 2) (.tmp 16):=by rw[←Option.some.inj ho];rfl
  have hds:o.dst=none:=by rw[←Option.some.inj ho];rfl
  clear ho
  have e12:Fv V (u 2) T T1:=hu 2 (by omega)
  obtain⟨sa,aoa,na,cpa,ea,sb,aob,nb,cpb,eb,hsh,q1,q2⟩:=e12
  have hCV:=ld hbV hR
  obtain⟨V1,hV1⟩:∃ V1,V1=V.setRow w.heap.size #[.bool sa,.slice aoa na cpa,.int .i64 ea,.bool sb,.slice aob nb cpb,.int .i64 eb]:=⟨_,rfl⟩
  have HX:Hid (V1.heap[w.heap.size]?=some (.cells #[.bool sa,.slice aoa na cpa,.int .i64 ea,.bool sb,.slice aob nb cpb,.int .i64 eb] 45 (0,0))∧Fv V1 (.agg #[.bool sa,.slice aoa na cpa,.int .i64 ea,.bool sb,.slice aob nb cpb,.int .i64 eb]) T T1∧Bw w V1):=(by
   rw[hV1]
   exact⟨setRow_heap _ _ _ _ _ _ hCV,⟨_,_,_,_,_,_,_,_,_,_,rfl,q1.row6 hCV _,q2.row6 hCV _⟩,below_row (hBW.trans (hbV.mono hBW.size)) (Nat.le_refl _) _⟩:V1.heap[w.heap.size]?=some (.cells #[.bool sa,.slice aoa na cpa,.int .i64 ea,.bool sb,.slice aob nb cpb,.int .i64 eb] 45 (0,0))∧Fv V1 (.agg #[.bool sa,.slice aoa na cpa,.int .i64 ea,.bool sb,.slice aob nb cpb,.int .i64 eb]) T T1∧Bw w V1)
  clear hu q1 q2 hR hX
  simp only[putL,show List.range 3 = [0,1,2] from rfl,List.map_cons,List.map_nil,List.cons_append,List.nil_append,List.foldl_cons,List.foldl_nil,Nat.reduceLT,Nat.reduceMod,Nat.reduceDiv,Nat.reduceMul,Nat.reduceAdd,Nat.reduceEqDiff,reduceIte,Nat.one_ne_zero,Act.put,List.setIfInBounds_toArray,List.set_cons_zero,List.set_cons_succ]
  rw[hsh]
  refine owp_store hop (g:=w.heap.size) (cs:=#[.bool sa,.slice aoa na cpa,.int .i64 ea,.bool sb,.slice aob nb cpb,.int .i64 eb]) rfl rfl hCV (by kernel_rfl) rfl (one6F _ _ _ _ _ _ _ _ _ _) ?_
  rw[hds,←hV1]
  simp only[Act.put]
  clear hV1 hCV
  go_wp2_with fail
  refine bodyPost_ret (results_cell_row rfl _ _ w.heap.size 45 #[.bool sa,.slice aoa na cpa,.int .i64 ea,.bool sb,.slice aob nb cpb,.int .i64 eb] (0,0) _ rfl HX.out.1 Tryz.underlying45 rfl (by kernel_rfl)) rfl ?_
  exact⟨_,rfl,HX.out.2.1,HX.out.2.2⟩
theorem fracOf_inf (a:Nat) (E:Int) (hE:E≠0) (T1:Bool×Nat×Int) (w:World)
  (k1:∀ W,Bw w W→Calls Tryz.prog 78 #[.float .f64 a] W fun r w'=>r=.returned (.tuple #[.agg #[.bool false,.slice none 0 0,.int .i64 0],.int .i64 E])∧Bw W w')
  (k2:∀ W,Bw w W→Calls Tryz.prog 37 #[.int .i64 1] W fun r w'=>OutP W T1 r w') :
  Calls Tryz.prog 36 #[.float .f64 a] w fun r w'=>OutFv w T1 nilN r w':=by
 obtain⟨W,hW⟩:∃ W,W=w.alloc (.cells #[.bool false,.slice none 0 0,.int .i64 0,.bool false,.slice none 0 0,.int .i64 0] 45):=⟨_,rfl⟩
 have HC:Hid (W.heap[w.heap.size]?=some (.cells #[.bool false,.slice none 0 0,.int .i64 0,.bool false,.slice none 0 0,.int .i64 0] 45 (0,0))∧Bw w W):=(by rw[hW];exact⟨heap_alloc_new _ _,(Below.refl _ _).alloc (Nat.le_refl _) _⟩:W.heap[w.heap.size]?=some (.cells #[.bool false,.slice none 0 0,.int .i64 0,.bool false,.slice none 0 0,.int .i64 0] 45 (0,0))∧Bw w W)
 have HK2:Hid _:=k2
 have kk:=k1 W HC.out.2
 have hE2:(E != 0)=true:=by rw[bne_iff_ne];exact hE
 clear k1 k2 hE
 go_enter Tryz.func36,Tryz.ntmps36
 go_upto_region 1 with fail
 rw[←hW]
 clear hW
 go_wp2_with fail
 refine kk.mono ?_
 rintro r w1 ⟨rfl,hb1⟩
 clear kk
 obtain⟨W1,hW1⟩:∃ W1,W1=w1.alloc (.cells #[.bool false,.slice none 0 0,.int .i64 0] 28):=⟨_,rfl⟩
 have hbW:Bw W W1:=by rw[hW1];exact hb1.alloc hb1.size _
 have HG:Hid (W1.heap[w.heap.size]?=some (.cells #[.bool false,.slice none 0 0,.int .i64 0,.bool false,.slice none 0 0,.int .i64 0] 45 (0,0))∧Bw w W1):=⟨box_later HC.out.1 hbW (lt_of_box HC.out.1),HC.out.2.trans (hbW.mono HC.out.2.size)⟩
 have kk:=HK2.out W1 HG.out.2
 clear hb1 hbW HC
 go_wp2_with fail
 rw[←hW1]
 clear hW1
 refine kk.mono ?_
 rintro r w2 ⟨s5,ao5,n5,cp5,e5,rfl,hP,hb2⟩
 clear kk
 have HH:Hid (w2.heap[w.heap.size]?=some (.cells #[.bool false,.slice none 0 0,.int .i64 0,.bool false,.slice none 0 0,.int .i64 0] 45 (0,0))∧Bw w w2∧PN w2 (.agg #[.bool s5,.slice ao5 n5 cp5,.int .i64 e5]) T1):=⟨box_later HG.out.1 hb2 (lt_of_box HG.out.1),HG.out.2.trans (hb2.mono HG.out.2.size),hP⟩
 obtain⟨⟨c0,c1,c2,c3,c4,c5⟩,d0,d1,d2,d3,d4,d5⟩:=cells6F HH.out.1
 clear hP hb2 HG
 go_wp2_with fail
 refine bodyPost_ret (results_cell_row rfl _ _ w.heap.size 45 #[.bool s5,.slice ao5 n5 cp5,.int .i64 e5,.bool false,.slice none 0 0,.int .i64 0] (0,0) _ rfl (set6_at _ _ _ _ _ _ HH.out.1) Tryz.underlying45 rfl (by kernel_rfl)) rfl ?_
 exact⟨_,rfl,⟨_,_,_,_,_,_,_,_,_,_,rfl,HH.out.2.2.set6 HH.out.1 _ _ _ _ _ _,pn_nilN _⟩,below_set6 HH.out.2.1 (Nat.le_refl _) _ _ _ _ _ _⟩
end Go.Proofs.YtcdkkpjilgmncaaGreatDoor
namespace Go.Proofs.YtcdkkpjilgmncaaGreatDoor
open Go.RowKit
structure KeepB (n:Nat) (gs:Nat→Nat) (B:Nat) (W0 w:World):Prop where
 below:Below B W0 w
 size:W0.heap.size≤w.heap.size
 keep:∀ b,b<W0.heap.size→(∀ k,k<n→b≠gs k)→w.heap[b]?=W0.heap[b]?
theorem KeepB.step {n:Nat} {gs:Nat→Nat} {B:Nat} {W0 w w':World} (h:KeepB n gs B W0 w) (hB:B≤W0.heap.size) (hb:Bw w w'):KeepB n gs B W0 w' :=
 ⟨h.below.trans (hb.mono (Nat.le_trans hB h.size)),Nat.le_trans h.size hb.size,fun b h1 h2=>(hb.block b (Nat.lt_of_lt_of_le h1 h.size)).trans (h.keep b h1 h2)⟩
theorem KeepB.row {n:Nat} {gs:Nat→Nat} {B:Nat} {W0 w:World} (h:KeepB n gs B W0 w) {k:Nat} (hk:k<n) (hB:B≤gs k) (cs:Array Value):KeepB n gs B W0 (w.setRow (gs k) cs) :=
 ⟨below_row h.below hB _,by simpa using h.size,fun b h1 h2=>(setRow_other w (gs k) b cs (h2 k hk)).trans (h.keep b h1 h2)⟩
structure ParQ (pv ps:Nat→Nat) (rd:Nat→List Nat) (W0:World) (a0:Act) (m n:Nat) (slot:Nat→Tmp) (vs gs:Nat→Nat) (B:Nat) (T:TypeId) (C:Array Value→Prop) (z:Nat) (V:Nat→World→Value→Prop) (listed:Array Bool) (a:Act) (w:World):Prop where
 kept:KeepB n gs B W0 w
 size:a.tmps.size=a0.tmps.size
 defers:a.defers=a0.defers
 other:∀ s,(∀ j,j<m→s≠slot j)→a.tmps[s]?=a0.tmps[s]?
 val:∀ j,j<m→listed.getD (pv j) false=true→∃ u,a.tmps[slot j]?=some u∧V j w u
 box:∀ k,k<n→∃ cs,w.heap[gs k]?=some (.cells cs T (0,0))∧cs.size=z∧C cs∧(listed.getD (ps k) false=true→a.tmps[slot (vs k)]?=some (.agg cs))∧(listed.getD (ps k) false=false→w.heap[gs k]?=W0.heap[gs k]?)
 stored:∀ k,k<n→listed.getD (ps k) false=true→∀ j ∈ rd k,listed.getD (pv j) false=true
theorem parq_region {P:Program} {ops:Array Oper} {Q:Exit→Act→World→Prop} {id:Nat} (hm:P.follows .mixedOrders=true) (pv ps:Nat→Nat) (m n:Nat) (slot bx:Nat→Tmp) (vs gs:Nat→Nat) (B:Nat) (dep rd:Nat→List Nat) (T:TypeId) (C:Array Value→Prop) (z:Nat)
  (W0:World) (a0:Act) (V:Nat→World→Value→Prop) (hcov:∀ i,i<ops.size→(∃ j,j<m∧i=pv j)∨∃ k,k<n∧i=ps k) (hpv:∀ j,j<m→pv j<ops.size) (hps:∀ k,k<n→ps k<ops.size) (dvs:∀ j k,j<m→k<n→pv j≠ps k) (ivv:∀ j j',j<m→j'<m→pv j=pv j'→j=j') (iss:∀ k k',k<n→k'<n→ps k=ps k'→k=k')
  (hord:∀ (i:Nat) (o:Oper),ops[i]?=some o→∀ e ∈ o.after,Region.binds .any e=true→e.on<i)
  (hV1:∀ j w w' u,Bw w w'→V j w u→V j w' u)
  (hV2:∀ j w u g cs cs',w.heap[g]?=some (.cells cs T (0,0))→C cs→V j w u→V j (w.setRow g cs') u)
  (hVs:∀ k,k<n→∀ w u,V (vs k) w u→∃ cs:Array Value,u=.agg cs∧cs.size=z∧C cs∧cs.all (·.oneCell')=true)
  (hdep:∀ j,j<m→∀ j' ∈ dep j,j'<m∧∀ o,ops[pv j]?=some o→∃ e ∈ o.after,e.on=pv j'∧Region.binds .any e=true)
  (hA:∀ j,j<m→∀ (a:Act) (w:World),KeepB n gs B W0 w→(∀ s,(∀ j,j<m→s≠slot j)→a.tmps[s]?=a0.tmps[s]?) →
   (∀ j' ∈ dep j,∃ u,a.tmps[slot j']?=some u∧V j' w u)→(∀ k,k<n→j ∈ rd k→w.heap[gs k]?=W0.heap[gs k]?)→wpOp P ops Q (pv j) (fun a' w'=>∃ u,a'=a.put (some (slot j)) u∧V j w' u∧Bw w w') a w)
  (hi:(P.info? T).map (·.size)=some z)
  (hst:∀ k,k<n→vs k<m∧∃ o,ops[ps k]?=some o∧o.guard=none∧o.op=.store T (.tmp (bx k)) (.tmp (slot (vs k)))∧o.dst=none∧vs k ∈ rd k∧∀ j ∈ rd k,j<m∧∃ e ∈ o.after,e.on=pv j∧Region.binds .any e=true)
  (hbx:∀ k,k<n→a0.tmps[bx k]?=some (.pointer (some ⟨gs k,0,none⟩))∧∀ j,j<m→bx k≠slot j)
  (hbox:∀ k,k<n→B≤gs k∧∃ cs,W0.heap[gs k]?=some (.cells cs T (0,0))∧cs.size=z∧C cs)
  (hgs:∀ k k',k<n→k'<n→gs k=gs k'→k=k') (hB:B≤W0.heap.size)
  (hin:∀ j,j<m→slot j<a0.tmps.size)
  (hinj:∀ j j',j<m→j'<m→slot j=slot j'→j=j')
  (hQ:∀ (u:Nat→Value) (a:Act) (w:World),KeepB n gs B W0 w→(∀ j,j<m→a.tmps[slot j]?=some (u j)∧V j w (u j)) →
   (∀ k,k<n→∃ cs,u (vs k)=.agg cs∧w.heap[gs k]?=some (.cells cs T (0,0))) →
   a.tmps.size=a0.tmps.size→a.defers=a0.defers→(∀ s,(∀ j,j<m→s≠slot j)→a.tmps[s]?=a0.tmps[s]?)→Q .normal a w) :
  (Code.region id ops true).wp P Q a0 W0:=by
 have hvrd:∀ k,k<n→vs k ∈ rd k:=fun k hk=>by
  obtain⟨_,_,_,_,_,_,h,_⟩:=hst k hk
  exact h
 refine wp_region_any hm ?_
 refine wpAny_inv (ParQ pv ps rd W0 a0 m n slot vs gs B T C z V) ?_ ?_ ops.size _ a0 _ (by simp) ?_ (by simp)
 ·-- a step
  intro listed a w i hl hI hr
  obtain⟨hun,o,ho,hall⟩:=mem_ready.1 hr
  have hunf:=not_listed hun
  have hio:i<ops.size:=(Array.getElem?_eq_some_iff.1 ho).1
  have hil:i<listed.size:=by omega
  have hset:=listed_set hil
  have hne:∀ x,x≠i→(listed.setIfInBounds i true).getD x false=listed.getD x false:=fun x hx=>getD_set_ne false (Ne.symm hx)
  rcases hcov i hio with ⟨i,him,rfl⟩|⟨k,hk,rfl⟩
  ·refine wpOp_mono ?_ (hA i him a w hI.kept hI.other (fun j' hj'=>?_) (fun k hk hjk=>?_))
   ·rintro a' w' ⟨u,rfl,hu,hb⟩
    have hlt:slot i<a.tmps.size:=by rw[hI.size];exact hin i him
    refine⟨hI.kept.step hB hb,by rw[put_size];exact hI.size,by rw[put_defers];exact hI.defers,fun s h1=>?_,fun j hj h1=>?_,fun k hk=>?_,fun k hk h1 jr hjr=>?_⟩
    ·rw[put_get_ne (h1 i him)];exact hI.other s h1
    ·by_cases e:j=i
     ·subst e;exact⟨u,put_get hlt,hu⟩
     ·rw[hne (pv j) (fun e2=>e (ivv j i hj him e2))] at h1
      obtain⟨u',g1,g2⟩:=hI.val j hj h1
      exact⟨u',by rw[put_get_ne (fun e2=>e (hinj j i hj him e2))];exact g1,hV1 _ _ _ _ hb g2⟩
    ·obtain⟨cs,g3,g4,g5,g6,g7⟩:=hI.box k hk
     refine⟨cs,(hb.block _ (Array.getElem?_eq_some_iff.1 g3).1).trans g3,g4,g5,fun h2=>?_,fun h2=>(hb.block _ (Array.getElem?_eq_some_iff.1 g3).1).trans (g7 (by rw[←hne (ps k) (Ne.symm (dvs i k him hk))];exact h2))⟩
     rw[hne _ (Ne.symm (dvs i k him hk))] at h2
     have h3:=hI.stored k hk h2 (vs k) (hvrd k hk)
     have h4:vs k≠i:=fun e=>by rw[e,hunf] at h3;cases h3
     rw[put_get_ne (fun e2=>h4 (hinj _ _ (hst k hk).1 him e2))]
     exact g6 h2
    ·rw[hne _ (Ne.symm (dvs i k him hk))] at h1
     exact getD_set_true (hI.stored k hk h1 jr hjr)
   ·obtain⟨h1,h2⟩:=hdep i him j' hj'
    obtain⟨e,he,hon,hbd⟩:=h2 o ho
    exact hI.val _ h1 (by rw[←hon];exact hall e he hbd)
   ·obtain⟨cs,g3,g4,g5,g6,g7⟩:=hI.box k hk
    refine g7 ?_
    cases hs:listed.getD (ps k) false
    ·rfl
    ·have h3:=hI.stored k hk hs i hjk
     rw[hunf] at h3;cases h3
  ·obtain⟨hvm,o',ho',hg,hop,hd,hvr,hrd⟩:=hst k hk
   obtain rfl:o'=o:=Option.some.inj (ho'.symm.trans ho)
   have lr:∀ j ∈ rd k,listed.getD (pv j) false=true:=fun j hj=>by
    obtain⟨-,e2,he2,hon2,hb2⟩:=hrd j hj
    rw[←hon2]
    exact hall e2 he2 hb2
   have l2:=lr _ hvr
   obtain⟨u,hu1,hu2⟩:=hI.val _ hvm l2
   obtain⟨cs,rfl,hc1,hcC,hc2⟩:=hVs k hk w u hu2
   obtain⟨old,g3,g4,g5,g6,-⟩:=hI.box k hk
   have hbk:a.tmps[bx k]?=some (.pointer (some ⟨gs k,0,none⟩)):=by rw[hI.other _ (hbx k hk).2];exact(hbx k hk).1
   refine step_store ho' hg hop hbk hu1 g3 (by rw[hc1];exact hi) (by omega) hc2 ?_
   rw[hd]
   show ParQ pv ps rd W0 a0 m n slot vs gs B T C z V _ a _
   refine⟨hI.kept.row hk (hbox k hk).1 _,hI.size,hI.defers,hI.other,fun j hj h1=>?_,fun k1 hk1=>?_,fun k1 hk1 h1 jr hjr=>?_⟩
   ·rw[hne (pv j) (dvs j k hj hk)] at h1
    obtain⟨u',q1,q2⟩:=hI.val j hj h1
    exact⟨u',q1,hV2 _ _ _ _ _ _ g3 g5 q2⟩
   ·by_cases e:k1=k
    ·subst e
     exact⟨cs,setRow_heap w (gs k1) old cs T _ g3,hc1,hcC,fun _=>hu1,fun h2=>by rw[hset] at h2;cases h2⟩
    ·obtain⟨cs',q3,q4,q5,q6,q7⟩:=hI.box k1 hk1
     have hgg:gs k1≠gs k:=fun e2=>e (hgs k1 k hk1 hk e2)
     refine⟨cs',(setRow_other w (gs k) (gs k1) cs hgg).trans q3,q4,q5,fun h2=>?_,fun h2=>(setRow_other w (gs k) (gs k1) cs hgg).trans (q7 (by rw[←hne (ps k1) (fun e2=>e (iss k1 k hk1 hk e2))];exact h2))⟩
     rw[hne _ (fun e2=>e (iss k1 k hk1 hk e2))] at h2
     exact q6 h2
   ·by_cases e:k1=k
    ·subst e
     exact getD_set_true (lr jr hjr)
    ·rw[hne _ (fun e2=>e (iss k1 k hk1 hk e2))] at h1
     exact getD_set_true (hI.stored k1 hk1 h1 jr hjr)
 ·-- the end: all have come up
  intro listed a w hl hI hr
  have hfull:∀ i,i<ops.size→listed.getD i false=true:=by
   intro i
   induction i using Nat.strongRecOn with
   | _ i ih =>
    intro hi
    cases hx:listed.getD i false with
    | true=>rfl
    | false =>
     exfalso
     have ho:ops[i]?=some ops[i]:=Array.getElem?_eq_getElem hi
     have:i ∈ Region.ready .any ops listed:=by
      refine mem_ready.2 ⟨?_,ops[i],ho,fun e he hbe=>ih e.on (hord i _ ho e he hbe) (Nat.lt_trans (hord i _ ho e he hbe) hi)⟩
      have hil:i<listed.size:=by omega
      simp only[Array.getD_eq_getD_getElem?,Array.getElem?_eq_getElem hil,Option.getD_some] at hx ⊢
      exact hx
     rw[hr] at this
     cases this
  have hval:∀ j,∃ u,j<m→a.tmps[slot j]?=some u∧V j w u:=fun j=>by
   by_cases hj:j<m
   ·obtain⟨u,h1,h2⟩:=hI.val j hj (hfull (pv j) (hpv j hj))
    exact⟨u,fun _=>⟨h1,h2⟩⟩
   ·exact⟨undef,fun h=>absurd h hj⟩
  obtain⟨u,hu⟩:=Classical.axiomOfChoice hval
  refine hQ u a w hI.kept hu (fun k hk=>?_) hI.size hI.defers hI.other
  obtain⟨cs,h3,h4,h5,h6,-⟩:=hI.box k hk
  have h7:=h6 (hfull _ (hps k hk))
  rw[(hu _ (hst k hk).1).1] at h7
  exact⟨cs,Option.some.inj h7,h3⟩
 ·-- the start
  have h0:∀ x,(Array.replicate ops.size false).getD x false=true→False:=fun x h=>by
   simp[Array.getD_eq_getD_getElem?,Array.getElem?_replicate] at h
   split at h <;> simp at h
  refine⟨⟨(Below.refl _ _).drew,Nat.le_refl _,fun _ _ _=>rfl⟩,rfl,rfl,fun _ _=>rfl,fun j _ h=>(h0 _ h).elim,fun k hk=>?_,fun k _ h=>(h0 _ h).elim⟩
  obtain⟨-,cs,h1,h2,h3⟩:=hbox k hk
  exact⟨cs,h1,h2,h3,fun h=>(h0 _ h).elim,fun _=>rfl⟩
theorem parw_region {P:Program} {ops:Array Oper} {Q:Exit→Act→World→Prop} {id:Nat} (hm:P.follows .mixedOrders=true) (m n:Nat) (slot bx:Nat→Tmp) (vs gs:Nat→Nat) (B:Nat) (dep rd:Nat→List Nat) (T:TypeId) (C:Array Value→Prop) (z:Nat)
  (W0:World) (a0:Act) (V:Nat→World→Value→Prop) (hsz:ops.size=m+n)
  (hord:∀ (i:Nat) (o:Oper),ops[i]?=some o→∀ e ∈ o.after,Region.binds .any e=true→e.on<i)
  (hV1:∀ j w w' u,Bw w w'→V j w u→V j w' u)
  (hV2:∀ j w u g cs cs',w.heap[g]?=some (.cells cs T (0,0))→C cs→V j w u→V j (w.setRow g cs') u)
  (hVs:∀ k,k<n→∀ w u,V (vs k) w u→∃ cs:Array Value,u=.agg cs∧cs.size=z∧C cs∧cs.all (·.oneCell')=true)
  (hdep:∀ j,j<m→∀ j' ∈ dep j,j'<m∧∀ o,ops[j]?=some o→∃ e ∈ o.after,e.on=j'∧Region.binds .any e=true)
  (hA:∀ j,j<m→∀ (a:Act) (w:World),KeepB n gs B W0 w→(∀ s,(∀ j,j<m→s≠slot j)→a.tmps[s]?=a0.tmps[s]?) →
   (∀ j' ∈ dep j,∃ u,a.tmps[slot j']?=some u∧V j' w u)→(∀ k,k<n→j ∈ rd k→w.heap[gs k]?=W0.heap[gs k]?)→wpOp P ops Q j (fun a' w'=>∃ u,a'=a.put (some (slot j)) u∧V j w' u∧Bw w w') a w)
  (hi:(P.info? T).map (·.size)=some z)
  (hst:∀ k,k<n→vs k<m∧∃ o,ops[m+k]?=some o∧o.guard=none∧o.op=.store T (.tmp (bx k)) (.tmp (slot (vs k)))∧o.dst=none∧vs k ∈ rd k∧∀ j ∈ rd k,j<m∧∃ e ∈ o.after,e.on=j∧Region.binds .any e=true)
  (hbx:∀ k,k<n→a0.tmps[bx k]?=some (.pointer (some ⟨gs k,0,none⟩))∧∀ j,j<m→bx k≠slot j)
  (hbox:∀ k,k<n→B≤gs k∧∃ cs,W0.heap[gs k]?=some (.cells cs T (0,0))∧cs.size=z∧C cs)
  (hgs:∀ k k',k<n→k'<n→gs k=gs k'→k=k') (hB:B≤W0.heap.size)
  (hin:∀ j,j<m→slot j<a0.tmps.size)
  (hinj:∀ j j',j<m→j'<m→slot j=slot j'→j=j')
  (hQ:∀ (u:Nat→Value) (a:Act) (w:World),KeepB n gs B W0 w→(∀ j,j<m→a.tmps[slot j]?=some (u j)∧V j w (u j)) →
   (∀ k,k<n→∃ cs,u (vs k)=.agg cs∧w.heap[gs k]?=some (.cells cs T (0,0))) →
   a.tmps.size=a0.tmps.size→a.defers=a0.defers→(∀ s,(∀ j,j<m→s≠slot j)→a.tmps[s]?=a0.tmps[s]?)→Q .normal a w) :
  (Code.region id ops true).wp P Q a0 W0:=by
 refine parq_region hm (fun j=>j) (fun k=>m+k) m n slot bx vs gs B dep rd T C z W0 a0 V (fun i hi'=>?_) (fun j hj=>by omega) (fun k hk=>by omega) (fun j k hj hk=>by omega) (fun j j' _ _ e=>e) (fun k k' _ _ e=>by omega) hord hV1 hV2 hVs hdep hA hi hst hbx hbox hgs hB hin hinj hQ
 by_cases h1:i<m
 ·exact .inl ⟨i,h1,rfl⟩
 ·exact .inr ⟨i - m,by omega,by omega⟩
def RowsAll (T:TypeId) (C:Array Value→Prop):List (World→Value→Prop)→Prop
 | []=>True
 | P :: r=>(∀ w u g cs cs',w.heap[g]?=some (.cells cs T (0,0))→C cs→P w u→P (w.setRow g cs') u)∧RowsAll T C r
theorem vL_rows {T:TypeId} {C:Array Value→Prop}:∀ {L:List (World→Value→Prop)},RowsAll T C L→∀ j w u g cs cs',w.heap[g]?=some (.cells cs T (0,0))→C cs→vL L j w u→vL L j (w.setRow g cs') u
 | [],_,j=>fun w u g cs cs' _ _ h=>by simp[vL] at h
 | P :: r,hL,0=>hL.1
 | P :: r,hL,j+1=>fun w u g cs cs' h1 h2 h=>vL_rows hL.2 j w u g cs cs' h1 h2 h
theorem isV_rows (x:Value) (T:TypeId) (C:Array Value→Prop):∀ w u g cs cs',w.heap[g]?=some (.cells cs T (0,0))→C cs→isV x w u→isV x (w.setRow g cs') u:=fun _ _ _ _ _ _ _ h=>h
def wrow (m n sl:Nat) (D rd:List (List Nat)) (vs:List Nat) (i:Nat) (o:Oper):Bool :=
 o.after.all (fun e=>decide (e.on<i))&&o.guard.isNone&&(if i<m then o.dst==some (sl+i)&&(dL D i).all (fun j=>decide (j<m)&&vhas o j)else o.dst==none&&decide (vs.getD (i - m) m<m)&&(dL rd (i - m)).contains (vs.getD (i - m) m)&&(dL rd (i - m)).all (fun j=>decide (j<m)&&vhas o j))
def wchk (ops:Array Oper) (m n sl:Nat) (D rd:List (List Nat)) (vs:List Nat):Bool :=
 ops.size==m+n&&(List.range (m+n)).all fun i=>match ops[i]? with|some o=>wrow m n sl D rd vs i o|none=>false
theorem wchk_row {ops:Array Oper} {m n sl:Nat} {D rd:List (List Nat)} {vs:List Nat} (h:wchk ops m n sl D rd vs=true) {i:Nat} {o:Oper} (ho:ops[i]?=some o):ops.size=m+n∧wrow m n sl D rd vs i o=true:=by
 unfold wchk at h
 rw[Bool.and_eq_true,beq_iff_eq] at h
 have hi:i<m+n:=by have:=(Array.getElem?_eq_some_iff.1 ho).1;omega
 have h1:=List.all_eq_true.1 h.2 i (List.mem_range.2 hi)
 simp only[ho] at h1
 exact⟨h.1,h1⟩
theorem wrow_a {m n sl:Nat} {D rd:List (List Nat)} {vs:List Nat} {i:Nat} {o:Oper} (h:wrow m n sl D rd vs i o=true):(∀ e ∈ o.after,e.on<i)∧o.guard=none:=by
 unfold wrow at h
 rw[Bool.and_eq_true,Bool.and_eq_true] at h
 exact⟨fun e he=>of_decide_eq_true (Array.all_eq_true_iff_forall_mem.1 h.1.1 e he),Option.isNone_iff_eq_none.1 h.1.2⟩
theorem wrow_b {m n sl:Nat} {D rd:List (List Nat)} {vs:List Nat} {i:Nat} {o:Oper} (h:wrow m n sl D rd vs i o=true) (hi:i<m):o.dst=some (sl+i)∧∀ j ∈ dL D i,j<m∧∃ e ∈ o.after,e.on=j∧Region.binds .any e=true:=by
 unfold wrow at h
 rw[Bool.and_eq_true] at h
 have h2:=h.2
 rw[if_pos hi,Bool.and_eq_true] at h2
 refine⟨by simpa using h2.1,fun j hj=>?_⟩
 have:=List.all_eq_true.1 h2.2 j hj
 rw[Bool.and_eq_true] at this
 exact⟨of_decide_eq_true this.1,vhas_ex this.2⟩
theorem wrow_c {m n sl:Nat} {D rd:List (List Nat)} {vs:List Nat} {k:Nat} {o:Oper} (h:wrow m n sl D rd vs (m+k) o=true):o.dst=none∧vs.getD k m<m∧vs.getD k m ∈ dL rd k∧∀ j ∈ dL rd k,j<m∧∃ e ∈ o.after,e.on=j∧Region.binds .any e=true:=by
 unfold wrow at h
 rw[Bool.and_eq_true] at h
 have h5:=h.2
 rw[if_neg (by omega),Nat.add_sub_cancel_left,Bool.and_eq_true,Bool.and_eq_true,Bool.and_eq_true] at h5
 obtain⟨⟨⟨h1,h2⟩,h3⟩,h4⟩:=h5
 refine⟨by simpa using h1,of_decide_eq_true h2,by simpa using h3,fun j hj=>?_⟩
 have:=List.all_eq_true.1 h4 j hj
 rw[Bool.and_eq_true] at this
 exact⟨of_decide_eq_true this.1,vhas_ex this.2⟩
theorem wrL_region {P:Program} {ops:Array Oper} {Q:Exit→Act→World→Prop} {id:Nat} (hm:P.follows .mixedOrders=true) (m n sl:Nat) (D rd:List (List Nat)) (vs:List Nat) (bx gs:Nat→Nat) (B:Nat) (T:TypeId) (C:Array Value→Prop) (z:Nat)
  (W0:World) (a0:Act) (L:List (World→Value→Prop)) (hchk:wchk ops m n sl D rd vs=true)
  (hV1:StaysAll L) (hV2:RowsAll T C L) (hin:sl+m≤a0.tmps.size)
  (hVs:∀ k,k<n→∀ w u,vL L (vs.getD k m) w u→∃ cs:Array Value,u=.agg cs∧cs.size=z∧C cs∧cs.all (·.oneCell')=true)
  (hA:∀ j,j<m→∀ o,ops[j]?=some o→∀ (a:Act) (w:World),KeepB n gs B W0 w→(∀ s:Nat,(s<sl∨sl+m≤s)→a.tmps[s]?=a0.tmps[s]?) →
   (∀ j' ∈ dL D j,∃ u,a.tmps[sl+j']?=some u∧vL L j' w u)→(∀ k,k<n→j ∈ dL rd k→w.heap[gs k]?=W0.heap[gs k]?)→o.wp P a w (fun a' w'=>∃ u,a'=a.put o.dst u∧vL L j w' u∧Bw w w') Q)
  (hi:(P.info? T).map (·.size)=some z)
  (hst:∀ k,k<n→∃ o,ops[m+k]?=some o∧o.op=.store T (.tmp (bx k)) (.tmp (sl+vs.getD k m)))
  (hbx:∀ k,k<n→a0.tmps[bx k]?=some (.pointer (some ⟨gs k,0,none⟩))∧(bx k<sl∨sl+m≤bx k))
  (hbox:∀ k,k<n→B≤gs k∧∃ cs,W0.heap[gs k]?=some (.cells cs T (0,0))∧cs.size=z∧C cs)
  (hgs:∀ k k',k<n→k'<n→gs k=gs k'→k=k') (hB:B≤W0.heap.size)
  (hQ:∀ (u:Nat→Value) (w:World),KeepB n gs B W0 w→(∀ j,j<m→vL L j w (u j)) →
   (∀ k,k<n→∃ cs,u (vs.getD k m)=.agg cs∧w.heap[gs k]?=some (.cells cs T (0,0)))→Q .normal (putL a0 ((List.range m).map (fun j=>(sl+j,u j)))) w) :
  (Code.region id ops true).wp P Q a0 W0:=by
 have hsz:ops.size=m+n:=by
  unfold wchk at hchk
  rw[Bool.and_eq_true,beq_iff_eq] at hchk
  exact hchk.1
 have hoth:∀ {s:Nat},(s<sl∨sl+m≤s)→∀ j,j<m→s≠sl+j:=fun h j hj=>by omega
 refine parw_region hm m n (fun j=>sl+j) bx (fun k=>vs.getD k m) gs B (dL D) (dL rd) T C z W0 a0 (vL L) hsz (fun i o ho e he _=>(wrow_a (wchk_row hchk ho).2).1 e he) (fun j w w' u hb h=>vL_stays hV1 j w w' u hb h) (fun j w u g cs cs' h1 h2 h=>vL_rows hV2 j w u g cs cs' h1 h2 h) hVs ?_ ?_ hi ?_ ?_ hbox hgs hB (fun j hj=>Nat.lt_of_lt_of_le (Nat.add_lt_add_left hj sl) hin) (fun i i' _ _ h=>Nat.add_left_cancel h) ?_
 ·intro j hj j' hj'
  obtain⟨o,ho⟩:∃ o,ops[j]?=some o:=⟨ops[j]'(by omega),Array.getElem?_eq_getElem (by omega)⟩
  have h4:=(wrow_b (wchk_row hchk ho).2 hj).2 j' hj'
  refine⟨h4.1,fun o' ho'=>?_⟩
  obtain rfl:o=o':=Option.some.inj (ho.symm.trans ho')
  exact h4.2
 ·intro j hj a w hk ho1 hd hrd
  obtain⟨o,ho⟩:∃ o,ops[j]?=some o:=⟨ops[j]'(by omega),Array.getElem?_eq_getElem (by omega)⟩
  have hr:=(wchk_row hchk ho).2
  refine step_wanted ho (wrow_a hr).2 ?_
  have h5:=hA j hj o ho a w hk (fun s hs=>ho1 s (hoth hs)) hd hrd
  rw[(wrow_b hr hj).1] at h5
  exact h5
 ·intro k hk
  obtain⟨o,ho,hop⟩:=hst k hk
  have hr:=(wchk_row hchk ho).2
  have hc:=wrow_c hr
  exact⟨hc.2.1,o,ho,(wrow_a hr).2,hop,hc.1,hc.2.2.1,hc.2.2.2⟩
 ·intro k hk
  exact⟨(hbx k hk).1,hoth (hbx k hk).2⟩
 ·intro u a w hk hu hcs hs hd ho1
  have q1:((List.range m).map (fun j=>((sl+j,u j):Tmp×Value))).map (fun p:Tmp×Value=>p.1)=(List.range m).map (fun j=>sl+j):=by simp[Function.comp_def]
  have ha:=act_putL (a:=a) (a0:=a0) (l:=(List.range m).map (fun j=>((sl+j,u j):Tmp×Value))) (by
    rw[q1]
    refine List.pairwise_map.2 ((List.nodup_range (n:=m)).imp_of_mem ?_)
    intro x y hx hy hne he
    exact hne (Nat.add_left_cancel he)) hs hd (by
    intro p hp
    obtain⟨i,hi,rfl⟩:=List.mem_map.1 hp
    exact(hu i (List.mem_range.1 hi)).1) (fun s hsn=>ho1 s (fun i hi he=>hsn (List.mem_map.2 ⟨_,List.mem_map.2 ⟨i,List.mem_range.2 hi,rfl⟩,he.symm⟩)))
  rw[ha]
  exact hQ u w hk (fun j hj=>(hu j hj).2) hcs
end Go.Proofs.YtcdkkpjilgmncaaGreatDoor
namespace Go.Proofs.YtcdkkpjilgmncaaGreatDoor
open Go.RowKit Go.Fl64
structure SI (X P Q A B C D bp bq lp lq:Nat):Prop where
 hB:0<B
 hle:A*D≤C*B
 lA:A≤X
 lB:B≤X
 lC:C≤X
 lD:D≤X
 l1:lp*A+bp*B≤X
 l2:lq*A+bq*B≤X
 l3:lp*C+bp*D≤X
 l4:lq*C+bq*D≤X
 llp:lp≤X
 llq:lq≤X
 lbp:bp≤X
 lbq:bq≤X
 hS:∀ p q,Smp A B C D p q→P=lp*p+bp*q∧Q=lq*p+bq*q
theorem SI.start {X P Q A B C D:Nat} (hB:0<B) (hle:A*D≤C*B) (lA:A≤X) (lB:B≤X) (lC:C≤X) (lD:D≤X) (h:Smp A B C D P Q):SI X P Q A B C D 0 1 1 0 :=
 ⟨hB,hle,lA,lB,lC,lD,by omega,by omega,by omega,by omega,by omega,by omega,by omega,by omega,fun p q h'=>by
  obtain⟨rfl,rfl⟩:=smp_det h h'
  omega⟩
theorem SI.whole {X P Q A B C D bp bq lp lq:Nat} (h:SI X P Q A B C D bp bq lp lq) (h0:A % B=0):(P=bp+lp*(A / B)∧Q=bq+lq*(A / B))∧¬ C<A / B*D:=by
 have:=h.hS _ _ (.whole h.hB h0)
 have e:=Nat.div_add_mod A B
 rw[h0,Nat.add_zero] at e
 have h1:B*(A / B*D)≤B*C:=by rw[←Nat.mul_assoc,e,Nat.mul_comm B C];exact h.hle
 have h2:=Nat.le_of_mul_le_mul_left h1 h.hB
 exact⟨⟨by omega,by omega⟩,by omega⟩
theorem SI.above {X P Q A B C D bp bq lp lq:Nat} (h:SI X P Q A B C D bp bq lp lq) (h0:A % B≠0) (hc:¬ C<(A / B+1)*D):P=bp+lp*(A / B+1)∧Q=bq+lq*(A / B+1):=by
 have:=h.hS _ _ (.above h.hB h0 (by omega))
 exact⟨by omega,by omega⟩
theorem SI.step {X P Q A B C D bp bq lp lq:Nat} (h:SI X P Q A B C D bp bq lp lq) (h0:A % B≠0) (hc:C<(A / B+1)*D) :
  SI X P Q D (C - A / B*D) B (A - A / B*B) lp lq (bp+lp*(A / B)) (bq+lq*(A / B))∧A / B*D≤C∧A / B*B≤A∧(C - A / B*D)+(A - A / B*B)<B+D:=by
 obtain⟨hB,hle,lA,lB,lC,lD,l1,l2,l3,l4,llp,llq,lbp,lbq,hS⟩:=h
 obtain⟨k1,k2,k3,k4⟩:=smp_left hB h0 hle hc
 have e:=Nat.div_add_mod A B
 have hr:=Nat.mod_lt A hB
 have hm:A - A / B*B=A % B:=by rw[Nat.mul_comm];omega
 have hnB:A / B*B≤A:=Nat.div_mul_le_self A B
 rw[hm]
 obtain⟨n,hn⟩:∃ n,n=A / B:=⟨_,rfl⟩
 obtain⟨r,hr2⟩:∃ r,r=A % B:=⟨_,rfl⟩
 obtain⟨l,hl⟩:∃ l,C=n*D+l:=⟨C - n*D,by rw[←hn] at k2;omega⟩
 have ea:A=B*n+r:=by rw[hn,hr2];exact e.symm
 have el:C - n*D=l:=by omega
 rw[←hn] at hc k2 k3 k4 hnB ⊢
 rw[←hr2] at h0 k4 hr ⊢
 rw[el] at k3 k4 ⊢
 have x1:∀ a b,(b+a*n)*D+a*l=a*C+b*D:=fun a b=>by rw[hl,Nat.add_mul,Nat.mul_add,Nat.mul_assoc];omega
 have x2:∀ a b,(b+a*n)*B+a*r=a*A+b*B:=fun a b=>by rw[ea,Nat.add_mul,Nat.mul_add,Nat.mul_assoc,Nat.mul_comm n B];omega
 have x3:∀ y,y*D≤X→y≤X:=fun y hy=>Nat.le_trans (Nat.le_mul_of_pos_right _ k1) hy
 refine⟨⟨by omega,k4,lD,by omega,lB,by omega,by rw[x1];exact l3,by rw[x1];exact l4,by rw[x2];exact l1,by rw[x2];exact l2,x3 _ (by have:=x1 lp bp;omega),x3 _ (by have:=x1 lq bq;omega),llp,llq,fun p q hp=>?_⟩,by omega,hnB,by omega⟩
 have hc2:C<(A / B+1)*D:=by rw[←hn];exact hc
 have hs:Smp A B C D (A / B*p+q) p:=.more hB (by rw[←hr2];exact h0) hc2 (by rw[←hn,←hr2,el];exact hp)
 have:=hS _ _ hs
 rw[←hn] at this
 have y1:∀ a b,a*(n*p+q)+b*p=(b+a*n)*p+a*q:=fun a b=>by rw[Nat.mul_add,Nat.add_mul,Nat.mul_assoc];omega
 rw[y1,y1] at this
 exact this
def FB (W:World) (g:Nat) (t1 t2:Bool×Nat×Int):Prop:=∃ cs:Array Value,W.heap[g]?=some (.cells cs 45 (0,0))∧Fv W (.agg cs) t1 t2
theorem FB.later {W w':World} {g:Nat} {t1 t2:Bool×Nat×Int} (h:FB W g t1 t2) (hb:Bw W w'):FB w' g t1 t2:=by
 obtain⟨cs,h1,h2⟩:=h
 exact⟨cs,box_later h1 hb (lt_of_box h1),h2.later hb⟩
def FrC (cs:Array Value):Prop:=∃ (s1:Bool) (ao1:Option Addr) (n1 cp1:Nat) (e1:Int) (s2:Bool) (ao2:Option Addr) (n2 cp2:Nat) (e2:Int),cs = #[.bool s1,.slice ao1 n1 cp1,.int .i64 e1,.bool s2,.slice ao2 n2 cp2,.int .i64 e2]
theorem Fv.frc {W:World} {cs:Array Value} {t1 t2:Bool×Nat×Int} (h:Fv W (.agg cs) t1 t2):FrC cs:=by
 obtain⟨s1,ao1,n1,cp1,e1,s2,ao2,n2,cp2,e2,e,-⟩:=h
 exact⟨_,_,_,_,_,_,_,_,_,_,Value.agg.inj e⟩
theorem Fv.cells {W:World} {U:Value} {t1 t2:Bool×Nat×Int} (h:Fv W U t1 t2):∃ cs:Array Value,U=.agg cs∧cs.size=6∧FrC cs∧cs.all (·.oneCell')=true:=by
 obtain⟨s1,ao1,n1,cp1,e1,s2,ao2,n2,cp2,e2,rfl,-⟩:=h
 exact⟨_,rfl,rfl,⟨_,_,_,_,_,_,_,_,_,_,rfl⟩,one6F _ _ _ _ _ _ _ _ _ _⟩
theorem isF_rows (t1 t2:Bool×Nat×Int):∀ w u g cs cs',w.heap[g]?=some (.cells cs 45 (0,0))→FrC cs→isF t1 t2 w u→isF t1 t2 (w.setRow g cs') u:=by
 rintro w u g cs cs' h ⟨_,_,_,_,_,_,_,_,_,_,rfl⟩ h2
 exact Fv.row6 h2 h _
end Go.Proofs.YtcdkkpjilgmncaaGreatDoor
namespace Go.Proofs.YtcdkkpjilgmncaaGreatDoor
open Go.RowKit
def wrowS (m n:Nat) (SL:List Nat) (D rd:List (List Nat)) (vs:List Nat) (i:Nat) (o:Oper):Bool :=
 o.after.all (fun e => !(Region.binds .any e)||decide (e.on<i))&&o.guard.isNone&&(if i<m then o.dst==some (SL.getD i 0)&&(dL D i).all (fun j=>decide (j<m)&&vhas o j)else o.dst==none&&decide (vs.getD (i - m) m<m)&&(dL rd (i - m)).contains (vs.getD (i - m) m)&&(dL rd (i - m)).all (fun j=>decide (j<m)&&vhas o j))
def wchkS (ops:Array Oper) (m n:Nat) (SL:List Nat) (D rd:List (List Nat)) (vs:List Nat):Bool :=
 ops.size==m+n&&(List.range (m+n)).all fun i=>match ops[i]? with|some o=>wrowS m n SL D rd vs i o|none=>false
theorem wchkS_row {ops:Array Oper} {m n:Nat} {SL:List Nat} {D rd:List (List Nat)} {vs:List Nat} (h:wchkS ops m n SL D rd vs=true) {i:Nat} {o:Oper} (ho:ops[i]?=some o):ops.size=m+n∧wrowS m n SL D rd vs i o=true:=by
 unfold wchkS at h
 rw[Bool.and_eq_true,beq_iff_eq] at h
 have hi:i<m+n:=by have:=(Array.getElem?_eq_some_iff.1 ho).1;omega
 have h1:=List.all_eq_true.1 h.2 i (List.mem_range.2 hi)
 simp only[ho] at h1
 exact⟨h.1,h1⟩
theorem wrowS_a {m n:Nat} {SL:List Nat} {D rd:List (List Nat)} {vs:List Nat} {i:Nat} {o:Oper} (h:wrowS m n SL D rd vs i o=true):(∀ e ∈ o.after,Region.binds .any e=true→e.on<i)∧o.guard=none:=by
 unfold wrowS at h
 rw[Bool.and_eq_true,Bool.and_eq_true] at h
 exact⟨fun e he hb=>by
  have h2:=Array.all_eq_true_iff_forall_mem.1 h.1.1 e he
  rw[hb] at h2
  exact of_decide_eq_true (by simpa using h2),Option.isNone_iff_eq_none.1 h.1.2⟩
theorem wrowS_b {m n:Nat} {SL:List Nat} {D rd:List (List Nat)} {vs:List Nat} {i:Nat} {o:Oper} (h:wrowS m n SL D rd vs i o=true) (hi:i<m):o.dst=some (SL.getD i 0)∧∀ j ∈ dL D i,j<m∧∃ e ∈ o.after,e.on=j∧Region.binds .any e=true:=by
 unfold wrowS at h
 rw[Bool.and_eq_true] at h
 have h2:=h.2
 rw[if_pos hi,Bool.and_eq_true] at h2
 refine⟨by simpa using h2.1,fun j hj=>?_⟩
 have:=List.all_eq_true.1 h2.2 j hj
 rw[Bool.and_eq_true] at this
 exact⟨of_decide_eq_true this.1,vhas_ex this.2⟩
theorem wrowS_c {m n:Nat} {SL:List Nat} {D rd:List (List Nat)} {vs:List Nat} {k:Nat} {o:Oper} (h:wrowS m n SL D rd vs (m+k) o=true):o.dst=none∧vs.getD k m<m∧vs.getD k m ∈ dL rd k∧∀ j ∈ dL rd k,j<m∧∃ e ∈ o.after,e.on=j∧Region.binds .any e=true:=by
 unfold wrowS at h
 rw[Bool.and_eq_true] at h
 have h5:=h.2
 rw[if_neg (by omega),Nat.add_sub_cancel_left,Bool.and_eq_true,Bool.and_eq_true,Bool.and_eq_true] at h5
 obtain⟨⟨⟨h1,h2⟩,h3⟩,h4⟩:=h5
 refine⟨by simpa using h1,of_decide_eq_true h2,by simpa using h3,fun j hj=>?_⟩
 have:=List.all_eq_true.1 h4 j hj
 rw[Bool.and_eq_true] at this
 exact⟨of_decide_eq_true this.1,vhas_ex this.2⟩
theorem wrS_region {P:Program} {ops:Array Oper} {Q:Exit→Act→World→Prop} {id:Nat} (hm:P.follows .mixedOrders=true) (m n:Nat) (SL:List Nat) (D rd:List (List Nat)) (vs:List Nat) (bx gs:Nat→Nat) (B:Nat) (T:TypeId) (C:Array Value→Prop) (z:Nat)
  (W0:World) (a0:Act) (L:List (World→Value→Prop)) (hchk:wchkS ops m n SL D rd vs=true)
  (hV1:StaysAll L) (hV2:RowsAll T C L) (hsl:SL.length=m∧SL.Nodup∧∀ s ∈ SL,s<a0.tmps.size)
  (hVs:∀ k,k<n→∀ w u,vL L (vs.getD k m) w u→∃ cs:Array Value,u=.agg cs∧cs.size=z∧C cs∧cs.all (·.oneCell')=true)
  (hA:∀ j,j<m→∀ o,ops[j]?=some o→∀ (a:Act) (w:World),KeepB n gs B W0 w→(∀ s:Nat,SL.contains s=false→a.tmps[s]?=a0.tmps[s]?) →
   (∀ j' ∈ dL D j,∃ u,a.tmps[SL.getD j' 0]?=some u∧vL L j' w u)→(∀ k,k<n→j ∈ dL rd k→w.heap[gs k]?=W0.heap[gs k]?)→o.wp P a w (fun a' w'=>∃ u,a'=a.put o.dst u∧vL L j w' u∧Bw w w') Q)
  (hi:(P.info? T).map (·.size)=some z)
  (hst:∀ k,k<n→∃ o,ops[m+k]?=some o∧o.op=.store T (.tmp (bx k)) (.tmp (SL.getD (vs.getD k m) 0)))
  (hbx:∀ k,k<n→a0.tmps[bx k]?=some (.pointer (some ⟨gs k,0,none⟩))∧SL.contains (bx k)=false)
  (hbox:∀ k,k<n→B≤gs k∧∃ cs,W0.heap[gs k]?=some (.cells cs T (0,0))∧cs.size=z∧C cs)
  (hgs:∀ k k',k<n→k'<n→gs k=gs k'→k=k') (hB:B≤W0.heap.size)
  (hQ:∀ (u:Nat→Value) (w:World),KeepB n gs B W0 w→(∀ j,j<m→vL L j w (u j)) →
   (∀ k,k<n→∃ cs,u (vs.getD k m)=.agg cs∧w.heap[gs k]?=some (.cells cs T (0,0)))→Q .normal (putL a0 ((List.range m).map (fun j=>(SL.getD j 0,u j)))) w) :
  (Code.region id ops true).wp P Q a0 W0:=by
 have hsz:ops.size=m+n:=by
  unfold wchkS at hchk
  rw[Bool.and_eq_true,beq_iff_eq] at hchk
  exact hchk.1
 have hmem:∀ j,j<m→SL.getD j 0 ∈ SL:=fun j hj=>by
  have h1:j<SL.length:=by rw[hsl.1];exact hj
  rw[List.getD_eq_getElem?_getD,List.getElem?_eq_getElem h1]
  exact List.getElem_mem h1
 have hinj:∀ i i',i<m→i'<m→SL.getD i 0=SL.getD i' 0→i=i':=fun i i' h1 h2 h=>by
  have g1:i<SL.length:=by rw[hsl.1];exact h1
  have g2:i'<SL.length:=by rw[hsl.1];exact h2
  rw[List.getD_eq_getElem?_getD,List.getD_eq_getElem?_getD,List.getElem?_eq_getElem g1,List.getElem?_eq_getElem g2] at h
  exact(List.getElem_inj hsl.2.1).1 h
 have hoth:∀ {s:Nat},SL.contains s=false→∀ j,j<m→s≠SL.getD j 0:=fun {s} h j hj e=>by
  have h2:=hmem j hj
  rw[←e] at h2
  have:SL.contains s=true:=by simpa using h2
  rw[h] at this;cases this
 refine parw_region hm m n (fun j=>SL.getD j 0) bx (fun k=>vs.getD k m) gs B (dL D) (dL rd) T C z W0 a0 (vL L) hsz (fun i o ho e he hb=>(wrowS_a (wchkS_row hchk ho).2).1 e he hb) (fun j w w' u hb h=>vL_stays hV1 j w w' u hb h) (fun j w u g cs cs' h1 h2 h=>vL_rows hV2 j w u g cs cs' h1 h2 h) hVs ?_ ?_ hi ?_ ?_ hbox hgs hB (fun j hj=>hsl.2.2 _ (hmem j hj)) hinj ?_
 ·intro j hj j' hj'
  obtain⟨o,ho⟩:∃ o,ops[j]?=some o:=⟨ops[j]'(by omega),Array.getElem?_eq_getElem (by omega)⟩
  have h4:=(wrowS_b (wchkS_row hchk ho).2 hj).2 j' hj'
  refine⟨h4.1,fun o' ho'=>?_⟩
  obtain rfl:o=o':=Option.some.inj (ho.symm.trans ho')
  exact h4.2
 ·intro j hj a w hk ho1 hd hrd
  obtain⟨o,ho⟩:∃ o,ops[j]?=some o:=⟨ops[j]'(by omega),Array.getElem?_eq_getElem (by omega)⟩
  have hr:=(wchkS_row hchk ho).2
  refine step_wanted ho (wrowS_a hr).2 ?_
  have h5:=hA j hj o ho a w hk (fun s hs=>ho1 s (hoth hs)) hd hrd
  rw[(wrowS_b hr hj).1] at h5
  exact h5
 ·intro k hk
  obtain⟨o,ho,hop⟩:=hst k hk
  have hr:=(wchkS_row hchk ho).2
  have hc:=wrowS_c hr
  exact⟨hc.2.1,o,ho,(wrowS_a hr).2,hop,hc.1,hc.2.2.1,hc.2.2.2⟩
 ·intro k hk
  exact⟨(hbx k hk).1,hoth (hbx k hk).2⟩
 ·intro u a w hk hu hcs hs hd ho1
  have q1:((List.range m).map (fun j=>((SL.getD j 0,u j):Tmp×Value))).map (fun p:Tmp×Value=>p.1)=(List.range m).map (fun j=>SL.getD j 0):=by simp[Function.comp_def]
  have ha:=act_putL (a:=a) (a0:=a0) (l:=(List.range m).map (fun j=>((SL.getD j 0,u j):Tmp×Value))) (by
    rw[q1]
    refine List.pairwise_map.2 ((List.nodup_range (n:=m)).imp_of_mem ?_)
    intro x y hx hy hne he
    exact hne (hinj x y (List.mem_range.1 hx) (List.mem_range.1 hy) he)) hs hd (by
    intro p hp
    obtain⟨i,hi,rfl⟩:=List.mem_map.1 hp
    exact(hu i (List.mem_range.1 hi)).1) (fun s hsn=>ho1 s (fun i hi he=>hsn (List.mem_map.2 ⟨_,List.mem_map.2 ⟨i,List.mem_range.2 hi,rfl⟩,he.symm⟩)))
  rw[ha]
  exact hQ u w hk (fun j hj=>(hu j hj).2) hcs
end Go.Proofs.YtcdkkpjilgmncaaGreatDoor
