/- Own work: contracts of the program's functions, part 11: SNC SND SNE SNF SNG SNI SNJ SNL. -/
import Derived.Test.YtjiolfnchiioaaaGreatDoorA10
import Derived.Test.YtjiolfnchiioaaaGreatDoorA9
import Derived.Test.YtjiolfnchiioaaaGreatDoorA7
import Derived.Laws.StructEq
import Derived.Test.YtjiolfnchiioaaaGreatDoorA6

set_option maxHeartbeats 16000000
set_option maxRecDepth 200000
set_option linter.unusedVariables false
set_option linter.unusedSimpArgs false
namespace Go.Proofs.YtjiolfnchiioaaaGreatDoor
open Go.RowKit Go.Fl64
attribute [local go_sem] run_store_flt
def lowF (D:Nat→Nat):Nat→Nat
 | 0=>9218868437227405312
 | n+1=>fMin (lowF D n) (D n)
def hiF (D:Nat→Nat):Nat→Nat
 | 0=>18442240474082181120
 | n+1=>fMax (hiF D n) (D n)
theorem lowF_ok {D:Nat→Nat} (h:∀ i,D i<18446744073709551616∧isNaN (D i)=false):∀ n,lowF D n<18446744073709551616∧isNaN (lowF D n)=false
 | 0=>⟨by unfold lowF;omega,by unfold lowF;decide⟩
 | n+1=>⟨fMin_lt (lowF_ok h n).1 (h n).1,fMin_nn (lowF_ok h n).2 (h n).2⟩
theorem hiF_ok {D:Nat→Nat} (h:∀ i,D i<18446744073709551616∧isNaN (D i)=false):∀ n,hiF D n<18446744073709551616∧isNaN (hiF D n)=false
 | 0=>⟨by unfold hiF;omega,by unfold hiF;decide⟩
 | n+1=>⟨fMax_lt (hiF_ok h n).1 (h n).1,fMax_nn (hiF_ok h n).2 (h n).2⟩
def onF (a:Nat):Nat:=if isNaN a then 0 else a
theorem onF_ok {a:Nat} (h:a<18446744073709551616):onF a<18446744073709551616∧isNaN (onF a)=false:=by
 unfold onF
 cases e:isNaN a
 ·exact⟨h,e⟩
 ·rw[if_pos rfl];exact⟨by omega,by decide⟩
theorem onF_lk {n X:Nat} (h:lk n X):onF n=onF X:=by
 rcases lk_or h with rfl|⟨h1,h2⟩
 ·rfl
 ·unfold onF;rw[h1,h2];rfl
theorem sorn_lk {n X:Nat} (h:lk n X) (w:World):Calls Tryz.prog 90 #[.float .f64 n] w fun r w'=>r=.returned (.float .f64 (onF X))∧w'=w:=by
 rw[←onF_lk h]
 exact sorn n h.1 w
theorem run_pairs0 (a b c d e f g h:Nat) (w:World):(Instr.index 74 (.agg #[.float .f64 a,.float .f64 b,.float .f64 c,.float .f64 d,.float .f64 e,.float .f64 f,.float .f64 g,.float .f64 h]) (.int .i64 0)).run Tryz.prog w=.ok (.agg #[.float .f64 a,.float .f64 b]) w:=by kernel_rfl
theorem run_pairs1 (a b c d e f g h:Nat) (w:World):(Instr.index 74 (.agg #[.float .f64 a,.float .f64 b,.float .f64 c,.float .f64 d,.float .f64 e,.float .f64 f,.float .f64 g,.float .f64 h]) (.int .i64 1)).run Tryz.prog w=.ok (.agg #[.float .f64 c,.float .f64 d]) w:=by kernel_rfl
theorem run_pairs2 (a b c d e f g h:Nat) (w:World):(Instr.index 74 (.agg #[.float .f64 a,.float .f64 b,.float .f64 c,.float .f64 d,.float .f64 e,.float .f64 f,.float .f64 g,.float .f64 h]) (.int .i64 2)).run Tryz.prog w=.ok (.agg #[.float .f64 e,.float .f64 f]) w:=by kernel_rfl
theorem run_pairs3 (a b c d e f g h:Nat) (w:World):(Instr.index 74 (.agg #[.float .f64 a,.float .f64 b,.float .f64 c,.float .f64 d,.float .f64 e,.float .f64 f,.float .f64 g,.float .f64 h]) (.int .i64 3)).run Tryz.prog w=.ok (.agg #[.float .f64 g,.float .f64 h]) w:=by kernel_rfl
theorem sspread_Mul (X Y D E:Nat→Nat) (w:World) (hD:∀ i,D i<18446744073709551616) (hE:∀ i,E i<18446744073709551616)
  (kd:∀ i,i<4→∀ W,Bw w W→Calls Tryz.prog 57 #[.float .f64 (X i),.float .f64 (Y i),.int .i64 1] W fun r w'=>∃ n,r=.returned (.float .f64 n)∧lk n (D i)∧Bw W w')
  (ku:∀ i,i<4→∀ W,Bw w W→Calls Tryz.prog 57 #[.float .f64 (X i),.float .f64 (Y i),.int .i64 3] W fun r w'=>∃ n,r=.returned (.float .f64 n)∧lk n (E i)∧Bw W w') :
  Calls Tryz.prog 56 #[.agg #[.float .f64 (X 0),.float .f64 (Y 0),.float .f64 (X 1),.float .f64 (Y 1),.float .f64 (X 2),.float .f64 (Y 2),.float .f64 (X 3),.float .f64 (Y 3)],.func (.func 57) #[] #[]] w fun r w'=>r=.returned (.agg #[.float .f64 (pl (lowF (fun i=>onF (D i)) 4)),.float .f64 (pl (hiF (fun i=>onF (E i)) 4))])∧Bw w w':=by
 have HD:Hid _:=kd
 have HU:Hid _:=ku
 have HLo:Hid (∀ n,lowF (fun i=>onF (D i)) n<18446744073709551616∧isNaN (lowF (fun i=>onF (D i)) n)=false):=lowF_ok fun i=>onF_ok (hD i)
 have HHi:Hid (∀ n,hiF (fun i=>onF (E i)) n<18446744073709551616∧isNaN (hiF (fun i=>onF (E i)) n)=false):=hiF_ok fun i=>onF_ok (hE i)
 have HDE:Hid ((∀ i,D i<18446744073709551616)∧∀ i,E i<18446744073709551616):=⟨hD,hE⟩
 obtain⟨W,hW⟩:∃ W,W=(w.alloc (.cells #[.float .f64 (X 0),.float .f64 (Y 0),.float .f64 (X 1),.float .f64 (Y 1),.float .f64 (X 2),.float .f64 (Y 2),.float .f64 (X 3),.float .f64 (Y 3)] 74)).alloc (.cells #[.float .f64 0,.float .f64 0] 24):=⟨_,rfl⟩
 have HX:Hid (Bw w W∧W.heap[w.heap.size]?=some (.cells #[.float .f64 (X 0),.float .f64 (Y 0),.float .f64 (X 1),.float .f64 (Y 1),.float .f64 (X 2),.float .f64 (Y 2),.float .f64 (X 3),.float .f64 (Y 3)] 74 (0,0))∧IvB W (w.heap.size+1) 0 0):=by
  rw[hW]
  refine⟨((Below.refl _ _).alloc (Nat.le_refl _) _).alloc (by simp) _,?_,?_⟩
  ·exact(Below.heap_alloc _ _ _ (by simp)).trans (heap_alloc_new _ _)
  ·have:=IvB.new (w.alloc (.cells #[.float .f64 (X 0),.float .f64 (Y 0),.float .f64 (X 1),.float .f64 (Y 1),.float .f64 (X 2),.float .f64 (Y 2),.float .f64 (X 3),.float .f64 (Y 3)] 74)) 0 0
   simpa using this
 clear kd ku hD hE
 go_enter Tryz.func56,Tryz.ntmps56
 go_upto_region 1 with fail
 rw[←hW]
 clear hW
 have hc:W.cell? ⟨w.heap.size,0,none⟩=some (.float .f64 (X 0))∧W.cell? ⟨w.heap.size,1,none⟩=some (.float .f64 (Y 0))∧W.cell? ⟨w.heap.size,2,none⟩=some (.float .f64 (X 1))∧W.cell? ⟨w.heap.size,3,none⟩=some (.float .f64 (Y 1))∧W.cell? ⟨w.heap.size,4,none⟩=some (.float .f64 (X 2))∧W.cell? ⟨w.heap.size,5,none⟩=some (.float .f64 (Y 2))∧W.cell? ⟨w.heap.size,6,none⟩=some (.float .f64 (X 3))∧W.cell? ⟨w.heap.size,7,none⟩=some (.float .f64 (Y 3)):=by
  have:=HX.out.2.1
  simp[World.cell?,this]
 obtain⟨q0,q1,q2,q3,q4,q5,q6,q7⟩:=hc
 have hI1:∀ W,Calls Tryz.prog 34 #[.int .i64 1] W fun r w'=>r=.returned (.float .f64 (lowF (fun i=>onF (D i)) 0))∧w'=W:=cinf_p
 have hI2:∀ W,Calls Tryz.prog 34 #[.int .i64 (-1)] W fun r w'=>r=.returned (.float .f64 (hiF (fun i=>onF (E i)) 0))∧w'=W:=cinf_m
 generalize hlo:lowF (fun i=>onF (D i))=Lo at *
 generalize hhi:hiF (fun i=>onF (E i))=Hi at *
 have HlH:Hid (lowF (fun i=>onF (D i))=Lo∧hiF (fun i=>onF (E i))=Hi):=⟨hlo,hhi⟩
 clear hlo hhi
 go_wp2_with (first|(go_at_call 34;first|(with_reducible refine(hI1 _).mono ?_;rintro r w' ⟨rfl,hw⟩;replace hw:=hw.symm;subst hw)|(with_reducible refine(hI2 _).mono ?_;rintro r w' ⟨rfl,hw⟩;replace hw:=hw.symm;subst hw)))
 clear hI1 hI2 q0 q1 q2 q3 q4 q5 q6 q7
 go_loopw [5,6,12] (fun lo hi i wr=>∃ j:Nat,j≤4∧i=.int .i64 j∧lo=.float .f64 (Lo j)∧hi=.float .f64 (Hi j)∧Hid (Bw W wr)) (fun lo hi i _=>4 - (intOf i).toNat)
 case atStart=>exact⟨0,by omega,rfl,rfl,rfl,Below.refl _ _⟩
 case round =>
  obtain⟨j,hj,rfl,rfl,rfl,hB⟩:=hrel
  obtain⟨W1,hW1⟩:∃ f:Nat→World,f=fun j=>wr.alloc (.cells #[.float .f64 (X j),.float .f64 (Y j)] 72):=⟨_,rfl⟩
  have HB1:Hid (∀ j,(W1 j).heap[wr.heap.size]?=some (.cells #[.float .f64 (X j),.float .f64 (Y j)] 72 (0,0))):=fun j=>by rw[hW1];exact heap_alloc_new _ _
  have HBW1:Hid (∀ j,Below W.heap.size W (W1 j)):=fun j=>by rw[hW1];exact hB.out.alloc hB.out.size _
  have HL1:Hid (∀ j,Lo (j+1)=fMin (Lo j) (onF (D j))∧Hi (j+1)=fMax (Hi j) (onF (E j))):=fun j=>by rw[←HlH.out.1,←HlH.out.2];exact⟨rfl,rfl⟩
  rcases(show j=0∨j=1∨j=2∨j=3∨j=4 by omega)with rfl|rfl|rfl|rfl|rfl
  ·have hW1:W1 0=wr.alloc (.cells #[.float .f64 (X 0),.float .f64 (Y 0)] 72):=by rw[hW1]
   have hp:=run_pairs0 (X 0) (Y 0) (X 1) (Y 1) (X 2) (Y 2) (X 3) (Y 3) wr
   have kd:=HD.out 0 (by omega) (W1 0) (HX.out.1.trans ((HBW1.out 0).mono HX.out.1.size))
   have ⟨s0,s1⟩:=box_cells2 (HB1.out 0)
   have HB1:=HB1.out 0
   have HB1:Hid ((W1 0).heap[wr.heap.size]?=some (.cells #[.float .f64 (X 0),.float .f64 (Y 0)] 72 (0,0))):=HB1
   have HBW:Hid (Below W.heap.size W (W1 0)):=HBW1.out 0
   clear HBW1
   generalize W1 0=V at *
   go_upto_region 5 with fail
   rw[←hW1]
   clear hW1
   go_wp2_with fail
   refine kd.mono ?_
   rintro r w2 ⟨n,rfl,hl,hb2⟩
   have ko:=sorn_lk hl w2
   have hm:=fun ts t=>run_fmin (P:=Tryz.prog) w2 ts t _ _ (HLo.out 0).1 (onF_ok (HDE.out.1 0)).1 (HLo.out 0).2 (onF_ok (HDE.out.1 0)).2
   rw[←(HL1.out 0).1] at hm
   obtain⟨t0,t1⟩:=box_cells2 (box_later HB1.out hb2 (lt_of_box HB1.out))
   have HB3:Hid (Bw W w2):=HBW.out.trans (hb2.mono HBW.out.size)
   clear hl hb2 kd s0 s1 HBW HB1
   have ku:=HU.out 0 (by omega) w2 (HX.out.1.trans (HB3.out.mono HX.out.1.size))
   generalize onF (D 0)=d0 at *
   go_wp2_with fail
   refine ko.mono ?_
   rintro r w3 ⟨rfl,hw⟩
   replace hw:=hw.symm
   subst hw
   clear ko
   go_wp2_with fail
   refine ku.mono ?_
   rintro r w3 ⟨n2,rfl,hl,hb2⟩
   have ko:=sorn_lk hl w3
   clear hm
   have hm:=fun ts t=>run_fmax (P:=Tryz.prog) w3 ts t _ _ (HHi.out 0).1 (onF_ok (HDE.out.2 0)).1 (HHi.out 0).2 (onF_ok (HDE.out.2 0)).2
   rw[←(HL1.out 0).2] at hm
   have HB4:Hid (Bw W w3):=HB3.out.trans (hb2.mono HB3.out.size)
   clear hl hb2 ku t0 t1 HB3
   generalize onF (E 0)=e0 at *
   go_wp2_with fail
   refine ko.mono ?_
   rintro r w4 ⟨rfl,hw⟩
   replace hw:=hw.symm
   subst hw
   clear ko
   go_wp2_with fail
   exact⟨⟨0+1,by omega,rfl,rfl,rfl,HB4⟩,by simp[intOf]⟩
  ·have hW1:W1 1=wr.alloc (.cells #[.float .f64 (X 1),.float .f64 (Y 1)] 72):=by rw[hW1]
   have hp:=run_pairs1 (X 0) (Y 0) (X 1) (Y 1) (X 2) (Y 2) (X 3) (Y 3) wr
   have kd:=HD.out 1 (by omega) (W1 1) (HX.out.1.trans ((HBW1.out 1).mono HX.out.1.size))
   have ⟨s0,s1⟩:=box_cells2 (HB1.out 1)
   have HB1:=HB1.out 1
   have HB1:Hid ((W1 1).heap[wr.heap.size]?=some (.cells #[.float .f64 (X 1),.float .f64 (Y 1)] 72 (0,0))):=HB1
   have HBW:Hid (Below W.heap.size W (W1 1)):=HBW1.out 1
   clear HBW1
   generalize W1 1=V at *
   go_upto_region 5 with fail
   rw[←hW1]
   clear hW1
   go_wp2_with fail
   refine kd.mono ?_
   rintro r w2 ⟨n,rfl,hl,hb2⟩
   have ko:=sorn_lk hl w2
   have hm:=fun ts t=>run_fmin (P:=Tryz.prog) w2 ts t _ _ (HLo.out 1).1 (onF_ok (HDE.out.1 1)).1 (HLo.out 1).2 (onF_ok (HDE.out.1 1)).2
   rw[←(HL1.out 1).1] at hm
   obtain⟨t0,t1⟩:=box_cells2 (box_later HB1.out hb2 (lt_of_box HB1.out))
   have HB3:Hid (Bw W w2):=HBW.out.trans (hb2.mono HBW.out.size)
   clear hl hb2 kd s0 s1 HBW HB1
   have ku:=HU.out 1 (by omega) w2 (HX.out.1.trans (HB3.out.mono HX.out.1.size))
   generalize onF (D 1)=d0 at *
   go_wp2_with fail
   refine ko.mono ?_
   rintro r w3 ⟨rfl,hw⟩
   replace hw:=hw.symm
   subst hw
   clear ko
   go_wp2_with fail
   refine ku.mono ?_
   rintro r w3 ⟨n2,rfl,hl,hb2⟩
   have ko:=sorn_lk hl w3
   clear hm
   have hm:=fun ts t=>run_fmax (P:=Tryz.prog) w3 ts t _ _ (HHi.out 1).1 (onF_ok (HDE.out.2 1)).1 (HHi.out 1).2 (onF_ok (HDE.out.2 1)).2
   rw[←(HL1.out 1).2] at hm
   have HB4:Hid (Bw W w3):=HB3.out.trans (hb2.mono HB3.out.size)
   clear hl hb2 ku t0 t1 HB3
   generalize onF (E 1)=e0 at *
   go_wp2_with fail
   refine ko.mono ?_
   rintro r w4 ⟨rfl,hw⟩
   replace hw:=hw.symm
   subst hw
   clear ko
   go_wp2_with fail
   exact⟨⟨1+1,by omega,rfl,rfl,rfl,HB4⟩,by simp[intOf]⟩
  ·have hW1:W1 2=wr.alloc (.cells #[.float .f64 (X 2),.float .f64 (Y 2)] 72):=by rw[hW1]
   have hp:=run_pairs2 (X 0) (Y 0) (X 1) (Y 1) (X 2) (Y 2) (X 3) (Y 3) wr
   have kd:=HD.out 2 (by omega) (W1 2) (HX.out.1.trans ((HBW1.out 2).mono HX.out.1.size))
   have ⟨s0,s1⟩:=box_cells2 (HB1.out 2)
   have HB1:=HB1.out 2
   have HB1:Hid ((W1 2).heap[wr.heap.size]?=some (.cells #[.float .f64 (X 2),.float .f64 (Y 2)] 72 (0,0))):=HB1
   have HBW:Hid (Below W.heap.size W (W1 2)):=HBW1.out 2
   clear HBW1
   generalize W1 2=V at *
   go_upto_region 5 with fail
   rw[←hW1]
   clear hW1
   go_wp2_with fail
   refine kd.mono ?_
   rintro r w2 ⟨n,rfl,hl,hb2⟩
   have ko:=sorn_lk hl w2
   have hm:=fun ts t=>run_fmin (P:=Tryz.prog) w2 ts t _ _ (HLo.out 2).1 (onF_ok (HDE.out.1 2)).1 (HLo.out 2).2 (onF_ok (HDE.out.1 2)).2
   rw[←(HL1.out 2).1] at hm
   obtain⟨t0,t1⟩:=box_cells2 (box_later HB1.out hb2 (lt_of_box HB1.out))
   have HB3:Hid (Bw W w2):=HBW.out.trans (hb2.mono HBW.out.size)
   clear hl hb2 kd s0 s1 HBW HB1
   have ku:=HU.out 2 (by omega) w2 (HX.out.1.trans (HB3.out.mono HX.out.1.size))
   generalize onF (D 2)=d0 at *
   go_wp2_with fail
   refine ko.mono ?_
   rintro r w3 ⟨rfl,hw⟩
   replace hw:=hw.symm
   subst hw
   clear ko
   go_wp2_with fail
   refine ku.mono ?_
   rintro r w3 ⟨n2,rfl,hl,hb2⟩
   have ko:=sorn_lk hl w3
   clear hm
   have hm:=fun ts t=>run_fmax (P:=Tryz.prog) w3 ts t _ _ (HHi.out 2).1 (onF_ok (HDE.out.2 2)).1 (HHi.out 2).2 (onF_ok (HDE.out.2 2)).2
   rw[←(HL1.out 2).2] at hm
   have HB4:Hid (Bw W w3):=HB3.out.trans (hb2.mono HB3.out.size)
   clear hl hb2 ku t0 t1 HB3
   generalize onF (E 2)=e0 at *
   go_wp2_with fail
   refine ko.mono ?_
   rintro r w4 ⟨rfl,hw⟩
   replace hw:=hw.symm
   subst hw
   clear ko
   go_wp2_with fail
   exact⟨⟨2+1,by omega,rfl,rfl,rfl,HB4⟩,by simp[intOf]⟩
  ·have hW1:W1 3=wr.alloc (.cells #[.float .f64 (X 3),.float .f64 (Y 3)] 72):=by rw[hW1]
   have hp:=run_pairs3 (X 0) (Y 0) (X 1) (Y 1) (X 2) (Y 2) (X 3) (Y 3) wr
   have kd:=HD.out 3 (by omega) (W1 3) (HX.out.1.trans ((HBW1.out 3).mono HX.out.1.size))
   have ⟨s0,s1⟩:=box_cells2 (HB1.out 3)
   have HB1:=HB1.out 3
   have HB1:Hid ((W1 3).heap[wr.heap.size]?=some (.cells #[.float .f64 (X 3),.float .f64 (Y 3)] 72 (0,0))):=HB1
   have HBW:Hid (Below W.heap.size W (W1 3)):=HBW1.out 3
   clear HBW1
   generalize W1 3=V at *
   go_upto_region 5 with fail
   rw[←hW1]
   clear hW1
   go_wp2_with fail
   refine kd.mono ?_
   rintro r w2 ⟨n,rfl,hl,hb2⟩
   have ko:=sorn_lk hl w2
   have hm:=fun ts t=>run_fmin (P:=Tryz.prog) w2 ts t _ _ (HLo.out 3).1 (onF_ok (HDE.out.1 3)).1 (HLo.out 3).2 (onF_ok (HDE.out.1 3)).2
   rw[←(HL1.out 3).1] at hm
   obtain⟨t0,t1⟩:=box_cells2 (box_later HB1.out hb2 (lt_of_box HB1.out))
   have HB3:Hid (Bw W w2):=HBW.out.trans (hb2.mono HBW.out.size)
   clear hl hb2 kd s0 s1 HBW HB1
   have ku:=HU.out 3 (by omega) w2 (HX.out.1.trans (HB3.out.mono HX.out.1.size))
   generalize onF (D 3)=d0 at *
   go_wp2_with fail
   refine ko.mono ?_
   rintro r w3 ⟨rfl,hw⟩
   replace hw:=hw.symm
   subst hw
   clear ko
   go_wp2_with fail
   refine ku.mono ?_
   rintro r w3 ⟨n2,rfl,hl,hb2⟩
   have ko:=sorn_lk hl w3
   clear hm
   have hm:=fun ts t=>run_fmax (P:=Tryz.prog) w3 ts t _ _ (HHi.out 3).1 (onF_ok (HDE.out.2 3)).1 (HHi.out 3).2 (onF_ok (HDE.out.2 3)).2
   rw[←(HL1.out 3).2] at hm
   have HB4:Hid (Bw W w3):=HB3.out.trans (hb2.mono HB3.out.size)
   clear hl hb2 ku t0 t1 HB3
   generalize onF (E 3)=e0 at *
   go_wp2_with fail
   refine ko.mono ?_
   rintro r w4 ⟨rfl,hw⟩
   replace hw:=hw.symm
   subst hw
   clear ko
   go_wp2_with fail
   exact⟨⟨3+1,by omega,rfl,rfl,rfl,HB4⟩,by simp[intOf]⟩
  ·have kb:=sbetween (Lo 4) (Hi 4) wr (HLo.out 4).1 (HHi.out 4).1
   have HR:Hid (IvB wr (w.heap.size+1) 0 0):=HX.out.2.2.box hB.out
   have HBw:Hid (Bw w wr):=HX.out.1.trans (hB.out.mono HX.out.1.size)
   clear HB1 HBW1 hW1
   go_wp2_with fail
   refine kb.mono ?_
   rintro r w2 ⟨rfl,hb2⟩
   have hR2:IvB w2 (w.heap.size+1) 0 0:=HR.out.box hb2
   obtain⟨y0,y1,y2,y3⟩:=hR2.facts
   have HR:Hid (IvB w2 (w.heap.size+1) 0 0):=hR2
   have HB2:Hid (Bw w w2):=HBw.out.trans (hb2.mono HBw.out.size)
   clear hb2 hR2 kb
   generalize hA:pl (Lo 4)=A at *
   generalize hC:pl (Hi 4)=C at *
   have HAC:Hid (pl (Lo 4)=A∧pl (Hi 4)=C):=⟨hA,hC⟩
   clear hA hC
   go_wp2_with fail
   refine bodyPost_ret (results_cell_row rfl _ _ (w.heap.size+1) 24 #[.float .f64 A,.float .f64 C] (0,0) _ rfl (HR.out.set _ _) Tryz.underlying24 rfl iv_info) rfl ?_
   exact⟨by rw[HlH.out.1,HlH.out.2,HAC.out.1,HAC.out.2],below_store2 HB2.out (by omega) _ _⟩
theorem sspread_Div (X Y D E:Nat→Nat) (w:World) (hD:∀ i,D i<18446744073709551616) (hE:∀ i,E i<18446744073709551616)
  (kd:∀ i,i<4→∀ W,Bw w W→Calls Tryz.prog 59 #[.float .f64 (X i),.float .f64 (Y i),.int .i64 1] W fun r w'=>∃ n,r=.returned (.float .f64 n)∧lk n (D i)∧Bw W w')
  (ku:∀ i,i<4→∀ W,Bw w W→Calls Tryz.prog 59 #[.float .f64 (X i),.float .f64 (Y i),.int .i64 3] W fun r w'=>∃ n,r=.returned (.float .f64 n)∧lk n (E i)∧Bw W w') :
  Calls Tryz.prog 56 #[.agg #[.float .f64 (X 0),.float .f64 (Y 0),.float .f64 (X 1),.float .f64 (Y 1),.float .f64 (X 2),.float .f64 (Y 2),.float .f64 (X 3),.float .f64 (Y 3)],.func (.func 59) #[] #[]] w fun r w'=>r=.returned (.agg #[.float .f64 (pl (lowF (fun i=>onF (D i)) 4)),.float .f64 (pl (hiF (fun i=>onF (E i)) 4))])∧Bw w w':=by
 have HD:Hid _:=kd
 have HU:Hid _:=ku
 have HLo:Hid (∀ n,lowF (fun i=>onF (D i)) n<18446744073709551616∧isNaN (lowF (fun i=>onF (D i)) n)=false):=lowF_ok fun i=>onF_ok (hD i)
 have HHi:Hid (∀ n,hiF (fun i=>onF (E i)) n<18446744073709551616∧isNaN (hiF (fun i=>onF (E i)) n)=false):=hiF_ok fun i=>onF_ok (hE i)
 have HDE:Hid ((∀ i,D i<18446744073709551616)∧∀ i,E i<18446744073709551616):=⟨hD,hE⟩
 obtain⟨W,hW⟩:∃ W,W=(w.alloc (.cells #[.float .f64 (X 0),.float .f64 (Y 0),.float .f64 (X 1),.float .f64 (Y 1),.float .f64 (X 2),.float .f64 (Y 2),.float .f64 (X 3),.float .f64 (Y 3)] 74)).alloc (.cells #[.float .f64 0,.float .f64 0] 24):=⟨_,rfl⟩
 have HX:Hid (Bw w W∧W.heap[w.heap.size]?=some (.cells #[.float .f64 (X 0),.float .f64 (Y 0),.float .f64 (X 1),.float .f64 (Y 1),.float .f64 (X 2),.float .f64 (Y 2),.float .f64 (X 3),.float .f64 (Y 3)] 74 (0,0))∧IvB W (w.heap.size+1) 0 0):=by
  rw[hW]
  refine⟨((Below.refl _ _).alloc (Nat.le_refl _) _).alloc (by simp) _,?_,?_⟩
  ·exact(Below.heap_alloc _ _ _ (by simp)).trans (heap_alloc_new _ _)
  ·have:=IvB.new (w.alloc (.cells #[.float .f64 (X 0),.float .f64 (Y 0),.float .f64 (X 1),.float .f64 (Y 1),.float .f64 (X 2),.float .f64 (Y 2),.float .f64 (X 3),.float .f64 (Y 3)] 74)) 0 0
   simpa using this
 clear kd ku hD hE
 go_enter Tryz.func56,Tryz.ntmps56
 go_upto_region 1 with fail
 rw[←hW]
 clear hW
 have hc:W.cell? ⟨w.heap.size,0,none⟩=some (.float .f64 (X 0))∧W.cell? ⟨w.heap.size,1,none⟩=some (.float .f64 (Y 0))∧W.cell? ⟨w.heap.size,2,none⟩=some (.float .f64 (X 1))∧W.cell? ⟨w.heap.size,3,none⟩=some (.float .f64 (Y 1))∧W.cell? ⟨w.heap.size,4,none⟩=some (.float .f64 (X 2))∧W.cell? ⟨w.heap.size,5,none⟩=some (.float .f64 (Y 2))∧W.cell? ⟨w.heap.size,6,none⟩=some (.float .f64 (X 3))∧W.cell? ⟨w.heap.size,7,none⟩=some (.float .f64 (Y 3)):=by
  have:=HX.out.2.1
  simp[World.cell?,this]
 obtain⟨q0,q1,q2,q3,q4,q5,q6,q7⟩:=hc
 have hI1:∀ W,Calls Tryz.prog 34 #[.int .i64 1] W fun r w'=>r=.returned (.float .f64 (lowF (fun i=>onF (D i)) 0))∧w'=W:=cinf_p
 have hI2:∀ W,Calls Tryz.prog 34 #[.int .i64 (-1)] W fun r w'=>r=.returned (.float .f64 (hiF (fun i=>onF (E i)) 0))∧w'=W:=cinf_m
 generalize hlo:lowF (fun i=>onF (D i))=Lo at *
 generalize hhi:hiF (fun i=>onF (E i))=Hi at *
 have HlH:Hid (lowF (fun i=>onF (D i))=Lo∧hiF (fun i=>onF (E i))=Hi):=⟨hlo,hhi⟩
 clear hlo hhi
 go_wp2_with (first|(go_at_call 34;first|(with_reducible refine(hI1 _).mono ?_;rintro r w' ⟨rfl,hw⟩;replace hw:=hw.symm;subst hw)|(with_reducible refine(hI2 _).mono ?_;rintro r w' ⟨rfl,hw⟩;replace hw:=hw.symm;subst hw)))
 clear hI1 hI2 q0 q1 q2 q3 q4 q5 q6 q7
 go_loopw [5,6,12] (fun lo hi i wr=>∃ j:Nat,j≤4∧i=.int .i64 j∧lo=.float .f64 (Lo j)∧hi=.float .f64 (Hi j)∧Hid (Bw W wr)) (fun lo hi i _=>4 - (intOf i).toNat)
 case atStart=>exact⟨0,by omega,rfl,rfl,rfl,Below.refl _ _⟩
 case round =>
  obtain⟨j,hj,rfl,rfl,rfl,hB⟩:=hrel
  obtain⟨W1,hW1⟩:∃ f:Nat→World,f=fun j=>wr.alloc (.cells #[.float .f64 (X j),.float .f64 (Y j)] 72):=⟨_,rfl⟩
  have HB1:Hid (∀ j,(W1 j).heap[wr.heap.size]?=some (.cells #[.float .f64 (X j),.float .f64 (Y j)] 72 (0,0))):=fun j=>by rw[hW1];exact heap_alloc_new _ _
  have HBW1:Hid (∀ j,Below W.heap.size W (W1 j)):=fun j=>by rw[hW1];exact hB.out.alloc hB.out.size _
  have HL1:Hid (∀ j,Lo (j+1)=fMin (Lo j) (onF (D j))∧Hi (j+1)=fMax (Hi j) (onF (E j))):=fun j=>by rw[←HlH.out.1,←HlH.out.2];exact⟨rfl,rfl⟩
  rcases(show j=0∨j=1∨j=2∨j=3∨j=4 by omega)with rfl|rfl|rfl|rfl|rfl
  ·have hW1:W1 0=wr.alloc (.cells #[.float .f64 (X 0),.float .f64 (Y 0)] 72):=by rw[hW1]
   have hp:=run_pairs0 (X 0) (Y 0) (X 1) (Y 1) (X 2) (Y 2) (X 3) (Y 3) wr
   have kd:=HD.out 0 (by omega) (W1 0) (HX.out.1.trans ((HBW1.out 0).mono HX.out.1.size))
   have ⟨s0,s1⟩:=box_cells2 (HB1.out 0)
   have HB1:=HB1.out 0
   have HB1:Hid ((W1 0).heap[wr.heap.size]?=some (.cells #[.float .f64 (X 0),.float .f64 (Y 0)] 72 (0,0))):=HB1
   have HBW:Hid (Below W.heap.size W (W1 0)):=HBW1.out 0
   clear HBW1
   generalize W1 0=V at *
   go_upto_region 5 with fail
   rw[←hW1]
   clear hW1
   go_wp2_with fail
   refine kd.mono ?_
   rintro r w2 ⟨n,rfl,hl,hb2⟩
   have ko:=sorn_lk hl w2
   have hm:=fun ts t=>run_fmin (P:=Tryz.prog) w2 ts t _ _ (HLo.out 0).1 (onF_ok (HDE.out.1 0)).1 (HLo.out 0).2 (onF_ok (HDE.out.1 0)).2
   rw[←(HL1.out 0).1] at hm
   obtain⟨t0,t1⟩:=box_cells2 (box_later HB1.out hb2 (lt_of_box HB1.out))
   have HB3:Hid (Bw W w2):=HBW.out.trans (hb2.mono HBW.out.size)
   clear hl hb2 kd s0 s1 HBW HB1
   have ku:=HU.out 0 (by omega) w2 (HX.out.1.trans (HB3.out.mono HX.out.1.size))
   generalize onF (D 0)=d0 at *
   go_wp2_with fail
   refine ko.mono ?_
   rintro r w3 ⟨rfl,hw⟩
   replace hw:=hw.symm
   subst hw
   clear ko
   go_wp2_with fail
   refine ku.mono ?_
   rintro r w3 ⟨n2,rfl,hl,hb2⟩
   have ko:=sorn_lk hl w3
   clear hm
   have hm:=fun ts t=>run_fmax (P:=Tryz.prog) w3 ts t _ _ (HHi.out 0).1 (onF_ok (HDE.out.2 0)).1 (HHi.out 0).2 (onF_ok (HDE.out.2 0)).2
   rw[←(HL1.out 0).2] at hm
   have HB4:Hid (Bw W w3):=HB3.out.trans (hb2.mono HB3.out.size)
   clear hl hb2 ku t0 t1 HB3
   generalize onF (E 0)=e0 at *
   go_wp2_with fail
   refine ko.mono ?_
   rintro r w4 ⟨rfl,hw⟩
   replace hw:=hw.symm
   subst hw
   clear ko
   go_wp2_with fail
   exact⟨⟨0+1,by omega,rfl,rfl,rfl,HB4⟩,by simp[intOf]⟩
  ·have hW1:W1 1=wr.alloc (.cells #[.float .f64 (X 1),.float .f64 (Y 1)] 72):=by rw[hW1]
   have hp:=run_pairs1 (X 0) (Y 0) (X 1) (Y 1) (X 2) (Y 2) (X 3) (Y 3) wr
   have kd:=HD.out 1 (by omega) (W1 1) (HX.out.1.trans ((HBW1.out 1).mono HX.out.1.size))
   have ⟨s0,s1⟩:=box_cells2 (HB1.out 1)
   have HB1:=HB1.out 1
   have HB1:Hid ((W1 1).heap[wr.heap.size]?=some (.cells #[.float .f64 (X 1),.float .f64 (Y 1)] 72 (0,0))):=HB1
   have HBW:Hid (Below W.heap.size W (W1 1)):=HBW1.out 1
   clear HBW1
   generalize W1 1=V at *
   go_upto_region 5 with fail
   rw[←hW1]
   clear hW1
   go_wp2_with fail
   refine kd.mono ?_
   rintro r w2 ⟨n,rfl,hl,hb2⟩
   have ko:=sorn_lk hl w2
   have hm:=fun ts t=>run_fmin (P:=Tryz.prog) w2 ts t _ _ (HLo.out 1).1 (onF_ok (HDE.out.1 1)).1 (HLo.out 1).2 (onF_ok (HDE.out.1 1)).2
   rw[←(HL1.out 1).1] at hm
   obtain⟨t0,t1⟩:=box_cells2 (box_later HB1.out hb2 (lt_of_box HB1.out))
   have HB3:Hid (Bw W w2):=HBW.out.trans (hb2.mono HBW.out.size)
   clear hl hb2 kd s0 s1 HBW HB1
   have ku:=HU.out 1 (by omega) w2 (HX.out.1.trans (HB3.out.mono HX.out.1.size))
   generalize onF (D 1)=d0 at *
   go_wp2_with fail
   refine ko.mono ?_
   rintro r w3 ⟨rfl,hw⟩
   replace hw:=hw.symm
   subst hw
   clear ko
   go_wp2_with fail
   refine ku.mono ?_
   rintro r w3 ⟨n2,rfl,hl,hb2⟩
   have ko:=sorn_lk hl w3
   clear hm
   have hm:=fun ts t=>run_fmax (P:=Tryz.prog) w3 ts t _ _ (HHi.out 1).1 (onF_ok (HDE.out.2 1)).1 (HHi.out 1).2 (onF_ok (HDE.out.2 1)).2
   rw[←(HL1.out 1).2] at hm
   have HB4:Hid (Bw W w3):=HB3.out.trans (hb2.mono HB3.out.size)
   clear hl hb2 ku t0 t1 HB3
   generalize onF (E 1)=e0 at *
   go_wp2_with fail
   refine ko.mono ?_
   rintro r w4 ⟨rfl,hw⟩
   replace hw:=hw.symm
   subst hw
   clear ko
   go_wp2_with fail
   exact⟨⟨1+1,by omega,rfl,rfl,rfl,HB4⟩,by simp[intOf]⟩
  ·have hW1:W1 2=wr.alloc (.cells #[.float .f64 (X 2),.float .f64 (Y 2)] 72):=by rw[hW1]
   have hp:=run_pairs2 (X 0) (Y 0) (X 1) (Y 1) (X 2) (Y 2) (X 3) (Y 3) wr
   have kd:=HD.out 2 (by omega) (W1 2) (HX.out.1.trans ((HBW1.out 2).mono HX.out.1.size))
   have ⟨s0,s1⟩:=box_cells2 (HB1.out 2)
   have HB1:=HB1.out 2
   have HB1:Hid ((W1 2).heap[wr.heap.size]?=some (.cells #[.float .f64 (X 2),.float .f64 (Y 2)] 72 (0,0))):=HB1
   have HBW:Hid (Below W.heap.size W (W1 2)):=HBW1.out 2
   clear HBW1
   generalize W1 2=V at *
   go_upto_region 5 with fail
   rw[←hW1]
   clear hW1
   go_wp2_with fail
   refine kd.mono ?_
   rintro r w2 ⟨n,rfl,hl,hb2⟩
   have ko:=sorn_lk hl w2
   have hm:=fun ts t=>run_fmin (P:=Tryz.prog) w2 ts t _ _ (HLo.out 2).1 (onF_ok (HDE.out.1 2)).1 (HLo.out 2).2 (onF_ok (HDE.out.1 2)).2
   rw[←(HL1.out 2).1] at hm
   obtain⟨t0,t1⟩:=box_cells2 (box_later HB1.out hb2 (lt_of_box HB1.out))
   have HB3:Hid (Bw W w2):=HBW.out.trans (hb2.mono HBW.out.size)
   clear hl hb2 kd s0 s1 HBW HB1
   have ku:=HU.out 2 (by omega) w2 (HX.out.1.trans (HB3.out.mono HX.out.1.size))
   generalize onF (D 2)=d0 at *
   go_wp2_with fail
   refine ko.mono ?_
   rintro r w3 ⟨rfl,hw⟩
   replace hw:=hw.symm
   subst hw
   clear ko
   go_wp2_with fail
   refine ku.mono ?_
   rintro r w3 ⟨n2,rfl,hl,hb2⟩
   have ko:=sorn_lk hl w3
   clear hm
   have hm:=fun ts t=>run_fmax (P:=Tryz.prog) w3 ts t _ _ (HHi.out 2).1 (onF_ok (HDE.out.2 2)).1 (HHi.out 2).2 (onF_ok (HDE.out.2 2)).2
   rw[←(HL1.out 2).2] at hm
   have HB4:Hid (Bw W w3):=HB3.out.trans (hb2.mono HB3.out.size)
   clear hl hb2 ku t0 t1 HB3
   generalize onF (E 2)=e0 at *
   go_wp2_with fail
   refine ko.mono ?_
   rintro r w4 ⟨rfl,hw⟩
   replace hw:=hw.symm
   subst hw
   clear ko
   go_wp2_with fail
   exact⟨⟨2+1,by omega,rfl,rfl,rfl,HB4⟩,by simp[intOf]⟩
  ·have hW1:W1 3=wr.alloc (.cells #[.float .f64 (X 3),.float .f64 (Y 3)] 72):=by rw[hW1]
   have hp:=run_pairs3 (X 0) (Y 0) (X 1) (Y 1) (X 2) (Y 2) (X 3) (Y 3) wr
   have kd:=HD.out 3 (by omega) (W1 3) (HX.out.1.trans ((HBW1.out 3).mono HX.out.1.size))
   have ⟨s0,s1⟩:=box_cells2 (HB1.out 3)
   have HB1:=HB1.out 3
   have HB1:Hid ((W1 3).heap[wr.heap.size]?=some (.cells #[.float .f64 (X 3),.float .f64 (Y 3)] 72 (0,0))):=HB1
   have HBW:Hid (Below W.heap.size W (W1 3)):=HBW1.out 3
   clear HBW1
   generalize W1 3=V at *
   go_upto_region 5 with fail
   rw[←hW1]
   clear hW1
   go_wp2_with fail
   refine kd.mono ?_
   rintro r w2 ⟨n,rfl,hl,hb2⟩
   have ko:=sorn_lk hl w2
   have hm:=fun ts t=>run_fmin (P:=Tryz.prog) w2 ts t _ _ (HLo.out 3).1 (onF_ok (HDE.out.1 3)).1 (HLo.out 3).2 (onF_ok (HDE.out.1 3)).2
   rw[←(HL1.out 3).1] at hm
   obtain⟨t0,t1⟩:=box_cells2 (box_later HB1.out hb2 (lt_of_box HB1.out))
   have HB3:Hid (Bw W w2):=HBW.out.trans (hb2.mono HBW.out.size)
   clear hl hb2 kd s0 s1 HBW HB1
   have ku:=HU.out 3 (by omega) w2 (HX.out.1.trans (HB3.out.mono HX.out.1.size))
   generalize onF (D 3)=d0 at *
   go_wp2_with fail
   refine ko.mono ?_
   rintro r w3 ⟨rfl,hw⟩
   replace hw:=hw.symm
   subst hw
   clear ko
   go_wp2_with fail
   refine ku.mono ?_
   rintro r w3 ⟨n2,rfl,hl,hb2⟩
   have ko:=sorn_lk hl w3
   clear hm
   have hm:=fun ts t=>run_fmax (P:=Tryz.prog) w3 ts t _ _ (HHi.out 3).1 (onF_ok (HDE.out.2 3)).1 (HHi.out 3).2 (onF_ok (HDE.out.2 3)).2
   rw[←(HL1.out 3).2] at hm
   have HB4:Hid (Bw W w3):=HB3.out.trans (hb2.mono HB3.out.size)
   clear hl hb2 ku t0 t1 HB3
   generalize onF (E 3)=e0 at *
   go_wp2_with fail
   refine ko.mono ?_
   rintro r w4 ⟨rfl,hw⟩
   replace hw:=hw.symm
   subst hw
   clear ko
   go_wp2_with fail
   exact⟨⟨3+1,by omega,rfl,rfl,rfl,HB4⟩,by simp[intOf]⟩
  ·have kb:=sbetween (Lo 4) (Hi 4) wr (HLo.out 4).1 (HHi.out 4).1
   have HR:Hid (IvB wr (w.heap.size+1) 0 0):=HX.out.2.2.box hB.out
   have HBw:Hid (Bw w wr):=HX.out.1.trans (hB.out.mono HX.out.1.size)
   clear HB1 HBW1 hW1
   go_wp2_with fail
   refine kb.mono ?_
   rintro r w2 ⟨rfl,hb2⟩
   have hR2:IvB w2 (w.heap.size+1) 0 0:=HR.out.box hb2
   obtain⟨y0,y1,y2,y3⟩:=hR2.facts
   have HR:Hid (IvB w2 (w.heap.size+1) 0 0):=hR2
   have HB2:Hid (Bw w w2):=HBw.out.trans (hb2.mono HBw.out.size)
   clear hb2 hR2 kb
   generalize hA:pl (Lo 4)=A at *
   generalize hC:pl (Hi 4)=C at *
   have HAC:Hid (pl (Lo 4)=A∧pl (Hi 4)=C):=⟨hA,hC⟩
   clear hA hC
   go_wp2_with fail
   refine bodyPost_ret (results_cell_row rfl _ _ (w.heap.size+1) 24 #[.float .f64 A,.float .f64 C] (0,0) _ rfl (HR.out.set _ _) Tryz.underlying24 rfl iv_info) rfl ?_
   exact⟨by rw[HlH.out.1,HlH.out.2,HAC.out.1,HAC.out.2],below_store2 HB2.out (by omega) _ _⟩
def pk4 (a b c d:Nat):Nat→Nat
 | 0=>a
 | 1=>b
 | 2=>c
 | _=>d
theorem pk4_lt {a b c d:Nat} (ha:a<18446744073709551616) (hb:b<18446744073709551616) (hc:c<18446744073709551616) (hd:d<18446744073709551616) (i:Nat):pk4 a b c d i<18446744073709551616:=by
 unfold pk4
 split <;> assumption
def mlo (a b c d:Nat):Nat:=pl (lowF (fun i=>onF (fMul (pk4 a a b b i) (pk4 c d c d i) 1)) 4)
def mhi (a b c d:Nat):Nat:=pl (hiF (fun i=>onF (fMul (pk4 a a b b i) (pk4 c d c d i) 3)) 4)
def qlo (a b c d:Nat):Nat:=pl (lowF (fun i=>onF (fDiv (pk4 a a b b i) (pk4 c d c d i) 1)) 4)
def qhi (a b c d:Nat):Nat:=pl (hiF (fun i=>onF (fDiv (pk4 a a b b i) (pk4 c d c d i) 3)) 4)
theorem smul (a b c d:Nat) (ha:a<18446744073709551616) (hb:b<18446744073709551616) (hc:c<18446744073709551616) (hd:d<18446744073709551616) (w:World) (hT:Tab32 w) (hJ:Ie.Tab w) :
  Calls Tryz.prog 32 #[.agg #[.float .f64 a,.float .f64 b],.agg #[.float .f64 c,.float .f64 d]] w fun r w'=>r=.returned (orV (vI a b&&vI c d) (mlo a b c d) (mhi a b c d) (.int .i64 0) (.int .i64 1))∧Bw w w' :=
 smul_1 a b c d _ _ _ w (fun W g T h=>smaybe h ha hb hc hd) (fun _ W hW =>
  sspread_Mul (pk4 a a b b) (pk4 c d c d) (fun i=>fMul (pk4 a a b b i) (pk4 c d c d i) 1) (fun i=>fMul (pk4 a a b b i) (pk4 c d c d i) 3) W (fun i=>fMul_lt) (fun i=>fMul_lt)
   (fun i _ V hV=>pmul_all _ _ 1 (pk4_lt ha ha hb hb i) (pk4_lt hc hd hc hd i) V (hT.later (hW.trans (hV.mono hW.size))) (Tab.later hJ (hW.trans (hV.mono hW.size))))
   (fun i _ V hV=>pmul_all _ _ 3 (pk4_lt ha ha hb hb i) (pk4_lt hc hd hc hd i) V (hT.later (hW.trans (hV.mono hW.size))) (Tab.later hJ (hW.trans (hV.mono hW.size)))))
theorem squo (a b c d:Nat) (ha:a<18446744073709551616) (hb:b<18446744073709551616) (hc:c<18446744073709551616) (hd:d<18446744073709551616) (w:World) (hT:Tab32 w) (hJ:Ie.Tab w) :
  Calls Tryz.prog 35 #[.agg #[.float .f64 a,.float .f64 b],.agg #[.float .f64 c,.float .f64 d]] w fun r w'=>r=.returned (quoV (vI a b&&vI c d) (hI c d 0) (qlo a b c d) (qhi a b c d))∧Bw w w' :=
 squo_1 a b c d _ _ _ _ w (fun W g T h=>smaybe h ha hb hc hd) (fun _ _ W hW =>
  sspread_Div (pk4 a a b b) (pk4 c d c d) (fun i=>fDiv (pk4 a a b b i) (pk4 c d c d i) 1) (fun i=>fDiv (pk4 a a b b i) (pk4 c d c d i) 3) W (fun i=>fDiv_lt) (fun i=>fDiv_lt)
   (fun i _ V hV=>pdiv_all _ _ 1 (pk4_lt ha ha hb hb i) (pk4_lt hc hd hc hd i) V (hT.later (hW.trans (hV.mono hW.size))) (Tab.later hJ (hW.trans (hV.mono hW.size))))
   (fun i _ V hV=>pdiv_all _ _ 3 (pk4_lt ha ha hb hb i) (pk4_lt hc hd hc hd i) V (hT.later (hW.trans (hV.mono hW.size))) (Tab.later hJ (hW.trans (hV.mono hW.size)))))
  (fun _ W=>shas c d 0 hc hd (by omega) W)
theorem mul_at:mlo 13830554455654793216 4611686018427387904 4613937818241073152 9218868437227405312=18442240474082181120∧mhi 13830554455654793216 4611686018427387904 4613937818241073152 9218868437227405312=9218868437227405312∧(vI 13830554455654793216 4611686018427387904&&vI 4613937818241073152 9218868437227405312)=true:=by decide +kernel
theorem quo_at:qlo 4607182418800017408 4607182418800017408 4613937818241073152 4613937818241073152=4599676419421066581∧qhi 4607182418800017408 4607182418800017408 4613937818241073152 4613937818241073152=4599676419421066582∧(vI 4607182418800017408 4607182418800017408&&vI 4613937818241073152 4613937818241073152)=true∧hI 4613937818241073152 4613937818241073152 0=false:=by decide +kernel
theorem quo_at2:(vI 4607182418800017408 4607182418800017408&&vI 13830554455654793216 4607182418800017408)=true∧hI 13830554455654793216 4607182418800017408 0=true:=by decide +kernel
theorem has_at:hI 4607182418800017408 4611686018427387904 4609434218613702656=true∧hI 4607182418800017408 4611686018427387904 4613937818241073152=false:=by decide +kernel
attribute [local go_sem] run_store_flt
def OutN8 (W:World) (t:Bool×Nat×Int) (r:Ending) (w':World):Prop:=∃ s ao n cap e,r=.returned (.tuple #[.agg #[.bool s,.slice ao n cap,.int .i64 e],.int .i64 0])∧PN w' (.agg #[.bool s,.slice ao n cap,.int .i64 e]) t∧Bw W w'
def tSh (t:Bool×Nat×Int) (k:Int):Bool×Nat×Int:=if t.2.1=0 then(false,0,0) else(t.1,t.2.1,t.2.2+k)
theorem pshift {t:Bool×Nat×Int} {A:Value} {k0:Int} {w:World} (ok:Ok t) (h:PN w A t) (hk1:¬ k0 < -65536 - t.2.2) (hk2:¬ 65536 - t.2.2<k0) :
  Calls Tryz.prog 63 #[A,.int .i64 k0] w fun r w'=>OutN8 w (tSh t k0) r w':=by
 obtain⟨pa,pc,rfl,i1⟩:=h
 obtain⟨f1,f2,f3,f4,f5⟩:=ok.facts
 have km:∀ W g,Bw w W→W.heap[g]?=some (.cells #[.bool t.1,.slice pa (dlen t.2.1) pc,.int .i64 t.2.2] 80 (0,0))→Calls Tryz.prog 97 #[.slice (some ⟨g,0,none⟩) 1 1] W fun r w'=>r=.returned (.bool true)∧Bw W w':=fun W g hW hg=>by
  have:=maybe1 hg (i1.later hW) (by omega)
  rw[show okN t.1 (dlen t.2.1) t.2.1 t.2.2=true from ok] at this
  exact this
 unfold tSh
 by_cases h0:t.2.1=0
 ·rw[if_pos h0]
  have hd:dlen t.2.1=0:=by rw[h0,dlen_zero]
  rw[hd] at km ⊢
  refine(shift_1 t.1 pa pc t.2.2 k0 w km).mono ?_
  rintro r w' ⟨rfl,hb⟩
  exact⟨_,_,_,_,_,rfl,⟨none,0,by rw[dlen_zero],by rw[dlen_zero];exact is_nil _⟩,hb⟩
 ·rw[if_neg h0]
  refine(shift_3 t.1 pa (dlen t.2.1) pc t.2.2 k0 w t.2.1 i1 (by omega) (by omega) (by have:=dlen_pos h0;simp;omega) (by omega) (by omega) hk1 hk2 km).mono ?_
  rintro r w' ⟨v,rfl,ho,hb⟩
  obtain⟨ao,cap,rfl,h1,h2,h3⟩:=ho.is
  exact⟨_,_,_,_,_,rfl,⟨ao,cap,rfl,ao,cap,rfl,h1,h2,h3⟩,hb⟩
theorem shalf_1 (a b F:Nat) (t1 t2 t3 t4:Bool×Nat×Int) (w:World)
  (k1:∀ W,Bw w W→Calls Tryz.prog 61 #[.float .f64 a] W fun r w'=>OutN8 W t1 r w')
  (k2:∀ W,Bw w W→Calls Tryz.prog 61 #[.float .f64 b] W fun r w'=>OutN8 W t2 r w')
  (k3:∀ W X Y,Bw w W→PN W X t1→PN W Y t2→Calls Tryz.prog 62 #[X,Y] W fun r w'=>OutN8 W t3 r w')
  (k4:∀ W X,Bw w W→PN W X t3→Calls Tryz.prog 63 #[X,.int .i64 (-1)] W fun r w'=>OutN8 W t4 r w')
  (k5:∀ W X,Bw w W→PN W X t4→Calls Tryz.prog 64 #[X,.int .i64 2] W fun r w'=>r=.returned (.tuple #[.float .f64 F,.int .i64 0])∧Bw W w') :
  Calls Tryz.prog 39 #[.float .f64 a,.float .f64 b] w fun r w'=>r=.returned (.float .f64 F)∧Bw w w':=by
 have H2:Hid _:=k2
 have H3:Hid _:=k3
 have H4:Hid _:=k4
 have H5:Hid _:=k5
 have kk:=k1 w (Below.refl _ _)
 clear k1 k2 k3 k4 k5
 go_enter Tryz.func39,Tryz.ntmps39
 go_wp2_with fail
 refine kk.mono ?_
 rintro r w1 ⟨s1,ao1,n1,cap1,e1,rfl,hP1,hb1⟩
 clear kk
 obtain⟨W1,hW1⟩:∃ W1,W1=w1.alloc (.cells #[.bool s1,.slice ao1 n1 cap1,.int .i64 e1] 80):=⟨_,rfl⟩
 have hbW1:Bw w W1:=by rw[hW1];exact hb1.alloc hb1.size _
 have HP1:Hid (PN W1 (.agg #[.bool s1,.slice ao1 n1 cap1,.int .i64 e1]) t1):=by rw[hW1];exact hP1.later ((Below.refl _ _).alloc (Nat.le_refl _) _)
 have HH1:Hid (W1.heap[w1.heap.size]?=some (.cells #[.bool s1,.slice ao1 n1 cap1,.int .i64 e1] 80 (0,0))):=by rw[hW1];exact heap_alloc_new _ _
 have HB1:Hid (Bw w W1):=hbW1
 have kk:=H2.out W1 hbW1
 clear hP1 hb1 hbW1 H2
 go_wp2_with fail
 rw[←hW1]
 clear hW1
 generalize w1.heap.size=g1 at *
 refine kk.mono ?_
 rintro r w2 ⟨s2,ao2,n2,cap2,e2,rfl,hP2,hb2⟩
 clear kk
 obtain⟨W2,hW2⟩:∃ W2,W2=w2.alloc (.cells #[.bool s2,.slice ao2 n2 cap2,.int .i64 e2] 80):=⟨_,rfl⟩
 have hbW2:Bw W1 W2:=by rw[hW2];exact hb2.alloc hb2.size _
 have HP2:Hid (PN W2 (.agg #[.bool s2,.slice ao2 n2 cap2,.int .i64 e2]) t2):=by rw[hW2];exact hP2.later ((Below.refl _ _).alloc (Nat.le_refl _) _)
 have HH2:Hid (W2.heap[w2.heap.size]?=some (.cells #[.bool s2,.slice ao2 n2 cap2,.int .i64 e2] 80 (0,0))):=by rw[hW2];exact heap_alloc_new _ _
 have HB2:Hid (Bw w W2):=HB1.out.trans (hbW2.mono HB1.out.size)
 obtain⟨⟨a0,a1,a2⟩,-⟩:=box_cells (box_later HH1.out hbW2 (lt_of_box HH1.out))
 obtain⟨⟨b0,b1,b2⟩,-⟩:=box_cells HH2.out
 rw[hW2] at a0 a1 a2 b0 b1 b2
 have kk:=H3.out W2 _ _ HB2.out (HP1.out.later hbW2) HP2.out
 clear hP2 hb2 hbW2 H3 HB1 HP1 HH1
 go_wp2_with fail
 rw[←hW2]
 clear hW2 a0 a1 a2 b0 b1 b2
 generalize w2.heap.size=g2 at *
 refine kk.mono ?_
 rintro r w3 ⟨s3,ao3,n3,cap3,e3,rfl,hP3,hb3⟩
 clear kk
 obtain⟨W3,hW3⟩:∃ W3,W3=w3.alloc (.cells #[.bool s3,.slice ao3 n3 cap3,.int .i64 e3] 80):=⟨_,rfl⟩
 have hbW3:Bw W2 W3:=by rw[hW3];exact hb3.alloc hb3.size _
 have HP3:Hid (PN W3 (.agg #[.bool s3,.slice ao3 n3 cap3,.int .i64 e3]) t3):=by rw[hW3];exact hP3.later ((Below.refl _ _).alloc (Nat.le_refl _) _)
 have HH3:Hid (W3.heap[w3.heap.size]?=some (.cells #[.bool s3,.slice ao3 n3 cap3,.int .i64 e3] 80 (0,0))):=by rw[hW3];exact heap_alloc_new _ _
 have HB3:Hid (Bw w W3):=HB2.out.trans (hbW3.mono HB2.out.size)
 obtain⟨⟨b0,b1,b2⟩,-⟩:=box_cells HH3.out
 rw[hW3] at b0 b1 b2
 have kk:=H4.out W3 _ HB3.out HP3.out
 clear hP3 hb3 hbW3 H4 HB2 HP2 HH2
 go_wp2_with fail
 rw[←hW3]
 clear hW3 b0 b1 b2
 generalize w3.heap.size=g3 at *
 refine kk.mono ?_
 rintro r w4 ⟨s4,ao4,n4,cap4,e4,rfl,hP4,hb4⟩
 clear kk
 obtain⟨W4,hW4⟩:∃ W4,W4=w4.alloc (.cells #[.bool s4,.slice ao4 n4 cap4,.int .i64 e4] 80):=⟨_,rfl⟩
 have hbW4:Bw W3 W4:=by rw[hW4];exact hb4.alloc hb4.size _
 have HP4:Hid (PN W4 (.agg #[.bool s4,.slice ao4 n4 cap4,.int .i64 e4]) t4):=by rw[hW4];exact hP4.later ((Below.refl _ _).alloc (Nat.le_refl _) _)
 have HH4:Hid (W4.heap[w4.heap.size]?=some (.cells #[.bool s4,.slice ao4 n4 cap4,.int .i64 e4] 80 (0,0))):=by rw[hW4];exact heap_alloc_new _ _
 have HB4:Hid (Bw w W4):=HB3.out.trans (hbW4.mono HB3.out.size)
 obtain⟨⟨b0,b1,b2⟩,-⟩:=box_cells HH4.out
 rw[hW4] at b0 b1 b2
 have kk:=H5.out W4 _ HB4.out HP4.out
 clear hP4 hb4 hbW4 H5 HB3 HP3 HH3
 go_wp2_with fail
 rw[←hW4]
 clear hW4 b0 b1 b2
 generalize w4.heap.size=g4 at *
 refine kk.mono ?_
 rintro r w5 ⟨rfl,hb5⟩
 have HB5:Hid (Bw w w5):=HB4.out.trans (hb5.mono HB4.out.size)
 clear kk hb5 HB4 HP4 HH4
 go_wp2_with fail
 go_ret
 exact⟨rfl,HB5.out⟩
def hfS (a b:Nat):Nat:=tfF (tSh (tS (tF a) (tF b)) (-1)).1 true (tSh (tS (tF a) (tF b)) (-1)).2.1 (tSh (tS (tF a) (tF b)) (-1)).2.2 2
theorem tSh_ok {t:Bool×Nat×Int} {k:Int} (ok:Ok t) (h:t.2.1≠0 → -65536≤t.2.2+k∧t.2.2+k≤65536):Ok (tSh t k):=by
 unfold tSh
 by_cases h0:t.2.1=0
 ·rw[if_pos h0];unfold Ok;rw[dlen_zero];rfl
 ·rw[if_neg h0]
  obtain⟨h1,h2⟩:=h h0
  unfold Ok okN at ok ⊢
  have hd:dlen t.2.1≠0:=by rw[dlen_pos h0];omega
  rw[if_neg hd] at ok
  rw[if_neg hd]
  simp only[Bool.and_eq_true,decide_eq_true_eq] at ok ⊢
  exact⟨⟨ok.1.1,h1⟩,h2⟩
theorem ofN (a:Nat) (ha:a<18446744073709551616) (hf:mag a<9218868437227405312) (w:World) (hT:Tab32 w) (hJ:Ie.Tab w):Calls Tryz.prog 61 #[.float .f64 a] w fun r w'=>OutN8 w (tF a) r w':=by
 obtain⟨m,hm,hml⟩:=sM_lt a ha
 refine(of_fin a m ha w hT hJ hf hm).mono ?_
 rintro r w' ⟨A,rfl,hN,hb⟩
 have hp:=hN.pn
 rw[cn_parts a m ha hf hm] at hp
 obtain⟨s,ao,n,cap,e,rfl⟩:=hp.shape
 exact⟨s,ao,n,cap,e,rfl,hp,hb⟩
theorem hfS_facts (a b:Nat):Ok (tS (tF a) (tF b))∧Ok (tSh (tS (tF a) (tF b)) (-1))∧¬ (-1:Int) < -65536 - (tS (tF a) (tF b)).2.2∧¬ 65536 - (tS (tF a) (tF b)).2.2 < -1:=by
 have hfs:=tS_fits (tF_fits a) (tF_fits b)
 have hok:Ok (tS (tF a) (tF b)):=ok_cn (tS_okR (tF_fits a) (tF_fits b) (by omega) (by omega) (by omega))
 obtain⟨f1,f2,f3,f4,f5⟩:=hok.facts
 by_cases h0:(tS (tF a) (tF b)).2.1=0
 ·have e:=f4 h0
  refine⟨hok,tSh_ok hok (fun h=>absurd h0 h),?_,?_⟩ <;> rw[e] <;> decide
 ·rcases hfs with h|⟨h1,h2,-⟩
  ·exact absurd h h0
  ·exact⟨hok,tSh_ok hok (fun _=>⟨by omega,by omega⟩),by omega,by omega⟩
theorem shalf (a b:Nat) (ha:a<18446744073709551616) (hb:b<18446744073709551616) (hfa:mag a<9218868437227405312) (hfb:mag b<9218868437227405312) (w:World) (hT:Tab32 w) (hJ:Ie.Tab w) :
  Calls Tryz.prog 39 #[.float .f64 a,.float .f64 b] w fun r w'=>r=.returned (.float .f64 (hfS a b))∧Bw w w':=by
 obtain⟨o1,o2,o3,o4⟩:=hfS_facts a b
 have hokR:=tS_okR (tF_fits a) (tF_fits b) (by omega) (by omega) (by omega)
 exact shalf_1 a b _ (tF a) (tF b) (tS (tF a) (tF b)) (tSh (tS (tF a) (tF b)) (-1)) w (fun W h=>ofN a ha hfa W (hT.later h) (Tab.later hJ h)) (fun W h=>ofN b hb hfb W (hT.later h) (Tab.later hJ h))
  (fun W X Y h h1 h2=>add_op (tF_ok a) (tF_ok b) hokR W X Y (hT.later h) h1 h2) (fun W X h h1=>pshift o1 h1 o3 o4) (fun W X h h1=>pround (hT.later h) o2 h1 (by omega))
theorem hfS_lt (a b:Nat):hfS a b<18446744073709551616:=tfF_lt (by omega)
def fAdM (a b:Nat) (m:Int):Nat:=if fin a=false∨fin b=false then addX a b else if(tS (tF a) (tF b)).2.1=0 then sig (z0 (neg a) (neg b) m) 0 else tfF (tS (tF a) (tF b)).1 true (tS (tF a) (tF b)).2.1 (tS (tF a) (tF b)).2.2 m
theorem faddM_p (a b:Nat) (m:Int) (hm':1≤m∧m≤3) (ha:a<18446744073709551616) (hb:b<18446744073709551616) :
  fAdM a b m<18446744073709551616∧((isNaN a=true∨isNaN b=true)→fAdM a b m=9221120237041090560) ∧
   (∀ W,Tab32 W→Ie.Tab W→Calls Tryz.prog 54 #[.float .f64 a,.float .f64 b,.int .i64 m] W fun r w'=>OutF2 W (fAdM a b m) r w'):=by
 have hm:isM m=true:=by unfold isM;rcases(show m=1∨m=2∨m=3 by omega)with rfl|rfl|rfl <;> rfl
 by_cases hf:fin a=false∨fin b=false
 ·have e:fAdM a b m=addX a b:=if_pos hf
  rw[e]
  refine⟨addX_lt ha hb,fun h=>?_,fun W _ _=>?_⟩
  ·unfold addX
   rcases h with h|h
   ·rw[h,Bool.true_or,if_pos rfl]
   ·rw[h,Bool.or_true,if_pos rfl]
  ·have hrun:(∀ W,(binOp .add 22 (.float .f64 a) (.float .f64 b)).run Tryz.prog W=.ok (.float .f64 (addX a b)) W)∨∀ W,∃ n,lk n (addX a b)∧(binOp .add 22 (.float .f64 a) (.float .f64 b)).run Tryz.prog W=.ok (.float .f64 n) W.drew:=by
    rcases add_non ha hb hf with ⟨h1,h2⟩|h1
    ·refine .inr fun W=>?_
     obtain⟨n,n1,n2,hs⟩:=run_nan (P:=Tryz.prog) W .add 22 a b (by simp) h1
     exact⟨n,lk.nan n1 n2 h2,hs⟩
    ·exact .inl fun W=>run_float_arith W .add 22 .f64 a b _ h1
   by_cases hfa:mag a<9218868437227405312
   ·have hfb:¬ mag b<9218868437227405312:=by
     rcases hf with h|h
     ·exact absurd hfa (fin_false.1 h)
     ·exact fin_false.1 h
    exact padd_b a b (addX a b) m W hm (pfin_y a ha hfa) (pfin_n b hb hfb) hrun (addX_lt ha hb)
   ·exact padd_a a b (addX a b) m W hm (pfin_n a ha hfa) hrun (addX_lt ha hb)
 ·have hfa:mag a<9218868437227405312:=Nat.lt_of_not_le fun h=>hf (.inl (fin_false.2 (by omega)))
  have hfb:mag b<9218868437227405312:=Nat.lt_of_not_le fun h=>hf (.inr (fin_false.2 (by omega)))
  have hfs:=tS_fits (tF_fits a) (tF_fits b)
  have hokR:=tS_okR (tF_fits a) (tF_fits b) (by omega) (by omega) (by omega)
  have hok:Ok (tS (tF a) (tF b)):=ok_cn hokR
  obtain⟨f1,f2,f3,f4,f5⟩:=hok.facts
  have hadd:=add_op (tF_ok a) (tF_ok b) hokR
  have e:fAdM a b m=if(tS (tF a) (tF b)).2.1=0 then sig (z0 (neg a) (neg b) m) 0 else tfF (tS (tF a) (tF b)).1 true (tS (tF a) (tF b)).2.1 (tS (tF a) (tF b)).2.2 m:=if_neg hf
  rw[e]
  refine⟨?_,fun h=>(by unfold isNaN at h;simp only[decide_eq_true_eq] at h;rcases h with h|h;omega;omega),fun W hT hI=>?_⟩
  ·split
   ·exact sig_lt (by omega)
   ·exact tfF_lt hm'
  ·by_cases h0:(tS (tF a) (tF b)).2.1=0
   ·rw[if_pos h0]
    refine(padd_z a b _ m _ (tF a) (tF b) (tS (tF a) (tF b)) W hm ha hb (pfin_y a ha hfa) (pfin_y b hb hfb) (exact_ok a ha hfa W hT hI) (fun W' h=>exact_ok b hb hfb W' (hT.later h) (Tab.later hI h)) (fun W' X Y h h1 h2=>added_op hadd (hT.later h) h1 h2) (fun W' X h=>psign hok h) (by rw[sgI_nought,decide_eq_true h0]) (fun W'=>pnought _ _ m hm' W')).mono ?_
    rintro r w' ⟨rfl,hb'⟩
    exact⟨_,rfl,lk.refl (sig_lt (by omega)),hb'⟩
   ·rw[if_neg h0]
    refine(padd_r a b _ m _ (tF a) (tF b) (tS (tF a) (tF b)) W hm ha hb (pfin_y a ha hfa) (pfin_y b hb hfb) (exact_ok a ha hfa W hT hI) (fun W' h=>exact_ok b hb hfb W' (hT.later h) (Tab.later hI h)) (fun W' X Y h h1 h2=>added_op hadd (hT.later h) h1 h2) (fun W' X h=>psign hok h) (by rw[sgI_nought,decide_eq_false h0]) (fun W' X h h1=>prounded (hT.later h) hok h1 hm')).mono ?_
    rintro r w' ⟨rfl,hb'⟩
    exact⟨_,rfl,lk.refl (tfF_lt hm'),hb'⟩
theorem faddM (a b:Nat) (m:Int) (hm:1≤m∧m≤3) (ha:a<18446744073709551616) (hb:b<18446744073709551616) (W:World) (hT:Tab32 W) (hJ:Ie.Tab W):Calls Tryz.prog 54 #[.float .f64 a,.float .f64 b,.int .i64 m] W fun r w'=>OutF2 W (fAdM a b m) r w':=(faddM_p a b m hm ha hb).2.2 W hT hJ
theorem fsubM (a b:Nat) (m:Int) (hm:1≤m∧m≤3) (ha:a<18446744073709551616) (hb:b<18446744073709551616) (W:World) (hT:Tab32 W) (hJ:Ie.Tab W):Calls Tryz.prog 43 #[.float .f64 a,.float .f64 b,.int .i64 m] W fun r w'=>OutF2 W (fAdM a (ngt b) m) r w':=psub_1 a b _ m W hb (faddM a (ngt b) m hm ha (ngt_lt hb) W hT hJ)
attribute [local go_sem] run_store_flt
theorem flt_under:Tryz.prog.underlying 22=some (.float .f64):=by kernel_rfl
theorem run_equalIn_flt (k x y:Nat) (w:World):(Op.equalIn (k+1) 22 (.float .f64 x) (.float .f64 y)).run Tryz.prog w=.ok (FloatKind.f64.format.order x y==some Ordering.eq) w:=by
 simp[Op.equalIn,run_underlying flt_under,Op.floatEq]
theorem eqIv (a b c d:Nat) (w:World):(Op.equalIn 10000 24 (.agg #[.float .f64 a,.float .f64 b]) (.agg #[.float .f64 c,.float .f64 d])).run Tryz.prog w=.ok ((FloatKind.f64.format.order a c==some Ordering.eq)&&(FloatKind.f64.format.order b d==some Ordering.eq)) w:=by
 have hS:Tryz.prog.underlying 24=some (.struct (Tryz.prog.fieldsOf 24)):=by kernel_rfl
 have hp:Tryz.prog.stoodInHeld 24=false:=by kernel_rfl
 have h1:=fun k=>run_equalIn_flt k a c w
 have h2:=fun k=>run_equalIn_flt k b d w
 rw[show(10000:Nat)=9999+1 from rfl,run_equalIn_agg w 9999 24 _ _ hS hp]
 simp only[Program.fieldsOf,Tryz.underlying24]
 rw[show(9999:Nat)=9998+1 from rfl]
 generalize (FloatKind.f64.format.order a c==some Ordering.eq)=p at *
 generalize (FloatKind.f64.format.order b d==some Ordering.eq)=q at *
 go_simp
 cases p <;> cases q <;> simp
def midV (v q i j:Bool) (H:Nat):Value:=if v then(if q then .tuple #[.float .f64 0,.int .i64 0] else if i then .tuple #[.float .f64 18442240474082181119,.int .i64 0] else if j then .tuple #[.float .f64 9218868437227405311,.int .i64 0] else .tuple #[.float .f64 H,.int .i64 0])else .tuple #[.float .f64 0,.int .i64 1]
theorem smid_1 (lo hi H:Nat) (v q i j:Bool) (w:World)
  (k1:∀ W,Calls Tryz.prog 20 #[.agg #[.float .f64 lo,.float .f64 hi]] W fun r w'=>r=.returned (.bool v)∧Bw W w')
  (he:∀ W,(Op.equalIn 10000 24 (.agg #[.float .f64 lo,.float .f64 hi]) (.agg #[.float .f64 18442240474082181120,.float .f64 9218868437227405312])).run Tryz.prog W=.ok q W)
  (k3:∀ W,Calls Tryz.prog 38 #[.float .f64 lo,.int .i64 0] W fun r w'=>r=.returned (.bool i)∧w'=W)
  (k4:∀ W,Calls Tryz.prog 38 #[.float .f64 hi,.int .i64 0] W fun r w'=>r=.returned (.bool j)∧w'=W)
  (k5:v=true→i=false→j=false→∀ W,Bw w W→Calls Tryz.prog 39 #[.float .f64 lo,.float .f64 hi] W fun r w'=>r=.returned (.float .f64 H)∧Bw W w') :
  Calls Tryz.prog 15 #[.agg #[.float .f64 lo,.float .f64 hi]] w fun r w'=>r=.returned (midV v q i j H)∧Bw w w':=by
 have HE:Hid (∀ W,(Op.equalIn 10000 24 (.agg #[.float .f64 lo,.float .f64 hi]) (.agg #[.float .f64 18442240474082181120,.float .f64 9218868437227405312])).run Tryz.prog W=.ok q W):=he
 have H3:Hid _:=k3
 have H4:Hid _:=k4
 have H5:Hid _:=k5
 obtain⟨W,hW⟩:∃ W,W=(w.alloc (.cells #[.float .f64 lo,.float .f64 hi] 24)):=⟨_,rfl⟩
 have HX:Hid (Bw w W∧IvB W (w.heap.size) lo hi):=by
  rw[hW]
  exact⟨bxs1_0 w lo hi,bxs1_1 w lo hi⟩
 have HK:Hid (∀ w',Bw W w'→IvF w' (w.heap.size) lo hi):=fun w' hb=>(HX.out.2).later hb
 obtain⟨c0,c1,z0,z1⟩:=HK.out W (Below.refl _ _)
 have kk:=k1 W
 have HV:Hid (Bw w W):=HX.out.1
 clear k1 k3 k4 k5 he
 go_enter Tryz.func15,Tryz.ntmps15
 go_upto_region 1 with fail
 rw[←hW]
 clear hW
 go_wp2_with fail
 refine kk.mono ?_
 rintro r w1 ⟨rfl,hb1⟩
 clear kk c0 c1 z0 z1
 obtain⟨c0,c1,z0,z1⟩:=HK.out w1 hb1
 have HB1:Hid (Bw W w1):=hb1
 clear hb1
 cases v
 ·have HB:Hid (Bw w w1):=HV.out.trans (HB1.out.mono HV.out.size)
  clear HK HX HB1 H3 H4 H5 HE
  go_wp2
  go_ret2
  exact⟨rfl,HB.out⟩
 have he:=HE.out
 have hR:Bw W w1.drew:=HB1.out.drew
 obtain⟨d0,d1,y0,y1⟩:=HK.out w1.drew hR
 go_upto_region 3 with fail
 go_region_held3 (fun w'=>w'.cell? ⟨w.heap.size,0,none⟩=some (.float .f64 lo)∧w'.cell? ⟨w.heap.size,1,none⟩=some (.float .f64 hi)) (first|(with_reducible assumption)|exact⟨d0,d1⟩|exact⟨c0,c1⟩|exact⟨(HK.out _ hb2).1,(HK.out _ hb2).2.1⟩|exact⟨(HK.out _ hb2.drew).1,(HK.out _ hb2.drew).2.1⟩|go_keep)
  (first|(go_at_call 36;refine(sall _).mono ?_;rintro r w2 ⟨rfl,hb2⟩;replace hb2:=hR.trans (hb2.mono hR.size)))
 obtain⟨u0,u1,u2,u3⟩:=HK.out w2 hb2
 have HB2:Hid (Bw w w2):=HV.out.trans (hb2.mono HV.out.size)
 have k3:=H3.out
 have k4:=H4.out
 clear c0 c1 z0 z1 d0 d1 y0 y1 hR HB1 HK HX HE H3 H4 HV hb2 he
 cases q
 case true =>
  go_wp2
  go_ret2
  exact⟨rfl,HB2.out⟩
 cases i
 case true =>
  go_wp2_with (first|(go_at_call 38;refine(k3 _).mono ?_;rintro r w' ⟨rfl,hw⟩;replace hw:=hw.symm;subst hw))
  go_ret2
  exact⟨rfl,HB2.out⟩
 cases j
 case true =>
  go_wp2_with (first|(go_at_call 38;first|(with_reducible refine(k3 _).mono ?_;rintro r w' ⟨rfl,hw⟩;replace hw:=hw.symm;subst hw)|(with_reducible refine(k4 _).mono ?_;rintro r w' ⟨rfl,hw⟩;replace hw:=hw.symm;subst hw)))
  go_ret2
  exact⟨rfl,HB2.out⟩
 have kk:=H5.out (by simp) (by simp) (by simp) w2 HB2.out
 go_wp2_with (first|(go_at_call 38;first|(with_reducible refine(k3 _).mono ?_;rintro r w' ⟨rfl,hw⟩;replace hw:=hw.symm;subst hw)|(with_reducible refine(k4 _).mono ?_;rintro r w' ⟨rfl,hw⟩;replace hw:=hw.symm;subst hw)))
 refine kk.mono ?_
 rintro r w3 ⟨rfl,hb3⟩
 have HB3:Hid (Bw w w3):=HB2.out.trans (hb3.mono HB2.out.size)
 clear kk hb3
 go_wp2_with fail
 go_ret2
 exact⟨rfl,HB3.out⟩
def radV (e:Int) (R:Nat):Value:=if e=0 then .tuple #[.float .f64 R,.int .i64 0] else .tuple #[.float .f64 0,.int .i64 e]
theorem srad_1 (lo hi M P Q R:Nat) (e:Int) (w:World)
  (k1:∀ W,Bw w W→Calls Tryz.prog 15 #[.agg #[.float .f64 lo,.float .f64 hi]] W fun r w'=>r=.returned (.tuple #[.float .f64 M,.int .i64 e])∧Bw W w')
  (k2:e=0→∀ W,Bw w W→Calls Tryz.prog 43 #[.float .f64 M,.float .f64 lo,.int .i64 3] W fun r w'=>r=.returned (.float .f64 P)∧Bw W w')
  (k3:e=0→∀ W,Bw w W→Calls Tryz.prog 43 #[.float .f64 hi,.float .f64 M,.int .i64 3] W fun r w'=>r=.returned (.float .f64 Q)∧Bw W w')
  (hm:e=0→∀ W ts t,(Builtin.max_ ts t #[.float .f64 P,.float .f64 Q]).run Tryz.prog W=.ok (.float .f64 R) W) :
  Calls Tryz.prog 17 #[.agg #[.float .f64 lo,.float .f64 hi]] w fun r w'=>r=.returned (radV e R)∧Bw w w':=by
 have H2:Hid _:=k2
 have H3:Hid _:=k3
 have HM:Hid (e=0→∀ W ts t,(Builtin.max_ ts t #[.float .f64 P,.float .f64 Q]).run Tryz.prog W=.ok (.float .f64 R) W):=hm
 obtain⟨W,hW⟩:∃ W,W=(w.alloc (.cells #[.float .f64 lo,.float .f64 hi] 24)):=⟨_,rfl⟩
 have HX:Hid (Bw w W∧IvB W (w.heap.size) lo hi):=by
  rw[hW]
  exact⟨bxs1_0 w lo hi,bxs1_1 w lo hi⟩
 have HK:Hid (∀ w',Bw W w'→IvF w' (w.heap.size) lo hi):=fun w' hb=>(HX.out.2).later hb
 obtain⟨c0,c1,z0,z1⟩:=HK.out W (Below.refl _ _)
 have HV:Hid (Bw w W):=HX.out.1
 have kk:=k1 W HV.out
 clear k1 k2 k3 hm
 go_enter Tryz.func17,Tryz.ntmps17
 go_upto_region 1 with fail
 rw[←hW]
 clear hW
 go_wp2_with fail
 refine kk.mono ?_
 rintro r w1 ⟨rfl,hb1⟩
 clear kk c0 c1 z0 z1
 obtain⟨c0,c1,z0,z1⟩:=HK.out w1 hb1
 have HB1:Hid (Bw W w1):=hb1
 have HB:Hid (Bw w w1):=HV.out.trans (hb1.mono HV.out.size)
 clear hb1
 by_cases he:e=0
 ·subst he
  have hm:=HM.out rfl
  have hR:Bw W w1.drew:=HB1.out.drew
  have q2:∀ W',Bw W W'→Calls Tryz.prog 43 #[.float .f64 M,.float .f64 lo,.int .i64 3] W' fun r w'=>r=.returned (.float .f64 P)∧Bw W w':=fun W' h=>(H2.out rfl W' (HV.out.trans (h.mono HV.out.size))).mono fun r w' ⟨e1,e2⟩=>⟨e1,h.trans (e2.mono h.size)⟩
  have q3:∀ W',Bw W W'→Calls Tryz.prog 43 #[.float .f64 hi,.float .f64 M,.int .i64 3] W' fun r w'=>r=.returned (.float .f64 Q)∧Bw W w':=fun W' h=>(H3.out rfl W' (HV.out.trans (h.mono HV.out.size))).mono fun r w' ⟨e1,e2⟩=>⟨e1,h.trans (e2.mono h.size)⟩
  obtain⟨d0,d1,y0,y1⟩:=HK.out w1.drew hR
  clear HM H2 H3
  go_upto_region 4 with fail
  go_region_held3 (fun w'=>w'.cell? ⟨w.heap.size,0,none⟩=some (.float .f64 lo)∧w'.cell? ⟨w.heap.size,1,none⟩=some (.float .f64 hi)) (first|(with_reducible assumption)|exact⟨d0,d1⟩|exact⟨c0,c1⟩|exact⟨(HK.out _ hb3).1,(HK.out _ hb3).2.1⟩|exact⟨(HK.out _ hb2).1,(HK.out _ hb2).2.1⟩|go_keep)
   (first|(go_at_call 43;with_reducible refine(q2 _ hR).mono ?_;rintro r w2 ⟨rfl,hb2⟩)|(go_at_call 43;with_reducible refine(q3 _ hb2).mono ?_;rintro r w3 ⟨rfl,hb3⟩))
  have HB3:Hid (Bw w w3):=HV.out.trans (hb3.mono HV.out.size)
  clear c0 c1 z0 z1 d0 d1 y0 y1 hR HB1 HK HX q2 q3 HV hb2 hb3
  go_wp2_with fail
  go_ret2
  exact⟨rfl,HB3.out⟩
 ·have hq:(e==0)=false:=by simp[he]
  have hq2:(e != 0)=true:=by simp[he]
  have HE:Hid (e≠0):=he
  clear HM H2 H3 HK HX HV HB1 he
  go_wp2
  go_ret2
  exact⟨by unfold radV;rw[if_neg HE.out];rfl,HB.out⟩
def iAll (lo hi:Nat):Bool:=eq lo 18442240474082181120&&eq hi 9218868437227405312
def iFar (a:Nat):Bool:=lt 9218868437227405311 (mag a)
theorem far_fin {a:Nat} (h:iFar a=false) (hn:isNaN a=false):mag a<9218868437227405312:=by
 have n':¬ 9218868437227405312<mag a:=of_decide_eq_false hn
 have hm:isNaN (mag a)=false:=by
  unfold isNaN
  rw[show mag (mag a)=mag a by unfold mag;omega]
  exact decide_eq_false n'
 have hs:stp (mag a)=(mag a:Int):=by
  unfold stp sgn neg
  rw[show mag (mag a)=mag a by unfold mag;omega,if_neg (by have:=mag_lt a;simp;omega)]
 unfold iFar lt at h
 rw[hm,hs,show isNaN 9218868437227405311=false by decide,show stp 9218868437227405311=9218868437227405311 by decide] at h
 simp only[Bool.not_false,Bool.true_and,decide_eq_false_iff_not] at h
 omega
theorem smid (lo hi:Nat) (h1:lo<18446744073709551616) (h2:hi<18446744073709551616) (w:World) (hT:Tab32 w) (hJ:Ie.Tab w) :
  Calls Tryz.prog 15 #[.agg #[.float .f64 lo,.float .f64 hi]] w fun r w'=>r=.returned (midV (vI lo hi) (iAll lo hi) (iFar lo) (iFar hi) (hfS lo hi))∧Bw w w':=by
 refine smid_1 lo hi _ _ _ _ _ w (fun W=>svalid lo hi h1 h2 W) (fun W=>?_) (fun W=>c123 lo h1 W) (fun W=>c123 hi h2 W) (fun hv hi' hj W h=>shalf lo hi h1 h2 (far_fin hi' (vI_nn hv).1) (far_fin hj (vI_nn hv).2) W (hT.later h) (Tab.later hJ h))
 rw[eqIv,ord_eq lo _ h1 (by omega),ord_eq hi _ h2 (by omega)]
 rfl
def mdF (lo hi:Nat):Nat:=if iAll lo hi then 0 else if iFar lo then 18442240474082181119 else if iFar hi then 9218868437227405311 else hfS lo hi
theorem mdF_lt (lo hi:Nat):mdF lo hi<18446744073709551616:=by
 unfold mdF
 split
 ·omega
 ·split
  ·omega
  ·split
   ·omega
   ·exact hfS_lt _ _
theorem midV_eq (v:Bool) (lo hi:Nat):midV v (iAll lo hi) (iFar lo) (iFar hi) (hfS lo hi)=.tuple #[.float .f64 (if v then mdF lo hi else 0),.int .i64 (if v then 0 else 1)]:=by
 unfold midV mdF
 cases v
 ·rfl
 ·cases iAll lo hi
  ·cases iFar lo
   ·cases iFar hi <;> rfl
   ·rfl
  ·rfl
def rdP (lo hi:Nat):Nat:=fAdM (mdF lo hi) (ngt lo) 3
def rdQ (lo hi:Nat):Nat:=fAdM hi (ngt (mdF lo hi)) 3
theorem srad (lo hi:Nat) (h1:lo<18446744073709551616) (h2:hi<18446744073709551616) (w:World) (hT:Tab32 w) (hJ:Ie.Tab w) (hP:vI lo hi=true→isNaN (rdP lo hi)=false) (hQ:vI lo hi=true→isNaN (rdQ lo hi)=false) :
  Calls Tryz.prog 17 #[.agg #[.float .f64 lo,.float .f64 hi]] w fun r w'=>r=.returned (radV (if vI lo hi then 0 else 1) (fMax (rdP lo hi) (rdQ lo hi)))∧Bw w w':=by
 have hv:(if vI lo hi=true then(0:Int)else 1)=0→vI lo hi=true:=by
  cases vI lo hi <;> simp
 have m3:(1:Int)≤3∧(3:Int)≤3:=by omega
 have hPl:rdP lo hi<18446744073709551616:=(faddM_p _ _ 3 m3 (mdF_lt lo hi) (ngt_lt h1)).1
 have hQl:rdQ lo hi<18446744073709551616:=(faddM_p _ _ 3 m3 h2 (ngt_lt (mdF_lt lo hi))).1
 refine srad_1 lo hi (if vI lo hi then mdF lo hi else 0) (rdP lo hi) (rdQ lo hi) _ _ w (fun W h=>?_) (fun he W h=>?_) (fun he W h=>?_) (fun he W ts t=>run_fmax W ts t _ _ hPl hQl (hP (hv he)) (hQ (hv he)))
 ·have:=smid lo hi h1 h2 W (hT.later h) (Tab.later hJ h)
  rw[midV_eq] at this
  exact this
 ·rw[if_pos (hv he)]
  refine(fsubM (mdF lo hi) lo 3 m3 (mdF_lt lo hi) h1 W (hT.later h) (Tab.later hJ h)).mono ?_
  rintro r w' ⟨n,rfl,hl,hb⟩
  rw[hl.eq (hP (hv he))]
  exact⟨rfl,hb⟩
 ·rw[if_pos (hv he)]
  refine(fsubM hi (mdF lo hi) 3 m3 h2 (mdF_lt lo hi) W (hT.later h) (Tab.later hJ h)).mono ?_
  rintro r w' ⟨n,rfl,hl,hb⟩
  rw[hl.eq (hQ (hv he))]
  exact⟨rfl,hb⟩
theorem rad_at:vI 4607182418800017408 4611686018427387904=true∧isNaN (rdP 4607182418800017408 4611686018427387904)=false∧isNaN (rdQ 4607182418800017408 4611686018427387904)=false∧fMax (rdP 4607182418800017408 4611686018427387904) (rdQ 4607182418800017408 4611686018427387904)=4602678819172646912:=by decide +kernel
attribute [local go_sem] run_store_flt
theorem works_1 (w : World)
    (k1 : ∀ W, Bw w W → Calls Tryz.prog 32 #[.agg #[.float .f64 13830554455654793216, .float .f64 4611686018427387904], .agg #[.float .f64 4613937818241073152, .float .f64 9218868437227405312]] W fun r w' => r = .returned (.tuple #[.agg #[.float .f64 18442240474082181120, .float .f64 9218868437227405312], .int .i64 0]) ∧ Bw W w')
    (k2 : ∀ W, Bw w W → Calls Tryz.prog 35 #[.agg #[.float .f64 4607182418800017408, .float .f64 4607182418800017408], .agg #[.float .f64 4613937818241073152, .float .f64 4613937818241073152]] W fun r w' => r = .returned (.tuple #[.agg #[.float .f64 4599676419421066581, .float .f64 4599676419421066582], .int .i64 0]) ∧ Bw W w')
    (k3 : ∀ W, Bw w W → Calls Tryz.prog 35 #[.agg #[.float .f64 4607182418800017408, .float .f64 4607182418800017408], .agg #[.float .f64 13830554455654793216, .float .f64 4607182418800017408]] W fun r w' => r = .returned (.tuple #[.agg #[.float .f64 0, .float .f64 0], .int .i64 6]) ∧ Bw W w')
    (k4 : ∀ W, Bw w W → Calls Tryz.prog 17 #[.agg #[.float .f64 4607182418800017408, .float .f64 4611686018427387904]] W fun r w' => r = .returned (.tuple #[.float .f64 4602678819172646912, .int .i64 0]) ∧ Bw W w')
    (k5 : ∀ W, Bw w W → Calls Tryz.prog 37 #[.agg #[.float .f64 4607182418800017408, .float .f64 4611686018427387904], .float .f64 4609434218613702656] W fun r w' => r = .returned (.bool true) ∧ Bw W w')
    (k6 : ∀ W, Bw w W → Calls Tryz.prog 37 #[.agg #[.float .f64 4607182418800017408, .float .f64 4611686018427387904], .float .f64 4613937818241073152] W fun r w' => r = .returned (.bool false) ∧ Bw W w') :
    Calls Tryz.prog 14 #[] w fun r w' => r = .returned (.bool true) ∧ Bw w w' := by
  have hh : (FloatKind.f64.format.order 4602678819172646912 4602678819172646912 == some Ordering.eq) = true := by decide
  have H1 : Hid _ := k1
  have H2 : Hid _ := k2
  have H3 : Hid _ := k3
  have H4 : Hid _ := k4
  have H5 : Hid _ := k5
  have H6 : Hid _ := k6
  have A0 : Hid (Bw w w) := Below.refl _ _
  clear k1 k2 k3 k4 k5 k6
  go_enter Tryz.func14, Tryz.ntmps14
  have kk := lof 13830554455654793216 4611686018427387904 w
  go_wp2_with fail
  refine kk.mono ?_
  rintro r w1 ⟨rfl, hb⟩
  have A1 : Hid (Bw w w1) := A0.out.trans (hb.mono A0.out.size)
  clear hb kk A0
  go_wp2_with fail
  refine (cinf_p w1).mono ?_
  rintro r w' ⟨rfl, hw⟩
  replace hw := hw.symm
  subst hw
  have kk := lof 4613937818241073152 9218868437227405312 w1
  go_wp2_with fail
  refine kk.mono ?_
  rintro r w2 ⟨rfl, hb⟩
  have A2 : Hid (Bw w w2) := A1.out.trans (hb.mono A1.out.size)
  clear hb kk A1
  have kk := H1.out w2 A2.out
  go_wp2_with fail
  refine kk.mono ?_
  rintro r w3 ⟨rfl, hb⟩
  have A3 : Hid (Bw w w3) := A2.out.trans (hb.mono A2.out.size)
  clear hb kk A2
  obtain ⟨V1, hV1⟩ : ∃ V, V = w3.alloc (.cells #[.float .f64 18442240474082181120, .float .f64 9218868437227405312] 24) := ⟨_, rfl⟩
  have AV1 : Hid (Bw w V1) := by rw [hV1]; exact A3.out.alloc A3.out.size _
  have XV1 : Hid (IvB V1 w3.heap.size 18442240474082181120 9218868437227405312) := by rw [hV1]; exact IvB.new _ _ _
  have BV1_V1 : Hid (Bw V1 V1) := Below.refl _ _
  clear A3
  have kk := lof 4607182418800017408 4607182418800017408 V1
  go_wp2_with fail
  rw [← hV1]
  clear hV1
  generalize hgV1 : w3.heap.size = gV1 at *
  clear hgV1
  refine kk.mono ?_
  rintro r w4 ⟨rfl, hb⟩
  have A4 : Hid (Bw w w4) := AV1.out.trans (hb.mono AV1.out.size)
  have BV1_4 : Hid (Bw V1 w4) := BV1_V1.out.trans (hb.mono BV1_V1.out.size)
  clear BV1_V1
  clear hb kk AV1
  have kk := lof 4613937818241073152 4613937818241073152 w4
  go_wp2_with fail
  refine kk.mono ?_
  rintro r w5 ⟨rfl, hb⟩
  have A5 : Hid (Bw w w5) := A4.out.trans (hb.mono A4.out.size)
  have BV1_5 : Hid (Bw V1 w5) := BV1_4.out.trans (hb.mono BV1_4.out.size)
  clear BV1_4
  clear hb kk A4
  have kk := H2.out w5 A5.out
  go_wp2_with fail
  refine kk.mono ?_
  rintro r w6 ⟨rfl, hb⟩
  have A6 : Hid (Bw w w6) := A5.out.trans (hb.mono A5.out.size)
  have BV1_6 : Hid (Bw V1 w6) := BV1_5.out.trans (hb.mono BV1_5.out.size)
  clear BV1_5
  clear hb kk A5
  obtain ⟨V2, hV2⟩ : ∃ V, V = w6.alloc (.cells #[.float .f64 4599676419421066581, .float .f64 4599676419421066582] 24) := ⟨_, rfl⟩
  have AV2 : Hid (Bw w V2) := by rw [hV2]; exact A6.out.alloc A6.out.size _
  have XV2 : Hid (IvB V2 w6.heap.size 4599676419421066581 4599676419421066582) := by rw [hV2]; exact IvB.new _ _ _
  have BV1_V2 : Hid (Bw V1 V2) := by rw [hV2]; exact BV1_6.out.alloc BV1_6.out.size _
  clear BV1_6
  have BV2_V2 : Hid (Bw V2 V2) := Below.refl _ _
  clear A6
  have kk := lof 4607182418800017408 4607182418800017408 V2
  go_wp2_with fail
  rw [← hV2]
  clear hV2
  generalize hgV2 : w6.heap.size = gV2 at *
  clear hgV2
  refine kk.mono ?_
  rintro r w7 ⟨rfl, hb⟩
  have A7 : Hid (Bw w w7) := AV2.out.trans (hb.mono AV2.out.size)
  have BV1_7 : Hid (Bw V1 w7) := BV1_V2.out.trans (hb.mono BV1_V2.out.size)
  clear BV1_V2
  have BV2_7 : Hid (Bw V2 w7) := BV2_V2.out.trans (hb.mono BV2_V2.out.size)
  clear BV2_V2
  clear hb kk AV2
  have kk := lof 13830554455654793216 4607182418800017408 w7
  go_wp2_with fail
  refine kk.mono ?_
  rintro r w8 ⟨rfl, hb⟩
  have A8 : Hid (Bw w w8) := A7.out.trans (hb.mono A7.out.size)
  have BV1_8 : Hid (Bw V1 w8) := BV1_7.out.trans (hb.mono BV1_7.out.size)
  clear BV1_7
  have BV2_8 : Hid (Bw V2 w8) := BV2_7.out.trans (hb.mono BV2_7.out.size)
  clear BV2_7
  clear hb kk A7
  have kk := H3.out w8 A8.out
  go_wp2_with fail
  refine kk.mono ?_
  rintro r w9 ⟨rfl, hb⟩
  have A9 : Hid (Bw w w9) := A8.out.trans (hb.mono A8.out.size)
  have BV1_9 : Hid (Bw V1 w9) := BV1_8.out.trans (hb.mono BV1_8.out.size)
  clear BV1_8
  have BV2_9 : Hid (Bw V2 w9) := BV2_8.out.trans (hb.mono BV2_8.out.size)
  clear BV2_8
  clear hb kk A8
  obtain ⟨V3, hV3⟩ : ∃ V, V = w9.alloc (.cells #[.float .f64 0, .float .f64 0] 24) := ⟨_, rfl⟩
  have AV3 : Hid (Bw w V3) := by rw [hV3]; exact A9.out.alloc A9.out.size _
  have XV3 : Hid (IvB V3 w9.heap.size 0 0) := by rw [hV3]; exact IvB.new _ _ _
  have BV1_V3 : Hid (Bw V1 V3) := by rw [hV3]; exact BV1_9.out.alloc BV1_9.out.size _
  clear BV1_9
  have BV2_V3 : Hid (Bw V2 V3) := by rw [hV3]; exact BV2_9.out.alloc BV2_9.out.size _
  clear BV2_9
  have BV3_V3 : Hid (Bw V3 V3) := Below.refl _ _
  clear A9
  have kk := lof 4607182418800017408 4611686018427387904 V3
  go_wp2_with fail
  rw [← hV3]
  clear hV3
  generalize hgV3 : w9.heap.size = gV3 at *
  clear hgV3
  refine kk.mono ?_
  rintro r w10 ⟨rfl, hb⟩
  have A10 : Hid (Bw w w10) := AV3.out.trans (hb.mono AV3.out.size)
  have BV1_10 : Hid (Bw V1 w10) := BV1_V3.out.trans (hb.mono BV1_V3.out.size)
  clear BV1_V3
  have BV2_10 : Hid (Bw V2 w10) := BV2_V3.out.trans (hb.mono BV2_V3.out.size)
  clear BV2_V3
  have BV3_10 : Hid (Bw V3 w10) := BV3_V3.out.trans (hb.mono BV3_V3.out.size)
  clear BV3_V3
  clear hb kk AV3
  have kk := H4.out w10 A10.out
  go_wp2_with fail
  refine kk.mono ?_
  rintro r w11 ⟨rfl, hb⟩
  have A11 : Hid (Bw w w11) := A10.out.trans (hb.mono A10.out.size)
  have BV1_11 : Hid (Bw V1 w11) := BV1_10.out.trans (hb.mono BV1_10.out.size)
  clear BV1_10
  have BV2_11 : Hid (Bw V2 w11) := BV2_10.out.trans (hb.mono BV2_10.out.size)
  clear BV2_10
  have BV3_11 : Hid (Bw V3 w11) := BV3_10.out.trans (hb.mono BV3_10.out.size)
  clear BV3_10
  clear hb kk A10
  have XM : Hid (IvB w11 gV1 18442240474082181120 9218868437227405312) := XV1.out.box BV1_11.out
  have XQ : Hid (IvB w11 gV2 4599676419421066581 4599676419421066582) := XV2.out.box BV2_11.out
  clear XV1 XV2 XV3 BV1_11 BV2_11 BV3_11
  have HK : Hid (∀ w', Bw w11 w' → ((w'.cell? ⟨gV1, 0, none⟩ = some (.float .f64 18442240474082181120) ∧ w'.cell? ⟨gV1, 1, none⟩ = some (.float .f64 9218868437227405312)) ∧ (w'.cell? ⟨gV2, 0, none⟩ = some (.float .f64 4599676419421066581) ∧ w'.cell? ⟨gV2, 1, none⟩ = some (.float .f64 4599676419421066582))) ∧ Bw w11 w') := fun w' hb => ⟨⟨⟨(XM.out.later hb).1, (XM.out.later hb).2.1⟩, (XQ.out.later hb).1, (XQ.out.later hb).2.1⟩, hb⟩
  have hBR : Bw w11 w11.drew := (Below.refl _ _).drew
  have q1 : ∀ W, Bw w11 W → Calls Tryz.prog 36 #[] W fun r w' => r = .returned (.agg #[.float .f64 18442240474082181120, .float .f64 9218868437227405312]) ∧ Bw w11 w' := fun W h => (sall W).mono fun r w' ⟨e1, e2⟩ => ⟨e1, h.trans (e2.mono h.size)⟩
  have q2 : ∀ W, Bw w11 W → Calls Tryz.prog 13 #[.agg #[.float .f64 18442240474082181120, .float .f64 9218868437227405312], .agg #[.float .f64 18442240474082181120, .float .f64 9218868437227405312]] W fun r w' => r = .returned (.bool true) ∧ Bw w11 w' := fun W h => (isame _ _ (by omega) (by omega) W).mono fun r w' ⟨e1, e2⟩ => ⟨e1, h.trans (e2.mono h.size)⟩
  have q3 : ∀ W, Bw w11 W → Calls Tryz.prog 13 #[.agg #[.float .f64 4599676419421066581, .float .f64 4599676419421066582], .agg #[.float .f64 4599676419421066581, .float .f64 4599676419421066582]] W fun r w' => r = .returned (.bool true) ∧ Bw w11 w' := fun W h => (isame _ _ (by omega) (by omega) W).mono fun r w' ⟨e1, e2⟩ => ⟨e1, h.trans (e2.mono h.size)⟩
  have q4 : ∀ a b W, Bw w11 W → Calls Tryz.prog 33 #[.float .f64 a, .float .f64 b] W fun r w' => r = .returned (.agg #[.float .f64 a, .float .f64 b]) ∧ Bw w11 w' := fun a b W h => (lof a b W).mono fun r w' ⟨e1, e2⟩ => ⟨e1, h.trans (e2.mono h.size)⟩
  have q5 : ∀ W, Bw w11 W → Calls Tryz.prog 37 #[.agg #[.float .f64 4607182418800017408, .float .f64 4611686018427387904], .float .f64 4609434218613702656] W fun r w' => r = .returned (.bool true) ∧ Bw w11 w' := fun W h => (H5.out W (A11.out.trans (h.mono A11.out.size))).mono fun r w' ⟨e1, e2⟩ => ⟨e1, h.trans (e2.mono h.size)⟩
  have q6 : ∀ W, Bw w11 W → Calls Tryz.prog 37 #[.agg #[.float .f64 4607182418800017408, .float .f64 4611686018427387904], .float .f64 4613937818241073152] W fun r w' => r = .returned (.bool false) ∧ Bw w11 w' := fun W h => (H6.out W (A11.out.trans (h.mono A11.out.size))).mono fun r w' ⟨e1, e2⟩ => ⟨e1, h.trans (e2.mono h.size)⟩
  clear H1 H2 H3 H4 H5 H6 XM XQ
  obtain ⟨⟨⟨a0, a1⟩, a2, a3⟩, -⟩ := HK.out w11 (Below.refl _ _)
  go_upto_region 5 with fail
  go_region_held3 (fun w' => ((w'.cell? ⟨gV1, 0, none⟩ = some (.float .f64 18442240474082181120) ∧ w'.cell? ⟨gV1, 1, none⟩ = some (.float .f64 9218868437227405312)) ∧ (w'.cell? ⟨gV2, 0, none⟩ = some (.float .f64 4599676419421066581) ∧ w'.cell? ⟨gV2, 1, none⟩ = some (.float .f64 4599676419421066582))) ∧ Bw w11 w') (first | (with_reducible assumption) | exact HK.out _ hBR | (refine HK.out _ ?_; with_reducible assumption) | go_keep)
    (first | (go_at_call 36; with_reducible refine (q1 _ (by first | (with_reducible assumption) | exact hBR)).mono ?_; rintro r w5 ⟨rfl, hb5⟩)
           | (go_at_call 13; with_reducible refine (q2 _ (by first | (with_reducible assumption) | exact hBR)).mono ?_; rintro r w5 ⟨rfl, hb5⟩)
           | (go_at_call 13; with_reducible refine (q3 _ (by first | (with_reducible assumption) | exact hBR)).mono ?_; rintro r w5 ⟨rfl, hb5⟩)
           | (go_at_call 33; with_reducible refine (q4 _ _ _ (by first | (with_reducible assumption) | exact hBR)).mono ?_; rintro r w5 ⟨rfl, hb5⟩)
           | (go_at_call 37; with_reducible refine (q5 _ (by first | (with_reducible assumption) | exact hBR)).mono ?_; rintro r w5 ⟨rfl, hb5⟩)
           | (go_at_call 37; with_reducible refine (q6 _ (by first | (with_reducible assumption) | exact hBR)).mono ?_; rintro r w5 ⟨rfl, hb5⟩))
  have HF : Hid (Bw w w5) := A11.out.trans (hb5.mono A11.out.size)
  clear q1 q2 q3 q4 q5 q6 HK hBR a0 a1 a2 a3 hb5
  go_wp2_with fail
  go_ret
  exact ⟨rfl, HF.out⟩
theorem works8 (w:World) (hT:Tab32 w) (hJ:Ie.Tab w):Calls Tryz.prog 14 #[] w fun r w'=>r=.returned (.bool true)∧Bw w w':=by
 refine works_1 w (fun W h=>?_) (fun W h=>?_) (fun W h=>?_) (fun W h=>?_) (fun W h=>?_) (fun W h=>?_)
 ·have k:=smul 13830554455654793216 4611686018427387904 4613937818241073152 9218868437227405312 (by omega) (by omega) (by omega) (by omega) W (hT.later h) (Tab.later hJ h)
  rw[mul_at.1,mul_at.2.1,mul_at.2.2] at k
  exact k
 ·have k:=squo 4607182418800017408 4607182418800017408 4613937818241073152 4613937818241073152 (by omega) (by omega) (by omega) (by omega) W (hT.later h) (Tab.later hJ h)
  rw[quo_at.1,quo_at.2.1,quo_at.2.2.1,quo_at.2.2.2] at k
  exact k
 ·have k:=squo 4607182418800017408 4607182418800017408 13830554455654793216 4607182418800017408 (by omega) (by omega) (by omega) (by omega) W (hT.later h) (Tab.later hJ h)
  rw[quo_at2.1,quo_at2.2] at k
  exact k
 ·have k:=srad 4607182418800017408 4611686018427387904 (by omega) (by omega) W (hT.later h) (Tab.later hJ h) (fun _=>rad_at.2.1) (fun _=>rad_at.2.2.1)
  rw[rad_at.2.2.2,rad_at.1] at k
  exact k
 ·have k:=shas 4607182418800017408 4611686018427387904 4609434218613702656 (by omega) (by omega) (by omega) W
  rw[has_at.1] at k
  exact k
 ·have k:=shas 4607182418800017408 4611686018427387904 4613937818241073152 (by omega) (by omega) (by omega) W
  rw[has_at.2] at k
  exact k
attribute [local go_sem] run_store_flt
def EnB (W:World) (g:Nat) (a b c d:Value):Prop:=W.heap[g]?=some (.cells #[a,b,c,d] 46 (0,0))
theorem EnB.facts {W:World} {g:Nat} {a b c d:Value} (h:EnB W g a b c d):(W.cell? ⟨g,0,none⟩=some a∧W.cell? ⟨g,1,none⟩=some b∧W.cell? ⟨g,2,none⟩=some c∧W.cell? ⟨g,3,none⟩=some d)∧(W.frozen? ⟨g,0,none⟩=false∧W.frozen? ⟨g,1,none⟩=false∧W.frozen? ⟨g,2,none⟩=false∧W.frozen? ⟨g,3,none⟩=false):=by
 unfold EnB at h
 simp[World.cell?,World.frozen?,h]
theorem EnB.lt {W:World} {g:Nat} {a b c d:Value} (h:EnB W g a b c d):g<W.heap.size:=lt_of_box h
theorem EnB.box {W w':World} {g:Nat} {a b c d:Value} (h:EnB W g a b c d) (hb:Bw W w'):EnB w' g a b c d:=box_later h hb h.lt
theorem EnB.new (w:World) (a b c d:Value):EnB (w.alloc (.cells #[a,b,c,d] 46)) w.heap.size a b c d:=heap_alloc_new _ _
theorem EnB.set {W:World} {g:Nat} {a b c d:Value} (h:EnB W g a b c d) (a' b' c' d':Value):EnB ((((W.setCell ⟨g,0,none⟩ a').setCell ⟨g,1,none⟩ b').setCell ⟨g,2,none⟩ c').setCell ⟨g,3,none⟩ d') g a' b' c' d':=by
 unfold EnB at *
 simp[World.setCell,Array.getElem?_modify,h]
theorem below_store4 {B:Nat} {w w':World} {g:Nat} (h:Below B w w') (hg:B≤g) (a b c d:Value):Below B w ((((w'.setCell ⟨g,0,none⟩ a).setCell ⟨g,1,none⟩ b).setCell ⟨g,2,none⟩ c).setCell ⟨g,3,none⟩ d) :=
 (((h.setCell hg _).setCell hg _).setCell hg _).setCell hg _
theorem en_info:(Tryz.prog.info? 46).map (·.size)=some 4:=by kernel_rfl
def EN (w:World) (A:Value) (i:Int) (t:Bool×Nat×Int):Prop:=∃ s ao n cap e,A=.agg #[.int .i64 i,.bool s,.slice ao n cap,.int .i64 e]∧DN w (.agg #[.bool s,.slice ao n cap,.int .i64 e]) t
theorem EN.later {w w':World} {A:Value} {i:Int} {t:Bool×Nat×Int} (h:EN w A i t) (hb:Bw w w'):EN w' A i t:=by
 obtain⟨s,ao,n,cap,e,h1,h2⟩:=h
 exact⟨s,ao,n,cap,e,h1,h2.later hb⟩
theorem at_store4 {W:World} {ao:Option Addr} {n z g:Nat} (h:At W ao n z) (hE:EnB W g (.int .i64 0) (.bool false) (.slice none 0 0) (.int .i64 0)) (a' b' c' d':Value):At ((((W.setCell ⟨g,0,none⟩ a').setCell ⟨g,1,none⟩ b').setCell ⟨g,2,none⟩ c').setCell ⟨g,3,none⟩ d') ao n z:=by
 obtain⟨bb,o,h1,h2⟩:=h
 refine⟨bb,o,h1,fun i hi=>?_⟩
 have hc:=h2 i hi
 have hne:bb≠g:=by
  rintro rfl
  unfold EnB at hE
  simp only[World.cell?,hE] at hc
  rcases(show o+i=0∨o+i=1∨o+i=2∨o+i=3∨4≤o+i by omega)with e|e|e|e|e
  ·rw[e] at hc;simp at hc
  ·rw[e] at hc;simp at hc
  ·rw[e] at hc;simp at hc
  ·rw[e] at hc;simp at hc
  ·rw[Array.getElem?_eq_none (by simpa using e)] at hc;cases hc
 rw[World.cell?_setCell_other _ _ _ _ (by first|(simp;done)|(simp;omega)),World.cell?_setCell_other _ _ _ _ (by first|(simp;done)|(simp;omega)),World.cell?_setCell_other _ _ _ _ (by first|(simp;done)|(simp;omega)),World.cell?_setCell_other _ _ _ _ (by first|(simp;done)|(simp;omega))]
 exact hc
theorem dn_store48 {W:World} {A:Value} {t:Bool×Nat×Int} {g:Nat} (h:DN W A t) (hE:EnB W g (.int .i64 0) (.bool false) (.slice none 0 0) (.int .i64 0)) (a' b' c' d':Value):DN ((((W.setCell ⟨g,0,none⟩ a').setCell ⟨g,1,none⟩ b').setCell ⟨g,2,none⟩ c').setCell ⟨g,3,none⟩ d') A t:=by
 obtain⟨ao,cap,h1,h2⟩:=h
 exact⟨ao,cap,h1,h2.nil,at_store4 h2.at_ hE _ _ _ _,h2.le,h2.small⟩
theorem dn_nil (w:World):DN w (.agg #[.bool false,.slice none 0 0,.int .i64 0]) (false,0,0) :=
 ⟨none,0,by rw[dlen_zero],⟨fun _=>.inr ⟨rfl,rfl⟩,⟨0,0,fun h=>by rw[dlen_zero] at h;omega,fun i hi=>by rw[dlen_zero] at hi;omega⟩,by rw[dlen_zero];omega,by rw[dlen_zero];omega⟩⟩
def eI (f:Nat):Int:=if f=9218868437227405312 then 1 else if f=18442240474082181120 then -1 else 0
def eT (f:Nat):Bool×Nat×Int:=if eI f=0 then tF f else(false,0,0)
theorem dend_inf (f:Nat) (w:World) (h1:(FloatKind.f64.format.order f 9218868437227405311==some Ordering.gt)=true) :
  Calls Tryz.prog 25 #[.float .f64 f] w fun r w'=>r=.returned (.agg #[.int .i64 1,.bool false,.slice none 0 0,.int .i64 0])∧Bw w w':=by
 go_enter Tryz.func25,Tryz.ntmps25
 go_wp2
 refine bodyPost_ret (results_cell_row rfl _ _ (w.heap.size) 46 #[.int .i64 1,.bool false,.slice none 0 0,.int .i64 0] (0,0) _ rfl (heap_alloc_new _ _) Tryz.underlying46 rfl en_info) rfl ?_
 exact⟨rfl,(Below.refl _ _).alloc (Nat.le_refl _) _⟩
theorem dend_ninf (f:Nat) (w:World) (h1:(FloatKind.f64.format.order f 9218868437227405311==some Ordering.gt)=false) (h2:(FloatKind.f64.format.order f 18442240474082181119==some Ordering.lt)=true) :
  Calls Tryz.prog 25 #[.float .f64 f] w fun r w'=>r=.returned (.agg #[.int .i64 (-1),.bool false,.slice none 0 0,.int .i64 0])∧Bw w w':=by
 go_enter Tryz.func25,Tryz.ntmps25
 go_wp2
 refine bodyPost_ret (results_cell_row rfl _ _ (w.heap.size) 46 #[.int .i64 (-1),.bool false,.slice none 0 0,.int .i64 0] (0,0) _ rfl (heap_alloc_new _ _) Tryz.underlying46 rfl en_info) rfl ?_
 exact⟨rfl,(Below.refl _ _).alloc (Nat.le_refl _) _⟩
theorem dend_fin (f:Nat) (t:Bool×Nat×Int) (w:World) (h1:(FloatKind.f64.format.order f 9218868437227405311==some Ordering.gt)=false) (h2:(FloatKind.f64.format.order f 18442240474082181119==some Ordering.lt)=false) (k:∀ W,Calls Tryz.prog 51 #[.float .f64 f] W fun r w'=>∃ A,r=.returned A∧DN w' A t∧Bw W w') :
  Calls Tryz.prog 25 #[.float .f64 f] w fun r w'=>∃ A,r=.returned A∧EN w' A 0 t∧Bw w w':=by
 obtain⟨W,hW⟩:∃ W,W=w.alloc (.cells #[.int .i64 0,.bool false,.slice none 0 0,.int .i64 0] 46):=⟨_,rfl⟩
 have HX:Hid (Bw w W∧EnB W w.heap.size (.int .i64 0) (.bool false) (.slice none 0 0) (.int .i64 0)):=by
  rw[hW];exact⟨(Below.refl _ _).alloc (Nat.le_refl _) _,EnB.new _ _ _ _ _⟩
 have kk:=k W
 clear k
 go_enter Tryz.func25,Tryz.ntmps25
 go_wp2_with fail
 rw[←hW]
 clear hW
 refine kk.mono ?_
 rintro r w1 ⟨A,rfl,hA,hb⟩
 obtain⟨s,ao,n,cap,e,rfl⟩:=hA.shape
 have hE:=HX.out.2.box hb
 obtain⟨⟨a0,a1,a2,a3⟩,z0,z1,z2,z3⟩:=hE.facts
 have HF:Hid (DN w1 (.agg #[.bool s,.slice ao n cap,.int .i64 e]) t∧Bw w w1∧EnB w1 w.heap.size (.int .i64 0) (.bool false) (.slice none 0 0) (.int .i64 0)):=⟨hA,HX.out.1.trans (hb.mono HX.out.1.size),hE⟩
 clear kk hA hb hE HX
 go_wp2_with fail
 refine bodyPost_ret (results_cell_row rfl _ _ (w.heap.size) 46 #[.int .i64 0,.bool s,.slice ao n cap,.int .i64 e] (0,0) _ rfl (HF.out.2.2.set _ _ _ _) Tryz.underlying46 rfl en_info) rfl ?_
 exact⟨_,rfl,⟨s,ao,n,cap,e,rfl,dn_store48 HF.out.1 HF.out.2.2 _ _ _ _⟩,below_store4 HF.out.2.1 (Nat.le_refl _) _ _ _ _⟩
attribute [local go_sem] run_store_flt
def tNeg (t:Bool×Nat×Int):Bool×Nat×Int:=if t.2.1=0 then(false,0,0) else(!t.1,t.2.1,t.2.2)
def toD (t:Bool×Nat×Int) (m:Int):Nat:=if t.2.1=0 then 0 else tfF t.1 true t.2.1 t.2.2 m
def enF (i:Int) (t:Bool×Nat×Int) (m:Int):Nat:=if i=0 then pl (toD t m)else if 0<i then 9218868437227405312 else 18442240474082181120
theorem toD_lt {t:Bool×Nat×Int} {m:Int} (hm:1≤m∧m≤3):toD t m<18446744073709551616:=by
 unfold toD
 split
 ·omega
 ·exact tfF_lt hm
theorem dto8 {t:Bool×Nat×Int} {m:Int} (o:Ok t) (hm:1≤m∧m≤3) {W:World} {A:Value} (h:DN W A t):Calls Tryz.prog 40 #[A,.int .i64 m] W fun r w'=>r=.returned (.float .f64 (toD t m))∧Bw W w':=by
 obtain⟨f1,f2,f3,-,f5⟩:=o.facts
 obtain⟨ao,cap,rfl,hA⟩:=h
 unfold toD
 by_cases h0:t.2.1=0
 ·rw[if_pos h0,dlen_eq_zero.2 h0]
  exact rto_0 _ _ _ _ _ _
 ·rw[if_neg h0,tf_bdy hm]
  exact rto hA.at_ hA.le (f5 h0) (by omega) (by omega) (by omega) hm
theorem eT_ok (f:Nat):Ok (eT f):=by
 unfold eT
 split
 ·exact tF_ok f
 ·unfold Ok;rw[dlen_zero];rfl
theorem tNeg_ok {t:Bool×Nat×Int} (o:Ok t):Ok (tNeg t):=by
 unfold tNeg
 by_cases h0:t.2.1=0
 ·rw[if_pos h0];unfold Ok;rw[dlen_zero];rfl
 ·rw[if_neg h0]
  have hd:dlen t.2.1≠0:=fun e=>h0 (dlen_eq_zero.1 e)
  unfold Ok okN at o ⊢
  rw[if_neg hd] at o
  rw[if_neg hd]
  exact o
theorem dend (f:Nat) (hf:f<18446744073709551616) (hn:isNaN f=false) (w:World):Calls Tryz.prog 25 #[.float .f64 f] w fun r w'=>∃ A,r=.returned A∧EN w' A (eI f) (eT f)∧Bw w w':=by
 have o1:=ord_gt f 9218868437227405311 hf (by omega)
 have o2:=ord_lt f 18442240474082181119 hf (by omega)
 have b:=nan_stp hn
 unfold lt at o1 o2
 rw[hn,show isNaN 9218868437227405311=false by decide,show isNaN 18442240474082181119=false by decide,show stp 9218868437227405311=9218868437227405311 by decide,show stp 18442240474082181119 = -9218868437227405311 by decide] at *
 simp only[Bool.not_false,Bool.true_and] at o1 o2
 by_cases h1:f=9218868437227405312
 ·have e:eI f=1:=by unfold eI;rw[if_pos h1]
  have e2:eT f=(false,0,0):=by unfold eT;rw[e];rfl
  rw[e,e2]
  rw[decide_eq_true (by rw[h1];decide)] at o1
  refine(dend_inf f w o1).mono ?_
  rintro r w' ⟨rfl,hb⟩
  exact⟨_,rfl,⟨_,_,_,_,_,rfl,dn_nil _⟩,hb⟩
 ·have s1:¬ 9218868437227405311<stp f:=by
   intro h
   exact h1 (stp_eq hf (by omega) (by rw[show stp 9218868437227405312=9218868437227405312 by decide];omega) (by omega))
  rw[decide_eq_false s1] at o1
  by_cases h2:f=18442240474082181120
  ·have e:eI f = -1:=by unfold eI;rw[if_neg h1,if_pos h2]
   have e2:eT f=(false,0,0):=by unfold eT;rw[e];rfl
   rw[e,e2]
   rw[decide_eq_true (by rw[h2];decide)] at o2
   refine(dend_ninf f w o1 o2).mono ?_
   rintro r w' ⟨rfl,hb⟩
   exact⟨_,rfl,⟨_,_,_,_,_,rfl,dn_nil _⟩,hb⟩
  ·have s2:¬ stp f < -9218868437227405311:=by
    intro h
    exact h2 (stp_eq hf (by omega) (by rw[show stp 18442240474082181120 = -9218868437227405312 by decide];omega) (by omega))
   rw[decide_eq_false s2] at o2
   have e:eI f=0:=by unfold eI;rw[if_neg h1,if_neg h2]
   have e2:eT f=tF f:=by unfold eT;rw[e];rfl
   rw[e,e2]
   exact dend_fin f _ w o1 o2 (fun W=>float_dn f hf W)
attribute [local go_sem] run_store_flt
def plT (i j:Int) (t u:Bool×Nat×Int):Bool×Nat×Int:=if i+j=0 then tS t u else(false,0,0)
end Go.Proofs.YtjiolfnchiioaaaGreatDoor
