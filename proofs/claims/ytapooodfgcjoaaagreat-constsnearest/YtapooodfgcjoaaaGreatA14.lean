/- Own work: contracts of the program's functions, part 14: DEM DEN LGA LGB NK1. -/
import Derived.Test.YtapooodfgcjoaaaGreatA13
import Derived.Test.YtapooodfgcjoaaaGreatA11
import Derived.Test.YtapooodfgcjoaaaGreatA5
import Derived.Test.YtapooodfgcjoaaaGreatA4
import Derived.Test.YtapooodfgcjoaaaGreatA12

set_option maxHeartbeats 16000000
set_option maxRecDepth 200000
set_option linter.unusedVariables false
set_option linter.unusedSimpArgs false
namespace Go.Proofs.YtapooodfgcjoaaaGreat
open Go.RowKit Go.Fl64
theorem dexp_1 (sa:Bool) (aoa:Option Addr) (na cpa:Nat) (ea:Int) (p q k:Int) (J:Nat) (Ta Tl Tc Tv Tw Tt Tr UL UH TL TH:Bool×Nat×Int) (ss ts tt Tk:Nat→Bool×Nat×Int) (w:World) (hJ:J≤1000000) (hq:IntKind.i64.wrap (p+48)=q) (ha:DN w (.agg #[.bool sa,.slice aoa na cpa,.int .i64 ea]) Ta)
  (kl:∀ W:World,Calls Tryz.prog 42 #[.int .i64 q] W fun r w'=>OutD W Tl r w')
  (kc:∀ W:World,Bw w W→Calls Tryz.prog 32 #[.agg #[.bool sa,.slice aoa na cpa,.int .i64 ea],.int .i64 q] W fun r w'=>OutD W Tc r w')
  (ko:∀ (W:World) X Y,DN W X Tc→DN W Y Tl→Calls Tryz.prog 93 #[X,Y,.int .i64 4] W fun r w'=>OutD W Tv r w')
  (kf:∀ (W:World) X,DN W X Tv→Calls Tryz.prog 35 #[X] W fun r w'=>r=.returned (.int .i64 k)∧Bw W w')
  (kW:∀ W:World,Calls Tryz.prog 24 #[.int .i64 k] W fun r w'=>OutD W Tw r w')
  (kT:∀ (W:World) X Y,DN W X Tw→DN W Y Tl→Calls Tryz.prog 33 #[X,Y] W fun r w'=>OutD W Tt r w')
  (kL:∀ (W:World) X Y,DN W X Tc→DN W Y Tt→Calls Tryz.prog 57 #[X,Y] W fun r w'=>OutD W Tr r w')
  (k1s:∀ W:World,Calls Tryz.prog 24 #[.int .i64 1] W fun r w'=>OutD W (ss 0) r w')
  (k1t:∀ W:World,Calls Tryz.prog 24 #[.int .i64 1] W fun r w'=>OutD W (ts 0) r w')
  (kLe:∀ (j:Nat) (W:World) X,j≤J→DN W X (ts j)→Calls Tryz.prog 94 #[X,.int .i64 q] W fun r w'=>r=.returned (.bool (decide (j=J)))∧Bw W w')
  (kM:∀ (j:Nat) (W:World) X Y,j<J→DN W X (ts j)→DN W Y Tr→Calls Tryz.prog 47 #[X,Y,.int .i64 q] W fun r w'=>OutD W (tt j) r w')
  (kI:∀ (j:Nat) (W:World),j<J→Calls Tryz.prog 24 #[.int .i64 ((j:Int)+1)] W fun r w'=>OutD W (Tk j) r w')
  (kO:∀ (j:Nat) (W:World) X Y,j<J→DN W X (tt j)→DN W Y (Tk j)→Calls Tryz.prog 93 #[X,Y,.int .i64 q] W fun r w'=>OutD W (ts (j+1)) r w')
  (kP:∀ (j:Nat) (W:World) X Y,j<J→DN W X (ss j)→DN W Y (ts (j+1))→Calls Tryz.prog 45 #[X,Y] W fun r w'=>OutD W (ss (j+1)) r w')
  (kA:∀ (W:World) X,DN W X (ss J)→Calls Tryz.prog 38 #[X,.int .i64 4294967296,.int .i64 q] W fun r w'=>OutQ W UL UH r w')
  (kSL:∀ (W:World) X,DN W X UL→Calls Tryz.prog 40 #[X,.int .i64 k] W fun r w'=>OutD W TL r w')
  (kSH:∀ (W:World) X,DN W X UH→Calls Tryz.prog 40 #[X,.int .i64 k] W fun r w'=>OutD W TH r w') :
  Calls Tryz.prog 41 #[.agg #[.bool sa,.slice aoa na cpa,.int .i64 ea],.int .i64 p] w fun r w'=>OutQ w TL TH r w':=by
 have Hkl:Hid _:=kl
 have Hkc:Hid _:=kc
 have Hko:Hid _:=ko
 have Hkf:Hid _:=kf
 have HkW:Hid _:=kW
 have HkT:Hid _:=kT
 have HkL:Hid _:=kL
 have Hk1s:Hid _:=k1s
 have Hk1t:Hid _:=k1t
 have HkLe:Hid _:=kLe
 have HkM:Hid _:=kM
 have HkI:Hid _:=kI
 have HkO:Hid _:=kO
 have HkP:Hid _:=kP
 have HkA:Hid _:=kA
 have HkSL:Hid _:=kSL
 have HkSH:Hid _:=kSH
 clear kl kc ko kf kW kT kL k1s k1t kLe kM kI kO kP kA kSL kSH
 obtain⟨W,hW⟩:∃ W,W=(w.alloc (.cells #[.bool sa,.slice aoa na cpa,.int .i64 ea] 45)).alloc (.cells #[.bool false,.slice none 0 0,.int .i64 0,.bool false,.slice none 0 0,.int .i64 0] 47):=⟨_,rfl⟩
 have HB:Hid (Bw w W):=(by rw[hW];exact((Below.refl _ _).alloc (Nat.le_refl _) _).alloc (by simp) _:Bw w W)
 have HP0:Hid (W.heap[w.heap.size]?=some (.cells #[.bool sa,.slice aoa na cpa,.int .i64 ea] 45 (0,0))):=(two29 _ _ hW).1
 have HC0:Hid (W.heap[w.heap.size+1]?=some (.cells #[.bool false,.slice none 0 0,.int .i64 0,.bool false,.slice none 0 0,.int .i64 0] 47 (0,0))):=(two29 _ _ hW).2.1
 have HA:Hid (DN W (.agg #[.bool sa,.slice aoa na cpa,.int .i64 ea]) Ta):=ha.later HB.out
 clear ha
 go_enter Tryz.func41,Tryz.ntmps41
 go_upto_region 1 with fail
 rw[←hW]
 clear hW
 have kk:=Hkl.out W
 go_wp2_with fail
 refine kk.mono ?_
 rintro r u3 ⟨sl,aol,nl,cpl,el,rfl,hd3,hb3⟩
 clear kk Hkl
 obtain⟨V3,hV3⟩:∃ V2,V2=u3.alloc (.cells #[.bool false,.slice none 0 0,.int .i64 0] 45):=⟨_,rfl⟩
 have hbV3:Bw u3 V3:=by rw[hV3];exact(Below.refl _ _).alloc (Nat.le_refl _) _
 have hzV3:V3.heap[u3.heap.size]?=some (.cells #[.bool false,.slice none 0 0,.int .i64 0] 45 (0,0)):=by rw[hV3];exact heap_alloc_new _ _
 obtain⟨⟨y0,y1,y2⟩,y3,y4,y5⟩:=box_cells29 hzV3
 have HZ:Hid (Bw W u3∧Bw u3 V3∧V3.heap[u3.heap.size]?=some (.cells #[.bool false,.slice none 0 0,.int .i64 0] 45 (0,0))∧DN u3 (.agg #[.bool sl,.slice aol nl cpl,.int .i64 el]) Tl):=⟨hb3,hbV3,hzV3,hd3⟩
 clear hb3 hbV3 hzV3 hd3
 go_upto_region 3 with (rw[←hV3];clear hV3)
 obtain⟨gl,hgl⟩:∃ g,g=u3.heap.size:=⟨_,rfl⟩
 obtain⟨W3,hW3⟩:∃ V2,V2=((V3.setCell ⟨u3.heap.size,0,none⟩ (.bool sl)).setCell ⟨u3.heap.size,1,none⟩ (.slice aol nl cpl)).setCell ⟨u3.heap.size,2,none⟩ (.int .i64 el):=⟨_,rfl⟩
 have HX:Hid (NbD W3 gl sl aol nl cpl el (Tl)∧Bw W W3∧W.heap.size≤gl∧w.heap.size+1<W.heap.size):=(by
  rw[hW3,hgl]
  exact⟨⟨store3_29 _ _ _ HZ.out.2.2.1,(HZ.out.2.2.2.later HZ.out.2.1).store3 HZ.out.2.2.1 _ _ _⟩,below_store3 (HZ.out.1.trans (HZ.out.2.1.mono HZ.out.1.size)) HZ.out.1.size _ _ _,HZ.out.1.size,(Array.getElem?_eq_some_iff.1 HC0.out).1⟩:NbD W3 gl sl aol nl cpl el (Tl)∧Bw W W3∧W.heap.size≤gl∧w.heap.size+1<W.heap.size)
 rw[←hW3,←hgl]
 clear hW3 hgl HZ y0 y1 y2 y3 y4 y5
 have HP3:Hid (NbD W3 w.heap.size sa aoa na cpa ea (Ta)):=⟨box_later HP0.out HX.out.2.1 (Array.getElem?_eq_some_iff.1 HP0.out).1,HA.out.later HX.out.2.1⟩
 have HC3:Hid (W3.heap[w.heap.size+1]?=some (.cells #[.bool false,.slice none 0 0,.int .i64 0,.bool false,.slice none 0 0,.int .i64 0] 47 (0,0))):=(HX.out.2.1.block _ (Array.getElem?_eq_some_iff.1 HC0.out).1).trans HC0.out
 have HB3:Hid (Bw w W3):=HB.out.trans (HX.out.2.1.mono HB.out.size)
 clear HP0 HC0 HB HA
 obtain⟨⟨y0,y1,y2⟩,-⟩:=box_cells29 HP3.out.1
 have kk:=Hkc.out W3 HB3.out
 clear Hkc
 go_wp2_with fail
 refine kk.mono ?_
 rintro r u4 ⟨sc,aoc,nc,cpc,ec,rfl,hd4,hb4⟩
 clear kk y0 y1 y2
 have HD:Hid (NbD u4 gl sl aol nl cpl el (Tl)∧NbD u4 w.heap.size sa aoa na cpa ea (Ta)∧DN u4 (.agg #[.bool sc,.slice aoc nc cpc,.int .i64 ec]) Tc∧u4.heap[w.heap.size+1]?=some (.cells #[.bool false,.slice none 0 0,.int .i64 0,.bool false,.slice none 0 0,.int .i64 0] 47 (0,0))∧Bw w u4∧w.heap.size+1<gl):=⟨HX.out.1.later hb4,HP3.out.later hb4,hd4,(hb4.block _ (Array.getElem?_eq_some_iff.1 HC3.out).1).trans HC3.out,HB3.out.trans (hb4.mono HB3.out.size),by have:=HX.out.2.2;omega⟩
 clear hd4 hb4 HX HP3 HC3 HB3
 obtain⟨⟨y0,y1,y2⟩,y3,y4,y5⟩:=box_cells29 HD.out.2.1.1
 go_upto_region 4 with fail
 obtain⟨W4,hW4⟩:∃ V,V=((u4.setCell ⟨w.heap.size,0,none⟩ (.bool sc)).setCell ⟨w.heap.size,1,none⟩ (.slice aoc nc cpc)).setCell ⟨w.heap.size,2,none⟩ (.int .i64 ec):=⟨_,rfl⟩
 have HE:Hid (NbD W4 gl sl aol nl cpl el (Tl)∧NbD W4 w.heap.size sc aoc nc cpc ec (Tc)∧W4.heap[w.heap.size+1]?=some (.cells #[.bool false,.slice none 0 0,.int .i64 0,.bool false,.slice none 0 0,.int .i64 0] 47 (0,0))∧Bw w W4∧w.heap.size+1<gl):=(by
  have hg:=HD.out.2.2.2.2.2
  rw[hW4]
  exact⟨HD.out.1.other HD.out.2.1.1 (by omega) _ _ _,HD.out.2.1.put HD.out.2.2.1,heap_other3 HD.out.2.2.2.1 (by omega) _ _ _,below_store3 HD.out.2.2.2.2.1 (Nat.le_refl _) _ _ _,hg⟩:NbD W4 gl sl aol nl cpl el (Tl)∧NbD W4 w.heap.size sc aoc nc cpc ec (Tc)∧W4.heap[w.heap.size+1]?=some (.cells #[.bool false,.slice none 0 0,.int .i64 0,.bool false,.slice none 0 0,.int .i64 0] 47 (0,0))∧Bw w W4∧w.heap.size+1<gl)
 rw[←hW4]
 clear hW4 HD y0 y1 y2 y3 y4 y5
 obtain⟨⟨y0,y1,y2⟩,-⟩:=box_cells29 HE.out.2.1.1
 obtain⟨⟨z0,z1,z2⟩,-⟩:=box_cells29 HE.out.1.1
 have kk:=Hko.out W4 _ _ HE.out.2.1.2 HE.out.1.2
 clear Hko
 go_wp2_with fail
 refine kk.mono ?_
 rintro r u5 ⟨sv,aov,nv,cpv,ev,rfl,hd5,hb5⟩
 clear kk y0 y1 y2 z0 z1 z2
 have B5:Hid (Bw W4 u5):=hb5
 have kk:=Hkf.out u5 _ hd5
 clear Hkf hd5 hb5
 go_wp2_with fail
 refine kk.mono ?_
 rintro r u6 ⟨rfl,hb6⟩
 clear kk
 have HF:Hid (NbD u6 gl sl aol nl cpl el (Tl)∧NbD u6 w.heap.size sc aoc nc cpc ec (Tc)∧u6.heap[w.heap.size+1]?=some (.cells #[.bool false,.slice none 0 0,.int .i64 0,.bool false,.slice none 0 0,.int .i64 0] 47 (0,0))∧Bw w u6∧w.heap.size+1<gl):=(by
  have hb:=B5.out.trans (hb6.mono B5.out.size)
  exact⟨HE.out.1.later hb,HE.out.2.1.later hb,(hb.block _ (Array.getElem?_eq_some_iff.1 HE.out.2.2.1).1).trans HE.out.2.2.1,HE.out.2.2.2.1.trans (hb.mono HE.out.2.2.2.1.size),HE.out.2.2.2.2⟩:NbD u6 gl sl aol nl cpl el (Tl)∧NbD u6 w.heap.size sc aoc nc cpc ec (Tc)∧u6.heap[w.heap.size+1]?=some (.cells #[.bool false,.slice none 0 0,.int .i64 0,.bool false,.slice none 0 0,.int .i64 0] 47 (0,0))∧Bw w u6∧w.heap.size+1<gl)
 clear hb6 B5 HE
 go_upto_region 5 with fail
 go_cut [8] from 24 to 29 (fun p' wx=>∃ (g:Nat) (sr:Bool) (aor:Option Addr) (nr cpr:Nat) (er:Int),p'=.pointer (some ⟨g,0,none⟩)∧Hid (NbD wx g sr aor nr cpr er Tr∧Bw u6 wx∧u6.heap.size≤g))
 case first =>
  refine rs_region k 24 2 7 6 8 w.heap.size gl sc aoc nc cpc ec sl aol nl cpl el Tc Tl Tw Tt Tr u6 _ rfl (gord_of (by kernel_rfl)) ?_ rfl rfl rfl ?_ ?_ ?_ ?_ HF.out.2.1 HF.out.1 ?_ ?_ ?_ ?_
  ·exact⟨⟨_,rfl,rfl,rfl,rfl⟩,⟨_,rfl,rfl,rfl,rfl⟩,⟨_,rfl,rfl,⟨_,rfl⟩,rfl,⟨1,.data⟩,by simp,rfl,rfl⟩,⟨_,rfl,rfl,rfl,rfl⟩,⟨_,rfl,rfl,⟨_,rfl⟩,rfl,⟨⟨2,.data⟩,by simp,rfl,rfl⟩,⟨3,.data⟩,by simp,rfl,rfl⟩,⟨_,rfl,rfl,⟨_,rfl⟩,rfl,⟨⟨0,.data⟩,by simp,rfl,rfl⟩,⟨4,.data⟩,by simp,rfl,rfl⟩,⟨_,rfl,rfl,rfl,rfl⟩,⟨_,rfl,rfl,rfl,rfl,⟨⟨6,.data⟩,by simp,rfl,rfl⟩,⟨5,.data⟩,by simp,rfl,rfl⟩⟩
  ·decide
  ·decide
  ·intro j hj
   rcases glt6 hj with rfl|rfl|rfl|rfl|rfl|rfl <;> exact Nat.le_of_ble_eq_true rfl
  ·exact Nat.le_of_ble_eq_true rfl
  ·intro V hb
   exact HkW.out V
  ·intro V X Y hb hX hY
   exact HkT.out V X Y hX hY
  ·intro V X Y hb hX hY
   exact HkL.out V X Y hX hY
  ·intro u V g sr aor nr cpr er hb hg hn
   have HR:Hid (NbD V g sr aor nr cpr er Tr∧Bw u6 V∧u6.heap.size≤g):=⟨hn,hb,hg⟩
   clear hn hb hg
   simp only[putL,show List.range 6 = [0,1,2,3,4,5] from rfl,List.map_cons,List.map_nil,List.cons_append,List.nil_append,List.foldl_cons,List.foldl_nil,Nat.reduceLT,Nat.reduceMod,Nat.reduceDiv,Nat.reduceMul,Nat.reduceAdd,Nat.reduceEqDiff,reduceIte,Nat.one_ne_zero,Act.put,List.setIfInBounds_toArray,List.set_cons_zero,List.set_cons_succ]
   go_wp2_with fail
   go_meet
   exact⟨_,_,_,_,_,_,rfl,HR⟩
 case rest =>
  obtain⟨v1,hv1⟩:∃ v2:World,v2=wc:=⟨_,rfl⟩
  subst hv1
  obtain⟨gr,sr,aor,nr,cpr,er,rfl,HR⟩:=hcut
  have HG:Hid (NbD v1 gr sr aor nr cpr er Tr∧v1.heap[w.heap.size+1]?=some (.cells #[.bool false,.slice none 0 0,.int .i64 0,.bool false,.slice none 0 0,.int .i64 0] 47 (0,0))∧Bw w v1∧w.heap.size+1<gr):=⟨HR.out.1,(HR.out.2.1.block _ (Array.getElem?_eq_some_iff.1 HF.out.2.2.1).1).trans HF.out.2.2.1,HF.out.2.2.2.1.trans (HR.out.2.1.mono HF.out.2.2.2.1.size),by have h1:=HF.out.1.lt;have h2:=HF.out.2.2.2.2;have h3:=HR.out.2.2;omega⟩
  clear HR HF HkW HkT HkL
  have kk:=Hk1s.out v1
  clear Hk1s
  go_wp2_with fail
  refine kk.mono ?_
  rintro r u7 ⟨sd,aod,nd,cpd,ed,rfl,hd7,hb7⟩
  clear kk
  have B7:Hid (DN u7 (.agg #[.bool sd,.slice aod nd cpd,.int .i64 ed]) (ss 0)∧Bw v1 u7):=⟨hd7,hb7⟩
  clear hd7 hb7
  have kk:=Hk1t.out u7
  clear Hk1t
  go_wp2_with fail
  refine kk.mono ?_
  rintro r u8 ⟨sf,aof,nf,cpf,ef,rfl,hd8,hb8⟩
  clear kk
  obtain⟨V8,hV8⟩:∃ V2,V2=(u8.alloc (.cells #[.bool false,.slice none 0 0,.int .i64 0] 45)).alloc (.cells #[.bool false,.slice none 0 0,.int .i64 0] 45):=⟨_,rfl⟩
  have hbV8:Bw u8 V8:=by rw[hV8];exact((Below.refl _ _).alloc (Nat.le_refl _) _).alloc (by simp) _
  obtain⟨hz1,hz2,-⟩:=two29 _ _ hV8
  obtain⟨⟨y0,y1,y2⟩,y3,y4,y5⟩:=box_cells29 hz1
  obtain⟨⟨z0,z1,z2⟩,z3,z4,z5⟩:=box_cells29 hz2
  have HZ:Hid (DN u7 (.agg #[.bool sd,.slice aod nd cpd,.int .i64 ed]) (ss 0)∧DN u8 (.agg #[.bool sf,.slice aof nf cpf,.int .i64 ef]) (ts 0)∧Bw v1 u7∧Bw u7 u8∧Bw u8 V8∧V8.heap[u8.heap.size]?=some (.cells #[.bool false,.slice none 0 0,.int .i64 0] 45 (0,0))∧V8.heap[u8.heap.size+1]?=some (.cells #[.bool false,.slice none 0 0,.int .i64 0] 45 (0,0))):=⟨B7.out.1,hd8,B7.out.2,hb8,hbV8,hz1,hz2⟩
  clear hd8 hb8 hbV8 hz1 hz2 B7
  go_upto_region 7 with (rw[←hV8];clear hV8)
  obtain⟨W9,hW9⟩:∃ V2,V2=(((((V8.setCell ⟨u8.heap.size,0,none⟩ (.bool sd)).setCell ⟨u8.heap.size,1,none⟩ (.slice aod nd cpd)).setCell ⟨u8.heap.size,2,none⟩ (.int .i64 ed)).setCell ⟨u8.heap.size+1,0,none⟩ (.bool sf)).setCell ⟨u8.heap.size+1,1,none⟩ (.slice aof nf cpf)).setCell ⟨u8.heap.size+1,2,none⟩ (.int .i64 ef):=⟨_,rfl⟩
  rw[←hW9]
  obtain⟨gs,hgs⟩:∃ g,g=u8.heap.size:=⟨_,rfl⟩
  obtain⟨gt,hgt⟩:∃ g,g=u8.heap.size+1:=⟨_,rfl⟩
  have HI0:Hid ((NbD W9 gr sr aor nr cpr er Tr∧NbD W9 gs sd aod nd cpd ed (ss 0)∧NbD W9 gt sf aof nf cpf ef (ts 0)∧W9.heap[w.heap.size+1]?=some (.cells #[.bool false,.slice none 0 0,.int .i64 0,.bool false,.slice none 0 0,.int .i64 0] 47 (0,0))∧Bw w W9)∧w.heap.size+1<gr∧gr<gs∧gs<gt):=(by
   obtain⟨q1,q2,q3,q4,q5,q6,q7⟩:=HZ.out
   have hb2:Bw v1 u8:=q3.trans (q4.mono q3.size)
   have hb18:Bw v1 V8:=hb2.trans (q5.mono hb2.size)
   have hsz:=hb2.size
   have hr:=HG.out.1.lt
   have hr2:=HG.out.2.2.2
   have hz2':(((V8.setCell ⟨u8.heap.size,0,none⟩ (.bool sd)).setCell ⟨u8.heap.size,1,none⟩ (.slice aod nd cpd)).setCell ⟨u8.heap.size,2,none⟩ (.int .i64 ed)).heap[u8.heap.size+1]?=some (.cells #[.bool false,.slice none 0 0,.int .i64 0] 45 (0,0)):=heap_other3 q7 (by omega) _ _ _
   have n1:NbD (((V8.setCell ⟨u8.heap.size,0,none⟩ (.bool sd)).setCell ⟨u8.heap.size,1,none⟩ (.slice aod nd cpd)).setCell ⟨u8.heap.size,2,none⟩ (.int .i64 ed)) u8.heap.size sd aod nd cpd ed (ss 0):=⟨store3_29 _ _ _ q6,((q1.later q4).later q5).store3 q6 _ _ _⟩
   have n2:NbD ((((((V8.setCell ⟨u8.heap.size,0,none⟩ (.bool sd)).setCell ⟨u8.heap.size,1,none⟩ (.slice aod nd cpd)).setCell ⟨u8.heap.size,2,none⟩ (.int .i64 ed)).setCell ⟨u8.heap.size+1,0,none⟩ (.bool sf)).setCell ⟨u8.heap.size+1,1,none⟩ (.slice aof nf cpf)).setCell ⟨u8.heap.size+1,2,none⟩ (.int .i64 ef)) (u8.heap.size+1) sf aof nf cpf ef (ts 0):=⟨store3_29 _ _ _ hz2',((q2.later q5).store3 q6 _ _ _).store3 hz2' _ _ _⟩
   rw[hW9,hgs,hgt]
   refine⟨⟨((HG.out.1.later hb18).other q6 (by omega) _ _ _).other hz2' (by omega) _ _ _,n1.other hz2' (by omega) _ _ _,n2,heap_other3 (heap_other3 ((hb18.block _ (Array.getElem?_eq_some_iff.1 HG.out.2.1).1).trans HG.out.2.1) (by omega) _ _ _) (by omega) _ _ _,below_store3 (below_store3 (HG.out.2.2.1.trans (hb18.mono HG.out.2.2.1.size)) (by omega) _ _ _) (by omega) _ _ _⟩,hr2,by omega,by omega⟩:(NbD W9 gr sr aor nr cpr er Tr∧NbD W9 gs sd aod nd cpd ed (ss 0)∧NbD W9 gt sf aof nf cpf ef (ts 0)∧W9.heap[w.heap.size+1]?=some (.cells #[.bool false,.slice none 0 0,.int .i64 0,.bool false,.slice none 0 0,.int .i64 0] 47 (0,0))∧Bw w W9)∧w.heap.size+1<gr∧gr<gs∧gs<gt)
  rw[←hgt,←hgs]
  clear hW9 hgs hgt HZ HG y0 y1 y2 y3 y4 y5 z0 z1 z2 z3 z4 z5
  have HO:Hid (w.heap.size+1<gr∧gr<gs∧gs<gt):=HI0.out.2
  go_wp2_with fail
  go_loopw [11] (fun iv wr=>∃ (j:Nat) (sx:Bool) (aox:Option Addr) (nx cpx:Nat) (ex:Int) (sy:Bool) (aoy:Option Addr) (ny cpy:Nat) (ey:Int),iv=.int .i64 ((j:Int)+1)∧j≤J∧Hid (NbD wr gr sr aor nr cpr er Tr∧NbD wr gs sx aox nx cpx ex (ss j)∧NbD wr gt sy aoy ny cpy ey (ts j)∧wr.heap[w.heap.size+1]?=some (.cells #[.bool false,.slice none 0 0,.int .i64 0,.bool false,.slice none 0 0,.int .i64 0] 47 (0,0))∧Bw w wr)) (fun iv _=>J+2 - (intOf iv).toNat)
  case atStart=>exact⟨0,_,_,_,_,_,_,_,_,_,_,rfl,by omega,HI0.out.1⟩
  case round =>
   obtain⟨j,sx,aox,nx,cpx,ex,sy,aoy,ny,cpy,ey,rfl,hj,HI⟩:=hrel
   clear HI0
   obtain⟨⟨y0,y1,y2⟩,-⟩:=box_cells29 HI.out.2.2.1.1
   have kk:=HkLe.out j wr _ hj HI.out.2.2.1.2
   clear HkLe
   go_wp2_with fail
   refine kk.mono ?_
   rintro r v2 ⟨rfl,hb2⟩
   have HI2:Hid (NbD v2 gr sr aor nr cpr er Tr∧NbD v2 gs sx aox nx cpx ex (ss j)∧NbD v2 gt sy aoy ny cpy ey (ts j)∧v2.heap[w.heap.size+1]?=some (.cells #[.bool false,.slice none 0 0,.int .i64 0,.bool false,.slice none 0 0,.int .i64 0] 47 (0,0))∧Bw w v2):=⟨HI.out.1.later hb2,HI.out.2.1.later hb2,HI.out.2.2.1.later hb2,(hb2.block _ (Array.getElem?_eq_some_iff.1 HI.out.2.2.2.1).1).trans HI.out.2.2.2.1,HI.out.2.2.2.2.trans (hb2.mono HI.out.2.2.2.2.size)⟩
   clear kk hb2 HI y0 y1 y2
   by_cases hjJ:j=J
   ·have hd:decide (j=J)=true:=decide_eq_true hjJ
    subst hjJ
    clear HkM HkI HkO HkP
    obtain⟨⟨y0,y1,y2⟩,-⟩:=box_cells29 HI2.out.2.1.1
    have kk:=HkA.out v2 _ HI2.out.2.1.2
    clear HkA
    go_wp2_with fail
    refine kk.mono ?_
    rintro r v3 ⟨U,rfl,⟨s1,ao1,n1,cp1,e1,s2,ao2,n2,cp2,e2,rfl,hd1,hd2⟩,hb3⟩
    clear kk y0 y1 y2 hd
    obtain⟨V4,hV4⟩:∃ V,V=v3.alloc (.cells #[.bool false,.slice none 0 0,.int .i64 0,.bool false,.slice none 0 0,.int .i64 0] 47):=⟨_,rfl⟩
    have hbV4:Bw v3 V4:=by rw[hV4];exact(Below.refl _ _).alloc (Nat.le_refl _) _
    have hzV4:V4.heap[v3.heap.size]?=some (.cells #[.bool false,.slice none 0 0,.int .i64 0,.bool false,.slice none 0 0,.int .i64 0] 47 (0,0)):=by rw[hV4];exact heap_alloc_new _ _
    obtain⟨⟨y0,y1,y2,y3,y4,y5⟩,f0,f1,f2,f3,f4,f5⟩:=box_cells6 hzV4
    have HZ:Hid (DN v3 (.agg #[.bool s1,.slice ao1 n1 cp1,.int .i64 e1]) UL∧DN v3 (.agg #[.bool s2,.slice ao2 n2 cp2,.int .i64 e2]) UH∧Bw v2 v3∧Bw v3 V4∧V4.heap[v3.heap.size]?=some (.cells #[.bool false,.slice none 0 0,.int .i64 0,.bool false,.slice none 0 0,.int .i64 0] 47 (0,0))):=⟨hd1,hd2,hb3,hbV4,hzV4⟩
    clear hd1 hd2 hb3 hbV4 hzV4
    go_upto_region 13 with (rw[←hV4];clear hV4)
    obtain⟨gb,hgb⟩:∃ g,g=v3.heap.size:=⟨_,rfl⟩
    obtain⟨W5,hW5⟩:∃ V,V=(((((V4.setCell ⟨v3.heap.size,0,none⟩ (.bool s1)).setCell ⟨v3.heap.size,1,none⟩ (.slice ao1 n1 cp1)).setCell ⟨v3.heap.size,2,none⟩ (.int .i64 e1)).setCell ⟨v3.heap.size,3,none⟩ (.bool s2)).setCell ⟨v3.heap.size,4,none⟩ (.slice ao2 n2 cp2)).setCell ⟨v3.heap.size,5,none⟩ (.int .i64 e2):=⟨_,rfl⟩
    have HF:Hid (W5.heap[gb]?=some (.cells #[.bool s1,.slice ao1 n1 cp1,.int .i64 e1,.bool s2,.slice ao2 n2 cp2,.int .i64 e2] 47 (0,0))∧DN W5 (.agg #[.bool s1,.slice ao1 n1 cp1,.int .i64 e1]) UL∧DN W5 (.agg #[.bool s2,.slice ao2 n2 cp2,.int .i64 e2]) UH∧W5.heap[w.heap.size+1]?=some (.cells #[.bool false,.slice none 0 0,.int .i64 0,.bool false,.slice none 0 0,.int .i64 0] 47 (0,0))∧Bw w W5):=(by
     obtain⟨q1,q2,q3,q4,q5⟩:=HZ.out
     have hb:Bw v2 W5:=by rw[hW5];exact below_store6 (q3.trans (q4.mono q3.size)) q3.size _ _ _ _ _ _
     refine⟨?_,?_,?_,(hb.block _ (Array.getElem?_eq_some_iff.1 HI2.out.2.2.2.1).1).trans HI2.out.2.2.2.1,HI2.out.2.2.2.2.trans (hb.mono HI2.out.2.2.2.2.size)⟩
     ·rw[hW5,hgb];exact store6 _ _ _ _ _ _ q5
     ·rw[hW5];exact(q1.later q4).store6 q5 _ _ _ _ _ _
     ·rw[hW5];exact(q2.later q4).store6 q5 _ _ _ _ _ _:W5.heap[gb]?=some (.cells #[.bool s1,.slice ao1 n1 cp1,.int .i64 e1,.bool s2,.slice ao2 n2 cp2,.int .i64 e2] 47 (0,0))∧DN W5 (.agg #[.bool s1,.slice ao1 n1 cp1,.int .i64 e1]) UL∧DN W5 (.agg #[.bool s2,.slice ao2 n2 cp2,.int .i64 e2]) UH∧W5.heap[w.heap.size+1]?=some (.cells #[.bool false,.slice none 0 0,.int .i64 0,.bool false,.slice none 0 0,.int .i64 0] 47 (0,0))∧Bw w W5)
    rw[←hW5,←hgb]
    clear hW5 hgb HZ HI2 y0 y1 y2 y3 y4 y5 f0 f1 f2 f3 f4 f5
    go_cut [4] from 52 to 60 (fun p' wx=>∃ cs,p'=.pointer (some ⟨w.heap.size+1,0,none⟩)∧Hid (wx.heap[w.heap.size+1]?=some (.cells cs 47 (0,0))∧DB wx (.agg cs) TL TH∧Bw w wx))
    case first =>
     refine sc_region k 52 12 7 4 gb (w.heap.size+1) s1 ao1 n1 cp1 e1 s2 ao2 n2 cp2 e2 UL UH TL TH W5 _ rfl (gord_of (by kernel_rfl)) ?_ rfl rfl rfl ?_ ?_ HF.out.1 HF.out.2.1 HF.out.2.2.1 HF.out.2.2.2.1 ?_ ?_ ?_
     ·refine⟨⟨_,rfl,rfl,rfl,rfl⟩,⟨_,rfl,rfl,rfl,rfl,⟨0,.data⟩,by simp,rfl,rfl⟩,⟨_,rfl,rfl,rfl,rfl⟩,⟨_,rfl,rfl,⟨_,rfl⟩,rfl,⟨⟨1,.data⟩,by simp,rfl,rfl⟩,⟨2,.data⟩,by simp,rfl,rfl⟩,⟨_,rfl,rfl,rfl,rfl⟩,⟨_,rfl,rfl,rfl,rfl,⟨4,.data⟩,by simp,rfl,rfl⟩,⟨_,rfl,rfl,rfl,rfl⟩,⟨_,rfl,rfl,⟨_,rfl⟩,rfl,⟨⟨5,.data⟩,by simp,rfl,rfl⟩,⟨6,.data⟩,by simp,rfl,rfl⟩,⟨_,rfl,rfl,rfl,rfl,⟨⟨3,.data⟩,by simp,rfl,rfl⟩,⟨7,.data⟩,by simp,rfl,rfl⟩,⟨_,rfl,rfl,rfl,rfl,?_⟩⟩
      intro i hi
      rcases lt9D hi with rfl|rfl|rfl|rfl|rfl|rfl|rfl|rfl|rfl
      ·exact⟨⟨0,.phase⟩,by simp,rfl,rfl⟩
      ·exact⟨⟨1,.phase⟩,by simp,rfl,rfl⟩
      ·exact⟨⟨2,.phase⟩,by simp,rfl,rfl⟩
      ·exact⟨⟨3,.phase⟩,by simp,rfl,rfl⟩
      ·exact⟨⟨4,.phase⟩,by simp,rfl,rfl⟩
      ·exact⟨⟨5,.phase⟩,by simp,rfl,rfl⟩
      ·exact⟨⟨6,.phase⟩,by simp,rfl,rfl⟩
      ·exact⟨⟨7,.phase⟩,by simp,rfl,rfl⟩
      ·exact⟨⟨8,.phase⟩,by simp,rfl,rfl⟩
     ·decide
     ·intro i hi
      rcases lt9D hi with rfl|rfl|rfl|rfl|rfl|rfl|rfl|rfl|rfl <;> exact Nat.le_of_ble_eq_true rfl
     ·intro V X hb hX
      exact HkSL.out V X hX
     ·intro V X hb hX
      exact HkSH.out V X hX
     ·intro u V cs hb hdb
      have hCV:V.heap[w.heap.size+1]?=some (.cells #[.bool false,.slice none 0 0,.int .i64 0,.bool false,.slice none 0 0,.int .i64 0] 47 (0,0)):=(hb.block _ (Array.getElem?_eq_some_iff.1 HF.out.2.2.2.1).1).trans HF.out.2.2.2.1
      obtain⟨s1',ao1',n1',cp1',e1',s2',ao2',n2',cp2',e2',hcs,q1,q2⟩:=hdb
      obtain⟨wx,hwx⟩:∃ wx,wx=V.setRow (w.heap.size+1) cs:=⟨_,rfl⟩
      have HR:Hid (wx.heap[w.heap.size+1]?=some (.cells cs 47 (0,0))∧DB wx (.agg cs) TL TH∧Bw w wx):=(by
       rw[hwx]
       exact⟨setRow_heap _ _ _ cs _ _ hCV,⟨_,_,_,_,_,_,_,_,_,_,hcs,q1.row6 hCV _,q2.row6 hCV _⟩,below_row (HF.out.2.2.2.2.trans (hb.mono HF.out.2.2.2.2.size)) (by omega) _⟩:wx.heap[w.heap.size+1]?=some (.cells cs 47 (0,0))∧DB wx (.agg cs) TL TH∧Bw w wx)
      rw[←hwx]
      clear hwx hcs q1 q2 hCV hb
      simp only[putL,show List.range 9 = [0,1,2,3,4,5,6,7,8] from rfl,List.map_cons,List.map_nil,List.cons_append,List.nil_append,List.foldl_cons,List.foldl_nil,Nat.reduceLT,Nat.reduceMod,Nat.reduceDiv,Nat.reduceMul,Nat.reduceAdd,Nat.reduceEqDiff,reduceIte,Nat.one_ne_zero,Act.put,List.setIfInBounds_toArray,List.set_cons_zero,List.set_cons_succ]
      go_wp2_with fail
      go_meet
      exact⟨_,rfl,HR⟩
    case rest =>
     obtain⟨v9,hv9⟩:∃ v3:World,v3=wc:=⟨_,rfl⟩
     subst hv9
     obtain⟨cs,rfl,HR⟩:=hcut
     have hsz:cs.size=6:=by
      obtain⟨_,_,_,_,_,_,_,_,_,_,hcs,-⟩:=HR.out.2.1
      rw[Value.agg.inj hcs];rfl
     go_wp2_with fail
     obtain⟨d,hd1,hd2⟩:=undB
     refine bodyPost_ret (results_cell_row rfl _ _ (w.heap.size+1) 47 cs (0,0) d rfl HR.out.1 hd1 (by cases d <;> exact hd2) (by rw[hsz];kernel_rfl)) rfl ?_
     exact⟨_,rfl,HR.out.2.1,HR.out.2.2⟩
   ·have hd:decide (j=J)=false:=decide_eq_false hjJ
    have HLT:Hid (j<J):=(by omega:j<J)
    clear HkA HkSL HkSH
    obtain⟨⟨y0,y1,y2⟩,-⟩:=box_cells29 HI2.out.2.2.1.1
    obtain⟨⟨z0,z1,z2⟩,-⟩:=box_cells29 HI2.out.1.1
    have kk:=HkM.out j v2 _ _ HLT.out HI2.out.2.2.1.2 HI2.out.1.2
    clear HkM
    go_wp2_with fail
    refine kk.mono ?_
    rintro r v3 ⟨s4,ao4,n4,cp4,e4,rfl,hd3,hb3⟩
    have HI3:Hid ((NbD v3 gr sr aor nr cpr er Tr∧NbD v3 gs sx aox nx cpx ex (ss j)∧NbD v3 gt sy aoy ny cpy ey (ts j)∧v3.heap[w.heap.size+1]?=some (.cells #[.bool false,.slice none 0 0,.int .i64 0,.bool false,.slice none 0 0,.int .i64 0] 47 (0,0))∧Bw w v3)∧DN v3 (.agg #[.bool s4,.slice ao4 n4 cp4,.int .i64 e4]) (tt j)):=⟨⟨HI2.out.1.later hb3,HI2.out.2.1.later hb3,HI2.out.2.2.1.later hb3,(hb3.block _ (Array.getElem?_eq_some_iff.1 HI2.out.2.2.2.1).1).trans HI2.out.2.2.2.1,HI2.out.2.2.2.2.trans (hb3.mono HI2.out.2.2.2.2.size)⟩,hd3⟩
    clear kk hd3 hb3 HI2 y0 y1 y2 z0 z1 z2
    have kk:=HkI.out j v3 HLT.out
    clear HkI
    go_wp2_with fail
    refine kk.mono ?_
    rintro r v4 ⟨s5,ao5,n5,cp5,e5,rfl,hd4,hb4⟩
    have HI4:Hid ((NbD v4 gr sr aor nr cpr er Tr∧NbD v4 gs sx aox nx cpx ex (ss j)∧NbD v4 gt sy aoy ny cpy ey (ts j)∧v4.heap[w.heap.size+1]?=some (.cells #[.bool false,.slice none 0 0,.int .i64 0,.bool false,.slice none 0 0,.int .i64 0] 47 (0,0))∧Bw w v4)∧DN v4 (.agg #[.bool s4,.slice ao4 n4 cp4,.int .i64 e4]) (tt j)∧DN v4 (.agg #[.bool s5,.slice ao5 n5 cp5,.int .i64 e5]) (Tk j)):=⟨⟨HI3.out.1.1.later hb4,HI3.out.1.2.1.later hb4,HI3.out.1.2.2.1.later hb4,(hb4.block _ (Array.getElem?_eq_some_iff.1 HI3.out.1.2.2.2.1).1).trans HI3.out.1.2.2.2.1,HI3.out.1.2.2.2.2.trans (hb4.mono HI3.out.1.2.2.2.2.size)⟩,HI3.out.2.later hb4,hd4⟩
    clear kk hd4 hb4 HI3
    have kk:=HkO.out j v4 _ _ HLT.out HI4.out.2.1 HI4.out.2.2
    clear HkO
    go_wp2_with fail
    refine kk.mono ?_
    rintro r v5 ⟨s6,ao6,n6,cp6,e6,rfl,hd5,hb5⟩
    have HI5:Hid ((NbD v5 gr sr aor nr cpr er Tr∧NbD v5 gs sx aox nx cpx ex (ss j)∧NbD v5 gt sy aoy ny cpy ey (ts j)∧v5.heap[w.heap.size+1]?=some (.cells #[.bool false,.slice none 0 0,.int .i64 0,.bool false,.slice none 0 0,.int .i64 0] 47 (0,0))∧Bw w v5)∧DN v5 (.agg #[.bool s6,.slice ao6 n6 cp6,.int .i64 e6]) (ts (j+1))):=⟨⟨HI4.out.1.1.later hb5,HI4.out.1.2.1.later hb5,HI4.out.1.2.2.1.later hb5,(hb5.block _ (Array.getElem?_eq_some_iff.1 HI4.out.1.2.2.2.1).1).trans HI4.out.1.2.2.2.1,HI4.out.1.2.2.2.2.trans (hb5.mono HI4.out.1.2.2.2.2.size)⟩,hd5⟩
    clear kk hd5 hb5 HI4
    obtain⟨⟨y0,y1,y2⟩,y3,y4,y5⟩:=box_cells29 HI5.out.1.2.2.1.1
    go_upto_region 11 with fail
    obtain⟨v6,hv6⟩:∃ V,V=((v5.setCell ⟨gt,0,none⟩ (.bool s6)).setCell ⟨gt,1,none⟩ (.slice ao6 n6 cp6)).setCell ⟨gt,2,none⟩ (.int .i64 e6):=⟨_,rfl⟩
    have HI6:Hid (NbD v6 gr sr aor nr cpr er Tr∧NbD v6 gs sx aox nx cpx ex (ss j)∧NbD v6 gt s6 ao6 n6 cp6 e6 (ts (j+1))∧v6.heap[w.heap.size+1]?=some (.cells #[.bool false,.slice none 0 0,.int .i64 0,.bool false,.slice none 0 0,.int .i64 0] 47 (0,0))∧Bw w v6):=(by
     have hg:=HO.out
     rw[hv6]
     exact⟨HI5.out.1.1.other HI5.out.1.2.2.1.1 (by omega) _ _ _,HI5.out.1.2.1.other HI5.out.1.2.2.1.1 (by omega) _ _ _,HI5.out.1.2.2.1.put HI5.out.2,heap_other3 HI5.out.1.2.2.2.1 (by omega) _ _ _,below_store3 HI5.out.1.2.2.2.2 (by omega) _ _ _⟩:NbD v6 gr sr aor nr cpr er Tr∧NbD v6 gs sx aox nx cpx ex (ss j)∧NbD v6 gt s6 ao6 n6 cp6 e6 (ts (j+1))∧v6.heap[w.heap.size+1]?=some (.cells #[.bool false,.slice none 0 0,.int .i64 0,.bool false,.slice none 0 0,.int .i64 0] 47 (0,0))∧Bw w v6)
    rw[←hv6]
    clear hv6 HI5 y0 y1 y2 y3 y4 y5
    obtain⟨⟨y0,y1,y2⟩,-⟩:=box_cells29 HI6.out.2.1.1
    obtain⟨⟨z0,z1,z2⟩,-⟩:=box_cells29 HI6.out.2.2.1.1
    have kk:=HkP.out j v6 _ _ HLT.out HI6.out.2.1.2 HI6.out.2.2.1.2
    clear HkP
    go_wp2_with fail
    refine kk.mono ?_
    rintro r v7 ⟨s7,ao7,n7,cp7,e7,rfl,hd7,hb7⟩
    have HI7:Hid ((NbD v7 gr sr aor nr cpr er Tr∧NbD v7 gs sx aox nx cpx ex (ss j)∧NbD v7 gt s6 ao6 n6 cp6 e6 (ts (j+1))∧v7.heap[w.heap.size+1]?=some (.cells #[.bool false,.slice none 0 0,.int .i64 0,.bool false,.slice none 0 0,.int .i64 0] 47 (0,0))∧Bw w v7)∧DN v7 (.agg #[.bool s7,.slice ao7 n7 cp7,.int .i64 e7]) (ss (j+1))):=⟨⟨HI6.out.1.later hb7,HI6.out.2.1.later hb7,HI6.out.2.2.1.later hb7,(hb7.block _ (Array.getElem?_eq_some_iff.1 HI6.out.2.2.2.1).1).trans HI6.out.2.2.2.1,HI6.out.2.2.2.2.trans (hb7.mono HI6.out.2.2.2.2.size)⟩,hd7⟩
    clear kk hd7 hb7 HI6 y0 y1 y2 z0 z1 z2
    obtain⟨⟨y0,y1,y2⟩,y3,y4,y5⟩:=box_cells29 HI7.out.1.2.1.1
    obtain⟨v8,hv8⟩:∃ V,V=((v7.setCell ⟨gs,0,none⟩ (.bool s7)).setCell ⟨gs,1,none⟩ (.slice ao7 n7 cp7)).setCell ⟨gs,2,none⟩ (.int .i64 e7):=⟨_,rfl⟩
    have HI8:Hid (NbD v8 gr sr aor nr cpr er Tr∧NbD v8 gs s7 ao7 n7 cp7 e7 (ss (j+1))∧NbD v8 gt s6 ao6 n6 cp6 e6 (ts (j+1))∧v8.heap[w.heap.size+1]?=some (.cells #[.bool false,.slice none 0 0,.int .i64 0,.bool false,.slice none 0 0,.int .i64 0] 47 (0,0))∧Bw w v8):=(by
     have hg:=HO.out
     rw[hv8]
     exact⟨HI7.out.1.1.other HI7.out.1.2.1.1 (by omega) _ _ _,HI7.out.1.2.1.put HI7.out.2,HI7.out.1.2.2.1.other HI7.out.1.2.1.1 (by omega) _ _ _,heap_other3 HI7.out.1.2.2.2.1 (by omega) _ _ _,below_store3 HI7.out.1.2.2.2.2 (by omega) _ _ _⟩:NbD v8 gr sr aor nr cpr er Tr∧NbD v8 gs s7 ao7 n7 cp7 e7 (ss (j+1))∧NbD v8 gt s6 ao6 n6 cp6 e6 (ts (j+1))∧v8.heap[w.heap.size+1]?=some (.cells #[.bool false,.slice none 0 0,.int .i64 0,.bool false,.slice none 0 0,.int .i64 0] 47 (0,0))∧Bw w v8)
    clear HI7
    have hw2:IntKind.i64.wrap ((j:Int)+1+1)=((j+1:Nat):Int)+1:=by rw[IntKind.wrap_i64];have:=HLT.out;omega
    go_wp2_with fail
    rw[←hv8]
    clear hv8
    exact⟨⟨j+1,_,_,_,_,_,_,_,_,_,_,rfl,by have:=HLT.out;omega,HI8⟩,by have:=HLT.out;simp[intOf];omega⟩
def eT (q R:Nat):Nat→Nat
 | 0=>2^q
 | j+1=>eT q R j*R / 2^q / (j+1)
def eS (q R:Nat):Nat→Nat
 | 0=>2^q
 | j+1=>eS q R j+eT q R (j+1)
theorem eT_mul {q R:Nat} (hR:R≤2^q) {x:Nat} (hx:x≤2^q):x*R / 2^q≤2^q:=by
 refine Nat.div_le_of_le_mul ?_
 exact Nat.mul_le_mul hx hR
theorem eT_le {q R:Nat} (hR:R≤2^q) (j:Nat):eT q R j≤2^q:=by
 induction j with
 | zero=>exact Nat.le_refl _
 | succ j ih=>exact Nat.le_trans (Nat.div_le_self _ _) (eT_mul hR ih)
theorem eS_le {q R:Nat} (hR:R≤2^q) (j:Nat):eS q R j≤(j+1)*2^q:=by
 induction j with
 | zero=>unfold eS;omega
 | succ j ih =>
  have h:=eT_le hR (j+1)
  unfold eS
  rw[Nat.add_mul (j+1) 1]
  omega
theorem dfloor23 {X:Value} {w:World} (hX:DN w X (un 23 4)):Calls Tryz.prog 35 #[X] w fun r w'=>r=.returned (.int .i64 1)∧Bw w w':=by
 obtain⟨s,ao,n,cp,e,rfl⟩:=hX.shape
 refine dfloor_1 s ao n cp e w fun W hb=>?_
 have k:=dcut (a:=23) (p:=4) (r:=0) (bA:=5) (by decide) (by omega) (by omega) (by omega) (hX.later hb)
 rw[show(23:Int) / ((2^(4 - 0):Nat):Int)=1 by decide] at k
 exact k
theorem dexpE {p l R J : Nat} {X : Value} {w : World} (hp : p ≤ 20000) (hl : ln2V (p + 48) = l) (h1 : 23 * l ≤ 16 * 2 ^ (p + 48)) (h2 : 16 * 2 ^ (p + 48) < 24 * l) (hR : 2 ^ (p + 48) - l = R) (hJ : J ≤ 1000000) (hJ1 : eT (p + 48) R J < 2) (hJ2 : ∀ j, j < J → 2 ≤ eT (p + 48) R j) (hX : DN w X (un 1 0)) :
    Calls Tryz.prog 41 #[X, .int .i64 p] w fun r w' => OutQ w (un ((eS (p + 48) R J : Nat) - (4294967296 : Nat)) (p + 47)) (un ((eS (p + 48) R J : Nat) + (4294967296 : Nat)) (p + 47)) r w' := by
  obtain ⟨q, hq⟩ : ∃ q, q = p + 48 := ⟨_, rfl⟩
  rw [← hq] at hl h1 h2 hR hJ1 hJ2 ⊢
  have hP := Nat.two_pow_pos q
  have hlq : l ≤ 2 ^ q := by omega
  have hl0 : 0 < l := by omega
  have hRq : R ≤ 2 ^ q := by omega
  have b1 : 2 ^ q < 2 ^ (q + 1) := by rw [Nat.pow_succ]; omega
  have bT : ∀ x : Nat, x ≤ 2 ^ q → ((x : Nat) : Int).natAbs < 2 ^ (q + 1) := fun x hx => by rw [Int.natAbs_natCast]; omega
  have bS : ∀ j, j ≤ J → ((eS q R j : Nat) : Int).natAbs < 2 ^ (q + 21) := fun j hj => by
    rw [Int.natAbs_natCast, Nat.pow_add]
    refine Nat.lt_of_le_of_lt (eS_le hRq j) ?_
    rw [Nat.mul_comm]
    exact Nat.mul_lt_mul_of_pos_left (by have : (2 : Nat) ^ 21 = 2097152 := by decide
                                         omega) hP
  obtain ⟨s, ao, n, cp, e, rfl⟩ := hX.shape
  have hc : un (1 : Int) 0 = un ((2 ^ q : Nat) : Int) q := by
    have h := un_shift 1 0 q
    rw [Nat.zero_add, Int.one_mul] at h
    exact h
  have h23 : ((2 ^ q : Nat) : Int) * ((2 ^ (4 + q) : Nat) : Int) / ((l : Int) * ((2 ^ q : Nat) : Int)) = 23 := by
    rw [Int.mul_comm, Int.mul_ediv_mul_of_pos_left _ _ (by omega), ← Int.natCast_ediv, show (23 : Int) = ((23 : Nat) : Int) from rfl, Int.natCast_inj, Nat.pow_add]
    refine Nat.div_eq_of_lt_le ?_ ?_
    · have : (2 : Nat) ^ 4 = 16 := by decide
      rw [this]; omega
    · have : (2 : Nat) ^ 4 = 16 := by decide
      rw [this]; omega
  refine dexp_1 s ao n cp e (p : Int) (q : Int) 1 J (un 1 0) (un (l : Int) q) (un ((2 ^ q : Nat) : Int) q) (un 23 4) (un ((1 : Nat) : Int) 0) (un (l : Int) q) (un (R : Int) q) (un ((eS q R J : Nat) - (4294967296 : Nat)) q) (un ((eS q R J : Nat) + (4294967296 : Nat)) q) _ _ (fun j => un ((eS q R j : Nat) : Int) q) (fun j => un ((eT q R j : Nat) : Int) q) (fun j => un ((eT q R j * R / 2 ^ q : Nat) : Int) q) (fun j => un ((j + 1 : Nat) : Int) 0) w hJ (by rw [IntKind.wrap_i64]; omega) hX
    (fun W => by rw [← hl]; exact dln2 (by omega)) (fun W hb => ?_) (fun W X Y hX hY => ?_) (fun W X hX => dfloor23 hX) (fun W => dwhole (k := 1) (by omega)) (fun W X Y hX hY => ?_) (fun W X Y hX hY => ?_) (fun W => ?_) (fun W => ?_) (fun j W X hj hX => ?_) (fun j W X Y hj hX hY => ?_) (fun j W hj => ?_) (fun j W X Y hj hX hY => ?_) (fun j W X Y hj hX hY => ?_) (fun W X hX => ?_) (fun W X hX => ?_) (fun W X hX => ?_)
  · have hx := hX.later hb
    rw [hc] at hx
    have k := dcut (r := q) (bT _ (Nat.le_refl _)) (by omega) (by omega) (Nat.le_refl _) hx
    rw [Nat.sub_self, Nat.pow_zero, show ((1 : Nat) : Int) = 1 from rfl, Int.ediv_one] at k
    exact k
  · have k := dover (r := 4) (by omega) (bT _ (Nat.le_refl _)) (bT l hlq) (by omega) (by omega) (by omega) (by omega) (by omega) hX hY
    rw [h23] at k
    exact k
  · have k := dmulk (k := 1) (by omega) (bT l hlq) (by omega) (by omega) hX hY
    rw [show ((1 : Nat) : Int) * (l : Int) = l by simp] at k
    exact k
  · have k := dlessZ (bT _ (Nat.le_refl _)) (bT l hlq) (by omega) (by omega) hX hY
    rw [show ((2 ^ q : Nat) : Int) - (l : Int) = (R : Int) by omega] at k
    exact k
  · show Calls _ _ _ _ fun r w' => OutD W (un ((2 ^ q : Nat) : Int) q) r w'
    rw [← hc]
    exact dwhole (k := 1) (by omega)
  · show Calls _ _ _ _ fun r w' => OutD W (un ((2 ^ q : Nat) : Int) q) r w'
    rw [← hc]
    exact dwhole (k := 1) (by omega)
  · refine (dleast (bT _ (eT_le hRq j)) (by omega) (by omega) hX).mono fun r w' ⟨e, hb⟩ => ⟨?_, hb⟩
    rw [e, Int.natAbs_natCast]
    congr 2
    by_cases h : j = J
    · rw [decide_eq_true h, h, decide_eq_true hJ1]
    · rw [decide_eq_false h, decide_eq_false (by have := hJ2 j (by omega); omega)]
  · have k := dtimes9 (bT _ (eT_le hRq j)) (bT R hRq) (by omega) (by omega) hX hY
    rw [show ((eT q R j : Nat) : Int) * (R : Int) / ((2 ^ q : Nat) : Int) = ((eT q R j * R / 2 ^ q : Nat) : Int) by simp] at k
    exact k
  · have k := dwhole (k := j + 1) (W := W) (by omega)
    rw [show ((j + 1 : Nat) : Int) = (j : Int) + 1 by omega] at k
    show Calls _ _ _ _ fun r w' => OutD W (un ((j + 1 : Nat) : Int) 0) r w'
    rw [show ((j + 1 : Nat) : Int) = (j : Int) + 1 by omega]
    exact k
  · have h32 : j + 1 < 2 ^ 32 := by
      have : (2 : Nat) ^ 32 = 4294967296 := by decide
      omega
    have k := dover1 (k := j + 1) (bB := 32) (by omega) (bT _ (eT_mul hRq (eT_le hRq j))) h32 (by omega) (by omega) (by omega) hX hY
    rw [← Int.natCast_ediv] at k
    exact k
  · have k := dplusZ (k := q + 21) (bS j (by omega)) (Nat.lt_of_lt_of_le (bT _ (eT_le hRq (j + 1))) (Nat.pow_le_pow_right (by omega) (by omega))) (by omega) (by omega) hX hY
    rw [← Int.natCast_add] at k
    exact k
  · exact daround (u := 4294967296) (bS J (Nat.le_refl _)) (by omega) (by omega) (by decide) (by omega) hX
  · exact dscaled (b := q + 22) (q := p + 47) (by rw [Nat.pow_succ 2 (q + 21)]; have := bS J (Nat.le_refl _); have h3 : (4294967296 : Nat) < 2 ^ (q + 21) := Nat.lt_of_lt_of_le (by decide : 4294967296 < 2 ^ 33) (Nat.pow_le_pow_right (by omega) (by omega)); omega) (by omega) (by omega) (by omega) (by omega) hX
  · exact dscaled (b := q + 22) (q := p + 47) (by rw [Nat.pow_succ 2 (q + 21)]; have := bS J (Nat.le_refl _); have h3 : (4294967296 : Nat) < 2 ^ (q + 21) := Nat.lt_of_lt_of_le (by decide : 4294967296 < 2 ^ 33) (Nat.pow_le_pow_right (by omega) (by omega)); omega) (by omega) (by omega) (by omega) (by omega) hX
theorem dencE {p l R J:Nat} {X Y:Value} {tx ty:Bool×Nat×Int} {w:World} (hp:p≤20000) (hl:ln2V (p+48)=l) (h1:23*l≤16*2^(p+48)) (h2:16*2^(p+48)<24*l) (hR:2^(p+48) - l=R) (hJ:J≤1000000) (hJ1:eT (p+48) R J<2) (hJ2:∀ j,j<J→2≤eT (p+48) R j) (hX:DN w X tx) (hY:DN w Y ty) :
  Calls Tryz.prog 17 #[.int .i64 4,X,Y,.int .i64 p] w fun r w'=>OutQ w (un ((eS (p+48) R J:Nat) - (4294967296:Nat)) (p+47)) (un ((eS (p+48) R J:Nat)+(4294967296:Nat)) (p+47)) r w':=by
 obtain⟨s,ao,n,cp,e,rfl⟩:=hX.shape
 obtain⟨s2,ao2,n2,cp2,e2,rfl⟩:=hY.shape
 exact denc_e s ao n cp e s2 ao2 n2 cp2 e2 (p:Int) ((p+48:Nat):Int) (un ((1:Nat):Int) 0) _ _ w (by rw[IntKind.wrap_i64];omega)
  (fun W _=>dwhole (k:=1) (by omega)) (fun W X _ hX=>dexpE hp hl h1 h2 hR hJ hJ1 hJ2 hX)
end Go.Proofs.YtapooodfgcjoaaaGreat
namespace Go.Proofs.YtapooodfgcjoaaaGreat
open Go Go.RowKit Go.Fl64
def NC3 (cs:Array Value):Prop:=∃ (s1:Bool) (ao1:Option Addr) (n1 cp1:Nat) (e1:Int),cs = #[.bool s1,.slice ao1 n1 cp1,.int .i64 e1]
theorem DN.row3 {W:World} {A:Value} {t:Bool×Nat×Int} {g:Nat} {T:TypeId} {cs:Array Value} (h:DN W A t) (hE:W.heap[g]?=some (.cells cs T (0,0))) (hC:NC3 cs) (cs':Array Value):DN (W.setRow g cs') A t:=by
 obtain⟨ao,cap,rfl,h1⟩:=h
 obtain⟨bb,o,h4,h5⟩:=h1.at_
 obtain⟨_,_,_,_,_,rfl⟩:=hC
 refine⟨ao,cap,rfl,h1.nil,⟨bb,o,h4,fun i hi=>?_⟩,h1.le,h1.small⟩
 have hc:=h5 i hi
 have hne:bb≠g:=by
  rintro rfl
  simp only[World.cell?,hE] at hc
  rcases(show o+i=0∨o+i=1∨o+i=2∨3≤o+i by omega)with e|e|e|e
  ·rw[e] at hc;simp at hc
  ·rw[e] at hc;simp at hc
  ·rw[e] at hc;simp at hc
  ·rw[Array.getElem?_eq_none (by simpa using e)] at hc;cases hc
 have hs:=setRow_other W g bb cs' hne
 unfold World.cell? at hc ⊢
 rw[hs]
 exact hc
def isD (T:Bool×Nat×Int):World→Value→Prop:=fun w u=>DN w u T
theorem isD_stays (T:Bool×Nat×Int):Stays (isD T):=fun _ _ _ hb h=>DN.later h hb
theorem isD_rows3 (t:Bool×Nat×Int):∀ w u g cs cs',w.heap[g]?=some (.cells cs 45 (0,0))→NC3 cs→isD t w u→isD t (w.setRow g cs') u:=fun w u g cs cs' h hC h2=>DN.row3 h2 h hC _
theorem isD_rows8 (t:Bool×Nat×Int):∀ w u g cs',w.heap[g]?=some (.cells #[.bool false,.slice none 0 0,.int .i64 0] 45 (0,0))→isD t w u→isD t (w.setRow g cs') u:=fun w u g cs' hg h2=>DN.row3 h2 hg ⟨_,_,_,_,_,rfl⟩ cs'
theorem rowsF (T:TypeId):∀ L:List (World→Value→Prop),RowsAll T (fun _=>False) L
 | []=>trivial
 | _ :: r=>⟨fun _ _ _ _ _ _ h=>h.elim,rowsF T r⟩
theorem r_region {ops:Array Oper} {Q:Exit→Act→World→Prop} {id:Nat} (PVL SL:List Nat) (D:List (List Nat))
  (W0:World) (a0:Act) (L:List (World→Value→Prop)) (hchk:qchk ops PVL [] SL D [] []=true)
  (hV1:StaysAll L) (hsl:∀ s ∈ SL,s<a0.tmps.size)
  (hA:∀ j,j<PVL.length→∀ o,ops[PVL.getD j 0]?=some o→∀ (a:Act) (w:World),Bw W0 w→(∀ s:Nat,SL.contains s=false→a.tmps[s]?=a0.tmps[s]?) →
   (∀ j' ∈ dL D j,∃ u,a.tmps[SL.getD j' 0]?=some u∧vL L j' w u) →
   (o.guard=none∧o.wp Tryz.prog a w (fun a' w'=>∃ u,a'=a.put o.dst u∧vL L j w' u∧Bw w w') Q)∨wpOp Tryz.prog ops Q (PVL.getD j 0) (fun a' w'=>∃ u,a'=a.put o.dst u∧vL L j w' u∧Bw w w') a w)
  (hQ:∀ (u:Nat→Value) (w:World),Bw W0 w→(∀ j,j<PVL.length→vL L j w (u j))→Q .normal (putL a0 ((List.range PVL.length).map (fun j=>(SL.getD j 0,u j)))) w) :
  (Code.region id ops true).wp Tryz.prog Q a0 W0 :=
 q_region follows_mixed PVL [] SL D [] [] (fun _=>0) (fun _=>0) W0.heap.size 45 (fun _=>False) 3 W0 a0 L hchk hV1 (rowsF _ L) hsl
  (fun k hk=>absurd hk (Nat.not_lt_zero _)) (fun j hj o ho a w hk ho1 hd _=>hA j hj o ho a w hk.below ho1 hd) Tryz.info45
  (fun k hk=>absurd hk (Nat.not_lt_zero _)) (fun k hk=>absurd hk (Nat.not_lt_zero _)) (fun k hk=>absurd hk (Nat.not_lt_zero _)) (fun k k' hk=>absurd hk (Nat.not_lt_zero _)) (Nat.le_refl _)
  (fun u w hk hu _=>hQ u w hk.below hu)
theorem run_ldD (g o:Nat) (s:Bool) (ao:Option Addr) (n cp:Nat) (e:Int) (w:World) (h0:w.cell? ⟨g,o,none⟩=some (.bool s)) (h1:w.cell? ⟨g,o+1,none⟩=some (.slice ao n cp)) (h2:w.cell? ⟨g,o+2,none⟩=some (.int .i64 e)):(Instr.loadAt 45 (.pointer (some ⟨g,o,none⟩))).run Tryz.prog w=.ok (.agg #[.bool s,.slice ao n cp,.int .i64 e]) w :=
 run_loadAt_mid w g o 45 [.bool s,.slice ao n cp,.int .i64 e] _ (fun j v hv=>by
  match j with
  | 0=>simp at hv;subst hv;exact h0
  | 1=>simp at hv;subst hv;exact h1
  | 2=>simp at hv;subst hv;exact h2
  | k+3=>simp at hv) Tryz.underlying45 rfl Tryz.info45
theorem owp_ldD {Q:Exit→Act→World→Prop} {o:Oper} {K:Act→World→Prop} {a:Act} {w:World} {s:Tmp} {g:Nat} {s':Bool} {ao:Option Addr} {n cp:Nat} {e:Int} (hop:o.op=.load 45 (.tmp s)) (hs:a.tmps[s]?=some (.pointer (some ⟨g,0,none⟩))) (h0:w.cell? ⟨g,0,none⟩=some (.bool s')) (h1:w.cell? ⟨g,1,none⟩=some (.slice ao n cp)) (h2:w.cell? ⟨g,2,none⟩=some (.int .i64 e)) (h:K (a.put o.dst (.agg #[.bool s',.slice ao n cp,.int .i64 e])) w):o.wp Tryz.prog a w K Q :=
 owp_run1 (w':=w) (by simp[execOp,hop,eval_get hs,run_ldD g 0 s' ao n cp e w h0 h1 h2]) h
theorem dV {a:Act} {s:Tmp} {L:List (World→Value→Prop)} {j:Nat} {w:World} {x:Value} (h:∃ u,a.tmps[s]?=some u∧vL L j w u) (e:vL L j=isV x):a.tmps[s]?=some x:=by
 obtain⟨u,h1,h2⟩:=h
 rw[e] at h2
 obtain rfl:u=x:=h2
 exact h1
theorem eval_cst (a:Act) (v:Value):a.eval (.const v)=v:=rfl
theorem dlog_1 (sx:Bool) (aox:Option Addr) (nx cpx:Nat) (ex:Int) (p q:Int) (J:Nat) (TX Tm0 T3 T34 Tm T1 TL TP Tz Tsq TS Tl Tt TR UL UH:Bool×Nat×Int) (ss ts tt Tk:Nat→Bool×Nat×Int) (w:World) (hJ:J≤1000000) (hq:IntKind.i64.wrap (p+48)=q) (hx:DN w (.agg #[.bool sx,.slice aox nx cpx,.int .i64 ex]) TX) (h0:ss 0=(false,0,0)) (h0t:ts 0=Tz)
  (kH:Hid (∀ (W:World) X,DN W X TX→Calls Tryz.prog 95 #[X] W fun r w'=>r=.returned (.int .i64 4)∧Bw W w'))
  (kS4:Hid (∀ (W:World) X,DN W X (TX)→Calls Tryz.prog 40 #[X,.int .i64 (-4)] W fun r w'=>OutD W (Tm0) r w'))
  (kW3:Hid (∀ W:World,Calls Tryz.prog 24 #[.int .i64 3] W fun r w'=>OutD W (T3) r w'))
  (kS2:Hid (∀ (W:World) X,DN W X (T3)→Calls Tryz.prog 40 #[X,.int .i64 (-2)] W fun r w'=>OutD W (T34) r w'))
  (kOr:Hid (∀ (W:World) X Y,DN W X Tm0→DN W Y T34→Calls Tryz.prog 19 #[X,Y] W fun r w'=>r=.returned (.int .i64 (-1))∧Bw W w'))
  (kS1:Hid (∀ (W:World) X,DN W X (Tm0)→Calls Tryz.prog 40 #[X,.int .i64 1] W fun r w'=>OutD W (Tm) r w'))
  (kW1:Hid (∀ W:World,Calls Tryz.prog 24 #[.int .i64 1] W fun r w'=>OutD W (T1) r w'))
  (kLs:Hid (∀ (W:World) X Y,DN W X (Tm)→DN W Y (T1)→Calls Tryz.prog 57 #[X,Y] W fun r w'=>OutD W (TL) r w'))
  (kPl:Hid (∀ (W:World) X Y,DN W X (Tm)→DN W Y (T1)→Calls Tryz.prog 45 #[X,Y] W fun r w'=>OutD W (TP) r w'))
  (kOv:Hid (∀ (W:World) X Y,DN W X (TL)→DN W Y (TP)→Calls Tryz.prog 93 #[X,Y,.int .i64 q] W fun r w'=>OutD W (Tz) r w'))
  (kSq:Hid (∀ (W:World) X Y,DN W X (Tz)→DN W Y (Tz)→Calls Tryz.prog 47 #[X,Y,.int .i64 q] W fun r w'=>OutD W (Tsq) r w'))
  (kLe:Hid (∀ (j:Nat) (W:World) X,j≤J→DN W X (ts j)→Calls Tryz.prog 94 #[X,.int .i64 q] W fun r w'=>r=.returned (.bool (decide (j=J)))∧Bw W w'))
  (kI:Hid (∀ (j:Nat) (W:World),j<J→Calls Tryz.prog 24 #[.int .i64 (2*(j:Int)+1)] W fun r w'=>OutD W (Tk j) r w'))
  (kO:Hid (∀ (j:Nat) (W:World) X Y,j<J→DN W X (ts j)→DN W Y (Tk j)→Calls Tryz.prog 93 #[X,Y,.int .i64 q] W fun r w'=>OutD W (tt j) r w'))
  (kP:Hid (∀ (j:Nat) (W:World) X Y,j<J→DN W X (ss j)→DN W Y (tt j)→Calls Tryz.prog 45 #[X,Y] W fun r w'=>OutD W (ss (j+1)) r w'))
  (kM:Hid (∀ (j:Nat) (W:World) X Y,j<J→DN W X (ts j)→DN W Y Tsq→Calls Tryz.prog 47 #[X,Y,.int .i64 q] W fun r w'=>OutD W (ts (j+1)) r w'))
  (kSc:Hid (∀ (W:World) X,DN W X (ss J)→Calls Tryz.prog 40 #[X,.int .i64 1] W fun r w'=>OutD W (TS) r w'))
  (kln:Hid (∀ W:World,Calls Tryz.prog 42 #[.int .i64 q] W fun r w'=>OutD W (Tl) r w'))
  (kT:Hid (∀ (W:World) X Y,DN W X (T3)→DN W Y (Tl)→Calls Tryz.prog 33 #[X,Y] W fun r w'=>OutD W (Tt) r w'))
  (kP2:Hid (∀ (W:World) X Y,DN W X (TS)→DN W Y (Tt)→Calls Tryz.prog 45 #[X,Y] W fun r w'=>OutD W (TR) r w'))
  (kA:Hid (∀ (W:World) X,DN W X TR→Calls Tryz.prog 38 #[X,.int .i64 68719476736,.int .i64 q] W fun r w'=>OutQ W UL UH r w')) :
  Calls Tryz.prog 43 #[.agg #[.bool sx,.slice aox nx cpx,.int .i64 ex],.int .i64 p] w fun r w'=>OutQ w UL UH r w':=by
 obtain⟨W,hW⟩:∃ W,W=(w.alloc (.cells #[.bool sx,.slice aox nx cpx,.int .i64 ex] 45)).alloc (.cells #[.bool false,.slice none 0 0,.int .i64 0,.bool false,.slice none 0 0,.int .i64 0] 47):=⟨_,rfl⟩
 have HS0:Hid ((NbD W w.heap.size sx aox nx cpx ex (TX))∧(W.heap[w.heap.size+1]?=some (.cells #[.bool false,.slice none 0 0,.int .i64 0,.bool false,.slice none 0 0,.int .i64 0] 47 (0,0)))∧(Bw w W)):=by
  obtain⟨y1,y2,y3,y4⟩:=two29 _ _ hW
  exact⟨⟨y1,hx.later y4⟩,y2,y4⟩
 go_enter Tryz.func43,Tryz.ntmps43
 go_upto_region 1 with fail
 rw[←hW]
 clear hW hx
 obtain⟨⟨y0,y1,y2⟩,y3,y4,y5⟩:=box_cells29 HS0.out.1.1
 have kk:=kH.out W _ HS0.out.1.2
 go_wp2_with fail
 refine kk.mono ?_
 rintro r u1 ⟨rfl,hb⟩
 clear kk y0 y1 y2 y3 y4 y5
 have HS1:Hid ((NbD u1 w.heap.size sx aox nx cpx ex (TX))∧(u1.heap[w.heap.size+1]?=some (.cells #[.bool false,.slice none 0 0,.int .i64 0,.bool false,.slice none 0 0,.int .i64 0] 47 (0,0)))∧(Bw w u1)):=⟨HS0.out.1.later hb,(hb.block _ (Array.getElem?_eq_some_iff.1 HS0.out.2.1).1).trans HS0.out.2.1,HS0.out.2.2.trans (hb.mono HS0.out.2.2.size)⟩
 clear hb HS0 kH
 obtain⟨⟨y0,y1,y2⟩,y3,y4,y5⟩:=box_cells29 HS1.out.1.1
 have kk:=kS4.out u1 _ HS1.out.1.2
 go_wp2_with fail
 refine kk.mono ?_
 rintro r u2 ⟨sm,aom,nm,cpm,em,rfl,hd,hb⟩
 clear kk
 have HS2:Hid ((u2.heap[w.heap.size+1]?=some (.cells #[.bool false,.slice none 0 0,.int .i64 0,.bool false,.slice none 0 0,.int .i64 0] 47 (0,0)))∧(Bw w u2)):=⟨(hb.block _ (Array.getElem?_eq_some_iff.1 HS1.out.2.1).1).trans HS1.out.2.1,HS1.out.2.2.trans (hb.mono HS1.out.2.2.size)⟩
 clear hb HS1 kS4 y0 y1 y2 y3 y4 y5
 obtain⟨V9,hV9⟩:∃ V,V=u2.alloc (.cells #[.bool false,.slice none 0 0,.int .i64 0] 45):=⟨_,rfl⟩
 have hbV:Bw u2 V9:=by rw[hV9];exact(Below.refl _ _).alloc (Nat.le_refl _) _
 have hzV:V9.heap[u2.heap.size]?=some (.cells #[.bool false,.slice none 0 0,.int .i64 0] 45 (0,0)):=by rw[hV9];exact heap_alloc_new _ _
 have HZ:Hid (Bw u2 V9∧V9.heap[u2.heap.size]?=some (.cells #[.bool false,.slice none 0 0,.int .i64 0] 45 (0,0))∧DN u2 (.agg #[.bool sm,.slice aom nm cpm,.int .i64 em]) (Tm0)):=⟨hbV,hzV,hd⟩
 obtain⟨⟨y0,y1,y2⟩,y3,y4,y5⟩:=box_cells29 hzV
 clear hbV hzV hd
 go_upto_region 4 with (rw[←hV9];clear hV9)
 obtain⟨gm,hg9⟩:∃ g,g=u2.heap.size:=⟨_,rfl⟩
 obtain⟨W3,hW9⟩:∃ V,V=((V9.setCell ⟨u2.heap.size,0,none⟩ (.bool sm)).setCell ⟨u2.heap.size,1,none⟩ (.slice aom nm cpm)).setCell ⟨u2.heap.size,2,none⟩ (.int .i64 em):=⟨_,rfl⟩
 have HS3:Hid ((NbD W3 gm sm aom nm cpm em (Tm0))∧(W3.heap[w.heap.size+1]?=some (.cells #[.bool false,.slice none 0 0,.int .i64 0,.bool false,.slice none 0 0,.int .i64 0] 47 (0,0)))∧(Bw w W3)∧w.heap.size+1<gm):=by
  have hbu:Bw w u2:=HS2.out.2
  have hsz:w.heap.size+1<u2.heap.size:=(Array.getElem?_eq_some_iff.1 HS2.out.1).1
  have hbW:Bw u2 W3:=by rw[hW9];exact below_store3 HZ.out.1 (Nat.le_refl _) _ _ _
  refine⟨by rw[hW9,hg9];exact⟨store3_29 _ _ _ HZ.out.2.1,(HZ.out.2.2.later HZ.out.1).store3 HZ.out.2.1 _ _ _⟩,(hbW.block _ (Array.getElem?_eq_some_iff.1 HS2.out.1).1).trans HS2.out.1,HS2.out.2.trans (hbW.mono HS2.out.2.size),by rw[hg9];exact hsz⟩
 rw[←hW9,←hg9]
 clear hW9 hg9 HZ y0 y1 y2 y3 y4 y5
 clear HS2
 refine r_region [0,1,2,3,4] [21,22,23,24,25] [[],[],[1],[0,2],[3]] W3 _ [isV (.agg #[.bool sm,.slice aom nm cpm,.int .i64 em]),isD (T3),isD (T34),isV (.int .i64 (-1)),isV (.bool true)] (by kernel_rfl) ⟨isV_stays _,isD_stays _,isD_stays _,isV_stays _,isV_stays _,trivial⟩ (by show ∀ s ∈ [21,22,23,24,25],s<75;decide) ?_ ?_
 ·intro j hj o ho act U hb hoth hdep
  have hj':j<5:=hj
  have t7':act.tmps[(7:Nat)]?=some (Value.pointer (some ⟨gm,0,none⟩)):=(hoth 7 (by decide)).trans rfl
  have d7:=(box_cells29 (HS3.out.1.later hb).1).1
  rcases(by omega:j=0∨j=1∨j=2∨j=3∨j=4)with rfl|rfl|rfl|rfl|rfl
  ·obtain rfl:=Option.some.inj ho
   exact .inl ⟨rfl,owp_ldD rfl t7' d7.1 d7.2.1 d7.2.2 ⟨_,rfl,rfl,Below.refl _ _⟩⟩
  ·obtain rfl:=Option.some.inj ho
   refine .inl ⟨rfl,owp_call rfl (enters Tryz.func24 (by kernel_rfl) (by kernel_rfl)) (vs:=#[(Value.int IntKind.i64 3)]) (by simp[eval_cst]) ?_⟩
   refine(kW3.out U).mono ?_
   rintro r w' ⟨s9,ao9,n9,cp9,e9,rfl,hA9,hb'⟩
   exact⟨_,rfl,_,rfl,hA9,hb'⟩
  ·obtain rfl:=Option.some.inj ho
   obtain⟨u1,y10,v1⟩:=hdep 1 (by simp[dL])
   have y1:act.tmps[(22:Nat)]?=_:=y10
   refine .inl ⟨rfl,owp_call rfl (enters Tryz.func40 (by kernel_rfl) (by kernel_rfl)) (vs:=#[u1,(Value.int IntKind.i64 (-2))]) (by simp[eval_get y1,eval_cst]) ?_⟩
   refine(kS2.out U _ v1).mono ?_
   rintro r w' ⟨s9,ao9,n9,cp9,e9,rfl,hA9,hb'⟩
   exact⟨_,rfl,_,rfl,hA9,hb'⟩
  ·obtain rfl:=Option.some.inj ho
   have y0:act.tmps[(21:Nat)]?=_:=dV (hdep 0 (by simp[dL])) rfl
   obtain⟨u2,y20,v2⟩:=hdep 2 (by simp[dL])
   have y2:act.tmps[(23:Nat)]?=_:=y20
   refine .inl ⟨rfl,owp_call rfl (enters Tryz.func19 (by kernel_rfl) (by kernel_rfl)) (vs:=#[.agg #[.bool sm,.slice aom nm cpm,.int .i64 em],u2]) (by simp[eval_get y0,eval_get y2]) ?_⟩
   refine(kOr.out U _ _ (HS3.out.1.later hb).2 v2).mono ?_
   rintro r w' ⟨rfl,hb'⟩
   exact⟨_,rfl,_,rfl,rfl,hb'⟩
  ·obtain rfl:=Option.some.inj ho
   have y3:act.tmps[(24:Nat)]?=_:=dV (hdep 3 (by simp[dL])) rfl
   exact .inl ⟨rfl,owp_run1 (w':=U) (by simp[execOp,y3,eval_cst,go_sem]) ⟨_,rfl,rfl,Below.refl _ _⟩⟩
 ·intro u W9 hb9 hu
  have u4:u 4=.bool true:=hu 4 (by show 4<5;decide)
  clear hu
  simp only[putL,show List.range 5 = [0,1,2,3,4] from rfl,List.length_cons,List.length_nil,List.getD_cons_zero,List.getD_cons_succ,List.map_cons,List.map_nil,List.cons_append,List.nil_append,List.foldl_cons,List.foldl_nil,Nat.reduceLT,Nat.reduceMod,Nat.reduceDiv,Nat.reduceMul,Nat.reduceAdd,Nat.reduceEqDiff,reduceIte,Nat.one_ne_zero,Act.put,List.setIfInBounds_toArray,List.set_cons_zero,List.set_cons_succ]
  rw[u4]
  clear u4
  have HS4:Hid ((NbD W9 gm sm aom nm cpm em (Tm0))∧(W9.heap[w.heap.size+1]?=some (.cells #[.bool false,.slice none 0 0,.int .i64 0,.bool false,.slice none 0 0,.int .i64 0] 47 (0,0)))∧(Bw w W9)∧w.heap.size+1<gm):=⟨HS3.out.1.later hb9,(hb9.block _ (Array.getElem?_eq_some_iff.1 HS3.out.2.1).1).trans HS3.out.2.1,HS3.out.2.2.1.trans (hb9.mono HS3.out.2.2.1.size),HS3.out.2.2.2⟩
  clear hb9 HS3 kS2 kOr
  obtain⟨⟨y0,y1,y2⟩,y3,y4,y5⟩:=box_cells29 HS4.out.1.1
  have kk:=kS1.out W9 _ HS4.out.1.2
  go_wp2_with fail
  refine kk.mono ?_
  rintro r u5 ⟨s5,ao5,n5,cp5,e5,rfl,hd,hb⟩
  clear kk
  have HS5:Hid ((NbD u5 gm sm aom nm cpm em (Tm0))∧(u5.heap[w.heap.size+1]?=some (.cells #[.bool false,.slice none 0 0,.int .i64 0,.bool false,.slice none 0 0,.int .i64 0] 47 (0,0)))∧(Bw w u5)∧w.heap.size+1<gm):=⟨HS4.out.1.later hb,(hb.block _ (Array.getElem?_eq_some_iff.1 HS4.out.2.1).1).trans HS4.out.2.1,HS4.out.2.2.1.trans (hb.mono HS4.out.2.2.1.size),HS4.out.2.2.2⟩
  clear hb HS4 kS1 y0 y1 y2 y3 y4 y5
  obtain⟨⟨y0,y1,y2⟩,y3,y4,y5⟩:=box_cells29 HS5.out.1.1
  go_upto_region 6 with fail
  obtain⟨W6,hW9⟩:∃ V,V=((u5.setCell ⟨gm,0,none⟩ (.bool s5)).setCell ⟨gm,1,none⟩ (.slice ao5 n5 cp5)).setCell ⟨gm,2,none⟩ (.int .i64 e5):=⟨_,rfl⟩
  have HS6:Hid ((NbD W6 gm s5 ao5 n5 cp5 e5 (Tm))∧(W6.heap[w.heap.size+1]?=some (.cells #[.bool false,.slice none 0 0,.int .i64 0,.bool false,.slice none 0 0,.int .i64 0] 47 (0,0)))∧(Bw w W6)∧w.heap.size+1<gm):=by
   have hl:=HS5.out.2.2.2
   rw[hW9]
   exact⟨HS5.out.1.put hd,heap_other3 HS5.out.2.1 (by omega) _ _ _,below_store3 HS5.out.2.2.1 (by omega) _ _ _,HS5.out.2.2.2⟩
  rw[←hW9]
  clear hW9 hd HS5 y0 y1 y2 y3 y4 y5
  go_upto_region 7 with fail
  refine x_region follows_mixed [0,1,2,3,4,5,6,7] [8] [9] [30,31,32,33,34,35,36,37] [8] [[],[],[0,1],[],[],[3,4],[],[2,5,6]] [7] 45 #[.bool false,.slice none 0 0,.int .i64 0] W6 _ [isV (.agg #[.bool s5,.slice ao5 n5 cp5,.int .i64 e5]),isD (T1),isD (TL),isV (.agg #[.bool s5,.slice ao5 n5 cp5,.int .i64 e5]),isD (T1),isD (TP),isV (.int .i64 q),isD (Tz)] (by kernel_rfl) ⟨isV_stays _,isD_stays _,isD_stays _,isV_stays _,isD_stays _,isD_stays _,isV_stays _,isD_stays _,trivial⟩ ⟨fun _ _ _ _ _ h=>h,isD_rows8 _,isD_rows8 _,fun _ _ _ _ _ h=>h,isD_rows8 _,isD_rows8 _,fun _ _ _ _ _ h=>h,isD_rows8 _,trivial⟩ (by show ∀ s ∈ [30,31,32,33,34,35,36,37] ++ [8],s<75;decide) ?_ ?_ ?_ (fun _=>by kernel_rfl) Tryz.info45 ?_ ?_
  ·intro k' hk U u h
   obtain rfl:k'=0:=Nat.lt_one_iff.1 hk
   obtain⟨s9,ao9,n9,cp9,e9,rfl⟩:=DN.shape (show DN U u _ from h)
   exact⟨_,rfl,rfl,one3 rfl rfl⟩
  ·intro j hj o ho act U hb hoth hdep
   have hj':j<8:=hj
   have t7':act.tmps[(7:Nat)]?=some (Value.pointer (some ⟨gm,0,none⟩)):=(hoth 7 (by decide)).trans rfl
   have t5':act.tmps[(5:Nat)]?=some (Value.int .i64 q):=(hoth 5 (by decide)).trans rfl
   have d7:=(box_cells29 (HS6.out.1.later hb).1).1
   rcases(by omega:j=0∨j=1∨j=2∨j=3∨j=4∨j=5∨j=6∨j=7)with rfl|rfl|rfl|rfl|rfl|rfl|rfl|rfl
   ·obtain rfl:=Option.some.inj ho
    exact .inl ⟨rfl,owp_ldD rfl t7' d7.1 d7.2.1 d7.2.2 ⟨_,rfl,rfl,Below.refl _ _⟩⟩
   ·obtain rfl:=Option.some.inj ho
    refine .inl ⟨rfl,owp_call rfl (enters Tryz.func24 (by kernel_rfl) (by kernel_rfl)) (vs:=#[(Value.int IntKind.i64 1)]) (by simp[eval_cst]) ?_⟩
    refine(kW1.out U).mono ?_
    rintro r w' ⟨s9,ao9,n9,cp9,e9,rfl,hA9,hb'⟩
    exact⟨_,rfl,_,rfl,hA9,hb'⟩
   ·obtain rfl:=Option.some.inj ho
    have y0:act.tmps[(30:Nat)]?=_:=dV (hdep 0 (by simp[dL])) rfl
    obtain⟨u1,y10,v1⟩:=hdep 1 (by simp[dL])
    have y1:act.tmps[(31:Nat)]?=_:=y10
    refine .inl ⟨rfl,owp_call rfl (enters Tryz.func57 (by kernel_rfl) (by kernel_rfl)) (vs:=#[.agg #[.bool s5,.slice ao5 n5 cp5,.int .i64 e5],u1]) (by simp[eval_get y0,eval_get y1]) ?_⟩
    refine(kLs.out U _ _ (HS6.out.1.later hb).2 v1).mono ?_
    rintro r w' ⟨s9,ao9,n9,cp9,e9,rfl,hA9,hb'⟩
    exact⟨_,rfl,_,rfl,hA9,hb'⟩
   ·obtain rfl:=Option.some.inj ho
    exact .inl ⟨rfl,owp_ldD rfl t7' d7.1 d7.2.1 d7.2.2 ⟨_,rfl,rfl,Below.refl _ _⟩⟩
   ·obtain rfl:=Option.some.inj ho
    refine .inl ⟨rfl,owp_call rfl (enters Tryz.func24 (by kernel_rfl) (by kernel_rfl)) (vs:=#[(Value.int IntKind.i64 1)]) (by simp[eval_cst]) ?_⟩
    refine(kW1.out U).mono ?_
    rintro r w' ⟨s9,ao9,n9,cp9,e9,rfl,hA9,hb'⟩
    exact⟨_,rfl,_,rfl,hA9,hb'⟩
   ·obtain rfl:=Option.some.inj ho
    have y3:act.tmps[(33:Nat)]?=_:=dV (hdep 3 (by simp[dL])) rfl
    obtain⟨u4,y40,v4⟩:=hdep 4 (by simp[dL])
    have y4:act.tmps[(34:Nat)]?=_:=y40
    refine .inl ⟨rfl,owp_call rfl (enters Tryz.func45 (by kernel_rfl) (by kernel_rfl)) (vs:=#[.agg #[.bool s5,.slice ao5 n5 cp5,.int .i64 e5],u4]) (by simp[eval_get y3,eval_get y4]) ?_⟩
    refine(kPl.out U _ _ (HS6.out.1.later hb).2 v4).mono ?_
    rintro r w' ⟨s9,ao9,n9,cp9,e9,rfl,hA9,hb'⟩
    exact⟨_,rfl,_,rfl,hA9,hb'⟩
   ·obtain rfl:=Option.some.inj ho
    exact .inl ⟨rfl,owp_move rfl t5' ⟨_,rfl,rfl,Below.refl _ _⟩⟩
   ·obtain rfl:=Option.some.inj ho
    obtain⟨u2,y20,v2⟩:=hdep 2 (by simp[dL])
    have y2:act.tmps[(32:Nat)]?=_:=y20
    obtain⟨u5,y50,v5⟩:=hdep 5 (by simp[dL])
    have y5:act.tmps[(35:Nat)]?=_:=y50
    have y6:act.tmps[(36:Nat)]?=_:=dV (hdep 6 (by simp[dL])) rfl
    refine .inl ⟨rfl,owp_call rfl (enters Tryz.func93 (by kernel_rfl) (by kernel_rfl)) (vs:=#[u2,u5,.int .i64 q]) (by simp[eval_get y2,eval_get y5,eval_get y6]) ?_⟩
    refine(kOv.out U _ _ v2 v5).mono ?_
    rintro r w' ⟨s9,ao9,n9,cp9,e9,rfl,hA9,hb'⟩
    exact⟨_,rfl,_,rfl,hA9,hb'⟩
  ·intro k' hk
   obtain rfl:k'=0:=Nat.lt_one_iff.1 hk
   exact⟨_,rfl,rfl⟩
  ·intro k' hk
   obtain rfl:k'=0:=Nat.lt_one_iff.1 hk
   exact⟨_,rfl,rfl⟩
  ·intro u g U hb9 hu hg hap
   obtain⟨g0l,cs0,q0,z0⟩:=hg 0 (by decide)
   have q9:DN U (u 7) _:=hu 7 (by show 7<8;decide)
   have q0':u 7=.agg cs0:=q0
   rw[q0'] at q9
   obtain⟨s9,ao9,n9,cp9,e9,h9⟩:=DN.shape q9
   obtain rfl:=Value.agg.inj h9
   obtain⟨g9,hg9⟩:∃ x,x=g 0:=⟨_,rfl⟩
   rw[←hg9] at z0 g0l
   clear hu hg hap q0 q0'
   simp only[putL,show List.range 8 = [0,1,2,3,4,5,6,7] from rfl,show List.range 1 = [0] from rfl,List.length_cons,List.length_nil,List.getD_cons_zero,List.getD_cons_succ,List.map_cons,List.map_nil,List.cons_append,List.nil_append,List.foldl_cons,List.foldl_nil,Nat.reduceLT,Nat.reduceMod,Nat.reduceDiv,Nat.reduceMul,Nat.reduceAdd,Nat.reduceEqDiff,reduceIte,Nat.one_ne_zero,Act.put,List.setIfInBounds_toArray,List.set_cons_zero,List.set_cons_succ]
   rw[←hg9]
   clear hg9 
   have HS7:Hid ((NbD U g9 s9 ao9 n9 cp9 e9 (Tz))∧(U.heap[w.heap.size+1]?=some (.cells #[.bool false,.slice none 0 0,.int .i64 0,.bool false,.slice none 0 0,.int .i64 0] 47 (0,0)))∧(Bw w U)∧w.heap.size+1<g9):=⟨⟨z0,q9⟩,(hb9.block _ (Array.getElem?_eq_some_iff.1 HS6.out.2.1).1).trans HS6.out.2.1,HS6.out.2.2.1.trans (hb9.mono HS6.out.2.2.1.size),Nat.lt_of_lt_of_le (Array.getElem?_eq_some_iff.1 HS6.out.2.1).1 g0l⟩
   clear z0 q9 g0l hb9 HS6 h9
   obtain⟨gz,hr9⟩:∃ x,x=g9:=⟨_,rfl⟩
   subst hr9
   obtain⟨sz,hr9⟩:∃ x,x=s9:=⟨_,rfl⟩
   subst hr9
   obtain⟨aoz,hr9⟩:∃ x,x=ao9:=⟨_,rfl⟩
   subst hr9
   obtain⟨nz,hr9⟩:∃ x,x=n9:=⟨_,rfl⟩
   subst hr9
   obtain⟨cpz,hr9⟩:∃ x,x=cp9:=⟨_,rfl⟩
   subst hr9
   obtain⟨ez,hr9⟩:∃ x,x=e9:=⟨_,rfl⟩
   subst hr9
   clear kLs kPl kOv kW1
   obtain⟨⟨y0,y1,y2⟩,y3,y4,y5⟩:=box_cells29 HS7.out.1.1
   have kk:=kSq.out U _ _ HS7.out.1.2 HS7.out.1.2
   go_wp2_with fail
   refine kk.mono ?_
   rintro r u8 ⟨s8,ao8,n8,cp8,e8,rfl,hd,hb⟩
   clear kk
   have HS8:Hid ((NbD u8 gz sz aoz nz cpz ez (Tz))∧(u8.heap[w.heap.size+1]?=some (.cells #[.bool false,.slice none 0 0,.int .i64 0,.bool false,.slice none 0 0,.int .i64 0] 47 (0,0)))∧(Bw w u8)):=⟨HS7.out.1.later hb,(hb.block _ (Array.getElem?_eq_some_iff.1 HS7.out.2.1).1).trans HS7.out.2.1,HS7.out.2.2.1.trans (hb.mono HS7.out.2.2.1.size)⟩
   have HL8:Hid (w.heap.size+1<gz∧gz<u8.heap.size):=⟨HS7.out.2.2.2,(HS8.out.1).lt⟩
   clear hb HS7 kSq y0 y1 y2 y3 y4 y5
   obtain⟨V9,hV9⟩:∃ V,V=u8.alloc (.cells #[.bool false,.slice none 0 0,.int .i64 0] 45):=⟨_,rfl⟩
   have hbV:Bw u8 V9:=by rw[hV9];exact(Below.refl _ _).alloc (Nat.le_refl _) _
   have hzV:V9.heap[u8.heap.size]?=some (.cells #[.bool false,.slice none 0 0,.int .i64 0] 45 (0,0)):=by rw[hV9];exact heap_alloc_new _ _
   have HZ:Hid (Bw u8 V9∧V9.heap[u8.heap.size]?=some (.cells #[.bool false,.slice none 0 0,.int .i64 0] 45 (0,0))∧DN u8 (.agg #[.bool s8,.slice ao8 n8 cp8,.int .i64 e8]) (Tsq)):=⟨hbV,hzV,hd⟩
   obtain⟨⟨y0,y1,y2⟩,y3,y4,y5⟩:=box_cells29 hzV
   clear hbV hzV hd
   go_upto_region 9 with (rw[←hV9];clear hV9)
   obtain⟨gq,hg9⟩:∃ g,g=u8.heap.size:=⟨_,rfl⟩
   obtain⟨W8,hW9⟩:∃ V,V=((V9.setCell ⟨u8.heap.size,0,none⟩ (.bool s8)).setCell ⟨u8.heap.size,1,none⟩ (.slice ao8 n8 cp8)).setCell ⟨u8.heap.size,2,none⟩ (.int .i64 e8):=⟨_,rfl⟩
   have HS9:Hid ((NbD W8 gq s8 ao8 n8 cp8 e8 (Tsq))∧(NbD W8 gz sz aoz nz cpz ez (Tz))∧(W8.heap[w.heap.size+1]?=some (.cells #[.bool false,.slice none 0 0,.int .i64 0,.bool false,.slice none 0 0,.int .i64 0] 47 (0,0)))∧(Bw w W8)∧w.heap.size+1<gq):=by
    have hbu:Bw w u8:=HS8.out.2.2
    have hsz:w.heap.size+1<u8.heap.size:=(Array.getElem?_eq_some_iff.1 HS8.out.2.1).1
    have hbW:Bw u8 W8:=by rw[hW9];exact below_store3 HZ.out.1 (Nat.le_refl _) _ _ _
    refine⟨by rw[hW9,hg9];exact⟨store3_29 _ _ _ HZ.out.2.1,(HZ.out.2.2.later HZ.out.1).store3 HZ.out.2.1 _ _ _⟩,HS8.out.1.later hbW,(hbW.block _ (Array.getElem?_eq_some_iff.1 HS8.out.2.1).1).trans HS8.out.2.1,HS8.out.2.2.trans (hbW.mono HS8.out.2.2.size),by rw[hg9];exact hsz⟩
   rw[←hW9,←hg9]
   clear hW9 hg9 HZ y0 y1 y2 y3 y4 y5
   clear HS8
   refine x_region follows_mixed [0,1] [2,3] [4,5] [42,43] [10,11] [[],[]] [0,1] 45 #[.bool false,.slice none 0 0,.int .i64 0] W8 _ [isV (.agg #[.bool false,.slice none 0 0,.int .i64 0]),isV (.agg #[.bool sz,.slice aoz nz cpz,.int .i64 ez])] (by kernel_rfl) ⟨isV_stays _,isV_stays _,trivial⟩ ⟨fun _ _ _ _ _ h=>h,fun _ _ _ _ _ h=>h,trivial⟩ (by show ∀ s ∈ [42,43] ++ [10,11],s<75;decide) ?_ ?_ ?_ (fun _=>by kernel_rfl) Tryz.info45 ?_ ?_
   ·intro k' hk U9 u h
    rcases(by have:k'<2:=hk;omega:k'=0∨k'=1)with rfl|rfl
    ·have h9:u=.agg #[.bool false,.slice none 0 0,.int .i64 0]:=h
     subst h9
     exact⟨_,rfl,rfl,one3 rfl rfl⟩
    ·have h9:u=.agg #[.bool sz,.slice aoz nz cpz,.int .i64 ez]:=h
     subst h9
     exact⟨_,rfl,rfl,one3 rfl rfl⟩
   ·intro j hj ob ho act U9 hb hoth hdep
    have t8':act.tmps[(8:Nat)]?=some (Value.pointer (some ⟨gz,0,none⟩)):=(hoth 8 (by decide)).trans rfl
    have d8:=(box_cells29 ((HS9.out.2.1).later hb).1).1
    rcases(by have:j<2:=hj;omega:j=0∨j=1)with rfl|rfl
    ·obtain rfl:=Option.some.inj ho
     exact .inl ⟨rfl,owp_run1 (w':=U9) (by kernel_rfl) ⟨_,rfl,rfl,Below.refl _ _⟩⟩
    ·obtain rfl:=Option.some.inj ho
     exact .inl ⟨rfl,owp_ldD rfl t8' d8.1 d8.2.1 d8.2.2 ⟨_,rfl,rfl,Below.refl _ _⟩⟩
   ·intro k' hk
    rcases(by have:k'<2:=hk;omega:k'=0∨k'=1)with rfl|rfl <;> exact⟨_,rfl,rfl⟩
   ·intro k' hk
    rcases(by have:k'<2:=hk;omega:k'=0∨k'=1)with rfl|rfl <;> exact⟨_,rfl,rfl⟩
   ·intro u g U9 hb9 hu hg hap
    obtain⟨g0l,cs0,q0,z0⟩:=hg 0 (by decide)
    obtain⟨g1l,cs1,q1,z1⟩:=hg 1 (by decide)
    have q8:u 0=.agg #[.bool false,.slice none 0 0,.int .i64 0]:=hu 0 (by decide)
    have q7:u 1=.agg #[.bool sz,.slice aoz nz cpz,.int .i64 ez]:=hu 1 (by decide)
    have q0':u 0=.agg cs0:=q0
    have q1':u 1=.agg cs1:=q1
    rw[q8] at q0'
    rw[q7] at q1'
    obtain rfl:=Value.agg.inj q0'.symm
    obtain rfl:=Value.agg.inj q1'.symm
    have hne:=hap 0 1 (by decide) (by decide) (by decide)
    obtain⟨gs,hgs⟩:∃ x,x=g 0:=⟨_,rfl⟩
    obtain⟨gt,hgt⟩:∃ x,x=g 1:=⟨_,rfl⟩
    rw[←hgs] at z0 g0l hne
    rw[←hgt] at z1 g1l hne
    have HI0:Hid ((NbD U9 gq s8 ao8 n8 cp8 e8 (Tsq))∧(NbD U9 gs false none 0 0 0 (ss 0))∧(NbD U9 gt sz aoz nz cpz ez (ts 0))∧(U9.heap[w.heap.size+1]?=some (.cells #[.bool false,.slice none 0 0,.int .i64 0,.bool false,.slice none 0 0,.int .i64 0] 47 (0,0)))∧(Bw w U9)):=by
     refine⟨(HS9.out.1).later hb9,⟨z0,?_⟩,⟨z1,?_⟩,(hb9.block _ (Array.getElem?_eq_some_iff.1 HS9.out.2.2.1).1).trans HS9.out.2.2.1,HS9.out.2.2.2.1.trans (hb9.mono HS9.out.2.2.2.1.size)⟩
     ·rw[h0];exact gdn0 _
     ·rw[h0t];exact((HS9.out.2.1).later hb9).2
    have HO:Hid (w.heap.size+1<gq∧gq<gs∧gq<gt∧gs≠gt):=⟨HS9.out.2.2.2.2,Nat.lt_of_lt_of_le (HS9.out.1).lt g0l,Nat.lt_of_lt_of_le (HS9.out.1).lt g1l,hne⟩
    clear z0 z1 g0l g1l hb9 HS9 HL8 hg hap hne q0 q1 q8 q7 q0' q1' hu
    simp only[putL,show List.range 2 = [0,1] from rfl,List.length_cons,List.length_nil,List.getD_cons_zero,List.getD_cons_succ,List.map_cons,List.map_nil,List.cons_append,List.nil_append,List.foldl_cons,List.foldl_nil,Nat.reduceLT,Nat.reduceMod,Nat.reduceDiv,Nat.reduceMul,Nat.reduceAdd,Nat.reduceEqDiff,reduceIte,Nat.one_ne_zero,Act.put,List.setIfInBounds_toArray,List.set_cons_succ,List.set_cons_zero]
    rw[←hgs,←hgt]
    clear hgs hgt
    go_wp2_with fail
    go_loopw [12] (fun iv wr=>∃ (j:Nat) (sX:Bool) (aoX:Option Addr) (nX cpX:Nat) (eX:Int) (sY:Bool) (aoY:Option Addr) (nY cpY:Nat) (eY:Int),iv=.int .i64 (2*(j:Int)+1)∧j≤J∧Hid ((NbD wr gq s8 ao8 n8 cp8 e8 (Tsq))∧(NbD wr gs sX aoX nX cpX eX (ss j))∧(NbD wr gt sY aoY nY cpY eY (ts j))∧(wr.heap[w.heap.size+1]?=some (.cells #[.bool false,.slice none 0 0,.int .i64 0,.bool false,.slice none 0 0,.int .i64 0] 47 (0,0)))∧(Bw w wr))) (fun iv _=>J - ((intOf iv).toNat) / 2)
    case atStart=>exact⟨0,_,_,_,_,_,_,_,_,_,_,rfl,by omega,HI0.out⟩
    case round =>
     obtain⟨jx,sX,aoX,nX,cpX,eX,sY,aoY,nY,cpY,eY,rfl,hj,HI⟩:=hrel
     clear HI0
     obtain⟨⟨y0,y1,y2⟩,y3,y4,y5⟩:=box_cells29 HI.out.2.2.1.1
     have kk:=kLe.out jx wr _ hj HI.out.2.2.1.2
     go_wp2_with fail
     refine kk.mono ?_
     rintro r v2 ⟨rfl,hb⟩
     clear kk
     have HI2:Hid ((NbD v2 gq s8 ao8 n8 cp8 e8 (Tsq))∧(NbD v2 gs sX aoX nX cpX eX (ss jx))∧(NbD v2 gt sY aoY nY cpY eY (ts jx))∧(v2.heap[w.heap.size+1]?=some (.cells #[.bool false,.slice none 0 0,.int .i64 0,.bool false,.slice none 0 0,.int .i64 0] 47 (0,0)))∧(Bw w v2)):=⟨HI.out.1.later hb,HI.out.2.1.later hb,HI.out.2.2.1.later hb,(hb.block _ (Array.getElem?_eq_some_iff.1 HI.out.2.2.2.1).1).trans HI.out.2.2.2.1,HI.out.2.2.2.2.trans (hb.mono HI.out.2.2.2.2.size)⟩
     clear hb HI y0 y1 y2 y3 y4 y5
     by_cases hjJ:jx=J
     ·have hd:decide (jx=J)=true:=decide_eq_true hjJ
      subst hjJ
      have HE:Hid ((NbD v2 gs sX aoX nX cpX eX (ss jx))∧(v2.heap[w.heap.size+1]?=some (.cells #[.bool false,.slice none 0 0,.int .i64 0,.bool false,.slice none 0 0,.int .i64 0] 47 (0,0)))∧(Bw w v2)):=⟨HI2.out.2.1,HI2.out.2.2.2.1,HI2.out.2.2.2.2⟩
      clear HI2 kI kO kP kM kLe
      obtain⟨⟨y0,y1,y2⟩,y3,y4,y5⟩:=box_cells29 HE.out.1.1
      have kk:=kSc.out v2 _ HE.out.1.2
      go_wp2_with fail
      refine kk.mono ?_
      rintro r v3 ⟨s3,ao3,n3,cp3,e3,rfl,hd,hb⟩
      clear kk
      have HE3:Hid ((NbD v3 gs sX aoX nX cpX eX (ss jx))∧(v3.heap[w.heap.size+1]?=some (.cells #[.bool false,.slice none 0 0,.int .i64 0,.bool false,.slice none 0 0,.int .i64 0] 47 (0,0)))∧(Bw w v3)):=⟨HE.out.1.later hb,(hb.block _ (Array.getElem?_eq_some_iff.1 HE.out.2.1).1).trans HE.out.2.1,HE.out.2.2.trans (hb.mono HE.out.2.2.size)⟩
      clear hb HE kSc y0 y1 y2 y3 y4 y5
      obtain⟨⟨y0,y1,y2⟩,y3,y4,y5⟩:=box_cells29 HE3.out.1.1
      go_upto_region 16 with fail
      obtain⟨V4,hW9⟩:∃ V,V=((v3.setCell ⟨gs,0,none⟩ (.bool s3)).setCell ⟨gs,1,none⟩ (.slice ao3 n3 cp3)).setCell ⟨gs,2,none⟩ (.int .i64 e3):=⟨_,rfl⟩
      have HE4:Hid ((NbD V4 gs s3 ao3 n3 cp3 e3 (TS))∧(V4.heap[w.heap.size+1]?=some (.cells #[.bool false,.slice none 0 0,.int .i64 0,.bool false,.slice none 0 0,.int .i64 0] 47 (0,0)))∧(Bw w V4)):=by
       have hl:=HO.out
       rw[hW9]
       exact⟨HE3.out.1.put hd,heap_other3 HE3.out.2.1 (by omega) _ _ _,below_store3 HE3.out.2.2 (by omega) _ _ _⟩
      rw[←hW9]
      clear hW9 hd HE3 y0 y1 y2 y3 y4 y5
      go_upto_region 17 with fail
      have hbx:∀ i,i<1→∃ cs T,V4.heap[(fun _=>gs:Nat→Nat) i]?=some (.cells cs T (0,0))∧NumC cs:=fun i hi=>⟨_,_,HE4.out.1.1,_,_,_,_,_,rfl⟩
      refine q_region follows_mixed [0,1,2,3,4,5,6] [7] [65,66,67,68,69,70,71] [[],[],[1],[],[3],[2,4],[0,5]] [[0,6]] [6] (fun _=>10) (fun _=>gs) (gs) 45 NC3 3 V4 _ [isV (.agg #[.bool s3,.slice ao3 n3 cp3,.int .i64 e3]),isV (.int .i64 3),isD (T3),isV (.int .i64 q),isD (Tl),isD (Tt),isD (TR)] (by kernel_rfl) ⟨isV_stays _,isV_stays _,isD_stays _,isV_stays _,isD_stays _,isD_stays _,isD_stays _,trivial⟩ ⟨isV_rows _ _ _,isV_rows _ _ _,isD_rows3 _,isV_rows _ _ _,isD_rows3 _,isD_rows3 _,isD_rows3 _,trivial⟩ (by show ∀ s ∈ [65,66,67,68,69,70,71],s<75;decide) ?_ ?_ Tryz.info45 ?_ ?_ ?_ ?_ (Nat.le_of_lt HE4.out.1.lt) ?_
      ·intro i hi U u h
       obtain rfl:i=0:=Nat.lt_one_iff.1 hi
       obtain⟨s9,ao9,n9,cp9,e9,rfl⟩:=DN.shape (show DN U u _ from h)
       exact⟨_,rfl,rfl,⟨_,_,_,_,_,rfl⟩,one3 rfl rfl⟩
      ·intro j hj o ho act U hK hoth hdep hrd
       have hj':j<7:=hj
       have t10':act.tmps[(10:Nat)]?=some (Value.pointer (some ⟨gs,0,none⟩)):=(hoth 10 (by decide)).trans rfl
       have t5':act.tmps[(5:Nat)]?=some (Value.int .i64 q):=(hoth 5 (by decide)).trans rfl
       have t6':act.tmps[(6:Nat)]?=some (Value.int .i64 3):=(hoth 6 (by decide)).trans rfl
       rcases(by omega:j=0∨j=1∨j=2∨j=3∨j=4∨j=5∨j=6)with rfl|rfl|rfl|rfl|rfl|rfl|rfl
       ·obtain rfl:=Option.some.inj ho
        have d10:=(box_cells29 ((hrd 0 (by decide) (by simp[dL])).trans HE4.out.1.1)).1
        exact .inl ⟨rfl,owp_ldD rfl t10' d10.1 d10.2.1 d10.2.2 ⟨_,rfl,rfl,Below.refl _ _⟩⟩
       ·obtain rfl:=Option.some.inj ho
        exact .inl ⟨rfl,owp_move rfl t6' ⟨_,rfl,rfl,Below.refl _ _⟩⟩
       ·obtain rfl:=Option.some.inj ho
        have y1:act.tmps[(66:Nat)]?=_:=dV (hdep 1 (by simp[dL])) rfl
        refine .inl ⟨rfl,owp_call rfl (enters Tryz.func24 (by kernel_rfl) (by kernel_rfl)) (vs:=#[.int .i64 3]) (by simp[eval_get y1]) ?_⟩
        refine(kW3.out U).mono ?_
        rintro r w' ⟨s9,ao9,n9,cp9,e9,rfl,hA9,hb'⟩
        exact⟨_,rfl,_,rfl,hA9,hb'⟩
       ·obtain rfl:=Option.some.inj ho
        exact .inl ⟨rfl,owp_move rfl t5' ⟨_,rfl,rfl,Below.refl _ _⟩⟩
       ·obtain rfl:=Option.some.inj ho
        have y3:act.tmps[(68:Nat)]?=_:=dV (hdep 3 (by simp[dL])) rfl
        refine .inl ⟨rfl,owp_call rfl (enters Tryz.func42 (by kernel_rfl) (by kernel_rfl)) (vs:=#[.int .i64 q]) (by simp[eval_get y3]) ?_⟩
        refine(kln.out U).mono ?_
        rintro r w' ⟨s9,ao9,n9,cp9,e9,rfl,hA9,hb'⟩
        exact⟨_,rfl,_,rfl,hA9,hb'⟩
       ·obtain rfl:=Option.some.inj ho
        obtain⟨u2,y20,v2⟩:=hdep 2 (by simp[dL])
        have y2:act.tmps[(67:Nat)]?=_:=y20
        obtain⟨u4,y40,v4⟩:=hdep 4 (by simp[dL])
        have y4:act.tmps[(69:Nat)]?=_:=y40
        refine .inl ⟨rfl,owp_call rfl (enters Tryz.func33 (by kernel_rfl) (by kernel_rfl)) (vs:=#[u2,u4]) (by simp[eval_get y2,eval_get y4]) ?_⟩
        refine(kT.out U _ _ v2 v4).mono ?_
        rintro r w' ⟨s9,ao9,n9,cp9,e9,rfl,hA9,hb'⟩
        exact⟨_,rfl,_,rfl,hA9,hb'⟩
       ·obtain rfl:=Option.some.inj ho
        have y0:act.tmps[(65:Nat)]?=_:=dV (hdep 0 (by simp[dL])) rfl
        obtain⟨u5,y50,v5⟩:=hdep 5 (by simp[dL])
        have y5:act.tmps[(70:Nat)]?=_:=y50
        refine .inl ⟨rfl,owp_call rfl (enters Tryz.func45 (by kernel_rfl) (by kernel_rfl)) (vs:=#[.agg #[.bool s3,.slice ao3 n3 cp3,.int .i64 e3],u5]) (by simp[eval_get y0,eval_get y5]) ?_⟩
        refine(kP2.out U _ _ (HE4.out.1.2.kept hK hbx) v5).mono ?_
        rintro r w' ⟨s9,ao9,n9,cp9,e9,rfl,hA9,hb'⟩
        exact⟨_,rfl,_,rfl,hA9,hb'⟩
      ·intro i hi
       obtain rfl:i=0:=Nat.lt_one_iff.1 hi
       exact⟨_,rfl,rfl⟩
      ·intro i hi
       exact⟨rfl,by decide⟩
      ·intro i hi
       exact⟨by show gs≤gs;omega,_,HE4.out.1.1,rfl,_,_,_,_,_,rfl⟩
      ·intro i i' hi hi' _
       exact(Nat.lt_one_iff.1 hi).trans (Nat.lt_one_iff.1 hi').symm
      ·intro u U hK hu hcs
       obtain⟨csa,ya,z9⟩:=hcs 0 (by decide)
       have q9:DN U (u 6) _:=hu 6 (by show 6<7;decide)
       have ya':u 6=.agg csa:=ya
       rw[ya'] at q9
       obtain⟨s9,ao9,n9,cp9,e9,h9⟩:=DN.shape q9
       obtain rfl:=Value.agg.inj h9
       clear hu hcs ya ya'
       simp only[putL,show List.range 7 = [0,1,2,3,4,5,6] from rfl,List.length_cons,List.length_nil,List.getD_cons_zero,List.getD_cons_succ,List.map_cons,List.map_nil,List.cons_append,List.nil_append,List.foldl_cons,List.foldl_nil,Nat.reduceLT,Nat.reduceMod,Nat.reduceDiv,Nat.reduceMul,Nat.reduceAdd,Nat.reduceEqDiff,reduceIte,Nat.one_ne_zero,Act.put,List.setIfInBounds_toArray,List.set_cons_zero,List.set_cons_succ]
       have hl:=HO.out
       have HE5:Hid ((NbD U gs s9 ao9 n9 cp9 e9 (TR))∧(U.heap[w.heap.size+1]?=some (.cells #[.bool false,.slice none 0 0,.int .i64 0,.bool false,.slice none 0 0,.int .i64 0] 47 (0,0)))∧(Bw w U)):=⟨⟨z9,q9⟩,(hK.keep _ (Array.getElem?_eq_some_iff.1 HE4.out.2.1).1 (fun i hi=>by show w.heap.size+1≠gs;omega)).trans HE4.out.2.1,HE4.out.2.2.trans (hK.below.mono (by omega))⟩
       clear hl hK z9 q9 HE4 h9 hbx
       obtain⟨⟨y0,y1,y2⟩,y3,y4,y5⟩:=box_cells29 HE5.out.1.1
       have kk:=kA.out U _ HE5.out.1.2
       go_wp2_with fail
       refine kk.mono ?_
       rintro r v6 ⟨U6,rfl,⟨s1,ao1,n1,cp1,e1,s2,ao2,n2,cp2,e2,rfl,hd1,hd2⟩,hb⟩
       clear kk y0 y1 y2 y3 y4 y5
       have HF:Hid ((v6.heap[w.heap.size+1]?=some (.cells #[.bool false,.slice none 0 0,.int .i64 0,.bool false,.slice none 0 0,.int .i64 0] 47 (0,0)))∧(Bw w v6)∧DN v6 (.agg #[.bool s1,.slice ao1 n1 cp1,.int .i64 e1]) UL∧DN v6 (.agg #[.bool s2,.slice ao2 n2 cp2,.int .i64 e2]) UH):=⟨(hb.block _ (Array.getElem?_eq_some_iff.1 HE5.out.2.1).1).trans HE5.out.2.1,HE5.out.2.2.trans (hb.mono HE5.out.2.2.size),hd1,hd2⟩
       clear hd1 hd2 hb HE5
       obtain⟨⟨y0,y1,y2,y3,y4,y5⟩,f0,f1,f2,f3,f4,f5⟩:=box_cells6 HF.out.1
       go_wp2_with fail
       obtain⟨d,hd1,hd2⟩:=undB
       refine bodyPost_ret (results_cell_row rfl _ _ (w.heap.size+1) 47 _ (0,0) d rfl (store6 _ _ _ _ _ _ HF.out.1) hd1 (by cases d <;> exact hd2) (by kernel_rfl)) rfl ?_
       exact⟨_,rfl,⟨_,_,_,_,_,_,_,_,_,_,rfl,HF.out.2.2.1.store6 HF.out.1 _ _ _ _ _ _,HF.out.2.2.2.store6 HF.out.1 _ _ _ _ _ _⟩,below_store6 HF.out.2.1 (by omega) _ _ _ _ _ _⟩
     ·have hd:decide (jx=J)=false:=decide_eq_false hjJ
      have HLT:Hid (jx<J):=(by omega:jx<J)
      clear kSc kT kP2 kA kln
      go_upto_region 13 with fail
      have hbx:∀ i,i<1→∃ cs T,v2.heap[(fun _=>gs:Nat→Nat) i]?=some (.cells cs T (0,0))∧NumC cs:=fun i hi=>⟨_,_,HI2.out.2.1.1,_,_,_,_,_,rfl⟩
      refine q_region follows_mixed [0,1,2,3,4,5,6] [7] [50,51,52,53,54,55,56] [[],[],[],[2],[],[1,3,4],[0,5]] [[0,6]] [6] (fun _=>10) (fun _=>gs) ((w.heap.size+1)) 45 NC3 3 v2 _ [isV (.agg #[.bool sX,.slice aoX nX cpX,.int .i64 eX]),isV (.agg #[.bool sY,.slice aoY nY cpY,.int .i64 eY]),isV (.int .i64 (2*(jx:Int)+1)),isD (Tk jx),isV (.int .i64 q),isD (tt jx),isD (ss (jx+1))] (by kernel_rfl) ⟨isV_stays _,isV_stays _,isV_stays _,isD_stays _,isV_stays _,isD_stays _,isD_stays _,trivial⟩ ⟨isV_rows _ _ _,isV_rows _ _ _,isV_rows _ _ _,isD_rows3 _,isV_rows _ _ _,isD_rows3 _,isD_rows3 _,trivial⟩ (by show ∀ s ∈ [50,51,52,53,54,55,56],s<75;decide) ?_ ?_ Tryz.info45 ?_ ?_ ?_ ?_ (Nat.le_of_lt (by have:=HO.out;have:=HI2.out.2.1.lt;omega)) ?_
      ·intro i hi U u h
       obtain rfl:i=0:=Nat.lt_one_iff.1 hi
       obtain⟨s9,ao9,n9,cp9,e9,rfl⟩:=DN.shape (show DN U u _ from h)
       exact⟨_,rfl,rfl,⟨_,_,_,_,_,rfl⟩,one3 rfl rfl⟩
      ·intro j hj o ho act U hK hoth hdep hrd
       have hj':j<7:=hj
       have t10':act.tmps[(10:Nat)]?=some (Value.pointer (some ⟨gs,0,none⟩)):=(hoth 10 (by decide)).trans rfl
       have t11':act.tmps[(11:Nat)]?=some (Value.pointer (some ⟨gt,0,none⟩)):=(hoth 11 (by decide)).trans rfl
       have t5':act.tmps[(5:Nat)]?=some (Value.int .i64 q):=(hoth 5 (by decide)).trans rfl
       have t12':act.tmps[(12:Nat)]?=some (Value.int .i64 (2*(jx:Int)+1)):=(hoth 12 (by decide)).trans rfl
       have dT:U.heap[gt]?=some (.cells #[.bool sY,.slice aoY nY cpY,.int .i64 eY] 45 (0,0)):=(hK.keep gt (by have:=HI2.out.2.2.1.lt;have:=HO.out;omega) (fun i hi=>by show gt≠gs;have:=HO.out;omega)).trans HI2.out.2.2.1.1
       have d11:=(box_cells29 dT).1
       rcases(by omega:j=0∨j=1∨j=2∨j=3∨j=4∨j=5∨j=6)with rfl|rfl|rfl|rfl|rfl|rfl|rfl
       ·obtain rfl:=Option.some.inj ho
        have d10:=(box_cells29 ((hrd 0 (by decide) (by simp[dL])).trans HI2.out.2.1.1)).1
        exact .inl ⟨rfl,owp_ldD rfl t10' d10.1 d10.2.1 d10.2.2 ⟨_,rfl,rfl,Below.refl _ _⟩⟩
       ·obtain rfl:=Option.some.inj ho
        exact .inl ⟨rfl,owp_ldD rfl t11' d11.1 d11.2.1 d11.2.2 ⟨_,rfl,rfl,Below.refl _ _⟩⟩
       ·obtain rfl:=Option.some.inj ho
        exact .inl ⟨rfl,owp_move rfl t12' ⟨_,rfl,rfl,Below.refl _ _⟩⟩
       ·obtain rfl:=Option.some.inj ho
        have y2:act.tmps[(52:Nat)]?=_:=dV (hdep 2 (by simp[dL])) rfl
        refine .inl ⟨rfl,owp_call rfl (enters Tryz.func24 (by kernel_rfl) (by kernel_rfl)) (vs:=#[.int .i64 (2*(jx:Int)+1)]) (by simp[eval_get y2]) ?_⟩
        refine(kI.out jx U HLT.out).mono ?_
        rintro r w' ⟨s9,ao9,n9,cp9,e9,rfl,hA9,hb'⟩
        exact⟨_,rfl,_,rfl,hA9,hb'⟩
       ·obtain rfl:=Option.some.inj ho
        exact .inl ⟨rfl,owp_move rfl t5' ⟨_,rfl,rfl,Below.refl _ _⟩⟩
       ·obtain rfl:=Option.some.inj ho
        have y1:act.tmps[(51:Nat)]?=_:=dV (hdep 1 (by simp[dL])) rfl
        obtain⟨u3,y30,v3⟩:=hdep 3 (by simp[dL])
        have y3:act.tmps[(53:Nat)]?=_:=y30
        have y4:act.tmps[(54:Nat)]?=_:=dV (hdep 4 (by simp[dL])) rfl
        refine .inl ⟨rfl,owp_call rfl (enters Tryz.func93 (by kernel_rfl) (by kernel_rfl)) (vs:=#[.agg #[.bool sY,.slice aoY nY cpY,.int .i64 eY],u3,.int .i64 q]) (by simp[eval_get y1,eval_get y3,eval_get y4]) ?_⟩
        refine(kO.out jx U _ _ HLT.out (HI2.out.2.2.1.2.kept hK hbx) v3).mono ?_
        rintro r w' ⟨s9,ao9,n9,cp9,e9,rfl,hA9,hb'⟩
        exact⟨_,rfl,_,rfl,hA9,hb'⟩
       ·obtain rfl:=Option.some.inj ho
        have y0:act.tmps[(50:Nat)]?=_:=dV (hdep 0 (by simp[dL])) rfl
        obtain⟨u5,y50,v5⟩:=hdep 5 (by simp[dL])
        have y5:act.tmps[(55:Nat)]?=_:=y50
        refine .inl ⟨rfl,owp_call rfl (enters Tryz.func45 (by kernel_rfl) (by kernel_rfl)) (vs:=#[.agg #[.bool sX,.slice aoX nX cpX,.int .i64 eX],u5]) (by simp[eval_get y0,eval_get y5]) ?_⟩
        refine(kP.out jx U _ _ HLT.out (HI2.out.2.1.2.kept hK hbx) v5).mono ?_
        rintro r w' ⟨s9,ao9,n9,cp9,e9,rfl,hA9,hb'⟩
        exact⟨_,rfl,_,rfl,hA9,hb'⟩
      ·intro i hi
       obtain rfl:i=0:=Nat.lt_one_iff.1 hi
       exact⟨_,rfl,rfl⟩
      ·intro i hi
       exact⟨rfl,by decide⟩
      ·intro i hi
       exact⟨by show w.heap.size+1≤gs;have:=HO.out;omega,_,HI2.out.2.1.1,rfl,_,_,_,_,_,rfl⟩
      ·intro i i' hi hi' _
       exact(Nat.lt_one_iff.1 hi).trans (Nat.lt_one_iff.1 hi').symm
      ·intro u U hK hu hcs
       obtain⟨csa,ya,z9⟩:=hcs 0 (by decide)
       have q9:DN U (u 6) _:=hu 6 (by show 6<7;decide)
       have ya':u 6=.agg csa:=ya
       rw[ya'] at q9
       obtain⟨s9,ao9,n9,cp9,e9,h9⟩:=DN.shape q9
       obtain rfl:=Value.agg.inj h9
       clear hu hcs ya ya'
       simp only[putL,show List.range 7 = [0,1,2,3,4,5,6] from rfl,List.length_cons,List.length_nil,List.getD_cons_zero,List.getD_cons_succ,List.map_cons,List.map_nil,List.cons_append,List.nil_append,List.foldl_cons,List.foldl_nil,Nat.reduceLT,Nat.reduceMod,Nat.reduceDiv,Nat.reduceMul,Nat.reduceAdd,Nat.reduceEqDiff,reduceIte,Nat.one_ne_zero,Act.put,List.setIfInBounds_toArray,List.set_cons_zero,List.set_cons_succ]
       have hl:=HO.out
       have HI3:Hid ((NbD U gq s8 ao8 n8 cp8 e8 (Tsq))∧(NbD U gs s9 ao9 n9 cp9 e9 (ss (jx+1)))∧(NbD U gt sY aoY nY cpY eY (ts jx))∧(U.heap[w.heap.size+1]?=some (.cells #[.bool false,.slice none 0 0,.int .i64 0,.bool false,.slice none 0 0,.int .i64 0] 47 (0,0)))∧(Bw w U)):=⟨⟨(hK.keep _ (by have:=HI2.out.1.lt;omega) (fun i hi=>by show gq≠gs;omega)).trans HI2.out.1.1,HI2.out.1.2.kept hK hbx⟩,⟨z9,q9⟩,⟨(hK.keep _ (by have:=HI2.out.2.2.1.lt;omega) (fun i hi=>by show gt≠gs;omega)).trans HI2.out.2.2.1.1,HI2.out.2.2.1.2.kept hK hbx⟩,(hK.keep _ (by have:=HI2.out.2.1.lt;omega) (fun i hi=>by show w.heap.size+1≠gs;omega)).trans HI2.out.2.2.2.1,HI2.out.2.2.2.2.trans (hK.below.mono (by omega))⟩
       clear hl hK z9 q9 HI2 h9 hbx
       obtain⟨s7,hr9⟩:∃ x,x=s9:=⟨_,rfl⟩
       subst hr9
       obtain⟨ao7,hr9⟩:∃ x,x=ao9:=⟨_,rfl⟩
       subst hr9
       obtain⟨n7,hr9⟩:∃ x,x=n9:=⟨_,rfl⟩
       subst hr9
       obtain⟨cp7,hr9⟩:∃ x,x=cp9:=⟨_,rfl⟩
       subst hr9
       obtain⟨e7,hr9⟩:∃ x,x=e9:=⟨_,rfl⟩
       subst hr9
       obtain⟨⟨y0,y1,y2⟩,-⟩:=box_cells29 HI3.out.2.2.1.1
       obtain⟨⟨z0,z1,z2⟩,-⟩:=box_cells29 HI3.out.1.1
       have kk:=kM.out jx U _ _ HLT.out HI3.out.2.2.1.2 HI3.out.1.2
       go_wp2_with fail
       refine kk.mono ?_
       rintro r v5 ⟨s4,ao4,n4,cp4,e4,rfl,hd,hb⟩
       clear kk
       have HI5:Hid ((NbD v5 gq s8 ao8 n8 cp8 e8 (Tsq))∧(NbD v5 gs s7 ao7 n7 cp7 e7 (ss (jx+1)))∧(NbD v5 gt sY aoY nY cpY eY (ts jx))∧(v5.heap[w.heap.size+1]?=some (.cells #[.bool false,.slice none 0 0,.int .i64 0,.bool false,.slice none 0 0,.int .i64 0] 47 (0,0)))∧(Bw w v5)):=⟨HI3.out.1.later hb,HI3.out.2.1.later hb,HI3.out.2.2.1.later hb,(hb.block _ (Array.getElem?_eq_some_iff.1 HI3.out.2.2.2.1).1).trans HI3.out.2.2.2.1,HI3.out.2.2.2.2.trans (hb.mono HI3.out.2.2.2.2.size)⟩
       clear hb HI3 kM kI kO kP y0 y1 y2 z0 z1 z2
       obtain⟨⟨y0,y1,y2⟩,y3,y4,y5⟩:=box_cells29 HI5.out.2.2.1.1
       obtain⟨v6,hW9⟩:∃ V,V=((v5.setCell ⟨gt,0,none⟩ (.bool s4)).setCell ⟨gt,1,none⟩ (.slice ao4 n4 cp4)).setCell ⟨gt,2,none⟩ (.int .i64 e4):=⟨_,rfl⟩
       have HI6:Hid ((NbD v6 gq s8 ao8 n8 cp8 e8 (Tsq))∧(NbD v6 gs s7 ao7 n7 cp7 e7 (ss (jx+1)))∧(NbD v6 gt s4 ao4 n4 cp4 e4 (ts (jx+1)))∧(v6.heap[w.heap.size+1]?=some (.cells #[.bool false,.slice none 0 0,.int .i64 0,.bool false,.slice none 0 0,.int .i64 0] 47 (0,0)))∧(Bw w v6)):=by
        have hl:=HO.out
        rw[hW9]
        exact⟨HI5.out.1.other HI5.out.2.2.1.1 (by omega) _ _ _,HI5.out.2.1.other HI5.out.2.2.1.1 (by omega) _ _ _,HI5.out.2.2.1.put hd,heap_other3 HI5.out.2.2.2.1 (by omega) _ _ _,below_store3 HI5.out.2.2.2.2 (by omega) _ _ _⟩
       have hw2:IntKind.i64.wrap (2*(jx:Int)+1+2)=2*((jx+1:Nat):Int)+1:=by rw[IntKind.wrap_i64];have:=HLT.out;omega
       clear HI5
       go_wp2_with fail
       rw[←hW9]
       clear hW9
       exact⟨⟨jx+1,_,_,_,_,_,_,_,_,_,_,rfl,by have:=HLT.out;omega,HI6⟩,by have:=HLT.out;simp[intOf];omega⟩
end Go.Proofs.YtapooodfgcjoaaaGreat
namespace Go.Proofs.YtapooodfgcjoaaaGreat
open Go.RowKit
structure IB (Z p:Nat) (x M:Int) (G:Nat):Prop where
 low:(x - G)*((2^(Z - p):Nat):Int)≤M
 high:M≤(x+G)*((2^(Z - p):Nat):Int)
theorem ib_add {x y M N G H P:Int} (a1:(x - G)*P≤M) (a2:M≤(x+G)*P) (b1:(y - H)*P≤N) (b2:N≤(y+H)*P):(x+y - (G+H))*P≤M+N∧M+N≤(x+y+(G+H))*P:=by
 constructor
 ·rw[show(x+y - (G+H))*P=(x - G)*P+(y - H)*P by rw[←Int.add_mul];congr 1;omega];omega
 ·rw[show(x+y+(G+H))*P=(x+G)*P+(y+H)*P by rw[←Int.add_mul];congr 1;omega];omega
theorem ib_sub {x y M N G H P:Int} (a1:(x - G)*P≤M) (a2:M≤(x+G)*P) (b1:(y - H)*P≤N) (b2:N≤(y+H)*P):(x - y - (G+H))*P≤M - N∧M - N≤(x - y+(G+H))*P:=by
 constructor
 ·rw[show(x - y - (G+H))*P=(x - G)*P - (y+H)*P by rw[←Int.sub_mul];congr 1;omega];omega
 ·rw[show(x - y+(G+H))*P=(x+G)*P - (y - H)*P by rw[←Int.sub_mul];congr 1;omega];omega
theorem ib_mul {k x M G P:Int} (hk:0≤k) (a1:(x - G)*P≤M) (a2:M≤(x+G)*P):(k*x - k*G)*P≤k*M∧k*M≤(k*x+k*G)*P:=by
 constructor
 ·rw[show(k*x - k*G)*P=k*((x - G)*P) by rw[←Int.mul_assoc,Int.mul_sub]]
  exact Int.mul_le_mul_of_nonneg_left a1 hk
 ·rw[show(k*x+k*G)*P=k*((x+G)*P) by rw[←Int.mul_assoc,Int.mul_add]]
  exact Int.mul_le_mul_of_nonneg_left a2 hk
theorem ib_wide {x M G H P:Int} (hP:0≤P) (hG:G≤H) (a1:(x - G)*P≤M) (a2:M≤(x+G)*P):(x - H)*P≤M∧M≤(x+H)*P :=
 ⟨Int.le_trans (Int.mul_le_mul_of_nonneg_right (by omega) hP) a1,Int.le_trans a2 (Int.mul_le_mul_of_nonneg_right (by omega) hP)⟩
theorem ib_near {x M N G H E P:Int} (h1:M - N≤E) (h2:N - M≤E) (hH:E≤H*P) (a1:(x - G)*P≤M) (a2:M≤(x+G)*P):(x - (G+H))*P≤N∧N≤(x+(G+H))*P:=by
 constructor
 ·rw[show(x - (G+H))*P=(x - G)*P - H*P by rw[←Int.sub_mul];congr 1;omega];omega
 ·rw[show(x+(G+H))*P=(x+G)*P+H*P by rw[←Int.add_mul];congr 1;omega];omega
theorem IB.add {Z p:Nat} {x y M N:Int} {G H:Nat} (h1:IB Z p x M G) (h2:IB Z p y N H):IB Z p (x+y) (M+N) (G+H):=by
 have h:=ib_add h1.low h1.high h2.low h2.high
 exact⟨by rw[Int.natCast_add];exact h.1,by rw[Int.natCast_add];exact h.2⟩
theorem IB.sub {Z p:Nat} {x y M N:Int} {G H:Nat} (h1:IB Z p x M G) (h2:IB Z p y N H):IB Z p (x - y) (M - N) (G+H):=by
 have h:=ib_sub h1.low h1.high h2.low h2.high
 exact⟨by rw[Int.natCast_add];exact h.1,by rw[Int.natCast_add];exact h.2⟩
theorem IB.mul {Z p:Nat} {x M:Int} {G:Nat} (h:IB Z p x M G) (k:Nat):IB Z p (k*x) (k*M) (k*G):=by
 have h:=ib_mul (k:=(k:Int)) (Int.natCast_nonneg _) h.low h.high
 exact⟨by rw[Int.natCast_mul];exact h.1,by rw[Int.natCast_mul];exact h.2⟩
theorem IB.wide {Z p:Nat} {x M:Int} {G H:Nat} (h:IB Z p x M G) (hG:G≤H):IB Z p x M H:=by
 have h:=ib_wide (H:=(H:Int)) (Int.natCast_nonneg _) (by omega) h.low h.high
 exact⟨h.1,h.2⟩
theorem IB.near {Z p:Nat} {x M N:Int} {G E H:Nat} (h:IB Z p x M G) (hE:(M - N).natAbs≤E) (hH:E≤H*2^(Z - p)):IB Z p x N (G+H):=by
 have hH':(E:Int)≤(H:Int)*((2^(Z - p):Nat):Int):=by
  have:(E:Int)≤((H*2^(Z - p):Nat):Int):=Int.ofNat_le.2 hH
  rwa [Int.natCast_mul] at this
 have h:=ib_near (E:=(E:Int)) (N:=N) (by omega) (by omega) hH' h.low h.high
 exact⟨by rw[Int.natCast_add];exact h.1,by rw[Int.natCast_add];exact h.2⟩
theorem IB.of {Z p lo M G:Nat} (h:Brk Z p lo (lo+G) M G):IB Z p (lo:Int) M G:=by
 obtain⟨h1,h2,-,-⟩:=h
 have e1:((lo*2^(Z - p):Nat):Int)≤M:=Int.ofNat_le.2 h1
 have e2:(M:Int)≤(((lo+G)*2^(Z - p):Nat):Int):=Int.ofNat_le.2 h2
 rw[Int.natCast_mul] at e1 e2
 rw[Int.natCast_add] at e2
 exact⟨Int.le_trans (Int.mul_le_mul_of_nonneg_right (by omega) (Int.natCast_nonneg _)) e1,e2⟩
theorem iv_last {n p:Nat} (tu:Bool) (hn:3≤n) (h2:2*n≤2^p):∃ j,j≤p+1∧pwS n p j=0∧invV tu n p=invZ tu n p j:=by
 obtain⟨h1,h3,h4⟩:=ivJ_spec (n:=n) (p:=p) (by omega)
 unfold invV
 generalize ivJ n p=J at h1 h3 h4 ⊢
 have hJ1:1≤J:=by
  rcases Nat.eq_zero_or_pos J with h|h
  ·exfalso
   subst h
   have e:pwS n p 0=2^p / n:=by unfold pwS;rw[Nat.mul_zero,Nat.zero_add,Nat.pow_one]
   rw[e] at h3
   have:=(Nat.div_lt_iff_lt_mul (show 0<n by omega)).1 h3
   omega
  ·exact h
 have hJp:J≤p:=by
  rcases Nat.lt_or_ge p J with h|h
  ·exfalso
   have h5:=h4 p h
   have h6:=pwS_pos (n:=n) (p:=p) (j:=p) (by omega) (by omega)
   have h7:0<p:=by
    rcases Nat.eq_zero_or_pos p with e|e
    ·subst e;omega
    ·exact e
   omega
  ·exact h
 refine⟨J+1,by omega,?_,?_⟩
 ·rw[←pwS_next]
  exact Nat.div_eq_of_lt (Nat.lt_of_lt_of_le h3 (Nat.le_trans (show 2≤3*3 by decide) (Nat.mul_le_mul hn hn)))
 ·have e:pwS n p J / (2*J+1)=0:=Nat.div_eq_of_lt (by omega)
  rw[inv_next,e]
  split <;> simp
theorem ivT {Z n p:Nat} (hn:3≤n) (h2:2*n≤2^p) (hp:p≤Z) (hZ:Z≤4200):IB Z p (invV true n p) ((MA Z n:Int) - MO Z n) 9000:=by
 obtain⟨j,hj,h0,e⟩:=iv_last true hn h2
 obtain⟨k1,k2⟩:=at_brk hn hp hj h0
 rw[e]
 have:=(IB.of k1).sub (IB.of k2)
 exact this.wide (by omega)
theorem ivF {Z n p:Nat} (hn:3≤n) (h2:2*n≤2^p) (hp:p≤Z) (hZ:Z≤4200):IB Z p (invV false n p) ((MA Z n:Int)+MO Z n) 9000:=by
 obtain⟨j,hj,h0,e⟩:=iv_last false hn h2
 obtain⟨k1,k2⟩:=at_brk hn hp hj h0
 rw[e]
 have:=(IB.of k1).add (IB.of k2)
 exact this.wide (by omega)
theorem pow_ge {p n:Nat} (hp:100≤p) (hn:n≤8749):2*n≤2^p:=by
 have h1:2*8749≤2^100:=by decide
 exact Nat.le_trans (Nat.le_trans (Nat.mul_le_mul_left 2 hn) h1) (Nat.pow_le_pow_right (by decide) hp)
end Go.Proofs.YtapooodfgcjoaaaGreat
