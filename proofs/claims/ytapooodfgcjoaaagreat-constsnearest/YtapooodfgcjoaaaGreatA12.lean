/- Own work: contracts of the program's functions, part 12: DE6 DE7 DL4 DE8 DE9 DEA DEB DEC. -/
import Derived.Test.YtapooodfgcjoaaaGreatA11
import Derived.Test.YtapooodfgcjoaaaGreatA3
import Derived.Test.YtapooodfgcjoaaaGreatA5

set_option maxHeartbeats 16000000
set_option maxRecDepth 200000
set_option linter.unusedVariables false
set_option linter.unusedSimpArgs false
namespace Go.Proofs.YtapooodfgcjoaaaGreat
open Go.RowKit Go.Fl64
theorem dinv_1 (n nn p:Int) (tu:Bool) (J:Nat) (T1 Tn Tq:Bool×Nat×Int) (xs ss ts tm Tk:Nat→Bool×Nat×Int) (w:World) (hJ:J≤1000000) (hnn:IntKind.i64.wrap (n*n)=nn) (hs0:ss 0=(false,0,0))
  (kW1:∀ W:World,Calls Tryz.prog 24 #[.int .i64 1] W fun r w'=>OutD W T1 r w')
  (kWn:∀ W:World,Calls Tryz.prog 24 #[.int .i64 n] W fun r w'=>OutD W Tn r w')
  (kO0:∀ (W:World) X Y,DN W X T1→DN W Y Tn→Calls Tryz.prog 93 #[X,Y,.int .i64 p] W fun r w'=>OutD W (xs 0) r w')
  (kWq:∀ W:World,Calls Tryz.prog 24 #[.int .i64 nn] W fun r w'=>OutD W Tq r w')
  (kL:∀ (j:Nat) (W:World) X,j≤J→DN W X (xs j)→Calls Tryz.prog 94 #[X,.int .i64 p] W fun r w'=>r=.returned (.bool (decide (j=J)))∧Bw W w')
  (kWk:∀ (j:Nat) (W:World),j<J→Calls Tryz.prog 24 #[.int .i64 (2*(j:Int)+1)] W fun r w'=>OutD W (Tk j) r w')
  (kO:∀ (j:Nat) (W:World) X Y,j<J→DN W X (xs j)→DN W Y (Tk j)→Calls Tryz.prog 93 #[X,Y,.int .i64 p] W fun r w'=>OutD W (ts j) r w')
  (kM:∀ (j:Nat) (W:World) X,j<J→DN W X (ts j)→Calls Tryz.prog 50 #[X] W fun r w'=>OutD W (tm j) r w')
  (kP:∀ (j:Nat) (W:World) X Y,j<J→DN W X (ss j)→DN W Y (if(tu&&decide (j % 2=1))=true then tm j else ts j)→Calls Tryz.prog 45 #[X,Y] W fun r w'=>OutD W (ss (j+1)) r w')
  (kX:∀ (j:Nat) (W:World) X Y,j<J→DN W X (xs j)→DN W Y Tq→Calls Tryz.prog 93 #[X,Y,.int .i64 p] W fun r w'=>OutD W (xs (j+1)) r w') :
  Calls Tryz.prog 92 #[.int .i64 n,.int .i64 p,.bool tu] w fun r w'=>OutD w (ss J) r w':=by
 have HkW1:Hid _:=kW1
 have HkWn:Hid _:=kWn
 have HkO0:Hid _:=kO0
 have HkWq:Hid _:=kWq
 have HkL:Hid _:=kL
 have HkWk:Hid _:=kWk
 have HkO:Hid _:=kO
 have HkM:Hid _:=kM
 have HkP:Hid _:=kP
 have HkX:Hid _:=kX
 clear kW1 kWn kO0 kWq kL kWk kO kM kP kX
 obtain⟨W,hW⟩:∃ W,W=w.alloc (.cells #[.bool false,.slice none 0 0,.int .i64 0] 45):=⟨_,rfl⟩
 have HB:Hid (Bw w W):=(by rw[hW];exact(Below.refl _ _).alloc (Nat.le_refl _) _:Bw w W)
 have HC0:Hid (W.heap[w.heap.size]?=some (.cells #[.bool false,.slice none 0 0,.int .i64 0] 45 (0,0))):=(by rw[hW];exact heap_alloc_new _ _:W.heap[w.heap.size]?=some (.cells #[.bool false,.slice none 0 0,.int .i64 0] 45 (0,0)))
 go_enter Tryz.func92,Tryz.ntmps92
 go_upto_region 1 with fail
 rw[←hW]
 clear hW
 have kk:=HkW1.out W
 go_wp2_with fail
 refine kk.mono ?_
 rintro r u1 ⟨sa,aoa,na,cpa,ea,rfl,hd1,hb1⟩
 have kk2:=HkWn.out u1
 have D1:Hid (DN u1 (.agg #[.bool sa,.slice aoa na cpa,.int .i64 ea]) T1∧Bw W u1):=⟨hd1,hb1⟩
 clear kk hd1 hb1
 go_wp2_with fail
 refine kk2.mono ?_
 rintro r u2 ⟨sb,aob,nb,cpb,eb,rfl,hd2,hb2⟩
 have kk3:=HkO0.out u2 _ _ (D1.out.1.later hb2) hd2
 have D2:Hid (Bw W u2):=D1.out.2.trans (hb2.mono D1.out.2.size)
 clear kk2 hd2 hb2 D1
 go_wp2_with fail
 refine kk3.mono ?_
 rintro r u3 ⟨sx,aox,nx,cpx,ex,rfl,hd3,hb3⟩
 clear kk3 HkW1 HkWn HkO0
 obtain⟨V3,hV3⟩:∃ V,V=u3.alloc (.cells #[.bool false,.slice none 0 0,.int .i64 0] 45):=⟨_,rfl⟩
 have hbV3:Bw u3 V3:=by rw[hV3];exact(Below.refl _ _).alloc (Nat.le_refl _) _
 have hzV3:V3.heap[u3.heap.size]?=some (.cells #[.bool false,.slice none 0 0,.int .i64 0] 45 (0,0)):=by rw[hV3];exact heap_alloc_new _ _
 obtain⟨⟨y0,y1,y2⟩,y3,y4,y5⟩:=box_cells29 hzV3
 have HZ:Hid (Bw W u3∧Bw u3 V3∧V3.heap[u3.heap.size]?=some (.cells #[.bool false,.slice none 0 0,.int .i64 0] 45 (0,0))∧DN u3 (.agg #[.bool sx,.slice aox nx cpx,.int .i64 ex]) (xs 0)):=⟨D2.out.trans (hb3.mono D2.out.size),hbV3,hzV3,hd3⟩
 clear hb3 hbV3 hzV3 hd3 D2
 go_upto_region 2 with (rw[←hV3];clear hV3)
 obtain⟨gx,hgx⟩:∃ g,g=u3.heap.size:=⟨_,rfl⟩
 obtain⟨W3,hW3⟩:∃ V2,V2=((V3.setCell ⟨u3.heap.size,0,none⟩ (.bool sx)).setCell ⟨u3.heap.size,1,none⟩ (.slice aox nx cpx)).setCell ⟨u3.heap.size,2,none⟩ (.int .i64 ex):=⟨_,rfl⟩
 have HX:Hid (NbD W3 gx sx aox nx cpx ex (xs 0)∧Bw W W3∧W.heap.size≤gx):=(by
  rw[hW3,hgx]
  exact⟨⟨store3_29 _ _ _ HZ.out.2.2.1,(HZ.out.2.2.2.later HZ.out.2.1).store3 HZ.out.2.2.1 _ _ _⟩,below_store3 (HZ.out.1.trans (HZ.out.2.1.mono HZ.out.1.size)) HZ.out.1.size _ _ _,HZ.out.1.size⟩:NbD W3 gx sx aox nx cpx ex (xs 0)∧Bw W W3∧W.heap.size≤gx)
 rw[←hW3,←hgx]
 clear hW3 hgx HZ y0 y1 y2 y3 y4 y5
 have kk:=HkWq.out W3
 go_wp2_with fail
 refine kk.mono ?_
 rintro r u4 ⟨sq,aoq,nq,cpq,eq,rfl,hd4,hb4⟩
 clear kk HkWq
 obtain⟨V4,hV4⟩:∃ V,V=u4.alloc (.cells #[.bool false,.slice none 0 0,.int .i64 0] 45):=⟨_,rfl⟩
 have hbV4:Bw u4 V4:=by rw[hV4];exact(Below.refl _ _).alloc (Nat.le_refl _) _
 have hzV4:V4.heap[u4.heap.size]?=some (.cells #[.bool false,.slice none 0 0,.int .i64 0] 45 (0,0)):=by rw[hV4];exact heap_alloc_new _ _
 obtain⟨⟨y0,y1,y2⟩,y3,y4,y5⟩:=box_cells29 hzV4
 have HZ:Hid (Bw W3 u4∧Bw u4 V4∧V4.heap[u4.heap.size]?=some (.cells #[.bool false,.slice none 0 0,.int .i64 0] 45 (0,0))∧DN u4 (.agg #[.bool sq,.slice aoq nq cpq,.int .i64 eq]) Tq):=⟨hb4,hbV4,hzV4,hd4⟩
 clear hb4 hbV4 hzV4 hd4
 go_upto_region 3 with (rw[←hV4];clear hV4)
 obtain⟨gq,hgq⟩:∃ g,g=u4.heap.size:=⟨_,rfl⟩
 obtain⟨W4,hW4⟩:∃ V2,V2=((V4.setCell ⟨u4.heap.size,0,none⟩ (.bool sq)).setCell ⟨u4.heap.size,1,none⟩ (.slice aoq nq cpq)).setCell ⟨u4.heap.size,2,none⟩ (.int .i64 eq):=⟨_,rfl⟩
 have HQ:Hid (NbD W4 gx sx aox nx cpx ex (xs 0)∧NbD W4 gq sq aoq nq cpq eq (Tq)∧Bw W W4∧W.heap.size≤gx∧gx<gq):=(by
  have hb34:Bw W3 W4:=by rw[hW4];exact below_store3 (HZ.out.1.trans (HZ.out.2.1.mono HZ.out.1.size)) HZ.out.1.size _ _ _
  refine⟨HX.out.1.later hb34,?_,HX.out.2.1.trans (hb34.mono HX.out.2.1.size),HX.out.2.2,?_⟩
  ·rw[hW4,hgq]
   exact⟨store3_29 _ _ _ HZ.out.2.2.1,(HZ.out.2.2.2.later HZ.out.2.1).store3 HZ.out.2.2.1 _ _ _⟩
  ·have h1:=HX.out.1.lt
   have h2:=HZ.out.1.size
   omega:NbD W4 gx sx aox nx cpx ex (xs 0)∧NbD W4 gq sq aoq nq cpq eq (Tq)∧Bw W W4∧W.heap.size≤gx∧gx<gq)
 rw[←hW4,←hgq]
 clear hW4 hgq HZ HX y0 y1 y2 y3 y4 y5
 obtain⟨V5,hV5⟩:∃ V,V=W4.alloc (.cells #[.bool false,.slice none 0 0,.int .i64 0] 45):=⟨_,rfl⟩
 have hbV5:Bw W4 V5:=by rw[hV5];exact(Below.refl _ _).alloc (Nat.le_refl _) _
 have hzV5:V5.heap[W4.heap.size]?=some (.cells #[.bool false,.slice none 0 0,.int .i64 0] 45 (0,0)):=by rw[hV5];exact heap_alloc_new _ _
 obtain⟨⟨y0,y1,y2⟩,y3,y4,y5⟩:=box_cells29 hzV5
 have HZ:Hid (Bw W4 V5∧V5.heap[W4.heap.size]?=some (.cells #[.bool false,.slice none 0 0,.int .i64 0] 45 (0,0))):=⟨hbV5,hzV5⟩
 clear hbV5 hzV5
 go_upto_region 4 with (rw[←hV5];clear hV5)
 obtain⟨gs,hgs⟩:∃ g,g=W4.heap.size:=⟨_,rfl⟩
 obtain⟨W5,hW5⟩:∃ V2,V2=((V5.setCell ⟨W4.heap.size,0,none⟩ (.bool false)).setCell ⟨W4.heap.size,1,none⟩ (.slice none 0 0)).setCell ⟨W4.heap.size,2,none⟩ (.int .i64 0):=⟨_,rfl⟩
 have HS:Hid (NbD W5 gx sx aox nx cpx ex (xs 0)∧NbD W5 gq sq aoq nq cpq eq (Tq)∧NbD W5 gs false none 0 0 0 (ss 0)∧Bw W W5∧W.heap.size≤gx∧gx<gq∧gq<gs):=(by
  have hb45:Bw W4 W5:=by rw[hW5];exact below_store3 HZ.out.1 (Nat.le_refl _) _ _ _
  refine⟨HQ.out.1.later hb45,HQ.out.2.1.later hb45,?_,HQ.out.2.2.1.trans (hb45.mono HQ.out.2.2.1.size),HQ.out.2.2.2.1,HQ.out.2.2.2.2,?_⟩
  ·rw[hs0]
   refine⟨?_,gdn0 _⟩
   rw[hW5,hgs]
   exact store3_29 _ _ _ HZ.out.2
  ·have h1:=HQ.out.2.1.lt
   omega:NbD W5 gx sx aox nx cpx ex (xs 0)∧NbD W5 gq sq aoq nq cpq eq (Tq)∧NbD W5 gs false none 0 0 0 (ss 0)∧Bw W W5∧W.heap.size≤gx∧gx<gq∧gq<gs)
 rw[←hW5,←hgs]
 clear hW5 hgs HZ HQ y0 y1 y2 y3 y4 y5
 have HG:Hid (W.heap.size≤gx∧gx<gq∧gq<gs∧Bw W W5):=⟨HS.out.2.2.2.2.1,HS.out.2.2.2.2.2.1,HS.out.2.2.2.2.2.2,HS.out.2.2.2.1⟩
 go_wp2_with fail
 go_loopw [10,11] (fun kv tv wr=>∃ (j:Nat) (sx:Bool) (aox:Option Addr) (nx cpx:Nat) (ex:Int) (sc:Bool) (aoc:Option Addr) (nc cpc:Nat) (ec:Int),kv=.int .i64 (2*(j:Int)+1)∧j≤J∧Hid (NbD wr gx sx aox nx cpx ex (xs j)∧NbD wr gq sq aoq nq cpq eq (Tq)∧NbD wr gs sc aoc nc cpc ec (ss j)∧Bw W wr)) (fun kv _ _=>2*J+2 - (intOf kv).toNat)
 case atStart=>exact⟨0,_,_,_,_,_,_,_,_,_,_,rfl,by omega,⟨HS.out.1,HS.out.2.1,HS.out.2.2.1,HS.out.2.2.2.1⟩⟩
 case round =>
  obtain⟨j,sx,aox,nx,cpx,ex,sc,aoc,nc,cpc,ec,rfl,hj,HI⟩:=hrel
  clear HS
  obtain⟨⟨y0,y1,y2⟩,-⟩:=box_cells29 HI.out.1.1
  have kk:=HkL.out j wr _ hj HI.out.1.2
  go_wp2_with fail
  refine kk.mono ?_
  rintro r v1 ⟨rfl,hb1⟩
  have HI1:Hid (NbD v1 gx sx aox nx cpx ex (xs j)∧NbD v1 gq sq aoq nq cpq eq (Tq)∧NbD v1 gs sc aoc nc cpc ec (ss j)∧Bw W v1):=⟨HI.out.1.later hb1,HI.out.2.1.later hb1,HI.out.2.2.1.later hb1,HI.out.2.2.2.trans (hb1.mono HI.out.2.2.2.size)⟩
  clear kk hb1 HI y0 y1 y2
  by_cases hjJ:j=J
  ·have hd:decide (j=J)=true:=decide_eq_true hjJ
   subst hjJ
   have HC:Hid (v1.heap[w.heap.size]?=some (.cells #[.bool false,.slice none 0 0,.int .i64 0] 45 (0,0))):=box_later HC0.out HI1.out.2.2.2 (Array.getElem?_eq_some_iff.1 HC0.out).1
   obtain⟨⟨z0,z1,z2⟩,z3,z4,z5⟩:=box_cells29 HC.out
   obtain⟨⟨y0,y1,y2⟩,-⟩:=box_cells29 HI1.out.2.2.1.1
   clear HkL HkWk HkO HkM HkP HkX
   go_wp2_with fail
   refine bodyPost_ret (results_cell_row rfl _ _ w.heap.size 45 #[.bool sc,.slice aoc nc cpc,.int .i64 ec] (0,0) _ rfl (store3_29 _ _ _ HC.out) Tryz.underlying45 rfl Tryz.info45) rfl ?_
   exact⟨_,_,_,_,_,rfl,HI1.out.2.2.1.2.store3 HC.out _ _ _,below_store3 (HB.out.trans (HI1.out.2.2.2.mono HB.out.size)) (Nat.le_refl _) _ _ _⟩
  ·have hd:decide (j=J)=false:=decide_eq_false hjJ
   have hlt:j<J:=by omega
   have HLT:Hid (j<J):=hlt
   clear HkL
   go_upto_region 7 with fail
   go_cut [11] from 28 to 32 (fun p' wx=>∃ (gt:Nat) (st:Bool) (aot:Option Addr) (nt cpt:Nat) (et:Int),p'=.pointer (some ⟨gt,0,none⟩)∧Hid (Bw v1 wx∧NbD wx gt st aot nt cpt et (ts j)∧v1.heap.size≤gt))
   case first =>
    refine parz_region follows_mixed 5 1 (fun j=>28+j) (fun _=>11) (fun _=>4) ovD 45 #[.bool false,.slice none 0 0,.int .i64 0] v1 _ (ovV sx aox nx cpx ex (2*(j:Int)+1) p (xs j) (Tk j) (ts j)) rfl (gord_of (by kernel_rfl)) ?_ ?_ ?_ ?_ ?_ ?_ gzero_num Tryz.info45 ?_ ?_ ?_ ?_ ?_ ?_ ?_
    ·intro i W W' u hb h
     rcases(show i=0∨i=1∨i=2∨i=3∨∃ k,i=k+4 by by_cases h:4≤i;exact .inr (.inr (.inr (.inr ⟨i - 4,by omega⟩)));omega)with rfl|rfl|rfl|rfl|⟨k,rfl⟩
     ·exact⟨h.1,h.2.later hb⟩
     ·exact h
     ·exact DN.later h hb
     ·exact h
     ·exact DN.later (t:=ts j) h hb
    ·intro i W u g cs' hg h
     rcases(show i=0∨i=1∨i=2∨i=3∨∃ k,i=k+4 by by_cases h:4≤i;exact .inr (.inr (.inr (.inr ⟨i - 4,by omega⟩)));omega)with rfl|rfl|rfl|rfl|⟨k,rfl⟩
     ·exact⟨h.1,h.2.grow hg ⟨_,_,_,_,_,rfl⟩ _⟩
     ·exact h
     ·exact DN.grow h hg ⟨_,_,_,_,_,rfl⟩ _
     ·exact h
     ·exact DN.grow (t:=ts j) h hg ⟨_,_,_,_,_,rfl⟩ _
    ·intro k hk W u h
     obtain⟨cs,e1,e2,-,e3⟩:=DN.cells (show DN W u (ts j)from h)
     exact⟨cs,e1,e2,e3⟩
    ·intro i hi j' hj'
     rcases lt5D hi with rfl|rfl|rfl|rfl|rfl
     ·simp[ovD] at hj'
     ·simp[ovD] at hj'
     ·obtain rfl:j'=1:=by simpa [ovD] using hj'
      exact⟨by omega,fun o ho=>by obtain rfl:=Option.some.inj (show some _=some o from ho);exact⟨⟨1,.data⟩,by simp,rfl,rfl⟩⟩
     ·simp[ovD] at hj'
     ·refine⟨by simp[ovD] at hj';omega,fun o ho=>?_⟩
      obtain rfl:=Option.some.inj (show some _=some o from ho)
      have:j'=0∨j'=2∨j'=3:=by simpa [ovD] using hj'
      rcases this with rfl|rfl|rfl
      ·exact⟨⟨0,.data⟩,by simp,rfl,rfl⟩
      ·exact⟨⟨2,.data⟩,by simp,rfl,rfl⟩
      ·exact⟨⟨3,.data⟩,by simp,rfl,rfl⟩
    ·intro i hi a' W hb hoth hdep
     have o7:a'.tmps[7]?=some (.pointer (some ⟨gx,0,none⟩)):=by rw[hoth 7 (fun j hj=>by rcases lt5D hj with rfl|rfl|rfl|rfl|rfl <;> decide) (fun k hk=>by decide)];rfl
     have o10:a'.tmps[10]?=some (.int .i64 (2*(j:Int)+1)):=by rw[hoth 10 (fun j hj=>by rcases lt5D hj with rfl|rfl|rfl|rfl|rfl <;> decide) (fun k hk=>by decide)];rfl
     have o1:a'.tmps[1]?=some (.int .i64 p):=by rw[hoth 1 (fun j hj=>by rcases lt5D hj with rfl|rfl|rfl|rfl|rfl <;> decide) (fun k hk=>by decide)];rfl
     have hx:=HI1.out.1.later hb
     rcases lt5D hi with rfl|rfl|rfl|rfl|rfl
     ·exact ostep_load rfl rfl rfl (run_loadNum _ _ _ _ _ _ W hx.1) o7 ⟨_,rfl,⟨rfl,hx.2⟩,Below.refl _ _⟩
     ·exact ostep_move rfl rfl rfl o10 ⟨_,rfl,rfl,Below.refl _ _⟩
     ·obtain⟨u,hu,hv⟩:=hdep 1 (by simp[ovD])
      obtain rfl:u=_:=hv
      refine step_call rfl rfl rfl (enters Tryz.func24 (by kernel_rfl) (by kernel_rfl)) (vs:=#[_]) (by simp only[List.map_toArray,List.map_cons,List.map_nil];rw[eval_get hu]) ?_
      refine(HkWk.out j W HLT.out).mono ?_
      rintro r w' ⟨_,_,_,_,_,rfl,hE,hb'⟩
      exact⟨_,rfl,_,rfl,hE,hb'⟩
     ·exact ostep_move rfl rfl rfl o1 ⟨_,rfl,rfl,Below.refl _ _⟩
     ·obtain⟨u0,hu0,hv0⟩:=hdep 0 (by simp[ovD])
      obtain⟨u2,hu2,hv2⟩:=hdep 2 (by simp[ovD])
      obtain⟨u3,hu3,hv3⟩:=hdep 3 (by simp[ovD])
      obtain⟨rfl,hv0⟩:=hv0
      obtain rfl:u3=_:=hv3
      refine step_call rfl rfl rfl (enters Tryz.func93 (by kernel_rfl) (by kernel_rfl)) (vs:=#[_,_,_]) (by simp only[List.map_toArray,List.map_cons,List.map_nil];rw[eval_get hu0,eval_get hu2,eval_get hu3]) ?_
      refine(HkO.out j W _ _ HLT.out hv0 hv2).mono ?_
      rintro r w' ⟨_,_,_,_,_,rfl,hE,hb'⟩
      exact⟨_,rfl,_,rfl,hE,hb'⟩
    ·intro k hk
     obtain rfl:k=0:=by omega
     exact⟨_,rfl,rfl,rfl,rfl⟩
    ·intro k hk
     obtain rfl:k=0:=by omega
     exact⟨by omega,_,rfl,rfl,rfl,rfl,⟨⟨5,.data⟩,by simp,rfl,rfl⟩,⟨4,.data⟩,by simp,rfl,rfl⟩
    ·show ∀ j,j<5→28+j<49
     decide
    ·show ∀ k,k<1→11<49
     decide
    ·intro i i' _ _ h;exact Nat.add_left_cancel h
    ·intro k k' hk hk' _;omega
    ·intro i k hi hk
     rcases lt5D hi with rfl|rfl|rfl|rfl|rfl <;> decide
    ·intro u gb a' wx hb hu hg hs' hd' hoth
     have e4:DN wx (u 4) (ts j):=(hu 4 (by omega)).2
     obtain⟨-,hgb,cs,hcs,hbx⟩:=hg 0 (by omega)
     obtain⟨st,aot,nt,cpt,et,hsh⟩:=e4.shape
     have hcs':cs = #[.bool st,.slice aot nt cpt,.int .i64 et]:=by
      have:=hcs.symm.trans hsh
      simpa using this
     rw[hcs'] at hbx
     rw[hsh] at e4
     have HF:Hid (Bw v1 wx∧NbD wx (gb 0) st aot nt cpt et (ts j)∧v1.heap.size≤gb 0):=⟨hb,⟨hbx,e4⟩,hgb⟩
     have h1:(((List.range 5).map (fun j=>((28+j,u j):Tmp×Value))++(List.range 1).map (fun k=>((11,Value.pointer (some ⟨gb k,0,none⟩)):Tmp×Value))).map (fun p:Tmp×Value=>p.1)).Nodup:=by
      have e:((List.range 5).map (fun j=>((28+j,u j):Tmp×Value))++(List.range 1).map (fun k=>((11,Value.pointer (some ⟨gb k,0,none⟩)):Tmp×Value))).map (fun p:Tmp×Value=>p.1)=(List.range 5).map (fun j=>28+j)++(List.range 1).map (fun k=>11):=by simp[Function.comp_def]
      rw[e];decide
     have h2:∀ p ∈ (List.range 5).map (fun j=>((28+j,u j):Tmp×Value))++(List.range 1).map (fun k=>((11,Value.pointer (some ⟨gb k,0,none⟩)):Tmp×Value)),a'.tmps[p.1]?=some p.2:=by
      intro p hp
      rcases List.mem_append.1 hp with h|h
      ·obtain⟨i,hi,rfl⟩:=List.mem_map.1 h
       exact(hu i (List.mem_range.1 hi)).1
      ·obtain⟨k,hk,rfl⟩:=List.mem_map.1 h
       exact(hg k (List.mem_range.1 hk)).1
     have ha:=act_putL h1 hs' hd' h2 (fun s hsn=>hoth s (fun i hi he=>hsn (by
       rw[List.map_append]
       exact List.mem_append_left _ (List.mem_map.2 ⟨_,List.mem_map.2 ⟨i,List.mem_range.2 hi,rfl⟩,he.symm⟩))) (fun k hk he=>hsn (by
       rw[List.map_append]
       exact List.mem_append_right _ (List.mem_map.2 ⟨_,List.mem_map.2 ⟨k,List.mem_range.2 hk,rfl⟩,he.symm⟩))))
     rw[ha]
     clear h1 h2 ha hu hg hs' hd' hoth hb e4 hgb hbx hcs hcs' hsh
     simp only[putL,show List.range 5 = [0,1,2,3,4] from rfl,show List.range 1 = [0] from rfl,List.map_cons,List.map_nil,List.cons_append,List.nil_append,List.foldl_cons,List.foldl_nil,Nat.reduceLT,Nat.reduceMod,Nat.reduceDiv,Nat.reduceMul,Nat.reduceAdd,Nat.reduceEqDiff,reduceIte,Nat.one_ne_zero,Act.put,List.setIfInBounds_toArray,List.set_cons_zero,List.set_cons_succ]
     go_wp2_with fail
     go_meet
     exact⟨_,_,_,_,_,_,rfl,HF⟩
   case rest =>
    obtain⟨v2,hv2⟩:∃ v2:World,v2=wc:=⟨_,rfl⟩
    subst hv2
    obtain⟨gt,st,aot,nt,cpt,et,rfl,HF⟩:=hcut
    have HI2:Hid ((NbD v2 gx sx aox nx cpx ex (xs j)∧NbD v2 gq sq aoq nq cpq eq (Tq)∧NbD v2 gs sc aoc nc cpc ec (ss j)∧Bw W v2)∧NbD v2 gt st aot nt cpt et (ts j)∧gs<gt):=⟨⟨HI1.out.1.later HF.out.1,HI1.out.2.1.later HF.out.1,HI1.out.2.2.1.later HF.out.1,HI1.out.2.2.2.trans (HF.out.1.mono HI1.out.2.2.2.size)⟩,HF.out.2.1,Nat.lt_of_lt_of_le HI1.out.2.2.1.lt HF.out.2.2⟩
    clear HF HI1 HkWk HkO
    have hq4:(2*(j:Int)+1).tmod 4=if j % 2=1 then 3 else 1:=by
     rw[Int.tmod_eq_emod_of_nonneg (by omega)];split <;> omega
    have hw2:IntKind.i64.wrap (2*(j:Int)+1+2)=2*((j+1:Nat):Int)+1:=by rw[IntKind.wrap_i64];omega
    have hlt:=HLT.out
    clear hd
    cases tu
    ·have hsel:(if(false&&decide (j % 2=1))=true then tm j else ts j)=ts j:=by simp
     clear HkM
     go_upto_region 10 with fail
     obtain⟨⟨y0,y1,y2⟩,-⟩:=box_cells29 HI2.out.2.1.1
     obtain⟨⟨z0,z1,z2⟩,f3,f4,f5⟩:=box_cells29 HI2.out.1.2.2.1.1
     have kk:=HkP.out j v2 _ _ HLT.out HI2.out.1.2.2.1.2 (by rw[hsel];exact HI2.out.2.1.2)
     clear HkP hsel
     go_wp2_with fail
     refine kk.mono ?_
     rintro r v5 ⟨sd,aod,nd,cpd,ed,rfl,hdp,hbp⟩
     have HI5:Hid ((NbD v5 gx sx aox nx cpx ex (xs j)∧NbD v5 gq sq aoq nq cpq eq (Tq)∧NbD v5 gs sc aoc nc cpc ec (ss j)∧Bw W v5)∧DN v5 (.agg #[.bool sd,.slice aod nd cpd,.int .i64 ed]) (ss (j+1))):=⟨⟨HI2.out.1.1.later hbp,HI2.out.1.2.1.later hbp,HI2.out.1.2.2.1.later hbp,HI2.out.1.2.2.2.trans (hbp.mono HI2.out.1.2.2.2.size)⟩,hdp⟩
     clear kk hdp hbp HI2 y0 y1 y2 z0 z1 z2 f3 f4 f5
     obtain⟨⟨z0,z1,z2⟩,f3,f4,f5⟩:=box_cells29 HI5.out.1.2.2.1.1
     go_upto_region 11 with fail
     obtain⟨v6,hv6⟩:∃ V,V=((v5.setCell ⟨gs,0,none⟩ (.bool sd)).setCell ⟨gs,1,none⟩ (.slice aod nd cpd)).setCell ⟨gs,2,none⟩ (.int .i64 ed):=⟨_,rfl⟩
     have HI6:Hid (NbD v6 gx sx aox nx cpx ex (xs j)∧NbD v6 gq sq aoq nq cpq eq (Tq)∧NbD v6 gs sd aod nd cpd ed (ss (j+1))∧Bw W v6):=(by
      have hg:=HG.out
      rw[hv6]
      exact⟨HI5.out.1.1.other HI5.out.1.2.2.1.1 (by omega) _ _ _,HI5.out.1.2.1.other HI5.out.1.2.2.1.1 (by omega) _ _ _,HI5.out.1.2.2.1.put HI5.out.2,below_store3 HI5.out.1.2.2.2 (by omega) _ _ _⟩:(NbD v6 gx sx aox nx cpx ex (xs j)∧NbD v6 gq sq aoq nq cpq eq (Tq)∧NbD v6 gs sd aod nd cpd ed (ss (j+1))∧Bw W v6))
     rw[←hv6]
     clear hv6 HI5 z0 z1 z2 f3 f4 f5
     obtain⟨⟨y0,y1,y2⟩,f3,f4,f5⟩:=box_cells29 HI6.out.1.1
     obtain⟨⟨z0,z1,z2⟩,-⟩:=box_cells29 HI6.out.2.1.1
     have kk:=HkX.out j v6 _ _ HLT.out HI6.out.1.2 HI6.out.2.1.2
     clear HkX
     go_wp2_with fail
     refine kk.mono ?_
     rintro r v7 ⟨sy,aoy,ny,cpy,ey,rfl,hdx,hbx⟩
     have HI7:Hid ((NbD v7 gx sx aox nx cpx ex (xs j)∧NbD v7 gq sq aoq nq cpq eq (Tq)∧NbD v7 gs sd aod nd cpd ed (ss (j+1))∧Bw W v7)∧DN v7 (.agg #[.bool sy,.slice aoy ny cpy,.int .i64 ey]) (xs (j+1))):=⟨⟨HI6.out.1.later hbx,HI6.out.2.1.later hbx,HI6.out.2.2.1.later hbx,HI6.out.2.2.2.trans (hbx.mono HI6.out.2.2.2.size)⟩,hdx⟩
     clear kk hdx hbx HI6 y0 y1 y2 z0 z1 z2 f3 f4 f5
     obtain⟨⟨y0,y1,y2⟩,f3,f4,f5⟩:=box_cells29 HI7.out.1.1.1
     have hgx:=HG.out
     obtain⟨v8,hv8⟩:∃ V,V=((v7.setCell ⟨gx,0,none⟩ (.bool sy)).setCell ⟨gx,1,none⟩ (.slice aoy ny cpy)).setCell ⟨gx,2,none⟩ (.int .i64 ey):=⟨_,rfl⟩
     have HI8:Hid (NbD v8 gx sy aoy ny cpy ey (xs (j+1))∧NbD v8 gq sq aoq nq cpq eq (Tq)∧NbD v8 gs sd aod nd cpd ed (ss (j+1))∧Bw W v8):=(by
      rw[hv8]
      exact⟨HI7.out.1.1.put HI7.out.2,HI7.out.1.2.1.other HI7.out.1.1.1 (by omega) _ _ _,HI7.out.1.2.2.1.other HI7.out.1.1.1 (by omega) _ _ _,below_store3 HI7.out.1.2.2.2 (by omega) _ _ _⟩:(NbD v8 gx sy aoy ny cpy ey (xs (j+1))∧NbD v8 gq sq aoq nq cpq eq (Tq)∧NbD v8 gs sd aod nd cpd ed (ss (j+1))∧Bw W v8))
     clear hgx
     go_wp2_with fail
     rw[←hv8]
     clear hv8
     exact⟨⟨j+1,_,_,_,_,_,_,_,_,_,_,rfl,by have:=HLT.out;omega,HI8⟩,by have:=HLT.out;simp[intOf];omega⟩
    ·by_cases hpar:j % 2=1
     ·have hsel:(if(true&&decide (j % 2=1))=true then tm j else ts j)=tm j:=by simp[hpar]
      rw[if_pos hpar] at hq4
      obtain⟨⟨y0,y1,y2⟩,f3,f4,f5⟩:=box_cells29 HI2.out.2.1.1
      have kk:=HkM.out j v2 _ HLT.out HI2.out.2.1.2
      clear HkM
      go_wp2_with fail
      refine kk.mono ?_
      rintro r v3 ⟨sm,aom,nm,cpm,em,rfl,hdm,hbm⟩
      have HI3:Hid ((NbD v3 gx sx aox nx cpx ex (xs j)∧NbD v3 gq sq aoq nq cpq eq (Tq)∧NbD v3 gs sc aoc nc cpc ec (ss j)∧Bw W v3)∧NbD v3 gt st aot nt cpt et (ts j)∧gs<gt∧DN v3 (.agg #[.bool sm,.slice aom nm cpm,.int .i64 em]) (tm j)):=⟨⟨HI2.out.1.1.later hbm,HI2.out.1.2.1.later hbm,HI2.out.1.2.2.1.later hbm,HI2.out.1.2.2.2.trans (hbm.mono HI2.out.1.2.2.2.size)⟩,HI2.out.2.1.later hbm,HI2.out.2.2,hdm⟩
      clear kk hdm hbm HI2 y0 y1 y2 f3 f4 f5
      obtain⟨⟨y0,y1,y2⟩,f3,f4,f5⟩:=box_cells29 HI3.out.2.1.1
      go_upto_region 10 with fail
      obtain⟨v4,hv4⟩:∃ V,V=((v3.setCell ⟨gt,0,none⟩ (.bool sm)).setCell ⟨gt,1,none⟩ (.slice aom nm cpm)).setCell ⟨gt,2,none⟩ (.int .i64 em):=⟨_,rfl⟩
      have HI4:Hid ((NbD v4 gx sx aox nx cpx ex (xs j)∧NbD v4 gq sq aoq nq cpq eq (Tq)∧NbD v4 gs sc aoc nc cpc ec (ss j)∧Bw W v4)∧NbD v4 gt sm aom nm cpm em (tm j)∧gs<gt):=(by
       have hg:=HG.out
       have hg2:=HI3.out.2.2.1
       rw[hv4]
       exact⟨⟨HI3.out.1.1.other HI3.out.2.1.1 (by omega) _ _ _,HI3.out.1.2.1.other HI3.out.2.1.1 (by omega) _ _ _,HI3.out.1.2.2.1.other HI3.out.2.1.1 (by omega) _ _ _,below_store3 HI3.out.1.2.2.2 (by omega) _ _ _⟩,HI3.out.2.1.put HI3.out.2.2.2,HI3.out.2.2.1⟩:(NbD v4 gx sx aox nx cpx ex (xs j)∧NbD v4 gq sq aoq nq cpq eq (Tq)∧NbD v4 gs sc aoc nc cpc ec (ss j)∧Bw W v4)∧NbD v4 gt sm aom nm cpm em (tm j)∧gs<gt)
      rw[←hv4]
      clear hv4 HI3 y0 y1 y2 f3 f4 f5
      obtain⟨⟨y0,y1,y2⟩,-⟩:=box_cells29 HI4.out.2.1.1
      obtain⟨⟨z0,z1,z2⟩,f3,f4,f5⟩:=box_cells29 HI4.out.1.2.2.1.1
      have kk:=HkP.out j v4 _ _ HLT.out HI4.out.1.2.2.1.2 (by rw[hsel];exact HI4.out.2.1.2)
      clear HkP hsel
      go_wp2_with fail
      refine kk.mono ?_
      rintro r v5 ⟨sd,aod,nd,cpd,ed,rfl,hdp,hbp⟩
      have HI5:Hid ((NbD v5 gx sx aox nx cpx ex (xs j)∧NbD v5 gq sq aoq nq cpq eq (Tq)∧NbD v5 gs sc aoc nc cpc ec (ss j)∧Bw W v5)∧DN v5 (.agg #[.bool sd,.slice aod nd cpd,.int .i64 ed]) (ss (j+1))):=⟨⟨HI4.out.1.1.later hbp,HI4.out.1.2.1.later hbp,HI4.out.1.2.2.1.later hbp,HI4.out.1.2.2.2.trans (hbp.mono HI4.out.1.2.2.2.size)⟩,hdp⟩
      clear kk hdp hbp HI4 y0 y1 y2 z0 z1 z2 f3 f4 f5
      obtain⟨⟨z0,z1,z2⟩,f3,f4,f5⟩:=box_cells29 HI5.out.1.2.2.1.1
      go_upto_region 11 with fail
      obtain⟨v6,hv6⟩:∃ V,V=((v5.setCell ⟨gs,0,none⟩ (.bool sd)).setCell ⟨gs,1,none⟩ (.slice aod nd cpd)).setCell ⟨gs,2,none⟩ (.int .i64 ed):=⟨_,rfl⟩
      have HI6:Hid (NbD v6 gx sx aox nx cpx ex (xs j)∧NbD v6 gq sq aoq nq cpq eq (Tq)∧NbD v6 gs sd aod nd cpd ed (ss (j+1))∧Bw W v6):=(by
       have hg:=HG.out
       rw[hv6]
       exact⟨HI5.out.1.1.other HI5.out.1.2.2.1.1 (by omega) _ _ _,HI5.out.1.2.1.other HI5.out.1.2.2.1.1 (by omega) _ _ _,HI5.out.1.2.2.1.put HI5.out.2,below_store3 HI5.out.1.2.2.2 (by omega) _ _ _⟩:(NbD v6 gx sx aox nx cpx ex (xs j)∧NbD v6 gq sq aoq nq cpq eq (Tq)∧NbD v6 gs sd aod nd cpd ed (ss (j+1))∧Bw W v6))
      rw[←hv6]
      clear hv6 HI5 z0 z1 z2 f3 f4 f5
      obtain⟨⟨y0,y1,y2⟩,f3,f4,f5⟩:=box_cells29 HI6.out.1.1
      obtain⟨⟨z0,z1,z2⟩,-⟩:=box_cells29 HI6.out.2.1.1
      have kk:=HkX.out j v6 _ _ HLT.out HI6.out.1.2 HI6.out.2.1.2
      clear HkX
      go_wp2_with fail
      refine kk.mono ?_
      rintro r v7 ⟨sy,aoy,ny,cpy,ey,rfl,hdx,hbx⟩
      have HI7:Hid ((NbD v7 gx sx aox nx cpx ex (xs j)∧NbD v7 gq sq aoq nq cpq eq (Tq)∧NbD v7 gs sd aod nd cpd ed (ss (j+1))∧Bw W v7)∧DN v7 (.agg #[.bool sy,.slice aoy ny cpy,.int .i64 ey]) (xs (j+1))):=⟨⟨HI6.out.1.later hbx,HI6.out.2.1.later hbx,HI6.out.2.2.1.later hbx,HI6.out.2.2.2.trans (hbx.mono HI6.out.2.2.2.size)⟩,hdx⟩
      clear kk hdx hbx HI6 y0 y1 y2 z0 z1 z2 f3 f4 f5
      obtain⟨⟨y0,y1,y2⟩,f3,f4,f5⟩:=box_cells29 HI7.out.1.1.1
      have hgx:=HG.out
      obtain⟨v8,hv8⟩:∃ V,V=((v7.setCell ⟨gx,0,none⟩ (.bool sy)).setCell ⟨gx,1,none⟩ (.slice aoy ny cpy)).setCell ⟨gx,2,none⟩ (.int .i64 ey):=⟨_,rfl⟩
      have HI8:Hid (NbD v8 gx sy aoy ny cpy ey (xs (j+1))∧NbD v8 gq sq aoq nq cpq eq (Tq)∧NbD v8 gs sd aod nd cpd ed (ss (j+1))∧Bw W v8):=(by
       rw[hv8]
       exact⟨HI7.out.1.1.put HI7.out.2,HI7.out.1.2.1.other HI7.out.1.1.1 (by omega) _ _ _,HI7.out.1.2.2.1.other HI7.out.1.1.1 (by omega) _ _ _,below_store3 HI7.out.1.2.2.2 (by omega) _ _ _⟩:(NbD v8 gx sy aoy ny cpy ey (xs (j+1))∧NbD v8 gq sq aoq nq cpq eq (Tq)∧NbD v8 gs sd aod nd cpd ed (ss (j+1))∧Bw W v8))
      clear hgx
      go_wp2_with fail
      rw[←hv8]
      clear hv8
      exact⟨⟨j+1,_,_,_,_,_,_,_,_,_,_,rfl,by have:=HLT.out;omega,HI8⟩,by have:=HLT.out;simp[intOf];omega⟩
     ·have hsel:(if(true&&decide (j % 2=1))=true then tm j else ts j)=ts j:=by simp[hpar]
      rw[if_neg hpar] at hq4
      clear HkM
      go_upto_region 10 with fail
      obtain⟨⟨y0,y1,y2⟩,-⟩:=box_cells29 HI2.out.2.1.1
      obtain⟨⟨z0,z1,z2⟩,f3,f4,f5⟩:=box_cells29 HI2.out.1.2.2.1.1
      have kk:=HkP.out j v2 _ _ HLT.out HI2.out.1.2.2.1.2 (by rw[hsel];exact HI2.out.2.1.2)
      clear HkP hsel
      go_wp2_with fail
      refine kk.mono ?_
      rintro r v5 ⟨sd,aod,nd,cpd,ed,rfl,hdp,hbp⟩
      have HI5:Hid ((NbD v5 gx sx aox nx cpx ex (xs j)∧NbD v5 gq sq aoq nq cpq eq (Tq)∧NbD v5 gs sc aoc nc cpc ec (ss j)∧Bw W v5)∧DN v5 (.agg #[.bool sd,.slice aod nd cpd,.int .i64 ed]) (ss (j+1))):=⟨⟨HI2.out.1.1.later hbp,HI2.out.1.2.1.later hbp,HI2.out.1.2.2.1.later hbp,HI2.out.1.2.2.2.trans (hbp.mono HI2.out.1.2.2.2.size)⟩,hdp⟩
      clear kk hdp hbp HI2 y0 y1 y2 z0 z1 z2 f3 f4 f5
      obtain⟨⟨z0,z1,z2⟩,f3,f4,f5⟩:=box_cells29 HI5.out.1.2.2.1.1
      go_upto_region 11 with fail
      obtain⟨v6,hv6⟩:∃ V,V=((v5.setCell ⟨gs,0,none⟩ (.bool sd)).setCell ⟨gs,1,none⟩ (.slice aod nd cpd)).setCell ⟨gs,2,none⟩ (.int .i64 ed):=⟨_,rfl⟩
      have HI6:Hid (NbD v6 gx sx aox nx cpx ex (xs j)∧NbD v6 gq sq aoq nq cpq eq (Tq)∧NbD v6 gs sd aod nd cpd ed (ss (j+1))∧Bw W v6):=(by
       have hg:=HG.out
       rw[hv6]
       exact⟨HI5.out.1.1.other HI5.out.1.2.2.1.1 (by omega) _ _ _,HI5.out.1.2.1.other HI5.out.1.2.2.1.1 (by omega) _ _ _,HI5.out.1.2.2.1.put HI5.out.2,below_store3 HI5.out.1.2.2.2 (by omega) _ _ _⟩:(NbD v6 gx sx aox nx cpx ex (xs j)∧NbD v6 gq sq aoq nq cpq eq (Tq)∧NbD v6 gs sd aod nd cpd ed (ss (j+1))∧Bw W v6))
      rw[←hv6]
      clear hv6 HI5 z0 z1 z2 f3 f4 f5
      obtain⟨⟨y0,y1,y2⟩,f3,f4,f5⟩:=box_cells29 HI6.out.1.1
      obtain⟨⟨z0,z1,z2⟩,-⟩:=box_cells29 HI6.out.2.1.1
      have kk:=HkX.out j v6 _ _ HLT.out HI6.out.1.2 HI6.out.2.1.2
      clear HkX
      go_wp2_with fail
      refine kk.mono ?_
      rintro r v7 ⟨sy,aoy,ny,cpy,ey,rfl,hdx,hbx⟩
      have HI7:Hid ((NbD v7 gx sx aox nx cpx ex (xs j)∧NbD v7 gq sq aoq nq cpq eq (Tq)∧NbD v7 gs sd aod nd cpd ed (ss (j+1))∧Bw W v7)∧DN v7 (.agg #[.bool sy,.slice aoy ny cpy,.int .i64 ey]) (xs (j+1))):=⟨⟨HI6.out.1.later hbx,HI6.out.2.1.later hbx,HI6.out.2.2.1.later hbx,HI6.out.2.2.2.trans (hbx.mono HI6.out.2.2.2.size)⟩,hdx⟩
      clear kk hdx hbx HI6 y0 y1 y2 z0 z1 z2 f3 f4 f5
      obtain⟨⟨y0,y1,y2⟩,f3,f4,f5⟩:=box_cells29 HI7.out.1.1.1
      have hgx:=HG.out
      obtain⟨v8,hv8⟩:∃ V,V=((v7.setCell ⟨gx,0,none⟩ (.bool sy)).setCell ⟨gx,1,none⟩ (.slice aoy ny cpy)).setCell ⟨gx,2,none⟩ (.int .i64 ey):=⟨_,rfl⟩
      have HI8:Hid (NbD v8 gx sy aoy ny cpy ey (xs (j+1))∧NbD v8 gq sq aoq nq cpq eq (Tq)∧NbD v8 gs sd aod nd cpd ed (ss (j+1))∧Bw W v8):=(by
       rw[hv8]
       exact⟨HI7.out.1.1.put HI7.out.2,HI7.out.1.2.1.other HI7.out.1.1.1 (by omega) _ _ _,HI7.out.1.2.2.1.other HI7.out.1.1.1 (by omega) _ _ _,below_store3 HI7.out.1.2.2.2 (by omega) _ _ _⟩:(NbD v8 gx sy aoy ny cpy ey (xs (j+1))∧NbD v8 gq sq aoq nq cpq eq (Tq)∧NbD v8 gs sd aod nd cpd ed (ss (j+1))∧Bw W v8))
      clear hgx
      go_wp2_with fail
      rw[←hv8]
      clear hv8
      exact⟨⟨j+1,_,_,_,_,_,_,_,_,_,_,rfl,by have:=HLT.out;omega,HI8⟩,by have:=HLT.out;simp[intOf];omega⟩
def invZ (tu:Bool) (n p j:Nat):Int:=if tu then(evS n p j:Int) - odS n p j else(evS n p j:Int)+odS n p j
theorem inv_next (tu:Bool) (n p j:Nat):invZ tu n p (j+1)=invZ tu n p j+(if(tu&&decide (j % 2=1))=true then -((pwS n p j / (2*j+1):Nat):Int) else((pwS n p j / (2*j+1):Nat):Int)):=by
 unfold invZ
 rcases(show j % 2=0∨j % 2=1 by omega)with h|h
 ·have e1:evS n p (j+1)=evS n p j+pwS n p j / (2*j+1):=by rw[evS,if_pos h]
  have e2:odS n p (j+1)=odS n p j:=by rw[odS,if_pos h]
  rw[e1,e2,decide_eq_false (show ¬ j % 2=1 by omega),Bool.and_false]
  cases tu <;> simp <;> omega
 ·have e1:evS n p (j+1)=evS n p j:=by rw[evS,if_neg (by omega)]
  have e2:odS n p (j+1)=odS n p j+pwS n p j / (2*j+1):=by rw[odS,if_neg (by omega)]
  rw[e1,e2,decide_eq_true h,Bool.and_true]
  cases tu <;> simp <;> omega
theorem inv_small (tu:Bool) {n p j:Nat} (hj:j≤1000000):(invZ tu n p j).natAbs<2^(p+22):=by
 obtain⟨h1,h2⟩:=sS_le n p j
 have hp:=Nat.two_pow_pos p
 have h3:j*2^p≤1000000*2^p:=Nat.mul_le_mul_right _ hj
 rw[Nat.pow_add,show(2:Nat)^22=4194304 by decide]
 generalize 2^p=P at *
 unfold invZ
 cases tu <;> simp <;> omega
theorem inv_end {n p : Nat} (hn : 2 ≤ n) : ∃ J, J ≤ p + 1 ∧ pwS n p J < 2 ∧ ∀ j, j < J → 2 ≤ pwS n p j := by
  have key : ∀ m, (∃ J, J ≤ m ∧ pwS n p J < 2 ∧ ∀ j, j < J → 2 ≤ pwS n p j) ∨ ∀ j, j ≤ m → 2 ≤ pwS n p j := by
    intro m
    induction m with
    | zero =>
      by_cases h : pwS n p 0 < 2
      · exact .inl ⟨0, Nat.le_refl _, h, fun j hj => by omega⟩
      · exact .inr fun j hj => by obtain rfl : j = 0 := by omega
                                  omega
    | succ m ih =>
      rcases ih with ⟨J, h1, h2, h3⟩ | h
      · exact .inl ⟨J, by omega, h2, h3⟩
      · by_cases h0 : pwS n p (m + 1) < 2
        · exact .inl ⟨m + 1, Nat.le_refl _, h0, fun j hj => h j (by omega)⟩
        · refine .inr fun j hj => ?_
          rcases (show j ≤ m ∨ j = m + 1 by omega) with h1 | rfl
          · exact h j h1
          · omega
  rcases key (p + 1) with h | h
  · exact h
  · exfalso
    have h1 := h (p + 1) (Nat.le_refl _)
    have := pwS_pos hn (show pwS n p (p + 1) ≠ 0 by omega)
    omega
theorem pwS_small (n p j:Nat):pwS n p j<2^(p+1):=by
 have:=pwS_le n p j
 have hp:=Nat.two_pow_pos p
 rw[Nat.pow_succ];omega
theorem dinv {n p J:Nat} (tu:Bool) {w:World} (hn1:2≤n) (hn2:n≤65535) (hp:p≤40000) (hJ:J≤p+1) (h1:pwS n p J<2) (h2:∀ j,j<J→2≤pwS n p j) :
  Calls Tryz.prog 92 #[.int .i64 n,.int .i64 p,.bool tu] w fun r w'=>OutD w (un (invZ tu n p J) p) r w':=by
 have hnn:n*n≤65535*65535:=Nat.mul_le_mul hn2 hn2
 have wh:∀ (k:Nat) (W:World),k≤65535*65535→Calls Tryz.prog 24 #[.int .i64 k] W fun r w'=>OutD W (un k 0) r w':=fun k W hk=>(gwhole (n:=(k:Int)) (w:=W) (by omega)).mono fun r w' h=>outD h
 have bk:∀ k:Nat,k≤65535*65535→k<2^32:=by
  intro k hk
  have:(2:Nat)^32=4294967296:=by decide
  omega
 have hpw:∀ j,((pwS n p j:Nat):Int).natAbs<2^(p+1):=fun j=>by rw[Int.natAbs_natCast];exact pwS_small n p j
 refine dinv_1 (n:Int) ((n*n:Nat):Int) (p:Int) tu J (un 1 0) (un n 0) (un ((n*n:Nat):Int) 0) (fun j=>un ((pwS n p j:Nat):Int) p) (fun j=>un (invZ tu n p j) p) (fun j=>un ((pwS n p j / (2*j+1):Nat):Int) p) (fun j=>un (-((pwS n p j / (2*j+1):Nat):Int)) p) (fun j=>un ((2*j+1:Nat):Int) 0) w (by omega) (by rw[IntKind.wrap_i64,show(n:Int)*(n:Int)=((n*n:Nat):Int) by simp];omega) ?_ (fun W=>wh 1 W (by omega)) (fun W=>wh n W (by omega)) (fun W X Y hX hY=>?_) (fun W=>wh (n*n) W hnn) (fun j W X hj hX=>?_) (fun j W hj=>?_) (fun j W X Y hj hX hY=>?_) (fun j W X hj hX=>?_) (fun j W X Y hj hX hY=>?_) (fun j W X Y hj hX hY=>?_)
 ·show un (invZ tu n p 0) p=(false,0,0)
  rw[show invZ tu n p 0=0 by unfold invZ evS odS;cases tu <;> rfl,un_zero]
 ·have k:=dover (a:=1) (b:=(n:Int)) (p:=0) (q:=0) (r:=p) (bA:=1) (bB:=32) (by omega) (by decide) (by rw[Int.natAbs_natCast];exact bk n (by omega)) (by omega) (by omega) (by omega) (by omega) (by omega) hX hY
  have e:1*((2^(p+0):Nat):Int) / ((n:Int)*((2^0:Nat):Int))=((pwS n p 0:Nat):Int):=by
   unfold pwS
   simp
  rw[e] at k
  exact k
 ·refine(dleast (hpw j) (by omega) (by omega) hX).mono fun r w' ⟨e,hb⟩=>⟨?_,hb⟩
  rw[e,Int.natAbs_natCast]
  congr 2
  by_cases h:j=J
  ·rw[decide_eq_true h,h,decide_eq_true h1]
  ·rw[decide_eq_false h,decide_eq_false (by have:=h2 j (by omega);omega)]
 ·have k:=wh (2*j+1) W (by omega)
  rw[show((2*j+1:Nat):Int)=2*(j:Int)+1 by omega] at k
  show Calls _ _ _ _ fun r w'=>OutD W (un ((2*j+1:Nat):Int) 0) r w'
  rw[show((2*j+1:Nat):Int)=2*(j:Int)+1 by omega]
  exact k
 ·exact dover1 (k:=2*j+1) (bB:=32) (by omega) (hpw j) (bk _ (by omega)) (by omega) (by omega) (by omega) hX hY
 ·have k:=gminus hX
  rw[gN_un] at k
  exact k.mono fun r w' h=>outD h
 ·have hsel:(if(tu&&decide (j % 2=1))=true then un (-((pwS n p j / (2*j+1):Nat):Int)) p else un ((pwS n p j / (2*j+1):Nat):Int) p)=un (if(tu&&decide (j % 2=1))=true then -((pwS n p j / (2*j+1):Nat):Int) else((pwS n p j / (2*j+1):Nat):Int)) p:=by split <;> rfl
  have hY':=hY
  simp only[hsel] at hY'
  have hts:(if(tu&&decide (j % 2=1))=true then -((pwS n p j / (2*j+1):Nat):Int) else((pwS n p j / (2*j+1):Nat):Int)).natAbs<2^(p+1):=by
   have h3:=pwS_small n p j
   have h4:=Nat.div_le_self (pwS n p j) (2*j+1)
   split
   ·rw[Int.natAbs_neg,Int.natAbs_natCast];omega
   ·rw[Int.natAbs_natCast];omega
  have k:=gplus (un_gn (inv_small tu (by omega)) (by omega) (by omega)) (un_gn hts (by omega) (by omega)) hX hY'
  rw[gS_un,←inv_next] at k
  exact k.mono fun r w' h=>outD h
 ·have k:=dover1 (k:=n*n) (bB:=32) (Nat.mul_pos (by omega) (by omega)) (hpw j) (bk _ hnn) (by omega) (by omega) (by omega) hX hY
  have e:((pwS n p j:Nat):Int) / ((n*n:Nat):Int)=((pwS n p (j+1):Nat):Int):=by
   rw[←pwS_next];simp
  rw[e] at k
  exact k
end Go.Proofs.YtapooodfgcjoaaaGreat
namespace Go.Proofs.YtapooodfgcjoaaaGreat
open Go.RowKit
structure ParR (dep:Nat→List Nat) (W0:World) (a0:Act) (m n:Nat) (slot:Nat→Tmp) (vs gs:Nat→Nat) (B:Nat) (T:TypeId) (C:Array Value→Prop) (z:Nat) (V:Nat→World→Value→Prop) (listed:Array Bool) (a:Act) (w:World):Prop where
 kept:KeepB n gs B W0 w
 size:a.tmps.size=a0.tmps.size
 defers:a.defers=a0.defers
 other:∀ s,(∀ j,j<m→s≠slot j)→a.tmps[s]?=a0.tmps[s]?
 val:∀ j,j<m→listed.getD j false=true→∃ u,a.tmps[slot j]?=some u∧V j w u
 box:∀ k,k<n→∃ cs,w.heap[gs k]?=some (.cells cs T (0,0))∧cs.size=z∧C cs∧(listed.getD (m+k) false=true→a.tmps[slot (vs k)]?=some (.agg cs))∧(listed.getD (m+k) false=false→w.heap[gs k]?=W0.heap[gs k]?)
 stored:∀ k,k<n→listed.getD (m+k) false=true→listed.getD (vs k) false=true
 closed:∀ j,j<m→listed.getD j false=true→∀ j' ∈ dep j,listed.getD j' false=true
theorem parr_region {P:Program} {ops:Array Oper} {Q:Exit→Act→World→Prop} {id:Nat} (hm:P.follows .mixedOrders=true) (m n:Nat) (slot bx:Nat→Tmp) (vs gs:Nat→Nat) (B:Nat) (dep:Nat→List Nat) (T:TypeId) (C:Array Value→Prop) (z:Nat)
  (W0:World) (a0:Act) (V:Nat→World→Value→Prop) (hsz:ops.size=m+n)
  (hord:∀ (i:Nat) (o:Oper),ops[i]?=some o→∀ e ∈ o.after,e.on<i)
  (hV1:∀ j w w' u,Bw w w'→V j w u→V j w' u)
  (hV2:∀ j w u g cs cs',w.heap[g]?=some (.cells cs T (0,0))→C cs→V j w u→V j (w.setRow g cs') u)
  (hVs:∀ k,k<n→∀ w u,V (vs k) w u→∃ cs:Array Value,u=.agg cs∧cs.size=z∧C cs∧cs.all (·.oneCell')=true)
  (hdep:∀ j,j<m→∀ j' ∈ dep j,j'<m∧∀ o,ops[j]?=some o→∃ e ∈ o.after,e.on=j'∧Region.binds .any e=true)
  (hA:∀ j,j<m→∀ (a:Act) (w:World),KeepB n gs B W0 w→(∀ s,(∀ j,j<m→s≠slot j)→a.tmps[s]?=a0.tmps[s]?) →
   (∀ j' ∈ dep j,∃ u,a.tmps[slot j']?=some u∧V j' w u)→(∀ k,k<n→j ∈ dep (vs k)→w.heap[gs k]?=W0.heap[gs k]?)→wpOp P ops Q j (fun a' w'=>∃ u,a'=a.put (some (slot j)) u∧V j w' u∧Bw w w') a w)
  (hi:(P.info? T).map (·.size)=some z)
  (hst:∀ k,k<n→vs k<m∧∃ o,ops[m+k]?=some o∧o.guard=none∧o.op=.store T (.tmp (bx k)) (.tmp (slot (vs k)))∧o.dst=none∧(∃ e ∈ o.after,e.on=vs k∧Region.binds .any e=true))
  (hbx:∀ k,k<n→a0.tmps[bx k]?=some (.pointer (some ⟨gs k,0,none⟩))∧∀ j,j<m→bx k≠slot j)
  (hbox:∀ k,k<n→B≤gs k∧∃ cs,W0.heap[gs k]?=some (.cells cs T (0,0))∧cs.size=z∧C cs)
  (hgs:∀ k k',k<n→k'<n→gs k=gs k'→k=k') (hB:B≤W0.heap.size)
  (hin:∀ j,j<m→slot j<a0.tmps.size)
  (hinj:∀ j j',j<m→j'<m→slot j=slot j'→j=j')
  (hQ:∀ (u:Nat→Value) (a:Act) (w:World),KeepB n gs B W0 w→(∀ j,j<m→a.tmps[slot j]?=some (u j)∧V j w (u j)) →
   (∀ k,k<n→∃ cs,u (vs k)=.agg cs∧w.heap[gs k]?=some (.cells cs T (0,0))) →
   a.tmps.size=a0.tmps.size→a.defers=a0.defers→(∀ s,(∀ j,j<m→s≠slot j)→a.tmps[s]?=a0.tmps[s]?)→Q .normal a w) :
  (Code.region id ops true).wp P Q a0 W0:=by
 refine wp_region_any hm ?_
 refine wpAny_inv (ParR dep W0 a0 m n slot vs gs B T C z V) ?_ ?_ ops.size _ a0 _ (by simp) ?_ (by simp)
 ·-- a step
  intro listed a w i hl hI hr
  obtain⟨hun,o,ho,hall⟩:=mem_ready.1 hr
  have hunf:=not_listed hun
  have hio:i<ops.size:=(Array.getElem?_eq_some_iff.1 ho).1
  have hil:i<listed.size:=by omega
  have hset:=listed_set hil
  have hne:∀ x,x≠i→(listed.setIfInBounds i true).getD x false=listed.getD x false:=fun x hx=>getD_set_ne false (Ne.symm hx)
  have hpart:i<m∨∃ k,k<n∧i=m+k:=by
   by_cases h1:i<m
   ·exact .inl h1
   ·exact .inr ⟨i - m,by omega,by omega⟩
  rcases hpart with him|⟨k,hk,rfl⟩
  ·refine wpOp_mono ?_ (hA i him a w hI.kept hI.other (fun j' hj'=>?_) (fun k hk hjk=>?_))
   ·rintro a' w' ⟨u,rfl,hu,hb⟩
    have hlt:slot i<a.tmps.size:=by rw[hI.size];exact hin i him
    refine⟨hI.kept.step hB hb,by rw[put_size];exact hI.size,by rw[put_defers];exact hI.defers,fun s h1=>?_,fun j hj h1=>?_,fun k hk=>?_,fun k hk h1=>?_,fun j hj h1 j' hj'=>?_⟩
    ·rw[put_get_ne (h1 i him)];exact hI.other s h1
    ·by_cases e:j=i
     ·subst e;exact⟨u,put_get hlt,hu⟩
     ·rw[hne j e] at h1
      obtain⟨u',g1,g2⟩:=hI.val j hj h1
      exact⟨u',by rw[put_get_ne (fun e2=>e (hinj j i hj him e2))];exact g1,hV1 _ _ _ _ hb g2⟩
    ·obtain⟨cs,g3,g4,g5,g6,g7⟩:=hI.box k hk
     refine⟨cs,(hb.block _ (Array.getElem?_eq_some_iff.1 g3).1).trans g3,g4,g5,fun h2=>?_,fun h2=>(hb.block _ (Array.getElem?_eq_some_iff.1 g3).1).trans (g7 (by rw[←hne (m+k) (by omega)];exact h2))⟩
     rw[hne _ (by omega)] at h2
     have h3:=hI.stored k hk h2
     have h4:vs k≠i:=fun e=>by rw[e,hunf] at h3;cases h3
     rw[put_get_ne (fun e2=>h4 (hinj _ _ (hst k hk).1 him e2))]
     exact g6 h2
    ·rw[hne _ (by omega)] at h1
     exact getD_set_true (hI.stored k hk h1)
    ·by_cases e:j=i
     ·subst e
      obtain⟨h3,h4⟩:=hdep j him j' hj'
      obtain⟨e,he,rfl,hbd⟩:=h4 o ho
      exact getD_set_true (hall e he hbd)
     ·rw[hne j e] at h1
      exact getD_set_true (hI.closed j hj h1 j' hj')
   ·obtain⟨h1,h2⟩:=hdep i him j' hj'
    obtain⟨e,he,rfl,hbd⟩:=h2 o ho
    exact hI.val _ h1 (hall e he hbd)
   ·obtain⟨cs,g3,g4,g5,g6,g7⟩:=hI.box k hk
    refine g7 ?_
    cases hs:listed.getD (m+k) false
    ·rfl
    ·have h3:=hI.closed (vs k) (hst k hk).1 (hI.stored k hk hs) i hjk
     rw[hunf] at h3;cases h3
  ·obtain⟨hvm,o',ho',hg,hop,hd,e2,he2,hon2,hb2⟩:=hst k hk
   obtain rfl:o'=o:=Option.some.inj (ho'.symm.trans ho)
   have l2:=hall e2 he2 hb2
   rw[hon2] at l2
   obtain⟨u,hu1,hu2⟩:=hI.val _ hvm l2
   obtain⟨cs,rfl,hc1,hcC,hc2⟩:=hVs k hk w u hu2
   obtain⟨old,g3,g4,g5,g6,-⟩:=hI.box k hk
   have hbk:a.tmps[bx k]?=some (.pointer (some ⟨gs k,0,none⟩)):=by rw[hI.other _ (hbx k hk).2];exact(hbx k hk).1
   refine step_store ho' hg hop hbk hu1 g3 (by rw[hc1];exact hi) (by omega) hc2 ?_
   rw[hd]
   show ParR dep W0 a0 m n slot vs gs B T C z V _ a _
   refine⟨hI.kept.row hk (hbox k hk).1 _,hI.size,hI.defers,hI.other,fun j hj h1=>?_,fun k1 hk1=>?_,fun k1 hk1 h1=>?_,fun j hj h1 j' hj'=>?_⟩
   ·rw[hne j (by omega)] at h1
    obtain⟨u',q1,q2⟩:=hI.val j hj h1
    exact⟨u',q1,hV2 _ _ _ _ _ _ g3 g5 q2⟩
   ·by_cases e:k1=k
    ·subst e
     exact⟨cs,setRow_heap w (gs k1) old cs T _ g3,hc1,hcC,fun _=>hu1,fun h2=>by rw[hset] at h2;cases h2⟩
    ·obtain⟨cs',q3,q4,q5,q6,q7⟩:=hI.box k1 hk1
     have hgg:gs k1≠gs k:=fun e2=>e (hgs k1 k hk1 hk e2)
     refine⟨cs',(setRow_other w (gs k) (gs k1) cs hgg).trans q3,q4,q5,fun h2=>?_,fun h2=>(setRow_other w (gs k) (gs k1) cs hgg).trans (q7 (by rw[←hne (m+k1) (by omega)];exact h2))⟩
     rw[hne _ (by omega)] at h2
     exact q6 h2
   ·by_cases e:k1=k
    ·subst e
     exact getD_set_true l2
    ·rw[hne _ (by omega)] at h1
     exact getD_set_true (hI.stored k1 hk1 h1)
   ·rw[hne j (by omega)] at h1
    exact getD_set_true (hI.closed j hj h1 j' hj')
 ·-- the end: all have come up
  intro listed a w hl hI hr
  have hfull:∀ i,i<ops.size→listed.getD i false=true:=by
   intro i
   induction i using Nat.strongRecOn with
   | _ i ih =>
    intro hi
    cases hx:listed.getD i false with
    | true=>rfl
    | false =>
     exfalso
     have ho:ops[i]?=some ops[i]:=Array.getElem?_eq_getElem hi
     have:i ∈ Region.ready .any ops listed:=by
      refine mem_ready.2 ⟨?_,ops[i],ho,fun e he _=>ih e.on (hord i _ ho e he) (Nat.lt_trans (hord i _ ho e he) hi)⟩
      have hil:i<listed.size:=by omega
      simp only[Array.getD_eq_getD_getElem?,Array.getElem?_eq_getElem hil,Option.getD_some] at hx ⊢
      exact hx
     rw[hr] at this
     cases this
  have hval:∀ j,∃ u,j<m→a.tmps[slot j]?=some u∧V j w u:=fun j=>by
   by_cases hj:j<m
   ·obtain⟨u,h1,h2⟩:=hI.val j hj (hfull j (by omega))
    exact⟨u,fun _=>⟨h1,h2⟩⟩
   ·exact⟨undef,fun h=>absurd h hj⟩
  obtain⟨u,hu⟩:=Classical.axiomOfChoice hval
  refine hQ u a w hI.kept hu (fun k hk=>?_) hI.size hI.defers hI.other
  obtain⟨cs,h3,h4,h5,h6,-⟩:=hI.box k hk
  have h7:=h6 (hfull _ (by omega))
  rw[(hu _ (hst k hk).1).1] at h7
  exact⟨cs,Option.some.inj h7,h3⟩
 ·-- the start
  have h0:∀ x,(Array.replicate ops.size false).getD x false=true→False:=fun x h=>by
   simp[Array.getD_eq_getD_getElem?,Array.getElem?_replicate] at h
   split at h <;> simp at h
  refine⟨⟨(Below.refl _ _).drew,Nat.le_refl _,fun _ _ _=>rfl⟩,rfl,rfl,fun _ _=>rfl,fun j _ h=>(h0 _ h).elim,fun k hk=>?_,fun k _ h=>(h0 _ h).elim,fun j _ h=>(h0 _ h).elim⟩
  obtain⟨-,cs,h1,h2,h3⟩:=hbox k hk
  exact⟨cs,h1,h2,h3,fun h=>(h0 _ h).elim,fun _=>rfl⟩
end Go.Proofs.YtapooodfgcjoaaaGreat
namespace Go.Proofs.YtapooodfgcjoaaaGreat
open Go.RowKit Go.Fl64
def lnV (s:Bool) (ao:Option Addr) (n cp:Nat) (e:Int) (p:Int) (S Tc Ti Tt To:Bool×Nat×Int) (j:Nat) (w:World) (u:Value):Prop :=
 match j with
 | 0=>u=.agg #[.bool s,.slice ao n cp,.int .i64 e]∧DN w u S
 | 1=>DN w u Tc
 | 2=>u=.int .i64 p
 | 3=>DN w u Ti
 | 4=>DN w u Tt
 | _=>DN w u To
def lnD (j:Nat):List Nat :=
 match j with
 | 3 => [2]
 | 4 => [1,3]
 | 5 => [0,4]
 | _ => []
theorem lnV_cases (i:Nat):i=0∨i=1∨i=2∨i=3∨i=4∨∃ k,i=k+5:=by
 by_cases h:5≤i
 ·exact .inr (.inr (.inr (.inr (.inr ⟨i - 5,by omega⟩))))
 ·omega
structure LnOps (ops:Array Oper) (f:FuncId) (c N:Int) (sl:Nat) (src tgt:Tmp):Prop where
 o0:∃ o,ops[0]?=some o∧o.guard=none∧o.op=.load 45 (.tmp src)∧o.dst=some sl
 o1:∃ o,ops[1]?=some o∧o.guard=none∧(∃ ts,o.op=.call { callee:=.value (.func 24),args:=#[.const (.int .i64 c)],argTypes:=ts })∧o.dst=some (sl+1)
 o2:∃ o,ops[2]?=some o∧o.guard=none∧o.op=.move (.tmp 0)∧o.dst=some (sl+2)
 o3:∃ o,ops[3]?=some o∧o.guard=none∧(∃ ts,o.op=.call { callee:=.value (.func 92),args:=#[.const (.int .i64 N),.tmp (sl+2),.const (.bool false)],argTypes:=ts })∧o.dst=some (sl+3)∧∃ e ∈ o.after,e.on=2∧Region.binds .any e=true
 o4:∃ o,ops[4]?=some o∧o.guard=none∧(∃ ts,o.op=.call { callee:=.value (.func 33),args:=#[.tmp (sl+1),.tmp (sl+3)],argTypes:=ts })∧o.dst=some (sl+4)∧(∃ e ∈ o.after,e.on=1∧Region.binds .any e=true)∧∃ e ∈ o.after,e.on=3∧Region.binds .any e=true
 o5:∃ o,ops[5]?=some o∧o.guard=none∧(∃ ts,o.op=.call { callee:=.value (.func f),args:=#[.tmp sl,.tmp (sl+4)],argTypes:=ts })∧o.dst=some (sl+5)∧(∃ e ∈ o.after,e.on=0∧Region.binds .any e=true)∧∃ e ∈ o.after,e.on=4∧Region.binds .any e=true
 o6:∃ o,ops[6]?=some o∧o.guard=none∧o.op=.store 45 (.tmp tgt) (.tmp (sl+5))∧o.dst=none∧∃ e ∈ o.after,e.on=5∧Region.binds .any e=true
theorem eval_const {a:Act} {v:Value}:a.eval (.const v)=v:=rfl
theorem lnr_region {ops:Array Oper} {Q:Exit→Act→World→Prop} {id:Nat} (f:FuncId) (hcf:∀ vs w,(callFunc f vs).run Tryz.prog w=.ok (.enter f vs) w) (c N p:Int) (sl:Nat) (src tgt:Tmp) (gL gT B:Nat) (s:Bool) (ao:Option Addr) (n cp:Nat) (e:Int) (S Tc Ti Tt To:Bool×Nat×Int) (W0:World) (a0:Act)
  (hsz:ops.size=7) (hord:∀ (i:Nat) (o:Oper),ops[i]?=some o→∀ e ∈ o.after,e.on<i) (h:LnOps ops f c N sl src tgt)
  (hsrc:a0.tmps[src]?=some (.pointer (some ⟨gL,0,none⟩))) (htgt:a0.tmps[tgt]?=some (.pointer (some ⟨gT,0,none⟩))) (hp0:a0.tmps[0]?=some (.int .i64 p))
  (hfr:∀ j,j<6→src≠sl+j∧tgt≠sl+j∧(0:Tmp)≠sl+j) (hin:∀ j,j<6→sl+j<a0.tmps.size)
  (hL:∀ w',KeepB 1 (fun _=>gT) B W0 w'→w'.heap[gT]?=W0.heap[gT]?→NbD w' gL s ao n cp e S) (hB:B≤gT) (hT:∃ cs,W0.heap[gT]?=some (.cells cs 45 (0,0))∧cs.size=3∧NumC cs)
  (kW:∀ W:World,Calls Tryz.prog 24 #[.int .i64 c] W fun r w'=>OutD W Tc r w') (kI:∀ W:World,Calls Tryz.prog 92 #[.int .i64 N,.int .i64 p,.bool false] W fun r w'=>OutD W Ti r w')
  (kT:∀ (W:World) X Y,DN W X Tc→DN W Y Ti→Calls Tryz.prog 33 #[X,Y] W fun r w'=>OutD W Tt r w') (kF:∀ (W:World) X Y,DN W X S→DN W Y Tt→Calls Tryz.prog f #[X,Y] W fun r w'=>OutD W To r w')
  (hQ:∀ (u:Nat→Value) (w:World) s' ao' n' cp' e',KeepB 1 (fun _=>gT) B W0 w→NbD w gT s' ao' n' cp' e' To→Q .normal (putL a0 ((List.range 6).map (fun j=>(sl+j,u j)))) w) :
  (Code.region id ops true).wp Tryz.prog Q a0 W0:=by
 have hTl:gT<W0.heap.size:=by obtain⟨cs,h1,-⟩:=hT;exact(Array.getElem?_eq_some_iff.1 h1).1
 refine parr_region follows_mixed 6 1 (fun j=>sl+j) (fun _=>tgt) (fun _=>5) (fun _=>gT) B lnD 45 NumC 3 W0 a0 (lnV s ao n cp e p S Tc Ti Tt To) hsz hord ?_ ?_ ?_ ?_ ?_ Tryz.info45 ?_ ?_ ?_ ?_ (by omega) hin (fun i i' _ _ h=>Nat.add_left_cancel h) ?_
 ·intro i W W' u hb h
  rcases lnV_cases i with rfl|rfl|rfl|rfl|rfl|⟨k,rfl⟩
  ·exact⟨h.1,h.2.later hb⟩
  ·exact DN.later (t:=Tc) h hb
  ·exact h
  ·exact DN.later (t:=Ti) h hb
  ·exact DN.later (t:=Tt) h hb
  ·exact DN.later (t:=To) h hb
 ·intro i W u g cs cs' hg hC h
  rcases lnV_cases i with rfl|rfl|rfl|rfl|rfl|⟨k,rfl⟩
  ·exact⟨h.1,h.2.grow hg hC _⟩
  ·exact DN.grow (t:=Tc) h hg hC _
  ·exact h
  ·exact DN.grow (t:=Ti) h hg hC _
  ·exact DN.grow (t:=Tt) h hg hC _
  ·exact DN.grow (t:=To) h hg hC _
 ·intro k hk W u h
  exact DN.cells (show DN W u To from h)
 ·intro i hi j' hj'
  rcases glt6 hi with rfl|rfl|rfl|rfl|rfl|rfl
  ·simp[lnD] at hj'
  ·simp[lnD] at hj'
  ·simp[lnD] at hj'
  ·obtain rfl:j'=2:=by simpa [lnD] using hj'
   refine⟨by omega,fun o ho=>?_⟩
   obtain⟨o',ho',-,-,-,e1⟩:=h.o3
   obtain rfl:o'=o:=Option.some.inj (ho'.symm.trans ho)
   exact e1
  ·obtain⟨o',ho',-,-,-,e1,e2⟩:=h.o4
   have:j'=1∨j'=3:=by simpa [lnD] using hj'
   refine⟨by omega,fun o ho=>?_⟩
   obtain rfl:o'=o:=Option.some.inj (ho'.symm.trans ho)
   rcases this with rfl|rfl
   ·exact e1
   ·exact e2
  ·obtain⟨o',ho',-,-,-,e1,e2⟩:=h.o5
   have:j'=0∨j'=4:=by simpa [lnD] using hj'
   refine⟨by omega,fun o ho=>?_⟩
   obtain rfl:o'=o:=Option.some.inj (ho'.symm.trans ho)
   rcases this with rfl|rfl
   ·exact e1
   ·exact e2
 ·intro i hi a' W hb hoth hdep hold
  rcases glt6 hi with rfl|rfl|rfl|rfl|rfl|rfl
  ·obtain⟨o,ho,hg,hop,hd⟩:=h.o0
   have hx:=hL W hb (hold 0 (by omega) (by simp[lnD]))
   exact ostep_load ho hg hop (run_loadNum _ _ _ _ _ _ W hx.1) (by rw[hoth src (fun j hj=>(hfr j hj).1)];exact hsrc) ⟨_,by rw[hd];rfl,⟨rfl,hx.2⟩,Below.refl _ _⟩
  ·obtain⟨o,ho,hg,⟨ts,hop⟩,hd⟩:=h.o1
   refine step_call ho hg hop (enters Tryz.func24 (by kernel_rfl) (by kernel_rfl)) (vs:=#[.int .i64 c]) (by simp only[List.map_toArray,List.map_cons,List.map_nil];rfl) ?_
   refine(kW W).mono ?_
   rintro r w' ⟨_,_,_,_,_,rfl,hE,hb'⟩
   exact⟨_,rfl,_,by rw[hd],hE,hb'⟩
  ·obtain⟨o,ho,hg,hop,hd⟩:=h.o2
   exact ostep_move ho hg hop (by rw[hoth 0 (fun j hj=>(hfr j hj).2.2)];exact hp0) ⟨_,by rw[hd],rfl,Below.refl _ _⟩
  ·obtain⟨o,ho,hg,⟨ts,hop⟩,hd,-⟩:=h.o3
   obtain⟨u,hu,hv⟩:=hdep 2 (by simp[lnD])
   obtain rfl:u=_:=hv
   refine step_call ho hg hop (enters Tryz.func92 (by kernel_rfl) (by kernel_rfl)) (vs:=#[.int .i64 N,.int .i64 p,.bool false]) (by simp only[List.map_toArray,List.map_cons,List.map_nil];rw[eval_get hu];rfl) ?_
   refine(kI W).mono ?_
   rintro r w' ⟨_,_,_,_,_,rfl,hE,hb'⟩
   exact⟨_,rfl,_,by rw[hd],hE,hb'⟩
  ·obtain⟨o,ho,hg,⟨ts,hop⟩,hd,-⟩:=h.o4
   obtain⟨u1,hu1,hv1⟩:=hdep 1 (by simp[lnD])
   obtain⟨u3,hu3,hv3⟩:=hdep 3 (by simp[lnD])
   refine step_call ho hg hop (enters Tryz.func33 (by kernel_rfl) (by kernel_rfl)) (vs:=#[u1,u3]) (by simp only[List.map_toArray,List.map_cons,List.map_nil];rw[eval_get hu1,eval_get hu3]) ?_
   refine(kT W u1 u3 hv1 hv3).mono ?_
   rintro r w' ⟨_,_,_,_,_,rfl,hE,hb'⟩
   exact⟨_,rfl,_,by rw[hd],hE,hb'⟩
  ·obtain⟨o,ho,hg,⟨ts,hop⟩,hd,-⟩:=h.o5
   obtain⟨u0,hu0,hv0⟩:=hdep 0 (by simp[lnD])
   obtain⟨u4,hu4,hv4⟩:=hdep 4 (by simp[lnD])
   refine step_call ho hg hop hcf (vs:=#[u0,u4]) (by simp only[List.map_toArray,List.map_cons,List.map_nil];rw[eval_get (show a'.tmps[sl]?=some u0 from hu0),eval_get hu4]) ?_
   refine(kF W u0 u4 hv0.2 hv4).mono ?_
   rintro r w' ⟨_,_,_,_,_,rfl,hE,hb'⟩
   exact⟨_,rfl,_,by rw[hd],hE,hb'⟩
 ·intro k hk
  obtain rfl:k=0:=by omega
  obtain⟨o,ho,hg,hop,hd,he⟩:=h.o6
  exact⟨by omega,o,ho,hg,hop,hd,he⟩
 ·intro k hk
  exact⟨htgt,fun j hj=>(hfr j hj).2.1⟩
 ·intro k hk
  obtain⟨cs,h1,h2,h3⟩:=hT
  exact⟨hB,cs,h1,h2,h3⟩
 ·intro k k' hk hk' _;omega
 ·intro u a' w' hb hu hg hs' hd' hoth
  have e5:DN w' (u 5) To:=(hu 5 (by omega)).2
  obtain⟨cs,hcs,hbx⟩:=hg 0 (by omega)
  obtain⟨st,aot,nt,cpt,et,hsh⟩:=e5.shape
  have hcs':cs = #[.bool st,.slice aot nt cpt,.int .i64 et]:=by
   have:=hcs.symm.trans hsh
   simpa using this
  rw[hcs'] at hbx
  rw[hsh] at e5
  have h1:((List.range 6).map (fun j=>((sl+j,u j):Tmp×Value))).map (fun p:Tmp×Value=>p.1)=(List.range 6).map (fun j=>sl+j):=by simp[Function.comp_def]
  have ha:=act_putL (a:=a') (a0:=a0) (l:=(List.range 6).map (fun j=>((sl+j,u j):Tmp×Value))) (by
    rw[h1]
    refine List.pairwise_map.2 ((List.nodup_range (n:=6)).imp_of_mem ?_)
    intro x y hx hy hne he
    exact hne (Nat.add_left_cancel he)) hs' hd' (by
    intro p hp
    obtain⟨i,hi,rfl⟩:=List.mem_map.1 hp
    exact(hu i (List.mem_range.1 hi)).1) (fun s hsn=>hoth s (fun i hi he=>hsn (List.mem_map.2 ⟨_,List.mem_map.2 ⟨i,List.mem_range.2 hi,rfl⟩,he.symm⟩)))
  rw[ha]
  exact hQ u w' _ _ _ _ _ hb ⟨hbx,e5⟩
theorem DN.kept {W0 w':World} {A:Value} {t:Bool×Nat×Int} {m:Nat} {gs:Nat→Nat} {B:Nat} (h:DN W0 A t) (hk:KeepB m gs B W0 w') (hc:∀ k,k<m→∃ cs T,W0.heap[gs k]?=some (.cells cs T (0,0))∧NumC cs):DN w' A t:=by
 obtain⟨ao,cap,h1,h2⟩:=h
 refine⟨ao,cap,h1,h2.nil,?_,h2.le,h2.small⟩
 obtain⟨bb,o,g1,g2⟩:=h2.at_
 refine⟨bb,o,g1,fun i hi=>?_⟩
 have hcl:=g2 i hi
 have hlt:bb<W0.heap.size:=by
  apply Decidable.byContradiction
  intro hn
  simp only[World.cell?] at hcl
  rw[Array.getElem?_eq_none (by omega)] at hcl
  simp at hcl
 have hne:∀ k,k<m→bb≠gs k:=by
  intro k hkm he
  obtain⟨cs,T,hE,s',ao',n',cp',e',rfl⟩:=hc k hkm
  subst he
  simp only[World.cell?,hE] at hcl
  rcases(show o+i=0∨o+i=1∨o+i=2∨3≤o+i by omega)with e|e|e|e
  ·rw[e] at hcl;simp at hcl
  ·rw[e] at hcl;simp at hcl
  ·rw[e] at hcl;simp at hcl
  ·rw[Array.getElem?_eq_none (by simpa using e)] at hcl;cases hcl
 have hs:=hk.keep bb hlt hne
 unfold World.cell? at hcl ⊢
 simp only at hcl ⊢
 rw[hs]
 exact hcl
theorem dln2_1 (p:Int) (T1 T2 T3 T4 T5 T6 T7 T8 T9 T10 T11:Bool×Nat×Int) (w:World)
  (qk1:∀ W:World,Calls Tryz.prog 24 #[.int .i64 18] W fun r w'=>OutD W T1 r w')
  (qk2:∀ W:World,Calls Tryz.prog 92 #[.int .i64 26,.int .i64 p,.bool false] W fun r w'=>OutD W T2 r w')
  (qk3:∀ (W:World) X Y,DN W X T1→DN W Y T2→Calls Tryz.prog 33 #[X,Y] W fun r w'=>OutD W T3 r w')
  (qk4:∀ W:World,Calls Tryz.prog 24 #[.int .i64 2] W fun r w'=>OutD W T4 r w')
  (qk5:∀ W:World,Calls Tryz.prog 92 #[.int .i64 4801,.int .i64 p,.bool false] W fun r w'=>OutD W T5 r w')
  (qk6:∀ (W:World) X Y,DN W X T4→DN W Y T5→Calls Tryz.prog 33 #[X,Y] W fun r w'=>OutD W T6 r w')
  (qk7:∀ (W:World) X Y,DN W X T3→DN W Y T6→Calls Tryz.prog 57 #[X,Y] W fun r w'=>OutD W T7 r w')
  (qk8:∀ W:World,Calls Tryz.prog 24 #[.int .i64 8] W fun r w'=>OutD W T8 r w')
  (qk9:∀ W:World,Calls Tryz.prog 92 #[.int .i64 8749,.int .i64 p,.bool false] W fun r w'=>OutD W T9 r w')
  (qk10:∀ (W:World) X Y,DN W X T8→DN W Y T9→Calls Tryz.prog 33 #[X,Y] W fun r w'=>OutD W T10 r w')
  (qk11:∀ (W:World) X Y,DN W X T7→DN W Y T10→Calls Tryz.prog 45 #[X,Y] W fun r w'=>OutD W T11 r w') :
  Calls Tryz.prog 42 #[.int .i64 p] w fun r w'=>OutD w T11 r w':=by
 have Hk1:Hid _:=qk1
 have Hk2:Hid _:=qk2
 have Hk3:Hid _:=qk3
 have Hk4:Hid _:=qk4
 have Hk5:Hid _:=qk5
 have Hk6:Hid _:=qk6
 have Hk7:Hid _:=qk7
 have Hk8:Hid _:=qk8
 have Hk9:Hid _:=qk9
 have Hk10:Hid _:=qk10
 have Hk11:Hid _:=qk11
 clear qk1 qk2 qk3 qk4 qk5 qk6 qk7 qk8 qk9 qk10 qk11
 obtain⟨W,hW⟩:∃ W,W=w.alloc (.cells #[.bool false,.slice none 0 0,.int .i64 0] 45):=⟨_,rfl⟩
 have HB:Hid (Bw w W):=(by rw[hW];exact(Below.refl _ _).alloc (Nat.le_refl _) _:Bw w W)
 have HC0:Hid (W.heap[w.heap.size]?=some (.cells #[.bool false,.slice none 0 0,.int .i64 0] 45 (0,0))):=(by rw[hW];exact heap_alloc_new _ _:W.heap[w.heap.size]?=some (.cells #[.bool false,.slice none 0 0,.int .i64 0] 45 (0,0)))
 go_enter Tryz.func42,Tryz.ntmps42
 go_upto_region 1 with fail
 rw[←hW]
 clear hW
 have kk:=Hk1.out W
 go_wp2_with fail
 refine kk.mono ?_
 rintro r u1 ⟨sa,aoa,na,cpa,ea,rfl,hd1,hb1⟩
 have D1:Hid (DN u1 (.agg #[.bool sa,.slice aoa na cpa,.int .i64 ea]) T1∧Bw W u1):=⟨hd1,hb1⟩
 clear kk hd1 hb1
 have kk:=Hk2.out u1
 go_wp2_with fail
 refine kk.mono ?_
 rintro r u2 ⟨sb,aob,nb,cpb,eb,rfl,hd2,hb2⟩
 have kk3:=Hk3.out u2 _ _ (D1.out.1.later hb2) hd2
 have D2:Hid (Bw W u2):=D1.out.2.trans (hb2.mono D1.out.2.size)
 clear kk hd2 hb2 D1
 go_wp2_with fail
 refine kk3.mono ?_
 rintro r u3 ⟨sx,aox,nx,cpx,ex,rfl,hd3,hb3⟩
 clear kk3 Hk1 Hk2 Hk3
 obtain⟨V3,hV3⟩:∃ V,V=u3.alloc (.cells #[.bool false,.slice none 0 0,.int .i64 0] 45):=⟨_,rfl⟩
 have hbV3:Bw u3 V3:=by rw[hV3];exact(Below.refl _ _).alloc (Nat.le_refl _) _
 have hzV3:V3.heap[u3.heap.size]?=some (.cells #[.bool false,.slice none 0 0,.int .i64 0] 45 (0,0)):=by rw[hV3];exact heap_alloc_new _ _
 obtain⟨⟨y0,y1,y2⟩,y3,y4,y5⟩:=box_cells29 hzV3
 have HZ:Hid (Bw W u3∧Bw u3 V3∧V3.heap[u3.heap.size]?=some (.cells #[.bool false,.slice none 0 0,.int .i64 0] 45 (0,0))∧DN u3 (.agg #[.bool sx,.slice aox nx cpx,.int .i64 ex]) T3):=⟨D2.out.trans (hb3.mono D2.out.size),hbV3,hzV3,hd3⟩
 clear hb3 hbV3 hzV3 hd3 D2
 go_upto_region 2 with (rw[←hV3];clear hV3)
 obtain⟨gx,hgx⟩:∃ g,g=u3.heap.size:=⟨_,rfl⟩
 obtain⟨W3,hW3⟩:∃ V2,V2=((V3.setCell ⟨u3.heap.size,0,none⟩ (.bool sx)).setCell ⟨u3.heap.size,1,none⟩ (.slice aox nx cpx)).setCell ⟨u3.heap.size,2,none⟩ (.int .i64 ex):=⟨_,rfl⟩
 have HX:Hid (NbD W3 gx sx aox nx cpx ex (T3)∧Bw W W3∧W.heap.size≤gx):=(by
  rw[hW3,hgx]
  exact⟨⟨store3_29 _ _ _ HZ.out.2.2.1,(HZ.out.2.2.2.later HZ.out.2.1).store3 HZ.out.2.2.1 _ _ _⟩,below_store3 (HZ.out.1.trans (HZ.out.2.1.mono HZ.out.1.size)) HZ.out.1.size _ _ _,HZ.out.1.size⟩:NbD W3 gx sx aox nx cpx ex (T3)∧Bw W W3∧W.heap.size≤gx)
 rw[←hW3,←hgx]
 clear hW3 hgx HZ y0 y1 y2 y3 y4 y5
 go_cut [3] from 8 to 13 (fun p' wx=>∃ (s':Bool) (ao':Option Addr) (n' cp':Nat) (e':Int),p'=.pointer (some ⟨gx,0,none⟩)∧Hid (NbD wx gx s' ao' n' cp' e' T7∧Bw W wx))
 case first =>
  refine lnr_region 57 (enters Tryz.func57 (by kernel_rfl) (by kernel_rfl)) 2 4801 p 8 3 3 gx gx W.heap.size sx aox nx cpx ex T3 T4 T5 T6 T7 W3 _ rfl (gord_of (by kernel_rfl)) ?_ rfl rfl rfl ?_ ?_ ?_ HX.out.2.2 ⟨_,HX.out.1.1,rfl,_,_,_,_,_,rfl⟩ Hk4.out Hk5.out Hk6.out Hk7.out ?_
  ·exact⟨⟨_,rfl,rfl,rfl,rfl⟩,⟨_,rfl,rfl,⟨_,rfl⟩,rfl⟩,⟨_,rfl,rfl,rfl,rfl⟩,⟨_,rfl,rfl,⟨_,rfl⟩,rfl,⟨2,.data⟩,by simp,rfl,rfl⟩,⟨_,rfl,rfl,⟨_,rfl⟩,rfl,⟨⟨1,.data⟩,by simp,rfl,rfl⟩,⟨3,.data⟩,by simp,rfl,rfl⟩,⟨_,rfl,rfl,⟨_,rfl⟩,rfl,⟨⟨0,.data⟩,by simp,rfl,rfl⟩,⟨4,.data⟩,by simp,rfl,rfl⟩,⟨_,rfl,rfl,rfl,rfl,⟨5,.data⟩,by simp,rfl,rfl⟩⟩
  ·decide
  ·show ∀ j,j<6→8+j<20
   decide
  ·intro w' hk he
   exact⟨he.trans HX.out.1.1,HX.out.1.2.kept hk (fun k _=>⟨_,_,HX.out.1.1,_,_,_,_,_,rfl⟩)⟩
  ·intro u wx s' ao' n' cp' e' hk hn
   have HF:Hid (NbD wx gx s' ao' n' cp' e' T7∧Bw W wx):=⟨hn,HX.out.2.1.trans hk.below⟩
   clear hn hk
   simp only[putL,show List.range 6 = [0,1,2,3,4,5] from rfl,List.map_cons,List.map_nil,List.cons_append,List.nil_append,List.foldl_cons,List.foldl_nil,Nat.reduceLT,Nat.reduceMod,Nat.reduceDiv,Nat.reduceMul,Nat.reduceAdd,Nat.reduceEqDiff,reduceIte,Nat.one_ne_zero,Act.put,List.setIfInBounds_toArray,List.set_cons_zero,List.set_cons_succ]
   go_wp2_with fail
   go_meet
   exact⟨_,_,_,_,_,rfl,HF⟩
 case rest =>
  obtain⟨v2,hv2⟩:∃ v2:World,v2=wc:=⟨_,rfl⟩
  subst hv2
  obtain⟨sy,aoy,ny,cpy,ey,rfl,HY⟩:=hcut
  clear Hk4 Hk5 Hk6 Hk7
  have HG:Hid (w.heap.size<gx):=(by have h1:=HX.out.2.2;have h2:=(Array.getElem?_eq_some_iff.1 HC0.out).1;omega:w.heap.size<gx)
  clear HX
  have HC:Hid (v2.heap[w.heap.size]?=some (.cells #[.bool false,.slice none 0 0,.int .i64 0] 45 (0,0))):=box_later HC0.out HY.out.2 (Array.getElem?_eq_some_iff.1 HC0.out).1
  go_upto_region 3 with fail
  go_cut [2] from 14 to 19 (fun p' wx=>∃ (s':Bool) (ao':Option Addr) (n' cp':Nat) (e':Int),p'=.pointer (some ⟨w.heap.size,0,none⟩)∧Hid (NbD wx w.heap.size s' ao' n' cp' e' T11∧Bw w wx))
  case first =>
   refine lnr_region 45 (enters Tryz.func45 (by kernel_rfl) (by kernel_rfl)) 8 8749 p 14 3 2 gx w.heap.size w.heap.size sy aoy ny cpy ey T7 T8 T9 T10 T11 v2 _ rfl (gord_of (by kernel_rfl)) ?_ rfl rfl rfl ?_ ?_ ?_ (Nat.le_refl _) ⟨_,HC.out,rfl,_,_,_,_,_,rfl⟩ Hk8.out Hk9.out Hk10.out Hk11.out ?_
   ·exact⟨⟨_,rfl,rfl,rfl,rfl⟩,⟨_,rfl,rfl,⟨_,rfl⟩,rfl⟩,⟨_,rfl,rfl,rfl,rfl⟩,⟨_,rfl,rfl,⟨_,rfl⟩,rfl,⟨2,.data⟩,by simp,rfl,rfl⟩,⟨_,rfl,rfl,⟨_,rfl⟩,rfl,⟨⟨1,.data⟩,by simp,rfl,rfl⟩,⟨3,.data⟩,by simp,rfl,rfl⟩,⟨_,rfl,rfl,⟨_,rfl⟩,rfl,⟨⟨0,.data⟩,by simp,rfl,rfl⟩,⟨4,.data⟩,by simp,rfl,rfl⟩,⟨_,rfl,rfl,rfl,rfl,⟨5,.data⟩,by simp,rfl,rfl⟩⟩
   ·decide
   ·show ∀ j,j<6→14+j<20
    decide
   ·intro w' hk he
    refine⟨(hk.keep gx HY.out.1.lt (fun k _=>by have:=HG.out;omega)).trans HY.out.1.1,HY.out.1.2.kept hk (fun k _=>⟨_,_,HC.out,_,_,_,_,_,rfl⟩)⟩
   ·intro u wx s' ao' n' cp' e' hk hn
    have HF:Hid (NbD wx w.heap.size s' ao' n' cp' e' T11∧Bw w wx):=⟨hn,(HB.out.trans (HY.out.2.mono HB.out.size)).trans hk.below⟩
    clear hn hk
    simp only[putL,show List.range 6 = [0,1,2,3,4,5] from rfl,List.map_cons,List.map_nil,List.cons_append,List.nil_append,List.foldl_cons,List.foldl_nil,Nat.reduceLT,Nat.reduceMod,Nat.reduceDiv,Nat.reduceMul,Nat.reduceAdd,Nat.reduceEqDiff,reduceIte,Nat.one_ne_zero,Act.put,List.setIfInBounds_toArray,List.set_cons_zero,List.set_cons_succ]
    go_wp2_with fail
    go_meet
    exact⟨_,_,_,_,_,rfl,HF⟩
  case rest =>
   obtain⟨v3,hv3⟩:∃ v3:World,v3=wc:=⟨_,rfl⟩
   subst hv3
   obtain⟨sz,aoz,nz,cpz,ez,rfl,HR⟩:=hcut
   go_wp2_with fail
   refine bodyPost_ret (results_cell_row rfl _ _ w.heap.size 45 #[.bool sz,.slice aoz nz cpz,.int .i64 ez] (0,0) _ rfl HR.out.1.1 Tryz.underlying45 rfl Tryz.info45) rfl ?_
   exact⟨_,_,_,_,_,rfl,HR.out.1.2,HR.out.2⟩
noncomputable def ivJ (n p:Nat):Nat:=if h:2≤n then Classical.choose (inv_end (p:=p) h)else 0
theorem ivJ_spec {n p:Nat} (h:2≤n):ivJ n p≤p+1∧pwS n p (ivJ n p)<2∧∀ j,j<ivJ n p→2≤pwS n p j:=by
 unfold ivJ
 rw[dif_pos h]
 exact Classical.choose_spec (inv_end (p:=p) h)
noncomputable def invV (tu:Bool) (n p:Nat):Int:=invZ tu n p (ivJ n p)
theorem invV_small (tu:Bool) {n p:Nat} (h:2≤n) (hp:p≤40000):(invV tu n p).natAbs<2^(p+22):=inv_small tu (by have:=(ivJ_spec (p:=p) h).1;omega)
theorem dinvV {n p:Nat} (tu:Bool) {w:World} (hn1:2≤n) (hn2:n≤65535) (hp:p≤40000) :
  Calls Tryz.prog 92 #[.int .i64 n,.int .i64 p,.bool tu] w fun r w'=>OutD w (un (invV tu n p) p) r w' :=
 dinv tu hn1 hn2 hp (ivJ_spec hn1).1 (ivJ_spec hn1).2.1 (ivJ_spec hn1).2.2
theorem dwhole {k:Nat} {W:World} (hk:k≤1000000):Calls Tryz.prog 24 #[.int .i64 k] W fun r w'=>OutD W (un k 0) r w':=(gwhole (n:=(k:Int)) (w:=W) (by omega)).mono fun r w' h=>outD h
theorem small_mul {k p b:Nat} {z:Int} (hk:k<64) (h:z.natAbs<2^b):((k:Int)*z).natAbs<2^(b+6):=by
 rw[Int.natAbs_mul,Int.natAbs_natCast,Nat.pow_add]
 have h2:0<2^b:=Nat.two_pow_pos b
 calc k*z.natAbs≤k*2^b:=Nat.mul_le_mul_left _ (by omega)
  _<64*2^b:=(Nat.mul_lt_mul_right h2).2 hk
  _=2^b*2^6:=by rw[Nat.mul_comm]
theorem small_addI {a b:Int} {k:Nat} (ha:a.natAbs<2^k) (hb:b.natAbs<2^k):(a+b).natAbs<2^(k+1):=by
 rw[Nat.pow_succ];omega
theorem dmulk {k p b:Nat} {z:Int} {X Y:Value} {W:World} (hk:k<64) (hz:z.natAbs<2^b) (hb:b≤80000) (hp:p≤40000) (hX:DN W X (un k 0)) (hY:DN W Y (un z p)) :
  Calls Tryz.prog 33 #[X,Y] W fun r w'=>OutD W (un (k*z) p) r w':=by
 have hk':((k:Nat):Int).natAbs<2^6:=by rw[Int.natAbs_natCast];omega
 have k1:=gtimes (un_gn hk' (by omega) (by omega)) (un_gn hz (by omega) (by omega)) hX hY
 rw[gM_un,Nat.zero_add] at k1
 exact k1.mono fun r w' h=>outD h
theorem dplusZ {a b:Int} {p k:Nat} {X Y:Value} {W:World} (ha:a.natAbs<2^k) (hb:b.natAbs<2^k) (hk:k≤80000) (hp:p≤40000) (hX:DN W X (un a p)) (hY:DN W Y (un b p)) :
  Calls Tryz.prog 45 #[X,Y] W fun r w'=>OutD W (un (a+b) p) r w':=by
 have k1:=gplus (un_gn ha (by omega) (by omega)) (un_gn hb (by omega) (by omega)) hX hY
 rw[gS_un] at k1
 exact k1.mono fun r w' h=>outD h
theorem dlessZ {a b:Int} {p k:Nat} {X Y:Value} {W:World} (ha:a.natAbs<2^k) (hb:b.natAbs<2^k) (hk:k≤80000) (hp:p≤40000) (hX:DN W X (un a p)) (hY:DN W Y (un b p)) :
  Calls Tryz.prog 57 #[X,Y] W fun r w'=>OutD W (un (a - b) p) r w':=by
 have k1:=gless (un_gn ha (by omega) (by omega)) (un_gn hb (by omega) (by omega)) hX hY
 rw[gD_un] at k1
 exact k1.mono fun r w' h=>outD h
noncomputable def piV (p:Nat):Int:=(16:Nat)*invV true 5 p - (4:Nat)*invV true 239 p
theorem dpi {p:Nat} {w:World} (hp:p≤40000):Calls Tryz.prog 39 #[.int .i64 p] w fun r w'=>OutD w (un (piV p) p) r w':=by
 have s1:=invV_small true (n:=5) (by omega) hp
 have s2:=invV_small true (n:=239) (by omega) hp
 exact dpi_1 (p:Int) (un ((16:Nat):Int) 0) (un (invV true 5 p) p) (un ((16:Nat)*invV true 5 p) p) (un ((4:Nat):Int) 0) (un (invV true 239 p) p) (un ((4:Nat)*invV true 239 p) p) (un (piV p) p) w
  (fun W _=>dwhole (k:=16) (by omega)) (fun W _=>dinvV (n:=5) true (by omega) (by omega) hp)
  (fun W _ _ _ _ _ _ _ _ _ _ _ hX hY=>dmulk (by omega) s1 (by omega) hp hX hY)
  (fun W _=>dwhole (k:=4) (by omega)) (fun W _=>dinvV (n:=239) true (by omega) (by omega) hp)
  (fun W _ _ _ _ _ _ _ _ _ _ _ hX hY=>dmulk (by omega) s2 (by omega) hp hX hY)
  (fun W _ _ _ _ _ _ _ _ _ _ _ hX hY=>dlessZ (small_mul (p:=p) (by omega) s1) (small_mul (p:=p) (by omega) s2) (by omega) hp hX hY)
noncomputable def ln2V (p:Nat):Int:=(18:Nat)*invV false 26 p - (2:Nat)*invV false 4801 p+(8:Nat)*invV false 8749 p
theorem dln2 {p:Nat} {w:World} (hp:p≤40000):Calls Tryz.prog 42 #[.int .i64 p] w fun r w'=>OutD w (un (ln2V p) p) r w':=by
 have s1:=invV_small false (n:=26) (by omega) hp
 have s2:=invV_small false (n:=4801) (by omega) hp
 have s3:=invV_small false (n:=8749) (by omega) hp
 have m1:=small_mul (k:=18) (p:=p) (by omega) s1
 have m2:=small_mul (k:=2) (p:=p) (by omega) s2
 have m3:=small_mul (k:=8) (p:=p) (by omega) s3
 have m4:((18:Nat)*invV false 26 p - (2:Nat)*invV false 4801 p).natAbs<2^(p+22+6+1):=by
  rw[Int.sub_eq_add_neg]
  exact small_addI m1 (by rw[Int.natAbs_neg];exact m2)
 have m5:((8:Nat)*invV false 8749 p).natAbs<2^(p+22+6+1):=Nat.lt_of_lt_of_le m3 (Nat.pow_le_pow_right (by omega) (by omega))
 exact dln2_1 (p:Int) (un ((18:Nat):Int) 0) (un (invV false 26 p) p) (un ((18:Nat)*invV false 26 p) p) (un ((2:Nat):Int) 0) (un (invV false 4801 p) p) (un ((2:Nat)*invV false 4801 p) p) (un ((18:Nat)*invV false 26 p - (2:Nat)*invV false 4801 p) p) (un ((8:Nat):Int) 0) (un (invV false 8749 p) p) (un ((8:Nat)*invV false 8749 p) p) (un (ln2V p) p) w
  (fun W=>dwhole (k:=18) (by omega)) (fun W=>dinvV (n:=26) false (by omega) (by omega) hp)
  (fun W _ _ hX hY=>dmulk (by omega) s1 (by omega) hp hX hY)
  (fun W=>dwhole (k:=2) (by omega)) (fun W=>dinvV (n:=4801) false (by omega) (by omega) hp)
  (fun W _ _ hX hY=>dmulk (by omega) s2 (by omega) hp hX hY)
  (fun W _ _ hX hY=>dlessZ m1 m2 (by omega) hp hX hY)
  (fun W=>dwhole (k:=8) (by omega)) (fun W=>dinvV (n:=8749) false (by omega) (by omega) hp)
  (fun W _ _ hX hY=>dmulk (by omega) s3 (by omega) hp hX hY)
  (fun W _ _ hX hY=>dplusZ m4 m5 (by omega) hp hX hY)
def DB (W:World) (U:Value) (tl th:Bool×Nat×Int):Prop:=∃ (s1:Bool) (ao1:Option Addr) (n1 cp1:Nat) (e1:Int) (s2:Bool) (ao2:Option Addr) (n2 cp2:Nat) (e2:Int),U=.agg #[.bool s1,.slice ao1 n1 cp1,.int .i64 e1,.bool s2,.slice ao2 n2 cp2,.int .i64 e2]∧DN W (.agg #[.bool s1,.slice ao1 n1 cp1,.int .i64 e1]) tl∧DN W (.agg #[.bool s2,.slice ao2 n2 cp2,.int .i64 e2]) th
theorem DB.later {W w':World} {U:Value} {tl th:Bool×Nat×Int} (h:DB W U tl th) (hb:Bw W w'):DB w' U tl th:=by
 obtain⟨_,_,_,_,_,_,_,_,_,_,e,h1,h2⟩:=h
 exact⟨_,_,_,_,_,_,_,_,_,_,e,h1.later hb,h2.later hb⟩
def OutQ (W:World) (tl th:Bool×Nat×Int) (r:Ending) (w':World):Prop:=∃ U,r=.returned U∧DB w' U tl th∧Bw W w'
theorem run_buildB (s1:Bool) (ao1:Option Addr) (n1 cp1:Nat) (e1:Int) (s2:Bool) (ao2:Option Addr) (n2 cp2:Nat) (e2:Int) (w:World) :
  (Instr.build 47 #[(0,.agg #[.bool s1,.slice ao1 n1 cp1,.int .i64 e1]),(1,.agg #[.bool s2,.slice ao2 n2 cp2,.int .i64 e2])]).run Tryz.prog w=.ok (.agg #[.bool s1,.slice ao1 n1 cp1,.int .i64 e1,.bool s2,.slice ao2 n2 cp2,.int .i64 e2]) w:=run_build w _ _ _ (by kernel_rfl)
theorem step_build {P:Program} {ops:Array Oper} {Q:Exit→Act→World→Prop} {i:Nat} {o:Oper} {K:Act→World→Prop} {a:Act} {w:World}
  (hi:ops[i]?=some o) (hg:o.guard=none) {ty:TypeId} {p q:Tmp} (hop:o.op=.build ty #[(0,.tmp p),(1,.tmp q)]) {x y v:Value} (hp:a.tmps[p]?=some x) (hq:a.tmps[q]?=some y)
  (hr:(Instr.build ty #[(0,x),(1,y)]).run P w=.ok v w) (h:K (a.put o.dst v) w):wpOp P ops Q i K a w:=by
 refine step_wanted hi hg ?_
 unfold Oper.wp
 simp[execOp,hop,eval_get hp,eval_get hq,hr,Result.andThen,Oper.upon,h]
theorem one6 (s1:Bool) (ao1:Option Addr) (n1 cp1:Nat) (e1:Int) (s2:Bool) (ao2:Option Addr) (n2 cp2:Nat) (e2:Int):(#[.bool s1,.slice ao1 n1 cp1,.int .i64 e1,.bool s2,.slice ao2 n2 cp2,.int .i64 e2]:Array Value).all (·.oneCell')=true:=by
 have c1:∀ b,(Value.bool b).oneCell'=true:=fun _=>rfl
 have c2:∀ a n c,(Value.slice a n c).oneCell'=true:=fun _ _ _=>rfl
 have c3:∀ e,(Value.int .i64 e).oneCell'=true:=fun _=>rfl
 simp only[List.all_toArray,List.all_cons,List.all_nil,c1,c2,c3,Bool.and_self]
theorem undB:∃ d,Tryz.prog.underlying 47=some d∧(match d with | .struct _ | .array _ _=>true|_=>false)=true :=
 Option.map_eq_some_iff.1 (show(Tryz.prog.underlying 47).map (fun d=>match d with | .struct _ | .array _ _=>true|_=>false)=some true by kernel_rfl)
theorem gat_row6 {W:World} {ao:Option Addr} {n z g:Nat} {T:TypeId} (h:At W ao n z) (hE:W.heap[g]?=some (.cells #[.bool false,.slice none 0 0,.int .i64 0,.bool false,.slice none 0 0,.int .i64 0] T (0,0))) (cs:Array Value):At (W.setRow g cs) ao n z:=by
 obtain⟨bb,o,h1,h2⟩:=h
 refine⟨bb,o,h1,fun i hi=>?_⟩
 have hc:=h2 i hi
 have hne:bb≠g:=by
  rintro rfl
  simp only[World.cell?,hE] at hc
  rcases(show o+i=0∨o+i=1∨o+i=2∨o+i=3∨o+i=4∨o+i=5∨6≤o+i by omega)with e|e|e|e|e|e|e
  ·rw[e] at hc;simp at hc
  ·rw[e] at hc;simp at hc
  ·rw[e] at hc;simp at hc
  ·rw[e] at hc;simp at hc
  ·rw[e] at hc;simp at hc
  ·rw[e] at hc;simp at hc
  ·rw[Array.getElem?_eq_none (by simpa using e)] at hc;cases hc
 have hs:=setRow_other W g bb cs hne
 unfold World.cell? at hc ⊢
 rw[hs]
 exact hc
theorem DN.row6 {W:World} {A:Value} {t:Bool×Nat×Int} {g:Nat} {T:TypeId} (h:DN W A t) (hE:W.heap[g]?=some (.cells #[.bool false,.slice none 0 0,.int .i64 0,.bool false,.slice none 0 0,.int .i64 0] T (0,0))) (cs:Array Value):DN (W.setRow g cs) A t:=by
 obtain⟨ao',cap',h2,h3⟩:=h
 exact⟨ao',cap',h2,h3.nil,gat_row6 h3.at_ hE cs,h3.le,h3.small⟩
def arV (A B:Value) (T3 TL TH:Bool×Nat×Int) (j:Nat) (w:World) (u:Value):Prop :=
 match j with
 | 0=>u=A
 | 1=>u=B∧DN w u T3
 | 2=>DN w u TL
 | 3=>u=A
 | 4=>u=B∧DN w u T3
 | 5=>DN w u TH
 | _=>DB w u TL TH
def arD (j:Nat):List Nat :=
 match j with
 | 2 => [0,1]
 | 5 => [3,4]
 | 6 => [2,5]
 | _ => []
theorem arV_cases (i:Nat):i=0∨i=1∨i=2∨i=3∨i=4∨i=5∨∃ k,i=k+6:=by
 by_cases h:6≤i
 ·exact .inr (.inr (.inr (.inr (.inr (.inr ⟨i - 6,by omega⟩)))))
 ·omega
theorem lt7D {i:Nat} (h:i<7):i=0∨i=1∨i=2∨i=3∨i=4∨i=5∨i=6:=by omega
structure ArOps (ops:Array Oper) (f1 f2:FuncId) (sl:Nat) (p1 p2 tgt:Tmp):Prop where
 o0:∃ o,ops[0]?=some o∧o.guard=none∧o.op=.load 45 (.tmp p1)∧o.dst=some sl
 o1:∃ o,ops[1]?=some o∧o.guard=none∧o.op=.load 45 (.tmp p2)∧o.dst=some (sl+1)
 o2:∃ o,ops[2]?=some o∧o.guard=none∧(∃ ts,o.op=.call { callee:=.value (.func f1),args:=#[.tmp sl,.tmp (sl+1)],argTypes:=ts })∧o.dst=some (sl+2)∧(∃ e ∈ o.after,e.on=0∧Region.binds .any e=true)∧∃ e ∈ o.after,e.on=1∧Region.binds .any e=true
 o3:∃ o,ops[3]?=some o∧o.guard=none∧o.op=.load 45 (.tmp p1)∧o.dst=some (sl+3)
 o4:∃ o,ops[4]?=some o∧o.guard=none∧o.op=.load 45 (.tmp p2)∧o.dst=some (sl+4)
 o5:∃ o,ops[5]?=some o∧o.guard=none∧(∃ ts,o.op=.call { callee:=.value (.func f2),args:=#[.tmp (sl+3),.tmp (sl+4)],argTypes:=ts })∧o.dst=some (sl+5)∧(∃ e ∈ o.after,e.on=3∧Region.binds .any e=true)∧∃ e ∈ o.after,e.on=4∧Region.binds .any e=true
 o6:∃ o,ops[6]?=some o∧o.guard=none∧o.op=.build 47 #[(0,.tmp (sl+2)),(1,.tmp (sl+5))]∧o.dst=some (sl+6)∧(∃ e ∈ o.after,e.on=2∧Region.binds .any e=true)∧∃ e ∈ o.after,e.on=5∧Region.binds .any e=true
 o7:∃ o,ops[7]?=some o∧o.guard=none∧o.op=.store 47 (.tmp tgt) (.tmp (sl+6))∧o.dst=none∧∀ j,j<7→∃ e ∈ o.after,e.on=j∧Region.binds .any e=true
theorem arr_region {ops:Array Oper} {Q:Exit→Act→World→Prop} {id:Nat} (f1 f2:FuncId) (hc1:∀ vs w,(callFunc f1 vs).run Tryz.prog w=.ok (.enter f1 vs) w) (hc2:∀ vs w,(callFunc f2 vs).run Tryz.prog w=.ok (.enter f2 vs) w) (sl:Nat) (p1 p2 tgt:Tmp) (g1 g2 gT:Nat) (sa:Bool) (aoa:Option Addr) (na cpa:Nat) (ea:Int) (su:Bool) (aou:Option Addr) (nu cpu:Nat) (eu:Int) (T3 TL TH:Bool×Nat×Int) (W0:World) (a0:Act)
  (hsz:ops.size=8) (hord:∀ (i:Nat) (o:Oper),ops[i]?=some o→∀ e ∈ o.after,e.on<i) (h:ArOps ops f1 f2 sl p1 p2 tgt)
  (hp1:a0.tmps[p1]?=some (.pointer (some ⟨g1,0,none⟩))) (hp2:a0.tmps[p2]?=some (.pointer (some ⟨g2,0,none⟩))) (htgt:a0.tmps[tgt]?=some (.pointer (some ⟨gT,0,none⟩)))
  (hfr:∀ j,j<7→p1≠sl+j∧p2≠sl+j∧tgt≠sl+j) (hin:∀ j,j<7→sl+j<a0.tmps.size)
  (hb1:W0.heap[g1]?=some (.cells #[.bool sa,.slice aoa na cpa,.int .i64 ea] 45 (0,0))) (hb2:NbD W0 g2 su aou nu cpu eu T3) (hbT:W0.heap[gT]?=some (.cells #[.bool false,.slice none 0 0,.int .i64 0,.bool false,.slice none 0 0,.int .i64 0] 47 (0,0)))
  (k1:∀ (W:World) Y,Bw W0 W→DN W Y T3→Calls Tryz.prog f1 #[.agg #[.bool sa,.slice aoa na cpa,.int .i64 ea],Y] W fun r w'=>OutD W TL r w') (k2:∀ (W:World) Y,Bw W0 W→DN W Y T3→Calls Tryz.prog f2 #[.agg #[.bool sa,.slice aoa na cpa,.int .i64 ea],Y] W fun r w'=>OutD W TH r w')
  (hQ:∀ (u:Nat→Value) (W:World) (cs:Array Value),Bw W0 W→DB W (.agg cs) TL TH→Q .normal (putL a0 ((List.range 7).map (fun j=>(sl+j,u j)))) (W.setRow gT cs)) :
  (Code.region id ops true).wp Tryz.prog Q a0 W0:=by
 have ld:∀ {W:World} {g:Nat} {o:Obj},Bw W0 W→W0.heap[g]?=some o→W.heap[g]?=some o:=fun hb h=>(hb.block _ (Array.getElem?_eq_some_iff.1 h).1).trans h
 refine parl_region follows_mixed 7 (fun j=>sl+j) arD W0 a0 (arV (.agg #[.bool sa,.slice aoa na cpa,.int .i64 ea]) (.agg #[.bool su,.slice aou nu cpu,.int .i64 eu]) T3 TL TH) hsz hord ?_ ?_ ?_ ?_ hin (fun i i' _ _ h=>Nat.add_left_cancel h) ?_
 ·intro i W W' u hb h
  rcases arV_cases i with rfl|rfl|rfl|rfl|rfl|rfl|⟨k,rfl⟩
  ·exact h
  ·exact⟨h.1,h.2.later hb⟩
  ·exact DN.later (t:=TL) h hb
  ·exact h
  ·exact⟨h.1,h.2.later hb⟩
  ·exact DN.later (t:=TH) h hb
  ·exact DB.later (tl:=TL) (th:=TH) h hb
 ·intro i hi j' hj'
  rcases lt7D hi with rfl|rfl|rfl|rfl|rfl|rfl|rfl
  ·simp[arD] at hj'
  ·simp[arD] at hj'
  ·obtain⟨o',ho',-,-,-,e1,e2⟩:=h.o2
   have:j'=0∨j'=1:=by simpa [arD] using hj'
   refine⟨by omega,fun o ho=>?_⟩
   obtain rfl:o'=o:=Option.some.inj (ho'.symm.trans ho)
   rcases this with rfl|rfl
   ·exact e1
   ·exact e2
  ·simp[arD] at hj'
  ·simp[arD] at hj'
  ·obtain⟨o',ho',-,-,-,e1,e2⟩:=h.o5
   have:j'=3∨j'=4:=by simpa [arD] using hj'
   refine⟨by omega,fun o ho=>?_⟩
   obtain rfl:o'=o:=Option.some.inj (ho'.symm.trans ho)
   rcases this with rfl|rfl
   ·exact e1
   ·exact e2
  ·obtain⟨o',ho',-,-,-,e1,e2⟩:=h.o6
   have:j'=2∨j'=5:=by simpa [arD] using hj'
   refine⟨by omega,fun o ho=>?_⟩
   obtain rfl:o'=o:=Option.some.inj (ho'.symm.trans ho)
   rcases this with rfl|rfl
   ·exact e1
   ·exact e2
 ·intro i hi a' W hb hoth hdep
  rcases lt7D hi with rfl|rfl|rfl|rfl|rfl|rfl|rfl
  ·obtain⟨o,ho,hg,hop,hd⟩:=h.o0
   exact ostep_load ho hg hop (run_loadNum _ _ _ _ _ _ W (ld hb hb1)) (by rw[hoth p1 (fun j hj=>(hfr j hj).1)];exact hp1) ⟨_,by rw[hd];rfl,rfl,Below.refl _ _⟩
  ·obtain⟨o,ho,hg,hop,hd⟩:=h.o1
   exact ostep_load ho hg hop (run_loadNum _ _ _ _ _ _ W (ld hb hb2.1)) (by rw[hoth p2 (fun j hj=>(hfr j hj).2.1)];exact hp2) ⟨_,by rw[hd],⟨rfl,hb2.2.later hb⟩,Below.refl _ _⟩
  ·obtain⟨o,ho,hg,⟨ts,hop⟩,hd,-⟩:=h.o2
   obtain⟨u0,hu0,hv0⟩:=hdep 0 (by simp[arD])
   obtain⟨u1,hu1,hv1⟩:=hdep 1 (by simp[arD])
   obtain rfl:u0=_:=hv0
   refine step_call ho hg hop hc1 (vs:=#[.agg #[.bool sa,.slice aoa na cpa,.int .i64 ea],u1]) (by simp only[List.map_toArray,List.map_cons,List.map_nil];rw[eval_get (show a'.tmps[sl]?=_ from hu0),eval_get hu1]) ?_
   refine(k1 W u1 hb hv1.2).mono ?_
   rintro r w' ⟨_,_,_,_,_,rfl,hE,hb'⟩
   exact⟨_,rfl,_,by rw[hd],hE,hb'⟩
  ·obtain⟨o,ho,hg,hop,hd⟩:=h.o3
   exact ostep_load ho hg hop (run_loadNum _ _ _ _ _ _ W (ld hb hb1)) (by rw[hoth p1 (fun j hj=>(hfr j hj).1)];exact hp1) ⟨_,by rw[hd],rfl,Below.refl _ _⟩
  ·obtain⟨o,ho,hg,hop,hd⟩:=h.o4
   exact ostep_load ho hg hop (run_loadNum _ _ _ _ _ _ W (ld hb hb2.1)) (by rw[hoth p2 (fun j hj=>(hfr j hj).2.1)];exact hp2) ⟨_,by rw[hd],⟨rfl,hb2.2.later hb⟩,Below.refl _ _⟩
  ·obtain⟨o,ho,hg,⟨ts,hop⟩,hd,-⟩:=h.o5
   obtain⟨u0,hu0,hv0⟩:=hdep 3 (by simp[arD])
   obtain⟨u1,hu1,hv1⟩:=hdep 4 (by simp[arD])
   obtain rfl:u0=_:=hv0
   refine step_call ho hg hop hc2 (vs:=#[.agg #[.bool sa,.slice aoa na cpa,.int .i64 ea],u1]) (by simp only[List.map_toArray,List.map_cons,List.map_nil];rw[eval_get hu0,eval_get hu1]) ?_
   refine(k2 W u1 hb hv1.2).mono ?_
   rintro r w' ⟨_,_,_,_,_,rfl,hE,hb'⟩
   exact⟨_,rfl,_,by rw[hd],hE,hb'⟩
  ·obtain⟨o,ho,hg,hop,hd,-⟩:=h.o6
   obtain⟨u0,hu0,hv0⟩:=hdep 2 (by simp[arD])
   obtain⟨u1,hu1,hv1⟩:=hdep 5 (by simp[arD])
   have hv0':DN W u0 TL:=hv0
   have hv1':DN W u1 TH:=hv1
   obtain⟨s1,ao1,n1,cp1,e1,rfl⟩:=hv0'.shape
   obtain⟨s2,ao2,n2,cp2,e2,rfl⟩:=hv1'.shape
   exact step_build ho hg hop hu0 hu1 (run_buildB _ _ _ _ _ _ _ _ _ _ W) ⟨_,by rw[hd],⟨_,_,_,_,_,_,_,_,_,_,rfl,hv0',hv1'⟩,Below.refl _ _⟩
 ·intro o ho
  obtain⟨o',ho',-,-,-,e⟩:=h.o7
  obtain rfl:o'=o:=Option.some.inj (ho'.symm.trans ho)
  exact e
 ·intro u a' W hb hu hs' hd' hoth
  obtain⟨o,ho,hg,hop,hd,-⟩:=h.o7
  have e6:DB W (u 6) TL TH:=(hu 6 (by omega)).2
  obtain⟨s1,ao1,n1,cp1,e1,s2,ao2,n2,cp2,e2,hsh,h1,h2⟩:=e6
  have hv:=(hu 6 (by omega)).1
  rw[hsh] at hv
  refine step_store ho hg hop (by rw[hoth tgt (fun j hj=>(hfr j hj).2.2)];exact htgt) hv (ld hb hbT) (by kernel_rfl) rfl (one6 _ _ _ _ _ _ _ _ _ _) ?_
  rw[hd]
  have q1:((List.range 7).map (fun j=>((sl+j,u j):Tmp×Value))).map (fun p:Tmp×Value=>p.1)=(List.range 7).map (fun j=>sl+j):=by simp[Function.comp_def]
  have ha:=act_putL (a:=a') (a0:=a0) (l:=(List.range 7).map (fun j=>((sl+j,u j):Tmp×Value))) (by
    rw[q1]
    refine List.pairwise_map.2 ((List.nodup_range (n:=7)).imp_of_mem ?_)
    intro x y hx hy hne he
    exact hne (Nat.add_left_cancel he)) hs' hd' (by
    intro p hp
    obtain⟨i,hi,rfl⟩:=List.mem_map.1 hp
    exact(hu i (List.mem_range.1 hi)).1) (fun s hsn=>hoth s (fun i hi he=>hsn (List.mem_map.2 ⟨_,List.mem_map.2 ⟨i,List.mem_range.2 hi,rfl⟩,he.symm⟩)))
  show Q .normal a' _
  rw[ha]
  exact hQ u W _ hb ⟨_,_,_,_,_,_,_,_,_,_,rfl,h1,h2⟩
theorem daround_1 (sa:Bool) (aoa:Option Addr) (na cpa:Nat) (ea:Int) (units p:Int) (T1 T2 T3 TL TH:Bool×Nat×Int) (w:World)
  (k1:∀ (W:World),Bw w W→Calls Tryz.prog 24 #[.int .i64 units] W fun r w'=>OutD W T1 r w')
  (k2:∀ (W:World),Bw w W→Calls Tryz.prog 91 #[.int .i64 p] W fun r w'=>OutD W T2 r w')
  (k3:∀ (W:World) X Y,Bw w W→DN W X T1→DN W Y T2→Calls Tryz.prog 33 #[X,Y] W fun r w'=>OutD W T3 r w')
  (k4:∀ (W:World) Y,Bw w W→DN W Y T3→Calls Tryz.prog 57 #[.agg #[.bool sa,.slice aoa na cpa,.int .i64 ea],Y] W fun r w'=>OutD W TL r w')
  (k5:∀ (W:World) Y,Bw w W→DN W Y T3→Calls Tryz.prog 45 #[.agg #[.bool sa,.slice aoa na cpa,.int .i64 ea],Y] W fun r w'=>OutD W TH r w') :
  Calls Tryz.prog 38 #[.agg #[.bool sa,.slice aoa na cpa,.int .i64 ea],.int .i64 units,.int .i64 p] w fun r w'=>OutQ w TL TH r w':=by
 have Hk1:Hid _:=k1
 have Hk2:Hid _:=k2
 have Hk3:Hid _:=k3
 have Hk4:Hid _:=k4
 have Hk5:Hid _:=k5
 clear k1 k2 k3 k4 k5
 obtain⟨W,hW⟩:∃ W,W=(w.alloc (.cells #[.bool sa,.slice aoa na cpa,.int .i64 ea] 45)).alloc (.cells #[.bool false,.slice none 0 0,.int .i64 0,.bool false,.slice none 0 0,.int .i64 0] 47):=⟨_,rfl⟩
 have HB:Hid (Bw w W):=(by rw[hW];exact((Below.refl _ _).alloc (Nat.le_refl _) _).alloc (by simp) _:Bw w W)
 have HP0:Hid (W.heap[w.heap.size]?=some (.cells #[.bool sa,.slice aoa na cpa,.int .i64 ea] 45 (0,0))):=(two29 _ _ hW).1
 have HC0:Hid (W.heap[w.heap.size+1]?=some (.cells #[.bool false,.slice none 0 0,.int .i64 0,.bool false,.slice none 0 0,.int .i64 0] 47 (0,0))):=(two29 _ _ hW).2.1
 go_enter Tryz.func38,Tryz.ntmps38
 go_upto_region 1 with fail
 rw[←hW]
 clear hW
 have kk:=Hk1.out W HB.out
 go_wp2_with fail
 refine kk.mono ?_
 rintro r u1 ⟨s1,ao1,n1,cp1,e1,rfl,hd1,hb1⟩
 clear kk
 have B1:Hid (Bw W u1):=hb1
 have D1:Hid (DN u1 (.agg #[.bool s1,.slice ao1 n1 cp1,.int .i64 e1]) T1):=hd1
 clear hb1 hd1
 have kk:=Hk2.out u1 (HB.out.trans (B1.out.mono HB.out.size))
 go_wp2_with fail
 refine kk.mono ?_
 rintro r u2 ⟨s2,ao2,n2,cp2,e2,rfl,hd2,hb2⟩
 clear kk
 have B2:Hid (Bw W u2):=B1.out.trans (hb2.mono B1.out.size)
 have kk:=Hk3.out u2 _ _ (HB.out.trans (B2.out.mono HB.out.size)) (D1.out.later hb2) hd2
 clear hb2 hd2 B1 D1
 go_wp2_with fail
 refine kk.mono ?_
 rintro r u3 ⟨su,aou,nu,cpu,eu,rfl,hd3,hb3⟩
 clear kk
 have B3:Hid (Bw W u3):=B2.out.trans (hb3.mono B2.out.size)
 have D3:Hid (DN u3 (.agg #[.bool su,.slice aou nu cpu,.int .i64 eu]) T3):=hd3
 clear hb3 hd3 B2
 obtain⟨V3,hV3⟩:∃ V2,V2=u3.alloc (.cells #[.bool false,.slice none 0 0,.int .i64 0] 45):=⟨_,rfl⟩
 have hbV3:Bw u3 V3:=by rw[hV3];exact(Below.refl _ _).alloc (Nat.le_refl _) _
 have hzV3:V3.heap[u3.heap.size]?=some (.cells #[.bool false,.slice none 0 0,.int .i64 0] 45 (0,0)):=by rw[hV3];exact heap_alloc_new _ _
 obtain⟨⟨y0,y1,y2⟩,y3,y4,y5⟩:=box_cells29 hzV3
 have HZ:Hid (Bw W u3∧Bw u3 V3∧V3.heap[u3.heap.size]?=some (.cells #[.bool false,.slice none 0 0,.int .i64 0] 45 (0,0))∧DN u3 (.agg #[.bool su,.slice aou nu cpu,.int .i64 eu]) T3):=⟨B3.out,hbV3,hzV3,D3.out⟩
 clear hbV3 hzV3 B3 D3
 go_upto_region 2 with (rw[←hV3];clear hV3)
 obtain⟨gx,hgx⟩:∃ g,g=u3.heap.size:=⟨_,rfl⟩
 obtain⟨W3,hW3⟩:∃ V2,V2=((V3.setCell ⟨u3.heap.size,0,none⟩ (.bool su)).setCell ⟨u3.heap.size,1,none⟩ (.slice aou nu cpu)).setCell ⟨u3.heap.size,2,none⟩ (.int .i64 eu):=⟨_,rfl⟩
 have HX:Hid (NbD W3 gx su aou nu cpu eu (T3)∧Bw W W3∧W.heap.size≤gx):=(by
  rw[hW3,hgx]
  exact⟨⟨store3_29 _ _ _ HZ.out.2.2.1,(HZ.out.2.2.2.later HZ.out.2.1).store3 HZ.out.2.2.1 _ _ _⟩,below_store3 (HZ.out.1.trans (HZ.out.2.1.mono HZ.out.1.size)) HZ.out.1.size _ _ _,HZ.out.1.size⟩:NbD W3 gx su aou nu cpu eu (T3)∧Bw W W3∧W.heap.size≤gx)
 rw[←hW3,←hgx]
 clear hW3 hgx HZ y0 y1 y2 y3 y4 y5
 have hP:W3.heap[w.heap.size]?=some (.cells #[.bool sa,.slice aoa na cpa,.int .i64 ea] 45 (0,0)):=box_later HP0.out HX.out.2.1 (Array.getElem?_eq_some_iff.1 HP0.out).1
 have hC:W3.heap[w.heap.size+1]?=some (.cells #[.bool false,.slice none 0 0,.int .i64 0,.bool false,.slice none 0 0,.int .i64 0] 47 (0,0)):=(HX.out.2.1.block _ (Array.getElem?_eq_some_iff.1 HC0.out).1).trans HC0.out
 go_cut [6] from 13 to 19 (fun p' wx=>∃ cs,p'=.pointer (some ⟨w.heap.size+1,0,none⟩)∧Hid (wx.heap[w.heap.size+1]?=some (.cells cs 47 (0,0))∧DB wx (.agg cs) TL TH∧Bw w wx))
 case first =>
  refine arr_region 57 45 (enters Tryz.func57 (by kernel_rfl) (by kernel_rfl)) (enters Tryz.func45 (by kernel_rfl) (by kernel_rfl)) 13 3 7 6 w.heap.size gx (w.heap.size+1) sa aoa na cpa ea su aou nu cpu eu T3 TL TH W3 _ rfl (gord_of (by kernel_rfl)) ?_ rfl rfl rfl ?_ ?_ hP HX.out.1 hC ?_ ?_ ?_
  ·refine⟨⟨_,rfl,rfl,rfl,rfl⟩,⟨_,rfl,rfl,rfl,rfl⟩,⟨_,rfl,rfl,⟨_,rfl⟩,rfl,⟨⟨0,.data⟩,by simp,rfl,rfl⟩,⟨1,.data⟩,by simp,rfl,rfl⟩,⟨_,rfl,rfl,rfl,rfl⟩,⟨_,rfl,rfl,rfl,rfl⟩,⟨_,rfl,rfl,⟨_,rfl⟩,rfl,⟨⟨3,.data⟩,by simp,rfl,rfl⟩,⟨4,.data⟩,by simp,rfl,rfl⟩,⟨_,rfl,rfl,rfl,rfl,⟨⟨2,.data⟩,by simp,rfl,rfl⟩,⟨5,.data⟩,by simp,rfl,rfl⟩,⟨_,rfl,rfl,rfl,rfl,?_⟩⟩
   intro j hj
   rcases lt7D hj with rfl|rfl|rfl|rfl|rfl|rfl|rfl
   ·exact⟨⟨0,.phase⟩,by simp,rfl,rfl⟩
   ·exact⟨⟨1,.phase⟩,by simp,rfl,rfl⟩
   ·exact⟨⟨2,.phase⟩,by simp,rfl,rfl⟩
   ·exact⟨⟨3,.phase⟩,by simp,rfl,rfl⟩
   ·exact⟨⟨4,.phase⟩,by simp,rfl,rfl⟩
   ·exact⟨⟨5,.phase⟩,by simp,rfl,rfl⟩
   ·exact⟨⟨6,.phase⟩,by simp,rfl,rfl⟩
  ·decide
  ·show ∀ j,j<7→13+j<20
   decide
  ·intro V Y hb hY
   exact Hk4.out V Y ((HB.out.trans (HX.out.2.1.mono HB.out.size)).trans (hb.mono (HB.out.trans (HX.out.2.1.mono HB.out.size)).size)) hY
  ·intro V Y hb hY
   exact Hk5.out V Y ((HB.out.trans (HX.out.2.1.mono HB.out.size)).trans (hb.mono (HB.out.trans (HX.out.2.1.mono HB.out.size)).size)) hY
  ·intro u V cs hb hdb
   have hCV:V.heap[w.heap.size+1]?=some (.cells #[.bool false,.slice none 0 0,.int .i64 0,.bool false,.slice none 0 0,.int .i64 0] 47 (0,0)):=(hb.block _ (Array.getElem?_eq_some_iff.1 hC).1).trans hC
   obtain⟨s1',ao1',n1',cp1',e1',s2',ao2',n2',cp2',e2',hcs,q1,q2⟩:=hdb
   obtain⟨wx,hwx⟩:∃ wx,wx=V.setRow (w.heap.size+1) cs:=⟨_,rfl⟩
   have HF:Hid (wx.heap[w.heap.size+1]?=some (.cells cs 47 (0,0))∧DB wx (.agg cs) TL TH∧Bw w wx):=(by
    rw[hwx]
    exact⟨setRow_heap _ _ _ cs _ _ hCV,⟨_,_,_,_,_,_,_,_,_,_,hcs,q1.row6 hCV _,q2.row6 hCV _⟩,below_row ((HB.out.trans (HX.out.2.1.mono HB.out.size)).trans (hb.mono (HB.out.trans (HX.out.2.1.mono HB.out.size)).size)) (by omega) _⟩:wx.heap[w.heap.size+1]?=some (.cells cs 47 (0,0))∧DB wx (.agg cs) TL TH∧Bw w wx)
   rw[←hwx]
   clear hwx hcs q1 q2 hCV hP hC hb
   simp only[putL,show List.range 7 = [0,1,2,3,4,5,6] from rfl,List.map_cons,List.map_nil,List.cons_append,List.nil_append,List.foldl_cons,List.foldl_nil,Nat.reduceLT,Nat.reduceMod,Nat.reduceDiv,Nat.reduceMul,Nat.reduceAdd,Nat.reduceEqDiff,reduceIte,Nat.one_ne_zero,Act.put,List.setIfInBounds_toArray,List.set_cons_zero,List.set_cons_succ]
   go_wp2_with fail
   go_meet
   exact⟨_,rfl,HF⟩
 case rest =>
  obtain⟨v3,hv3⟩:∃ v3:World,v3=wc:=⟨_,rfl⟩
  subst hv3
  obtain⟨cs,rfl,HR⟩:=hcut
  have hsz:cs.size=6:=by
   obtain⟨_,_,_,_,_,_,_,_,_,_,hcs,-⟩:=HR.out.2.1
   rw[Value.agg.inj hcs];rfl
  go_wp2_with fail
  obtain⟨d,hd1,hd2⟩:=undB
  refine bodyPost_ret (results_cell_row rfl _ _ (w.heap.size+1) 47 cs (0,0) d rfl HR.out.1 hd1 (by cases d <;> exact hd2) (by rw[hsz];kernel_rfl)) rfl ?_
  exact⟨_,rfl,HR.out.2.1,HR.out.2.2⟩
end Go.Proofs.YtapooodfgcjoaaaGreat
