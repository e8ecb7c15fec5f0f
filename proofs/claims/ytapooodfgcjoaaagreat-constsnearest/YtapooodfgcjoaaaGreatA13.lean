/- Own work: contracts of the program's functions, part 13: DED DEE DEF DEG DEH DEI DEJ DEK DEL. -/
import Derived.Test.YtapooodfgcjoaaaGreatA12
import Derived.Deep.MidRow

set_option maxHeartbeats 16000000
set_option maxRecDepth 200000
set_option linter.unusedVariables false
set_option linter.unusedSimpArgs false
namespace Go.Proofs.YtapooodfgcjoaaaGreat
open Go.RowKit Go.Fl64
theorem dscaled {a k:Int} {p q b:Nat} {X:Value} {W:World} (ha:a.natAbs<2^b) (hb:b≤80000) (hp:p≤40000) (hk : -1000000≤k∧k≤1000000) (h:(p:Int) - k=q) (hX:DN W X (un a p)) :
  Calls Tryz.prog 40 #[X,.int .i64 k] W fun r w'=>OutD W (un a q) r w':=by
 have k1:=gscaled (un_gn ha (by omega) (by omega)) hX hk
 rw[gK_un h] at k1
 exact k1.mono fun r w' h=>outD h
theorem dunit {p:Nat} {w:World} (hp:p≤40000):Calls Tryz.prog 91 #[.int .i64 p] w fun r w'=>OutD w (un 1 p) r w' :=
 dunit_1 (p:Int) (un ((1:Nat):Int) 0) (un 1 p) w (by omega) (by omega) (fun W _=>dwhole (k:=1) (by omega)) (fun W _ _ _ _ _ _ hX=>dscaled (a:=1) (p:=0) (b:=1) (by decide) (by omega) (by omega) (by omega) (by omega) hX)
theorem dwholeN {n:Int} {W:World} (hn : -9223372036854775808≤n∧n≤9223372036854775807):Calls Tryz.prog 24 #[.int .i64 n] W fun r w'=>OutD W (un n 0) r w':=(gwhole (w:=W) hn).mono fun r w' h=>outD h
theorem dmulZ {a b:Int} {p q k l:Nat} {X Y:Value} {W:World} (ha:a.natAbs<2^k) (hb:b.natAbs<2^l) (hk:k≤80000) (hl:l≤80000) (hp:p≤40000) (hq:q≤40000) (hX:DN W X (un a p)) (hY:DN W Y (un b q)) :
  Calls Tryz.prog 33 #[X,Y] W fun r w'=>OutD W (un (a*b) (p+q)) r w':=by
 have k1:=gtimes (un_gn ha (by omega) (by omega)) (un_gn hb (by omega) (by omega)) hX hY
 rw[gM_un] at k1
 exact k1.mono fun r w' h=>outD h
theorem daround {Z:Int} {u:Nat} {p b:Nat} {X:Value} {w:World} (hZ:Z.natAbs<2^b) (hb:b≤80000) (hb2:62≤b) (hu:u<2^62) (hp:p≤40000) (hX:DN w X (un Z p)) :
  Calls Tryz.prog 38 #[X,.int .i64 u,.int .i64 p] w fun r w'=>OutQ w (un (Z - u) p) (un (Z+u) p) r w':=by
 obtain⟨s,ao,n,cp,e,rfl⟩:=hX.shape
 have hu2:((u:Nat):Int).natAbs<2^b:=by rw[Int.natAbs_natCast];exact Nat.lt_of_lt_of_le hu (Nat.pow_le_pow_right (by omega) hb2)
 have h62:(2:Nat)^62=4611686018427387904:=by decide
 exact daround_1 s ao n cp e (u:Int) (p:Int) (un (u:Int) 0) (un 1 p) (un (u:Int) p) (un (Z - u) p) (un (Z+u) p) w
  (fun W _=>dwholeN (by omega)) (fun W _=>dunit hp)
  (fun W X Y _ hX hY=>by
   have k:=dmulZ (l:=1) hu2 (by decide) (by omega) (by omega) (by omega) hp hX hY
   rw[Int.mul_one,Nat.zero_add] at k
   exact k)
  (fun W Y hb1 hY=>dlessZ hZ hu2 (by omega) hp (hX.later hb1) hY)
  (fun W Y hb1 hY=>dplusZ hZ hu2 (by omega) hp (hX.later hb1) hY)
theorem box_cells6 {w:World} {g:Nat} {a1 b1 c1 a2 b2 c2:Value} {T:TypeId} (h:w.heap[g]?=some (.cells #[a1,b1,c1,a2,b2,c2] T (0,0))) :
  (w.cell? ⟨g,0,none⟩=some a1∧w.cell? ⟨g,1,none⟩=some b1∧w.cell? ⟨g,2,none⟩=some c1∧w.cell? ⟨g,3,none⟩=some a2∧w.cell? ⟨g,4,none⟩=some b2∧w.cell? ⟨g,5,none⟩=some c2)∧(w.frozen? ⟨g,0,none⟩=false∧w.frozen? ⟨g,1,none⟩=false∧w.frozen? ⟨g,2,none⟩=false∧w.frozen? ⟨g,3,none⟩=false∧w.frozen? ⟨g,4,none⟩=false∧w.frozen? ⟨g,5,none⟩=false):=by
 simp[World.cell?,World.frozen?,h]
theorem store6 {w:World} {g:Nat} {a b c d e f:Value} {T:TypeId} (a1 b1 c1 a2 b2 c2:Value) (h:w.heap[g]?=some (.cells #[a,b,c,d,e,f] T (0,0))) :
  ((((((w.setCell ⟨g,0,none⟩ a1).setCell ⟨g,1,none⟩ b1).setCell ⟨g,2,none⟩ c1).setCell ⟨g,3,none⟩ a2).setCell ⟨g,4,none⟩ b2).setCell ⟨g,5,none⟩ c2).heap[g]?=some (.cells #[a1,b1,c1,a2,b2,c2] T (0,0)):=by
 simp[World.setCell,Array.getElem?_modify,h]
theorem below_store6 {B:Nat} {w0 w:World} {g:Nat} (h:Below B w0 w) (hg:B≤g) (a1 b1 c1 a2 b2 c2:Value):Below B w0 ((((((w.setCell ⟨g,0,none⟩ a1).setCell ⟨g,1,none⟩ b1).setCell ⟨g,2,none⟩ c1).setCell ⟨g,3,none⟩ a2).setCell ⟨g,4,none⟩ b2).setCell ⟨g,5,none⟩ c2) :=
 (((((h.setCell hg _).setCell hg _).setCell hg _).setCell hg _).setCell hg _).setCell hg _
theorem cell_far6 {w:World} {g:Nat} {q:Addr} (h:q.block≠g) (a1 b1 c1 a2 b2 c2:Value):((((((w.setCell ⟨g,0,none⟩ a1).setCell ⟨g,1,none⟩ b1).setCell ⟨g,2,none⟩ c1).setCell ⟨g,3,none⟩ a2).setCell ⟨g,4,none⟩ b2).setCell ⟨g,5,none⟩ c2).cell? q=w.cell? q:=by
 have h1:∀ i,(⟨g,i,none⟩:Addr)≠q:=fun i e=>h (by rw[←e])
 rw[World.cell?_setCell_other _ _ _ _ (h1 5),World.cell?_setCell_other _ _ _ _ (h1 4),World.cell?_setCell_other _ _ _ _ (h1 3),World.cell?_setCell_other _ _ _ _ (h1 2),World.cell?_setCell_other _ _ _ _ (h1 1),World.cell?_setCell_other _ _ _ _ (h1 0)]
theorem gat_store6 {w:World} {ao:Option Addr} {n z g:Nat} {T:TypeId} (a1 b1 c1 a2 b2 c2:Value) (h:At w ao n z) (hE:w.heap[g]?=some (.cells #[.bool false,.slice none 0 0,.int .i64 0,.bool false,.slice none 0 0,.int .i64 0] T (0,0))):At ((((((w.setCell ⟨g,0,none⟩ a1).setCell ⟨g,1,none⟩ b1).setCell ⟨g,2,none⟩ c1).setCell ⟨g,3,none⟩ a2).setCell ⟨g,4,none⟩ b2).setCell ⟨g,5,none⟩ c2) ao n z:=by
 obtain⟨bb,o,h1,h2⟩:=h
 refine⟨bb,o,h1,fun i hi=>?_⟩
 have hc:=h2 i hi
 have hne:bb≠g:=by
  rintro rfl
  simp only[World.cell?,hE] at hc
  rcases(show o+i=0∨o+i=1∨o+i=2∨o+i=3∨o+i=4∨o+i=5∨6≤o+i by omega)with e|e|e|e|e|e|e
  ·rw[e] at hc;simp at hc
  ·rw[e] at hc;simp at hc
  ·rw[e] at hc;simp at hc
  ·rw[e] at hc;simp at hc
  ·rw[e] at hc;simp at hc
  ·rw[e] at hc;simp at hc
  ·rw[Array.getElem?_eq_none (by simpa using e)] at hc;cases hc
 rw[cell_far6 hne]
 exact hc
theorem DN.store6 {w:World} {A:Value} {t:Bool×Nat×Int} {g:Nat} {T:TypeId} (h:DN w A t) (hE:w.heap[g]?=some (.cells #[.bool false,.slice none 0 0,.int .i64 0,.bool false,.slice none 0 0,.int .i64 0] T (0,0))) (a1 b1 c1 a2 b2 c2:Value):DN ((((((w.setCell ⟨g,0,none⟩ a1).setCell ⟨g,1,none⟩ b1).setCell ⟨g,2,none⟩ c1).setCell ⟨g,3,none⟩ a2).setCell ⟨g,4,none⟩ b2).setCell ⟨g,5,none⟩ c2) A t:=by
 obtain⟨ao,cap,h1,h2⟩:=h
 exact⟨ao,cap,h1,h2.nil,gat_store6 _ _ _ _ _ _ h2.at_ hE,h2.le,h2.small⟩
theorem denc_pi (sa:Bool) (aoa:Option Addr) (na cpa:Nat) (ea:Int) (sb:Bool) (aob:Option Addr) (nb cpb:Nat) (eb:Int) (p q:Int) (T1 TL TH:Bool×Nat×Int) (w:World) (hq:IntKind.i64.wrap (p+48)=q)
  (k1:∀ (W:World),Bw w W→Calls Tryz.prog 39 #[.int .i64 q] W fun r w'=>OutD W T1 r w')
  (k2:∀ (W:World) X,Bw w W→DN W X T1→Calls Tryz.prog 38 #[X,.int .i64 4294967296,.int .i64 q] W fun r w'=>OutQ W TL TH r w') :
  Calls Tryz.prog 17 #[.int .i64 1,.agg #[.bool sa,.slice aoa na cpa,.int .i64 ea],.agg #[.bool sb,.slice aob nb cpb,.int .i64 eb],.int .i64 p] w fun r w'=>OutQ w TL TH r w':=by
 have Hk1:Hid _:=k1
 have Hk2:Hid _:=k2
 clear k1 k2
 obtain⟨W,hW⟩:∃ W,W=((w.alloc (.cells #[.bool sa,.slice aoa na cpa,.int .i64 ea] 45)).alloc (.cells #[.bool sb,.slice aob nb cpb,.int .i64 eb] 45)).alloc (.cells #[.bool false,.slice none 0 0,.int .i64 0,.bool false,.slice none 0 0,.int .i64 0] 47):=⟨_,rfl⟩
 have HB:Hid (Bw w W):=(by rw[hW];exact(((Below.refl _ _).alloc (Nat.le_refl _) _).alloc (by simp) _).alloc (by simp;omega) _:Bw w W)
 have HC0:Hid (W.heap[w.heap.size+1+1]?=some (.cells #[.bool false,.slice none 0 0,.int .i64 0,.bool false,.slice none 0 0,.int .i64 0] 47 (0,0))):=(boxes3 _ _ _ hW).2.2.1
 go_enter Tryz.func17,Tryz.ntmps17
 go_upto_region 1 with fail
 rw[←hW]
 clear hW
 have B0:Hid (Bw W W):=Below.refl _ _
 have kk:=Hk1.out W (HB.out.trans (B0.out.mono HB.out.size))
 clear Hk1
 go_wp2_with fail
 refine kk.mono ?_
 rintro r u1 ⟨s1,ao1,n1,cp1,e1,rfl,hd,hb⟩
 clear kk
 have B1:Hid (Bw W u1):=B0.out.trans (hb.mono B0.out.size)
 have D1:Hid (DN u1 (.agg #[.bool s1,.slice ao1 n1 cp1,.int .i64 e1]) T1):=hd
 clear hd hb B0
 have kk:=Hk2.out u1 _ (HB.out.trans (B1.out.mono HB.out.size)) D1.out
 clear Hk2
 go_wp2_with fail
 refine kk.mono ?_
 rintro r u2 ⟨U,rfl,⟨s1,ao1,n1,cp1,e1,s2,ao2,n2,cp2,e2,rfl,hd1,hd2⟩,hb⟩
 clear kk
 have B2:Hid (Bw W u2):=B1.out.trans (hb.mono B1.out.size)
 have DD:Hid (DN u2 (.agg #[.bool s1,.slice ao1 n1 cp1,.int .i64 e1]) TL∧DN u2 (.agg #[.bool s2,.slice ao2 n2 cp2,.int .i64 e2]) TH):=⟨hd1,hd2⟩
 clear hd1 hd2 hb B1 D1
 have HC:Hid (u2.heap[w.heap.size+1+1]?=some (.cells #[.bool false,.slice none 0 0,.int .i64 0,.bool false,.slice none 0 0,.int .i64 0] 47 (0,0))):=(B2.out.block _ (Array.getElem?_eq_some_iff.1 HC0.out).1).trans HC0.out
 obtain⟨⟨y0,y1,y2,y3,y4,y5⟩,f0,f1,f2,f3,f4,f5⟩:=box_cells6 HC.out
 go_wp2_with fail
 obtain⟨d,hd1,hd2⟩:=undB
 refine bodyPost_ret (results_cell_row rfl _ _ (w.heap.size+1+1) 47 _ (0,0) d rfl (store6 _ _ _ _ _ _ HC.out) hd1 (by cases d <;> exact hd2) (by kernel_rfl)) rfl ?_
 exact⟨_,rfl,⟨_,_,_,_,_,_,_,_,_,_,rfl,DD.out.1.store6 HC.out _ _ _ _ _ _,DD.out.2.store6 HC.out _ _ _ _ _ _⟩,below_store6 (HB.out.trans (B2.out.mono HB.out.size)) (by omega) _ _ _ _ _ _⟩
theorem denc_halfpi (sa:Bool) (aoa:Option Addr) (na cpa:Nat) (ea:Int) (sb:Bool) (aob:Option Addr) (nb cpb:Nat) (eb:Int) (p q:Int) (T1 T2 TL TH:Bool×Nat×Int) (w:World) (hq:IntKind.i64.wrap (p+48)=q)
  (k1:∀ (W:World),Bw w W→Calls Tryz.prog 39 #[.int .i64 q] W fun r w'=>OutD W T1 r w')
  (k2:∀ (W:World) X,Bw w W→DN W X T1→Calls Tryz.prog 40 #[X,.int .i64 (-1)] W fun r w'=>OutD W T2 r w')
  (k3:∀ (W:World) X,Bw w W→DN W X T2→Calls Tryz.prog 38 #[X,.int .i64 4294967296,.int .i64 q] W fun r w'=>OutQ W TL TH r w') :
  Calls Tryz.prog 17 #[.int .i64 2,.agg #[.bool sa,.slice aoa na cpa,.int .i64 ea],.agg #[.bool sb,.slice aob nb cpb,.int .i64 eb],.int .i64 p] w fun r w'=>OutQ w TL TH r w':=by
 have Hk1:Hid _:=k1
 have Hk2:Hid _:=k2
 have Hk3:Hid _:=k3
 clear k1 k2 k3
 obtain⟨W,hW⟩:∃ W,W=((w.alloc (.cells #[.bool sa,.slice aoa na cpa,.int .i64 ea] 45)).alloc (.cells #[.bool sb,.slice aob nb cpb,.int .i64 eb] 45)).alloc (.cells #[.bool false,.slice none 0 0,.int .i64 0,.bool false,.slice none 0 0,.int .i64 0] 47):=⟨_,rfl⟩
 have HB:Hid (Bw w W):=(by rw[hW];exact(((Below.refl _ _).alloc (Nat.le_refl _) _).alloc (by simp) _).alloc (by simp;omega) _:Bw w W)
 have HC0:Hid (W.heap[w.heap.size+1+1]?=some (.cells #[.bool false,.slice none 0 0,.int .i64 0,.bool false,.slice none 0 0,.int .i64 0] 47 (0,0))):=(boxes3 _ _ _ hW).2.2.1
 go_enter Tryz.func17,Tryz.ntmps17
 go_upto_region 1 with fail
 rw[←hW]
 clear hW
 have B0:Hid (Bw W W):=Below.refl _ _
 have kk:=Hk1.out W (HB.out.trans (B0.out.mono HB.out.size))
 clear Hk1
 go_wp2_with fail
 refine kk.mono ?_
 rintro r u1 ⟨s1,ao1,n1,cp1,e1,rfl,hd,hb⟩
 clear kk
 have B1:Hid (Bw W u1):=B0.out.trans (hb.mono B0.out.size)
 have D1:Hid (DN u1 (.agg #[.bool s1,.slice ao1 n1 cp1,.int .i64 e1]) T1):=hd
 clear hd hb B0
 have kk:=Hk2.out u1 _ (HB.out.trans (B1.out.mono HB.out.size)) D1.out
 clear Hk2
 go_wp2_with fail
 refine kk.mono ?_
 rintro r u2 ⟨s2,ao2,n2,cp2,e2,rfl,hd,hb⟩
 clear kk
 have B2:Hid (Bw W u2):=B1.out.trans (hb.mono B1.out.size)
 have D2:Hid (DN u2 (.agg #[.bool s2,.slice ao2 n2 cp2,.int .i64 e2]) T2):=hd
 clear hd hb B1 D1
 have kk:=Hk3.out u2 _ (HB.out.trans (B2.out.mono HB.out.size)) D2.out
 clear Hk3
 go_wp2_with fail
 refine kk.mono ?_
 rintro r u3 ⟨U,rfl,⟨s1,ao1,n1,cp1,e1,s2,ao2,n2,cp2,e2,rfl,hd1,hd2⟩,hb⟩
 clear kk
 have B3:Hid (Bw W u3):=B2.out.trans (hb.mono B2.out.size)
 have DD:Hid (DN u3 (.agg #[.bool s1,.slice ao1 n1 cp1,.int .i64 e1]) TL∧DN u3 (.agg #[.bool s2,.slice ao2 n2 cp2,.int .i64 e2]) TH):=⟨hd1,hd2⟩
 clear hd1 hd2 hb B2 D2
 have HC:Hid (u3.heap[w.heap.size+1+1]?=some (.cells #[.bool false,.slice none 0 0,.int .i64 0,.bool false,.slice none 0 0,.int .i64 0] 47 (0,0))):=(B3.out.block _ (Array.getElem?_eq_some_iff.1 HC0.out).1).trans HC0.out
 obtain⟨⟨y0,y1,y2,y3,y4,y5⟩,f0,f1,f2,f3,f4,f5⟩:=box_cells6 HC.out
 go_wp2_with fail
 obtain⟨d,hd1,hd2⟩:=undB
 refine bodyPost_ret (results_cell_row rfl _ _ (w.heap.size+1+1) 47 _ (0,0) d rfl (store6 _ _ _ _ _ _ HC.out) hd1 (by cases d <;> exact hd2) (by kernel_rfl)) rfl ?_
 exact⟨_,rfl,⟨_,_,_,_,_,_,_,_,_,_,rfl,DD.out.1.store6 HC.out _ _ _ _ _ _,DD.out.2.store6 HC.out _ _ _ _ _ _⟩,below_store6 (HB.out.trans (B3.out.mono HB.out.size)) (by omega) _ _ _ _ _ _⟩
theorem denc_twopi (sa:Bool) (aoa:Option Addr) (na cpa:Nat) (ea:Int) (sb:Bool) (aob:Option Addr) (nb cpb:Nat) (eb:Int) (p q:Int) (T1 T2 TL TH:Bool×Nat×Int) (w:World) (hq:IntKind.i64.wrap (p+48)=q)
  (k1:∀ (W:World),Bw w W→Calls Tryz.prog 39 #[.int .i64 q] W fun r w'=>OutD W T1 r w')
  (k2:∀ (W:World) X,Bw w W→DN W X T1→Calls Tryz.prog 40 #[X,.int .i64 1] W fun r w'=>OutD W T2 r w')
  (k3:∀ (W:World) X,Bw w W→DN W X T2→Calls Tryz.prog 38 #[X,.int .i64 4294967296,.int .i64 q] W fun r w'=>OutQ W TL TH r w') :
  Calls Tryz.prog 17 #[.int .i64 3,.agg #[.bool sa,.slice aoa na cpa,.int .i64 ea],.agg #[.bool sb,.slice aob nb cpb,.int .i64 eb],.int .i64 p] w fun r w'=>OutQ w TL TH r w':=by
 have Hk1:Hid _:=k1
 have Hk2:Hid _:=k2
 have Hk3:Hid _:=k3
 clear k1 k2 k3
 obtain⟨W,hW⟩:∃ W,W=((w.alloc (.cells #[.bool sa,.slice aoa na cpa,.int .i64 ea] 45)).alloc (.cells #[.bool sb,.slice aob nb cpb,.int .i64 eb] 45)).alloc (.cells #[.bool false,.slice none 0 0,.int .i64 0,.bool false,.slice none 0 0,.int .i64 0] 47):=⟨_,rfl⟩
 have HB:Hid (Bw w W):=(by rw[hW];exact(((Below.refl _ _).alloc (Nat.le_refl _) _).alloc (by simp) _).alloc (by simp;omega) _:Bw w W)
 have HC0:Hid (W.heap[w.heap.size+1+1]?=some (.cells #[.bool false,.slice none 0 0,.int .i64 0,.bool false,.slice none 0 0,.int .i64 0] 47 (0,0))):=(boxes3 _ _ _ hW).2.2.1
 go_enter Tryz.func17,Tryz.ntmps17
 go_upto_region 1 with fail
 rw[←hW]
 clear hW
 have B0:Hid (Bw W W):=Below.refl _ _
 have kk:=Hk1.out W (HB.out.trans (B0.out.mono HB.out.size))
 clear Hk1
 go_wp2_with fail
 refine kk.mono ?_
 rintro r u1 ⟨s1,ao1,n1,cp1,e1,rfl,hd,hb⟩
 clear kk
 have B1:Hid (Bw W u1):=B0.out.trans (hb.mono B0.out.size)
 have D1:Hid (DN u1 (.agg #[.bool s1,.slice ao1 n1 cp1,.int .i64 e1]) T1):=hd
 clear hd hb B0
 have kk:=Hk2.out u1 _ (HB.out.trans (B1.out.mono HB.out.size)) D1.out
 clear Hk2
 go_wp2_with fail
 refine kk.mono ?_
 rintro r u2 ⟨s2,ao2,n2,cp2,e2,rfl,hd,hb⟩
 clear kk
 have B2:Hid (Bw W u2):=B1.out.trans (hb.mono B1.out.size)
 have D2:Hid (DN u2 (.agg #[.bool s2,.slice ao2 n2 cp2,.int .i64 e2]) T2):=hd
 clear hd hb B1 D1
 have kk:=Hk3.out u2 _ (HB.out.trans (B2.out.mono HB.out.size)) D2.out
 clear Hk3
 go_wp2_with fail
 refine kk.mono ?_
 rintro r u3 ⟨U,rfl,⟨s1,ao1,n1,cp1,e1,s2,ao2,n2,cp2,e2,rfl,hd1,hd2⟩,hb⟩
 clear kk
 have B3:Hid (Bw W u3):=B2.out.trans (hb.mono B2.out.size)
 have DD:Hid (DN u3 (.agg #[.bool s1,.slice ao1 n1 cp1,.int .i64 e1]) TL∧DN u3 (.agg #[.bool s2,.slice ao2 n2 cp2,.int .i64 e2]) TH):=⟨hd1,hd2⟩
 clear hd1 hd2 hb B2 D2
 have HC:Hid (u3.heap[w.heap.size+1+1]?=some (.cells #[.bool false,.slice none 0 0,.int .i64 0,.bool false,.slice none 0 0,.int .i64 0] 47 (0,0))):=(B3.out.block _ (Array.getElem?_eq_some_iff.1 HC0.out).1).trans HC0.out
 obtain⟨⟨y0,y1,y2,y3,y4,y5⟩,f0,f1,f2,f3,f4,f5⟩:=box_cells6 HC.out
 go_wp2_with fail
 obtain⟨d,hd1,hd2⟩:=undB
 refine bodyPost_ret (results_cell_row rfl _ _ (w.heap.size+1+1) 47 _ (0,0) d rfl (store6 _ _ _ _ _ _ HC.out) hd1 (by cases d <;> exact hd2) (by kernel_rfl)) rfl ?_
 exact⟨_,rfl,⟨_,_,_,_,_,_,_,_,_,_,rfl,DD.out.1.store6 HC.out _ _ _ _ _ _,DD.out.2.store6 HC.out _ _ _ _ _ _⟩,below_store6 (HB.out.trans (B3.out.mono HB.out.size)) (by omega) _ _ _ _ _ _⟩
theorem denc_e (sa:Bool) (aoa:Option Addr) (na cpa:Nat) (ea:Int) (sb:Bool) (aob:Option Addr) (nb cpb:Nat) (eb:Int) (p q:Int) (T1 TL TH:Bool×Nat×Int) (w:World) (hq:IntKind.i64.wrap (p+48)=q)
  (k1:∀ (W:World),Bw w W→Calls Tryz.prog 24 #[.int .i64 1] W fun r w'=>OutD W T1 r w')
  (k2:∀ (W:World) X,Bw w W→DN W X T1→Calls Tryz.prog 41 #[X,.int .i64 p] W fun r w'=>OutQ W TL TH r w') :
  Calls Tryz.prog 17 #[.int .i64 4,.agg #[.bool sa,.slice aoa na cpa,.int .i64 ea],.agg #[.bool sb,.slice aob nb cpb,.int .i64 eb],.int .i64 p] w fun r w'=>OutQ w TL TH r w':=by
 have Hk1:Hid _:=k1
 have Hk2:Hid _:=k2
 clear k1 k2
 obtain⟨W,hW⟩:∃ W,W=((w.alloc (.cells #[.bool sa,.slice aoa na cpa,.int .i64 ea] 45)).alloc (.cells #[.bool sb,.slice aob nb cpb,.int .i64 eb] 45)).alloc (.cells #[.bool false,.slice none 0 0,.int .i64 0,.bool false,.slice none 0 0,.int .i64 0] 47):=⟨_,rfl⟩
 have HB:Hid (Bw w W):=(by rw[hW];exact(((Below.refl _ _).alloc (Nat.le_refl _) _).alloc (by simp) _).alloc (by simp;omega) _:Bw w W)
 have HC0:Hid (W.heap[w.heap.size+1+1]?=some (.cells #[.bool false,.slice none 0 0,.int .i64 0,.bool false,.slice none 0 0,.int .i64 0] 47 (0,0))):=(boxes3 _ _ _ hW).2.2.1
 go_enter Tryz.func17,Tryz.ntmps17
 go_upto_region 1 with fail
 rw[←hW]
 clear hW
 have B0:Hid (Bw W W):=Below.refl _ _
 have kk:=Hk1.out W (HB.out.trans (B0.out.mono HB.out.size))
 clear Hk1
 go_wp2_with fail
 refine kk.mono ?_
 rintro r u1 ⟨s1,ao1,n1,cp1,e1,rfl,hd,hb⟩
 clear kk
 have B1:Hid (Bw W u1):=B0.out.trans (hb.mono B0.out.size)
 have D1:Hid (DN u1 (.agg #[.bool s1,.slice ao1 n1 cp1,.int .i64 e1]) T1):=hd
 clear hd hb B0
 have kk:=Hk2.out u1 _ (HB.out.trans (B1.out.mono HB.out.size)) D1.out
 clear Hk2
 go_wp2_with fail
 refine kk.mono ?_
 rintro r u2 ⟨U,rfl,⟨s1,ao1,n1,cp1,e1,s2,ao2,n2,cp2,e2,rfl,hd1,hd2⟩,hb⟩
 clear kk
 have B2:Hid (Bw W u2):=B1.out.trans (hb.mono B1.out.size)
 have DD:Hid (DN u2 (.agg #[.bool s1,.slice ao1 n1 cp1,.int .i64 e1]) TL∧DN u2 (.agg #[.bool s2,.slice ao2 n2 cp2,.int .i64 e2]) TH):=⟨hd1,hd2⟩
 clear hd1 hd2 hb B1 D1
 have HC:Hid (u2.heap[w.heap.size+1+1]?=some (.cells #[.bool false,.slice none 0 0,.int .i64 0,.bool false,.slice none 0 0,.int .i64 0] 47 (0,0))):=(B2.out.block _ (Array.getElem?_eq_some_iff.1 HC0.out).1).trans HC0.out
 obtain⟨⟨y0,y1,y2,y3,y4,y5⟩,f0,f1,f2,f3,f4,f5⟩:=box_cells6 HC.out
 go_wp2_with fail
 obtain⟨d,hd1,hd2⟩:=undB
 refine bodyPost_ret (results_cell_row rfl _ _ (w.heap.size+1+1) 47 _ (0,0) d rfl (store6 _ _ _ _ _ _ HC.out) hd1 (by cases d <;> exact hd2) (by kernel_rfl)) rfl ?_
 exact⟨_,rfl,⟨_,_,_,_,_,_,_,_,_,_,rfl,DD.out.1.store6 HC.out _ _ _ _ _ _,DD.out.2.store6 HC.out _ _ _ _ _ _⟩,below_store6 (HB.out.trans (B2.out.mono HB.out.size)) (by omega) _ _ _ _ _ _⟩
theorem denc_ln2 (sa:Bool) (aoa:Option Addr) (na cpa:Nat) (ea:Int) (sb:Bool) (aob:Option Addr) (nb cpb:Nat) (eb:Int) (p q:Int) (T1 TL TH:Bool×Nat×Int) (w:World) (hq:IntKind.i64.wrap (p+48)=q)
  (k1:∀ (W:World),Bw w W→Calls Tryz.prog 42 #[.int .i64 q] W fun r w'=>OutD W T1 r w')
  (k2:∀ (W:World) X,Bw w W→DN W X T1→Calls Tryz.prog 38 #[X,.int .i64 4294967296,.int .i64 q] W fun r w'=>OutQ W TL TH r w') :
  Calls Tryz.prog 17 #[.int .i64 5,.agg #[.bool sa,.slice aoa na cpa,.int .i64 ea],.agg #[.bool sb,.slice aob nb cpb,.int .i64 eb],.int .i64 p] w fun r w'=>OutQ w TL TH r w':=by
 have Hk1:Hid _:=k1
 have Hk2:Hid _:=k2
 clear k1 k2
 obtain⟨W,hW⟩:∃ W,W=((w.alloc (.cells #[.bool sa,.slice aoa na cpa,.int .i64 ea] 45)).alloc (.cells #[.bool sb,.slice aob nb cpb,.int .i64 eb] 45)).alloc (.cells #[.bool false,.slice none 0 0,.int .i64 0,.bool false,.slice none 0 0,.int .i64 0] 47):=⟨_,rfl⟩
 have HB:Hid (Bw w W):=(by rw[hW];exact(((Below.refl _ _).alloc (Nat.le_refl _) _).alloc (by simp) _).alloc (by simp;omega) _:Bw w W)
 have HC0:Hid (W.heap[w.heap.size+1+1]?=some (.cells #[.bool false,.slice none 0 0,.int .i64 0,.bool false,.slice none 0 0,.int .i64 0] 47 (0,0))):=(boxes3 _ _ _ hW).2.2.1
 go_enter Tryz.func17,Tryz.ntmps17
 go_upto_region 1 with fail
 rw[←hW]
 clear hW
 have B0:Hid (Bw W W):=Below.refl _ _
 have kk:=Hk1.out W (HB.out.trans (B0.out.mono HB.out.size))
 clear Hk1
 go_wp2_with fail
 refine kk.mono ?_
 rintro r u1 ⟨s1,ao1,n1,cp1,e1,rfl,hd,hb⟩
 clear kk
 have B1:Hid (Bw W u1):=B0.out.trans (hb.mono B0.out.size)
 have D1:Hid (DN u1 (.agg #[.bool s1,.slice ao1 n1 cp1,.int .i64 e1]) T1):=hd
 clear hd hb B0
 have kk:=Hk2.out u1 _ (HB.out.trans (B1.out.mono HB.out.size)) D1.out
 clear Hk2
 go_wp2_with fail
 refine kk.mono ?_
 rintro r u2 ⟨U,rfl,⟨s1,ao1,n1,cp1,e1,s2,ao2,n2,cp2,e2,rfl,hd1,hd2⟩,hb⟩
 clear kk
 have B2:Hid (Bw W u2):=B1.out.trans (hb.mono B1.out.size)
 have DD:Hid (DN u2 (.agg #[.bool s1,.slice ao1 n1 cp1,.int .i64 e1]) TL∧DN u2 (.agg #[.bool s2,.slice ao2 n2 cp2,.int .i64 e2]) TH):=⟨hd1,hd2⟩
 clear hd1 hd2 hb B1 D1
 have HC:Hid (u2.heap[w.heap.size+1+1]?=some (.cells #[.bool false,.slice none 0 0,.int .i64 0,.bool false,.slice none 0 0,.int .i64 0] 47 (0,0))):=(B2.out.block _ (Array.getElem?_eq_some_iff.1 HC0.out).1).trans HC0.out
 obtain⟨⟨y0,y1,y2,y3,y4,y5⟩,f0,f1,f2,f3,f4,f5⟩:=box_cells6 HC.out
 go_wp2_with fail
 obtain⟨d,hd1,hd2⟩:=undB
 refine bodyPost_ret (results_cell_row rfl _ _ (w.heap.size+1+1) 47 _ (0,0) d rfl (store6 _ _ _ _ _ _ HC.out) hd1 (by cases d <;> exact hd2) (by kernel_rfl)) rfl ?_
 exact⟨_,rfl,⟨_,_,_,_,_,_,_,_,_,_,rfl,DD.out.1.store6 HC.out _ _ _ _ _ _,DD.out.2.store6 HC.out _ _ _ _ _ _⟩,below_store6 (HB.out.trans (B2.out.mono HB.out.size)) (by omega) _ _ _ _ _ _⟩
theorem denc_ln10 (sa:Bool) (aoa:Option Addr) (na cpa:Nat) (ea:Int) (sb:Bool) (aob:Option Addr) (nb cpb:Nat) (eb:Int) (p q:Int) (T1 TL TH:Bool×Nat×Int) (w:World) (hq:IntKind.i64.wrap (p+48)=q)
  (k1:∀ (W:World),Bw w W→Calls Tryz.prog 24 #[.int .i64 10] W fun r w'=>OutD W T1 r w')
  (k2:∀ (W:World) X,Bw w W→DN W X T1→Calls Tryz.prog 43 #[X,.int .i64 p] W fun r w'=>OutQ W TL TH r w') :
  Calls Tryz.prog 17 #[.int .i64 6,.agg #[.bool sa,.slice aoa na cpa,.int .i64 ea],.agg #[.bool sb,.slice aob nb cpb,.int .i64 eb],.int .i64 p] w fun r w'=>OutQ w TL TH r w':=by
 have Hk1:Hid _:=k1
 have Hk2:Hid _:=k2
 clear k1 k2
 obtain⟨W,hW⟩:∃ W,W=((w.alloc (.cells #[.bool sa,.slice aoa na cpa,.int .i64 ea] 45)).alloc (.cells #[.bool sb,.slice aob nb cpb,.int .i64 eb] 45)).alloc (.cells #[.bool false,.slice none 0 0,.int .i64 0,.bool false,.slice none 0 0,.int .i64 0] 47):=⟨_,rfl⟩
 have HB:Hid (Bw w W):=(by rw[hW];exact(((Below.refl _ _).alloc (Nat.le_refl _) _).alloc (by simp) _).alloc (by simp;omega) _:Bw w W)
 have HC0:Hid (W.heap[w.heap.size+1+1]?=some (.cells #[.bool false,.slice none 0 0,.int .i64 0,.bool false,.slice none 0 0,.int .i64 0] 47 (0,0))):=(boxes3 _ _ _ hW).2.2.1
 go_enter Tryz.func17,Tryz.ntmps17
 go_upto_region 1 with fail
 rw[←hW]
 clear hW
 have B0:Hid (Bw W W):=Below.refl _ _
 have kk:=Hk1.out W (HB.out.trans (B0.out.mono HB.out.size))
 clear Hk1
 go_wp2_with fail
 refine kk.mono ?_
 rintro r u1 ⟨s1,ao1,n1,cp1,e1,rfl,hd,hb⟩
 clear kk
 have B1:Hid (Bw W u1):=B0.out.trans (hb.mono B0.out.size)
 have D1:Hid (DN u1 (.agg #[.bool s1,.slice ao1 n1 cp1,.int .i64 e1]) T1):=hd
 clear hd hb B0
 have kk:=Hk2.out u1 _ (HB.out.trans (B1.out.mono HB.out.size)) D1.out
 clear Hk2
 go_wp2_with fail
 refine kk.mono ?_
 rintro r u2 ⟨U,rfl,⟨s1,ao1,n1,cp1,e1,s2,ao2,n2,cp2,e2,rfl,hd1,hd2⟩,hb⟩
 clear kk
 have B2:Hid (Bw W u2):=B1.out.trans (hb.mono B1.out.size)
 have DD:Hid (DN u2 (.agg #[.bool s1,.slice ao1 n1 cp1,.int .i64 e1]) TL∧DN u2 (.agg #[.bool s2,.slice ao2 n2 cp2,.int .i64 e2]) TH):=⟨hd1,hd2⟩
 clear hd1 hd2 hb B1 D1
 have HC:Hid (u2.heap[w.heap.size+1+1]?=some (.cells #[.bool false,.slice none 0 0,.int .i64 0,.bool false,.slice none 0 0,.int .i64 0] 47 (0,0))):=(B2.out.block _ (Array.getElem?_eq_some_iff.1 HC0.out).1).trans HC0.out
 obtain⟨⟨y0,y1,y2,y3,y4,y5⟩,f0,f1,f2,f3,f4,f5⟩:=box_cells6 HC.out
 go_wp2_with fail
 obtain⟨d,hd1,hd2⟩:=undB
 refine bodyPost_ret (results_cell_row rfl _ _ (w.heap.size+1+1) 47 _ (0,0) d rfl (store6 _ _ _ _ _ _ HC.out) hd1 (by cases d <;> exact hd2) (by kernel_rfl)) rfl ?_
 exact⟨_,rfl,⟨_,_,_,_,_,_,_,_,_,_,rfl,DD.out.1.store6 HC.out _ _ _ _ _ _,DD.out.2.store6 HC.out _ _ _ _ _ _⟩,below_store6 (HB.out.trans (B2.out.mono HB.out.size)) (by omega) _ _ _ _ _ _⟩
theorem un_shift (a:Int) (p d:Nat):un a p=un (a*((2^d:Nat):Int)) (p+d):=by
 refine un_eq (K:=p+d) (by omega) ?_ ?_
 ·omega
 ·have h:=vz_un (K:=p+d) a (Nat.le_add_right p d)
  rw[Nat.add_sub_cancel_left] at h
  rw[Nat.sub_self,Nat.pow_zero]
  unfold un at h
  have h2:=vz_un (K:=p+d) a (Nat.le_add_right p d)
  have e1:vz (p+d) (decide (a<0)) a.natAbs (-(p:Int))=a*((2^d:Nat):Int):=by
   unfold vz
   rw[sv_nat,show(-(p:Int)+((p+d:Nat):Int)).toNat=d by omega]
  rw[e1];simp
theorem small_pow {z:Int} {b d:Nat} (h:z.natAbs<2^b):(z*((2^d:Nat):Int)).natAbs<2^(b+d):=by
 rw[Int.natAbs_mul,Int.natAbs_natCast,Nat.pow_add]
 exact(Nat.mul_lt_mul_right (Nat.two_pow_pos d)).2 h
theorem daroundS {Z:Int} {u p d b:Nat} {X:Value} {w:World} (hZ:Z.natAbs<2^b) (hb:b≤80000) (hb2:62+d≤b) (hu:u<2^62) (hp:p+d≤40000) (hX:DN w X (un Z (p+d))) :
  Calls Tryz.prog 38 #[X,.int .i64 u,.int .i64 p] w fun r w'=>OutQ w (un (Z - u*((2^d:Nat):Int)) (p+d)) (un (Z+u*((2^d:Nat):Int)) (p+d)) r w':=by
 obtain⟨s,ao,n,cp,e,rfl⟩:=hX.shape
 have hu1:((u:Nat):Int).natAbs<2^62:=by rw[Int.natAbs_natCast];exact hu
 have hu2:((u:Int)*((2^d:Nat):Int)).natAbs<2^b:=Nat.lt_of_lt_of_le (small_pow hu1) (Nat.pow_le_pow_right (by omega) hb2)
 have h62:(2:Nat)^62=4611686018427387904:=by decide
 exact daround_1 s ao n cp e (u:Int) (p:Int) (un (u:Int) 0) (un 1 p) (un ((u:Int)*((2^d:Nat):Int)) (p+d)) _ _ w
  (fun W _=>dwholeN (by omega)) (fun W _=>dunit (by omega))
  (fun W X Y _ hX hY=>by
   have k:=dmulZ (l:=1) hu1 (by decide) (by omega) (by omega) (by omega) (by omega) hX hY
   rw[Int.mul_one,Nat.zero_add,un_shift _ p d] at k
   exact k)
  (fun W Y hb1 hY=>dlessZ hZ hu2 (by omega) hp (hX.later hb1) hY)
  (fun W Y hb1 hY=>dplusZ hZ hu2 (by omega) hp (hX.later hb1) hY)
theorem piV_small {p:Nat} (hp:p≤40000):(piV p).natAbs<2^(p+29):=by
 unfold piV
 rw[Int.sub_eq_add_neg]
 exact small_addI (small_mul (p:=p) (by omega) (invV_small true (n:=5) (by omega) hp)) (by rw[Int.natAbs_neg];exact small_mul (p:=p) (by omega) (invV_small true (n:=239) (by omega) hp))
theorem ln2V_small {p:Nat} (hp:p≤40000):(ln2V p).natAbs<2^(p+30):=by
 have m1:=small_mul (k:=18) (p:=p) (by omega) (invV_small false (n:=26) (by omega) hp)
 have m2:=small_mul (k:=2) (p:=p) (by omega) (invV_small false (n:=4801) (by omega) hp)
 have m3:=small_mul (k:=8) (p:=p) (by omega) (invV_small false (n:=8749) (by omega) hp)
 unfold ln2V
 refine small_addI (k:=p+29) ?_ (Nat.lt_of_lt_of_le m3 (Nat.pow_le_pow_right (by omega) (by omega)))
 rw[Int.sub_eq_add_neg]
 exact small_addI m1 (by rw[Int.natAbs_neg];exact m2)
theorem dencPi {p:Nat} {X Y:Value} {tx ty:Bool×Nat×Int} {w:World} (hp:p≤30000) (hX:DN w X tx) (hY:DN w Y ty) :
  Calls Tryz.prog 17 #[.int .i64 1,X,Y,.int .i64 p] w fun r w'=>OutQ w (un (piV (p+48) - (4294967296:Nat)) (p+48)) (un (piV (p+48)+(4294967296:Nat)) (p+48)) r w':=by
 obtain⟨s,ao,n,cp,e,rfl⟩:=hX.shape
 obtain⟨s2,ao2,n2,cp2,e2,rfl⟩:=hY.shape
 exact denc_pi s ao n cp e s2 ao2 n2 cp2 e2 (p:Int) ((p+48:Nat):Int) (un (piV (p+48)) (p+48)) _ _ w (by rw[IntKind.wrap_i64];omega)
  (fun W _=>dpi (by omega)) (fun W X _ hX=>daround (u:=4294967296) (b:=p+48+29) (piV_small (by omega)) (by omega) (by omega) (by decide) (by omega) hX)
theorem dencHalfPi {p:Nat} {X Y:Value} {tx ty:Bool×Nat×Int} {w:World} (hp:p≤30000) (hX:DN w X tx) (hY:DN w Y ty) :
  Calls Tryz.prog 17 #[.int .i64 2,X,Y,.int .i64 p] w fun r w'=>OutQ w (un (piV (p+48) - (4294967296:Nat)*((2^1:Nat):Int)) (p+48+1)) (un (piV (p+48)+(4294967296:Nat)*((2^1:Nat):Int)) (p+48+1)) r w':=by
 obtain⟨s,ao,n,cp,e,rfl⟩:=hX.shape
 obtain⟨s2,ao2,n2,cp2,e2,rfl⟩:=hY.shape
 exact denc_halfpi s ao n cp e s2 ao2 n2 cp2 e2 (p:Int) ((p+48:Nat):Int) (un (piV (p+48)) (p+48)) (un (piV (p+48)) (p+48+1)) _ _ w (by rw[IntKind.wrap_i64];omega)
  (fun W _=>dpi (by omega)) (fun W X _ hX=>dscaled (piV_small (by omega)) (by omega) (by omega) (by omega) (by omega) hX) (fun W X _ hX=>daroundS (u:=4294967296) (d:=1) (b:=p+48+29) (piV_small (by omega)) (by omega) (by omega) (by decide) (by omega) hX)
theorem dencTwoPi {p:Nat} {X Y:Value} {tx ty:Bool×Nat×Int} {w:World} (hp:p≤30000) (hX:DN w X tx) (hY:DN w Y ty) :
  Calls Tryz.prog 17 #[.int .i64 3,X,Y,.int .i64 p] w fun r w'=>OutQ w (un (piV (p+48)*((2^1:Nat):Int) - (4294967296:Nat)) (p+48)) (un (piV (p+48)*((2^1:Nat):Int)+(4294967296:Nat)) (p+48)) r w':=by
 obtain⟨s,ao,n,cp,e,rfl⟩:=hX.shape
 obtain⟨s2,ao2,n2,cp2,e2,rfl⟩:=hY.shape
 have hs:=piV_small (p:=p+48) (by omega)
 have hs2:(piV (p+48)*((2^1:Nat):Int)).natAbs<2^(p+48+29+1):=small_pow hs
 have e1:un (piV (p+48)*((2^1:Nat):Int)) (p+48)=un (piV (p+48)) (p+47):=(un_shift (piV (p+48)) (p+47) 1).symm
 refine denc_twopi s ao n cp e s2 ao2 n2 cp2 e2 (p:Int) ((p+48:Nat):Int) (un (piV (p+48)) (p+48)) (un (piV (p+48)*((2^1:Nat):Int)) (p+48)) _ _ w (by rw[IntKind.wrap_i64];omega)
  (fun W _=>dpi (by omega)) (fun W X _ hX=>?_) (fun W X _ hX=>daround (u:=4294967296) (b:=p+48+30) hs2 (by omega) (by omega) (by decide) (by omega) hX)
 rw[e1]
 exact dscaled (q:=p+47) hs (by omega) (by omega) (by omega) (by omega) hX
theorem dencLn2 {p:Nat} {X Y:Value} {tx ty:Bool×Nat×Int} {w:World} (hp:p≤30000) (hX:DN w X tx) (hY:DN w Y ty) :
  Calls Tryz.prog 17 #[.int .i64 5,X,Y,.int .i64 p] w fun r w'=>OutQ w (un (ln2V (p+48) - (4294967296:Nat)) (p+48)) (un (ln2V (p+48)+(4294967296:Nat)) (p+48)) r w':=by
 obtain⟨s,ao,n,cp,e,rfl⟩:=hX.shape
 obtain⟨s2,ao2,n2,cp2,e2,rfl⟩:=hY.shape
 exact denc_ln2 s ao n cp e s2 ao2 n2 cp2 e2 (p:Int) ((p+48:Nat):Int) (un (ln2V (p+48)) (p+48)) _ _ w (by rw[IntKind.wrap_i64];omega)
  (fun W _=>dln2 (by omega)) (fun W X _ hX=>daround (u:=4294967296) (b:=p+48+30) (ln2V_small (by omega)) (by omega) (by omega) (by decide) (by omega) hX)
def OutT (W:World) (t:Bool×Nat×Int) (r:Ending) (w':World):Prop:=∃ s ao n cp e b,r=.returned (.tuple #[.agg #[.bool s,.slice ao n cp,.int .i64 e],.bool b])∧DN w' (.agg #[.bool s,.slice ao n cp,.int .i64 e]) t∧Bw W w'
theorem droot {k q s:Nat} {X:Value} {w:World} (hk0:0<k) (hk:k<64) (hq:q≤40000) (h1:s*s≤k*4^q) (h2:k*4^q<(s+1)*(s+1)) (hX:DN w X (un k 0)) :
  Calls Tryz.prog 44 #[X,.int .i64 q] w fun r w'=>OutT w (un s q) r w':=by
 obtain⟨ao,cap,rfl,hA⟩:=hX
 have hs:((k:Nat):Int).natAbs<2^6:=by rw[Int.natAbs_natCast];omega
 have he:=un_e (p:=0) hs
 have hd:=dlen_two9 (un_small (p:=0) hs)
 refine(rrootof (place:=(q:Int)) hA.at_ hA.le (by omega) (by omega) (by omega)).mono ?_
 rintro r w' ⟨A,t,rfl,hn,g1,g2,hb⟩
 have hv:=un_parts (a:=(k:Int)) (p:=0) (by omega)
 have hrt:rtQ (un (k:Int) 0).2.1 (un (k:Int) 0).2.2 (q:Int)=k*4^q:=by
  obtain⟨-,h3,h4⟩:=hv
  rw[Int.natAbs_natCast] at h3 h4
  unfold rtQ
  rw[if_pos (by omega),h4,show(-((0:Nat):Int)+(tz k:Int)+2*(q:Int)).toNat=tz k+2*q by omega,Nat.pow_add,←Nat.mul_assoc,h3,Nat.pow_mul]
 rw[hrt] at g1 g2
 obtain rfl:t=s:=root_uniq h1 h2 g1 g2
 have hdn:=hn.dn
 obtain⟨s',ao',n',cp',e',rfl⟩:=hdn.shape
 refine⟨_,_,_,_,_,_,rfl,?_,hb⟩
 have e1:cn false t (-(q:Int))=un t q:=by
  unfold un
  rw[decide_eq_false (by omega),Int.natAbs_natCast]
 rw[←e1]
 exact hdn
theorem denc_sqrt2 (sa:Bool) (aoa:Option Addr) (na cpa:Nat) (ea:Int) (sb:Bool) (aob:Option Addr) (nb cpb:Nat) (eb:Int) (p q:Int) (T1 T2 TL TH:Bool×Nat×Int) (w:World) (hq:IntKind.i64.wrap (p+48)=q)
  (k1:∀ (W:World),Bw w W→Calls Tryz.prog 24 #[.int .i64 2] W fun r w'=>OutD W T1 r w')
  (k2:∀ (W:World) X,Bw w W→DN W X T1→Calls Tryz.prog 44 #[X,.int .i64 q] W fun r w'=>OutT W T2 r w')
  (k3:∀ (W:World) X,Bw w W→DN W X T2→Calls Tryz.prog 38 #[X,.int .i64 2,.int .i64 q] W fun r w'=>OutQ W TL TH r w') :
  Calls Tryz.prog 17 #[.int .i64 7,.agg #[.bool sa,.slice aoa na cpa,.int .i64 ea],.agg #[.bool sb,.slice aob nb cpb,.int .i64 eb],.int .i64 p] w fun r w'=>OutQ w TL TH r w':=by
 have Hk1:Hid _:=k1
 have Hk2:Hid _:=k2
 have Hk3:Hid _:=k3
 clear k1 k2 k3
 obtain⟨W,hW⟩:∃ W,W=((w.alloc (.cells #[.bool sa,.slice aoa na cpa,.int .i64 ea] 45)).alloc (.cells #[.bool sb,.slice aob nb cpb,.int .i64 eb] 45)).alloc (.cells #[.bool false,.slice none 0 0,.int .i64 0,.bool false,.slice none 0 0,.int .i64 0] 47):=⟨_,rfl⟩
 have HB:Hid (Bw w W):=(by rw[hW];exact(((Below.refl _ _).alloc (Nat.le_refl _) _).alloc (by simp) _).alloc (by simp;omega) _:Bw w W)
 have HC0:Hid (W.heap[w.heap.size+1+1]?=some (.cells #[.bool false,.slice none 0 0,.int .i64 0,.bool false,.slice none 0 0,.int .i64 0] 47 (0,0))):=(boxes3 _ _ _ hW).2.2.1
 go_enter Tryz.func17,Tryz.ntmps17
 go_upto_region 1 with fail
 rw[←hW]
 clear hW
 have kk:=Hk1.out W HB.out
 go_wp2_with fail
 refine kk.mono ?_
 rintro r u1 ⟨s1,ao1,n1,cp1,e1,rfl,hd,hb⟩
 clear kk
 have B1:Hid (Bw W u1):=hb
 have kk:=Hk2.out u1 _ (HB.out.trans (B1.out.mono HB.out.size)) hd
 clear hb hd
 go_wp2_with fail
 refine kk.mono ?_
 rintro r u2 ⟨s2,ao2,n2,cp2,e2,b2,rfl,hd,hb⟩
 clear kk
 have B2:Hid (Bw W u2):=B1.out.trans (hb.mono B1.out.size)
 obtain⟨V3,hV3⟩:∃ V2,V2=u2.alloc (.cells #[.bool false,.slice none 0 0,.int .i64 0] 45):=⟨_,rfl⟩
 have hbV3:Bw u2 V3:=by rw[hV3];exact(Below.refl _ _).alloc (Nat.le_refl _) _
 have hzV3:V3.heap[u2.heap.size]?=some (.cells #[.bool false,.slice none 0 0,.int .i64 0] 45 (0,0)):=by rw[hV3];exact heap_alloc_new _ _
 obtain⟨⟨y0,y1,y2⟩,y3,y4,y5⟩:=box_cells29 hzV3
 have HZ:Hid (Bw W u2∧Bw u2 V3∧V3.heap[u2.heap.size]?=some (.cells #[.bool false,.slice none 0 0,.int .i64 0] 45 (0,0))∧DN u2 (.agg #[.bool s2,.slice ao2 n2 cp2,.int .i64 e2]) T2):=⟨B2.out,hbV3,hzV3,hd⟩
 clear hbV3 hzV3 hd hb B1 B2
 go_upto_region 17 with (rw[←hV3];clear hV3)
 obtain⟨gx,hgx⟩:∃ g,g=u2.heap.size:=⟨_,rfl⟩
 obtain⟨W3,hW3⟩:∃ V2,V2=((V3.setCell ⟨u2.heap.size,0,none⟩ (.bool s2)).setCell ⟨u2.heap.size,1,none⟩ (.slice ao2 n2 cp2)).setCell ⟨u2.heap.size,2,none⟩ (.int .i64 e2):=⟨_,rfl⟩
 have HX:Hid (NbD W3 gx s2 ao2 n2 cp2 e2 (T2)∧Bw W W3):=(by
  rw[hW3,hgx]
  exact⟨⟨store3_29 _ _ _ HZ.out.2.2.1,(HZ.out.2.2.2.later HZ.out.2.1).store3 HZ.out.2.2.1 _ _ _⟩,below_store3 (HZ.out.1.trans (HZ.out.2.1.mono HZ.out.1.size)) HZ.out.1.size _ _ _⟩:NbD W3 gx s2 ao2 n2 cp2 e2 (T2)∧Bw W W3)
 rw[←hW3,←hgx]
 clear hW3 hgx HZ y0 y1 y2 y3 y4 y5
 obtain⟨⟨y0,y1,y2⟩,y3,y4,y5⟩:=box_cells29 HX.out.1.1
 have kk:=Hk3.out W3 _ (HB.out.trans (HX.out.2.mono HB.out.size)) HX.out.1.2
 clear Hk1 Hk2 Hk3
 go_wp2_with fail
 refine kk.mono ?_
 rintro r u4 ⟨U,rfl,⟨t1,bo1,m1,dp1,f1,t2,bo2,m2,dp2,f2,rfl,hd1,hd2⟩,hb⟩
 clear kk y0 y1 y2 y3 y4 y5
 have B4:Hid (Bw W u4):=HX.out.2.trans (hb.mono HX.out.2.size)
 have DD:Hid (DN u4 (.agg #[.bool t1,.slice bo1 m1 dp1,.int .i64 f1]) TL∧DN u4 (.agg #[.bool t2,.slice bo2 m2 dp2,.int .i64 f2]) TH):=⟨hd1,hd2⟩
 clear hd1 hd2 hb HX
 have HC:Hid (u4.heap[w.heap.size+1+1]?=some (.cells #[.bool false,.slice none 0 0,.int .i64 0,.bool false,.slice none 0 0,.int .i64 0] 47 (0,0))):=(B4.out.block _ (Array.getElem?_eq_some_iff.1 HC0.out).1).trans HC0.out
 obtain⟨⟨y0,y1,y2,y3,y4,y5⟩,f0,f1',f2',f3,f4,f5⟩:=box_cells6 HC.out
 go_wp2_with fail
 obtain⟨d,hd1,hd2⟩:=undB
 refine bodyPost_ret (results_cell_row rfl _ _ (w.heap.size+1+1) 47 _ (0,0) d rfl (store6 _ _ _ _ _ _ HC.out) hd1 (by cases d <;> exact hd2) (by kernel_rfl)) rfl ?_
 exact⟨_,rfl,⟨_,_,_,_,_,_,_,_,_,_,rfl,DD.out.1.store6 HC.out _ _ _ _ _ _,DD.out.2.store6 HC.out _ _ _ _ _ _⟩,below_store6 (HB.out.trans (B4.out.mono HB.out.size)) (by omega) _ _ _ _ _ _⟩
theorem dencSqrt2 {p s:Nat} {X Y:Value} {tx ty:Bool×Nat×Int} {w:World} (hp:p≤30000) (h1:s*s≤2*4^(p+48)) (h2:2*4^(p+48)<(s+1)*(s+1)) (hX:DN w X tx) (hY:DN w Y ty) :
  Calls Tryz.prog 17 #[.int .i64 7,X,Y,.int .i64 p] w fun r w'=>OutQ w (un ((s:Int) - (2:Nat)) (p+48)) (un ((s:Int)+(2:Nat)) (p+48)) r w':=by
 obtain⟨s1,ao,n,cp,e,rfl⟩:=hX.shape
 obtain⟨s2,ao2,n2,cp2,e2,rfl⟩:=hY.shape
 have hs:((s:Nat):Int).natAbs<2^(p+48+14):=by
  rw[Int.natAbs_natCast]
  refine Nat.lt_of_not_le fun hn=>?_
  have h3:=Nat.mul_le_mul hn hn
  rw[←Nat.pow_add] at h3
  have h4:2*4^(p+48)=2^(2*(p+48)+1):=by rw[Nat.pow_succ 2 (2*(p+48)),Nat.pow_mul 2 2 (p+48),Nat.mul_comm]
  have h5:2^(2*(p+48)+1)<2^(p+48+14+(p+48+14)):=Nat.pow_lt_pow_right (by omega) (by omega)
  omega
 exact denc_sqrt2 s1 ao n cp e s2 ao2 n2 cp2 e2 (p:Int) ((p+48:Nat):Int) (un ((2:Nat):Int) 0) (un s (p+48)) _ _ w (by rw[IntKind.wrap_i64];omega)
  (fun W _=>dwhole (k:=2) (by omega)) (fun W X _ hX=>droot (k:=2) (by omega) (by omega) (by omega) h1 h2 hX) (fun W X _ hX=>daround (u:=2) (b:=p+48+14) hs (by omega) (by omega) (by decide) (by omega) hX)
def goV (q:Int) (A:Value) (T2 Tw Tp Ts TL TH:Bool×Nat×Int) (j:Nat) (w:World) (u:Value):Prop :=
 match j with
 | 0=>u=A∧DN w u T2
 | 1=>DN w u Tw
 | 2=>DN w u Tp
 | 3=>DN w u Ts
 | 4=>u=.int .i64 q
 | _=>DB w u TL TH
def goD (j:Nat):List Nat :=
 match j with
 | 2 => [0,1]
 | 3 => [2]
 | 5 => [3,4]
 | _ => []
theorem goV_cases (i:Nat):i=0∨i=1∨i=2∨i=3∨i=4∨∃ k,i=k+5:=lnV_cases i
structure GoOps (ops:Array Oper) (sl:Nat) (p1 pq tgt:Tmp):Prop where
 o0:∃ o,ops[0]?=some o∧o.guard=none∧o.op=.load 45 (.tmp p1)∧o.dst=some sl
 o1:∃ o,ops[1]?=some o∧o.guard=none∧(∃ ts,o.op=.call { callee:=.value (.func 24),args:=#[.const (.int .i64 1)],argTypes:=ts })∧o.dst=some (sl+1)
 o2:∃ o,ops[2]?=some o∧o.guard=none∧(∃ ts,o.op=.call { callee:=.value (.func 45),args:=#[.tmp sl,.tmp (sl+1)],argTypes:=ts })∧o.dst=some (sl+2)∧(∃ e ∈ o.after,e.on=0∧Region.binds .any e=true)∧∃ e ∈ o.after,e.on=1∧Region.binds .any e=true
 o3:∃ o,ops[3]?=some o∧o.guard=none∧(∃ ts,o.op=.call { callee:=.value (.func 40),args:=#[.tmp (sl+2),.const (.int .i64 (-1))],argTypes:=ts })∧o.dst=some (sl+3)∧∃ e ∈ o.after,e.on=2∧Region.binds .any e=true
 o4:∃ o,ops[4]?=some o∧o.guard=none∧o.op=.move (.tmp pq)∧o.dst=some (sl+4)
 o5:∃ o,ops[5]?=some o∧o.guard=none∧(∃ ts,o.op=.call { callee:=.value (.func 38),args:=#[.tmp (sl+3),.const (.int .i64 2),.tmp (sl+4)],argTypes:=ts })∧o.dst=some (sl+5)∧(∃ e ∈ o.after,e.on=3∧Region.binds .any e=true)∧∃ e ∈ o.after,e.on=4∧Region.binds .any e=true
 o6:∃ o,ops[6]?=some o∧o.guard=none∧o.op=.store 47 (.tmp tgt) (.tmp (sl+5))∧o.dst=none∧∀ j,j<6→∃ e ∈ o.after,e.on=j∧Region.binds .any e=true
theorem gold_region {ops:Array Oper} {Q:Exit→Act→World→Prop} {id:Nat} (q:Int) (sl:Nat) (p1 pq tgt:Tmp) (g1 gT:Nat) (sa:Bool) (aoa:Option Addr) (na cpa:Nat) (ea:Int) (T2 Tw Tp Ts TL TH:Bool×Nat×Int) (W0:World) (a0:Act)
  (hsz:ops.size=7) (hord:∀ (i:Nat) (o:Oper),ops[i]?=some o→∀ e ∈ o.after,e.on<i) (h:GoOps ops sl p1 pq tgt)
  (hp1:a0.tmps[p1]?=some (.pointer (some ⟨g1,0,none⟩))) (hpq:a0.tmps[pq]?=some (.int .i64 q)) (htgt:a0.tmps[tgt]?=some (.pointer (some ⟨gT,0,none⟩)))
  (hfr:∀ j,j<6→p1≠sl+j∧pq≠sl+j∧tgt≠sl+j) (hin:∀ j,j<6→sl+j<a0.tmps.size)
  (hb1:NbD W0 g1 sa aoa na cpa ea T2) (hbT:W0.heap[gT]?=some (.cells #[.bool false,.slice none 0 0,.int .i64 0,.bool false,.slice none 0 0,.int .i64 0] 47 (0,0)))
  (kW:∀ W:World,Bw W0 W→Calls Tryz.prog 24 #[.int .i64 1] W fun r w'=>OutD W Tw r w')
  (kP:∀ (W:World) X Y,Bw W0 W→DN W X T2→DN W Y Tw→Calls Tryz.prog 45 #[X,Y] W fun r w'=>OutD W Tp r w')
  (kS:∀ (W:World) X,Bw W0 W→DN W X Tp→Calls Tryz.prog 40 #[X,.int .i64 (-1)] W fun r w'=>OutD W Ts r w')
  (kA:∀ (W:World) X,Bw W0 W→DN W X Ts→Calls Tryz.prog 38 #[X,.int .i64 2,.int .i64 q] W fun r w'=>OutQ W TL TH r w')
  (hQ:∀ (u:Nat→Value) (W:World) (cs:Array Value),Bw W0 W→DB W (.agg cs) TL TH→Q .normal (putL a0 ((List.range 6).map (fun j=>(sl+j,u j)))) (W.setRow gT cs)) :
  (Code.region id ops true).wp Tryz.prog Q a0 W0:=by
 have ld:∀ {W:World} {g:Nat} {o:Obj},Bw W0 W→W0.heap[g]?=some o→W.heap[g]?=some o:=fun hb h=>(hb.block _ (Array.getElem?_eq_some_iff.1 h).1).trans h
 refine parl_region follows_mixed 6 (fun j=>sl+j) goD W0 a0 (goV q (.agg #[.bool sa,.slice aoa na cpa,.int .i64 ea]) T2 Tw Tp Ts TL TH) hsz hord ?_ ?_ ?_ ?_ hin (fun i i' _ _ h=>Nat.add_left_cancel h) ?_
 ·intro i W W' u hb h
  rcases goV_cases i with rfl|rfl|rfl|rfl|rfl|⟨k,rfl⟩
  ·exact⟨h.1,h.2.later hb⟩
  ·exact DN.later (t:=Tw) h hb
  ·exact DN.later (t:=Tp) h hb
  ·exact DN.later (t:=Ts) h hb
  ·exact h
  ·exact DB.later (tl:=TL) (th:=TH) h hb
 ·intro i hi j' hj'
  rcases glt6 hi with rfl|rfl|rfl|rfl|rfl|rfl
  ·simp[goD] at hj'
  ·simp[goD] at hj'
  ·obtain⟨o',ho',-,-,-,e1,e2⟩:=h.o2
   have:j'=0∨j'=1:=by simpa [goD] using hj'
   refine⟨by omega,fun o ho=>?_⟩
   obtain rfl:o'=o:=Option.some.inj (ho'.symm.trans ho)
   rcases this with rfl|rfl
   ·exact e1
   ·exact e2
  ·obtain rfl:j'=2:=by simpa [goD] using hj'
   refine⟨by omega,fun o ho=>?_⟩
   obtain⟨o',ho',-,-,-,e1⟩:=h.o3
   obtain rfl:o'=o:=Option.some.inj (ho'.symm.trans ho)
   exact e1
  ·simp[goD] at hj'
  ·obtain⟨o',ho',-,-,-,e1,e2⟩:=h.o5
   have:j'=3∨j'=4:=by simpa [goD] using hj'
   refine⟨by omega,fun o ho=>?_⟩
   obtain rfl:o'=o:=Option.some.inj (ho'.symm.trans ho)
   rcases this with rfl|rfl
   ·exact e1
   ·exact e2
 ·intro i hi a' W hb hoth hdep
  rcases glt6 hi with rfl|rfl|rfl|rfl|rfl|rfl
  ·obtain⟨o,ho,hg,hop,hd⟩:=h.o0
   exact ostep_load ho hg hop (run_loadNum _ _ _ _ _ _ W (ld hb hb1.1)) (by rw[hoth p1 (fun j hj=>(hfr j hj).1)];exact hp1) ⟨_,by rw[hd];rfl,⟨rfl,hb1.2.later hb⟩,Below.refl _ _⟩
  ·obtain⟨o,ho,hg,⟨ts,hop⟩,hd⟩:=h.o1
   refine step_call ho hg hop (enters Tryz.func24 (by kernel_rfl) (by kernel_rfl)) (vs:=#[.int .i64 1]) (by simp only[List.map_toArray,List.map_cons,List.map_nil];rfl) ?_
   refine(kW W hb).mono ?_
   rintro r w' ⟨_,_,_,_,_,rfl,hE,hb'⟩
   exact⟨_,rfl,_,by rw[hd],hE,hb'⟩
  ·obtain⟨o,ho,hg,⟨ts,hop⟩,hd,-⟩:=h.o2
   obtain⟨u0,hu0,hv0⟩:=hdep 0 (by simp[goD])
   obtain⟨u1,hu1,hv1⟩:=hdep 1 (by simp[goD])
   refine step_call ho hg hop (enters Tryz.func45 (by kernel_rfl) (by kernel_rfl)) (vs:=#[u0,u1]) (by simp only[List.map_toArray,List.map_cons,List.map_nil];rw[eval_get (show a'.tmps[sl]?=_ from hu0),eval_get hu1]) ?_
   refine(kP W u0 u1 hb hv0.2 hv1).mono ?_
   rintro r w' ⟨_,_,_,_,_,rfl,hE,hb'⟩
   exact⟨_,rfl,_,by rw[hd],hE,hb'⟩
  ·obtain⟨o,ho,hg,⟨ts,hop⟩,hd,-⟩:=h.o3
   obtain⟨u2,hu2,hv2⟩:=hdep 2 (by simp[goD])
   refine step_call ho hg hop (enters Tryz.func40 (by kernel_rfl) (by kernel_rfl)) (vs:=#[u2,.int .i64 (-1)]) (by simp only[List.map_toArray,List.map_cons,List.map_nil];rw[eval_get hu2];rfl) ?_
   refine(kS W u2 hb hv2).mono ?_
   rintro r w' ⟨_,_,_,_,_,rfl,hE,hb'⟩
   exact⟨_,rfl,_,by rw[hd],hE,hb'⟩
  ·obtain⟨o,ho,hg,hop,hd⟩:=h.o4
   exact ostep_move ho hg hop (by rw[hoth pq (fun j hj=>(hfr j hj).2.1)];exact hpq) ⟨_,by rw[hd],rfl,Below.refl _ _⟩
  ·obtain⟨o,ho,hg,⟨ts,hop⟩,hd,-⟩:=h.o5
   obtain⟨u3,hu3,hv3⟩:=hdep 3 (by simp[goD])
   obtain⟨u4,hu4,hv4⟩:=hdep 4 (by simp[goD])
   obtain rfl:u4=_:=hv4
   refine step_call ho hg hop (enters Tryz.func38 (by kernel_rfl) (by kernel_rfl)) (vs:=#[u3,.int .i64 2,.int .i64 q]) (by simp only[List.map_toArray,List.map_cons,List.map_nil];rw[eval_get hu3,eval_get hu4];rfl) ?_
   refine(kA W u3 hb hv3).mono ?_
   rintro r w' ⟨U,rfl,hE,hb'⟩
   exact⟨_,rfl,_,by rw[hd],hE,hb'⟩
 ·intro o ho
  obtain⟨o',ho',-,-,-,e⟩:=h.o6
  obtain rfl:o'=o:=Option.some.inj (ho'.symm.trans ho)
  exact e
 ·intro u a' W hb hu hs' hd' hoth
  obtain⟨o,ho,hg,hop,hd,-⟩:=h.o6
  have e6:DB W (u 5) TL TH:=(hu 5 (by omega)).2
  obtain⟨s1,ao1,n1,cp1,e1,s2,ao2,n2,cp2,e2,hsh,h1,h2⟩:=e6
  have hv:=(hu 5 (by omega)).1
  rw[hsh] at hv
  refine step_store ho hg hop (by rw[hoth tgt (fun j hj=>(hfr j hj).2.2)];exact htgt) hv (ld hb hbT) (by kernel_rfl) rfl (one6 _ _ _ _ _ _ _ _ _ _) ?_
  rw[hd]
  have q1:((List.range 6).map (fun j=>((sl+j,u j):Tmp×Value))).map (fun p:Tmp×Value=>p.1)=(List.range 6).map (fun j=>sl+j):=by simp[Function.comp_def]
  have ha:=act_putL (a:=a') (a0:=a0) (l:=(List.range 6).map (fun j=>((sl+j,u j):Tmp×Value))) (by
    rw[q1]
    refine List.pairwise_map.2 ((List.nodup_range (n:=6)).imp_of_mem ?_)
    intro x y hx hy hne he
    exact hne (Nat.add_left_cancel he)) hs' hd' (by
    intro p hp
    obtain⟨i,hi,rfl⟩:=List.mem_map.1 hp
    exact(hu i (List.mem_range.1 hi)).1) (fun s hsn=>hoth s (fun i hi he=>hsn (List.mem_map.2 ⟨_,List.mem_map.2 ⟨i,List.mem_range.2 hi,rfl⟩,he.symm⟩)))
  show Q .normal a' _
  rw[ha]
  exact hQ u W _ hb ⟨_,_,_,_,_,_,_,_,_,_,rfl,h1,h2⟩
theorem denc_golden (sa:Bool) (aoa:Option Addr) (na cpa:Nat) (ea:Int) (sb:Bool) (aob:Option Addr) (nb cpb:Nat) (eb:Int) (p q:Int) (T1 T2 T3 T4 T5 TL TH:Bool×Nat×Int) (w:World) (hq:IntKind.i64.wrap (p+48)=q)
  (k1:∀ (W:World),Bw w W→Calls Tryz.prog 24 #[.int .i64 5] W fun r w'=>OutD W T1 r w')
  (k2:∀ (W:World) X,Bw w W→DN W X T1→Calls Tryz.prog 44 #[X,.int .i64 q] W fun r w'=>OutT W T2 r w')
  (k3:∀ W:World,Bw w W→Calls Tryz.prog 24 #[.int .i64 1] W fun r w'=>OutD W T3 r w')
  (k4:∀ (W:World) X Y,Bw w W→DN W X T2→DN W Y T3→Calls Tryz.prog 45 #[X,Y] W fun r w'=>OutD W T4 r w')
  (k5:∀ (W:World) X,Bw w W→DN W X T4→Calls Tryz.prog 40 #[X,.int .i64 (-1)] W fun r w'=>OutD W T5 r w')
  (k6:∀ (W:World) X,Bw w W→DN W X T5→Calls Tryz.prog 38 #[X,.int .i64 2,.int .i64 q] W fun r w'=>OutQ W TL TH r w') :
  Calls Tryz.prog 17 #[.int .i64 8,.agg #[.bool sa,.slice aoa na cpa,.int .i64 ea],.agg #[.bool sb,.slice aob nb cpb,.int .i64 eb],.int .i64 p] w fun r w'=>OutQ w TL TH r w':=by
 have Hk1:Hid _:=k1
 have Hk2:Hid _:=k2
 have Hk3:Hid _:=k3
 have Hk4:Hid _:=k4
 have Hk5:Hid _:=k5
 have Hk6:Hid _:=k6
 clear k1 k2 k3 k4 k5 k6
 obtain⟨W,hW⟩:∃ W,W=((w.alloc (.cells #[.bool sa,.slice aoa na cpa,.int .i64 ea] 45)).alloc (.cells #[.bool sb,.slice aob nb cpb,.int .i64 eb] 45)).alloc (.cells #[.bool false,.slice none 0 0,.int .i64 0,.bool false,.slice none 0 0,.int .i64 0] 47):=⟨_,rfl⟩
 have HB:Hid (Bw w W):=(by rw[hW];exact(((Below.refl _ _).alloc (Nat.le_refl _) _).alloc (by simp) _).alloc (by simp;omega) _:Bw w W)
 have HC0:Hid (W.heap[w.heap.size+1+1]?=some (.cells #[.bool false,.slice none 0 0,.int .i64 0,.bool false,.slice none 0 0,.int .i64 0] 47 (0,0))):=(boxes3 _ _ _ hW).2.2.1
 go_enter Tryz.func17,Tryz.ntmps17
 go_upto_region 1 with fail
 rw[←hW]
 clear hW
 have kk:=Hk1.out W HB.out
 go_wp2_with fail
 refine kk.mono ?_
 rintro r u1 ⟨s1,ao1,n1,cp1,e1,rfl,hd,hb⟩
 clear kk
 have B1:Hid (Bw W u1):=hb
 have kk:=Hk2.out u1 _ (HB.out.trans (B1.out.mono HB.out.size)) hd
 clear hb hd
 go_wp2_with fail
 refine kk.mono ?_
 rintro r u2 ⟨s2,ao2,n2,cp2,e2,b2,rfl,hd,hb⟩
 clear kk
 have B2:Hid (Bw W u2):=B1.out.trans (hb.mono B1.out.size)
 obtain⟨V3,hV3⟩:∃ V2,V2=u2.alloc (.cells #[.bool false,.slice none 0 0,.int .i64 0] 45):=⟨_,rfl⟩
 have hbV3:Bw u2 V3:=by rw[hV3];exact(Below.refl _ _).alloc (Nat.le_refl _) _
 have hzV3:V3.heap[u2.heap.size]?=some (.cells #[.bool false,.slice none 0 0,.int .i64 0] 45 (0,0)):=by rw[hV3];exact heap_alloc_new _ _
 obtain⟨⟨y0,y1,y2⟩,y3,y4,y5⟩:=box_cells29 hzV3
 have HZ:Hid (Bw W u2∧Bw u2 V3∧V3.heap[u2.heap.size]?=some (.cells #[.bool false,.slice none 0 0,.int .i64 0] 45 (0,0))∧DN u2 (.agg #[.bool s2,.slice ao2 n2 cp2,.int .i64 e2]) T2):=⟨B2.out,hbV3,hzV3,hd⟩
 clear hbV3 hzV3 hd hb B1 B2
 go_upto_region 19 with (rw[←hV3];clear hV3)
 obtain⟨gx,hgx⟩:∃ g,g=u2.heap.size:=⟨_,rfl⟩
 obtain⟨W3,hW3⟩:∃ V2,V2=((V3.setCell ⟨u2.heap.size,0,none⟩ (.bool s2)).setCell ⟨u2.heap.size,1,none⟩ (.slice ao2 n2 cp2)).setCell ⟨u2.heap.size,2,none⟩ (.int .i64 e2):=⟨_,rfl⟩
 have HX:Hid (NbD W3 gx s2 ao2 n2 cp2 e2 (T2)∧Bw W W3):=(by
  rw[hW3,hgx]
  exact⟨⟨store3_29 _ _ _ HZ.out.2.2.1,(HZ.out.2.2.2.later HZ.out.2.1).store3 HZ.out.2.2.1 _ _ _⟩,below_store3 (HZ.out.1.trans (HZ.out.2.1.mono HZ.out.1.size)) HZ.out.1.size _ _ _⟩:NbD W3 gx s2 ao2 n2 cp2 e2 (T2)∧Bw W W3)
 rw[←hW3,←hgx]
 clear hW3 hgx HZ y0 y1 y2 y3 y4 y5 Hk1 Hk2
 have HB3:Hid (Bw w W3):=HB.out.trans (HX.out.2.mono HB.out.size)
 have hC:W3.heap[w.heap.size+1+1]?=some (.cells #[.bool false,.slice none 0 0,.int .i64 0,.bool false,.slice none 0 0,.int .i64 0] 47 (0,0)):=(HX.out.2.block _ (Array.getElem?_eq_some_iff.1 HC0.out).1).trans HC0.out
 go_cut [8] from 81 to 86 (fun p' wx=>∃ cs,p'=.pointer (some ⟨w.heap.size+1+1,0,none⟩)∧Hid (wx.heap[w.heap.size+1+1]?=some (.cells cs 47 (0,0))∧DB wx (.agg cs) TL TH∧Bw w wx))
 case first =>
  refine gold_region q 81 12 9 8 gx (w.heap.size+1+1) s2 ao2 n2 cp2 e2 T2 T3 T4 T5 TL TH W3 _ rfl (gord_of (by kernel_rfl)) ?_ rfl rfl rfl ?_ ?_ HX.out.1 hC ?_ ?_ ?_ ?_ ?_
  ·refine⟨⟨_,rfl,rfl,rfl,rfl⟩,⟨_,rfl,rfl,⟨_,rfl⟩,rfl⟩,⟨_,rfl,rfl,⟨_,rfl⟩,rfl,⟨⟨0,.data⟩,by simp,rfl,rfl⟩,⟨1,.data⟩,by simp,rfl,rfl⟩,⟨_,rfl,rfl,⟨_,rfl⟩,rfl,⟨2,.data⟩,by simp,rfl,rfl⟩,⟨_,rfl,rfl,rfl,rfl⟩,⟨_,rfl,rfl,⟨_,rfl⟩,rfl,⟨⟨3,.data⟩,by simp,rfl,rfl⟩,⟨4,.data⟩,by simp,rfl,rfl⟩,⟨_,rfl,rfl,rfl,rfl,?_⟩⟩
   intro j hj
   rcases glt6 hj with rfl|rfl|rfl|rfl|rfl|rfl
   ·exact⟨⟨0,.phase⟩,by simp,rfl,rfl⟩
   ·exact⟨⟨1,.phase⟩,by simp,rfl,rfl⟩
   ·exact⟨⟨2,.phase⟩,by simp,rfl,rfl⟩
   ·exact⟨⟨3,.phase⟩,by simp,rfl,rfl⟩
   ·exact⟨⟨4,.phase⟩,by simp,rfl,rfl⟩
   ·exact⟨⟨5,.phase⟩,by simp,rfl,rfl⟩
  ·decide
  ·intro j hj
   rcases glt6 hj with rfl|rfl|rfl|rfl|rfl|rfl <;> exact Nat.le_of_ble_eq_true rfl
  ·intro V hb
   exact Hk3.out V (HB3.out.trans (hb.mono HB3.out.size))
  ·intro V X Y hb hX hY
   exact Hk4.out V X Y (HB3.out.trans (hb.mono HB3.out.size)) hX hY
  ·intro V X hb hX
   exact Hk5.out V X (HB3.out.trans (hb.mono HB3.out.size)) hX
  ·intro V X hb hX
   exact Hk6.out V X (HB3.out.trans (hb.mono HB3.out.size)) hX
  ·intro u V cs hb hdb
   have hCV:V.heap[w.heap.size+1+1]?=some (.cells #[.bool false,.slice none 0 0,.int .i64 0,.bool false,.slice none 0 0,.int .i64 0] 47 (0,0)):=(hb.block _ (Array.getElem?_eq_some_iff.1 hC).1).trans hC
   obtain⟨s1',ao1',n1',cp1',e1',s2',ao2',n2',cp2',e2',hcs,q1,q2⟩:=hdb
   obtain⟨wx,hwx⟩:∃ wx,wx=V.setRow (w.heap.size+1+1) cs:=⟨_,rfl⟩
   have HF:Hid (wx.heap[w.heap.size+1+1]?=some (.cells cs 47 (0,0))∧DB wx (.agg cs) TL TH∧Bw w wx):=(by
    rw[hwx]
    exact⟨setRow_heap _ _ _ cs _ _ hCV,⟨_,_,_,_,_,_,_,_,_,_,hcs,q1.row6 hCV _,q2.row6 hCV _⟩,below_row (HB3.out.trans (hb.mono HB3.out.size)) (by omega) _⟩:wx.heap[w.heap.size+1+1]?=some (.cells cs 47 (0,0))∧DB wx (.agg cs) TL TH∧Bw w wx)
   rw[←hwx]
   clear hwx hcs q1 q2 hCV hC hb
   simp only[putL,show List.range 6 = [0,1,2,3,4,5] from rfl,List.map_cons,List.map_nil,List.cons_append,List.nil_append,List.foldl_cons,List.foldl_nil,Nat.reduceLT,Nat.reduceMod,Nat.reduceDiv,Nat.reduceMul,Nat.reduceAdd,Nat.reduceEqDiff,reduceIte,Nat.one_ne_zero,Act.put,List.setIfInBounds_toArray,List.set_cons_zero,List.set_cons_succ]
   go_wp2_with fail
   go_meet
   exact⟨_,rfl,HF⟩
 case rest =>
  obtain⟨v3,hv3⟩:∃ v3:World,v3=wc:=⟨_,rfl⟩
  subst hv3
  obtain⟨cs,rfl,HR⟩:=hcut
  have hsz:cs.size=6:=by
   obtain⟨_,_,_,_,_,_,_,_,_,_,hcs,-⟩:=HR.out.2.1
   rw[Value.agg.inj hcs];rfl
  go_wp2_with fail
  obtain⟨d,hd1,hd2⟩:=undB
  refine bodyPost_ret (results_cell_row rfl _ _ (w.heap.size+1+1) 47 cs (0,0) d rfl HR.out.1 hd1 (by cases d <;> exact hd2) (by rw[hsz];kernel_rfl)) rfl ?_
  exact⟨_,rfl,HR.out.2.1,HR.out.2.2⟩
theorem dencGolden {p s:Nat} {X Y:Value} {tx ty:Bool×Nat×Int} {w:World} (hp:p≤30000) (h1:s*s≤5*4^(p+48)) (h2:5*4^(p+48)<(s+1)*(s+1)) (hX:DN w X tx) (hY:DN w Y ty) :
  Calls Tryz.prog 17 #[.int .i64 8,X,Y,.int .i64 p] w fun r w'=>OutQ w (un ((s:Int)+((1:Nat):Int)*((2^(p+48):Nat):Int) - (2:Nat)*((2^1:Nat):Int)) (p+48+1)) (un ((s:Int)+((1:Nat):Int)*((2^(p+48):Nat):Int)+(2:Nat)*((2^1:Nat):Int)) (p+48+1)) r w':=by
 obtain⟨s1,ao,n,cp,e,rfl⟩:=hX.shape
 obtain⟨s2,ao2,n2,cp2,e2,rfl⟩:=hY.shape
 have hs:((s:Nat):Int).natAbs<2^(p+48+14):=by
  rw[Int.natAbs_natCast]
  refine Nat.lt_of_not_le fun hn=>?_
  have h3:=Nat.mul_le_mul hn hn
  rw[←Nat.pow_add] at h3
  have h4:8*4^(p+48)=2^(2*(p+48)+3):=by rw[Nat.pow_add 2 (2*(p+48)) 3,Nat.pow_mul 2 2 (p+48),Nat.mul_comm]
  have h5:2^(2*(p+48)+3)<2^(p+48+14+(p+48+14)):=Nat.pow_lt_pow_right (by omega) (by omega)
  omega
 have ho:(((1:Nat):Int)*((2^(p+48):Nat):Int)).natAbs<2^(p+48+14):=by
  refine Nat.lt_of_lt_of_le (small_pow (b:=1) (d:=p+48) (z:=((1:Nat):Int)) (by decide)) (Nat.pow_le_pow_right (by omega) (by omega))
 have hsum:=small_addI hs ho
 refine denc_golden s1 ao n cp e s2 ao2 n2 cp2 e2 (p:Int) ((p+48:Nat):Int) (un ((5:Nat):Int) 0) (un s (p+48)) (un ((1:Nat):Int) 0) (un ((s:Int)+((1:Nat):Int)*((2^(p+48):Nat):Int)) (p+48)) (un ((s:Int)+((1:Nat):Int)*((2^(p+48):Nat):Int)) (p+48+1)) _ _ w (by rw[IntKind.wrap_i64];omega)
  (fun W _=>dwhole (k:=5) (by omega)) (fun W X _ hX=>droot (k:=5) (by omega) (by omega) (by omega) h1 h2 hX) (fun W _=>dwhole (k:=1) (by omega)) (fun W X Y _ hX hY=>?_)
  (fun W X _ hX=>dscaled hsum (by omega) (by omega) (by omega) (by omega) hX) (fun W X _ hX=>daroundS (u:=2) (d:=1) (b:=p+48+14+1) hsum (by omega) (by omega) (by decide) (by omega) hX)
 have e1:=un_shift ((1:Nat):Int) 0 (p+48)
 rw[Nat.zero_add] at e1
 rw[e1] at hY
 exact dplusZ hs ho (by omega) (by omega) hX hY
theorem un_one:un 1 0=(false,1,0):=by decide +kernel
theorem dlen_one9:dlen 1=1:=by decide +kernel
theorem dg_one:dg 1 0=1:=by decide +kernel
theorem dfloor_1 (sa:Bool) (aoa:Option Addr) (na cpa:Nat) (ea:Int) (w:World)
  (k1:∀ (W:World),Bw w W→Calls Tryz.prog 32 #[.agg #[.bool sa,.slice aoa na cpa,.int .i64 ea],.int .i64 0] W fun r w'=>OutD W (un 1 0) r w') :
  Calls Tryz.prog 35 #[.agg #[.bool sa,.slice aoa na cpa,.int .i64 ea]] w fun r w'=>r=.returned (.int .i64 1)∧Bw w w':=by
 have Hk1:Hid _:=k1
 clear k1
 obtain⟨W,hW⟩:∃ W,W=w.alloc (.cells #[.bool sa,.slice aoa na cpa,.int .i64 ea] 45):=⟨_,rfl⟩
 have HB:Hid (Bw w W):=(by rw[hW];exact(Below.refl _ _).alloc (Nat.le_refl _) _:Bw w W)
 have hP:W.heap[w.heap.size]?=some (.cells #[.bool sa,.slice aoa na cpa,.int .i64 ea] 45 (0,0)):=by rw[hW];exact heap_alloc_new _ _
 obtain⟨⟨x0,x1,x2⟩,-⟩:=box_cells29 hP
 go_enter Tryz.func35,Tryz.ntmps35
 go_upto_region 1 with fail
 rw[←hW]
 clear hW
 have kk:=Hk1.out W HB.out
 go_wp2_with fail
 refine kk.mono ?_
 rintro r u1 ⟨s1,ao1,n1,cp1,e1,rfl,hd,hb⟩
 clear kk x0 x1 x2 hP
 rw[un_one] at hd
 obtain⟨ao,cap,he,hA⟩:=hd
 obtain⟨bb,o,hao,hcl⟩:=hA.at_
 simp only[Value.agg.injEq,Array.mk.injEq,List.cons.injEq,Value.bool.injEq,Value.slice.injEq,Value.int.injEq,and_true,true_and,dlen_one9] at he
 obtain⟨rfl,⟨rfl,rfl,rfl⟩,rfl⟩:=he
 obtain rfl:=hao (by show 0<dlen 1;rw[dlen_one9];omega)
 have hc0:u1.cell? ⟨bb,o,none⟩=some (.int .u32 1):=by
  have h:=hcl 0 (by show 0<dlen 1;rw[dlen_one9];omega)
  have e:dg (false,1,(0:Int)).2.1 0=1:=dg_one
  rw[e,Nat.add_zero] at h
  exact h
 obtain⟨V3,hV3⟩:∃ V2,V2=u1.alloc (.cells #[.bool false,.slice none 0 0,.int .i64 0] 45):=⟨_,rfl⟩
 have hbV3:Bw u1 V3:=by rw[hV3];exact(Below.refl _ _).alloc (Nat.le_refl _) _
 have hzV3:V3.heap[u1.heap.size]?=some (.cells #[.bool false,.slice none 0 0,.int .i64 0] 45 (0,0)):=by rw[hV3];exact heap_alloc_new _ _
 obtain⟨⟨y0,y1,y2⟩,y3,y4,y5⟩:=box_cells29 hzV3
 have hlt:bb<u1.heap.size:=by
  apply Decidable.byContradiction
  intro hn
  simp only[World.cell?] at hc0
  rw[Array.getElem?_eq_none (by omega)] at hc0
  simp at hc0
 have HZ:Hid (Bw W u1∧Bw u1 V3∧V3.heap[u1.heap.size]?=some (.cells #[.bool false,.slice none 0 0,.int .i64 0] 45 (0,0))∧u1.cell? ⟨bb,o,none⟩=some (.int .u32 1)∧bb<u1.heap.size):=⟨hb,hbV3,hzV3,hc0,hlt⟩
 clear hbV3 hzV3 hc0 hcl hA hb hlt hao Hk1
 go_upto_region 2 with (rw[←hV3];clear hV3)
 obtain⟨gx,hgx⟩:∃ g,g=u1.heap.size:=⟨_,rfl⟩
 obtain⟨W3,hW3⟩:∃ V2,V2=((V3.setCell ⟨u1.heap.size,0,none⟩ (.bool false)).setCell ⟨u1.heap.size,1,none⟩ (.slice (some ⟨bb,o,none⟩) 1 cp1)).setCell ⟨u1.heap.size,2,none⟩ (.int .i64 0):=⟨_,rfl⟩
 have HX:Hid (W3.heap[gx]?=some (.cells #[.bool false,.slice (some ⟨bb,o,none⟩) 1 cp1,.int .i64 0] 45 (0,0))∧W3.cell? ⟨bb,o,none⟩=some (.int .u32 1)∧Bw W W3):=(by
  rw[hW3,hgx]
  refine⟨store3_29 _ _ _ HZ.out.2.2.1,?_,below_store3 (HZ.out.1.trans (HZ.out.2.1.mono HZ.out.1.size)) HZ.out.1.size _ _ _⟩
  rw[cell_far3 (by show bb≠u1.heap.size;have:=HZ.out.2.2.2.2;omega)]
  exact(HZ.out.2.1.cell (p:=⟨bb,o,none⟩) HZ.out.2.2.2.2).trans HZ.out.2.2.2.1:W3.heap[gx]?=some (.cells #[.bool false,.slice (some ⟨bb,o,none⟩) 1 cp1,.int .i64 0] 45 (0,0))∧W3.cell? ⟨bb,o,none⟩=some (.int .u32 1)∧Bw W W3)
 rw[←hW3,←hgx]
 clear hW3 hgx HZ y0 y1 y2 y3 y4 y5
 obtain⟨⟨y0,y1,y2⟩,y3,y4,y5⟩:=box_cells29 HX.out.1
 have hc:=HX.out.2.1
 go_wp2_with fail
 go_loopw [4,5] (fun nv iv wr=>wr=W3∧((nv=.int .i64 0∧iv=.int .i64 0)∨(nv=.int .i64 1∧iv=.int .i64 (-1)))) (fun _ iv _=>(intOf iv+1).toNat)
 case atStart=>exact⟨rfl,.inl ⟨rfl,rfl⟩⟩
 case round =>
  obtain⟨rfl,⟨rfl,rfl⟩|⟨rfl,rfl⟩⟩:=hrel
  ·go_wp2_with fail
   exact⟨⟨trivial,.inr ⟨congrArg (Value.int .i64) (by decide +kernel),rfl⟩⟩,by decide⟩
  ·go_wp2_with fail
   go_ret
   exact⟨rfl,HB.out.trans (HX.out.2.2.mono HB.out.size)⟩
theorem run_bnd0 (g:Nat) (w:World):(Instr.fieldAt 47 (.pointer (some ⟨g,0,none⟩)) 0).run Tryz.prog w=.ok (.pointer (some ⟨g,0,none⟩)) w:=by kernel_rfl
theorem run_bnd1 (g:Nat) (w:World):(Instr.fieldAt 47 (.pointer (some ⟨g,0,none⟩)) 1).run Tryz.prog w=.ok (.pointer (some ⟨g,3,none⟩)) w:=by kernel_rfl
theorem run_loadMid (g o:Nat) (s:Bool) (ao:Option Addr) (n cp:Nat) (e:Int) (w:World) (h0:w.cell? ⟨g,o,none⟩=some (.bool s)) (h1:w.cell? ⟨g,o+1,none⟩=some (.slice ao n cp)) (h2:w.cell? ⟨g,o+2,none⟩=some (.int .i64 e)):(Instr.loadAt 45 (.pointer (some ⟨g,o,none⟩))).run Tryz.prog w=.ok (.agg #[.bool s,.slice ao n cp,.int .i64 e]) w :=
 run_loadAt_mid w g o 45 [.bool s,.slice ao n cp,.int .i64 e] _ (fun j v hv=>by
  match j with
  | 0=>simp at hv;subst hv;exact h0
  | 1=>simp at hv;subst hv;exact h1
  | 2=>simp at hv;subst hv;exact h2
  | k+3=>simp at hv) Tryz.underlying45 rfl Tryz.info45
theorem bstep_field {ops:Array Oper} {Q:Exit→Act→World→Prop} {i:Nat} {o:Oper} {K:Act→World→Prop} {a:Act} {w:World}
  (hi:ops[i]?=some o) (hg:o.guard=none) {s:Tmp} {f:Nat} (hop:o.op=.fieldAddr 47 (.tmp s) f) {g o2:Nat} (hf:∀ w,(Instr.fieldAt 47 (.pointer (some ⟨g,0,none⟩)) f).run Tryz.prog w=.ok (.pointer (some ⟨g,o2,none⟩)) w)
  (hs:a.tmps[s]?=some (.pointer (some ⟨g,0,none⟩))) (h:K (a.put o.dst (.pointer (some ⟨g,o2,none⟩))) w):wpOp Tryz.prog ops Q i K a w:=by
 refine step_wanted hi hg ?_
 unfold Oper.wp
 simp[execOp,hop,eval_get hs,hf,Result.andThen,Oper.upon,h]
def scV (g:Nat) (k:Int) (A B:Value) (T1 T2 TL TH:Bool×Nat×Int) (j:Nat) (w:World) (u:Value):Prop :=
 match j with
 | 0=>u=.pointer (some ⟨g,0,none⟩)
 | 1=>u=A∧DN w u T1
 | 2=>u=.int .i64 k
 | 3=>DN w u TL
 | 4=>u=.pointer (some ⟨g,3,none⟩)
 | 5=>u=B∧DN w u T2
 | 6=>u=.int .i64 k
 | 7=>DN w u TH
 | _=>DB w u TL TH
def scD (j:Nat):List Nat :=
 match j with
 | 1 => [0]
 | 3 => [1,2]
 | 5 => [4]
 | 7 => [5,6]
 | 8 => [3,7]
 | _ => []
theorem scV_cases (i:Nat):i=0∨i=1∨i=2∨i=3∨i=4∨i=5∨i=6∨i=7∨∃ k,i=k+8:=by
 by_cases h:8≤i
 ·exact .inr (.inr (.inr (.inr (.inr (.inr (.inr (.inr ⟨i - 8,by omega⟩)))))))
 ·omega
theorem lt9D {i:Nat} (h:i<9):i=0∨i=1∨i=2∨i=3∨i=4∨i=5∨i=6∨i=7∨i=8:=by omega
structure ScOps (ops:Array Oper) (sl:Nat) (p1 pk tgt:Tmp):Prop where
 o0:∃ o,ops[0]?=some o∧o.guard=none∧o.op=.fieldAddr 47 (.tmp p1) 0∧o.dst=some sl
 o1:∃ o,ops[1]?=some o∧o.guard=none∧o.op=.load 45 (.tmp sl)∧o.dst=some (sl+1)∧∃ e ∈ o.after,e.on=0∧Region.binds .any e=true
 o2:∃ o,ops[2]?=some o∧o.guard=none∧o.op=.move (.tmp pk)∧o.dst=some (sl+2)
 o3:∃ o,ops[3]?=some o∧o.guard=none∧(∃ ts,o.op=.call { callee:=.value (.func 40),args:=#[.tmp (sl+1),.tmp (sl+2)],argTypes:=ts })∧o.dst=some (sl+3)∧(∃ e ∈ o.after,e.on=1∧Region.binds .any e=true)∧∃ e ∈ o.after,e.on=2∧Region.binds .any e=true
 o4:∃ o,ops[4]?=some o∧o.guard=none∧o.op=.fieldAddr 47 (.tmp p1) 1∧o.dst=some (sl+4)
 o5:∃ o,ops[5]?=some o∧o.guard=none∧o.op=.load 45 (.tmp (sl+4))∧o.dst=some (sl+5)∧∃ e ∈ o.after,e.on=4∧Region.binds .any e=true
 o6:∃ o,ops[6]?=some o∧o.guard=none∧o.op=.move (.tmp pk)∧o.dst=some (sl+6)
 o7:∃ o,ops[7]?=some o∧o.guard=none∧(∃ ts,o.op=.call { callee:=.value (.func 40),args:=#[.tmp (sl+5),.tmp (sl+6)],argTypes:=ts })∧o.dst=some (sl+7)∧(∃ e ∈ o.after,e.on=5∧Region.binds .any e=true)∧∃ e ∈ o.after,e.on=6∧Region.binds .any e=true
 o8:∃ o,ops[8]?=some o∧o.guard=none∧o.op=.build 47 #[(0,.tmp (sl+3)),(1,.tmp (sl+7))]∧o.dst=some (sl+8)∧(∃ e ∈ o.after,e.on=3∧Region.binds .any e=true)∧∃ e ∈ o.after,e.on=7∧Region.binds .any e=true
 o9:∃ o,ops[9]?=some o∧o.guard=none∧o.op=.store 47 (.tmp tgt) (.tmp (sl+8))∧o.dst=none∧∀ j,j<9→∃ e ∈ o.after,e.on=j∧Region.binds .any e=true
theorem sc_region {ops:Array Oper} {Q:Exit→Act→World→Prop} {id:Nat} (k:Int) (sl:Nat) (p1 pk tgt:Tmp) (g1 gT:Nat) (s1:Bool) (ao1:Option Addr) (n1 cp1:Nat) (e1:Int) (s2:Bool) (ao2:Option Addr) (n2 cp2:Nat) (e2:Int) (T1 T2 TL TH:Bool×Nat×Int) (W0:World) (a0:Act)
  (hsz:ops.size=10) (hord:∀ (i:Nat) (o:Oper),ops[i]?=some o→∀ e ∈ o.after,e.on<i) (h:ScOps ops sl p1 pk tgt)
  (hp1:a0.tmps[p1]?=some (.pointer (some ⟨g1,0,none⟩))) (hpk:a0.tmps[pk]?=some (.int .i64 k)) (htgt:a0.tmps[tgt]?=some (.pointer (some ⟨gT,0,none⟩)))
  (hfr:∀ j,j<9→p1≠sl+j∧pk≠sl+j∧tgt≠sl+j) (hin:∀ j,j<9→sl+j<a0.tmps.size)
  (hb1:W0.heap[g1]?=some (.cells #[.bool s1,.slice ao1 n1 cp1,.int .i64 e1,.bool s2,.slice ao2 n2 cp2,.int .i64 e2] 47 (0,0))) (hd1:DN W0 (.agg #[.bool s1,.slice ao1 n1 cp1,.int .i64 e1]) T1) (hd2:DN W0 (.agg #[.bool s2,.slice ao2 n2 cp2,.int .i64 e2]) T2) (hbT:W0.heap[gT]?=some (.cells #[.bool false,.slice none 0 0,.int .i64 0,.bool false,.slice none 0 0,.int .i64 0] 47 (0,0)))
  (kL:∀ (W:World) X,Bw W0 W→DN W X T1→Calls Tryz.prog 40 #[X,.int .i64 k] W fun r w'=>OutD W TL r w')
  (kH:∀ (W:World) X,Bw W0 W→DN W X T2→Calls Tryz.prog 40 #[X,.int .i64 k] W fun r w'=>OutD W TH r w')
  (hQ:∀ (u:Nat→Value) (W:World) (cs:Array Value),Bw W0 W→DB W (.agg cs) TL TH→Q .normal (putL a0 ((List.range 9).map (fun j=>(sl+j,u j)))) (W.setRow gT cs)) :
  (Code.region id ops true).wp Tryz.prog Q a0 W0:=by
 have ld:∀ {W:World} {g:Nat} {o:Obj},Bw W0 W→W0.heap[g]?=some o→W.heap[g]?=some o:=fun hb h=>(hb.block _ (Array.getElem?_eq_some_iff.1 h).1).trans h
 refine parl_region follows_mixed 9 (fun j=>sl+j) scD W0 a0 (scV g1 k (.agg #[.bool s1,.slice ao1 n1 cp1,.int .i64 e1]) (.agg #[.bool s2,.slice ao2 n2 cp2,.int .i64 e2]) T1 T2 TL TH) hsz hord ?_ ?_ ?_ ?_ hin (fun i i' _ _ h=>Nat.add_left_cancel h) ?_
 ·intro i W W' u hb h
  rcases scV_cases i with rfl|rfl|rfl|rfl|rfl|rfl|rfl|rfl|⟨k,rfl⟩
  ·exact h
  ·exact⟨h.1,h.2.later hb⟩
  ·exact h
  ·exact DN.later (t:=TL) h hb
  ·exact h
  ·exact⟨h.1,h.2.later hb⟩
  ·exact h
  ·exact DN.later (t:=TH) h hb
  ·exact DB.later (tl:=TL) (th:=TH) h hb
 ·intro i hi j' hj'
  rcases lt9D hi with rfl|rfl|rfl|rfl|rfl|rfl|rfl|rfl|rfl
  ·simp[scD] at hj'
  ·obtain rfl:j'=0:=by simpa [scD] using hj'
   refine⟨by omega,fun o ho=>?_⟩
   obtain⟨o',ho',-,-,-,e1⟩:=h.o1
   obtain rfl:o'=o:=Option.some.inj (ho'.symm.trans ho)
   exact e1
  ·simp[scD] at hj'
  ·obtain⟨o',ho',-,-,-,e1,e2⟩:=h.o3
   have:j'=1∨j'=2:=by simpa [scD] using hj'
   refine⟨by omega,fun o ho=>?_⟩
   obtain rfl:o'=o:=Option.some.inj (ho'.symm.trans ho)
   rcases this with rfl|rfl
   ·exact e1
   ·exact e2
  ·simp[scD] at hj'
  ·obtain rfl:j'=4:=by simpa [scD] using hj'
   refine⟨by omega,fun o ho=>?_⟩
   obtain⟨o',ho',-,-,-,e1⟩:=h.o5
   obtain rfl:o'=o:=Option.some.inj (ho'.symm.trans ho)
   exact e1
  ·simp[scD] at hj'
  ·obtain⟨o',ho',-,-,-,e1,e2⟩:=h.o7
   have:j'=5∨j'=6:=by simpa [scD] using hj'
   refine⟨by omega,fun o ho=>?_⟩
   obtain rfl:o'=o:=Option.some.inj (ho'.symm.trans ho)
   rcases this with rfl|rfl
   ·exact e1
   ·exact e2
  ·obtain⟨o',ho',-,-,-,e1,e2⟩:=h.o8
   have:j'=3∨j'=7:=by simpa [scD] using hj'
   refine⟨by omega,fun o ho=>?_⟩
   obtain rfl:o'=o:=Option.some.inj (ho'.symm.trans ho)
   rcases this with rfl|rfl
   ·exact e1
   ·exact e2
 ·intro i hi a' W hb hoth hdep
  rcases lt9D hi with rfl|rfl|rfl|rfl|rfl|rfl|rfl|rfl|rfl
  ·obtain⟨o,ho,hg,hop,hd⟩:=h.o0
   exact bstep_field ho hg hop (run_bnd0 g1) (by rw[hoth p1 (fun j hj=>(hfr j hj).1)];exact hp1) ⟨_,by rw[hd];rfl,rfl,Below.refl _ _⟩
  ·obtain⟨o,ho,hg,hop,hd,-⟩:=h.o1
   obtain⟨u,hu,hv⟩:=hdep 0 (by simp[scD])
   obtain rfl:u=_:=hv
   have hx:=(box_cells6 (ld hb hb1)).1
   exact ostep_load ho hg hop (run_loadMid g1 0 _ _ _ _ _ W hx.1 hx.2.1 hx.2.2.1) (show a'.tmps[sl]?=_ from hu) ⟨_,by rw[hd],⟨rfl,hd1.later hb⟩,Below.refl _ _⟩
  ·obtain⟨o,ho,hg,hop,hd⟩:=h.o2
   exact ostep_move ho hg hop (by rw[hoth pk (fun j hj=>(hfr j hj).2.1)];exact hpk) ⟨_,by rw[hd],rfl,Below.refl _ _⟩
  ·obtain⟨o,ho,hg,⟨ts,hop⟩,hd,-⟩:=h.o3
   obtain⟨u1,hu1,hv1⟩:=hdep 1 (by simp[scD])
   obtain⟨u2,hu2,hv2⟩:=hdep 2 (by simp[scD])
   obtain rfl:u2=_:=hv2
   refine step_call ho hg hop (enters Tryz.func40 (by kernel_rfl) (by kernel_rfl)) (vs:=#[u1,.int .i64 k]) (by simp only[List.map_toArray,List.map_cons,List.map_nil];rw[eval_get hu1,eval_get hu2]) ?_
   refine(kL W u1 hb hv1.2).mono ?_
   rintro r w' ⟨_,_,_,_,_,rfl,hE,hb'⟩
   exact⟨_,rfl,_,by rw[hd],hE,hb'⟩
  ·obtain⟨o,ho,hg,hop,hd⟩:=h.o4
   exact bstep_field ho hg hop (run_bnd1 g1) (by rw[hoth p1 (fun j hj=>(hfr j hj).1)];exact hp1) ⟨_,by rw[hd],rfl,Below.refl _ _⟩
  ·obtain⟨o,ho,hg,hop,hd,-⟩:=h.o5
   obtain⟨u,hu,hv⟩:=hdep 4 (by simp[scD])
   obtain rfl:u=_:=hv
   have hx:=(box_cells6 (ld hb hb1)).1
   exact ostep_load ho hg hop (run_loadMid g1 3 _ _ _ _ _ W hx.2.2.2.1 hx.2.2.2.2.1 hx.2.2.2.2.2) hu ⟨_,by rw[hd],⟨rfl,hd2.later hb⟩,Below.refl _ _⟩
  ·obtain⟨o,ho,hg,hop,hd⟩:=h.o6
   exact ostep_move ho hg hop (by rw[hoth pk (fun j hj=>(hfr j hj).2.1)];exact hpk) ⟨_,by rw[hd],rfl,Below.refl _ _⟩
  ·obtain⟨o,ho,hg,⟨ts,hop⟩,hd,-⟩:=h.o7
   obtain⟨u1,hu1,hv1⟩:=hdep 5 (by simp[scD])
   obtain⟨u2,hu2,hv2⟩:=hdep 6 (by simp[scD])
   obtain rfl:u2=_:=hv2
   refine step_call ho hg hop (enters Tryz.func40 (by kernel_rfl) (by kernel_rfl)) (vs:=#[u1,.int .i64 k]) (by simp only[List.map_toArray,List.map_cons,List.map_nil];rw[eval_get hu1,eval_get hu2]) ?_
   refine(kH W u1 hb hv1.2).mono ?_
   rintro r w' ⟨_,_,_,_,_,rfl,hE,hb'⟩
   exact⟨_,rfl,_,by rw[hd],hE,hb'⟩
  ·obtain⟨o,ho,hg,hop,hd,-⟩:=h.o8
   obtain⟨u0,hu0,hv0⟩:=hdep 3 (by simp[scD])
   obtain⟨u1,hu1,hv1⟩:=hdep 7 (by simp[scD])
   have hv0':DN W u0 TL:=hv0
   have hv1':DN W u1 TH:=hv1
   obtain⟨t1,bo1,m1,dp1,f1,rfl⟩:=hv0'.shape
   obtain⟨t2,bo2,m2,dp2,f2,rfl⟩:=hv1'.shape
   exact step_build ho hg hop hu0 hu1 (run_buildB _ _ _ _ _ _ _ _ _ _ W) ⟨_,by rw[hd],⟨_,_,_,_,_,_,_,_,_,_,rfl,hv0',hv1'⟩,Below.refl _ _⟩
 ·intro o ho
  obtain⟨o',ho',-,-,-,e⟩:=h.o9
  obtain rfl:o'=o:=Option.some.inj (ho'.symm.trans ho)
  exact e
 ·intro u a' W hb hu hs' hd' hoth
  obtain⟨o,ho,hg,hop,hd,-⟩:=h.o9
  have e6:DB W (u 8) TL TH:=(hu 8 (by omega)).2
  obtain⟨t1,bo1,m1,dp1,f1,t2,bo2,m2,dp2,f2,hsh,h1,h2⟩:=e6
  have hv:=(hu 8 (by omega)).1
  rw[hsh] at hv
  refine step_store ho hg hop (by rw[hoth tgt (fun j hj=>(hfr j hj).2.2)];exact htgt) hv (ld hb hbT) (by kernel_rfl) rfl (one6 _ _ _ _ _ _ _ _ _ _) ?_
  rw[hd]
  have q1:((List.range 9).map (fun j=>((sl+j,u j):Tmp×Value))).map (fun p:Tmp×Value=>p.1)=(List.range 9).map (fun j=>sl+j):=by simp[Function.comp_def]
  have ha:=act_putL (a:=a') (a0:=a0) (l:=(List.range 9).map (fun j=>((sl+j,u j):Tmp×Value))) (by
    rw[q1]
    refine List.pairwise_map.2 ((List.nodup_range (n:=9)).imp_of_mem ?_)
    intro x y hx hy hne he
    exact hne (Nat.add_left_cancel he)) hs' hd' (by
    intro p hp
    obtain⟨i,hi,rfl⟩:=List.mem_map.1 hp
    exact(hu i (List.mem_range.1 hi)).1) (fun s hsn=>hoth s (fun i hi he=>hsn (List.mem_map.2 ⟨_,List.mem_map.2 ⟨i,List.mem_range.2 hi,rfl⟩,he.symm⟩)))
  show Q .normal a' _
  rw[ha]
  exact hQ u W _ hb ⟨_,_,_,_,_,_,_,_,_,_,rfl,h1,h2⟩
def rsV (k:Int) (A B:Value) (Tx Tl Tw Tt Tr:Bool×Nat×Int) (j:Nat) (w:World) (u:Value):Prop :=
 match j with
 | 0=>u=A∧DN w u Tx
 | 1=>u=.int .i64 k
 | 2=>DN w u Tw
 | 3=>u=B∧DN w u Tl
 | 4=>DN w u Tt
 | _=>DN w u Tr
def rsD (j:Nat):List Nat :=
 match j with
 | 2 => [1]
 | 4 => [2,3]
 | 5 => [0,4]
 | _ => []
structure RsOps (ops:Array Oper) (sl:Nat) (p1 pk p2 bx:Tmp):Prop where
 o0:∃ o,ops[0]?=some o∧o.guard=none∧o.op=.load 45 (.tmp p1)∧o.dst=some sl
 o1:∃ o,ops[1]?=some o∧o.guard=none∧o.op=.move (.tmp pk)∧o.dst=some (sl+1)
 o2:∃ o,ops[2]?=some o∧o.guard=none∧(∃ ts,o.op=.call { callee:=.value (.func 24),args:=#[.tmp (sl+1)],argTypes:=ts })∧o.dst=some (sl+2)∧∃ e ∈ o.after,e.on=1∧Region.binds .any e=true
 o3:∃ o,ops[3]?=some o∧o.guard=none∧o.op=.load 45 (.tmp p2)∧o.dst=some (sl+3)
 o4:∃ o,ops[4]?=some o∧o.guard=none∧(∃ ts,o.op=.call { callee:=.value (.func 33),args:=#[.tmp (sl+2),.tmp (sl+3)],argTypes:=ts })∧o.dst=some (sl+4)∧(∃ e ∈ o.after,e.on=2∧Region.binds .any e=true)∧∃ e ∈ o.after,e.on=3∧Region.binds .any e=true
 o5:∃ o,ops[5]?=some o∧o.guard=none∧(∃ ts,o.op=.call { callee:=.value (.func 57),args:=#[.tmp sl,.tmp (sl+4)],argTypes:=ts })∧o.dst=some (sl+5)∧(∃ e ∈ o.after,e.on=0∧Region.binds .any e=true)∧∃ e ∈ o.after,e.on=4∧Region.binds .any e=true
 o6:∃ o,ops[6]?=some o∧o.guard=none∧o.op=.alloc 45∧o.dst=some bx
 o7:∃ o,ops[7]?=some o∧o.guard=none∧o.op=.store 45 (.tmp bx) (.tmp (sl+5))∧o.dst=none∧(∃ e ∈ o.after,e.on=6∧Region.binds .any e=true)∧∃ e ∈ o.after,e.on=5∧Region.binds .any e=true
theorem rs_region {ops:Array Oper} {Q:Exit→Act→World→Prop} {id:Nat} (k:Int) (sl:Nat) (p1 pk p2 bx:Tmp) (g1 g2:Nat) (sa:Bool) (aoa:Option Addr) (na cpa:Nat) (ea:Int) (sb:Bool) (aob:Option Addr) (nb cpb:Nat) (eb:Int) (Tx Tl Tw Tt Tr:Bool×Nat×Int) (W0:World) (a0:Act)
  (hsz:ops.size=8) (hord:∀ (i:Nat) (o:Oper),ops[i]?=some o→∀ e ∈ o.after,e.on<i) (h:RsOps ops sl p1 pk p2 bx)
  (hp1:a0.tmps[p1]?=some (.pointer (some ⟨g1,0,none⟩))) (hpk:a0.tmps[pk]?=some (.int .i64 k)) (hp2:a0.tmps[p2]?=some (.pointer (some ⟨g2,0,none⟩)))
  (hfr:∀ j,j<6→p1≠sl+j∧pk≠sl+j∧p2≠sl+j∧sl+j≠bx) (hfb:p1≠bx∧pk≠bx∧p2≠bx) (hin:∀ j,j<6→sl+j<a0.tmps.size) (hbin:bx<a0.tmps.size)
  (hb1:NbD W0 g1 sa aoa na cpa ea Tx) (hb2:NbD W0 g2 sb aob nb cpb eb Tl)
  (kW:∀ W:World,Bw W0 W→Calls Tryz.prog 24 #[.int .i64 k] W fun r w'=>OutD W Tw r w')
  (kT:∀ (W:World) X Y,Bw W0 W→DN W X Tw→DN W Y Tl→Calls Tryz.prog 33 #[X,Y] W fun r w'=>OutD W Tt r w')
  (kL:∀ (W:World) X Y,Bw W0 W→DN W X Tx→DN W Y Tt→Calls Tryz.prog 57 #[X,Y] W fun r w'=>OutD W Tr r w')
  (hQ:∀ (u:Nat→Value) (W:World) (g:Nat) s' ao' n' cp' e',Bw W0 W→W0.heap.size≤g→NbD W g s' ao' n' cp' e' Tr→Q .normal (putL a0 ((List.range 6).map (fun j=>(sl+j,u j)) ++ [(bx,.pointer (some ⟨g,0,none⟩))])) W) :
  (Code.region id ops true).wp Tryz.prog Q a0 W0:=by
 have ld:∀ {W:World} {g:Nat} {o:Obj},Bw W0 W→W0.heap[g]?=some o→W.heap[g]?=some o:=fun hb h=>(hb.block _ (Array.getElem?_eq_some_iff.1 h).1).trans h
 refine parz_region follows_mixed 6 1 (fun j=>sl+j) (fun _=>bx) (fun _=>5) rsD 45 #[.bool false,.slice none 0 0,.int .i64 0] W0 a0 (rsV k (.agg #[.bool sa,.slice aoa na cpa,.int .i64 ea]) (.agg #[.bool sb,.slice aob nb cpb,.int .i64 eb]) Tx Tl Tw Tt Tr) hsz hord ?_ ?_ ?_ ?_ ?_ ?_ gzero_num Tryz.info45 ?_ hin (fun _ _=>hbin) (fun i i' _ _ h=>Nat.add_left_cancel h) (fun k k' hk hk' _=>by omega) (fun j k hj _=>(hfr j hj).2.2.2) ?_
 ·intro i W W' u hb h
  rcases lnV_cases i with rfl|rfl|rfl|rfl|rfl|⟨k,rfl⟩
  ·exact⟨h.1,h.2.later hb⟩
  ·exact h
  ·exact DN.later (t:=Tw) h hb
  ·exact⟨h.1,h.2.later hb⟩
  ·exact DN.later (t:=Tt) h hb
  ·exact DN.later (t:=Tr) h hb
 ·intro i W u g cs' hg h
  have hC:NumC #[.bool false,.slice none 0 0,.int .i64 0]:=⟨_,_,_,_,_,rfl⟩
  rcases lnV_cases i with rfl|rfl|rfl|rfl|rfl|⟨k,rfl⟩
  ·exact⟨h.1,h.2.grow hg hC _⟩
  ·exact h
  ·exact DN.grow (t:=Tw) h hg hC _
  ·exact⟨h.1,h.2.grow hg hC _⟩
  ·exact DN.grow (t:=Tt) h hg hC _
  ·exact DN.grow (t:=Tr) h hg hC _
 ·intro k hk W u h
  obtain⟨cs,e,h1,-,h2⟩:=DN.cells (show DN W u Tr from h)
  exact⟨cs,e,h1,h2⟩
 ·intro i hi j' hj'
  rcases glt6 hi with rfl|rfl|rfl|rfl|rfl|rfl
  ·simp[rsD] at hj'
  ·simp[rsD] at hj'
  ·obtain rfl:j'=1:=by simpa [rsD] using hj'
   refine⟨by omega,fun o ho=>?_⟩
   obtain⟨o',ho',-,-,-,e1⟩:=h.o2
   obtain rfl:o'=o:=Option.some.inj (ho'.symm.trans ho)
   exact e1
  ·simp[rsD] at hj'
  ·obtain⟨o',ho',-,-,-,e1,e2⟩:=h.o4
   have:j'=2∨j'=3:=by simpa [rsD] using hj'
   refine⟨by omega,fun o ho=>?_⟩
   obtain rfl:o'=o:=Option.some.inj (ho'.symm.trans ho)
   rcases this with rfl|rfl
   ·exact e1
   ·exact e2
  ·obtain⟨o',ho',-,-,-,e1,e2⟩:=h.o5
   have:j'=0∨j'=4:=by simpa [rsD] using hj'
   refine⟨by omega,fun o ho=>?_⟩
   obtain rfl:o'=o:=Option.some.inj (ho'.symm.trans ho)
   rcases this with rfl|rfl
   ·exact e1
   ·exact e2
 ·intro i hi a' W hb hoth hdep
  rcases glt6 hi with rfl|rfl|rfl|rfl|rfl|rfl
  ·obtain⟨o,ho,hg,hop,hd⟩:=h.o0
   exact ostep_load ho hg hop (run_loadNum _ _ _ _ _ _ W (ld hb hb1.1)) (by rw[hoth p1 (fun j hj=>(hfr j hj).1) (fun _ _=>hfb.1)];exact hp1) ⟨_,by rw[hd];rfl,⟨rfl,hb1.2.later hb⟩,Below.refl _ _⟩
  ·obtain⟨o,ho,hg,hop,hd⟩:=h.o1
   exact ostep_move ho hg hop (by rw[hoth pk (fun j hj=>(hfr j hj).2.1) (fun _ _=>hfb.2.1)];exact hpk) ⟨_,by rw[hd],rfl,Below.refl _ _⟩
  ·obtain⟨o,ho,hg,⟨ts,hop⟩,hd,-⟩:=h.o2
   obtain⟨u,hu,hv⟩:=hdep 1 (by simp[rsD])
   obtain rfl:u=_:=hv
   refine step_call ho hg hop (enters Tryz.func24 (by kernel_rfl) (by kernel_rfl)) (vs:=#[.int .i64 k]) (by simp only[List.map_toArray,List.map_cons,List.map_nil];rw[eval_get hu]) ?_
   refine(kW W hb).mono ?_
   rintro r w' ⟨_,_,_,_,_,rfl,hE,hb'⟩
   exact⟨_,rfl,_,by rw[hd],hE,hb'⟩
  ·obtain⟨o,ho,hg,hop,hd⟩:=h.o3
   exact ostep_load ho hg hop (run_loadNum _ _ _ _ _ _ W (ld hb hb2.1)) (by rw[hoth p2 (fun j hj=>(hfr j hj).2.2.1) (fun _ _=>hfb.2.2)];exact hp2) ⟨_,by rw[hd],⟨rfl,hb2.2.later hb⟩,Below.refl _ _⟩
  ·obtain⟨o,ho,hg,⟨ts,hop⟩,hd,-⟩:=h.o4
   obtain⟨u1,hu1,hv1⟩:=hdep 2 (by simp[rsD])
   obtain⟨u2,hu2,hv2⟩:=hdep 3 (by simp[rsD])
   refine step_call ho hg hop (enters Tryz.func33 (by kernel_rfl) (by kernel_rfl)) (vs:=#[u1,u2]) (by simp only[List.map_toArray,List.map_cons,List.map_nil];rw[eval_get hu1,eval_get hu2]) ?_
   refine(kT W u1 u2 hb hv1 hv2.2).mono ?_
   rintro r w' ⟨_,_,_,_,_,rfl,hE,hb'⟩
   exact⟨_,rfl,_,by rw[hd],hE,hb'⟩
  ·obtain⟨o,ho,hg,⟨ts,hop⟩,hd,-⟩:=h.o5
   obtain⟨u1,hu1,hv1⟩:=hdep 0 (by simp[rsD])
   obtain⟨u2,hu2,hv2⟩:=hdep 4 (by simp[rsD])
   refine step_call ho hg hop (enters Tryz.func57 (by kernel_rfl) (by kernel_rfl)) (vs:=#[u1,u2]) (by simp only[List.map_toArray,List.map_cons,List.map_nil];rw[eval_get (show a'.tmps[sl]?=_ from hu1),eval_get hu2]) ?_
   refine(kL W u1 u2 hb hv1.2 hv2).mono ?_
   rintro r w' ⟨_,_,_,_,_,rfl,hE,hb'⟩
   exact⟨_,rfl,_,by rw[hd],hE,hb'⟩
 ·intro k hk
  obtain rfl:k=0:=by omega
  exact h.o6
 ·intro k hk
  obtain rfl:k=0:=by omega
  obtain⟨o,ho,hg,hop,hd,e1,e2⟩:=h.o7
  exact⟨by omega,o,ho,hg,hop,hd,e1,e2⟩
 ·intro u g a' W hb hu hg hs' hd' hoth
  obtain⟨q1,q2,cs,q3,q4⟩:=hg 0 (by omega)
  have e5:DN W (u 5) Tr:=(hu 5 (by omega)).2
  obtain⟨st,aot,nt,cpt,et,hsh⟩:=e5.shape
  have hcs:cs = #[.bool st,.slice aot nt cpt,.int .i64 et]:=Value.agg.inj (q3.symm.trans hsh)
  rw[hcs] at q4
  rw[hsh] at e5
  have ha:a'=putL a0 ((List.range 6).map (fun j=>((sl+j,u j):Tmp×Value)) ++ [(bx,.pointer (some ⟨g 0,0,none⟩))]):=by
   refine act_putL ?_ hs' hd' ?_ ?_
   ·rw[List.map_append]
    refine List.pairwise_append.2 ⟨?_,by simp,?_⟩
    ·have e:((List.range 6).map (fun j=>((sl+j,u j):Tmp×Value))).map (·.1)=(List.range 6).map (fun j=>sl+j):=by simp[Function.comp_def]
     rw[e]
     refine List.pairwise_map.2 ((List.nodup_range (n:=6)).imp_of_mem ?_)
     intro x y hx hy hne he
     exact hne (Nat.add_left_cancel he)
    ·intro x hx y hy
     obtain⟨p,hp,rfl⟩:=List.mem_map.1 hx
     obtain⟨j,hj,rfl⟩:=List.mem_map.1 hp
     simp only[List.map_cons,List.map_nil,List.mem_singleton] at hy
     rw[hy]
     exact(hfr j (List.mem_range.1 hj)).2.2.2
   ·intro p hp
    rcases List.mem_append.1 hp with h|h
    ·obtain⟨j,hj,rfl⟩:=List.mem_map.1 h
     exact(hu j (List.mem_range.1 hj)).1
    ·rw[List.mem_singleton.1 h]
     exact q1
   ·intro s hsn
    refine hoth s (fun j hj he=>hsn ?_) (fun k hk he=>hsn ?_)
    ·rw[List.map_append]
     exact List.mem_append_left _ (List.mem_map.2 ⟨_,List.mem_map.2 ⟨j,List.mem_range.2 hj,rfl⟩,he.symm⟩)
    ·rw[List.map_append]
     exact List.mem_append_right _ (by rw[he];simp)
  rw[ha]
  exact hQ u W (g 0) _ _ _ _ _ hb q2 ⟨q4,e5⟩
end Go.Proofs.YtapooodfgcjoaaaGreat
