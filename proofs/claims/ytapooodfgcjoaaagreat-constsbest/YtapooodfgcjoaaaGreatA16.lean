/- Own work: contracts of the program's functions, part 16: BBD BBE BBA BBB BBF BB5 BB7 BB8 BBG. -/
import Derived.Test.YtapooodfgcjoaaaGreatA15
import Derived.Test.YtapooodfgcjoaaaGreatA13
import Derived.Test.YtapooodfgcjoaaaGreatA11
import Derived.Test.YtapooodfgcjoaaaGreatA8
import Derived.Test.YtapooodfgcjoaaaGreatA4
import Derived.Test.YtapooodfgcjoaaaGreatA14

set_option maxHeartbeats 16000000
set_option maxRecDepth 200000
set_option linter.unusedVariables false
set_option linter.unusedSimpArgs false
namespace Go.Proofs.YtapooodfgcjoaaaGreat
open Go.RowKit Go.Fl64
theorem dfloor_0 (sa:Bool) (aoa:Option Addr) (na cpa:Nat) (ea:Int) (w:World)
  (k1:∀ (W:World),Bw w W→Calls Tryz.prog 32 #[.agg #[.bool sa,.slice aoa na cpa,.int .i64 ea],.int .i64 0] W fun r w'=>OutD W (un 0 0) r w') :
  Calls Tryz.prog 35 #[.agg #[.bool sa,.slice aoa na cpa,.int .i64 ea]] w fun r w'=>r=.returned (.int .i64 0)∧Bw w w':=by
 have Hk1:Hid _:=k1
 clear k1
 obtain⟨W,hW⟩:∃ W,W=w.alloc (.cells #[.bool sa,.slice aoa na cpa,.int .i64 ea] 45):=⟨_,rfl⟩
 have HB:Hid (Bw w W):=(by rw[hW];exact(Below.refl _ _).alloc (Nat.le_refl _) _:Bw w W)
 have hP:W.heap[w.heap.size]?=some (.cells #[.bool sa,.slice aoa na cpa,.int .i64 ea] 45 (0,0)):=by rw[hW];exact heap_alloc_new _ _
 obtain⟨⟨x0,x1,x2⟩,-⟩:=box_cells29 hP
 go_enter Tryz.func35,Tryz.ntmps35
 go_upto_region 1 with fail
 rw[←hW]
 clear hW
 have kk:=Hk1.out W HB.out
 go_wp2_with fail
 refine kk.mono ?_
 rintro r u1 ⟨s1,ao1,n1,cp1,e1,rfl,hd,hb⟩
 clear kk x0 x1 x2 hP
 rw[show un 0 0=(false,0,0) by decide +kernel] at hd
 obtain⟨ao,cap,he,hA⟩:=hd
 simp only[Value.agg.injEq,Array.mk.injEq,List.cons.injEq,Value.bool.injEq,Value.slice.injEq,Value.int.injEq,and_true,true_and,dlen_zero] at he
 obtain⟨rfl,⟨rfl,rfl,rfl⟩,rfl⟩:=he
 obtain⟨V3,hV3⟩:∃ V2,V2=u1.alloc (.cells #[.bool false,.slice none 0 0,.int .i64 0] 45):=⟨_,rfl⟩
 have hbV3:Bw u1 V3:=by rw[hV3];exact(Below.refl _ _).alloc (Nat.le_refl _) _
 have hzV3:V3.heap[u1.heap.size]?=some (.cells #[.bool false,.slice none 0 0,.int .i64 0] 45 (0,0)):=by rw[hV3];exact heap_alloc_new _ _
 obtain⟨⟨y0,y1,y2⟩,y3,y4,y5⟩:=box_cells29 hzV3
 have HZ:Hid (Bw W u1∧Bw u1 V3∧V3.heap[u1.heap.size]?=some (.cells #[.bool false,.slice none 0 0,.int .i64 0] 45 (0,0))):=⟨hb,hbV3,hzV3⟩
 clear hbV3 hzV3 hA hb Hk1
 go_upto_region 2 with (rw[←hV3];clear hV3)
 obtain⟨gx,hgx⟩:∃ g,g=u1.heap.size:=⟨_,rfl⟩
 obtain⟨W3,hW3⟩:∃ V2,V2=((V3.setCell ⟨u1.heap.size,0,none⟩ (.bool false)).setCell ⟨u1.heap.size,1,none⟩ (.slice ao1 0 cp1)).setCell ⟨u1.heap.size,2,none⟩ (.int .i64 0):=⟨_,rfl⟩
 have HX:Hid (W3.heap[gx]?=some (.cells #[.bool false,.slice ao1 0 cp1,.int .i64 0] 45 (0,0))∧Bw W W3):=(by
  rw[hW3,hgx]
  exact⟨store3_29 _ _ _ HZ.out.2.2,below_store3 (HZ.out.1.trans (HZ.out.2.1.mono HZ.out.1.size)) HZ.out.1.size _ _ _⟩:W3.heap[gx]?=some (.cells #[.bool false,.slice ao1 0 cp1,.int .i64 0] 45 (0,0))∧Bw W W3)
 rw[←hW3,←hgx]
 clear hW3 hgx HZ y0 y1 y2 y3 y4 y5
 obtain⟨⟨y0,y1,y2⟩,y3,y4,y5⟩:=box_cells29 HX.out.1
 go_wp2_with fail
 go_loopw [4,5] (fun nv iv wr=>wr=W3∧nv=.int .i64 0∧iv=.int .i64 (-1)) (fun _ iv _=>0)
 case atStart=>exact⟨rfl,rfl,rfl⟩
 case round =>
  obtain⟨rfl,rfl,rfl⟩:=hrel
  go_wp2_with fail
  go_ret
  exact⟨rfl,HB.out.trans (HX.out.2.mono HB.out.size)⟩
theorem or_dig:∀ m:Nat,m<16→bits BinOp.or IntKind.i64 0 (m:Int)=(m:Int):=by decide
theorem dfloor_m (m:Nat) (e:Nat) (N:Int) (sa:Bool) (aoa:Option Addr) (na cpa:Nat) (ea:Int) (w:World) (hm0:0<m) (hm1:m<16) (he3:e≤3) (hN:Hid (un N 0=(false,m,(e:Int))∧N=(m*2^e:Nat)))
  (k1:∀ (W:World),Bw w W→Calls Tryz.prog 32 #[.agg #[.bool sa,.slice aoa na cpa,.int .i64 ea],.int .i64 0] W fun r w'=>OutD W (un N 0) r w') :
  Calls Tryz.prog 35 #[.agg #[.bool sa,.slice aoa na cpa,.int .i64 ea]] w fun r w'=>r=.returned (.int .i64 N)∧Bw w w':=by
 have Hk1:Hid _:=k1
 have HM:Hid (0<m∧m<16∧e≤3):=⟨hm0,hm1,he3⟩
 have hdl:dlen m=1:=Nat.le_antisymm (dlen_dF hm1) (by rw[dlen_pos (by omega)];omega)
 have hdg:dg m 0=m:=dg_dF hm1
 clear k1 hm0 hm1 he3
 obtain⟨W,hW⟩:∃ W,W=w.alloc (.cells #[.bool sa,.slice aoa na cpa,.int .i64 ea] 45):=⟨_,rfl⟩
 have HB:Hid (Bw w W):=(by rw[hW];exact(Below.refl _ _).alloc (Nat.le_refl _) _:Bw w W)
 have hP:W.heap[w.heap.size]?=some (.cells #[.bool sa,.slice aoa na cpa,.int .i64 ea] 45 (0,0)):=by rw[hW];exact heap_alloc_new _ _
 obtain⟨⟨x0,x1,x2⟩,-⟩:=box_cells29 hP
 go_enter Tryz.func35,Tryz.ntmps35
 go_upto_region 1 with fail
 rw[←hW]
 clear hW
 have kk:=Hk1.out W HB.out
 go_wp2_with fail
 refine kk.mono ?_
 rintro r u1 ⟨s1,ao1,n1,cp1,e1,rfl,hd,hb⟩
 clear kk x0 x1 x2 hP
 rw[hN.out.1] at hd
 obtain⟨ao,cap,he,hA⟩:=hd
 obtain⟨bb,o,hao,hcl⟩:=hA.at_
 simp only[Value.agg.injEq,Array.mk.injEq,List.cons.injEq,Value.bool.injEq,Value.slice.injEq,Value.int.injEq,and_true,true_and,hdl] at he
 obtain⟨rfl,⟨rfl,rfl,rfl⟩,rfl⟩:=he
 obtain rfl:=hao (by show 0<dlen m;rw[hdl];omega)
 have hc0:u1.cell? ⟨bb,o,none⟩=some (.int .u32 m):=by
  have h:=hcl 0 (by show 0<dlen m;rw[hdl];omega)
  have e:dg (false,m,(e:Int)).2.1 0=m:=hdg
  rw[e,Nat.add_zero] at h
  exact h
 obtain⟨V3,hV3⟩:∃ V2,V2=u1.alloc (.cells #[.bool false,.slice none 0 0,.int .i64 0] 45):=⟨_,rfl⟩
 have hbV3:Bw u1 V3:=by rw[hV3];exact(Below.refl _ _).alloc (Nat.le_refl _) _
 have hzV3:V3.heap[u1.heap.size]?=some (.cells #[.bool false,.slice none 0 0,.int .i64 0] 45 (0,0)):=by rw[hV3];exact heap_alloc_new _ _
 obtain⟨⟨y0,y1,y2⟩,y3,y4,y5⟩:=box_cells29 hzV3
 have hlt:bb<u1.heap.size:=by
  apply Decidable.byContradiction
  intro hn
  simp only[World.cell?] at hc0
  rw[Array.getElem?_eq_none (by omega)] at hc0
  simp at hc0
 have HZ:Hid (Bw W u1∧Bw u1 V3∧V3.heap[u1.heap.size]?=some (.cells #[.bool false,.slice none 0 0,.int .i64 0] 45 (0,0))∧u1.cell? ⟨bb,o,none⟩=some (.int .u32 m)∧bb<u1.heap.size):=⟨hb,hbV3,hzV3,hc0,hlt⟩
 clear hbV3 hzV3 hc0 hcl hA hb hlt hao Hk1
 go_upto_region 2 with (rw[←hV3];clear hV3)
 obtain⟨gx,hgx⟩:∃ g,g=u1.heap.size:=⟨_,rfl⟩
 obtain⟨W3,hW3⟩:∃ V2,V2=((V3.setCell ⟨u1.heap.size,0,none⟩ (.bool false)).setCell ⟨u1.heap.size,1,none⟩ (.slice (some ⟨bb,o,none⟩) 1 cp1)).setCell ⟨u1.heap.size,2,none⟩ (.int .i64 (e:Int)):=⟨_,rfl⟩
 have HX:Hid (W3.heap[gx]?=some (.cells #[.bool false,.slice (some ⟨bb,o,none⟩) 1 cp1,.int .i64 (e:Int)] 45 (0,0))∧W3.cell? ⟨bb,o,none⟩=some (.int .u32 m)∧Bw W W3):=(by
  rw[hW3,hgx]
  refine⟨store3_29 _ _ _ HZ.out.2.2.1,?_,below_store3 (HZ.out.1.trans (HZ.out.2.1.mono HZ.out.1.size)) HZ.out.1.size _ _ _⟩
  rw[cell_far3 (by show bb≠u1.heap.size;have:=HZ.out.2.2.2.2;omega)]
  exact(HZ.out.2.1.cell (p:=⟨bb,o,none⟩) HZ.out.2.2.2.2).trans HZ.out.2.2.2.1:W3.heap[gx]?=some (.cells #[.bool false,.slice (some ⟨bb,o,none⟩) 1 cp1,.int .i64 (e:Int)] 45 (0,0))∧W3.cell? ⟨bb,o,none⟩=some (.int .u32 m)∧Bw W W3)
 rw[←hW3,←hgx]
 clear hW3 hgx HZ y0 y1 y2 y3 y4 y5
 obtain⟨⟨y0,y1,y2⟩,y3,y4,y5⟩:=box_cells29 HX.out.1
 have hc:=HX.out.2.1
 clear hdl hdg
 have hm0:=HM.out.1
 have hm1:=HM.out.2.1
 have he1:=HM.out.2.2
 go_wp2_with fail
 go_loopw [4,5] (fun nv iv wr=>wr=W3∧((nv=.int .i64 0∧iv=.int .i64 0)∨(nv=.int .i64 (m:Int)∧iv=.int .i64 (-1)))) (fun _ iv _=>(intOf iv+1).toNat)
 case atStart=>exact⟨rfl,.inl ⟨rfl,rfl⟩⟩
 case round =>
  obtain⟨rfl,⟨rfl,rfl⟩|⟨rfl,rfl⟩⟩:=hrel
  ·go_wp2_with fail
   exact⟨⟨trivial,.inr ⟨congrArg (Value.int .i64) (or_dig _ HM.out.2.1),rfl⟩⟩,by decide⟩
  ·go_wp2_with fail
   go_ret
   refine⟨congrArg (fun x=>Ending.returned (Value.int .i64 x)) ?_,HB.out.trans (HX.out.2.2.mono HB.out.size)⟩
   have h:=HM.out
   rw[hN.out.2]
   unfold wrap64
   rcases(by omega:e=0∨e=1∨e=2∨e=3)with rfl|rfl|rfl|rfl <;> omega
theorem dfloorN {a:Int} {Q N bA:Nat} {X:Value} {w:World} (hN:N≤7) (ha:a / ((2^Q:Nat):Int)=N) (hb:a.natAbs<2^bA) (hbA:bA≤90000) (hQ:Q≤90000) (hX:DN w X (un a Q)):Calls Tryz.prog 35 #[X] w fun r w'=>r=.returned (.int .i64 (N:Int))∧Bw w w':=by
 obtain⟨s,ao,n,cp,e,rfl⟩:=hX.shape
 have k:∀ (W:World),Bw w W→Calls Tryz.prog 32 #[.agg #[.bool s,.slice ao n cp,.int .i64 e],.int .i64 0] W fun r w'=>OutD W (un (N:Int) 0) r w':=fun W hW=>by
  have k:=dcut (a:=a) (p:=Q) (r:=0) (bA:=bA) hb hbA hQ (by omega) (hX.later hW)
  rw[Nat.sub_zero,ha] at k
  exact k
 rcases(by omega:N=0∨N=1∨N=2∨N=3∨N=4∨N=5∨N=6∨N=7)with rfl|rfl|rfl|rfl|rfl|rfl|rfl|rfl
 ·exact dfloor_0 s ao n cp e w k
 ·exact dfloor_m 1 0 _ s ao n cp e w (by decide) (by decide) (by decide) ⟨by decide +kernel,by decide⟩ k
 ·exact dfloor_m 1 1 _ s ao n cp e w (by decide) (by decide) (by decide) ⟨by decide +kernel,by decide⟩ k
 ·exact dfloor_m 3 0 _ s ao n cp e w (by decide) (by decide) (by decide) ⟨by decide +kernel,by decide⟩ k
 ·exact dfloor_m 1 2 _ s ao n cp e w (by decide) (by decide) (by decide) ⟨by decide +kernel,by decide⟩ k
 ·exact dfloor_m 5 0 _ s ao n cp e w (by decide) (by decide) (by decide) ⟨by decide +kernel,by decide⟩ k
 ·exact dfloor_m 3 1 _ s ao n cp e w (by decide) (by decide) (by decide) ⟨by decide +kernel,by decide⟩ k
 ·exact dfloor_m 7 0 _ s ao n cp e w (by decide) (by decide) (by decide) ⟨by decide +kernel,by decide⟩ k
end Go.Proofs.YtapooodfgcjoaaaGreat
namespace Go.Proofs.YtapooodfgcjoaaaGreat
open Go Go.RowKit Go.Fl64
theorem dbest_1 (k most n N R1 R2 : Nat) (TL TH : Bool × Nat × Int) (sd : Nat → Nat → Int) (TT : Nat → Bool × Nat × Int) (St : Nat → Nat → Nat → Nat → Nat → Prop) (w : World)
    (h1 : 1 ≤ k) (h8 : k ≤ 8) (hm1 : 1 ≤ most) (hm2 : most ≤ 1073741824) (hn : n ≤ 7)
    (kE : Calls Tryz.prog 17 #[.int .i64 (k : Nat), .agg #[.bool false, .slice none 0 0, .int .i64 0], .agg #[.bool false, .slice none 0 0, .int .i64 0], .int .i64 200] w fun r w' => OutQ w TL TH r w')
    (kF : Hid (∀ (W : World) X, DN W X TL → Calls Tryz.prog 35 #[X] W fun r w' => r = .returned (.int .i64 (n : Nat)) ∧ Bw W w'))
    (kW : Hid (∀ (n : Nat) (W : World), n ≤ 1099511627776 → Calls Tryz.prog 24 #[.int .i64 (n : Nat)] W fun r w' => OutD W (un (n : Nat) 0) r w'))
    (kT : Hid (∀ (q : Nat) (W : World) X Y, q ≤ 4294967296 → DN W X TL → DN W Y (un (q : Nat) 0) → Calls Tryz.prog 33 #[X, Y] W fun r w' => OutD W (TT q) r w'))
    (kO : Hid (∀ (p q : Nat) (W : World) X Y, p ≤ 1099511627776 → q ≤ 4294967296 → DN W X (TT q) → DN W Y (un (p : Nat) 0) → Calls Tryz.prog 19 #[X, Y] W fun r w' => r = .returned (.int .i64 (sd p q)) ∧ Bw W w'))
    (hs0 : St N n 1 (n + 1) 1)
    (hsz : Hid (∀ m a b c d, St m a b c d → a ≤ 8589934592 ∧ c ≤ 8589934592 ∧ b ≤ 1073741824 ∧ d ≤ 1073741824))
    (kL : Hid (∀ m a b c d, St m a b c d → b + d ≤ most → 0 < sd (a + c) (b + d) → ∀ (W : World) U, DB W U TL TH → Calls Tryz.prog 36 #[U, .int .i64 (a : Nat), .int .i64 (b : Nat), .int .i64 (c : Nat), .int .i64 (d : Nat), .int .i64 (most : Nat)] W fun r w' => ∃ a' b' m', m' < m ∧ St m' a' b' c d ∧ r = .returned (.tuple #[.int .i64 (a' : Nat), .int .i64 (b' : Nat)]) ∧ Bw W w'))
    (kG : Hid (∀ m a b c d, St m a b c d → b + d ≤ most → sd (a + c) (b + d) ≤ 0 → ∀ (W : World) U, DB W U TL TH → Calls Tryz.prog 36 #[U, .int .i64 (c : Nat), .int .i64 (d : Nat), .int .i64 (a : Nat), .int .i64 (b : Nat), .int .i64 (most : Nat)] W fun r w' => ∃ c' d' m', m' < m ∧ St m' a b c' d' ∧ r = .returned (.tuple #[.int .i64 (c' : Nat), .int .i64 (d' : Nat)]) ∧ Bw W w'))
    (kC : Hid (∀ m a b c d, St m a b c d → ¬ b + d ≤ most → ∃ t : Bool, R1 = (if t then a else c) ∧ R2 = (if t then b else d) ∧ ∀ (W : World) U, DB W U TL TH → Calls Tryz.prog 37 #[U, .int .i64 (a : Nat), .int .i64 (b : Nat), .int .i64 (c : Nat), .int .i64 (d : Nat)] W fun r w' => ∃ z : Bool, r = .returned (.tuple #[.bool t, .bool z]) ∧ Bw W w')) :
    Calls Tryz.prog 16 #[.int .i64 (k : Nat), .int .i64 (most : Nat)] w fun r w' => r = .returned (.tuple #[.int .i64 (R1 : Nat), .int .i64 (R2 : Nat), .int .i64 0]) ∧ Bw w w' := by
  have a1 : ¬ (k : Int) < 1 := by omega
  have a2 : ¬ 8 < (k : Int) := by omega
  have a3 : ¬ (most : Int) < 1 := by omega
  have a4 : ¬ 1073741824 < (most : Int) := by omega
  have ww : IntKind.i64.wrap ((n : Int) + 1) = ((n + 1 : Nat) : Int) := by rw [IntKind.wrap_i64]; omega
  have HM : Hid (most ≤ 1073741824) := hm2
  clear h1 h8 hm1 hm2 hn
  go_enter Tryz.func16, Tryz.ntmps16
  go_wp2_with fail
  refine kE.mono ?_
  rintro r u2 ⟨U, rfl, ⟨s1, ao1, n1, cp1, e1, s2, ao2, n2, cp2, e2, rfl, hd1, hd2⟩, hb2⟩
  clear kE
  obtain ⟨V4, hV4⟩ : ∃ V, V = u2.alloc (.cells #[.bool false, .slice none 0 0, .int .i64 0, .bool false, .slice none 0 0, .int .i64 0] 47) := ⟨_, rfl⟩
  have hbV4 : Bw u2 V4 := by rw [hV4]; exact (Below.refl _ _).alloc (Nat.le_refl _) _
  have hzV4 : V4.heap[u2.heap.size]? = some (.cells #[.bool false, .slice none 0 0, .int .i64 0, .bool false, .slice none 0 0, .int .i64 0] 47 (0, 0)) := by rw [hV4]; exact heap_alloc_new _ _
  obtain ⟨⟨y0, y1, y2, y3, y4, y5⟩, f0, f1, f2, f3, f4, f5⟩ := box_cells6 hzV4
  have HZ : Hid (DN u2 (.agg #[.bool s1, .slice ao1 n1 cp1, .int .i64 e1]) TL ∧ DN u2 (.agg #[.bool s2, .slice ao2 n2 cp2, .int .i64 e2]) TH ∧ Bw w u2 ∧ Bw u2 V4 ∧ V4.heap[u2.heap.size]? = some (.cells #[.bool false, .slice none 0 0, .int .i64 0, .bool false, .slice none 0 0, .int .i64 0] 47 (0, 0))) := ⟨hd1, hd2, hb2, hbV4, hzV4⟩
  clear hd1 hd2 hb2 hbV4 hzV4
  go_upto_region 4 with (rw [← hV4]; clear hV4)
  obtain ⟨gb, hgb⟩ : ∃ g, g = u2.heap.size := ⟨_, rfl⟩
  obtain ⟨W5, hW5⟩ : ∃ V, V = (((((V4.setCell ⟨u2.heap.size, 0, none⟩ (.bool s1)).setCell ⟨u2.heap.size, 1, none⟩ (.slice ao1 n1 cp1)).setCell ⟨u2.heap.size, 2, none⟩ (.int .i64 e1)).setCell ⟨u2.heap.size, 3, none⟩ (.bool s2)).setCell ⟨u2.heap.size, 4, none⟩ (.slice ao2 n2 cp2)).setCell ⟨u2.heap.size, 5, none⟩ (.int .i64 e2) := ⟨_, rfl⟩
  have HF : Hid (dzB W5 gb s1 ao1 n1 cp1 e1 s2 ao2 n2 cp2 e2 TL TH ∧ Bw w W5) := (by
    obtain ⟨q1, q2, q3, q4, q5⟩ := HZ.out
    have hb : Bw w W5 := by rw [hW5]; exact below_store6 (q3.trans (q4.mono q3.size)) q3.size _ _ _ _ _ _
    refine ⟨⟨?_, ?_, ?_⟩, hb⟩
    · rw [hW5, hgb]; exact store6 _ _ _ _ _ _ q5
    · rw [hW5]; exact (q1.later q4).store6 q5 _ _ _ _ _ _
    · rw [hW5]; exact (q2.later q4).store6 q5 _ _ _ _ _ _ : dzB W5 gb s1 ao1 n1 cp1 e1 s2 ao2 n2 cp2 e2 TL TH ∧ Bw w W5)
  rw [← hW5, ← hgb]
  clear hW5 hgb HZ y0 y1 y2 y3 y4 y5 f0 f1 f2 f3 f4 f5
  obtain ⟨⟨y0, y1, y2, y3, y4, y5⟩, -⟩ := box_cells6 HF.out.1.1
  have kk := kF.out W5 _ HF.out.1.2.1
  clear kF
  go_wp2_with fail
  refine kk.mono ?_
  rintro r w6 ⟨rfl, hb6⟩
  have HW : Hid (dzB w6 gb s1 ao1 n1 cp1 e1 s2 ao2 n2 cp2 e2 TL TH ∧ Bw w w6) := ⟨HF.out.1.later hb6, HF.out.2.trans (hb6.mono HF.out.2.size)⟩
  clear HF kk hb6 y0 y1 y2 y3 y4 y5
  go_wp2_with fail
  go_loopg [9, 10, 11, 12] N (fun m va vb vc vd wr => ∃ a b c d : Nat, va = .int .i64 (a : Nat) ∧ vb = .int .i64 (b : Nat) ∧ vc = .int .i64 (c : Nat) ∧ vd = .int .i64 (d : Nat) ∧ St m a b c d ∧ Hid (dzB wr gb s1 ao1 n1 cp1 e1 s2 ao2 n2 cp2 e2 TL TH ∧ Bw w wr))
  case atStart => exact ⟨n, 1, n + 1, 1, rfl, rfl, rfl, rfl, hs0, HW⟩
  case round =>
    clear HW hs0
    obtain ⟨a, b, c, d, rfl, rfl, rfl, rfl, hst, HS⟩ := hrel
    have hz := hsz.out _ _ _ _ _ hst
    have w1 : IntKind.i64.wrap ((b : Int) + (d : Int)) = (b : Int) + (d : Int) := by rw [IntKind.wrap_i64]; omega
    have w2 : IntKind.i64.wrap ((a : Int) + (c : Int)) = (a : Int) + (c : Int) := by rw [IntKind.wrap_i64]; omega
    obtain ⟨⟨y0, y1, y2, y3, y4, y5⟩, -⟩ := box_cells6 HS.out.1.1
    by_cases hle : b + d ≤ most
    · have hle2 : (b : Int) + (d : Int) ≤ (most : Int) := by omega
      have eP : ((a + c : Nat) : Int) = (a : Int) + (c : Int) := Int.natCast_add _ _
      have eQ : ((b + d : Nat) : Int) = (b : Int) + (d : Int) := Int.natCast_add _ _
      obtain ⟨v, hv⟩ : ∃ v, v = sd (a + c) (b + d) := ⟨_, rfl⟩
      have q1 : ∀ W', Bw wr W' → Calls Tryz.prog 24 #[.int .i64 ((b : Int) + (d : Int))] W' fun r w' => ∃ s' ao n cp e, r = .returned (.agg #[.bool s', .slice ao n cp, .int .i64 e]) ∧ Hid (DN w' (.agg #[.bool s', .slice ao n cp, .int .i64 e]) (un ((b + d : Nat) : Int) 0)) ∧ Bw wr w' := fun W' h => by
        rw [← eQ]
        exact (kW.out (b + d) W' (by omega)).mono fun r w' ⟨s, ao, n, cp, e, h1, h2, h3⟩ => ⟨s, ao, n, cp, e, h1, h2, h.trans (h3.mono h.size)⟩
      have q2 : ∀ W' Y, Bw wr W' → DN W' Y (un ((b + d : Nat) : Int) 0) → Calls Tryz.prog 33 #[.agg #[.bool s1, .slice ao1 n1 cp1, .int .i64 e1], Y] W' fun r w' => ∃ s' ao n cp e, r = .returned (.agg #[.bool s', .slice ao n cp, .int .i64 e]) ∧ Hid (DN w' (.agg #[.bool s', .slice ao n cp, .int .i64 e]) (TT (b + d))) ∧ Bw wr w' := fun W' Y h hY => (kT.out (b + d) W' _ Y (by omega) (HS.out.1.later h).2.1 hY).mono fun r w' ⟨s, ao, n, cp, e, h1, h2, h3⟩ => ⟨s, ao, n, cp, e, h1, h2, h.trans (h3.mono h.size)⟩
      have q3 : ∀ W' X, Bw wr W' → DN W' X (TT (b + d)) → Calls Tryz.prog 24 #[.int .i64 ((a : Int) + (c : Int))] W' fun r w' => ∃ s' ao n cp e, r = .returned (.agg #[.bool s', .slice ao n cp, .int .i64 e]) ∧ Hid (DN w' (.agg #[.bool s', .slice ao n cp, .int .i64 e]) (un ((a + c : Nat) : Int) 0) ∧ DN w' X (TT (b + d))) ∧ Bw wr w' := fun W' X h hX => by
        rw [← eP]
        exact (kW.out (a + c) W' (by omega)).mono fun r w' ⟨s, ao, n, cp, e, h1, h2, h3⟩ => ⟨s, ao, n, cp, e, h1, ⟨h2, hX.later h3⟩, h.trans (h3.mono h.size)⟩
      have q4 : ∀ W' X Y, Bw wr W' → DN W' Y (un ((a + c : Nat) : Int) 0) ∧ DN W' X (TT (b + d)) → Calls Tryz.prog 19 #[X, Y] W' fun r w' => r = .returned (.int .i64 v) ∧ Bw wr w' := fun W' X Y h hXY => (kO.out (a + c) (b + d) W' X Y (by omega) (by omega) hXY.2 hXY.1).mono fun r w' ⟨h1, h3⟩ => ⟨by rw [h1, hv], h.trans (h3.mono h.size)⟩
      have HK : Hid (∀ w', Bw wr w' → w'.cell? ⟨gb, 0, none⟩ = some (.bool s1) ∧ w'.cell? ⟨gb, 1, none⟩ = some (.slice ao1 n1 cp1) ∧ w'.cell? ⟨gb, 2, none⟩ = some (.int .i64 e1)) := fun w' hb => by
        obtain ⟨⟨y0, y1, y2, y3, y4, y5⟩, -⟩ := box_cells6 (HS.out.1.later hb).1
        exact ⟨y0, y1, y2⟩
      have HJ1 : Hid (0 < v → ∀ (W : World) U, DB W U TL TH → Calls Tryz.prog 36 #[U, .int .i64 (a : Nat), .int .i64 (b : Nat), .int .i64 (c : Nat), .int .i64 (d : Nat), .int .i64 (most : Nat)] W fun r w' => ∃ a' b' m', m' < gk ∧ St m' a' b' c d ∧ r = .returned (.tuple #[.int .i64 (a' : Nat), .int .i64 (b' : Nat)]) ∧ Bw W w') := fun h => kL.out _ _ _ _ _ hst hle (by rw [← hv]; exact h)
      have HJ2 : Hid (v ≤ 0 → ∀ (W : World) U, DB W U TL TH → Calls Tryz.prog 36 #[U, .int .i64 (c : Nat), .int .i64 (d : Nat), .int .i64 (a : Nat), .int .i64 (b : Nat), .int .i64 (most : Nat)] W fun r w' => ∃ c' d' m', m' < gk ∧ St m' a b c' d' ∧ r = .returned (.tuple #[.int .i64 (c' : Nat), .int .i64 (d' : Nat)]) ∧ Bw W w') := fun h => kG.out _ _ _ _ _ hst hle (by rw [← hv]; exact h)
      clear hv hst kW kT kO kL kG kC hsz hz hle eP eQ
      go_wp2_with fail
      have hRr : Bw wr wr.drew := (Below.refl _ _).drew
      go_region_held3 (fun w' => w'.cell? ⟨gb, 0, none⟩ = some (.bool s1) ∧ w'.cell? ⟨gb, 1, none⟩ = some (.slice ao1 n1 cp1) ∧ w'.cell? ⟨gb, 2, none⟩ = some (.int .i64 e1)) (first | (with_reducible assumption) | exact HK.out _ hRr | (refine HK.out _ ?_; with_reducible assumption))
        (first | (go_at_call 24; with_reducible refine (q1 _ hRr).mono ?_; rintro r w7 ⟨s7, ao7, n7, cp7, e7, rfl, E7, hb7⟩)
               | (go_at_call 33; with_reducible refine (q2 _ _ hb7 E7.out).mono ?_; rintro r w8 ⟨s8, ao8, n8, cp8, e8, rfl, E8, hb8⟩)
               | (go_at_call 24; with_reducible refine (q3 _ _ hb8 E8.out).mono ?_; rintro r w9 ⟨s9, ao9, n9, cp9, e9, rfl, E9, hb9⟩)
               | (go_at_call 19; with_reducible refine (q4 _ _ _ hb9 E9.out).mono ?_; rintro r wA ⟨rfl, hbA⟩))
      have HS' : Hid (dzB wA gb s1 ao1 n1 cp1 e1 s2 ao2 n2 cp2 e2 TL TH ∧ Bw w wA) := ⟨HS.out.1.later hbA, HS.out.2.trans (hbA.mono HS.out.2.size)⟩
      clear HS HK q1 q2 q3 q4 hRr y0 y1 y2 y3 y4 y5 E7 E8 E9 hb7 hb8 hb9 hbA
      obtain ⟨⟨y0, y1, y2, y3, y4, y5⟩, -⟩ := box_cells6 HS'.out.1.1
      have hDB : DB wA (.agg #[.bool s1, .slice ao1 n1 cp1, .int .i64 e1, .bool s2, .slice ao2 n2 cp2, .int .i64 e2]) TL TH := ⟨_, _, _, _, _, _, _, _, _, _, rfl, HS'.out.1.2.1, HS'.out.1.2.2⟩
      by_cases hpos : 0 < v
      · have kk := HJ1.out hpos _ _ hDB
        clear HJ1 HJ2 hDB
        go_wp2_with fail
        refine kk.mono ?_
        rintro r wB ⟨a', b', m', hm', hst', rfl, hbB⟩
        have HT : Hid (m' < gk ∧ St m' a' b' c d) := ⟨hm', hst'⟩
        have HS2 : Hid (dzB wB gb s1 ao1 n1 cp1 e1 s2 ao2 n2 cp2 e2 TL TH ∧ Bw w wB) := ⟨HS'.out.1.later hbB, HS'.out.2.trans (hbB.mono HS'.out.2.size)⟩
        clear kk hm' hst' hbB HS' y0 y1 y2 y3 y4 y5
        go_wp2_with fail
        go_roundg m'
        case measure => exact HT.out.1
        case rel => exact ⟨a', b', c, d, rfl, rfl, rfl, rfl, HT.out.2, HS2⟩
      · have kk := HJ2.out (by omega) _ _ hDB
        clear HJ1 HJ2 hDB
        go_wp2_with fail
        refine kk.mono ?_
        rintro r wB ⟨c', d', m', hm', hst', rfl, hbB⟩
        have HT : Hid (m' < gk ∧ St m' a b c' d') := ⟨hm', hst'⟩
        have HS2 : Hid (dzB wB gb s1 ao1 n1 cp1 e1 s2 ao2 n2 cp2 e2 TL TH ∧ Bw w wB) := ⟨HS'.out.1.later hbB, HS'.out.2.trans (hbB.mono HS'.out.2.size)⟩
        clear kk hm' hst' hbB HS' y0 y1 y2 y3 y4 y5
        go_wp2_with fail
        go_roundg m'
        case measure => exact HT.out.1
        case rel => exact ⟨a, b, c', d', rfl, rfl, rfl, rfl, HT.out.2, HS2⟩
    · have hle2 : (most : Int) < (b : Int) + (d : Int) := by omega
      obtain ⟨t, hR1, hR2, kX⟩ := kC.out _ _ _ _ _ hst hle
      have HR : Hid (R1 = (if t then a else c) ∧ R2 = (if t then b else d)) := ⟨hR1, hR2⟩
      have kk := kX wr (.agg #[.bool s1, .slice ao1 n1 cp1, .int .i64 e1, .bool s2, .slice ao2 n2 cp2, .int .i64 e2]) ⟨_, _, _, _, _, _, _, _, _, _, rfl, HS.out.1.2.1, HS.out.1.2.2⟩
      clear hR1 hR2 kX kC kL kG kW kT kO hst hsz hz hle
      go_wp2_with fail
      refine kk.mono ?_
      rintro r wB ⟨z, rfl, hbB⟩
      have HB : Hid (Bw w wB) := HS.out.2.trans (hbB.mono HS.out.2.size)
      clear kk HS hbB y0 y1 y2 y3 y4 y5
      cases t
      · obtain ⟨rfl, rfl⟩ := HR.out
        go_wp2_with fail
        refine bodyPost_ret (results_tmp3 rfl _ _ _) rfl ?_
        exact ⟨rfl, HB.out⟩
      · obtain ⟨rfl, rfl⟩ := HR.out
        go_wp2_with fail
        refine bodyPost_ret (results_tmp3 rfl _ _ _) rfl ?_
        exact ⟨rfl, HB.out⟩
end Go.Proofs.YtapooodfgcjoaaaGreat
namespace Go.Proofs.YtapooodfgcjoaaaGreat
open Go.RowKit
theorem kG_pos {k:Nat} (h1:1≤k) (h8:k≤8):1≤kG k:=by
 rcases(by omega:k=1∨k=2∨k=3∨k=4∨k=5∨k=6∨k=7∨k=8)with rfl|rfl|rfl|rfl|rfl|rfl|rfl|rfl <;> decide
theorem setl_num2 {lo hi:Int} {M G K P p q X:Nat} (hP:0<P) (hK:274877906944*P<K) (hG:1≤G) (hq:1≤q) (x1:lo*P≤M) (x2:(M:Int)≤hi*P) (x4:hi - lo≤274877906944) :
  (p*(X*P)+G*q*K≤M*q→(p:Int)*X<lo*q)∧(M*q+G*q*K<p*(X*P)→hi*q<p*X):=by
 have hPi:(0:Int)<(P:Int):=by omega
 have g1:q*K≤G*q*K:=by rw[Nat.mul_assoc];exact Nat.le_mul_of_pos_left _ hG
 have g2:q*(274877906944*P)<q*K:=Nat.mul_lt_mul_of_pos_left hK hq
 have g3:((q*(274877906944*P):Nat):Int)=274877906944*(P:Int)*q:=by rw[Int.natCast_mul,Int.natCast_mul,Int.mul_comm];rfl
 have m1:lo*P*q≤(M:Int)*q:=Int.mul_le_mul_of_nonneg_right x1 (by omega)
 have m2:(M:Int)*q≤hi*P*q:=Int.mul_le_mul_of_nonneg_right x2 (by omega)
 have m3:hi*P≤(lo+274877906944)*P:=Int.mul_le_mul_of_nonneg_right (by omega) (by omega)
 have m4:hi*P*q≤(lo+274877906944)*P*q:=Int.mul_le_mul_of_nonneg_right m3 (by omega)
 have m5:(lo+274877906944)*P*q=lo*P*q+274877906944*(P:Int)*q:=by grind
 have c1:((M*q:Nat):Int)=(M:Int)*q:=Int.natCast_mul _ _
 have c2:((p*(X*P):Nat):Int)=(p:Int)*X*P:=by push_cast;grind
 have e1:lo*P*q=lo*q*P:=by grind
 have e2:hi*P*q=hi*q*P:=by grind
 constructor
 ·intro h
  refine Int.lt_of_mul_lt_mul_right (a:=P) ?_ (by omega)
  omega
 ·intro h
  refine Int.lt_of_mul_lt_mul_right (a:=P) ?_ (by omega)
  omega
theorem setl_doc {k Q p q:Nat} {lo hi:Int} (h1:1≤k) (h8:k≤8) (hE:EB k 200 lo hi Q) (hq:1≤q) (h:setl k p q=true) :
  if upK k p q then(p:Int)*((2^Q:Nat):Int)<lo*q else hi*q<(p:Int)*((2^Q:Nat):Int):=by
 have hz:=Z0_eq
 have hk:kq k≤1:=(tk_num h1 h8).2.2.2.2.1
 obtain⟨q1,q2,l,u,g⟩:=hE
 have hT:2^(Z0+kq k)=2^Q*2^(Z0+kq k - Q):=(congrArg (fun e=>2^e) (show Z0+kq k=Q+(Z0+kq k - Q) by omega)).trans (Nat.pow_add 2 _ _)
 have hK:274877906944*2^(Z0+kq k - Q)<2^(Z0 - 128):=by
  rw[show 274877906944=2^38 by decide,←Nat.pow_add]
  exact Nat.pow_lt_pow_right (by decide) (by omega)
 have hn:=setl_num2 (p:=p) (q:=q) (X:=2^Q) (Nat.two_pow_pos _) hK (kG_pos h1 h8) hq l u g
 rw[←hT] at hn
 unfold setl at h
 rw[Bool.or_eq_true] at h
 unfold upK
 rcases h with h|h
 ·have h':=Nat.le_of_ble_eq_true h
  have hu:Nat.ble (p*2^(Z0+kq k)) (kM k*q)=true:=Nat.ble_eq_true_of_le (by omega)
  rw[hu,if_pos rfl]
  exact hn.1 h'
 ·have h':kM k*q+kG k*q*2^(Z0 - 128)<p*2^(Z0+kq k):=Nat.le_of_ble_eq_true h
  have hu:Nat.ble (p*2^(Z0+kq k)) (kM k*q)=false:=by
   rw[Bool.eq_false_iff]
   intro hh
   have:=Nat.le_of_ble_eq_true hh
   omega
  rw[hu,if_neg (by decide)]
  exact hn.2 h'
structure Pair (lo hi:Int) (Q most a b c d:Nat):Prop where
 b0:1≤b
 d0:1≤d
 bm:b≤most
 dm:d≤most
 mx:most<b+d
 nb:b*c=a*d+1
 lw:(a:Int)*((2^Q:Nat):Int)<lo*b
 hg:hi*d<(c:Int)*((2^Q:Nat):Int)
 a1:a≤7516192768
 c1:c≤7516192768
theorem end_doc {k Q most:Nat} {lo hi:Int} (h1:1≤k) (h8:k≤8) (hE:EB k 200 lo hi Q) (hm:most≤1073741824):∀ (n a b c d:Nat),wayK k n a b c d=true→b≤most→d≤most →
  ∃ a' b' c' d',Pair lo hi Q most a' b' c' d'∧endK k most n a b c d=(if upK k (a'*d'+c'*b') (2*b'*d') then(c',d') else(a',b')) ∧
   (if upK k (a'*d'+c'*b') (2*b'*d') then((a'*d'+c'*b':Nat):Int)*((2^Q:Nat):Int)<lo*(2*b'*d':Nat)else hi*(2*b'*d':Nat)<((a'*d'+c'*b':Nat):Int)*((2^Q:Nat):Int))
 | 0,_,_,_,_,h,_,_=>by cases h
 | n+1,a,b,c,d,h,hb,hd=>by
  have hv:=way_of h
  cases hbd:Nat.ble (b+d) most
  ·have hgt:most<b+d:=by
    apply Decidable.byContradiction
    intro hh
    rw[Nat.ble_eq_true_of_le (by omega)] at hbd
    cases hbd
   have s1:=setl_doc h1 h8 hE hv.b0 hv.sl
   rw[hv.ul,if_pos rfl] at s1
   have s2:=setl_doc h1 h8 hE hv.d0 hv.sr
   rw[hv.ur,if_neg (by decide)] at s2
   have s3:=setl_doc h1 h8 hE (show 1≤2*b*d from Nat.mul_pos (by have:=hv.b0;omega) hv.d0) hv.sm
   refine⟨a,b,c,d,⟨hv.b0,hv.d0,hb,hd,hgt,hv.nb,s1,s2,hv.a1,hv.c1⟩,?_,s3⟩
   unfold endK
   rw[hbd]
   cases upK k (a*d+c*b) (2*b*d) <;> rfl
  ·have hle:=Nat.le_of_ble_eq_true hbd
   rcases hv.nx with vn|⟨vs,vu,vd⟩
   ·omega
   ·unfold endK
    rw[hbd]
    cases hu:upK k (a+c) (b+d)
    ·exact end_doc h1 h8 hE hm n _ _ _ _ (vd hu) hb hle
    ·exact end_doc h1 h8 hE hm n _ _ _ _ (vu hu) hle hd
theorem pair_start {k Q most:Nat} {lo hi:Int} (h1:1≤k) (h8:k≤8) (hE:EB k 200 lo hi Q) (hm1:1≤most) (hm:most≤1073741824) :
  ∃ a' b' c' d',Pair lo hi Q most a' b' c' d'∧endK k most 400 (whK k) 1 (whK k+1) 1=(if upK k (a'*d'+c'*b') (2*b'*d') then(c',d') else(a',b')) ∧
   (if upK k (a'*d'+c'*b') (2*b'*d') then((a'*d'+c'*b':Nat):Int)*((2^Q:Nat):Int)<lo*(2*b'*d':Nat)else hi*(2*b'*d':Nat)<((a'*d'+c'*b':Nat):Int)*((2^Q:Nat):Int)) :=
 end_doc h1 h8 hE hm 400 _ _ _ _ (way_k h1 h8) hm1 hm1
theorem no_frac {k Q p q:Nat} {lo hi:Int} (h1:1≤k) (h8:k≤8) (hE:EB k 200 lo hi Q) (hle:lo≤hi) (hq:1≤q) (hq2:q≤1073741824):lo*q≠(p:Int)*((2^Q:Nat):Int):=by
 intro h
 obtain⟨a,b,c,d,hp,-⟩:=pair_start h1 h8 hE (show 1≤1073741824 by decide) (Nat.le_refl _)
 have hX:(0:Int)<((2^Q:Nat):Int):=by have:=Nat.two_pow_pos Q;omega
 have hb:=hp.b0
 have hd:=hp.d0
 have l1:lo*d≤hi*d:=Int.mul_le_mul_of_nonneg_right hle (by omega)
 have l2:=hp.hg
 have l3:=hp.lw
 generalize ((2^Q:Nat):Int)=X at *
 have v1:(a:Int)*q<p*b:=by
  refine Int.lt_of_mul_lt_mul_right (a:=X) ?_ (by omega)
  have e1:(p:Int)*b*X=lo*b*q:=by rw[Int.mul_right_comm,←h];grind
  have e2:(a:Int)*q*X=a*X*q:=by grind
  rw[e1,e2]
  exact Int.mul_lt_mul_of_pos_right l3 (by omega)
 have v2:(p:Int)*d<c*q:=by
  refine Int.lt_of_mul_lt_mul_right (a:=X) ?_ (by omega)
  have e1:(p:Int)*d*X=lo*d*q:=by rw[Int.mul_right_comm,←h];grind
  have e2:(c:Int)*q*X=c*X*q:=by grind
  rw[e1,e2]
  exact Int.mul_lt_mul_of_pos_right (by omega) (by omega)
 have:=btwn (a:=a) (b:=b) (c:=c) (d:=d) (p:=p) (q:=q) (by have:=hp.nb;rw[←Int.natCast_mul,←Int.natCast_mul,this];rfl) (by omega) (by omega) v1 v2
 have:=hp.mx
 omega
theorem EB.le {k pl Q:Nat} {lo hi:Int} (h:EB k pl lo hi Q):lo≤hi:=by
 have a:=Int.le_trans h.low h.high
 exact Int.le_of_mul_le_mul_right a (by have:=Nat.two_pow_pos (Z0+kq k - Q);omega)
def sdK (lo:Int) (Q p q:Nat):Int:=cmpI (lo*q) ((p:Int)*((2^Q:Nat):Int))
structure JSt (sd:Nat→Nat→Int) (sv:Int) (a0 b0 c d most n a b s:Nat):Prop where
 ex:∃ m,a=a0+m*c∧b=b0+m*d∧(b0+d≤most→sd (a0+c) (b0+d)=sv→s=1∧m=0∨1≤m)
 bm:b≤most
 sv:sd a b=sv
 ms:n=3*(most - b)+s
 sm:s*d≤2*most
theorem JSt.accept {sd:Nat→Nat→Int} {sv:Int} {a0 b0 c d most n a b s:Nat} (h:JSt sd sv a0 b0 c d most n a b s) (hd:1≤d) (hs:0<s) (h1:b+s*d≤most) (h2:sd (a+s*c) (b+s*d)=sv) :
  ∃ m,m<n∧JSt sd sv a0 b0 c d most m (a+s*c) (b+s*d) (2*s):=by
 obtain⟨⟨m,e1,e2,e3⟩,h3,h4,h5,h6⟩:=h
 have hsd:s≤s*d:=Nat.le_mul_of_pos_right _ hd
 refine⟨3*(most - (b+s*d))+2*s,by omega,⟨m+s,by rw[e1,Nat.add_mul];omega,by rw[e2,Nat.add_mul];omega,fun _ _=>.inr (by omega)⟩,h1,h2,rfl,?_⟩
 rw[Nat.mul_assoc]
 omega
theorem JSt.reject {sd:Nat→Nat→Int} {sv:Int} {a0 b0 c d most n a b s:Nat} (h:JSt sd sv a0 b0 c d most n a b s) (hs:0<s) (h1:¬ (b+s*d≤most∧sd (a+s*c) (b+s*d)=sv)) :
  ∃ m,m<n∧JSt sd sv a0 b0 c d most m a b (s / 2):=by
 obtain⟨⟨m,e1,e2,e3⟩,h3,h4,h5,h6⟩:=h
 have hsd:s / 2*d≤s*d:=Nat.mul_le_mul_right _ (Nat.div_le_self _ _)
 refine⟨3*(most - b)+s / 2,by omega,⟨m,e1,e2,fun g1 g2=>.inr ?_⟩,h3,h4,rfl,by omega⟩
 rcases e3 g1 g2 with ⟨rfl,rfl⟩|h
 ·exfalso
  apply h1
  rw[e1,e2,Nat.zero_mul,Nat.zero_mul,Nat.one_mul,Nat.one_mul]
  exact⟨g1,g2⟩
 ·exact h
theorem JSt.size {sd:Nat→Nat→Int} {sv:Int} {a0 b0 c d most n a b s:Nat} (h:JSt sd sv a0 b0 c d most n a b s) (hd:1≤d) (hm:most≤1073741824) (ha:a0≤8*b0) (hc:c≤8*d) :
  a+s*c≤1099511627776∧b+s*d≤4294967296∧s≤4294967296:=by
 obtain⟨⟨m,e1,e2,-⟩,h3,h4,h5,h6⟩:=h
 have hsd:s≤s*d:=Nat.le_mul_of_pos_right _ hd
 have h7:s*c≤s*(8*d):=Nat.mul_le_mul_left _ hc
 have h8:m*c≤m*(8*d):=Nat.mul_le_mul_left _ hc
 have e7:s*(8*d)=8*(s*d):=by rw[Nat.mul_left_comm]
 have e8:m*(8*d)=8*(m*d):=by rw[Nat.mul_left_comm]
 rw[e7] at h7
 rw[e8] at h8
 omega
def JEnd (sd:Nat→Nat→Int) (sv:Int) (a0 b0 c d most a b:Nat):Prop :=
 ∃ m,a=a0+m*c∧b=b0+m*d∧b≤most∧sd a b=sv∧(b0+d≤most→sd (a0+c) (b0+d)=sv→1≤m)
theorem JSt.endS {sd:Nat→Nat→Int} {sv:Int} {a0 b0 c d most n a b:Nat} (h:JSt sd sv a0 b0 c d most n a b 0):JEnd sd sv a0 b0 c d most a b:=by
 obtain⟨⟨m,e1,e2,e3⟩,h3,h4,h5,h6⟩:=h
 refine⟨m,e1,e2,h3,h4,fun g1 g2=>?_⟩
 rcases e3 g1 g2 with ⟨h,-⟩|h
 ·cases h
 ·exact h
theorem JSt.start {sd:Nat→Nat→Int} {sv:Int} {a0 b0 c d most:Nat} (hb:b0≤most) (hd:d≤most) (hs:sd a0 b0=sv):JSt sd sv a0 b0 c d most (3*(most - b0)+1) a0 b0 1 :=
 ⟨⟨0,by omega,by omega,fun _ _=>.inl ⟨rfl,rfl⟩⟩,hb,hs,rfl,by omega⟩
structure DSt (sd:Nat→Nat→Int) (most n a b c d:Nat):Prop where
 b0:1≤b
 d0:1≤d
 bm:b≤most
 dm:d≤most
 a8:a≤8*b
 c8:c≤8*d
 nb:b*c=a*d+1
 lw:sd a b=1
 hg:sd c d = -1
 ms:n=2*most - (b+d)
theorem DSt.low {sd:Nat→Nat→Int} {most n a b c d a' b':Nat} (h:DSt sd most n a b c d) (hle:b+d≤most) (hs:sd (a+c) (b+d)=1) (hj:JEnd sd 1 a b c d most a' b'):∃ m,m<n∧DSt sd most m a' b' c d:=by
 obtain⟨h1,h2,h3,h4,h5,h6,h7,h8,h9,h10⟩:=h
 obtain⟨m,rfl,rfl,e3,e4,e5⟩:=hj
 have hm:=e5 hle hs
 have hmd:d≤m*d:=Nat.le_mul_of_pos_left _ hm
 have hmc:m*c≤m*(8*d):=Nat.mul_le_mul_left _ h6
 rw[Nat.mul_left_comm] at hmc
 refine⟨2*most - (b+m*d+d),by omega,by omega,h2,e3,h4,by omega,h6,?_,e4,h9,rfl⟩
 rw[Nat.add_mul,Nat.add_mul,h7,Nat.mul_assoc,Nat.mul_assoc,Nat.mul_comm d c]
 omega
theorem DSt.high {sd:Nat→Nat→Int} {most n a b c d c' d':Nat} (h:DSt sd most n a b c d) (hle:b+d≤most) (hs:sd (a+c) (b+d) = -1) (hj:JEnd sd (-1) c d a b most c' d'):∃ m,m<n∧DSt sd most m a b c' d':=by
 obtain⟨h1,h2,h3,h4,h5,h6,h7,h8,h9,h10⟩:=h
 obtain⟨m,rfl,rfl,e3,e4,e5⟩:=hj
 have hm:=e5 (by omega) (by rw[Nat.add_comm c a,Nat.add_comm d b];exact hs)
 have hmd:b≤m*b:=Nat.le_mul_of_pos_left _ hm
 have hmc:m*a≤m*(8*b):=Nat.mul_le_mul_left _ h5
 rw[Nat.mul_left_comm] at hmc
 refine⟨2*most - (b+(d+m*b)),by omega,h1,by omega,h3,e3,h5,by omega,?_,h8,e4,rfl⟩
 rw[Nat.mul_add,Nat.mul_add,h7]
 have:b*(m*a)=a*(m*b):=by grind
 omega
theorem cmpS_pos {x y:Int} (h:cmpI x y=1):y<x:=by
 unfold cmpI at h
 by_cases h1:x<y
 ·rw[if_pos h1] at h;cases h
 ·rw[if_neg h1] at h
  by_cases h2:y<x
  ·exact h2
  ·rw[if_neg h2] at h;cases h
theorem cmpS_neg {x y:Int} (h:cmpI x y = -1):x<y:=by
 unfold cmpI at h
 by_cases h1:x<y
 ·exact h1
 ·rw[if_neg h1] at h
  by_cases h2:y<x
  ·rw[if_pos h2] at h;cases h
  ·rw[if_neg h2] at h;cases h
theorem cmpS_ne {x y:Int} (h:x≠y):cmpI x y=1∨cmpI x y = -1:=by
 unfold cmpI
 by_cases h1:x<y
 ·rw[if_pos h1];exact .inr rfl
 ·rw[if_neg h1,if_pos (by omega)];exact .inl rfl
theorem pair_eq {lo hi:Int} {Q most n a b c d a' b' c' d':Nat} (hle:lo≤hi) (h:DSt (sdK lo Q) most n a b c d) (hmx:most<b+d) (hp:Pair lo hi Q most a' b' c' d'):a=a'∧b=b'∧c=c'∧d=d':=by
 have e1:=cmpS_pos h.lw
 have e2:=cmpS_neg h.hg
 have l1:lo*d'≤hi*d':=Int.mul_le_mul_of_nonneg_right hle (by omega)
 have l2:=hp.hg
 have n1:(b:Int)*c=a*d+1:=by have:=h.nb;rw[←Int.natCast_mul,this];rfl
 have n2:(b':Int)*c'=a'*d'+1:=by have:=hp.nb;rw[←Int.natCast_mul,this];rfl
 have p1:=h.b0
 have p2:=h.d0
 have p3:=hp.b0
 have p4:=hp.d0
 have p5:=h.bm
 have p6:=h.dm
 have p7:=hp.bm
 have p8:=hp.dm
 have p9:=hp.mx
 obtain⟨r1,r2,r3,r4⟩:=pair_one (lo:=lo) (Q:=((2^Q:Nat):Int)) (a:=a) (b:=b) (c:=c) (d:=d) (a':=a') (b':=b') (c':=c') (d':=d') (most:=most) (by omega) (by omega) (by omega) (by omega) n1 n2 e1 (by omega) hp.lw (by omega) (by have:=Nat.two_pow_pos Q;omega) (by omega) (by omega) (by omega) (by omega) (by omega) (by omega)
 omega
end Go.Proofs.YtapooodfgcjoaaaGreat
namespace Go.Proofs.YtapooodfgcjoaaaGreat
open Go Go.RowKit Go.Fl64
theorem ordU {a b:Int} {p:Nat}:ordN (un a p).1 (un a p).2.1 (un a p).2.2 (un b p).1 (un b p).2.1 (un b p).2.2=cmpI a b:=by
 have e1:=(un_e (p:=p) (Nat.lt_two_pow_self (n:=a.natAbs))).2.2
 have e2:=(un_e (p:=p) (Nat.lt_two_pow_self (n:=b.natAbs))).2.2
 rw[ordN_vz e1 e2,vz_un a (Nat.le_refl _),vz_un b (Nat.le_refl _),Nat.sub_self,Nat.pow_zero]
 simp
theorem dorderZ {x y:Int} {k l p:Nat} {X Y:Value} {w:World} (hx:x.natAbs<2^k) (hy:y.natAbs<2^l) (hk:k≤90000) (hl:l≤90000) (hp:p≤90000) (h1:DN w X (un x p)) (h2:DN w Y (un y p)):Calls Tryz.prog 19 #[X,Y] w fun r w'=>r=.returned (.int .i64 (cmpI x y))∧Bw w w':=by
 have h:=gorder (un_gn hx hk hp) (un_gn hy hl hp) h1 h2
 rw[ordU] at h
 exact h
theorem nat_lt2 {n k:Nat} (h:n<2^k):((n:Nat):Int).natAbs<2^k:=by rw[Int.natAbs_natCast];exact h
theorem shl_lt2 {n k Q:Nat} (h:n<2^k):(((n:Nat):Int)*((2^Q:Nat):Int)).natAbs<2^(k+Q):=by
 rw[Int.natAbs_mul,Int.natAbs_natCast,Int.natAbs_natCast,Nat.pow_add]
 exact Nat.mul_lt_mul_of_pos_right h (Nat.two_pow_pos Q)
theorem mul_lt2 {x:Int} {n k l:Nat} (hx:x.natAbs<2^k) (h:n<2^l):(x*((n:Nat):Int)).natAbs<2^(k+l):=by
 rw[Int.natAbs_mul,Int.natAbs_natCast,Nat.pow_add]
 exact Nat.mul_lt_mul'' hx h
theorem dorderW {x:Int} {n k l Q:Nat} {X Y:Value} {w:World} (hx:x.natAbs<2^k) (hy:n<2^l) (hk:k≤80000) (hl:l+Q≤80000) (h1:DN w X (un x Q)) (h2:DN w Y (un ((n:Nat):Int) 0)):Calls Tryz.prog 19 #[X,Y] w fun r w'=>r=.returned (.int .i64 (cmpI x (((n:Nat):Int)*((2^Q:Nat):Int))))∧Bw w w':=by
 rw[un_shift _ 0 Q,Nat.zero_add] at h2
 exact dorderZ hx (shl_lt2 hy) (by omega) (by omega) (by omega) h1 h2
theorem cmpI_gt' {x y:Int} (h:y<x):cmpI x y=1:=by unfold cmpI;rw[if_neg (by omega),if_pos h]
theorem cmpI_lt' {x y:Int} (h:x<y):cmpI x y = -1:=by unfold cmpI;rw[if_pos h]
theorem cmpI_pos' {x y:Int} (h:0<cmpI x y):cmpI x y=1:=by
 unfold cmpI at h ⊢
 by_cases h1:x<y
 ·rw[if_pos h1] at h;omega
 ·rw[if_neg h1] at h ⊢
  by_cases h2:y<x
  ·rw[if_pos h2]
  ·rw[if_neg h2] at h;omega
theorem whK_7 {k:Nat} (h1:1≤k) (h8:k≤8):whK k≤7:=by
 rcases(by omega:k=1∨k=2∨k=3∨k=4∨k=5∨k=6∨k=7∨k=8)with rfl|rfl|rfl|rfl|rfl|rfl|rfl|rfl <;> decide +kernel
theorem wh_doc {k Q:Nat} {lo hi:Int} (h1:1≤k) (h8:k≤8) (hE:EB k 200 lo hi Q):((whK k:Nat):Int)*((2^Q:Nat):Int)<lo∧hi<((whK k+1:Nat):Int)*((2^Q:Nat):Int):=by
 have hw:=way_of (n:=399) (way_k h1 h8)
 have s1:=setl_doc h1 h8 hE (Nat.le_refl 1) hw.sl
 rw[hw.ul,if_pos rfl] at s1
 have s2:=setl_doc h1 h8 hE (Nat.le_refl 1) hw.sr
 rw[hw.ur,if_neg (by decide)] at s2
 exact⟨by omega,by omega⟩
theorem lo_doc {k Q:Nat} {lo hi:Int} (h1:1≤k) (h8:k≤8) (hE:EB k 200 lo hi Q):lo / ((2^Q:Nat):Int)=whK k∧lo.natAbs<2^(Q+3)∧hi.natAbs<2^(Q+3):=by
 obtain⟨a,b⟩:=wh_doc h1 h8 hE
 have hle:=hE.le
 have h7:=whK_7 h1 h8
 have hP:=Nat.two_pow_pos Q
 have e:2^(Q+3)=2^Q*8:=Nat.pow_succ _ _ |>.trans (by rw[Nat.pow_succ,Nat.pow_succ];omega)
 have c1:(whK k+1)*2^Q≤8*2^Q:=Nat.mul_le_mul_right _ (by omega)
 have c2:((whK k+1:Nat):Int)*((2^Q:Nat):Int)=(((whK k+1)*2^Q:Nat):Int):=(Int.natCast_mul _ _).symm
 have c3:((whK k:Nat):Int)*((2^Q:Nat):Int)=((whK k*2^Q:Nat):Int):=(Int.natCast_mul _ _).symm
 refine⟨?_,by omega,by omega⟩
 have g1:((whK k:Nat):Int)≤lo / ((2^Q:Nat):Int):=(Int.le_ediv_iff_mul_le (by omega)).2 (by omega)
 have g2:lo / ((2^Q:Nat):Int)<((whK k+1:Nat):Int):=(Int.ediv_lt_iff_lt_mul (by omega)).2 (by omega)
 omega
theorem dbest_ok {k most:Nat} {w:World} (h1:1≤k) (h8:k≤8) (hm1:1≤most) (hm2:most≤1073741824) :
  Calls Tryz.prog 16 #[.int .i64 (k:Nat),.int .i64 (most:Nat)] w fun r w'=>r=.returned (.tuple #[.int .i64 ((endK k most 400 (whK k) 1 (whK k+1) 1).1:Nat),.int .i64 ((endK k most 400 (whK k) 1 (whK k+1) 1).2:Nat),.int .i64 0])∧Bw w w':=by
 obtain⟨lo,hi,Q,hE,hc⟩:=enc_k (w:=w) (pl:=200) h1 h8 (by decide) (by decide) (gdn0 w) (gdn0 w)
 obtain⟨hwh,hlo,hhi⟩:=lo_doc h1 h8 hE
 obtain⟨hw1,hw2⟩:=wh_doc h1 h8 hE
 have hle:=hE.le
 have hQ:=hE.q2
 have h7:=whK_7 h1 h8
 obtain⟨a',b',c',d',hP,hend,hmid⟩:=pair_start h1 h8 hE hm1 hm2
 have sd_ne:∀ p q:Nat,1≤q→q≤1073741824→lo*q≠(p:Int)*((2^Q:Nat):Int):=fun p q a b=>no_frac h1 h8 hE hle a b
 have kW:∀ (n:Nat) (W:World),n≤1099511627776→Calls Tryz.prog 24 #[.int .i64 (n:Nat)] W fun r w'=>OutD W (un (n:Nat) 0) r w':=fun n W hn=>dwholeN (by omega)
 have kT:∀ (q:Nat) (W:World) X Y,q≤4294967296→DN W X (un lo Q)→DN W Y (un (q:Nat) 0)→Calls Tryz.prog 33 #[X,Y] W fun r w'=>OutD W (un (lo*q) (Q+0)) r w':=fun q W X Y hq hX hY=>dmulZ (k:=Q+3) (l:=33) hlo (nat_lt2 (by omega)) (by omega) (by omega) (by omega) (by omega) hX hY
 have kO:∀ (p q:Nat) (W:World) X Y,p≤1099511627776→q≤4294967296→DN W X (un (lo*q) (Q+0))→DN W Y (un (p:Nat) 0)→Calls Tryz.prog 19 #[X,Y] W fun r w'=>r=.returned (.int .i64 (sdK lo Q p q))∧Bw W w':=fun p q W X Y hp hq hX hY=>dorderW (k:=Q+3+33) (l:=41) (mul_lt2 hlo (by omega)) (by omega) (by omega) (by omega) hX hY
 refine dbest_1 k most (whK k) (2*most - (1+1)) _ _ (un lo Q) (un hi Q) (sdK lo Q) (fun q=>un (lo*q) (Q+0)) (DSt (sdK lo Q) most) w h1 h8 hm1 hm2 h7 hc ?_ kW kT kO ?_ ?_ ?_ ?_ ?_
 ·exact fun W X hX=>dfloorN h7 hwh hlo (by omega) (by omega) hX
 ·refine⟨by omega,by omega,hm1,hm1,by omega,by omega,by omega,?_,?_,rfl⟩
  ·exact cmpI_gt' (by omega)
  ·exact cmpI_lt' (by omega)
 ·intro m a b c d h
  have:=h.a8
  have:=h.c8
  have:=h.bm
  have:=h.dm
  omega
 ·intro m a b c d h hbd hs W U hU
  have hs1:sdK lo Q (a+c) (b+d)=1:=cmpI_pos' hs
  obtain⟨s1,ao1,n1,cp1,e1,s2,ao2,n2,cp2,e2,rfl,g1,g2⟩:=hU
  refine(djump_1 s1 ao1 n1 cp1 e1 s2 ao2 n2 cp2 e2 (un lo Q) (un hi Q) (fun q=>un (lo*q) (Q+0)) (sdK lo Q) 1 a b c d most (3*(most - b)+1) (JSt (sdK lo Q) 1 a b c d most) (JEnd (sdK lo Q) 1 a b c d most) W g1 g2 kW kT kO (by have:=h.a8;have:=h.bm;omega) (by have:=h.bm;omega) h.lw (JSt.start h.bm h.dm h.lw) (fun n a b s hj=>hj.size h.d0 hm2 h.a8 h.c8) (fun n a b s hj hs g1 g2=>hj.accept h.d0 hs g1 g2) (fun n a b s hj hs g=>hj.reject hs g) (fun n a b hj=>hj.endS)).mono ?_
  rintro r w' ⟨a2,b2,hj,rfl,hb⟩
  obtain⟨m',hm',hst⟩:=h.low hbd hs1 hj
  exact⟨a2,b2,m',hm',hst,rfl,hb⟩
 ·intro m a b c d h hbd hs W U hU
  have hne:=sd_ne (a+c) (b+d) (by have:=h.b0;omega) (by omega)
  have hs1:sdK lo Q (a+c) (b+d) = -1:=by
   rcases cmpS_ne hne with hh|hh
   ·have:sdK lo Q (a+c) (b+d)=1:=hh
    omega
   ·exact hh
  obtain⟨s1,ao1,n1,cp1,e1,s2,ao2,n2,cp2,e2,rfl,g1,g2⟩:=hU
  refine(djump_1 s1 ao1 n1 cp1 e1 s2 ao2 n2 cp2 e2 (un lo Q) (un hi Q) (fun q=>un (lo*q) (Q+0)) (sdK lo Q) (-1) c d a b most (3*(most - d)+1) (JSt (sdK lo Q) (-1) c d a b most) (JEnd (sdK lo Q) (-1) c d a b most) W g1 g2 kW kT kO (by have:=h.c8;have:=h.dm;omega) (by have:=h.dm;omega) h.hg (JSt.start h.dm h.bm h.hg) (fun n a b s hj=>hj.size h.b0 hm2 h.c8 h.a8) (fun n a b s hj hs g1 g2=>hj.accept h.b0 hs g1 g2) (fun n a b s hj hs g=>hj.reject hs g) (fun n a b hj=>hj.endS)).mono ?_
  rintro r w' ⟨a2,b2,hj,rfl,hb⟩
  obtain⟨m',hm',hst⟩:=h.high hbd hs1 hj
  exact⟨a2,b2,m',hm',hst,rfl,hb⟩
 ·intro m a b c d h hbd
  obtain⟨rfl,rfl,rfl,rfl⟩:=pair_eq hle h (by omega) hP
  have pb:=h.b0
  have pd:=h.d0
  have pbm:=h.bm
  have pdm:=h.dm
  have pa:=h.a8
  have pc:=h.c8
  have m1:a*d≤8589934592*1073741824:=Nat.mul_le_mul (by omega) (by omega)
  have m2:c*b≤8589934592*1073741824:=Nat.mul_le_mul (by omega) (by omega)
  have m3:b*d≤1073741824*1073741824:=Nat.mul_le_mul (by omega) (by omega)
  have e2:2*b*d=2*(b*d):=Nat.mul_assoc _ _ _
  rw[e2] at hend hmid
  obtain⟨v1,hv1⟩:∃ v1,v1=cmpI (lo*((2*(b*d):Nat):Int)) (((a*d+c*b:Nat):Int)*((2^Q:Nat):Int)):=⟨_,rfl⟩
  have hl2:lo*((2*(b*d):Nat):Int)≤hi*((2*(b*d):Nat):Int):=Int.mul_le_mul_of_nonneg_right hle (by omega)
  have hcl:∀ (W:World) U,DB W U (un lo Q) (un hi Q)→Calls Tryz.prog 37 #[U,.int .i64 (a:Nat),.int .i64 (b:Nat),.int .i64 (c:Nat),.int .i64 (d:Nat)] W fun r w'=>∃ z:Bool,r=.returned (.tuple #[.bool (decide (v1<0)),.bool z])∧Bw W w':=by
   intro W U hU
   obtain⟨s1,ao1,n1,cp1,e1,s2,ao2,n2,cp2,e2,rfl,g1,g2⟩:=hU
   refine dcloser_1 s1 ao1 n1 cp1 e1 s2 ao2 n2 cp2 e2 (un lo Q) (un hi Q) (un ((a*d+c*b:Nat):Int) 0) (un ((2*(b*d):Nat):Int) 0) (un (lo*((2*(b*d):Nat):Int)) (Q+0)) (un (hi*((2*(b*d):Nat):Int)) (Q+0)) v1 (cmpI (hi*((2*(b*d):Nat):Int)) (((a*d+c*b:Nat):Int)*((2^Q:Nat):Int))) a b c d W g1 g2 (by omega) (by omega) (by omega) (by omega) kW ?_ ?_ ?_ ?_ ?_ ?_ ?_ ?_
   ·intro x y W X Y hx hy hX hY
    have k:=dmulZ (k:=41) (l:=41) (nat_lt2 (n:=x) (by omega)) (nat_lt2 (n:=y) (by omega)) (by omega) (by omega) (by omega) (by omega) hX hY
    rw[←Int.natCast_mul] at k
    exact k
   ·intro W X Y hX hY
    have k:=dplusZ (k:=80) (nat_lt2 (n:=a*d) (by omega)) (nat_lt2 (n:=c*b) (by omega)) (by omega) (by omega) hX hY
    rw[←Int.natCast_add] at k
    exact k
   ·intro W X hX
    have e:un ((2*(b*d):Nat):Int) 1=un ((b*d:Nat):Int) 0:=by
     have h:=un_shift ((b*d:Nat):Int) 0 1
     rw[show((b*d:Nat):Int)*((2^1:Nat):Int)=((2*(b*d):Nat):Int) by push_cast;omega] at h
     exact h.symm
    rw[←e] at hX
    exact dscaled (b:=80) (nat_lt2 (by omega)) (by omega) (by omega) (by omega) (by decide) hX
   ·exact fun W X Y hX hY=>dmulZ (k:=Q+3) (l:=80) hlo (nat_lt2 (by omega)) (by omega) (by omega) (by omega) (by omega) hX hY
   ·exact fun W X Y hX hY=>dmulZ (k:=Q+3) (l:=80) hhi (nat_lt2 (by omega)) (by omega) (by omega) (by omega) (by omega) hX hY
   ·intro W X Y hX hY
    rw[hv1]
    exact dorderW (k:=Q+3+80) (l:=80) (mul_lt2 hlo (by omega)) (by omega) (by omega) (by omega) hX hY
   ·intro W X Y hX hY
    exact dorderW (k:=Q+3+80) (l:=80) (mul_lt2 hhi (by omega)) (by omega) (by omega) (by omega) hX hY
   ·intro W X Y hX hY
    have k:=dorderZ (p:=0) (k:=80) (l:=80) (nat_lt2 (n:=a*d) (by omega)) (nat_lt2 (n:=c*b) (by omega)) (by omega) (by omega) (by omega) hX hY
    rw[cmpI_lt' (by have:=h.nb;rw[Nat.mul_comm c b,this];omega)] at k
    exact k
  refine⟨decide (v1<0),?_,?_,hcl⟩
  ·rw[hend]
   cases hu:upK k (a*d+c*b) (2*(b*d))
   ·rw[hu,if_neg (by decide)] at hmid
    rw[if_neg (by decide),hv1,cmpI_lt' (by omega)]
    rfl
   ·rw[hu,if_pos rfl] at hmid
    rw[if_pos rfl,hv1,cmpI_gt' (by omega)]
    rfl
  ·rw[hend]
   cases hu:upK k (a*d+c*b) (2*(b*d))
   ·rw[hu,if_neg (by decide)] at hmid
    rw[if_neg (by decide),hv1,cmpI_lt' (by omega)]
    rfl
   ·rw[hu,if_pos rfl] at hmid
    rw[if_pos rfl,hv1,cmpI_gt' (by omega)]
    rfl
end Go.Proofs.YtapooodfgcjoaaaGreat
namespace Go.Proofs.YtapooodfgcjoaaaGreat
open Go.RowKit
theorem bdb_other2 {W:World} {g k:Nat} {a1:Option Addr} {n1 c1:Nat} {a2:Option Addr} {n2 c2:Nat} {q:Int} (h:BdB W k a1 n1 c1 a2 n2 c2 q) (hk:k≠g) (a b:Value):BdB ((W.setCell ⟨g,0,none⟩ a).setCell ⟨g,1,none⟩ b) k a1 n1 c1 a2 n2 c2 q:=by
 unfold BdB at *
 have h':¬ g=k:=fun e=>hk e.symm
 simp[World.setCell,Array.getElem?_modify,h',h]
theorem bbest_1 {a1 : Option Addr} {n1 c1 : Nat} {a2 : Option Addr} {n2 c2 : Nat} {q : Int} {wh most N : Nat} {R1 R2 : Nat} {w : World} (St : Nat → Nat → Nat → Nat → Nat → Prop)
    (kO : Hid (∀ W, Calls Tryz.prog 69 #[.int .u64 1] W fun r w' => ∃ ao l cap, r = .returned (.slice ao l cap) ∧ Hid (Is w' (.slice ao l cap) 1) ∧ Bw W w'))
    (kF : Hid (∀ W X, Bw w W → Is W X 1 → Calls Tryz.prog 27 #[.agg #[.slice a1 n1 c1, .slice a2 n2 c2, .int .i64 q], X] W fun r w' => ∃ ao l cap, r = .returned (.tuple #[.slice ao l cap, .bool true]) ∧ Hid (Is w' (.slice ao l cap) wh) ∧ Bw W w'))
    (hs0 : St N wh 1 (wh + 1) 1) (hwh : wh + 1 < 18446744073709551616) (hsz : Hid (∀ n a b c d, St n a b c d → b + d < 18446744073709551616))
    (kN : Hid (∀ n a b c d, St n a b c d → b + d ≤ most → ∃ m a' b' c' d' p s, m < n ∧ St m a' b' c' d' ∧ (∀ W, Calls Tryz.prog 88 #[.agg #[.int .u64 (a : Nat), .int .u64 (b : Nat)], .agg #[.int .u64 (c : Nat), .int .u64 (d : Nat)]] W fun r w' => r = .returned (.agg #[.int .u64 (p : Nat), .int .u64 (s : Nat)]) ∧ Bw W w') ∧
      ∀ W, Bw w W → Calls Tryz.prog 87 #[.agg #[.slice a1 n1 c1, .slice a2 n2 c2, .int .i64 q], .agg #[.int .u64 (a : Nat), .int .u64 (b : Nat)], .agg #[.int .u64 (c : Nat), .int .u64 (d : Nat)], .agg #[.int .u64 (p : Nat), .int .u64 (s : Nat)]] W fun r w' => r = .returned (.tuple #[.agg #[.int .u64 (a' : Nat), .int .u64 (b' : Nat)], .agg #[.int .u64 (c' : Nat), .int .u64 (d' : Nat)], .bool true]) ∧ Bw W w'))
    (kX : Hid (∀ n a b c d, St n a b c d → ¬ b + d ≤ most → ∃ (p s : Nat) (up : Bool), (∀ W, Calls Tryz.prog 90 #[.agg #[.int .u64 (a : Nat), .int .u64 (b : Nat)], .agg #[.int .u64 (c : Nat), .int .u64 (d : Nat)]] W fun r w' => r = .returned (.agg #[.int .u64 (p : Nat), .int .u64 (s : Nat)]) ∧ Bw W w') ∧
      (∀ W, Bw w W → Calls Tryz.prog 89 #[.agg #[.slice a1 n1 c1, .slice a2 n2 c2, .int .i64 q], .agg #[.int .u64 (p : Nat), .int .u64 (s : Nat)]] W fun r w' => r = .returned (.tuple #[.int .i64 (if up then 1 else -1), .bool true]) ∧ Bw W w') ∧ R1 = (if up then c else a) ∧ R2 = (if up then d else b)))
    (kW : Hid (∀ W X, Is W X wh → Calls Tryz.prog 86 #[X] W fun r w' => r = .returned (.int .u64 wh) ∧ Bw W w')) :
    Calls Tryz.prog 34 #[.agg #[.slice a1 n1 c1, .slice a2 n2 c2, .int .i64 q], .int .u64 most] w fun r w' => r = .returned (.tuple #[.agg #[.int .u64 R1, .int .u64 R2], .bool true]) ∧ Bw w w' := by
  have hPB : Hid (Bw w w) := Below.refl _ _
  have hl : Hid (∀ W W', Bw w W → Bw W W' → Bw w W') := fun W W' a b => a.trans (b.mono a.size)
  obtain ⟨V1, hV1⟩ : ∃ V, V = w.alloc (.cells #[.slice a1 n1 c1, .slice a2 n2 c2, .int .i64 q] 64) := ⟨_, rfl⟩
  obtain ⟨W, hW⟩ : ∃ V, V = V1.alloc (.cells #[.int .u64 0, .int .u64 0] 71) := ⟨_, rfl⟩
  have z1 : V1.heap.size = w.heap.size + 1 := by rw [hV1]; simp
  have b1 : Bw w V1 := by rw [hV1]; exact (Below.refl _ _).alloc (Nat.le_refl _) _
  have b2 : Bw V1 W := by rw [hW]; exact (Below.refl _ _).alloc (Nat.le_refl _) _
  have f2 : FcB W (w.heap.size + 1) 0 0 := by rw [hW, ← z1]; exact FcB.new _ _ _
  have g1 : BdB V1 w.heap.size a1 n1 c1 a2 n2 c2 q := by rw [hV1]; exact BdB.new _ _ _ _ _ _ _ _
  have bb := b1.trans (b2.mono b1.size)
  have HX : Hid (BdB W w.heap.size a1 n1 c1 a2 n2 c2 q ∧ FcB W (w.heap.size + 1) 0 0 ∧ Bw w W ∧ Bw w W) := ⟨g1.box b2, f2, bb, hl.out _ _ hPB.out bb⟩
  have HK : Hid (∀ w', Bw W w' → w'.cell? ⟨w.heap.size, 0, none⟩ = some (.slice a1 n1 c1) ∧ w'.cell? ⟨w.heap.size, 1, none⟩ = some (.slice a2 n2 c2) ∧ w'.cell? ⟨w.heap.size, 2, none⟩ = some (.int .i64 q)) := fun w' hb => (HX.out.1.box hb).facts.1
  have q1 : ∀ W', Bw W W' → Calls Tryz.prog 69 #[.int .u64 1] W' fun r w' => ∃ ao l cap, r = .returned (.slice ao l cap) ∧ Hid (Is w' (.slice ao l cap) 1) ∧ Bw W w' := fun W' h => (kO.out W').mono fun r w' ⟨ao, l, cap, e, hi, hb⟩ => ⟨ao, l, cap, e, hi, h.trans (hb.mono h.size)⟩
  have q2 : ∀ W' X, Bw W W' → Is W' X 1 → Calls Tryz.prog 27 #[.agg #[.slice a1 n1 c1, .slice a2 n2 c2, .int .i64 q], X] W' fun r w' => ∃ ao l cap, r = .returned (.tuple #[.slice ao l cap, .bool true]) ∧ Hid (Is w' (.slice ao l cap) wh) ∧ Bw W w' := fun W' X h hX => (kF.out W' X (hl.out _ _ HX.out.2.2.2 h) hX).mono fun r w' ⟨ao, l, cap, e, hi, hb⟩ => ⟨ao, l, cap, e, hi, h.trans (hb.mono h.size)⟩
  have hRr : Bw W W.drew := (Below.refl _ _).drew
  obtain ⟨k0, k1, k2⟩ := HK.out W (Below.refl _ _)
  rw [hV1] at hW
  clear z1 b1 b2 f2 g1 bb hV1
  go_enter Tryz.func34, Tryz.ntmps34
  go_upto_region 1 with fail
  rw [← hW]
  clear hW
  go_region_held3 (fun w' => w'.cell? ⟨w.heap.size, 0, none⟩ = some (.slice a1 n1 c1) ∧ w'.cell? ⟨w.heap.size, 1, none⟩ = some (.slice a2 n2 c2) ∧ w'.cell? ⟨w.heap.size, 2, none⟩ = some (.int .i64 q)) (first | (with_reducible assumption) | exact HK.out _ hRr | (refine HK.out _ ?_; with_reducible assumption))
    (first | (go_at_call 69; with_reducible refine (q1 _ hRr).mono ?_; rintro r w3 ⟨e1, l1, g1, rfl, E1, hb3⟩)
           | (go_at_call 27; with_reducible refine (q2 _ _ hb3 E1.out).mono ?_; rintro r w4 ⟨e2, l2, g2, rfl, E2, hb4⟩))
  have HY : Hid (BdB w4 w.heap.size a1 n1 c1 a2 n2 c2 q ∧ FcB w4 (w.heap.size + 1) 0 0 ∧ Bw w w4 ∧ Bw w w4) := ⟨HX.out.1.box hb4, HX.out.2.1.box hb4, HX.out.2.2.1.trans (hb4.mono HX.out.2.2.1.size), hl.out _ _ HX.out.2.2.2 hb4⟩
  have kk := kW.out w4 _ E2.out
  clear q1 q2 HK HX hRr k0 k1 k2 E1 E2 hb3 hb4 kO kF kW
  go_wp2_with fail
  refine kk.mono ?_
  rintro r w5 ⟨rfl, hb5⟩
  have HY5 : Hid (BdB w5 w.heap.size a1 n1 c1 a2 n2 c2 q ∧ FcB w5 (w.heap.size + 1) 0 0 ∧ Bw w w5 ∧ Bw w w5) := ⟨HY.out.1.box hb5, HY.out.2.1.box hb5, HY.out.2.2.1.trans (hb5.mono HY.out.2.2.1.size), hl.out _ _ HY.out.2.2.2 hb5⟩
  obtain ⟨V1, hV1⟩ : ∃ V, V = w5.alloc (.cells #[.int .u64 0, .int .u64 0] 71) := ⟨_, rfl⟩
  obtain ⟨V2, hV2⟩ : ∃ V, V = V1.alloc (.cells #[.int .u64 0, .int .u64 0] 71) := ⟨_, rfl⟩
  have z1 : V1.heap.size = w5.heap.size + 1 := by rw [hV1]; simp
  have b1 : Bw w5 V1 := by rw [hV1]; exact (Below.refl _ _).alloc (Nat.le_refl _) _
  have b2 : Bw V1 V2 := by rw [hV2]; exact (Below.refl _ _).alloc (Nat.le_refl _) _
  have f1 : FcB V1 w5.heap.size 0 0 := by rw [hV1]; exact FcB.new _ _ _
  have f2 : FcB V2 (w5.heap.size + 1) 0 0 := by rw [hV2, ← z1]; exact FcB.new _ _ _
  have f1' := f1.box b2
  have bb := b1.trans (b2.mono b1.size)
  have ww : IntKind.u64.wrap ((wh : Int) + 1) = ((wh + 1 : Nat) : Int) := by rw [IntKind.wrap_u64]; omega
  have hlt : w.heap.size + 1 < w5.heap.size := HY5.out.2.1.lt
  have HZ : Hid (BdB V2 w.heap.size a1 n1 c1 a2 n2 c2 q ∧ FcB V2 (w.heap.size + 1) 0 0 ∧ FcB V2 w5.heap.size 0 0 ∧ FcB V2 (w5.heap.size + 1) 0 0 ∧ Bw w V2 ∧ Bw w V2) := ⟨HY5.out.1.box bb, HY5.out.2.1.box bb, f1', f2, HY5.out.2.2.1.trans (bb.mono HY5.out.2.2.1.size), hl.out _ _ HY5.out.2.2.2 bb⟩
  obtain ⟨⟨x0, x1⟩, y0, y1⟩ := f1'.facts
  obtain ⟨⟨x2, x3⟩, y2, y3⟩ := f2.facts
  rw [hV1] at hV2
  clear kk hb5 HY HY5 hV1 z1 b1 b2 f1 f2 f1' bb
  go_upto_region 4 with (rw [← hV2]; clear hV2)
  obtain ⟨g9, hg9⟩ : ∃ g, g = w5.heap.size := ⟨_, rfl⟩
  obtain ⟨gT, hgT⟩ : ∃ g, g = w5.heap.size + 1 := ⟨_, rfl⟩
  obtain ⟨gb, hgb⟩ : ∃ g, g = w.heap.size := ⟨_, rfl⟩
  obtain ⟨gr, hgr⟩ : ∃ g, g = w.heap.size + 1 := ⟨_, rfl⟩
  obtain ⟨W6, hW6⟩ : ∃ V, V = (((V2.setCell ⟨w5.heap.size, 0, none⟩ (.int .u64 wh)).setCell ⟨w5.heap.size, 1, none⟩ (.int .u64 1)).setCell ⟨w5.heap.size + 1, 0, none⟩ (.int .u64 ((wh : Int) + 1))).setCell ⟨w5.heap.size + 1, 1, none⟩ (.int .u64 1) := ⟨_, rfl⟩
  have HL : Hid (gb < gr ∧ gr < g9 ∧ g9 < gT ∧ gb = w.heap.size) := ⟨by omega, by omega, by omega, hgb⟩
  rw [← hW6, ← hgT, ← hg9, ← hgr, ← hgb]
  have HS : Hid (BdB W6 gb a1 n1 c1 a2 n2 c2 q ∧ FcB W6 gr 0 0 ∧ FcB W6 g9 (wh : Nat) (1 : Nat) ∧ FcB W6 gT ((wh + 1 : Nat) : Int) (1 : Nat) ∧ Bw w W6) := by
    have hg := HL.out
    have e : (wh : Int) + 1 = ((wh + 1 : Nat) : Int) := by omega
    obtain ⟨h1, h2, h3, h4, h5, -⟩ := HZ.out
    rw [hW6, hgb, hgr, hg9, hgT, e]
    refine ⟨bdb_other2 (bdb_other2 h1 (by omega) _ _) (by omega) _ _, fcb_other (fcb_other h2 (by omega) _ _) (by omega) _ _, fcb_other (fcb_set h3 _ _) (by omega) _ _, fcb_set (fcb_other h4 (by omega) _ _) _ _, below_set (below_set h5 (by omega) _ _) (by omega) _ _⟩
  clear hW6 hg9 hgT hgb hgr HZ x0 x1 x2 x3 y0 y1 y2 y3 ww hlt hwh
  go_loopg [7] N (fun n v wr => ∃ a b c d : Nat, v = .bool true ∧ St n a b c d ∧ Hid (BdB wr gb a1 n1 c1 a2 n2 c2 q ∧ FcB wr gr 0 0 ∧ FcB wr g9 a b ∧ FcB wr gT c d ∧ Bw w wr))
  case atStart => exact ⟨_, _, _, _, rfl, hs0, HS⟩
  case round =>
    clear HS hs0
    obtain ⟨a, b, c, d, rfl, hst, HS⟩ := hrel
    have hbd := hsz.out _ _ _ _ _ hst
    have ww : IntKind.u64.wrap ((b : Int) + (d : Int)) = (b : Int) + (d : Int) := by rw [IntKind.wrap_u64]; omega
    obtain ⟨⟨y0, y1⟩, -⟩ := HS.out.2.2.1.facts
    obtain ⟨⟨y2, y3⟩, -⟩ := HS.out.2.2.2.1.facts
    by_cases hm : b + d ≤ most
    · have hm2 : (b : Int) + (d : Int) ≤ (most : Int) := by omega
      obtain ⟨m, a', b', c', d', p, s, hmn, hst', kB, kN1⟩ := kN.out _ _ _ _ _ hst hm
      have HM : Hid (m < gk) := hmn
      have HT : Hid (St m a' b' c' d') := hst'
      clear hmn hst' hm hbd hst kX kN hsz
      go_wp2_with fail
      clear ww hm2 y0 y1 y2 y3
      obtain ⟨s1, s2, s3, s4, s5⟩ := HS.out
      have hg := HL.out
      refine q_region follows_mixed [0, 1, 2, 3, 4, 5, 6, 7, 8, 9, 10, 13] [11, 12] [37, 38, 39, 40, 41, 42, 43, 36, 44, 45, 46, 7] [[], [], [], [], [], [3, 4], [0, 1, 2, 5], [6], [7], [7], [7], [10]] [[1, 3, 8], [2, 4, 9]] [8, 9] (fun k => if k = 0 then 9 else 10) (fun k => if k = 0 then g9 else gT) w.heap.size 71 (fun _ => True) 2 wr _ [isV (.agg #[.slice a1 n1 c1, .slice a2 n2 c2, .int .i64 q]), isV (.agg #[.int .u64 (a : Nat), .int .u64 (b : Nat)]), isV (.agg #[.int .u64 (c : Nat), .int .u64 (d : Nat)]), isV (.agg #[.int .u64 (a : Nat), .int .u64 (b : Nat)]), isV (.agg #[.int .u64 (c : Nat), .int .u64 (d : Nat)]), isV (.agg #[.int .u64 (p : Nat), .int .u64 (s : Nat)]), isV (.tuple #[.agg #[.int .u64 (a' : Nat), .int .u64 (b' : Nat)], .agg #[.int .u64 (c' : Nat), .int .u64 (d' : Nat)], .bool true]), isV (.tuple #[.agg #[.int .u64 (a' : Nat), .int .u64 (b' : Nat)], .agg #[.int .u64 (c' : Nat), .int .u64 (d' : Nat)], .bool true]), isV (.agg #[.int .u64 (a' : Nat), .int .u64 (b' : Nat)]), isV (.agg #[.int .u64 (c' : Nat), .int .u64 (d' : Nat)]), isV (.bool true), isV (.bool true)] (by kernel_rfl) ⟨isV_stays _, isV_stays _, isV_stays _, isV_stays _, isV_stays _, isV_stays _, isV_stays _, isV_stays _, isV_stays _, isV_stays _, isV_stays _, isV_stays _, trivial⟩ ⟨fun _ _ _ _ _ _ _ h => h, fun _ _ _ _ _ _ _ h => h, fun _ _ _ _ _ _ _ h => h, fun _ _ _ _ _ _ _ h => h, fun _ _ _ _ _ _ _ h => h, fun _ _ _ _ _ _ _ h => h, fun _ _ _ _ _ _ _ h => h, fun _ _ _ _ _ _ _ h => h, fun _ _ _ _ _ _ _ h => h, fun _ _ _ _ _ _ _ h => h, fun _ _ _ _ _ _ _ h => h, fun _ _ _ _ _ _ _ h => h, trivial⟩ (by show ∀ s ∈ [37, 38, 39, 40, 41, 42, 43, 36, 44, 45, 46, 7], s < 67; decide) ?_ ?_ fc_info ?_ ?_ ?_ ?_ s5.size ?_
      · intro i hi V u h
        rcases (show i = 0 ∨ i = 1 by have : i < 2 := hi; omega) with rfl | rfl
        · obtain rfl : u = _ := h
          exact ⟨_, rfl, rfl, trivial, by simp [Value.oneCell']⟩
        · obtain rfl : u = _ := h
          exact ⟨_, rfl, rfl, trivial, by simp [Value.oneCell']⟩
      · intro j hj o ho act V hK hoth hdep hrd
        have hj' : j < 12 := hj
        have hbU : Bw w V := s5.trans hK.below
        have t2' : act.tmps[(2 : Nat)]? = some (Value.pointer (some ⟨gb, 0, none⟩)) := (hoth 2 (by decide)).trans rfl
        have t9' : act.tmps[(9 : Nat)]? = some (Value.pointer (some ⟨g9, 0, none⟩)) := (hoth 9 (by decide)).trans rfl
        have t10' : act.tmps[(10 : Nat)]? = some (Value.pointer (some ⟨gT, 0, none⟩)) := (hoth 10 (by decide)).trans rfl
        rcases (by omega : j = 0 ∨ j = 1 ∨ j = 2 ∨ j = 3 ∨ j = 4 ∨ j = 5 ∨ j = 6 ∨ j = 7 ∨ j = 8 ∨ j = 9 ∨ j = 10 ∨ j = 11) with rfl | rfl | rfl | rfl | rfl | rfl | rfl | rfl | rfl | rfl | rfl | rfl
        · obtain rfl := Option.some.inj ho
          have hbx : BdB V gb a1 n1 c1 a2 n2 c2 q := (hK.keep gb s1.lt (fun k _ => by show gb ≠ if k = 0 then g9 else gT; split <;> omega)).trans s1
          obtain ⟨⟨e0, e1, e2⟩, -⟩ := hbx.facts
          exact .inl ⟨rfl, (owp_run1 (w' := V) (by simp [execOp, Act.eval, t2', e0, e1, e2, go_sem]) ⟨_, rfl, rfl, Below.refl _ _⟩)⟩
        · obtain rfl := Option.some.inj ho
          have hx : FcB V g9 a b := (hrd 0 (by decide) (by simp [dL])).trans s3
          obtain ⟨⟨e0, e1⟩, -⟩ := hx.facts
          exact .inl ⟨rfl, (owp_run1 (w' := V) (by simp [execOp, Act.eval, t9', e0, e1, go_sem]) ⟨_, rfl, rfl, Below.refl _ _⟩)⟩
        · obtain rfl := Option.some.inj ho
          have hx : FcB V gT c d := (hrd 1 (by decide) (by simp [dL])).trans s4
          obtain ⟨⟨e0, e1⟩, -⟩ := hx.facts
          exact .inl ⟨rfl, (owp_run1 (w' := V) (by simp [execOp, Act.eval, t10', e0, e1, go_sem]) ⟨_, rfl, rfl, Below.refl _ _⟩)⟩
        · obtain rfl := Option.some.inj ho
          have hx : FcB V g9 a b := (hrd 0 (by decide) (by simp [dL])).trans s3
          obtain ⟨⟨e0, e1⟩, -⟩ := hx.facts
          exact .inl ⟨rfl, (owp_run1 (w' := V) (by simp [execOp, Act.eval, t9', e0, e1, go_sem]) ⟨_, rfl, rfl, Below.refl _ _⟩)⟩
        · obtain rfl := Option.some.inj ho
          have hx : FcB V gT c d := (hrd 1 (by decide) (by simp [dL])).trans s4
          obtain ⟨⟨e0, e1⟩, -⟩ := hx.facts
          exact .inl ⟨rfl, (owp_run1 (w' := V) (by simp [execOp, Act.eval, t10', e0, e1, go_sem]) ⟨_, rfl, rfl, Below.refl _ _⟩)⟩
        · obtain rfl := Option.some.inj ho
          have y3 : act.tmps[(40 : Nat)]? = _ := dV (hdep 3 (by simp [dL])) rfl
          have y4 : act.tmps[(41 : Nat)]? = _ := dV (hdep 4 (by simp [dL])) rfl
          refine .inl ⟨rfl, owp_call rfl (enters Tryz.func88 (by kernel_rfl) (by kernel_rfl)) (vs := #[.agg #[.int .u64 (a : Nat), .int .u64 (b : Nat)], .agg #[.int .u64 (c : Nat), .int .u64 (d : Nat)]]) (by simp [eval_get y3, eval_get y4]) ?_⟩
          refine (kB V).mono ?_
          rintro r w' ⟨rfl, hb'⟩
          exact ⟨_, rfl, _, rfl, rfl, hb'⟩
        · obtain rfl := Option.some.inj ho
          have y0 : act.tmps[(37 : Nat)]? = _ := dV (hdep 0 (by simp [dL])) rfl
          have y1 : act.tmps[(38 : Nat)]? = _ := dV (hdep 1 (by simp [dL])) rfl
          have y2 : act.tmps[(39 : Nat)]? = _ := dV (hdep 2 (by simp [dL])) rfl
          have y5 : act.tmps[(42 : Nat)]? = _ := dV (hdep 5 (by simp [dL])) rfl
          refine .inl ⟨rfl, owp_call rfl (enters Tryz.func87 (by kernel_rfl) (by kernel_rfl)) (vs := #[.agg #[.slice a1 n1 c1, .slice a2 n2 c2, .int .i64 q], .agg #[.int .u64 (a : Nat), .int .u64 (b : Nat)], .agg #[.int .u64 (c : Nat), .int .u64 (d : Nat)], .agg #[.int .u64 (p : Nat), .int .u64 (s : Nat)]]) (by simp [eval_get y0, eval_get y1, eval_get y2, eval_get y5]) ?_⟩
          refine (kN1 V hbU).mono ?_
          rintro r w' ⟨rfl, hb'⟩
          exact ⟨_, rfl, _, rfl, rfl, hb'⟩
        · obtain rfl := Option.some.inj ho
          have y6 : act.tmps[(43 : Nat)]? = _ := dV (hdep 6 (by simp [dL])) rfl
          exact .inl ⟨rfl, owp_move rfl y6 ⟨_, rfl, rfl, Below.refl _ _⟩⟩
        · obtain rfl := Option.some.inj ho
          have y7 : act.tmps[(36 : Nat)]? = _ := dV (hdep 7 (by simp [dL])) rfl
          exact .inl ⟨rfl, (owp_run1 (w' := V) (by simp [execOp, Act.eval, y7, go_sem]) ⟨_, rfl, rfl, Below.refl _ _⟩)⟩
        · obtain rfl := Option.some.inj ho
          have y7 : act.tmps[(36 : Nat)]? = _ := dV (hdep 7 (by simp [dL])) rfl
          exact .inl ⟨rfl, (owp_run1 (w' := V) (by simp [execOp, Act.eval, y7, go_sem]) ⟨_, rfl, rfl, Below.refl _ _⟩)⟩
        · obtain rfl := Option.some.inj ho
          have y7 : act.tmps[(36 : Nat)]? = _ := dV (hdep 7 (by simp [dL])) rfl
          exact .inl ⟨rfl, (owp_run1 (w' := V) (by simp [execOp, Act.eval, y7, go_sem]) ⟨_, rfl, rfl, Below.refl _ _⟩)⟩
        · obtain rfl := Option.some.inj ho
          have y10 : act.tmps[(46 : Nat)]? = _ := dV (hdep 10 (by simp [dL])) rfl
          exact .inl ⟨rfl, owp_assign rfl y10 ⟨_, rfl, rfl, Below.refl _ _⟩⟩
      · intro k hk
        rcases (show k = 0 ∨ k = 1 by have : k < 2 := hk; omega) with rfl | rfl
        · exact ⟨_, rfl, rfl⟩
        · exact ⟨_, rfl, rfl⟩
      · intro k hk
        rcases (show k = 0 ∨ k = 1 by have : k < 2 := hk; omega) with rfl | rfl
        · exact ⟨rfl, by decide⟩
        · exact ⟨rfl, by decide⟩
      · intro k hk
        rcases (show k = 0 ∨ k = 1 by have : k < 2 := hk; omega) with rfl | rfl
        · exact ⟨by show w.heap.size ≤ g9; omega, _, s3, rfl, trivial⟩
        · exact ⟨by show w.heap.size ≤ gT; omega, _, s4, rfl, trivial⟩
      · intro k k' h h' he
        have e : (if k = 0 then g9 else gT) = (if k' = 0 then g9 else gT) := he
        have h1 : k < 2 := h
        have h2 : k' < 2 := h'
        split at e <;> split at e <;> omega
      · intro u V hK hu hcs
        obtain ⟨cs, y0, z0⟩ := hcs 0 (by decide)
        obtain ⟨cs', y1, z1⟩ := hcs 1 (by decide)
        have u8 : u 8 = .agg #[.int .u64 (a' : Nat), .int .u64 (b' : Nat)] := hu 8 (by decide)
        have u9 : u 9 = .agg #[.int .u64 (c' : Nat), .int .u64 (d' : Nat)] := hu 9 (by decide)
        have u11 : u 11 = .bool true := hu 11 (by decide)
        have y0' : u 8 = .agg cs := y0
        have y1' : u 9 = .agg cs' := y1
        rw [u8] at y0'
        rw [u9] at y1'
        obtain rfl := Value.agg.inj y0'
        obtain rfl := Value.agg.inj y1'
        have kp : ∀ g, g ≠ g9 → g ≠ gT → g < wr.heap.size → V.heap[g]? = wr.heap[g]? := fun g hg1 hg2 hl => hK.keep g hl (fun k _ => by show g ≠ if k = 0 then g9 else gT; split <;> assumption)
        have HS' : Hid (BdB V gb a1 n1 c1 a2 n2 c2 q ∧ FcB V gr 0 0 ∧ FcB V g9 a' b' ∧ FcB V gT c' d' ∧ Bw w V) := ⟨(kp gb (by omega) (by omega) s1.lt).trans s1, (kp gr (by omega) (by omega) s2.lt).trans s2, z0, z1, s5.trans hK.below⟩
        clear hcs hK y0 y1 y0' y1' z0 z1 hu kp s1 s2 s3 s4 s5 hg HS kB kN1 u8 u9
        simp only [putL, show List.range 12 = [0, 1, 2, 3, 4, 5, 6, 7, 8, 9, 10, 11] from rfl, List.length_cons, List.length_nil, List.getD_cons_zero, List.getD_cons_succ, List.map_cons, List.map_nil, List.cons_append, List.nil_append, List.foldl_cons, List.foldl_nil, Nat.reduceLT, Nat.reduceMod, Nat.reduceDiv, Nat.reduceMul, Nat.reduceAdd, Nat.reduceEqDiff, reduceIte, Nat.one_ne_zero, Act.put, List.setIfInBounds_toArray, List.set_cons_zero, List.set_cons_succ]
        rw [u11]
        clear u11
        go_wp2_with fail
        go_roundg m
        case measure => exact HM.out
        case rel => exact ⟨a', b', c', d', rfl, HT.out, HS'⟩
    · have hm2 : (most : Int) < (b : Int) + (d : Int) := by omega
      obtain ⟨p, s, up, kM, kA, hR1, hR2⟩ := kX.out _ _ _ _ _ hst hm
      have HR : Hid (R1 = (if up then c else a) ∧ R2 = (if up then d else b)) := ⟨hR1, hR2⟩
      clear hR1 hR2 hm hbd hst kX kN hsz
      go_wp2_with fail
      clear ww hm2 y0 y1 y2 y3
      have HK : Hid (∀ w', Bw wr w' → w'.cell? ⟨gb, 0, none⟩ = some (.slice a1 n1 c1) ∧ w'.cell? ⟨gb, 1, none⟩ = some (.slice a2 n2 c2) ∧ w'.cell? ⟨gb, 2, none⟩ = some (.int .i64 q) ∧ w'.cell? ⟨g9, 0, none⟩ = some (.int .u64 a) ∧ w'.cell? ⟨g9, 1, none⟩ = some (.int .u64 b) ∧ w'.cell? ⟨gT, 0, none⟩ = some (.int .u64 c) ∧ w'.cell? ⟨gT, 1, none⟩ = some (.int .u64 d)) := fun w' hb => by
        obtain ⟨⟨e0, e1, e2⟩, -⟩ := (HS.out.1.box hb).facts
        obtain ⟨⟨e3, e4⟩, -⟩ := (HS.out.2.2.1.box hb).facts
        obtain ⟨⟨e5, e6⟩, -⟩ := (HS.out.2.2.2.1.box hb).facts
        exact ⟨e0, e1, e2, e3, e4, e5, e6⟩
      obtain ⟨sv, hsv⟩ : ∃ sv : Int, sv = if up then 1 else -1 := ⟨_, rfl⟩
      rw [← hsv] at kA
      have HSV : Hid (sv = if up then 1 else -1) := hsv
      clear hsv
      have q1 : ∀ W', Bw wr W' → Calls Tryz.prog 90 #[.agg #[.int .u64 (a : Nat), .int .u64 (b : Nat)], .agg #[.int .u64 (c : Nat), .int .u64 (d : Nat)]] W' fun r w' => r = .returned (.agg #[.int .u64 (p : Nat), .int .u64 (s : Nat)]) ∧ Bw wr w' := fun W' h => (kM W').mono fun r w' ⟨e, hb⟩ => ⟨e, h.trans (hb.mono h.size)⟩
      have q2 : ∀ W', Bw wr W' → Calls Tryz.prog 89 #[.agg #[.slice a1 n1 c1, .slice a2 n2 c2, .int .i64 q], .agg #[.int .u64 (p : Nat), .int .u64 (s : Nat)]] W' fun r w' => r = .returned (.tuple #[.int .i64 sv, .bool true]) ∧ Bw wr w' := fun W' h => (kA W' (HS.out.2.2.2.2.trans (h.mono HS.out.2.2.2.2.size))).mono fun r w' ⟨e, hb⟩ => ⟨e, h.trans (hb.mono h.size)⟩
      have hRr : Bw wr wr.drew := (Below.refl _ _).drew
      obtain ⟨y0, y1, y2, y3, y4, y5, y6⟩ := HK.out wr (Below.refl _ _)
      clear kM kA
      go_region_held3 (fun w' => w'.cell? ⟨gb, 0, none⟩ = some (.slice a1 n1 c1) ∧ w'.cell? ⟨gb, 1, none⟩ = some (.slice a2 n2 c2) ∧ w'.cell? ⟨gb, 2, none⟩ = some (.int .i64 q) ∧ w'.cell? ⟨g9, 0, none⟩ = some (.int .u64 a) ∧ w'.cell? ⟨g9, 1, none⟩ = some (.int .u64 b) ∧ w'.cell? ⟨gT, 0, none⟩ = some (.int .u64 c) ∧ w'.cell? ⟨gT, 1, none⟩ = some (.int .u64 d)) (first | (with_reducible assumption) | exact HK.out _ hRr | (refine HK.out _ ?_; with_reducible assumption))
        (first | (go_at_call 90; with_reducible refine (q1 _ hRr).mono ?_; rintro r w8 ⟨rfl, hb8⟩)
               | (go_at_call 89; with_reducible refine (q2 _ hb8).mono ?_; rintro r w9 ⟨rfl, hb9⟩))
      have HY : Hid (FcB w9 gr 0 0 ∧ FcB w9 g9 a b ∧ FcB w9 gT c d ∧ Bw w w9) := ⟨HS.out.2.1.box hb9, HS.out.2.2.1.box hb9, HS.out.2.2.2.1.box hb9, HS.out.2.2.2.2.trans (hb9.mono HS.out.2.2.2.2.size)⟩
      clear HS HK q1 q2 hRr y0 y1 y2 y3 y4 y5 y6 hb8 hb9
      obtain ⟨⟨y0, y1⟩, y2, y3⟩ := HY.out.1.facts
      obtain ⟨⟨x0, x1⟩, -⟩ := HY.out.2.1.facts
      obtain ⟨⟨x2, x3⟩, -⟩ := HY.out.2.2.1.facts
      have hgr : w.heap.size ≤ gr := by have := HL.out; omega
      have hsv := HSV.out
      clear HSV
      cases up
      · obtain ⟨rfl, rfl⟩ := HR.out
        have hsv' : sv = -1 := hsv
        subst hsv'
        clear hsv
        go_wp2_with fail
        refine bodyPost_ret (results_ctK rfl _ _ gr 71 #[.int .u64 R1, .int .u64 R2] (0, 0) _ rfl (fcb_set HY.out.1 _ _) Tryz.underlying71 rfl fc_info) rfl ?_
        exact ⟨rfl, below_set HY.out.2.2.2 hgr _ _⟩
      · obtain ⟨rfl, rfl⟩ := HR.out
        have hsv' : sv = 1 := hsv
        subst hsv'
        clear hsv
        go_wp2_with fail
        refine bodyPost_ret (results_ctK rfl _ _ gr 71 #[.int .u64 R1, .int .u64 R2] (0, 0) _ rfl (fcb_set HY.out.1 _ _) Tryz.underlying71 rfl fc_info) rfl ?_
        exact ⟨rfl, below_set HY.out.2.2.2 hgr _ _⟩
theorem bbest {k most lo hi:Nat} {A:Value} {w:World} (h1:1≤k) (h8:k≤8) (hm:most≤1073741824) (hB:Brk Z0 128 lo hi (kM k) (kG k)) (hA:Bd2 w A lo hi ((128+kq k:Nat):Int)) (hx:dlen lo≤1000000) (hy:dlen hi≤1000000) :
  Calls Tryz.prog 34 #[A,.int .u64 most] w fun r w'=>r=.returned (.tuple #[.agg #[.int .u64 (endK k most 400 (whK k) 1 (whK k+1) 1).1,.int .u64 (endK k most 400 (whK k) 1 (whK k+1) 1).2],.bool true])∧Bw w w':=by
 have hq:kq k≤1:=(tk_num h1 h8).2.2.2.2.1
 have hw:=way_of (n:=399) (way_k h1 h8)
 have hAl:=hA
 obtain⟨a1,n1,c1,a2,n2,c2,rfl,i1,i2⟩:=hA
 obtain⟨R,hR⟩:∃ R,R=endK k most 400 (whK k) 1 (whK k+1) 1:=⟨_,rfl⟩
 rw[←hR]
 refine bbest_1 (wh:=whK k) (N:=400) (fun n a b c d=>wayK k n a b c d=true∧endK k most n a b c d=R) ?_ ?_ ⟨way_k h1 h8,hR.symm⟩ (by have:=hw.c1;omega) ?_ ?_ ?_ ?_
 ·intro W
  exact(c57 1 W (by decide)).mono fun r w' ⟨v,e1,e2,e3⟩=>by
   obtain⟨ao,l,cap,rfl⟩:=e2.is.shape
   exact⟨ao,l,cap,e1,e2.is,e3⟩
 ·intro W X hb hX
  exact bfloor1 h1 h8 hB (hAl.later hb) hX hx hy
 ·rintro(_|n) a b c d ⟨h,-⟩
  ·cases h
  ·have hv:=way_of h
   have:=hv.b1
   have:=hv.d1
   omega
 ·rintro(_|n) a b c d ⟨h,he⟩ hle
  ·cases h
  ·have hv:=way_of h
   obtain⟨v1,v2,v3,v4,v5,v6,-,-,-,-,-,-,vn⟩:=hv
   rcases vn with vn|⟨vs,vu,vd⟩
   ·omega
   ·have hag:=setl_ag h1 h8 hB vs
    have hkB:∀ W,Calls Tryz.prog 88 #[.agg #[.int .u64 (a:Nat),.int .u64 (b:Nat)],.agg #[.int .u64 (c:Nat),.int .u64 (d:Nat)]] W fun r w'=>r=.returned (.agg #[.int .u64 ((a+c:Nat):Int),.int .u64 ((b+d:Nat):Int)])∧Bw W w':=fun W=>bbetween (by omega) (by omega)
    have hkN:=fun(W:World) (hb:Bw w W)=>bnarrowed (a:=a) (b:=b) (c:=c) (d:=d) (hAl.later hb) hx hy (by omega) (show a+c<18446744073709551616 by omega) (show b+d<18446744073709551616 by omega) hag
    have he':(bif upK k (a+c) (b+d)then endK k most n (a+c) (b+d) c d else endK k most n a b (a+c) (b+d))=R:=by
     rw[←he]
     show _=bif Nat.ble (b+d) most then _ else _
     rw[Nat.ble_eq_true_of_le hle]
     rfl
    generalize upK k (a+c) (b+d)=up at *
    cases up
    ·exact⟨n,a,b,a+c,b+d,a+c,b+d,by omega,⟨vd rfl,he'⟩,hkB,hkN⟩
    ·exact⟨n,a+c,b+d,c,d,a+c,b+d,by omega,⟨vu rfl,he'⟩,hkB,hkN⟩
 ·rintro(_|n) a b c d ⟨h,he⟩ hle
  ·cases h
  ·have hv:=way_of h
   obtain⟨v1,v2,v3,v4,v5,v6,-,-,-,-,-,vm,-⟩:=hv
   have hag:=setl_ag h1 h8 hB vm
   have m1:a*d≤7516192768*1073741824:=Nat.mul_le_mul v3 v2
   have m2:c*b≤7516192768*1073741824:=Nat.mul_le_mul v4 v1
   have m3:2*b*d≤2147483648*1073741824:=Nat.mul_le_mul (by omega) v2
   refine⟨a*d+c*b,2*b*d,upK k (a*d+c*b) (2*b*d),fun W=>bmiddle (by omega) (by omega) (by omega),fun W hb=>bagainst (hAl.later hb) hx hy (by omega) (by omega) (by omega) hag,?_⟩
   have he':(bif upK k (a*d+c*b) (2*b*d) then(c,d) else(a,b))=R:=by
    rw[←he]
    show _=bif Nat.ble (b+d) most then _ else _
    rw[show Nat.ble (b+d) most=false by rw[Bool.eq_false_iff];intro hh;exact hle (Nat.le_of_ble_eq_true hh)]
    rfl
   rw[←he']
   cases upK k (a*d+c*b) (2*b*d)
   ·exact⟨rfl,rfl⟩
   ·exact⟨rfl,rfl⟩
 ·intro W X hX
  have hd:dlen (whK k)≤2:=(dlen_le 2 _).2 (Nat.lt_of_le_of_lt (Nat.le_trans (Nat.le_succ _) hw.c1) (by decide))
  refine(cword X (whK k) _ W hX rfl hd).mono ?_
  rintro r w' ⟨e,rfl⟩
  exact⟨e,Below.refl _ _⟩
theorem endK_le {k most:Nat} (hm:most≤1073741824):∀ (n a b c d:Nat),wayK k n a b c d=true→(endK k most n a b c d).1≤7516192768∧(endK k most n a b c d).2≤1073741824∧1≤(endK k most n a b c d).2
 | 0,_,_,_,_,h=>by cases h
 | n+1,a,b,c,d,h=>by
  have hv:=way_of h
  unfold endK
  cases hb:Nat.ble (b+d) most
  ·cases upK k (a*d+c*b) (2*b*d)
   ·exact⟨hv.a1,hv.b1,hv.b0⟩
   ·exact⟨hv.c1,hv.d1,hv.d0⟩
  ·have hle:=Nat.le_of_ble_eq_true hb
   rcases hv.nx with vn|⟨vs,vu,vd⟩
   ·omega
   ·cases hu:upK k (a+c) (b+d)
    ·exact endK_le hm n _ _ _ _ (vd hu)
    ·exact endK_le hm n _ _ _ _ (vu hu)
theorem best_bad {k n:Int} {w:World} (h:¬ (1≤k∧k≤8)∨n<1∨1073741824<n):Calls Tryz.prog 15 #[.int .i64 k,.int .i64 n] w fun r w'=>r=.returned (.tuple #[.int .i64 0,.int .i64 0,.int .i64 1])∧Bw w w':=by
 have kk:=isK (k:=k) (w:=w)
 by_cases hk:1≤k∧k≤8
 ·rw[decide_eq_true hk] at kk
  by_cases hn:n<1
  ·go_enter Tryz.func15,Tryz.ntmps15
   go_wp2_with (go_at_call 20;refine kk.mono ?_;rintro r w1 ⟨rfl,rfl⟩)
   refine bodyPost_ret (results_tmp3 rfl _ _ _) rfl ?_
   exact⟨rfl,Below.refl _ _⟩
  ·have hn2:1073741824<n:=by omega
   go_enter Tryz.func15,Tryz.ntmps15
   go_wp2_with (go_at_call 20;refine kk.mono ?_;rintro r w1 ⟨rfl,rfl⟩)
   refine bodyPost_ret (results_tmp3 rfl _ _ _) rfl ?_
   exact⟨rfl,Below.refl _ _⟩
 ·rw[decide_eq_false hk] at kk
  go_enter Tryz.func15,Tryz.ntmps15
  go_wp2_with (go_at_call 20;refine kk.mono ?_;rintro r w1 ⟨rfl,rfl⟩)
  refine bodyPost_ret (results_tmp3 rfl _ _ _) rfl ?_
  exact⟨rfl,Below.refl _ _⟩
theorem best_ok {k n:Nat} {w:World} (h1:1≤k) (h8:k≤8) (hn1:1≤n) (hn2:n≤1073741824):Calls Tryz.prog 15 #[.int .i64 k,.int .i64 n] w fun r w'=>r=.returned (.tuple #[.int .i64 (endK k n 400 (whK k) 1 (whK k+1) 1).1,.int .i64 (endK k n 400 (whK k) 1 (whK k+1) 1).2,.int .i64 0])∧Bw w w':=by
 have k1:=isK (k:=k) (w:=w)
 rw[decide_eq_true (⟨by omega,by omega⟩:1≤(k:Int)∧(k:Int)≤8)] at k1
 have HK:Hid (1≤k∧k≤8∧n≤1073741824):=⟨h1,h8,hn2⟩
 have hE:=endK_le hn2 400 _ _ _ _ (way_k h1 h8)
 obtain⟨R,hR⟩:∃ R,R=endK k n 400 (whK k) 1 (whK k+1) 1:=⟨_,rfl⟩
 have HR:Hid (R=endK k n 400 (whK k) 1 (whK k+1) 1):=hR
 rw[←hR] at hE ⊢
 obtain⟨p,q⟩:=R
 obtain⟨e1,e2,e3⟩:p≤7516192768∧q≤1073741824∧1≤q:=hE
 have hm1:¬ (n:Int)<1:=by omega
 have hm2:¬ 1073741824<(n:Int):=by omega
 have c1:IntKind.u64.wrap (n:Int)=(n:Int):=by rw[IntKind.wrap_u64];omega
 have c2:IntKind.i64.wrap (p:Int)=(p:Int):=by rw[IntKind.wrap_i64];omega
 have c3:IntKind.i64.wrap (q:Int)=(q:Int):=by rw[IntKind.wrap_i64];omega
 clear h1 h8 hR hn1 hn2 e1 e2 e3
 go_enter Tryz.func15,Tryz.ntmps15
 go_wp2_with (go_at_call 20;refine k1.mono ?_;rintro r wz ⟨rfl,hwz⟩;have hwz:=hwz.symm;subst hwz)
 clear k1 hm1 hm2
 go_loopw [7] (fun sp wr=>sp=.int .i64 128∧wr=w) (fun _ _=>0)
 case atStart=>exact⟨rfl,rfl⟩
 case round =>
  obtain⟨rfl,rfl⟩:=hrel
  have k3:=near_k (w:=wr) HK.out.1 HK.out.2.1 (show 128≤128 by decide) (by decide)
  go_wp2_with fail
  refine k3.mono ?_
  rintro r w2 ⟨lo,hi,hB,b1,m1,d1,b2,m2,d2,rfl,i1,i2,hb2⟩
  have hdl:=hB.dl (K:=135) (Nat.le_of_ble_eq_true (allD_k HK.out.1 HK.out.2.1).2.2.1) (Nat.le_of_ble_eq_true (allD_k HK.out.1 HK.out.2.1).2.2.2) (by decide)
  have k4:=bbest (w:=w2) (most:=n) HK.out.1 HK.out.2.1 HK.out.2.2 hB ⟨b1,m1,d1,b2,m2,d2,rfl,i1,i2⟩ (by omega) (by omega)
  rw[←HR.out] at k4
  have HB2:Hid (Bw wr w2):=hb2
  clear k3 hB i1 i2 hb2 hdl
  go_wp2_with fail
  refine k4.mono ?_
  rintro r w3 ⟨rfl,hb3⟩
  clear k4
  obtain⟨V,hV⟩:∃ V,V=w3.alloc (.cells #[.int .u64 0,.int .u64 0] 71):=⟨_,rfl⟩
  have f2:FcB V w3.heap.size 0 0:=by rw[hV];exact FcB.new _ _ _
  have bV:Bw w3 V:=by rw[hV];exact(Below.refl _ _).alloc (Nat.le_refl _) _
  have HZ:Hid (Bw wr V):=(HB2.out.trans (hb3.mono HB2.out.size)).trans (bV.mono (HB2.out.trans (hb3.mono HB2.out.size)).size)
  have HF:Hid (FcB V w3.heap.size 0 0∧wr.heap.size≤w3.heap.size):=⟨f2,(HB2.out.trans (hb3.mono HB2.out.size)).size⟩
  obtain⟨⟨y0,y1⟩,y2,y3⟩:=f2.facts
  clear f2 bV hb3 HB2
  go_upto_region 7 with (rw[←hV];clear hV)
  obtain⟨g9,hg9⟩:∃ g,g=w3.heap.size:=⟨_,rfl⟩
  obtain⟨W6,hW6⟩:∃ V',V'=(V.setCell ⟨w3.heap.size,0,none⟩ (.int .u64 p)).setCell ⟨w3.heap.size,1,none⟩ (.int .u64 q):=⟨_,rfl⟩
  have HS:Hid (FcB W6 g9 p q∧Bw wr W6):=by
   rw[hW6,hg9]
   exact⟨fcb_set HF.out.1 _ _,below_set HZ.out HF.out.2 _ _⟩
  rw[←hW6,←hg9]
  clear hW6 hg9 HZ HF y0 y1 y2 y3
  obtain⟨⟨y0,y1⟩,-⟩:=HS.out.1.facts
  go_quiet (fail)
  go_wp2_with fail
  refine bodyPost_ret (results_tmp3 rfl _ _ _) rfl ?_
  exact⟨rfl,HS.out.2.trans ((below_drewN _ _).mono HS.out.2.size)⟩
end Go.Proofs.YtapooodfgcjoaaaGreat
namespace Go.Proofs.YtapooodfgcjoaaaGreat
open Go Go.RowKit Go.Fl64
theorem dbest_bad {k n:Int} {w:World} (h:¬ (1≤k∧k≤8)∨n<1∨1073741824<n):Calls Tryz.prog 16 #[.int .i64 k,.int .i64 n] w fun r w'=>r=.returned (.tuple #[.int .i64 0,.int .i64 0,.int .i64 1])∧Bw w w':=by
 by_cases h1:k<1
 ·go_enter Tryz.func16,Tryz.ntmps16
  go_wp2_with fail
  refine bodyPost_ret (results_tmp3 rfl _ _ _) rfl ?_
  exact⟨rfl,Below.refl _ _⟩
 ·by_cases h2:8<k
  ·go_enter Tryz.func16,Tryz.ntmps16
   go_wp2_with fail
   refine bodyPost_ret (results_tmp3 rfl _ _ _) rfl ?_
   exact⟨rfl,Below.refl _ _⟩
  ·by_cases h3:n<1
   ·go_enter Tryz.func16,Tryz.ntmps16
    go_wp2_with fail
    refine bodyPost_ret (results_tmp3 rfl _ _ _) rfl ?_
    exact⟨rfl,Below.refl _ _⟩
   ·have h4:1073741824<n:=by omega
    go_enter Tryz.func16,Tryz.ntmps16
    go_wp2_with fail
    refine bodyPost_ret (results_tmp3 rfl _ _ _) rfl ?_
    exact⟨rfl,Below.refl _ _⟩
theorem best_any (k n:Int):∃ p q e:Int,(∀ w,Calls Tryz.prog 15 #[.int .i64 k,.int .i64 n] w fun r w'=>r=.returned (.tuple #[.int .i64 p,.int .i64 q,.int .i64 e])∧Bw w w')∧∀ w,Calls Tryz.prog 16 #[.int .i64 k,.int .i64 n] w fun r w'=>r=.returned (.tuple #[.int .i64 p,.int .i64 q,.int .i64 e])∧Bw w w':=by
 by_cases h:¬ (1≤k∧k≤8)∨n<1∨1073741824<n
 ·exact⟨_,_,_,fun w=>best_bad h,fun w=>dbest_bad h⟩
 ·obtain⟨k',rfl⟩:∃ k':Nat,k=k':=⟨k.toNat,by omega⟩
  obtain⟨n',rfl⟩:∃ n':Nat,n=n':=⟨n.toNat,by omega⟩
  exact⟨_,_,_,fun w=>best_ok (by omega) (by omega) (by omega) (by omega),fun w=>dbest_ok (by omega) (by omega) (by omega) (by omega)⟩
theorem best_pi (w:World):Calls Tryz.prog 15 #[.int .i64 1,.int .i64 10] w fun r w'=>r=.returned (.tuple #[.int .i64 22,.int .i64 7,.int .i64 0])∧Bw w w':=by
 have h:=best_ok (k:=1) (n:=10) (w:=w) (by decide) (by decide) (by decide) (by decide)
 rw[endK_pi] at h
 exact h
theorem constsBest_ok (k n:Int) (w:World):Calls Tryz.prog 5 #[.int .i64 k,.int .i64 n] w fun r w'=>r=.returned (.bool true)∧Bw w w':=by
 obtain⟨p,q,e,k1,k2⟩:=best_any k n
 go_enter Tryz.func5,Tryz.ntmps5
 go_wp2_with fail
 refine(k1 _).mono ?_
 rintro r w1 ⟨rfl,hb1⟩
 go_wp2_with fail
 refine(k2 _).mono ?_
 rintro r w2 ⟨rfl,hb2⟩
 have H2:Hid (Bw w w2):=hb1.trans (hb2.mono hb1.size)
 clear hb1 hb2 k1 k2
 go_wp2_with fail
 refine(best_pi _).mono ?_
 rintro r w3 ⟨rfl,hb3⟩
 have H3:Hid (Bw w w3):=H2.out.trans (hb3.mono H2.out.size)
 clear hb3 H2
 go_wp2_with (go_at_call 12;refine bsure.mono ?_;rintro r w4 ⟨rfl,hb4⟩)
 go_ret
 exact⟨rfl,H3.out.trans (hb4.mono H3.out.size)⟩
end Go.Proofs.YtapooodfgcjoaaaGreat
