/- Own work: contracts of the program's functions, part 9: CP2 CP3. -/
import Derived.Test.YtolefllepcdagaaGreatA8

set_option maxHeartbeats 16000000
set_option maxRecDepth 200000
set_option linter.unusedVariables false
set_option linter.unusedSimpArgs false
namespace Go.Proofs.YtolefllepcdagaaGreat
open Go.RowKit Go.Fl64
attribute [local go_sem] run_store_fltK
theorem same_c (F:Nat) (w:World):Calls Tryz.prog 46 #[.float .f64 F,.float .f64 F] w fun r w'=>r=.returned (.bool true)∧w'=w:=by
 have k1:=fun W=>bits_c F W
 go_enter Tryz.func46,Tryz.ntmps46
 go_wp2_with (go_at_call 18;refine(k1 _).mono ?_;rintro r wz ⟨rfl,hwz⟩;rw[hwz];clear hwz wz)
 go_ret
 exact⟨rfl,rfl⟩
theorem lsame_c (F:Nat) (w:World):Calls Tryz.prog 29 #[.float .f64 F,.float .f64 F] w fun r w'=>r=.returned (.bool true)∧w'=w:=by
 have k1:=fun W=>same_c F W
 go_enter Tryz.func29,Tryz.ntmps29
 go_wp2_with (go_at_call 46;refine(k1 _).mono ?_;rintro r wz ⟨rfl,hwz⟩;rw[hwz];clear hwz wz)
 go_ret
 exact⟨rfl,rfl⟩
theorem span_c (w:World):Calls Tryz.prog 12 #[.agg #[.float .f64 0,.float .f64 0],.agg #[.float .f64 0,.float .f64 0]] w fun r w'=>r=.returned (.bool true)∧Bw w w':=by
 obtain⟨W,hW⟩:∃ W,W=(w.alloc (.cells #[.float .f64 0,.float .f64 0] 24)).alloc (.cells #[.float .f64 0,.float .f64 0] 24):=⟨_,rfl⟩
 have hb:Bw w W:=by rw[hW];exact((Below.refl _ _).alloc (Nat.le_refl _) _).alloc (by simp) _
 have h0:IvK W w.heap.size 0 0:=by
  rw[hW]
  exact(IvK.new w 0 0).box ((Below.refl _ _).alloc (Nat.le_refl _) _)
 have h1:IvK W (w.heap.size+1) 0 0:=by
  rw[hW]
  have:=IvK.new (w.alloc (.cells #[.float .f64 0,.float .f64 0] 24)) 0 0
  simpa using this
 obtain⟨⟨y0,y1⟩,y2,y3⟩:=h0.facts
 obtain⟨⟨z0,z1⟩,z2,z3⟩:=h1.facts
 have HB:Hid (Bw w W):=hb
 clear hb h0 h1
 have k1:=fun W=>lsame_c 0 W
 go_enter Tryz.func12,Tryz.ntmps12
 go_upto_region 1 with fail
 rw[←hW]
 clear hW
 go_wp2_with (go_at_call 29;refine(k1 _).mono ?_;rintro r wz ⟨rfl,hwz⟩;rw[hwz];clear hwz wz)
 go_ret
 exact⟨rfl,HB.out⟩
theorem hold_1 (n m:Int) (a b c d nc nd:Nat) (w:World) (hw:IntKind.i64.wrap (-n)=m)
  (kA:∀ W,Calls Tryz.prog 11 #[.int .i64 n] W fun r w'=>r=.returned (.tuple #[.agg #[.float .f64 a,.float .f64 b],.int .i64 0])∧Bw W w')
  (kB:∀ W,Calls Tryz.prog 11 #[.int .i64 m] W fun r w'=>r=.returned (.tuple #[.agg #[.float .f64 c,.float .f64 d],.int .i64 0])∧Bw W w')
  (hcase:((n==m)=true∧((n==0)=false∨(n==0)=true∧a=0∧b=0))∨((n==m)=false∧(∀ W,(Op.unary UnOp.neg (Value.float .f64 c)).run Tryz.prog W=.ok (.float .f64 nc) W)∧(∀ W,(Op.unary UnOp.neg (Value.float .f64 d)).run Tryz.prog W=.ok (.float .f64 nd) W)∧(FloatKind.f64.format.order a nd==some Ordering.eq)=true∧(FloatKind.f64.format.order b nc==some Ordering.eq)=true∧(FloatKind.f64.format.order b b==some Ordering.eq)=true∧∀ W,Calls Tryz.prog 7 #[.float .f64 a] W fun r w'=>r=.returned (.float .f64 b)∧w'=W)) :
  Calls Tryz.prog 3 #[.int .i64 n] w fun r w'=>r=.returned (.bool true)∧Bw w w':=by
 have HA:Hid _:=kA
 have HC:Hid _:=kB
 have HCASE:Hid _:=hcase
 have HWR:Hid (IntKind.i64.wrap (-n)=m):=hw
 clear kA kB hcase hw
 go_enter Tryz.func3,Tryz.ntmps3
 go_wp2_with fail
 refine(tight_7 (w:=w)).mono ?_
 rintro r w2 ⟨rfl,hb2⟩
 have H2:Hid (Bw w w2):=hb2
 clear hb2
 obtain⟨W3,hW3⟩:∃ W3,W3=w2.alloc (.cells #[.float .f64 0,.float .f64 0] 24):=⟨_,rfl⟩
 have HV3:Hid (IvK W3 w2.heap.size 0 0∧Bw w W3):=(by rw[hW3];exact⟨IvK.new _ _ _,H2.out.alloc H2.out.size _⟩:IvK W3 w2.heap.size 0 0∧Bw w W3)
 obtain⟨⟨y0,y1⟩,y2,y3⟩:=HV3.out.1.facts
 go_upto_region 2 with (rw[←hW3];clear hW3)
 obtain⟨W4,hW4⟩:∃ W4,W4=(W3.setCell ⟨w2.heap.size,0,none⟩ (.float .f64 4609047870845172684)).setCell ⟨w2.heap.size,1,none⟩ (.float .f64 4609047870845172685):=⟨_,rfl⟩
 have HV4:Hid (IvK W4 w2.heap.size 4609047870845172684 4609047870845172685∧Bw w W4):=(by rw[hW4];exact⟨HV3.out.1.set _ _,below_set HV3.out.2 H2.out.size _ _⟩:IvK W4 w2.heap.size 4609047870845172684 4609047870845172685∧Bw w W4)
 rw[←hW4]
 clear hW4 HV3 y0 y1 y2 y3
 have HS:Hid (w.heap.size≤w2.heap.size):=H2.out.size
 clear H2
 go_cut [5,6] from 19 to 24 (fun p q wx=>∃ (g0 g1:Nat) (s0:Bool) (ao0:Option Addr) (n0 cap0:Nat) (e0:Int) (s1:Bool) (ao1:Option Addr) (n1 cap1:Nat) (e1:Int),p=.pointer (some ⟨g0,0,none⟩)∧q=.pointer (some ⟨g1,0,none⟩)∧Hid (Bw W4 wx∧NumB wx g0 s0 ao0 n0 cap0 e0∧NumB wx g1 s1 ao1 n1 cap1 e1∧DN wx (.agg #[.bool s0,.slice ao0 n0 cap0,.int .i64 e0]) A7∧DN wx (.agg #[.bool s1,.slice ao1 n1 cap1,.int .i64 e1]) B7∧W4.heap.size≤g0∧W4.heap.size≤g1))
 case first =>
  refine flz_region 3 19 5 w2.heap.size 4609047870845172684 4609047870845172685 W4 _ (by decide) (by decide) rfl (gord_of (by kernel_rfl)) ?_ rfl ?_ ?_ ?_ ?_ ?_ ?_ ?_ ?_
  ·exact⟨⟨_,rfl,rfl,rfl,rfl⟩,⟨_,rfl,rfl,rfl,rfl,⟨_,.data⟩,by simp,rfl,rfl⟩,⟨_,rfl,rfl,⟨_,rfl⟩,rfl,⟨_,.data⟩,by simp,rfl,rfl⟩,⟨_,rfl,rfl,rfl,rfl⟩,⟨_,rfl,rfl,rfl,rfl,⟨_,.data⟩,by simp,rfl,rfl⟩,⟨_,rfl,rfl,⟨_,rfl⟩,rfl,⟨_,.data⟩,by simp,rfl,rfl⟩⟩
  ·exact fun w' hw=>(HV4.out.1.box hw).facts.1
  ·exact⟨by decide,by decide⟩
  ·intro k hk
   rcases glt2 hk with rfl|rfl <;> exact⟨_,rfl,rfl,rfl,rfl⟩
  ·intro k hk
   rcases glt2 hk with rfl|rfl <;> exact⟨_,rfl,rfl,rfl,rfl,⟨⟨_,.data⟩,by simp,rfl,rfl⟩,⟨_,.data⟩,by simp,rfl,rfl⟩
  ·show ∀ j,j<6→19+j<135
   decide
  ·show ∀ k,k<2→5+k<135
   decide
  ·decide
  ·intro u gb wx hb x1 y1 x0 y0 hx hy
   obtain⟨cs0,x2,x3⟩:=hx
   obtain⟨cs1,y2,y3⟩:=hy
   obtain⟨s0,ao0,n0,cap0,e0,x4⟩:=x1.shape
   obtain⟨s1,ao1,n1,cap1,e1,y4⟩:=y1.shape
   have x5:cs0 = #[.bool s0,.slice ao0 n0 cap0,.int .i64 e0]:=by
    have:=x2.symm.trans x4
    simpa using this
   have y5:cs1 = #[.bool s1,.slice ao1 n1 cap1,.int .i64 e1]:=by
    have:=y2.symm.trans y4
    simpa using this
   rw[x5] at x3
   rw[y5] at y3
   rw[x4] at x1
   rw[y4] at y1
   have HF:Hid (Bw W4 wx∧NumB wx (gb 0) s0 ao0 n0 cap0 e0∧NumB wx (gb 1) s1 ao1 n1 cap1 e1∧DN wx (.agg #[.bool s0,.slice ao0 n0 cap0,.int .i64 e0]) A7∧DN wx (.agg #[.bool s1,.slice ao1 n1 cap1,.int .i64 e1]) B7∧W4.heap.size≤gb 0∧W4.heap.size≤gb 1):=⟨hb,x3,y3,x1,y1,x0,y0⟩
   clear x0 y0 x1 x2 x3 x4 x5 y1 y2 y3 y4 y5 hb
   simp only[putL,show List.range 6 = [0,1,2,3,4,5] from rfl,show List.range 2 = [0,1] from rfl,List.map_cons,List.map_nil,List.cons_append,List.nil_append,List.foldl_cons,List.foldl_nil,Nat.reduceMod,Nat.reduceDiv,Nat.reduceMul,Nat.reduceAdd,Nat.reduceEqDiff,reduceIte,Nat.one_ne_zero,Act.put,List.setIfInBounds_toArray,List.set_cons_zero,List.set_cons_succ]
   go_wp2_with fail
   go_meet
   exact⟨_,_,_,_,_,_,_,_,_,_,_,_,rfl,rfl,HF⟩
 case rest =>
  obtain⟨w8,hw8⟩:∃ w8:World,w8=wc:=⟨_,rfl⟩
  subst hw8
  obtain⟨g0,g1,s0,ao0,n0,cap0,e0,s1,ao1,n1,cap1,e1,rfl,rfl,HF⟩:=hcut
  have HB8:Hid (Bw w w8):=HV4.out.2.trans (HF.out.1.mono HV4.out.2.size)
  have HR8:Hid (IvK w8 w2.heap.size 4609047870845172684 4609047870845172685):=HV4.out.1.box HF.out.1
  have HD8:Hid (NumB w8 g0 s0 ao0 n0 cap0 e0∧NumB w8 g1 s1 ao1 n1 cap1 e1∧DN w8 (.agg #[.bool s0,.slice ao0 n0 cap0,.int .i64 e0]) A7∧DN w8 (.agg #[.bool s1,.slice ao1 n1 cap1,.int .i64 e1]) B7):=⟨HF.out.2.1,HF.out.2.2.1,HF.out.2.2.2.1,HF.out.2.2.2.2.1⟩
  have HG:Hid (w.heap.size≤w2.heap.size∧w2.heap.size<g0∧w2.heap.size<g1):=(by
   have h1:=HV4.out.1.lt
   have h2:=HF.out.2.2.2.2.2
   exact⟨HS.out,by omega,by omega⟩:w.heap.size≤w2.heap.size∧w2.heap.size<g0∧w2.heap.size<g1)
  clear HF HV4 HS
  go_wp2_with fail
  refine(whole2 (w:=w8)).mono ?_
  rintro r w9 ⟨A,rfl,hN,hb9⟩
  obtain⟨s2,ao2,n2,cap2,e2,rfl⟩:=hN.shape
  obtain⟨W10,hW10⟩:∃ W10,W10=w9.alloc (.cells #[.bool false,.slice none 0 0,.int .i64 0] 30):=⟨_,rfl⟩
  have hb10:Bw w9 W10:=by rw[hW10];exact(Below.refl _ _).alloc (Nat.le_refl _) _
  have hN10:W10.heap[w9.heap.size]?=some (.cells #[.bool false,.slice none 0 0,.int .i64 0] 30 (0,0)):=by rw[hW10];exact heap_alloc_new _ _
  obtain⟨⟨y0,y1,y2⟩,y3,y4,y5⟩:=box_cells29 hN10
  have HZ:Hid (Bw w8 w9∧Bw w9 W10∧W10.heap[w9.heap.size]?=some (.cells #[.bool false,.slice none 0 0,.int .i64 0] 30 (0,0))∧DN w9 (.agg #[.bool s2,.slice ao2 n2 cap2,.int .i64 e2]) (false,1,1)):=⟨hb9,hb10,hN10,hN⟩
  clear hb9 hb10 hN10 hN
  go_upto_region 4 with (rw[←hW10];clear hW10)
  obtain⟨W11,hW11⟩:∃ W11,W11=((W10.setCell ⟨w9.heap.size,0,none⟩ (.bool s2)).setCell ⟨w9.heap.size,1,none⟩ (.slice ao2 n2 cap2)).setCell ⟨w9.heap.size,2,none⟩ (.int .i64 e2):=⟨_,rfl⟩
  have hW8:Bw w8 W11:=by
   rw[hW11]
   exact below_store3 (HZ.out.1.trans (HZ.out.2.1.mono HZ.out.1.size)) HZ.out.1.size _ _ _
  have hW9:Bw w9 W11:=by
   rw[hW11]
   exact below_store3 HZ.out.2.1 (Nat.le_refl _) _ _ _
  have hN11:NumB W11 w9.heap.size s2 ao2 n2 cap2 e2:=by
   rw[hW11]
   exact store3_29 _ _ _ HZ.out.2.2.1
  rw[←hW11]
  have HH:Hid (Bw w W11∧IvK W11 w2.heap.size 4609047870845172684 4609047870845172685∧NumB W11 g0 s0 ao0 n0 cap0 e0∧NumB W11 g1 s1 ao1 n1 cap1 e1∧NumB W11 w9.heap.size s2 ao2 n2 cap2 e2∧DN W11 (.agg #[.bool s0,.slice ao0 n0 cap0,.int .i64 e0]) A7∧DN W11 (.agg #[.bool s1,.slice ao1 n1 cap1,.int .i64 e1]) B7∧DN W11 (.agg #[.bool s2,.slice ao2 n2 cap2,.int .i64 e2]) (false,1,1)) :=
   ⟨HB8.out.trans (hW8.mono HB8.out.size),HR8.out.box hW8,HD8.out.1.box hW8,HD8.out.2.1.box hW8,hN11,HD8.out.2.2.1.later hW8,HD8.out.2.2.2.later hW8,HZ.out.2.2.2.later hW9⟩
  clear hW8 hW9 hN11 hW11 HZ HD8 HR8 HB8 y0 y1 y2 y3 y4 y5
  have HK:Hid (∀ w',Bw W11 w'→(w'.cell? ⟨w2.heap.size,0,none⟩=some (.float .f64 4609047870845172684)∧w'.cell? ⟨w2.heap.size,1,none⟩=some (.float .f64 4609047870845172685))∧(w'.cell? ⟨g0,0,none⟩=some (.bool s0)∧w'.cell? ⟨g0,1,none⟩=some (.slice ao0 n0 cap0)∧w'.cell? ⟨g0,2,none⟩=some (.int .i64 e0))∧(w'.cell? ⟨g1,0,none⟩=some (.bool s1)∧w'.cell? ⟨g1,1,none⟩=some (.slice ao1 n1 cap1)∧w'.cell? ⟨g1,2,none⟩=some (.int .i64 e1))∧(w'.cell? ⟨w9.heap.size,0,none⟩=some (.bool s2)∧w'.cell? ⟨w9.heap.size,1,none⟩=some (.slice ao2 n2 cap2)∧w'.cell? ⟨w9.heap.size,2,none⟩=some (.int .i64 e2))) :=
   fun w' hb=>⟨(HH.out.2.1.box hb).facts.1,(box_cells29 (HH.out.2.2.1.box hb)).1,(box_cells29 (HH.out.2.2.2.1.box hb)).1,(box_cells29 (HH.out.2.2.2.2.1.box hb)).1⟩
  have kT0:∀ w',Bw W11 w'→Calls Tryz.prog 9 #[.agg #[.bool s0,.slice ao0 n0 cap0,.int .i64 e0],.agg #[.bool s0,.slice ao0 n0 cap0,.int .i64 e0]] w' fun r w''=>∃ s ao n cap e,r=.returned (.agg #[.bool s,.slice ao n cap,.int .i64 e])∧Hid (DN w'' (.agg #[.bool s,.slice ao n cap,.int .i64 e]) (gM A7 A7))∧Bw W11 w'':=fun w' hb =>
   (gtimes gn_A7.1 gn_A7.1 (HH.out.2.2.2.2.2.1.later hb) (HH.out.2.2.2.2.2.1.later hb)).mono fun r w'' ⟨A,e1,h1,h2⟩=>by
    obtain⟨s,ao,n,cap,e,rfl⟩:=h1.shape
    exact⟨_,_,_,_,_,e1,h1,hb.trans (h2.mono hb.size)⟩
  have kT1:∀ w',Bw W11 w'→Calls Tryz.prog 9 #[.agg #[.bool s1,.slice ao1 n1 cap1,.int .i64 e1],.agg #[.bool s1,.slice ao1 n1 cap1,.int .i64 e1]] w' fun r w''=>∃ s ao n cap e,r=.returned (.agg #[.bool s,.slice ao n cap,.int .i64 e])∧Hid (DN w'' (.agg #[.bool s,.slice ao n cap,.int .i64 e]) (gM B7 B7))∧Bw W11 w'':=fun w' hb =>
   (gtimes gn_B7.1 gn_B7.1 (HH.out.2.2.2.2.2.2.1.later hb) (HH.out.2.2.2.2.2.2.1.later hb)).mono fun r w'' ⟨A,e1,h1,h2⟩=>by
    obtain⟨s,ao,n,cap,e,rfl⟩:=h1.shape
    exact⟨_,_,_,_,_,e1,h1,hb.trans (h2.mono hb.size)⟩
  have kO0:∀ {s ao n cap e} w',Hid (DN w' (.agg #[.bool s,.slice ao n cap,.int .i64 e]) (gM A7 A7))→Bw W11 w'→Calls Tryz.prog 8 #[.agg #[.bool s,.slice ao n cap,.int .i64 e],.agg #[.bool s2,.slice ao2 n2 cap2,.int .i64 e2]] w' fun r w''=>r=.returned (.int .i64 (-1))∧Bw W11 w'':=fun w' h hb =>
   (gorder gn_A7.2 gn_1.2 h.out (HH.out.2.2.2.2.2.2.2.later hb)).mono fun r w'' ⟨h1,h2⟩=>⟨by rw[h1,or_A7],hb.trans (h2.mono hb.size)⟩
  have kO1:∀ {s ao n cap e} w',Hid (DN w' (.agg #[.bool s,.slice ao n cap,.int .i64 e]) (gM B7 B7))→Bw W11 w'→Calls Tryz.prog 8 #[.agg #[.bool s,.slice ao n cap,.int .i64 e],.agg #[.bool s2,.slice ao2 n2 cap2,.int .i64 e2]] w' fun r w''=>r=.returned (.int .i64 1)∧Bw W11 w'':=fun w' h hb =>
   (gorder gn_B7.2 gn_1.2 h.out (HH.out.2.2.2.2.2.2.2.later hb)).mono fun r w'' ⟨h1,h2⟩=>⟨by rw[h1,or_B7],hb.trans (h2.mono hb.size)⟩
  have kX:∀ w',Calls Tryz.prog 7 #[.float .f64 4609047870845172684] w' fun r w''=>r=.returned (.float .f64 4609047870845172685)∧w''=w':=fun w'=>next_p (R:=4609047870845172684) (by decide) (by decide) w'
  have ho1:(FloatKind.f64.format.order 4609047870845172685 4609047870845172685==some Ordering.eq)=true:=by decide +kernel
  have hBR:Bw W11 W11.drew:=(Below.refl _ _).drew
  obtain⟨⟨qc0,qc1⟩,⟨qc2,qc3,qc4⟩,⟨qc5,qc6,qc7⟩,qc8,qc9,qc10⟩:=HK.out W11 (Below.refl _ _)
  go_region_held3 (fun w'=>(w'.cell? ⟨w2.heap.size,0,none⟩=some (.float .f64 4609047870845172684)∧w'.cell? ⟨w2.heap.size,1,none⟩=some (.float .f64 4609047870845172685))∧(w'.cell? ⟨g0,0,none⟩=some (.bool s0)∧w'.cell? ⟨g0,1,none⟩=some (.slice ao0 n0 cap0)∧w'.cell? ⟨g0,2,none⟩=some (.int .i64 e0))∧(w'.cell? ⟨g1,0,none⟩=some (.bool s1)∧w'.cell? ⟨g1,1,none⟩=some (.slice ao1 n1 cap1)∧w'.cell? ⟨g1,2,none⟩=some (.int .i64 e1))∧(w'.cell? ⟨w9.heap.size,0,none⟩=some (.bool s2)∧w'.cell? ⟨w9.heap.size,1,none⟩=some (.slice ao2 n2 cap2)∧w'.cell? ⟨w9.heap.size,2,none⟩=some (.int .i64 e2))) (first|(with_reducible assumption)|exact⟨⟨qc0,qc1⟩,⟨qc2,qc3,qc4⟩,⟨qc5,qc6,qc7⟩,qc8,qc9,qc10⟩|(refine HK.out _ ?_;with_reducible assumption)|go_keep)
   (first|(go_at_call 7;refine(kX _).mono ?_;rintro r wz ⟨rfl,hwz⟩;rw[hwz];clear hwz wz)|(go_at_call 9;(with_reducible refine(kT0 _ (by first|(with_reducible assumption)|exact hBR)).mono ?_);rintro r w5 ⟨s5,ao5,n5,cap5,e5,rfl,hN5,hb5⟩)|(go_at_call 8;(with_reducible refine(kO0 _ hN5 hb5).mono ?_);rintro r w6 ⟨rfl,hb6⟩)|(go_at_call 9;(with_reducible refine(kT1 _ (by with_reducible assumption)).mono ?_);rintro r w7 ⟨s7,ao7,n7,cap7,e7,rfl,hN7,hb7⟩)|(go_at_call 8;(with_reducible refine(kO1 _ hN7 hb7).mono ?_);rintro r wx ⟨rfl,hbx⟩))
  have HHx:Hid (Bw w wx∧NumB wx g0 s0 ao0 n0 cap0 e0∧NumB wx g1 s1 ao1 n1 cap1 e1∧g0≠g1):=(by
   refine⟨HH.out.1.trans (hbx.mono HH.out.1.size),HH.out.2.2.1.box hbx,HH.out.2.2.2.1.box hbx,?_⟩
   exact HH.out.2.2.1.apart HH.out.2.2.2.1 HH.out.2.2.2.2.2.1 HH.out.2.2.2.2.2.2.1 ex_7:Bw w wx∧NumB wx g0 s0 ao0 n0 cap0 e0∧NumB wx g1 s1 ao1 n1 cap1 e1∧g0≠g1)
  have HG2:Hid (w.heap.size≤g0∧w.heap.size≤g1):=(by have:=HG.out;exact⟨by omega,by omega⟩:w.heap.size≤g0∧w.heap.size≤g1)
  clear hb5 hb6 hb7 hbx hN5 hN7 kT0 kT1 kO0 kO1 kX ho1 hBR HK HH HG qc0 qc1 qc2 qc3 qc4 qc5 qc6 qc7 qc8 qc9 qc10
  go_wp2_with fail
  refine(tight_8 (w:=wx)).mono ?_
  rintro r v2 ⟨rfl,hb2⟩
  have H2:Hid (Bw w v2∧NumB v2 g0 s0 ao0 n0 cap0 e0∧NumB v2 g1 s1 ao1 n1 cap1 e1):=⟨HHx.out.1.trans (hb2.mono HHx.out.1.size),HHx.out.2.1.box hb2,HHx.out.2.2.1.box hb2⟩
  clear hb2
  obtain⟨V3,hV3⟩:∃ V3,V3=v2.alloc (.cells #[.float .f64 0,.float .f64 0] 24):=⟨_,rfl⟩
  have hbV3:Bw v2 V3:=by rw[hV3];exact(Below.refl _ _).alloc (Nat.le_refl _) _
  have HV3:Hid (IvK V3 v2.heap.size 0 0∧Bw v2 V3):=(by refine⟨?_,hbV3⟩;rw[hV3];exact IvK.new _ _ _:IvK V3 v2.heap.size 0 0∧Bw v2 V3)
  obtain⟨⟨y0,y1⟩,y2,y3⟩:=HV3.out.1.facts
  clear hbV3
  go_upto_region 7 with (rw[←hV3];clear hV3)
  obtain⟨V4,hV4⟩:∃ V4,V4=(V3.setCell ⟨v2.heap.size,0,none⟩ (.float .f64 4609965796441453735)).setCell ⟨v2.heap.size,1,none⟩ (.float .f64 4609965796441453736):=⟨_,rfl⟩
  have HV4:Hid (IvK V4 v2.heap.size 4609965796441453735 4609965796441453736∧Bw v2 V4):=(by rw[hV4];exact⟨HV3.out.1.set _ _,below_set HV3.out.2 (Nat.le_refl _) _ _⟩:IvK V4 v2.heap.size 4609965796441453735 4609965796441453736∧Bw v2 V4)
  rw[←hV4]
  have HW:Hid (Bw w V4∧NumB V4 g0 s0 ao0 n0 cap0 e0∧NumB V4 g1 s1 ao1 n1 cap1 e1∧g0<v2.heap.size∧g1<v2.heap.size):=⟨H2.out.1.trans (HV4.out.2.mono H2.out.1.size),H2.out.2.1.box HV4.out.2,H2.out.2.2.box HV4.out.2,H2.out.2.1.lt,H2.out.2.2.lt⟩
  clear hV4 HV3 y0 y1 y2 y3 H2
  have HQ:Hid (Bw w wx∧g0≠g1):=⟨HHx.out.1,HHx.out.2.2.2⟩
  clear HHx
  go_cut [5,6] from 56 to 61 (fun p q wy=>∃ (t0:Bool) (bo0:Option Addr) (m0 dap0:Nat) (f0:Int) (t1:Bool) (bo1:Option Addr) (m1 dap1:Nat) (f1:Int),p=.pointer (some ⟨g0,0,none⟩)∧q=.pointer (some ⟨g1,0,none⟩)∧Hid (Bw w wy∧NumB wy g0 t0 bo0 m0 dap0 f0∧NumB wy g1 t1 bo1 m1 dap1 f1∧DN wy (.agg #[.bool t0,.slice bo0 m0 dap0,.int .i64 f0]) A8∧DN wy (.agg #[.bool t1,.slice bo1 m1 dap1,.int .i64 f1]) B8))
  case first =>
   refine fls_region 8 56 5 v2.heap.size 4609965796441453735 4609965796441453736 w.heap.size (fun k=>if k=0 then g0 else g1) V4 _ (by decide) (by decide) rfl (gord_of (by kernel_rfl)) ?_ rfl ?_ ?_ ?_ ?_ ?_ ?_ ?_ ?_ ?_ ?_
   ·exact⟨⟨_,rfl,rfl,rfl,rfl⟩,⟨_,rfl,rfl,rfl,rfl,⟨_,.data⟩,by simp,rfl,rfl⟩,⟨_,rfl,rfl,⟨_,rfl⟩,rfl,⟨_,.data⟩,by simp,rfl,rfl⟩,⟨_,rfl,rfl,rfl,rfl⟩,⟨_,rfl,rfl,rfl,rfl,⟨_,.data⟩,by simp,rfl,rfl⟩,⟨_,rfl,rfl,⟨_,rfl⟩,rfl,⟨_,.data⟩,by simp,rfl,rfl⟩⟩
   ·intro w' hw
    have h1:IvK w' v2.heap.size 4609965796441453735 4609965796441453736:=(hw.keep _ HV4.out.1.lt (fun k hk=>by have:=HW.out.2.2.2;rcases glt2 hk with rfl|rfl <;> simp <;> omega)).trans HV4.out.1
    exact h1.facts.1
   ·decide
   ·intro k hk
    rcases glt2 hk with rfl|rfl <;> exact⟨_,rfl,rfl,rfl,rfl,⟨_,.data⟩,by simp,rfl,rfl⟩
   ·intro k hk
    rcases glt2 hk with rfl|rfl <;> rfl
   ·intro k hk
    rcases glt2 hk with rfl|rfl
    ·exact⟨HG2.out.1,_,HW.out.2.1,rfl,_,_,_,_,_,rfl⟩
    ·exact⟨HG2.out.2,_,HW.out.2.2.1,rfl,_,_,_,_,_,rfl⟩
   ·exact HQ.out.2
   ·exact HW.out.1.size
   ·show ∀ j,j<6→56+j<135
    decide
   ·decide
   ·intro u wy hb x1 y1 hx hy
    obtain⟨cs0,x2,x3⟩:=hx
    obtain⟨cs1,y2,y3⟩:=hy
    obtain⟨t0,bo0,m0,dap0,f0,x4⟩:=x1.shape
    obtain⟨t1,bo1,m1,dap1,f1,y4⟩:=y1.shape
    have x5:cs0 = #[.bool t0,.slice bo0 m0 dap0,.int .i64 f0]:=by
     have:=x2.symm.trans x4
     simpa using this
    have y5:cs1 = #[.bool t1,.slice bo1 m1 dap1,.int .i64 f1]:=by
     have:=y2.symm.trans y4
     simpa using this
    rw[x5] at x3
    rw[y5] at y3
    rw[x4] at x1
    rw[y4] at y1
    have HF:Hid (Bw w wy∧NumB wy g0 t0 bo0 m0 dap0 f0∧NumB wy g1 t1 bo1 m1 dap1 f1∧DN wy (.agg #[.bool t0,.slice bo0 m0 dap0,.int .i64 f0]) A8∧DN wy (.agg #[.bool t1,.slice bo1 m1 dap1,.int .i64 f1]) B8):=⟨HW.out.1.trans hb.below,x3,y3,x1,y1⟩
    clear x1 x2 x3 x4 x5 y1 y2 y3 y4 y5 hb
    simp only[putL,show List.range 6 = [0,1,2,3,4,5] from rfl,List.map_cons,List.map_nil,List.cons_append,List.nil_append,List.foldl_cons,List.foldl_nil,Nat.reduceMod,Nat.reduceDiv,Nat.reduceMul,Nat.reduceAdd,Nat.reduceEqDiff,reduceIte,Nat.one_ne_zero,Act.put,List.setIfInBounds_toArray,List.set_cons_zero,List.set_cons_succ]
    go_wp2_with fail
    go_meet
    exact⟨_,_,_,_,_,_,_,_,_,_,rfl,rfl,HF⟩
  case rest =>
   obtain⟨v8,hv8⟩:∃ v8:World,v8=wc:=⟨_,rfl⟩
   subst hv8
   obtain⟨t0,bo0,m0,dap0,f0,t1,bo1,m1,dap1,f1,rfl,rfl,HF⟩:=hcut
   clear HW HV4 HQ HG2
   go_wp2_with fail
   refine(whole1 (w:=v8)).mono ?_
   rintro r v9 ⟨A,rfl,hN,hb9⟩
   obtain⟨t2,bo2,m2,dap2,f2,rfl⟩:=hN.shape
   obtain⟨V10,hV10⟩:∃ V10,V10=v9.alloc (.cells #[.bool false,.slice none 0 0,.int .i64 0] 30):=⟨_,rfl⟩
   have hb10:Bw v9 V10:=by rw[hV10];exact(Below.refl _ _).alloc (Nat.le_refl _) _
   have hN10:V10.heap[v9.heap.size]?=some (.cells #[.bool false,.slice none 0 0,.int .i64 0] 30 (0,0)):=by rw[hV10];exact heap_alloc_new _ _
   obtain⟨⟨y0,y1,y2⟩,y3,y4,y5⟩:=box_cells29 hN10
   have HZ:Hid (Bw v8 v9∧Bw v9 V10∧V10.heap[v9.heap.size]?=some (.cells #[.bool false,.slice none 0 0,.int .i64 0] 30 (0,0))∧DN v9 (.agg #[.bool t2,.slice bo2 m2 dap2,.int .i64 f2]) (false,1,0)):=⟨hb9,hb10,hN10,hN⟩
   clear hb9 hb10 hN10 hN
   go_upto_region 9 with (rw[←hV10];clear hV10)
   obtain⟨V11,hV11⟩:∃ V11,V11=((V10.setCell ⟨v9.heap.size,0,none⟩ (.bool t2)).setCell ⟨v9.heap.size,1,none⟩ (.slice bo2 m2 dap2)).setCell ⟨v9.heap.size,2,none⟩ (.int .i64 f2):=⟨_,rfl⟩
   have hW8:Bw v8 V11:=by
    rw[hV11]
    exact below_store3 (HZ.out.1.trans (HZ.out.2.1.mono HZ.out.1.size)) HZ.out.1.size _ _ _
   have hW9:Bw v9 V11:=by
    rw[hV11]
    exact below_store3 HZ.out.2.1 (Nat.le_refl _) _ _ _
   have hN11:NumB V11 v9.heap.size t2 bo2 m2 dap2 f2:=by
    rw[hV11]
    exact store3_29 _ _ _ HZ.out.2.2.1
   rw[←hV11]
   have HH:Hid (Bw w V11∧NumB V11 g0 t0 bo0 m0 dap0 f0∧NumB V11 g1 t1 bo1 m1 dap1 f1∧NumB V11 v9.heap.size t2 bo2 m2 dap2 f2∧DN V11 (.agg #[.bool t0,.slice bo0 m0 dap0,.int .i64 f0]) A8∧DN V11 (.agg #[.bool t1,.slice bo1 m1 dap1,.int .i64 f1]) B8∧DN V11 (.agg #[.bool t2,.slice bo2 m2 dap2,.int .i64 f2]) (false,1,0)) :=
    ⟨HF.out.1.trans (hW8.mono HF.out.1.size),HF.out.2.1.box hW8,HF.out.2.2.1.box hW8,hN11,HF.out.2.2.2.1.later hW8,HF.out.2.2.2.2.later hW8,HZ.out.2.2.2.later hW9⟩
   clear hW8 hW9 hN11 hV11 HZ HF y0 y1 y2 y3 y4 y5
   have HK:Hid (∀ w',Bw V11 w'→(w'.cell? ⟨g0,0,none⟩=some (.bool t0)∧w'.cell? ⟨g0,1,none⟩=some (.slice bo0 m0 dap0)∧w'.cell? ⟨g0,2,none⟩=some (.int .i64 f0))∧(w'.cell? ⟨g1,0,none⟩=some (.bool t1)∧w'.cell? ⟨g1,1,none⟩=some (.slice bo1 m1 dap1)∧w'.cell? ⟨g1,2,none⟩=some (.int .i64 f1))∧(w'.cell? ⟨v9.heap.size,0,none⟩=some (.bool t2)∧w'.cell? ⟨v9.heap.size,1,none⟩=some (.slice bo2 m2 dap2)∧w'.cell? ⟨v9.heap.size,2,none⟩=some (.int .i64 f2))) :=
    fun w' hb=>⟨(box_cells29 (HH.out.2.1.box hb)).1,(box_cells29 (HH.out.2.2.1.box hb)).1,(box_cells29 (HH.out.2.2.2.1.box hb)).1⟩
   have kT0:∀ w',Bw V11 w'→Calls Tryz.prog 9 #[.agg #[.bool t0,.slice bo0 m0 dap0,.int .i64 f0],.agg #[.bool t0,.slice bo0 m0 dap0,.int .i64 f0]] w' fun r w''=>∃ s ao n cap e,r=.returned (.agg #[.bool s,.slice ao n cap,.int .i64 e])∧Hid (DN w'' (.agg #[.bool s,.slice ao n cap,.int .i64 e]) (gM A8 A8))∧Bw V11 w'':=fun w' hb =>
    (gtimes gn_A8.1 gn_A8.1 (HH.out.2.2.2.2.1.later hb) (HH.out.2.2.2.2.1.later hb)).mono fun r w'' ⟨A,e1,h1,h2⟩=>by
     obtain⟨s,ao,n,cap,e,rfl⟩:=h1.shape
     exact⟨_,_,_,_,_,e1,h1,hb.trans (h2.mono hb.size)⟩
   have kT1:∀ w',Bw V11 w'→Calls Tryz.prog 9 #[.agg #[.bool t1,.slice bo1 m1 dap1,.int .i64 f1],.agg #[.bool t1,.slice bo1 m1 dap1,.int .i64 f1]] w' fun r w''=>∃ s ao n cap e,r=.returned (.agg #[.bool s,.slice ao n cap,.int .i64 e])∧Hid (DN w'' (.agg #[.bool s,.slice ao n cap,.int .i64 e]) (gM B8 B8))∧Bw V11 w'':=fun w' hb =>
    (gtimes gn_B8.1 gn_B8.1 (HH.out.2.2.2.2.2.1.later hb) (HH.out.2.2.2.2.2.1.later hb)).mono fun r w'' ⟨A,e1,h1,h2⟩=>by
     obtain⟨s,ao,n,cap,e,rfl⟩:=h1.shape
     exact⟨_,_,_,_,_,e1,h1,hb.trans (h2.mono hb.size)⟩
   have kL0:∀ {s ao n cap e} w',Hid (DN w' (.agg #[.bool s,.slice ao n cap,.int .i64 e]) (gM A8 A8))→Bw V11 w'→Calls Tryz.prog 10 #[.agg #[.bool s,.slice ao n cap,.int .i64 e],.agg #[.bool t0,.slice bo0 m0 dap0,.int .i64 f0]] w' fun r w''=>∃ s ao n cap e,r=.returned (.agg #[.bool s,.slice ao n cap,.int .i64 e])∧Hid (DN w'' (.agg #[.bool s,.slice ao n cap,.int .i64 e]) (gD (gM A8 A8) A8))∧Bw V11 w'':=fun w' h hb =>
    (gless gn_A8.2.1 gn_A8.1 h.out (HH.out.2.2.2.2.1.later hb)).mono fun r w'' ⟨A,e1,h1,h2⟩=>by
     obtain⟨s,ao,n,cap,e,rfl⟩:=h1.shape
     exact⟨_,_,_,_,_,e1,h1,hb.trans (h2.mono hb.size)⟩
   have kL1:∀ {s ao n cap e} w',Hid (DN w' (.agg #[.bool s,.slice ao n cap,.int .i64 e]) (gM B8 B8))→Bw V11 w'→Calls Tryz.prog 10 #[.agg #[.bool s,.slice ao n cap,.int .i64 e],.agg #[.bool t1,.slice bo1 m1 dap1,.int .i64 f1]] w' fun r w''=>∃ s ao n cap e,r=.returned (.agg #[.bool s,.slice ao n cap,.int .i64 e])∧Hid (DN w'' (.agg #[.bool s,.slice ao n cap,.int .i64 e]) (gD (gM B8 B8) B8))∧Bw V11 w'':=fun w' h hb =>
    (gless gn_B8.2.1 gn_B8.1 h.out (HH.out.2.2.2.2.2.1.later hb)).mono fun r w'' ⟨A,e1,h1,h2⟩=>by
     obtain⟨s,ao,n,cap,e,rfl⟩:=h1.shape
     exact⟨_,_,_,_,_,e1,h1,hb.trans (h2.mono hb.size)⟩
   have kO0:∀ {s ao n cap e} w',Hid (DN w' (.agg #[.bool s,.slice ao n cap,.int .i64 e]) (gD (gM A8 A8) A8))→Bw V11 w'→Calls Tryz.prog 8 #[.agg #[.bool s,.slice ao n cap,.int .i64 e],.agg #[.bool t2,.slice bo2 m2 dap2,.int .i64 f2]] w' fun r w''=>r=.returned (.int .i64 (-1))∧Bw V11 w'':=fun w' h hb =>
    (gorder gn_A8.2.2 gn_1.1 h.out (HH.out.2.2.2.2.2.2.later hb)).mono fun r w'' ⟨h1,h2⟩=>⟨by rw[h1,or_A8],hb.trans (h2.mono hb.size)⟩
   have kO1:∀ {s ao n cap e} w',Hid (DN w' (.agg #[.bool s,.slice ao n cap,.int .i64 e]) (gD (gM B8 B8) B8))→Bw V11 w'→Calls Tryz.prog 8 #[.agg #[.bool s,.slice ao n cap,.int .i64 e],.agg #[.bool t2,.slice bo2 m2 dap2,.int .i64 f2]] w' fun r w''=>r=.returned (.int .i64 1)∧Bw V11 w'':=fun w' h hb =>
    (gorder gn_B8.2.2 gn_1.1 h.out (HH.out.2.2.2.2.2.2.later hb)).mono fun r w'' ⟨h1,h2⟩=>⟨by rw[h1,or_B8],hb.trans (h2.mono hb.size)⟩
   have hBR:Bw V11 V11.drew:=(Below.refl _ _).drew
   obtain⟨⟨qc2,qc3,qc4⟩,⟨qc5,qc6,qc7⟩,qc8,qc9,qc10⟩:=HK.out V11 (Below.refl _ _)
   go_region_held3 (fun w'=>(w'.cell? ⟨g0,0,none⟩=some (.bool t0)∧w'.cell? ⟨g0,1,none⟩=some (.slice bo0 m0 dap0)∧w'.cell? ⟨g0,2,none⟩=some (.int .i64 f0))∧(w'.cell? ⟨g1,0,none⟩=some (.bool t1)∧w'.cell? ⟨g1,1,none⟩=some (.slice bo1 m1 dap1)∧w'.cell? ⟨g1,2,none⟩=some (.int .i64 f1))∧(w'.cell? ⟨v9.heap.size,0,none⟩=some (.bool t2)∧w'.cell? ⟨v9.heap.size,1,none⟩=some (.slice bo2 m2 dap2)∧w'.cell? ⟨v9.heap.size,2,none⟩=some (.int .i64 f2))) (first|(with_reducible assumption)|exact⟨⟨qc2,qc3,qc4⟩,⟨qc5,qc6,qc7⟩,qc8,qc9,qc10⟩|(refine HK.out _ ?_;with_reducible assumption)|go_keep)
    (first|(go_at_call 9;(with_reducible refine(kT0 _ (by first|(with_reducible assumption)|exact hBR)).mono ?_);rintro r v5 ⟨s5,ao5,n5,cap5,e5,rfl,hN5,hb5⟩)|(go_at_call 10;(with_reducible refine(kL0 _ hN5 hb5).mono ?_);rintro r v6 ⟨s6,ao6,n6,cap6,e6,rfl,hN6,hb6⟩)|(go_at_call 8;(with_reducible refine(kO0 _ hN6 hb6).mono ?_);rintro r v7 ⟨rfl,hb7⟩)|(go_at_call 9;(with_reducible refine(kT1 _ (by with_reducible assumption)).mono ?_);rintro r v12 ⟨s7,ao7,n7,cap7,e7,rfl,hN7,hb12⟩)|(go_at_call 10;(with_reducible refine(kL1 _ hN7 hb12).mono ?_);rintro r v13 ⟨s8,ao8,n8,cap8,e8,rfl,hN8,hb13⟩)|(go_at_call 8;(with_reducible refine(kO1 _ hN8 hb13).mono ?_);rintro r v14 ⟨rfl,hb14⟩))
   have H14:Hid (Bw w v14):=HH.out.1.trans (hb14.mono HH.out.1.size)
   clear hb5 hb6 hb7 hb12 hb13 hb14 hN5 hN6 hN7 hN8 kT0 kT1 kL0 kL1 kO0 kO1 hBR HK HH qc2 qc3 qc4 qc5 qc6 qc7 qc8 qc9 qc10
   go_wp2_with fail
   refine(HA.out v14).mono ?_
   rintro r v15 ⟨rfl,hb15⟩
   have H15:Hid (Bw w v15):=H14.out.trans (hb15.mono H14.out.size)
   clear hb15 H14 HA
   obtain⟨V16,hV16⟩:∃ V16,V16=v15.alloc (.cells #[.float .f64 0,.float .f64 0] 24):=⟨_,rfl⟩
   have HV16:Hid (IvK V16 v15.heap.size 0 0∧Bw w V16):=(by rw[hV16];exact⟨IvK.new _ _ _,H15.out.alloc H15.out.size _⟩:IvK V16 v15.heap.size 0 0∧Bw w V16)
   obtain⟨⟨y0,y1⟩,y2,y3⟩:=HV16.out.1.facts
   go_upto_region 12 with (rw[←hV16];clear hV16)
   obtain⟨V17,hV17⟩:∃ V17,V17=(V16.setCell ⟨v15.heap.size,0,none⟩ (.float .f64 a)).setCell ⟨v15.heap.size,1,none⟩ (.float .f64 b):=⟨_,rfl⟩
   have HV17:Hid (IvK V17 v15.heap.size a b∧Bw w V17):=(by rw[hV17];exact⟨HV16.out.1.set _ _,below_set HV16.out.2 H15.out.size _ _⟩:IvK V17 v15.heap.size a b∧Bw w V17)
   rw[←hV17]
   clear hV17 HV16 y0 y1 y2 y3 H15
   have hw:=HWR.out
   go_wp2_with fail
   refine(HC.out V17).mono ?_
   rintro r v18 ⟨rfl,hb18⟩
   have H18:Hid (IvK v18 v15.heap.size a b∧Bw w v18):=⟨HV17.out.1.box hb18,HV17.out.2.trans (hb18.mono HV17.out.2.size)⟩
   clear hb18 HV17 HC
   obtain⟨V19,hV19⟩:∃ V19,V19=v18.alloc (.cells #[.float .f64 0,.float .f64 0] 24):=⟨_,rfl⟩
   have hb19:Bw v18 V19:=by rw[hV19];exact(Below.refl _ _).alloc (Nat.le_refl _) _
   have HV19:Hid (IvK V19 v18.heap.size 0 0∧Bw v18 V19):=(by refine⟨?_,hb19⟩;rw[hV19];exact IvK.new _ _ _:IvK V19 v18.heap.size 0 0∧Bw v18 V19)
   obtain⟨⟨y0,y1⟩,y2,y3⟩:=HV19.out.1.facts
   clear hb19
   go_upto_region 13 with (rw[←hV19];clear hV19)
   obtain⟨V20,hV20⟩:∃ V20,V20=(V19.setCell ⟨v18.heap.size,0,none⟩ (.float .f64 c)).setCell ⟨v18.heap.size,1,none⟩ (.float .f64 d):=⟨_,rfl⟩
   have hb20:Bw v18 V20:=by rw[hV20];exact below_set HV19.out.2 (Nat.le_refl _) _ _
   have HV20:Hid (IvK V20 v18.heap.size c d∧IvK V20 v15.heap.size a b∧Bw w V20):=(by refine⟨?_,H18.out.1.box hb20,H18.out.2.trans (hb20.mono H18.out.2.size)⟩;rw[hV20];exact HV19.out.1.set _ _:IvK V20 v18.heap.size c d∧IvK V20 v15.heap.size a b∧Bw w V20)
   rw[←hV20]
   clear hV20 HV19 y0 y1 y2 y3 H18 hb20
   rcases HCASE.out with ⟨hq,hz⟩|⟨hq,hn1,hn2,ho1,ho2,ho3,kX⟩
   ·obtain⟨⟨y0,y1⟩,-⟩:=HV20.out.2.1.facts
    clear HCASE HWR
    rcases hz with hz|⟨hz,rfl,rfl⟩
    ·have hz':¬ n=0:=by simpa using hz
     go_wp2_with (go_at_call 13;refine bsure.mono ?_;rintro r v21 ⟨rfl,hb21⟩)
     go_ret
     exact⟨rfl,HV20.out.2.2.trans (hb21.mono HV20.out.2.2.size)⟩
    ·obtain rfl:n=0:=by simpa using hz
     clear hz
     go_wp2_with (first|(go_at_call 12;refine(span_c _).mono ?_;rintro r v22 ⟨rfl,hb22⟩)|(go_at_call 13;refine bsure.mono ?_;rintro r v21 ⟨rfl,hb21⟩))
     go_ret
     have h22:=HV20.out.2.2.trans (hb22.mono HV20.out.2.2.size)
     exact⟨rfl,h22.trans (hb21.mono h22.size)⟩
   ·have HK:Hid (∀ w',Bw V20 w'→(w'.cell? ⟨v15.heap.size,0,none⟩=some (.float .f64 a)∧w'.cell? ⟨v15.heap.size,1,none⟩=some (.float .f64 b))∧w'.cell? ⟨v18.heap.size,0,none⟩=some (.float .f64 c)∧w'.cell? ⟨v18.heap.size,1,none⟩=some (.float .f64 d)):=fun w' hb=>⟨(HV20.out.2.1.box hb).facts.1,(HV20.out.1.box hb).facts.1⟩
    obtain⟨⟨y0,y1⟩,y2,y3⟩:=HK.out V20 (Below.refl _ _)
    have hBR:Bw V20 V20.drew:=(Below.refl _ _).drew
    clear HCASE HWR
    go_upto_region 15 with fail
    go_region_held3 (fun w'=>(w'.cell? ⟨v15.heap.size,0,none⟩=some (.float .f64 a)∧w'.cell? ⟨v15.heap.size,1,none⟩=some (.float .f64 b))∧w'.cell? ⟨v18.heap.size,0,none⟩=some (.float .f64 c)∧w'.cell? ⟨v18.heap.size,1,none⟩=some (.float .f64 d)) (first|(with_reducible assumption)|exact⟨⟨y0,y1⟩,y2,y3⟩|(refine HK.out _ ?_;with_reducible assumption)|go_keep)
     (first|(go_at_call 7;refine(kX _).mono ?_;rintro r wz ⟨rfl,hwz⟩;rw[hwz];clear hwz wz)|(go_at_call 13;refine bsure.mono ?_;rintro r v21 ⟨rfl,hb21⟩;replace hb21:=hBR.trans (hb21.mono hBR.size)))
    have H21:Hid (Bw w v21):=HV20.out.2.2.trans (hb21.mono HV20.out.2.2.size)
    clear hb21 HK HV20 y0 y1 y2 y3 hBR kX
    go_wp2_with fail
    refine bodyPost_ret (results_tmp rfl _ _ _) rfl ?_
    exact⟨rfl,H21.out⟩
theorem run_neg_h {R:Nat} (h:R<9218868437227405312) (W:World):(Op.unary UnOp.neg (Value.float .f64 (R+9223372036854775808))).run Tryz.prog W=.ok (.float .f64 R) W:=by
 have hn:Op.negFloat .f64 (R+9223372036854775808)=R:=by rw[Fl64.negF _ (by omega)];unfold Fl64.ngt Fl64.neg;simp
 have h2:(Op.unary UnOp.neg (Value.float .f64 (R+9223372036854775808))).run Tryz.prog W=.ok (.float .f64 (Op.negFloat .f64 (R+9223372036854775808))) W:=rfl
 rw[h2,hn]
theorem self_h {R:Nat} (h:R<9218868437227405312):(FloatKind.f64.format.order (R+9223372036854775808) (R+9223372036854775808)==some Ordering.eq)=true:=by
 have h1:=Fl64.self_ne (R+9223372036854775808) (by omega)
 have h2:Fl64.isNaN (R+9223372036854775808)=false:=by unfold Fl64.isNaN Fl64.mag;simp;omega
 rw[h2] at h1
 simpa using h1
theorem self_p {R:Nat} (h:R<9218868437227405312):(FloatKind.f64.format.order R R==some Ordering.eq)=true:=by
 rw[o_eq h h];simp
theorem constsHold_ok (n:Int) (hn : -9223372036854775808≤n∧n≤9223372036854775807) (w:World):Calls Tryz.prog 3 #[.int .i64 n] w fun r w'=>r=.returned (.bool true)∧Bw w w':=by
 have e63:(2:Nat)^63=9223372036854775808:=by decide
 rcases(show n=0∨n = -9223372036854775808∨(0<n)∨(n<0 ∧ -9223372036854775808<n) by omega)with rfl|rfl|h|h
 ·exact hold_1 0 0 0 0 0 0 0 0 w (by rw[IntKind.wrap_i64];omega) times_0 times_0 (.inl ⟨rfl,.inr ⟨rfl,rfl,rfl⟩⟩)
 ·have k:=times_n (N:=9223372036854775808) (by omega) (by rw[e63];exact Nat.le_refl _)
  exact hold_1 (-9223372036854775808) (-9223372036854775808) _ _ _ _ 0 0 w (by rw[IntKind.wrap_i64];omega) k k (.inl ⟨rfl,.inl rfl⟩)
 ·obtain⟨N,rfl⟩:∃ N:Nat,n=N:=⟨n.toNat,by omega⟩
  have h0:0<N:=by omega
  have h1:N<2^63:=by rw[e63];omega
  have hr:=flN_rng h0 (Nat.le_of_lt h1)
  exact hold_1 N (-(N:Int)) _ _ _ _ (flN N+1) (flN N) w (by rw[IntKind.wrap_i64];omega) (times_p h0 h1) (times_n h0 (Nat.le_of_lt h1)) (.inr ⟨by simp;omega,fun W=>run_neg_h (by omega) W,fun W=>run_neg_h (by omega) W,self_p (by omega),self_p (by omega),self_p (by omega),fun W=>next_p (by omega) (by omega) W⟩)
 ·obtain⟨N,rfl⟩:∃ N:Nat,n = -(N:Int):=⟨(-n).toNat,by omega⟩
  have h0:0<N:=by omega
  have h1:N<2^63:=by rw[e63];omega
  have hr:=flN_rng h0 (Nat.le_of_lt h1)
  exact hold_1 (-(N:Int)) N _ _ _ _ (flN N+9223372036854775808) (flN N+1+9223372036854775808) w (by rw[IntKind.wrap_i64];omega) (times_n h0 (Nat.le_of_lt h1)) (times_p h0 h1) (.inr ⟨by simp;omega,fun W=>run_neg_g (by omega) W,fun W=>run_neg_g (by omega) W,self_h (by omega),self_h (by omega),self_h (by omega),fun W=>next_n (by omega) (by omega) W⟩)
end Go.Proofs.YtolefllepcdagaaGreat
