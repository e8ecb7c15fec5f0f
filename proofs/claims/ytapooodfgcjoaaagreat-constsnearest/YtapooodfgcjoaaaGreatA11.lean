/- Own work: contracts of the program's functions, part 11: BB2 BB3 BB4 BB6 SNP PX DL2 PQ PW PW2 PQ2 PZ PZ2 PX2 DL3 DE5. -/
import Derived.Test.YtapooodfgcjoaaaGreatA10
import Derived.Test.YtapooodfgcjoaaaGreatA4
import Derived.Test.YtapooodfgcjoaaaGreatA5
import Derived.Test.YtapooodfgcjoaaaGreatA9

set_option maxHeartbeats 16000000
set_option maxRecDepth 200000
set_option linter.unusedVariables false
set_option linter.unusedSimpArgs false
namespace Go.Proofs.YtapooodfgcjoaaaGreat
open Go.RowKit
theorem bbetween {a b c d:Nat} {w:World} (h1:a+c<18446744073709551616) (h2:b+d<18446744073709551616) :
  Calls Tryz.prog 88 #[.agg #[.int .u64 a,.int .u64 b],.agg #[.int .u64 c,.int .u64 d]] w fun r w'=>r=.returned (.agg #[.int .u64 ((a+c:Nat):Int),.int .u64 ((b+d:Nat):Int)])∧Bw w w':=by
 obtain⟨V,hV⟩:∃ V,V=(w.alloc (.cells #[.int .u64 a,.int .u64 b] 71)).alloc (.cells #[.int .u64 c,.int .u64 d] 71):=⟨_,rfl⟩
 have hbV:Bw w V:=by rw[hV];exact((Below.refl _ _).alloc (Nat.le_refl _) _).alloc (by simp) _
 have hsV:V.heap.size=w.heap.size+1+1:=by rw[hV];simp
 have ep:(a:Int)+(c:Int)=((a+c:Nat):Int):=by omega
 have eq:(b:Int)+(d:Int)=((b+d:Nat):Int):=by omega
 have wp:IntKind.u64.wrap ((a:Int)+(c:Int))=(a:Int)+(c:Int):=by rw[IntKind.wrap_u64];omega
 have wq:IntKind.u64.wrap ((b:Int)+(d:Int))=(b:Int)+(d:Int):=by rw[IntKind.wrap_u64];omega
 obtain⟨P,hP⟩:∃ P:Nat,P=a+c:=⟨_,rfl⟩
 obtain⟨Q,hQ⟩:∃ Q:Nat,Q=b+d:=⟨_,rfl⟩
 rw[←hP,←hQ]
 rw[←hP] at ep
 rw[←hQ] at eq
 have wP9:IntKind.u64.wrap (P:Int)=(P:Int):=by rw[IntKind.wrap_u64];omega
 have wQ9:IntKind.u64.wrap (Q:Int)=(Q:Int):=by rw[IntKind.wrap_u64];omega
 clear hP hQ
 go_enter Tryz.func88,Tryz.ntmps88
 go_wp2_with fail
 rw[←hV]
 refine bodyPost_ret (results_cell_row rfl _ _ (w.heap.size+1+1) 71 #[.int .u64 P,.int .u64 Q] (0,0) _ rfl (by rw[←hsV];exact FcB.new V _ _) Tryz.underlying71 rfl (by kernel_rfl)) rfl ?_
 exact⟨rfl,hbV.alloc hbV.size _⟩
theorem bmiddle {a b c d:Nat} {w:World} (h1:a*d+c*b<18446744073709551616) (h2:2*b*d<18446744073709551616) (h3:2*b<18446744073709551616) :
  Calls Tryz.prog 90 #[.agg #[.int .u64 a,.int .u64 b],.agg #[.int .u64 c,.int .u64 d]] w fun r w'=>r=.returned (.agg #[.int .u64 ((a*d+c*b:Nat):Int),.int .u64 ((2*b*d:Nat):Int)])∧Bw w w':=by
 obtain⟨V,hV⟩:∃ V,V=(w.alloc (.cells #[.int .u64 a,.int .u64 b] 71)).alloc (.cells #[.int .u64 c,.int .u64 d] 71):=⟨_,rfl⟩
 have hbV:Bw w V:=by rw[hV];exact((Below.refl _ _).alloc (Nat.le_refl _) _).alloc (by simp) _
 have hsV:V.heap.size=w.heap.size+1+1:=by rw[hV];simp
 have ep:(a:Int)*(d:Int)+(c:Int)*(b:Int)=((a*d+c*b:Nat):Int):=by rw[Int.natCast_add,Int.natCast_mul,Int.natCast_mul]
 have eq:2*(b:Int)*(d:Int)=((2*b*d:Nat):Int):=by rw[Int.natCast_mul,Int.natCast_mul];rfl
 have z0:0≤(a:Int)*(d:Int):=Int.mul_nonneg (by omega) (by omega)
 have z1:0≤(c:Int)*(b:Int):=Int.mul_nonneg (by omega) (by omega)
 have z2:0≤2*(b:Int)*(d:Int):=Int.mul_nonneg (by omega) (by omega)
 have wp1:IntKind.u64.wrap ((a:Int)*(d:Int))=(a:Int)*(d:Int):=by rw[IntKind.wrap_u64];omega
 have wp2:IntKind.u64.wrap ((c:Int)*(b:Int))=(c:Int)*(b:Int):=by rw[IntKind.wrap_u64];omega
 have wp:IntKind.u64.wrap ((a:Int)*(d:Int)+(c:Int)*(b:Int))=(a:Int)*(d:Int)+(c:Int)*(b:Int):=by rw[IntKind.wrap_u64];omega
 have wq1:IntKind.u64.wrap (2*(b:Int))=2*(b:Int):=by
  rw[IntKind.wrap_u64]
  omega
 have wq:IntKind.u64.wrap (2*(b:Int)*(d:Int))=2*(b:Int)*(d:Int):=by rw[IntKind.wrap_u64];omega
 obtain⟨P,hP⟩:∃ P:Nat,P=a*d+c*b:=⟨_,rfl⟩
 obtain⟨Q,hQ⟩:∃ Q:Nat,Q=2*b*d:=⟨_,rfl⟩
 rw[←hP,←hQ]
 rw[←hP] at ep
 rw[←hQ] at eq
 have wP9:IntKind.u64.wrap (P:Int)=(P:Int):=by rw[IntKind.wrap_u64];omega
 have wQ9:IntKind.u64.wrap (Q:Int)=(Q:Int):=by rw[IntKind.wrap_u64];omega
 clear hP hQ
 go_enter Tryz.func90,Tryz.ntmps90
 go_wp2_with fail
 rw[←hV]
 refine bodyPost_ret (results_cell_row rfl _ _ (w.heap.size+1+1) 71 #[.int .u64 P,.int .u64 Q] (0,0) _ rfl (by rw[←hsV];exact FcB.new V _ _) Tryz.underlying71 rfl (by kernel_rfl)) rfl ?_
 exact⟨rfl,hbV.alloc hbV.size _⟩
theorem results_c2t {P:Program} {fn:Func} {p q u:Tmp} {ty:TypeId} (h:fn.results = #[.cell p ty,.cell q ty,.tmp u]) (tmps:Array Value) (w:World) (g k:Nat) (t:TypeId) (cs ds:Array Value) (fr fs:Nat×Nat) (d:TypeDesc)
  (hp:tmps.getD p undef=.pointer (some ⟨g,0,none⟩)) (hq:tmps.getD q undef=.pointer (some ⟨k,0,none⟩)) (hg:w.heap[g]?=some (.cells cs t fr)) (hk:w.heap[k]?=some (.cells ds t fs))
  (hu:P.underlying ty=some d) (hd:(match d with | .struct _ | .array _ _=>true|_=>false)=true) (hi:(P.info? ty).map (·.size)=some cs.size) (hj:(P.info? ty).map (·.size)=some ds.size) :
  (results fn tmps).run P w=.ok (.tuple #[.agg cs,.agg ds,tmps.getD u undef]) w:=by
 have hp':tmps[p]?.getD undef=.pointer (some ⟨g,0,none⟩):=by simpa using hp
 have hq':tmps[q]?.getD undef=.pointer (some ⟨k,0,none⟩):=by simpa using hq
 simp[results,h,hp',hq',asAddr,run_loadVar_row w g t ty cs fr d hg hu hd hi,run_loadVar_row w k t ty ds fs d hk hu hd hj,Result.andThen]
theorem fcb_set {W:World} {g:Nat} {p s:Int} (h:FcB W g p s) (a b:Int):FcB ((W.setCell ⟨g,0,none⟩ (.int .u64 a)).setCell ⟨g,1,none⟩ (.int .u64 b)) g a b:=by
 unfold FcB at *
 simp[World.setCell,Array.getElem?_modify,h]
theorem fcb_other {W:World} {g k:Nat} {p s:Int} (h:FcB W k p s) (hk:k≠g) (a b:Value):FcB ((W.setCell ⟨g,0,none⟩ a).setCell ⟨g,1,none⟩ b) k p s:=by
 unfold FcB at *
 have h':¬ g=k:=fun e=>hk e.symm
 simp[World.setCell,Array.getElem?_modify,h',h]
theorem fc_info:(Tryz.prog.info? 71).map (·.size)=some 2:=by kernel_rfl
theorem bnarrowed {A:Value} {x y a b c d p s q:Nat} {up:Bool} {w:World} (h:Bd2 w A x y q) (hx:dlen x≤1000000) (hy:dlen y≤1000000) (hq:q≤1000000) (hp:p<18446744073709551616) (hs:s<18446744073709551616) (hc:if up then p*2^q≤x*s else(x*s<p*2^q∧y*s≤p*2^q)) :
  Calls Tryz.prog 87 #[A,.agg #[.int .u64 a,.int .u64 b],.agg #[.int .u64 c,.int .u64 d],.agg #[.int .u64 p,.int .u64 s]] w fun r w'=>r=.returned (.tuple #[.agg #[.int .u64 (if up then p else a),.int .u64 (if up then s else b)],.agg #[.int .u64 (if up then c else p),.int .u64 (if up then d else s)],.bool true])∧Bw w w':=by
 have kk:=fun W (hb:Bw w W)=>bagainst (h.later hb) hx hy hq hp hs hc
 obtain⟨a1,n1,c1,a2,n2,c2,rfl,i1,i2⟩:=h
 clear hx hy hq hp hs hc i1 i2
 obtain⟨V1,hV1⟩:∃ V,V=w.alloc (.cells #[.slice a1 n1 c1,.slice a2 n2 c2,.int .i64 q] 64):=⟨_,rfl⟩
 obtain⟨V2,hV2⟩:∃ V,V=V1.alloc (.cells #[.int .u64 a,.int .u64 b] 71):=⟨_,rfl⟩
 obtain⟨V3,hV3⟩:∃ V,V=V2.alloc (.cells #[.int .u64 c,.int .u64 d] 71):=⟨_,rfl⟩
 obtain⟨V4,hV4⟩:∃ V,V=V3.alloc (.cells #[.int .u64 p,.int .u64 s] 71):=⟨_,rfl⟩
 obtain⟨V5,hV5⟩:∃ V,V=V4.alloc (.cells #[.int .u64 0,.int .u64 0] 71):=⟨_,rfl⟩
 obtain⟨V6,hV6⟩:∃ V,V=V5.alloc (.cells #[.int .u64 0,.int .u64 0] 71):=⟨_,rfl⟩
 have z1:V1.heap.size=w.heap.size+1:=by rw[hV1];simp
 have z2:V2.heap.size=w.heap.size+1+1:=by rw[hV2];simp[z1]
 have z3:V3.heap.size=w.heap.size+1+1+1:=by rw[hV3];simp[z2]
 have z4:V4.heap.size=w.heap.size+1+1+1+1:=by rw[hV4];simp[z3]
 have z5:V5.heap.size=w.heap.size+1+1+1+1+1:=by rw[hV5];simp[z4]
 have b1:Bw w V1:=by rw[hV1];exact(Below.refl _ _).alloc (Nat.le_refl _) _
 have b2:Bw V1 V2:=by rw[hV2];exact(Below.refl _ _).alloc (Nat.le_refl _) _
 have b3:Bw V2 V3:=by rw[hV3];exact(Below.refl _ _).alloc (Nat.le_refl _) _
 have b4:Bw V3 V4:=by rw[hV4];exact(Below.refl _ _).alloc (Nat.le_refl _) _
 have b5:Bw V4 V5:=by rw[hV5];exact(Below.refl _ _).alloc (Nat.le_refl _) _
 have b6:Bw V5 V6:=by rw[hV6];exact(Below.refl _ _).alloc (Nat.le_refl _) _
 have f2:FcB V2 (w.heap.size+1) a b:=by rw[hV2,←z1];exact FcB.new _ _ _
 have f3:FcB V3 (w.heap.size+1+1) c d:=by rw[hV3,←z2];exact FcB.new _ _ _
 have f4:FcB V4 (w.heap.size+1+1+1) p s:=by rw[hV4,←z3];exact FcB.new _ _ _
 have f5:FcB V5 (w.heap.size+1+1+1+1) 0 0:=by rw[hV5,←z4];exact FcB.new _ _ _
 have f6:FcB V6 (w.heap.size+1+1+1+1+1) 0 0:=by rw[hV6,←z5];exact FcB.new _ _ _
 have bb:Bw w V6:=by
  have c2:=b1.trans (b2.mono b1.size)
  have c3:=c2.trans (b3.mono c2.size)
  have c4:=c3.trans (b4.mono c3.size)
  have c5:=c4.trans (b5.mono c4.size)
  exact c5.trans (b6.mono c5.size)
 have HXB:Hid (BdB V6 w.heap.size a1 n1 c1 a2 n2 c2 q):=by
  have g1:BdB V1 w.heap.size a1 n1 c1 a2 n2 c2 q:=by rw[hV1];exact BdB.new _ _ _ _ _ _ _ _
  exact((((g1.box b2).box b3).box b4).box b5).box b6
 have HX:Hid (FcB V6 (w.heap.size+1) a b∧FcB V6 (w.heap.size+1+1) c d∧FcB V6 (w.heap.size+1+1+1) p s∧FcB V6 (w.heap.size+1+1+1+1) 0 0∧FcB V6 (w.heap.size+1+1+1+1+1) 0 0∧Bw w V6):=⟨((((f2.box b3).box b4).box b5).box b6),(((f3.box b4).box b5).box b6),((f4.box b5).box b6),f5.box b6,f6,bb⟩
 have k1:=kk V6 bb
 rw[hV5,hV4,hV3,hV2,hV1] at hV6
 clear kk z1 z2 z3 z4 z5 b1 b2 b3 b4 b5 b6 f2 f3 f4 f5 f6 bb hV1 hV2 hV3 hV4 hV5
 obtain⟨⟨y0,y1⟩,-⟩:=HX.out.2.2.1.facts
 go_enter Tryz.func87,Tryz.ntmps87
 go_upto_region 1 with fail
 rw[←hV6]
 clear hV6
 obtain⟨⟨x0,x1,x2⟩,-⟩:=HXB.out.facts
 go_wp2_with fail
 refine k1.mono ?_
 rintro r w2 ⟨rfl,hb2⟩
 have HY:Hid (FcB w2 (w.heap.size+1) a b∧FcB w2 (w.heap.size+1+1) c d∧FcB w2 (w.heap.size+1+1+1) p s∧FcB w2 (w.heap.size+1+1+1+1) 0 0∧FcB w2 (w.heap.size+1+1+1+1+1) 0 0∧Bw w w2):=⟨HX.out.1.box hb2,HX.out.2.1.box hb2,HX.out.2.2.1.box hb2,HX.out.2.2.2.1.box hb2,HX.out.2.2.2.2.1.box hb2,HX.out.2.2.2.2.2.trans (hb2.mono HX.out.2.2.2.2.2.size)⟩
 clear k1 hb2 HX HXB y0 y1 x0 x1 x2
 obtain⟨⟨y0,y1⟩,-⟩:=HY.out.1.facts
 obtain⟨⟨y2,y3⟩,-⟩:=HY.out.2.1.facts
 obtain⟨⟨y4,y5⟩,-⟩:=HY.out.2.2.1.facts
 obtain⟨⟨y6,y7⟩,y8,y9⟩:=HY.out.2.2.2.1.facts
 obtain⟨⟨z6,z7⟩,z8,z9⟩:=HY.out.2.2.2.2.1.facts
 cases up
 ·go_wp2_with fail
  have HK:Hid (∀ w',Bw w2 w'→w'.cell? ⟨w.heap.size+1,0,none⟩=some (.int .u64 a)∧w'.cell? ⟨w.heap.size+1,1,none⟩=some (.int .u64 b)∧w'.cell? ⟨w.heap.size+1+1+1,0,none⟩=some (.int .u64 p)∧w'.cell? ⟨w.heap.size+1+1+1,1,none⟩=some (.int .u64 s)):=fun w' hb=>⟨(HY.out.1.box hb).facts.1.1,(HY.out.1.box hb).facts.1.2,(HY.out.2.2.1.box hb).facts.1.1,(HY.out.2.2.1.box hb).facts.1.2⟩
  have hRr:Bw w2 w2.drew:=(Below.refl _ _).drew
  go_region_held3 (fun w'=>w'.cell? ⟨w.heap.size+1,0,none⟩=some (.int .u64 a)∧w'.cell? ⟨w.heap.size+1,1,none⟩=some (.int .u64 b)∧w'.cell? ⟨w.heap.size+1+1+1,0,none⟩=some (.int .u64 p)∧w'.cell? ⟨w.heap.size+1+1+1,1,none⟩=some (.int .u64 s)) (first|(with_reducible assumption)|exact HK.out _ hRr|(refine⟨?_,?_,?_,?_⟩ <;> (change World.cell? (World.setCell (World.setCell _ _ _) _ _) _=_;rw[World.cell?_setCell_other _ _ _ _ (by simp),World.cell?_setCell_other _ _ _ _ (by simp)];first|exact y0|exact y1|exact y4|exact y5))|(refine⟨?_,?_,?_,?_⟩ <;> (change World.cell? (World.setCell (World.setCell (World.setCell (World.setCell _ _ _) _ _) _ _) _ _) _=_;rw[World.cell?_setCell_other _ _ _ _ (by simp),World.cell?_setCell_other _ _ _ _ (by simp),World.cell?_setCell_other _ _ _ _ (by simp),World.cell?_setCell_other _ _ _ _ (by simp)];first|exact y0|exact y1|exact y4|exact y5))) (fail)
  go_wp2_with fail
  refine bodyPost_ret (results_c2t rfl _ _ (w.heap.size+1+1+1+1) (w.heap.size+1+1+1+1+1) 71 #[.int .u64 a,.int .u64 b] #[.int .u64 p,.int .u64 s] (0,0) (0,0) _ rfl rfl (fcb_other (fcb_set HY.out.2.2.2.1 _ _) (by omega) _ _) (fcb_set (fcb_other HY.out.2.2.2.2.1 (by omega) _ _) _ _) Tryz.underlying71 rfl fc_info fc_info) rfl ?_
  exact⟨rfl,(below_set (below_set HY.out.2.2.2.2.2 (by omega) _ _) (by omega) _ _).drew⟩
 ·go_wp2_with fail
  have HK:Hid (∀ w',Bw w2 w'→w'.cell? ⟨w.heap.size+1+1,0,none⟩=some (.int .u64 c)∧w'.cell? ⟨w.heap.size+1+1,1,none⟩=some (.int .u64 d)∧w'.cell? ⟨w.heap.size+1+1+1,0,none⟩=some (.int .u64 p)∧w'.cell? ⟨w.heap.size+1+1+1,1,none⟩=some (.int .u64 s)):=fun w' hb=>⟨(HY.out.2.1.box hb).facts.1.1,(HY.out.2.1.box hb).facts.1.2,(HY.out.2.2.1.box hb).facts.1.1,(HY.out.2.2.1.box hb).facts.1.2⟩
  have hRr:Bw w2 w2.drew:=(Below.refl _ _).drew
  go_region_held3 (fun w'=>w'.cell? ⟨w.heap.size+1+1,0,none⟩=some (.int .u64 c)∧w'.cell? ⟨w.heap.size+1+1,1,none⟩=some (.int .u64 d)∧w'.cell? ⟨w.heap.size+1+1+1,0,none⟩=some (.int .u64 p)∧w'.cell? ⟨w.heap.size+1+1+1,1,none⟩=some (.int .u64 s)) (first|(with_reducible assumption)|exact HK.out _ hRr|(refine⟨?_,?_,?_,?_⟩ <;> (change World.cell? (World.setCell (World.setCell _ _ _) _ _) _=_;rw[World.cell?_setCell_other _ _ _ _ (by simp),World.cell?_setCell_other _ _ _ _ (by simp)];first|exact y2|exact y3|exact y4|exact y5))|(refine⟨?_,?_,?_,?_⟩ <;> (change World.cell? (World.setCell (World.setCell (World.setCell (World.setCell _ _ _) _ _) _ _) _ _) _=_;rw[World.cell?_setCell_other _ _ _ _ (by simp),World.cell?_setCell_other _ _ _ _ (by simp),World.cell?_setCell_other _ _ _ _ (by simp),World.cell?_setCell_other _ _ _ _ (by simp)];first|exact y2|exact y3|exact y4|exact y5))) (fail)
  go_wp2_with fail
  refine bodyPost_ret (results_c2t rfl _ _ (w.heap.size+1+1+1+1) (w.heap.size+1+1+1+1+1) 71 #[.int .u64 p,.int .u64 s] #[.int .u64 c,.int .u64 d] (0,0) (0,0) _ rfl rfl (fcb_other (fcb_set HY.out.2.2.2.1 _ _) (by omega) _ _) (fcb_set (fcb_other HY.out.2.2.2.2.1 (by omega) _ _) _ _) Tryz.underlying71 rfl fc_info fc_info) rfl ?_
  exact⟨rfl,(below_set (below_set HY.out.2.2.2.2.2 (by omega) _ _) (by omega) _ _).drew⟩
def upK (k p q:Nat):Bool:=Nat.ble (p*2^(Z0+kq k)) (kM k*q)
def setl (k p q:Nat):Bool :=
 Nat.ble (p*2^(Z0+kq k)+kG k*q*2^(Z0 - 128)) (kM k*q)||Nat.blt (kM k*q+kG k*q*2^(Z0 - 128)) (p*2^(Z0+kq k))
def wayK (k:Nat):Nat→Nat→Nat→Nat→Nat→Bool
 | 0,_,_,_,_=>false
 | n+1,a,b,c,d =>
  Nat.ble b 1073741824&&Nat.ble d 1073741824&&Nat.ble a 7516192768&&Nat.ble c 7516192768&&Nat.ble 1 b&&Nat.ble 1 d&&Nat.beq (b*c) (a*d+1) &&
   setl k a b&&upK k a b&&setl k c d && !upK k c d&&setl k (a*d+c*b) (2*b*d) &&
    (Nat.blt 1073741824 (b+d)||setl k (a+c) (b+d)&&bif upK k (a+c) (b+d)then wayK k n (a+c) (b+d) c d else wayK k n a b (a+c) (b+d))
def whK (k:Nat):Nat:=kM k / 2^(Z0+kq k)
theorem way_k {k:Nat} (h1:1≤k) (h8:k≤8):wayK k 400 (whK k) 1 (whK k+1) 1=true:=by
 rcases(by omega:k=1∨k=2∨k=3∨k=4∨k=5∨k=6∨k=7∨k=8)with rfl|rfl|rfl|rfl|rfl|rfl|rfl|rfl <;> decide +kernel
theorem btwn {a b c d p q:Int} (n:b*c=a*d+1) (hb:0<b) (hd:0<d) (h1:a*q<p*b) (h2:p*d<c*q):b+d≤q:=by
 have e:q=b*(c*q - p*d)+d*(p*b - a*q):=by
  have e1:b*(c*q - p*d)+d*(p*b - a*q)=q*(b*c) - q*(a*d):=by grind
  rw[e1,n,Int.mul_add]
  omega
 have u1:b*1≤b*(c*q - p*d):=Int.mul_le_mul_of_nonneg_left (by omega) (by omega)
 have u2:d*1≤d*(p*b - a*q):=Int.mul_le_mul_of_nonneg_left (by omega) (by omega)
 rw[e]
 omega
theorem setl_num {lo hi M G K P p q T:Nat} (hK:0<K) (x1:lo*K≤M) (x2:M≤hi*K) (x4:hi≤lo+G) (hT:T=P*K) :
  (p*T+G*q*K≤M*q→p*P≤lo*q)∧(M*q+G*q*K<p*T→lo*q<p*P∧hi*q≤p*P):=by
 have a:hi*K≤(lo+G)*K:=Nat.mul_le_mul_right _ x4
 have b1:lo*K*q≤M*q:=Nat.mul_le_mul_right _ x1
 have b2:M*q≤hi*K*q:=Nat.mul_le_mul_right _ x2
 have b3:hi*K*q≤(lo+G)*K*q:=Nat.mul_le_mul_right _ a
 have e1:(lo+G)*K*q=lo*q*K+G*q*K:=by grind
 have e2:hi*K*q=hi*q*K:=by grind
 have e3:lo*K*q=lo*q*K:=by grind
 have e4:p*T=p*P*K:=by rw[hT,Nat.mul_assoc]
 rw[e1] at b3
 rw[e2] at b2 b3
 rw[e3] at b1
 rw[e4]
 refine⟨fun h=>?_,fun h=>⟨?_,?_⟩⟩
 ·have:p*P*K≤lo*q*K:=by omega
  exact Nat.le_of_mul_le_mul_right this hK
 ·have:lo*q*K<p*P*K:=by omega
  exact Nat.lt_of_mul_lt_mul_right this
 ·have:hi*q*K≤p*P*K:=by omega
  exact Nat.le_of_mul_le_mul_right this hK
theorem setl_ag {k lo hi p q:Nat} (h1:1≤k) (h8:k≤8) (hB:Brk Z0 128 lo hi (kM k) (kG k)) (h:setl k p q=true):if upK k p q then p*2^(128+kq k)≤lo*q else(lo*q<p*2^(128+kq k)∧hi*q≤p*2^(128+kq k)):=by
 have hz:=Z0_eq
 have hT:2^(Z0+kq k)=2^(128+kq k)*2^(Z0 - 128):=(congrArg (fun e=>2^e) (show Z0+kq k=128+kq k+(Z0 - 128) by omega)).trans (Nat.pow_add 2 _ _)
 have hn:=setl_num (p:=p) (q:=q) (Nat.two_pow_pos (Z0 - 128)) hB.low hB.high hB.gap hT
 unfold setl at h
 rw[Bool.or_eq_true] at h
 unfold upK
 rcases h with h|h
 ·have h':=Nat.le_of_ble_eq_true h
  have hu:Nat.ble (p*2^(Z0+kq k)) (kM k*q)=true:=Nat.ble_eq_true_of_le (by omega)
  rw[hu,if_pos rfl]
  exact hn.1 h'
 ·have h':kM k*q+kG k*q*2^(Z0 - 128)<p*2^(Z0+kq k):=Nat.le_of_ble_eq_true h
  have hu:Nat.ble (p*2^(Z0+kq k)) (kM k*q)=false:=by
   rw[Bool.eq_false_iff]
   intro hh
   have:=Nat.le_of_ble_eq_true hh
   omega
  rw[hu,if_neg (by decide)]
  exact hn.2 h'
def endK (k most:Nat):Nat→Nat→Nat→Nat→Nat→Nat×Nat
 | 0,a,b,_,_=>(a,b)
 | n+1,a,b,c,d =>
  bif Nat.ble (b+d) most then(bif upK k (a+c) (b+d)then endK k most n (a+c) (b+d) c d else endK k most n a b (a+c) (b+d))
  else bif upK k (a*d+c*b) (2*b*d) then(c,d) else(a,b)
structure Way (k n a b c d:Nat):Prop where
 b1:b≤1073741824
 d1:d≤1073741824
 a1:a≤7516192768
 c1:c≤7516192768
 b0:1≤b
 d0:1≤d
 nb:b*c=a*d+1
 sl:setl k a b=true
 ul:upK k a b=true
 sr:setl k c d=true
 ur:upK k c d=false
 sm:setl k (a*d+c*b) (2*b*d)=true
 nx:1073741824<b+d∨setl k (a+c) (b+d)=true∧(upK k (a+c) (b+d)=true→wayK k n (a+c) (b+d) c d=true)∧(upK k (a+c) (b+d)=false→wayK k n a b (a+c) (b+d)=true)
theorem way_of {k n a b c d:Nat} (h:wayK k (n+1) a b c d=true):Way k n a b c d:=by
 unfold wayK at h
 simp only[Bool.and_eq_true,Bool.or_eq_true,Bool.not_eq_true'] at h
 obtain⟨⟨⟨⟨⟨⟨⟨⟨⟨⟨⟨⟨h1,h2⟩,h3⟩,h4⟩,h5⟩,h6⟩,h7⟩,h8⟩,h9⟩,h10⟩,h11⟩,h12⟩,h13⟩:=h
 refine⟨Nat.le_of_ble_eq_true h1,Nat.le_of_ble_eq_true h2,Nat.le_of_ble_eq_true h3,Nat.le_of_ble_eq_true h4,Nat.le_of_ble_eq_true h5,Nat.le_of_ble_eq_true h6,Nat.eq_of_beq_eq_true h7,h8,h9,h10,h11,h12,?_⟩
 rcases h13 with h|⟨h,h'⟩
 ·exact .inl (Nat.le_of_ble_eq_true h)
 ·refine .inr ⟨h,fun hu=>?_,fun hu=>?_⟩
  ·rw[hu] at h';exact h'
  ·rw[hu] at h';exact h'
theorem setl_lt {lo hi M G K P p q T:Nat} (hK:0<K) (x1:lo*K≤M) (x4:hi≤lo+G) (hT:T=P*K) (h:M*q+G*q*K<p*T):hi*q<p*P:=by
 have a:hi*K≤(lo+G)*K:=Nat.mul_le_mul_right _ x4
 have b1:lo*K*q≤M*q:=Nat.mul_le_mul_right _ x1
 have b3:hi*K*q≤(lo+G)*K*q:=Nat.mul_le_mul_right _ a
 have e1:(lo+G)*K*q=lo*K*q+G*q*K:=by grind
 have e2:hi*K*q=hi*q*K:=by grind
 have e4:p*T=p*P*K:=by rw[hT,Nat.mul_assoc]
 rw[e4] at h
 rw[e1,e2] at b3
 have:hi*q*K<p*P*K:=by omega
 exact Nat.lt_of_mul_lt_mul_right this
theorem wh_k {k lo hi:Nat} (h1:1≤k) (h8:k≤8) (hB:Brk Z0 128 lo hi (kM k) (kG k)):lo*1 / 2^(128+kq k)=whK k∧hi*1 / 2^(128+kq k)=whK k:=by
 have hw:=way_of (n:=399) (way_k h1 h8)
 have hz:=Z0_eq
 have hT:2^(Z0+kq k)=2^(128+kq k)*2^(Z0 - 128):=(congrArg (fun e=>2^e) (show Z0+kq k=128+kq k+(Z0 - 128) by omega)).trans (Nat.pow_add 2 _ _)
 have l:=setl_ag h1 h8 hB hw.sl
 rw[hw.ul,if_pos rfl] at l
 have hs:=hw.sr
 unfold setl at hs
 rw[Bool.or_eq_true] at hs
 have hr:hi*1<(whK k+1)*2^(128+kq k):=by
  rcases hs with hs|hs
  ·have hu:upK k (whK k+1) 1=true:=by
    unfold upK
    have:=Nat.le_of_ble_eq_true hs
    exact Nat.ble_eq_true_of_le (by omega)
   rw[hw.ur] at hu
   cases hu
  ·have h':kM k*1+kG k*1*2^(Z0 - 128)<(whK k+1)*2^(Z0+kq k):=Nat.le_of_ble_eq_true hs
   exact setl_lt (Nat.two_pow_pos (Z0 - 128)) hB.low hB.gap hT h'
 have hle:=hB.le
 exact⟨Nat.div_eq_of_lt_le l (by omega),Nat.div_eq_of_lt_le (by omega) hr⟩
theorem bfloor1 {k lo hi:Nat} {A U:Value} {w:World} (h1:1≤k) (h8:k≤8) (hB:Brk Z0 128 lo hi (kM k) (kG k)) (hA:Bd2 w A lo hi ((128+kq k:Nat):Int)) (hU:Is w U 1) (hx:dlen lo≤1000000) (hy:dlen hi≤1000000) :
  Calls Tryz.prog 27 #[A,U] w fun r w'=>∃ ao l cap,r=.returned (.tuple #[.slice ao l cap,.bool true])∧Is w' (.slice ao l cap) (whK k)∧Bw w w':=by
 obtain⟨e1,e2⟩:=wh_k h1 h8 hB
 have hq:kq k≤1:=(tk_num h1 h8).2.2.2.2.1
 refine(bfloor (q:=128+kq k) hA hU hx hy (Nat.le_trans ((dlen_le 1 1).2 (by decide)) (by decide)) (by omega)).mono ?_
 rintro r w' ⟨ao,l,cap,e,hi',hb⟩
 rw[e1,e2,decide_eq_true rfl] at e
 rw[e1] at hi'
 exact⟨ao,l,cap,e,hi',hb⟩
structure ParZ (W0:World) (a0:Act) (m n:Nat) (slot bx:Nat→Tmp) (vs:Nat→Nat) (T:TypeId) (zs:Array Value) (V:Nat→World→Value→Prop) (listed:Array Bool) (a:Act) (w:World):Prop where
 below:Bw W0 w
 size:a.tmps.size=a0.tmps.size
 defers:a.defers=a0.defers
 other:∀ s,(∀ j,j<m→s≠slot j)→(∀ k,k<n→s≠bx k)→a.tmps[s]?=a0.tmps[s]?
 val:∀ j,j<m→listed.getD j false=true→∃ u,a.tmps[slot j]?=some u∧V j w u
 box:∀ k,k<n→listed.getD (m+k) false=true→∃ g cs,a.tmps[bx k]?=some (.pointer (some ⟨g,0,none⟩))∧W0.heap.size≤g∧w.heap[g]?=some (.cells cs T (0,0))∧cs.size=zs.size ∧
  (listed.getD (m+n+k) false=true→a.tmps[slot (vs k)]?=some (.agg cs))∧(listed.getD (m+n+k) false=false→cs=zs)
 apart:∀ k k',k<n→k'<n→k≠k'→listed.getD (m+k) false=true→listed.getD (m+k') false=true→a.tmps[bx k]?≠a.tmps[bx k']?
 stored:∀ k,k<n→listed.getD (m+n+k) false=true→listed.getD (m+k) false=true∧listed.getD (vs k) false=true
theorem parz_region {P:Program} {ops:Array Oper} {Q:Exit→Act→World→Prop} {id:Nat} (hm:P.follows .mixedOrders=true) (m n:Nat) (slot bx:Nat→Tmp) (vs:Nat→Nat) (dep:Nat→List Nat) (T:TypeId) (zs:Array Value)
  (W0:World) (a0:Act) (V:Nat→World→Value→Prop) (hsz:ops.size=m+n+n)
  (hord:∀ (i:Nat) (o:Oper),ops[i]?=some o→∀ e ∈ o.after,e.on<i)
  (hV1:∀ j w w' u,Bw w w'→V j w u→V j w' u)
  (hV2:∀ j w u g cs',w.heap[g]?=some (.cells zs T (0,0))→V j w u→V j (w.setRow g cs') u)
  (hVs:∀ k,k<n→∀ w u,V (vs k) w u→∃ cs:Array Value,u=.agg cs∧cs.size=zs.size∧cs.all (·.oneCell')=true)
  (hdep:∀ j,j<m→∀ j' ∈ dep j,j'<m∧∀ o,ops[j]?=some o→∃ e ∈ o.after,e.on=j'∧Region.binds .any e=true)
  (hA:∀ j,j<m→∀ (a:Act) (w:World),Bw W0 w→(∀ s,(∀ j,j<m→s≠slot j)→(∀ k,k<n→s≠bx k)→a.tmps[s]?=a0.tmps[s]?) →
   (∀ j' ∈ dep j,∃ u,a.tmps[slot j']?=some u∧V j' w u)→wpOp P ops Q j (fun a' w'=>∃ u,a'=a.put (some (slot j)) u∧V j w' u∧Bw w w') a w)
  (hal:∀ k,k<n→∃ o,ops[m+k]?=some o∧o.guard=none∧o.op=.alloc T∧o.dst=some (bx k))
  (hz:∀ w,(zeroValue T).run P w=.ok (.agg zs) w) (hi:(P.info? T).map (·.size)=some zs.size)
  (hst:∀ k,k<n→vs k<m∧∃ o,ops[m+n+k]?=some o∧o.guard=none∧o.op=.store T (.tmp (bx k)) (.tmp (slot (vs k)))∧o.dst=none∧(∃ e ∈ o.after,e.on=m+k∧Region.binds .any e=true)∧(∃ e ∈ o.after,e.on=vs k∧Region.binds .any e=true))
  (hin:∀ j,j<m→slot j<a0.tmps.size) (hbin:∀ k,k<n→bx k<a0.tmps.size)
  (hinj:∀ j j',j<m→j'<m→slot j=slot j'→j=j') (hbinj:∀ k k',k<n→k'<n→bx k=bx k'→k=k') (hsb:∀ j k,j<m→k<n→slot j≠bx k)
  (hQ:∀ (u:Nat→Value) (g:Nat→Nat) (a:Act) (w:World),Bw W0 w→(∀ j,j<m→a.tmps[slot j]?=some (u j)∧V j w (u j)) →
   (∀ k,k<n→a.tmps[bx k]?=some (.pointer (some ⟨g k,0,none⟩))∧W0.heap.size≤g k∧∃ cs,u (vs k)=.agg cs∧w.heap[g k]?=some (.cells cs T (0,0))) →
   a.tmps.size=a0.tmps.size→a.defers=a0.defers→(∀ s,(∀ j,j<m→s≠slot j)→(∀ k,k<n→s≠bx k)→a.tmps[s]?=a0.tmps[s]?)→Q .normal a w) :
  (Code.region id ops true).wp P Q a0 W0:=by
 refine wp_region_any hm ?_
 refine wpAny_inv (ParZ W0 a0 m n slot bx vs T zs V) ?_ ?_ ops.size _ a0 _ (by simp) ?_ (by simp)
 ·-- a step
  intro listed a w i hl hI hr
  obtain⟨hun,o,ho,hall⟩:=mem_ready.1 hr
  have hunf:=not_listed hun
  have hio:i<ops.size:=(Array.getElem?_eq_some_iff.1 ho).1
  have hil:i<listed.size:=by omega
  have hset:=listed_set hil
  have hne:∀ x,x≠i→(listed.setIfInBounds i true).getD x false=listed.getD x false:=fun x hx=>getD_set_ne false (Ne.symm hx)
  have hpart:i<m∨(∃ k,k<n∧i=m+k)∨∃ k,k<n∧i=m+n+k:=by
   by_cases h1:i<m
   ·exact .inl h1
   ·by_cases h2:i<m+n
    ·exact .inr (.inl ⟨i - m,by omega,by omega⟩)
    ·exact .inr (.inr ⟨i - m - n,by omega,by omega⟩)
  rcases hpart with him|⟨k,hk,rfl⟩|⟨k,hk,rfl⟩
  ·refine wpOp_mono ?_ (hA i him a w hI.below hI.other fun j' hj'=>?_)
   ·rintro a' w' ⟨u,rfl,hu,hb⟩
    have hlt:slot i<a.tmps.size:=by rw[hI.size];exact hin i him
    refine⟨hI.below.trans (hb.mono hI.below.size),by rw[put_size];exact hI.size,by rw[put_defers];exact hI.defers,fun s h1 h2=>?_,fun j hj h1=>?_,fun k hk h1=>?_,fun k k' hk hk' hkk h1 h2=>?_,fun k hk h1=>?_⟩
    ·rw[put_get_ne (h1 i him)];exact hI.other s h1 h2
    ·by_cases e:j=i
     ·subst e;exact⟨u,put_get hlt,hu⟩
     ·rw[hne j e] at h1
      obtain⟨u',g1,g2⟩:=hI.val j hj h1
      exact⟨u',by rw[put_get_ne (fun e2=>e (hinj j i hj him e2))];exact g1,hV1 _ _ _ _ hb g2⟩
    ·rw[hne _ (by omega)] at h1
     obtain⟨g,cs,g1,g2,g3,g4,g5,g6⟩:=hI.box k hk h1
     refine⟨g,cs,by rw[put_get_ne (Ne.symm (hsb i k him hk))];exact g1,g2,(hb.block g (Array.getElem?_eq_some_iff.1 g3).1).trans g3,g4,fun h2=>?_,fun h2=>g6 (by rw[←hne (m+n+k) (by omega)];exact h2)⟩
     rw[hne _ (by omega)] at h2
     have h3:=(hI.stored k hk h2).2
     have h4:vs k≠i:=fun e=>by rw[e,hunf] at h3;cases h3
     rw[put_get_ne (fun e2=>h4 (hinj _ _ (hst k hk).1 him e2))]
     exact g5 h2
    ·rw[hne _ (by omega)] at h1 h2
     rw[put_get_ne (Ne.symm (hsb i k him hk)),put_get_ne (Ne.symm (hsb i k' him hk'))]
     exact hI.apart k k' hk hk' hkk h1 h2
    ·rw[hne _ (by omega)] at h1
     obtain⟨h2,h3⟩:=hI.stored k hk h1
     exact⟨by rw[hne _ (by omega)];exact h2,getD_set_true h3⟩
   ·obtain⟨h1,h2⟩:=hdep i him j' hj'
    obtain⟨e,he,rfl,hbd⟩:=h2 o ho
    exact hI.val _ h1 (hall e he hbd)
  ·obtain⟨o',ho',hg,hop,hd⟩:=hal k hk
   refine step_alloc ho' hg hop hz ?_
   rw[hd]
   have hlt:bx k<a.tmps.size:=by rw[hI.size];exact hbin k hk
   have hbw:Below w.heap.size w (w.alloc (.cells zs T)):=(Below.refl _ _).alloc (Nat.le_refl _) _
   refine⟨hI.below.trans (hbw.mono hI.below.size),by rw[put_size];exact hI.size,by rw[put_defers];exact hI.defers,fun s h1 h2=>?_,fun j hj h1=>?_,fun k1 hk1 h1=>?_,fun k1 k2 hk1 hk2 hkk h1 h2=>?_,fun k1 hk1 h1=>?_⟩
   ·rw[put_get_ne (h2 k hk)];exact hI.other s h1 h2
   ·rw[hne j (by omega)] at h1
    obtain⟨u',g1,g2⟩:=hI.val j hj h1
    exact⟨u',by rw[put_get_ne (hsb j k hj hk)];exact g1,hV1 _ _ _ _ hbw g2⟩
   ·by_cases e:k1=k
    ·subst e
     refine⟨w.heap.size,zs,put_get hlt,hI.below.size,heap_alloc_new _ _,rfl,fun h2=>?_,fun _=>rfl⟩
     rw[hne _ (by omega)] at h2
     have:=(hI.stored k1 hk h2).1
     rw[hunf] at this
     cases this
    ·rw[hne _ (by omega)] at h1
     obtain⟨g,cs,g1,g2,g3,g4,g5,g6⟩:=hI.box k1 hk1 h1
     refine⟨g,cs,by rw[put_get_ne (fun e2=>e (hbinj _ _ hk1 hk e2))];exact g1,g2,(hbw.block g (Array.getElem?_eq_some_iff.1 g3).1).trans g3,g4,fun h2=>?_,fun h2=>g6 (by rw[←hne (m+n+k1) (by omega)];exact h2)⟩
     rw[hne _ (by omega)] at h2
     rw[put_get_ne (hsb _ k (hst k1 hk1).1 hk)]
     exact g5 h2
   ·have old:∀ k1,k1<n→k1≠k→listed.getD (m+k1) false=true→a.tmps[bx k1]?≠some (.pointer (some ⟨w.heap.size,0,none⟩)):=fun k1 hk1 e h1 h2=>by
     obtain⟨g,cs,g1,g2,g3,g4,g5,g6⟩:=hI.box k1 hk1 h1
     have hlt:=(Array.getElem?_eq_some_iff.1 g3).1
     rw[g1] at h2
     simp only[Option.some.injEq,Value.pointer.injEq,Addr.mk.injEq] at h2
     omega
    by_cases e1:k1=k
    ·subst e1
     rw[hne _ (by omega)] at h2
     rw[put_get hlt,put_get_ne (fun e2=>hkk (hbinj _ _ hk hk2 e2.symm))]
     exact Ne.symm (old k2 hk2 (Ne.symm hkk) h2)
    ·rw[hne _ (by omega)] at h1
     by_cases e2:k2=k
     ·subst e2
      rw[put_get hlt,put_get_ne (fun e2=>e1 (hbinj _ _ hk1 hk e2))]
      exact old k1 hk1 e1 h1
     ·rw[hne _ (by omega)] at h2
      rw[put_get_ne (fun e3=>e1 (hbinj _ _ hk1 hk e3)),put_get_ne (fun e3=>e2 (hbinj _ _ hk2 hk e3))]
      exact hI.apart k1 k2 hk1 hk2 hkk h1 h2
   ·rw[hne _ (by omega)] at h1
    obtain⟨h2,h3⟩:=hI.stored k1 hk1 h1
    exact⟨getD_set_true h2,getD_set_true h3⟩
  ·obtain⟨hvm,o',ho',hg,hop,hd,⟨e1,he1,hon1,hb1⟩,e2,he2,hon2,hb2⟩:=hst k hk
   obtain rfl:o'=o:=Option.some.inj (ho'.symm.trans ho)
   have l1:=hall e1 he1 hb1
   have l2:=hall e2 he2 hb2
   rw[hon1] at l1
   rw[hon2] at l2
   obtain⟨u,hu1,hu2⟩:=hI.val _ hvm l2
   obtain⟨cs,rfl,hc1,hc2⟩:=hVs k hk w u hu2
   obtain⟨g,old,g1,g2,g3,g4,g5,g6⟩:=hI.box k hk l1
   rw[g6 hunf] at g3 g4
   refine step_store ho' hg hop g1 hu1 g3 (by rw[hc1];exact hi) (by omega) hc2 ?_
   rw[hd]
   show ParZ W0 a0 m n slot bx vs T zs V _ a _
   refine⟨below_row hI.below g2 _,hI.size,hI.defers,hI.other,fun j hj h1=>?_,fun k1 hk1 h1=>?_,fun k1 k2 hk1 hk2 hkk h1 h2=>?_,fun k1 hk1 h1=>?_⟩
   ·rw[hne j (by omega)] at h1
    obtain⟨u',q1,q2⟩:=hI.val j hj h1
    exact⟨u',q1,hV2 _ _ _ _ _ g3 q2⟩
   ·rw[hne _ (by omega)] at h1
    by_cases e:k1=k
    ·subst e
     exact⟨g,cs,g1,g2,setRow_heap w g _ cs T _ g3,hc1,fun _=>hu1,fun h2=>by rw[hset] at h2;cases h2⟩
    ·obtain⟨g',cs',q1,q2,q3,q4,q5,q6⟩:=hI.box k1 hk1 h1
     have hgg:g'≠g:=fun e2=>by
      subst e2
      exact hI.apart k1 k hk1 hk e h1 l1 (q1.trans g1.symm)
     refine⟨g',cs',q1,q2,(setRow_other w g g' cs hgg).trans q3,q4,fun h2=>?_,fun h2=>q6 (by rw[←hne (m+n+k1) (by omega)];exact h2)⟩
     rw[hne _ (by omega)] at h2
     exact q5 h2
   ·rw[hne _ (by omega)] at h1 h2
    exact hI.apart k1 k2 hk1 hk2 hkk h1 h2
   ·by_cases e:k1=k
    ·subst e
     exact⟨getD_set_true l1,getD_set_true l2⟩
    ·rw[hne _ (by omega)] at h1
     obtain⟨h2,h3⟩:=hI.stored k1 hk1 h1
     exact⟨getD_set_true h2,getD_set_true h3⟩
 ·-- the end: all have come up
  intro listed a w hl hI hr
  have hfull:∀ i,i<ops.size→listed.getD i false=true:=by
   intro i
   induction i using Nat.strongRecOn with
   | _ i ih =>
    intro hi
    cases hx:listed.getD i false with
    | true=>rfl
    | false =>
     exfalso
     have ho:ops[i]?=some ops[i]:=Array.getElem?_eq_getElem hi
     have:i ∈ Region.ready .any ops listed:=by
      refine mem_ready.2 ⟨?_,ops[i],ho,fun e he _=>ih e.on (hord i _ ho e he) (Nat.lt_trans (hord i _ ho e he) hi)⟩
      have hil:i<listed.size:=by omega
      simp only[Array.getD_eq_getD_getElem?,Array.getElem?_eq_getElem hil,Option.getD_some] at hx ⊢
      exact hx
     rw[hr] at this
     cases this
  have hval:∀ j,∃ u,j<m→a.tmps[slot j]?=some u∧V j w u:=fun j=>by
   by_cases hj:j<m
   ·obtain⟨u,h1,h2⟩:=hI.val j hj (hfull j (by omega))
    exact⟨u,fun _=>⟨h1,h2⟩⟩
   ·exact⟨undef,fun h=>absurd h hj⟩
  obtain⟨u,hu⟩:=Classical.axiomOfChoice hval
  have hbox:∀ k,∃ g,k<n→a.tmps[bx k]?=some (.pointer (some ⟨g,0,none⟩))∧W0.heap.size≤g∧∃ cs,u (vs k)=.agg cs∧w.heap[g]?=some (.cells cs T (0,0)):=fun k=>by
   by_cases hk:k<n
   ·obtain⟨g,cs,h1,h2,h3,h4,h5,-⟩:=hI.box k hk (hfull _ (by omega))
    refine⟨g,fun _=>⟨h1,h2,cs,?_,h3⟩⟩
    have h6:=h5 (hfull _ (by omega))
    rw[(hu _ (hst k hk).1).1] at h6
    exact Option.some.inj h6
   ·exact⟨0,fun h=>absurd h hk⟩
  obtain⟨g,hg⟩:=Classical.axiomOfChoice hbox
  exact hQ u g a w hI.below hu hg hI.size hI.defers hI.other
 ·-- the start
  have h0:∀ x,(Array.replicate ops.size false).getD x false=true→False:=fun x h=>by
   simp[Array.getD_eq_getD_getElem?,Array.getElem?_replicate] at h
   split at h <;> simp at h
  exact⟨(Below.refl _ _).drew,rfl,rfl,fun _ _ _=>rfl,fun j _ h=>(h0 _ h).elim,fun k _ h=>(h0 _ h).elim,fun k k' _ _ _ h=>(h0 _ h).elim,fun k _ h=>(h0 _ h).elim⟩
structure ParX (pv pa ps:Nat→Nat) (W0:World) (a0:Act) (m n:Nat) (slot bx:Nat→Tmp) (vs:Nat→Nat) (T:TypeId) (zs:Array Value) (V:Nat→World→Value→Prop) (listed:Array Bool) (a:Act) (w:World):Prop where
 below:Bw W0 w
 size:a.tmps.size=a0.tmps.size
 defers:a.defers=a0.defers
 other:∀ s,(∀ j,j<m→s≠slot j)→(∀ k,k<n→s≠bx k)→a.tmps[s]?=a0.tmps[s]?
 val:∀ j,j<m→listed.getD (pv j) false=true→∃ u,a.tmps[slot j]?=some u∧V j w u
 box:∀ k,k<n→listed.getD (pa k) false=true→∃ g cs,a.tmps[bx k]?=some (.pointer (some ⟨g,0,none⟩))∧W0.heap.size≤g∧w.heap[g]?=some (.cells cs T (0,0))∧cs.size=zs.size ∧
  (listed.getD (ps k) false=true→a.tmps[slot (vs k)]?=some (.agg cs))∧(listed.getD (ps k) false=false→cs=zs)
 apart:∀ k k',k<n→k'<n→k≠k'→listed.getD (pa k) false=true→listed.getD (pa k') false=true→a.tmps[bx k]?≠a.tmps[bx k']?
 stored:∀ k,k<n→listed.getD (ps k) false=true→listed.getD (pa k) false=true∧listed.getD (pv (vs k)) false=true
theorem parx_region {P:Program} {ops:Array Oper} {Q:Exit→Act→World→Prop} {id:Nat} (hm:P.follows .mixedOrders=true) (pv pa ps:Nat→Nat) (m n:Nat) (slot bx:Nat→Tmp) (vs:Nat→Nat) (dep:Nat→List Nat) (T:TypeId) (zs:Array Value)
  (W0:World) (a0:Act) (V:Nat→World→Value→Prop) (hall0:∀ i,i<ops.size→(∃ j,j<m∧i=pv j)∨(∃ k,k<n∧i=pa k)∨∃ k,k<n∧i=ps k)
  (hpv:∀ j,j<m→pv j<ops.size) (hpa:∀ k,k<n→pa k<ops.size) (hps:∀ k,k<n→ps k<ops.size)
  (hvv:∀ j j',j<m→j'<m→pv j=pv j'→j=j') (haa:∀ k k',k<n→k'<n→pa k=pa k'→k=k') (hss:∀ k k',k<n→k'<n→ps k=ps k'→k=k')
  (hva:∀ j k,j<m→k<n→pv j≠pa k) (hvs:∀ j k,j<m→k<n→pv j≠ps k) (has:∀ k k',k<n→k'<n→pa k≠ps k')
  (hord:∀ (i:Nat) (o:Oper),ops[i]?=some o→∀ e ∈ o.after,Region.binds .any e=true→e.on<i)
  (hV1:∀ j w w' u,Bw w w'→V j w u→V j w' u)
  (hV2:∀ j w u g cs',w.heap[g]?=some (.cells zs T (0,0))→V j w u→V j (w.setRow g cs') u)
  (hVs:∀ k,k<n→∀ w u,V (vs k) w u→∃ cs:Array Value,u=.agg cs∧cs.size=zs.size∧cs.all (·.oneCell')=true)
  (hdep:∀ j,j<m→∀ j' ∈ dep j,j'<m∧∀ o,ops[pv j]?=some o→∃ e ∈ o.after,e.on=pv j'∧Region.binds .any e=true)
  (hA:∀ j,j<m→∀ (a:Act) (w:World),Bw W0 w→(∀ s,(∀ j,j<m→s≠slot j)→(∀ k,k<n→s≠bx k)→a.tmps[s]?=a0.tmps[s]?) →
   (∀ j' ∈ dep j,∃ u,a.tmps[slot j']?=some u∧V j' w u)→wpOp P ops Q (pv j) (fun a' w'=>∃ u,a'=a.put (some (slot j)) u∧V j w' u∧Bw w w') a w)
  (hal:∀ k,k<n→∃ o,ops[pa k]?=some o∧o.guard=none∧o.op=.alloc T∧o.dst=some (bx k))
  (hz:∀ w,(zeroValue T).run P w=.ok (.agg zs) w) (hi:(P.info? T).map (·.size)=some zs.size)
  (hst:∀ k,k<n→vs k<m∧∃ o,ops[ps k]?=some o∧o.guard=none∧o.op=.store T (.tmp (bx k)) (.tmp (slot (vs k)))∧o.dst=none∧(∃ e ∈ o.after,e.on=pa k∧Region.binds .any e=true)∧(∃ e ∈ o.after,e.on=pv (vs k)∧Region.binds .any e=true))
  (hin:∀ j,j<m→slot j<a0.tmps.size) (hbin:∀ k,k<n→bx k<a0.tmps.size)
  (hinj:∀ j j',j<m→j'<m→slot j=slot j'→j=j') (hbinj:∀ k k',k<n→k'<n→bx k=bx k'→k=k') (hsb:∀ j k,j<m→k<n→slot j≠bx k)
  (hQ:∀ (u:Nat→Value) (g:Nat→Nat) (a:Act) (w:World),Bw W0 w→(∀ j,j<m→a.tmps[slot j]?=some (u j)∧V j w (u j)) →
   (∀ k,k<n→a.tmps[bx k]?=some (.pointer (some ⟨g k,0,none⟩))∧W0.heap.size≤g k∧∃ cs,u (vs k)=.agg cs∧w.heap[g k]?=some (.cells cs T (0,0))) →
   (∀ k k',k<n→k'<n→k≠k'→g k≠g k')→a.tmps.size=a0.tmps.size→a.defers=a0.defers→(∀ s,(∀ j,j<m→s≠slot j)→(∀ k,k<n→s≠bx k)→a.tmps[s]?=a0.tmps[s]?)→Q .normal a w) :
  (Code.region id ops true).wp P Q a0 W0:=by
 refine wp_region_any hm ?_
 refine wpAny_inv (ParX pv pa ps W0 a0 m n slot bx vs T zs V) ?_ ?_ ops.size _ a0 _ (by simp) ?_ (by simp)
 ·-- a step
  intro listed a w i hl hI hr
  obtain⟨hun,o,ho,hall⟩:=mem_ready.1 hr
  have hunf:=not_listed hun
  have hio:i<ops.size:=(Array.getElem?_eq_some_iff.1 ho).1
  have hil:i<listed.size:=by omega
  have hset:=listed_set hil
  have hne:∀ x,x≠i→(listed.setIfInBounds i true).getD x false=listed.getD x false:=fun x hx=>getD_set_ne false (Ne.symm hx)
  rcases hall0 i hio with ⟨i,him,rfl⟩|⟨k,hk,rfl⟩|⟨k,hk,rfl⟩
  ·have nv:∀ j,j<m→j≠i→pv j≠pv i:=fun j hj e e2=>e (hvv j i hj him e2)
   have na:∀ k,k<n→pa k≠pv i:=fun k hk e=>hva i k him hk e.symm
   have ns:∀ k,k<n→ps k≠pv i:=fun k hk e=>hvs i k him hk e.symm
   refine wpOp_mono ?_ (hA i him a w hI.below hI.other fun j' hj'=>?_)
   ·rintro a' w' ⟨u,rfl,hu,hb⟩
    have hlt:slot i<a.tmps.size:=by rw[hI.size];exact hin i him
    refine⟨hI.below.trans (hb.mono hI.below.size),by rw[put_size];exact hI.size,by rw[put_defers];exact hI.defers,fun s h1 h2=>?_,fun j hj h1=>?_,fun k hk h1=>?_,fun k k' hk hk' hkk h1 h2=>?_,fun k hk h1=>?_⟩
    ·rw[put_get_ne (h1 i him)];exact hI.other s h1 h2
    ·by_cases e:j=i
     ·subst e;exact⟨u,put_get hlt,hu⟩
     ·rw[hne _ (nv j hj e)] at h1
      obtain⟨u',g1,g2⟩:=hI.val j hj h1
      exact⟨u',by rw[put_get_ne (fun e2=>e (hinj j i hj him e2))];exact g1,hV1 _ _ _ _ hb g2⟩
    ·rw[hne _ (na k hk)] at h1
     obtain⟨g,cs,g1,g2,g3,g4,g5,g6⟩:=hI.box k hk h1
     refine⟨g,cs,by rw[put_get_ne (Ne.symm (hsb i k him hk))];exact g1,g2,(hb.block g (Array.getElem?_eq_some_iff.1 g3).1).trans g3,g4,fun h2=>?_,fun h2=>g6 (by rw[←hne (ps k) (ns k hk)];exact h2)⟩
     rw[hne _ (ns k hk)] at h2
     have h3:=(hI.stored k hk h2).2
     have h4:vs k≠i:=fun e=>by rw[e,hunf] at h3;cases h3
     rw[put_get_ne (fun e2=>h4 (hinj _ _ (hst k hk).1 him e2))]
     exact g5 h2
    ·rw[hne _ (na k hk)] at h1
     rw[hne _ (na k' hk')] at h2
     rw[put_get_ne (Ne.symm (hsb i k him hk)),put_get_ne (Ne.symm (hsb i k' him hk'))]
     exact hI.apart k k' hk hk' hkk h1 h2
    ·rw[hne _ (ns k hk)] at h1
     obtain⟨h2,h3⟩:=hI.stored k hk h1
     exact⟨getD_set_true h2,getD_set_true h3⟩
   ·obtain⟨h1,h2⟩:=hdep i him j' hj'
    obtain⟨e,he,h3,hbd⟩:=h2 o ho
    exact hI.val _ h1 (by rw[←h3];exact hall e he hbd)
  ·have nv:∀ j,j<m→pv j≠pa k:=fun j hj=>hva j k hj hk
   have na:∀ k1,k1<n→k1≠k→pa k1≠pa k:=fun k1 hk1 e e2=>e (haa k1 k hk1 hk e2)
   have ns:∀ k1,k1<n→ps k1≠pa k:=fun k1 hk1 e=>has k k1 hk hk1 e.symm
   obtain⟨o',ho',hg,hop,hd⟩:=hal k hk
   refine step_alloc ho' hg hop hz ?_
   rw[hd]
   have hlt:bx k<a.tmps.size:=by rw[hI.size];exact hbin k hk
   have hbw:Below w.heap.size w (w.alloc (.cells zs T)):=(Below.refl _ _).alloc (Nat.le_refl _) _
   refine⟨hI.below.trans (hbw.mono hI.below.size),by rw[put_size];exact hI.size,by rw[put_defers];exact hI.defers,fun s h1 h2=>?_,fun j hj h1=>?_,fun k1 hk1 h1=>?_,fun k1 k2 hk1 hk2 hkk h1 h2=>?_,fun k1 hk1 h1=>?_⟩
   ·rw[put_get_ne (h2 k hk)];exact hI.other s h1 h2
   ·rw[hne _ (nv j hj)] at h1
    obtain⟨u',g1,g2⟩:=hI.val j hj h1
    exact⟨u',by rw[put_get_ne (hsb j k hj hk)];exact g1,hV1 _ _ _ _ hbw g2⟩
   ·by_cases e:k1=k
    ·subst e
     refine⟨w.heap.size,zs,put_get hlt,hI.below.size,heap_alloc_new _ _,rfl,fun h2=>?_,fun _=>rfl⟩
     rw[hne _ (ns k1 hk)] at h2
     have:=(hI.stored k1 hk h2).1
     rw[hunf] at this
     cases this
    ·rw[hne _ (na k1 hk1 e)] at h1
     obtain⟨g,cs,g1,g2,g3,g4,g5,g6⟩:=hI.box k1 hk1 h1
     refine⟨g,cs,by rw[put_get_ne (fun e2=>e (hbinj _ _ hk1 hk e2))];exact g1,g2,(hbw.block g (Array.getElem?_eq_some_iff.1 g3).1).trans g3,g4,fun h2=>?_,fun h2=>g6 (by rw[←hne (ps k1) (ns k1 hk1)];exact h2)⟩
     rw[hne _ (ns k1 hk1)] at h2
     rw[put_get_ne (hsb _ k (hst k1 hk1).1 hk)]
     exact g5 h2
   ·have old:∀ k1,k1<n→k1≠k→listed.getD (pa k1) false=true→a.tmps[bx k1]?≠some (.pointer (some ⟨w.heap.size,0,none⟩)):=fun k1 hk1 e h1 h2=>by
     obtain⟨g,cs,g1,g2,g3,g4,g5,g6⟩:=hI.box k1 hk1 h1
     have hlt:=(Array.getElem?_eq_some_iff.1 g3).1
     rw[g1] at h2
     simp only[Option.some.injEq,Value.pointer.injEq,Addr.mk.injEq] at h2
     omega
    by_cases e1:k1=k
    ·subst e1
     rw[hne _ (na k2 hk2 (Ne.symm hkk))] at h2
     rw[put_get hlt,put_get_ne (fun e2=>hkk (hbinj _ _ hk hk2 e2.symm))]
     exact Ne.symm (old k2 hk2 (Ne.symm hkk) h2)
    ·rw[hne _ (na k1 hk1 e1)] at h1
     by_cases e2:k2=k
     ·subst e2
      rw[put_get hlt,put_get_ne (fun e2=>e1 (hbinj _ _ hk1 hk e2))]
      exact old k1 hk1 e1 h1
     ·rw[hne _ (na k2 hk2 e2)] at h2
      rw[put_get_ne (fun e3=>e1 (hbinj _ _ hk1 hk e3)),put_get_ne (fun e3=>e2 (hbinj _ _ hk2 hk e3))]
      exact hI.apart k1 k2 hk1 hk2 hkk h1 h2
   ·rw[hne _ (ns k1 hk1)] at h1
    obtain⟨h2,h3⟩:=hI.stored k1 hk1 h1
    exact⟨getD_set_true h2,getD_set_true h3⟩
  ·have nv:∀ j,j<m→pv j≠ps k:=fun j hj=>hvs j k hj hk
   have na:∀ k1,k1<n→pa k1≠ps k:=fun k1 hk1=>has k1 k hk1 hk
   have ns:∀ k1,k1<n→k1≠k→ps k1≠ps k:=fun k1 hk1 e e2=>e (hss k1 k hk1 hk e2)
   obtain⟨hvm,o',ho',hg,hop,hd,⟨e1,he1,hon1,hb1⟩,e2,he2,hon2,hb2⟩:=hst k hk
   obtain rfl:o'=o:=Option.some.inj (ho'.symm.trans ho)
   have l1:=hall e1 he1 hb1
   have l2:=hall e2 he2 hb2
   rw[hon1] at l1
   rw[hon2] at l2
   obtain⟨u,hu1,hu2⟩:=hI.val _ hvm l2
   obtain⟨cs,rfl,hc1,hc2⟩:=hVs k hk w u hu2
   obtain⟨g,old,g1,g2,g3,g4,g5,g6⟩:=hI.box k hk l1
   rw[g6 hunf] at g3 g4
   refine step_store ho' hg hop g1 hu1 g3 (by rw[hc1];exact hi) (by omega) hc2 ?_
   rw[hd]
   show ParX pv pa ps W0 a0 m n slot bx vs T zs V _ a _
   refine⟨below_row hI.below g2 _,hI.size,hI.defers,hI.other,fun j hj h1=>?_,fun k1 hk1 h1=>?_,fun k1 k2 hk1 hk2 hkk h1 h2=>?_,fun k1 hk1 h1=>?_⟩
   ·rw[hne _ (nv j hj)] at h1
    obtain⟨u',q1,q2⟩:=hI.val j hj h1
    exact⟨u',q1,hV2 _ _ _ _ _ g3 q2⟩
   ·rw[hne _ (na k1 hk1)] at h1
    by_cases e:k1=k
    ·subst e
     exact⟨g,cs,g1,g2,setRow_heap w g _ cs T _ g3,hc1,fun _=>hu1,fun h2=>by rw[hset] at h2;cases h2⟩
    ·obtain⟨g',cs',q1,q2,q3,q4,q5,q6⟩:=hI.box k1 hk1 h1
     have hgg:g'≠g:=fun e2=>by
      subst e2
      exact hI.apart k1 k hk1 hk e h1 l1 (q1.trans g1.symm)
     refine⟨g',cs',q1,q2,(setRow_other w g g' cs hgg).trans q3,q4,fun h2=>?_,fun h2=>q6 (by rw[←hne (ps k1) (ns k1 hk1 e)];exact h2)⟩
     rw[hne _ (ns k1 hk1 e)] at h2
     exact q5 h2
   ·rw[hne _ (na k1 hk1)] at h1
    rw[hne _ (na k2 hk2)] at h2
    exact hI.apart k1 k2 hk1 hk2 hkk h1 h2
   ·by_cases e:k1=k
    ·subst e
     exact⟨getD_set_true l1,getD_set_true l2⟩
    ·rw[hne _ (ns k1 hk1 e)] at h1
     obtain⟨h2,h3⟩:=hI.stored k1 hk1 h1
     exact⟨getD_set_true h2,getD_set_true h3⟩
 ·-- the end: all have come up
  intro listed a w hl hI hr
  have hfull:∀ i,i<ops.size→listed.getD i false=true:=by
   intro i
   induction i using Nat.strongRecOn with
   | _ i ih =>
    intro hi
    cases hx:listed.getD i false with
    | true=>rfl
    | false =>
     exfalso
     have ho:ops[i]?=some ops[i]:=Array.getElem?_eq_getElem hi
     have:i ∈ Region.ready .any ops listed:=by
      refine mem_ready.2 ⟨?_,ops[i],ho,fun e he hbe=>ih e.on (hord i _ ho e he hbe) (Nat.lt_trans (hord i _ ho e he hbe) hi)⟩
      have hil:i<listed.size:=by omega
      simp only[Array.getD_eq_getD_getElem?,Array.getElem?_eq_getElem hil,Option.getD_some] at hx ⊢
      exact hx
     rw[hr] at this
     cases this
  have hval:∀ j,∃ u,j<m→a.tmps[slot j]?=some u∧V j w u:=fun j=>by
   by_cases hj:j<m
   ·obtain⟨u,h1,h2⟩:=hI.val j hj (hfull _ (hpv j hj))
    exact⟨u,fun _=>⟨h1,h2⟩⟩
   ·exact⟨undef,fun h=>absurd h hj⟩
  obtain⟨u,hu⟩:=Classical.axiomOfChoice hval
  have hbox:∀ k,∃ g,k<n→a.tmps[bx k]?=some (.pointer (some ⟨g,0,none⟩))∧W0.heap.size≤g∧∃ cs,u (vs k)=.agg cs∧w.heap[g]?=some (.cells cs T (0,0)):=fun k=>by
   by_cases hk:k<n
   ·obtain⟨g,cs,h1,h2,h3,h4,h5,-⟩:=hI.box k hk (hfull _ (hpa k hk))
    refine⟨g,fun _=>⟨h1,h2,cs,?_,h3⟩⟩
    have h6:=h5 (hfull _ (hps k hk))
    rw[(hu _ (hst k hk).1).1] at h6
    exact Option.some.inj h6
   ·exact⟨0,fun h=>absurd h hk⟩
  obtain⟨g,hg⟩:=Classical.axiomOfChoice hbox
  exact hQ u g a w hI.below hu hg (fun k k' hk hk' hkk e=>hI.apart k k' hk hk' hkk (hfull _ (hpa k hk)) (hfull _ (hpa k' hk')) (by rw[(hg k hk).1,(hg k' hk').1,e])) hI.size hI.defers hI.other
 ·-- the start
  have h0:∀ x,(Array.replicate ops.size false).getD x false=true→False:=fun x h=>by
   simp[Array.getD_eq_getD_getElem?,Array.getElem?_replicate] at h
   split at h <;> simp at h
  exact⟨(Below.refl _ _).drew,rfl,rfl,fun _ _ _=>rfl,fun j _ h=>(h0 _ h).elim,fun k _ h=>(h0 _ h).elim,fun k k' _ _ _ h=>(h0 _ h).elim,fun k _ h=>(h0 _ h).elim⟩
structure KeepB (n:Nat) (gs:Nat→Nat) (B:Nat) (W0 w:World):Prop where
 below:Below B W0 w
 size:W0.heap.size≤w.heap.size
 keep:∀ b,b<W0.heap.size→(∀ k,k<n→b≠gs k)→w.heap[b]?=W0.heap[b]?
theorem KeepB.step {n:Nat} {gs:Nat→Nat} {B:Nat} {W0 w w':World} (h:KeepB n gs B W0 w) (hB:B≤W0.heap.size) (hb:Bw w w'):KeepB n gs B W0 w' :=
 ⟨h.below.trans (hb.mono (Nat.le_trans hB h.size)),Nat.le_trans h.size hb.size,fun b h1 h2=>(hb.block b (Nat.lt_of_lt_of_le h1 h.size)).trans (h.keep b h1 h2)⟩
theorem KeepB.row {n:Nat} {gs:Nat→Nat} {B:Nat} {W0 w:World} (h:KeepB n gs B W0 w) {k:Nat} (hk:k<n) (hB:B≤gs k) (cs:Array Value):KeepB n gs B W0 (w.setRow (gs k) cs) :=
 ⟨below_row h.below hB _,by simpa using h.size,fun b h1 h2=>(setRow_other w (gs k) b cs (h2 k hk)).trans (h.keep b h1 h2)⟩
structure ParQ (pv ps:Nat→Nat) (rd:Nat→List Nat) (W0:World) (a0:Act) (m n:Nat) (slot:Nat→Tmp) (vs gs:Nat→Nat) (B:Nat) (T:TypeId) (C:Array Value→Prop) (z:Nat) (V:Nat→World→Value→Prop) (listed:Array Bool) (a:Act) (w:World):Prop where
 kept:KeepB n gs B W0 w
 size:a.tmps.size=a0.tmps.size
 defers:a.defers=a0.defers
 other:∀ s,(∀ j,j<m→s≠slot j)→a.tmps[s]?=a0.tmps[s]?
 val:∀ j,j<m→listed.getD (pv j) false=true→∃ u,a.tmps[slot j]?=some u∧V j w u
 box:∀ k,k<n→∃ cs,w.heap[gs k]?=some (.cells cs T (0,0))∧cs.size=z∧C cs∧(listed.getD (ps k) false=true→a.tmps[slot (vs k)]?=some (.agg cs))∧(listed.getD (ps k) false=false→w.heap[gs k]?=W0.heap[gs k]?)
 stored:∀ k,k<n→listed.getD (ps k) false=true→∀ j ∈ rd k,listed.getD (pv j) false=true
theorem parq_region {P:Program} {ops:Array Oper} {Q:Exit→Act→World→Prop} {id:Nat} (hm:P.follows .mixedOrders=true) (pv ps:Nat→Nat) (m n:Nat) (slot bx:Nat→Tmp) (vs gs:Nat→Nat) (B:Nat) (dep rd:Nat→List Nat) (T:TypeId) (C:Array Value→Prop) (z:Nat)
  (W0:World) (a0:Act) (V:Nat→World→Value→Prop) (hcov:∀ i,i<ops.size→(∃ j,j<m∧i=pv j)∨∃ k,k<n∧i=ps k) (hpv:∀ j,j<m→pv j<ops.size) (hps:∀ k,k<n→ps k<ops.size) (dvs:∀ j k,j<m→k<n→pv j≠ps k) (ivv:∀ j j',j<m→j'<m→pv j=pv j'→j=j') (iss:∀ k k',k<n→k'<n→ps k=ps k'→k=k')
  (hord:∀ (i:Nat) (o:Oper),ops[i]?=some o→∀ e ∈ o.after,Region.binds .any e=true→e.on<i)
  (hV1:∀ j w w' u,Bw w w'→V j w u→V j w' u)
  (hV2:∀ j w u g cs cs',w.heap[g]?=some (.cells cs T (0,0))→C cs→V j w u→V j (w.setRow g cs') u)
  (hVs:∀ k,k<n→∀ w u,V (vs k) w u→∃ cs:Array Value,u=.agg cs∧cs.size=z∧C cs∧cs.all (·.oneCell')=true)
  (hdep:∀ j,j<m→∀ j' ∈ dep j,j'<m∧∀ o,ops[pv j]?=some o→∃ e ∈ o.after,e.on=pv j'∧Region.binds .any e=true)
  (hA:∀ j,j<m→∀ (a:Act) (w:World),KeepB n gs B W0 w→(∀ s,(∀ j,j<m→s≠slot j)→a.tmps[s]?=a0.tmps[s]?) →
   (∀ j' ∈ dep j,∃ u,a.tmps[slot j']?=some u∧V j' w u)→(∀ k,k<n→j ∈ rd k→w.heap[gs k]?=W0.heap[gs k]?)→wpOp P ops Q (pv j) (fun a' w'=>∃ u,a'=a.put (some (slot j)) u∧V j w' u∧Bw w w') a w)
  (hi:(P.info? T).map (·.size)=some z)
  (hst:∀ k,k<n→vs k<m∧∃ o,ops[ps k]?=some o∧o.guard=none∧o.op=.store T (.tmp (bx k)) (.tmp (slot (vs k)))∧o.dst=none∧vs k ∈ rd k∧∀ j ∈ rd k,j<m∧∃ e ∈ o.after,e.on=pv j∧Region.binds .any e=true)
  (hbx:∀ k,k<n→a0.tmps[bx k]?=some (.pointer (some ⟨gs k,0,none⟩))∧∀ j,j<m→bx k≠slot j)
  (hbox:∀ k,k<n→B≤gs k∧∃ cs,W0.heap[gs k]?=some (.cells cs T (0,0))∧cs.size=z∧C cs)
  (hgs:∀ k k',k<n→k'<n→gs k=gs k'→k=k') (hB:B≤W0.heap.size)
  (hin:∀ j,j<m→slot j<a0.tmps.size)
  (hinj:∀ j j',j<m→j'<m→slot j=slot j'→j=j')
  (hQ:∀ (u:Nat→Value) (a:Act) (w:World),KeepB n gs B W0 w→(∀ j,j<m→a.tmps[slot j]?=some (u j)∧V j w (u j)) →
   (∀ k,k<n→∃ cs,u (vs k)=.agg cs∧w.heap[gs k]?=some (.cells cs T (0,0))) →
   a.tmps.size=a0.tmps.size→a.defers=a0.defers→(∀ s,(∀ j,j<m→s≠slot j)→a.tmps[s]?=a0.tmps[s]?)→Q .normal a w) :
  (Code.region id ops true).wp P Q a0 W0:=by
 have hvrd:∀ k,k<n→vs k ∈ rd k:=fun k hk=>by
  obtain⟨_,_,_,_,_,_,h,_⟩:=hst k hk
  exact h
 refine wp_region_any hm ?_
 refine wpAny_inv (ParQ pv ps rd W0 a0 m n slot vs gs B T C z V) ?_ ?_ ops.size _ a0 _ (by simp) ?_ (by simp)
 ·-- a step
  intro listed a w i hl hI hr
  obtain⟨hun,o,ho,hall⟩:=mem_ready.1 hr
  have hunf:=not_listed hun
  have hio:i<ops.size:=(Array.getElem?_eq_some_iff.1 ho).1
  have hil:i<listed.size:=by omega
  have hset:=listed_set hil
  have hne:∀ x,x≠i→(listed.setIfInBounds i true).getD x false=listed.getD x false:=fun x hx=>getD_set_ne false (Ne.symm hx)
  rcases hcov i hio with ⟨i,him,rfl⟩|⟨k,hk,rfl⟩
  ·refine wpOp_mono ?_ (hA i him a w hI.kept hI.other (fun j' hj'=>?_) (fun k hk hjk=>?_))
   ·rintro a' w' ⟨u,rfl,hu,hb⟩
    have hlt:slot i<a.tmps.size:=by rw[hI.size];exact hin i him
    refine⟨hI.kept.step hB hb,by rw[put_size];exact hI.size,by rw[put_defers];exact hI.defers,fun s h1=>?_,fun j hj h1=>?_,fun k hk=>?_,fun k hk h1 jr hjr=>?_⟩
    ·rw[put_get_ne (h1 i him)];exact hI.other s h1
    ·by_cases e:j=i
     ·subst e;exact⟨u,put_get hlt,hu⟩
     ·rw[hne (pv j) (fun e2=>e (ivv j i hj him e2))] at h1
      obtain⟨u',g1,g2⟩:=hI.val j hj h1
      exact⟨u',by rw[put_get_ne (fun e2=>e (hinj j i hj him e2))];exact g1,hV1 _ _ _ _ hb g2⟩
    ·obtain⟨cs,g3,g4,g5,g6,g7⟩:=hI.box k hk
     refine⟨cs,(hb.block _ (Array.getElem?_eq_some_iff.1 g3).1).trans g3,g4,g5,fun h2=>?_,fun h2=>(hb.block _ (Array.getElem?_eq_some_iff.1 g3).1).trans (g7 (by rw[←hne (ps k) (Ne.symm (dvs i k him hk))];exact h2))⟩
     rw[hne _ (Ne.symm (dvs i k him hk))] at h2
     have h3:=hI.stored k hk h2 (vs k) (hvrd k hk)
     have h4:vs k≠i:=fun e=>by rw[e,hunf] at h3;cases h3
     rw[put_get_ne (fun e2=>h4 (hinj _ _ (hst k hk).1 him e2))]
     exact g6 h2
    ·rw[hne _ (Ne.symm (dvs i k him hk))] at h1
     exact getD_set_true (hI.stored k hk h1 jr hjr)
   ·obtain⟨h1,h2⟩:=hdep i him j' hj'
    obtain⟨e,he,hon,hbd⟩:=h2 o ho
    exact hI.val _ h1 (by rw[←hon];exact hall e he hbd)
   ·obtain⟨cs,g3,g4,g5,g6,g7⟩:=hI.box k hk
    refine g7 ?_
    cases hs:listed.getD (ps k) false
    ·rfl
    ·have h3:=hI.stored k hk hs i hjk
     rw[hunf] at h3;cases h3
  ·obtain⟨hvm,o',ho',hg,hop,hd,hvr,hrd⟩:=hst k hk
   obtain rfl:o'=o:=Option.some.inj (ho'.symm.trans ho)
   have lr:∀ j ∈ rd k,listed.getD (pv j) false=true:=fun j hj=>by
    obtain⟨-,e2,he2,hon2,hb2⟩:=hrd j hj
    rw[←hon2]
    exact hall e2 he2 hb2
   have l2:=lr _ hvr
   obtain⟨u,hu1,hu2⟩:=hI.val _ hvm l2
   obtain⟨cs,rfl,hc1,hcC,hc2⟩:=hVs k hk w u hu2
   obtain⟨old,g3,g4,g5,g6,-⟩:=hI.box k hk
   have hbk:a.tmps[bx k]?=some (.pointer (some ⟨gs k,0,none⟩)):=by rw[hI.other _ (hbx k hk).2];exact(hbx k hk).1
   refine step_store ho' hg hop hbk hu1 g3 (by rw[hc1];exact hi) (by omega) hc2 ?_
   rw[hd]
   show ParQ pv ps rd W0 a0 m n slot vs gs B T C z V _ a _
   refine⟨hI.kept.row hk (hbox k hk).1 _,hI.size,hI.defers,hI.other,fun j hj h1=>?_,fun k1 hk1=>?_,fun k1 hk1 h1 jr hjr=>?_⟩
   ·rw[hne (pv j) (dvs j k hj hk)] at h1
    obtain⟨u',q1,q2⟩:=hI.val j hj h1
    exact⟨u',q1,hV2 _ _ _ _ _ _ g3 g5 q2⟩
   ·by_cases e:k1=k
    ·subst e
     exact⟨cs,setRow_heap w (gs k1) old cs T _ g3,hc1,hcC,fun _=>hu1,fun h2=>by rw[hset] at h2;cases h2⟩
    ·obtain⟨cs',q3,q4,q5,q6,q7⟩:=hI.box k1 hk1
     have hgg:gs k1≠gs k:=fun e2=>e (hgs k1 k hk1 hk e2)
     refine⟨cs',(setRow_other w (gs k) (gs k1) cs hgg).trans q3,q4,q5,fun h2=>?_,fun h2=>(setRow_other w (gs k) (gs k1) cs hgg).trans (q7 (by rw[←hne (ps k1) (fun e2=>e (iss k1 k hk1 hk e2))];exact h2))⟩
     rw[hne _ (fun e2=>e (iss k1 k hk1 hk e2))] at h2
     exact q6 h2
   ·by_cases e:k1=k
    ·subst e
     exact getD_set_true (lr jr hjr)
    ·rw[hne _ (fun e2=>e (iss k1 k hk1 hk e2))] at h1
     exact getD_set_true (hI.stored k1 hk1 h1 jr hjr)
 ·-- the end: all have come up
  intro listed a w hl hI hr
  have hfull:∀ i,i<ops.size→listed.getD i false=true:=by
   intro i
   induction i using Nat.strongRecOn with
   | _ i ih =>
    intro hi
    cases hx:listed.getD i false with
    | true=>rfl
    | false =>
     exfalso
     have ho:ops[i]?=some ops[i]:=Array.getElem?_eq_getElem hi
     have:i ∈ Region.ready .any ops listed:=by
      refine mem_ready.2 ⟨?_,ops[i],ho,fun e he hbe=>ih e.on (hord i _ ho e he hbe) (Nat.lt_trans (hord i _ ho e he hbe) hi)⟩
      have hil:i<listed.size:=by omega
      simp only[Array.getD_eq_getD_getElem?,Array.getElem?_eq_getElem hil,Option.getD_some] at hx ⊢
      exact hx
     rw[hr] at this
     cases this
  have hval:∀ j,∃ u,j<m→a.tmps[slot j]?=some u∧V j w u:=fun j=>by
   by_cases hj:j<m
   ·obtain⟨u,h1,h2⟩:=hI.val j hj (hfull (pv j) (hpv j hj))
    exact⟨u,fun _=>⟨h1,h2⟩⟩
   ·exact⟨undef,fun h=>absurd h hj⟩
  obtain⟨u,hu⟩:=Classical.axiomOfChoice hval
  refine hQ u a w hI.kept hu (fun k hk=>?_) hI.size hI.defers hI.other
  obtain⟨cs,h3,h4,h5,h6,-⟩:=hI.box k hk
  have h7:=h6 (hfull _ (hps k hk))
  rw[(hu _ (hst k hk).1).1] at h7
  exact⟨cs,Option.some.inj h7,h3⟩
 ·-- the start
  have h0:∀ x,(Array.replicate ops.size false).getD x false=true→False:=fun x h=>by
   simp[Array.getD_eq_getD_getElem?,Array.getElem?_replicate] at h
   split at h <;> simp at h
  refine⟨⟨(Below.refl _ _).drew,Nat.le_refl _,fun _ _ _=>rfl⟩,rfl,rfl,fun _ _=>rfl,fun j _ h=>(h0 _ h).elim,fun k hk=>?_,fun k _ h=>(h0 _ h).elim⟩
  obtain⟨-,cs,h1,h2,h3⟩:=hbox k hk
  exact⟨cs,h1,h2,h3,fun h=>(h0 _ h).elim,fun _=>rfl⟩
def RowsAll (T:TypeId) (C:Array Value→Prop):List (World→Value→Prop)→Prop
 | []=>True
 | P :: r=>(∀ w u g cs cs',w.heap[g]?=some (.cells cs T (0,0))→C cs→P w u→P (w.setRow g cs') u)∧RowsAll T C r
theorem vL_rows {T:TypeId} {C:Array Value→Prop}:∀ {L:List (World→Value→Prop)},RowsAll T C L→∀ j w u g cs cs',w.heap[g]?=some (.cells cs T (0,0))→C cs→vL L j w u→vL L j (w.setRow g cs') u
 | [],_,j=>fun w u g cs cs' _ _ h=>by simp[vL] at h
 | P :: r,hL,0=>hL.1
 | P :: r,hL,j+1=>fun w u g cs cs' h1 h2 h=>vL_rows hL.2 j w u g cs cs' h1 h2 h
theorem isV_rows (x:Value) (T:TypeId) (C:Array Value→Prop):∀ w u g cs cs',w.heap[g]?=some (.cells cs T (0,0))→C cs→isV x w u→isV x (w.setRow g cs') u:=fun _ _ _ _ _ _ _ h=>h
def qrow (PVL PSL SL:List Nat) (D rd:List (List Nat)) (vs:List Nat) (i:Nat) (o:Oper):Bool :=
 o.after.all (fun e => !(Region.binds .any e)||decide (e.on<i))&&(PVL.contains i||PSL.contains i)
def qval (ops:Array Oper) (PVL SL:List Nat) (D:List (List Nat)) (j:Nat):Bool :=
 match ops[PVL.getD j 0]? with
 | some o=>o.dst==some (SL.getD j 0)&&(dL D j).all (fun j'=>decide (j'<PVL.length)&&vhas o (PVL.getD j' 0))
 | none=>false
def qsto (ops:Array Oper) (PVL PSL:List Nat) (rd:List (List Nat)) (vs:List Nat) (k:Nat):Bool :=
 match ops[PSL.getD k 0]? with
 | some o=>o.dst==none&&o.guard.isNone&&decide (vs.getD k 0<PVL.length)&&(dL rd k).contains (vs.getD k 0)&&(dL rd k).all (fun j=>decide (j<PVL.length)&&vhas o (PVL.getD j 0))
 | none=>false
def qchk (ops:Array Oper) (PVL PSL SL:List Nat) (D rd:List (List Nat)) (vs:List Nat):Bool :=
 ((List.range ops.size).all fun i=>match ops[i]? with|some o=>qrow PVL PSL SL D rd vs i o|none=>false)&&(List.range PVL.length).all (qval ops PVL SL D)&&(List.range PSL.length).all (qsto ops PVL PSL rd vs)&&decide (PVL++PSL).Nodup&&decide SL.Nodup&&decide (SL.length=PVL.length)
theorem getD_mem {l:List Nat} {j:Nat} (h:j<l.length):l.getD j 0 ∈ l:=by
 rw[List.getD_eq_getElem?_getD,List.getElem?_eq_getElem h]
 exact List.getElem_mem h
theorem getD_inj {l:List Nat} (hn:l.Nodup) {i j:Nat} (hi:i<l.length) (hj:j<l.length) (h:l.getD i 0=l.getD j 0):i=j:=by
 rw[List.getD_eq_getElem?_getD,List.getD_eq_getElem?_getD,List.getElem?_eq_getElem hi,List.getElem?_eq_getElem hj] at h
 exact(List.getElem_inj hn).1 h
theorem mem_getD {l:List Nat} {x:Nat} (h:x ∈ l):∃ j,j<l.length∧x=l.getD j 0:=by
 obtain⟨j,hj,e⟩:=List.mem_iff_getElem.1 h
 exact⟨j,hj,by rw[List.getD_eq_getElem?_getD,List.getElem?_eq_getElem hj];exact e.symm⟩
theorem q_region {P:Program} {ops:Array Oper} {Q:Exit→Act→World→Prop} {id:Nat} (hm:P.follows .mixedOrders=true) (PVL PSL SL:List Nat) (D rd:List (List Nat)) (vs:List Nat) (bx gs:Nat→Nat) (B:Nat) (T:TypeId) (C:Array Value→Prop) (z:Nat)
  (W0:World) (a0:Act) (L:List (World→Value→Prop)) (hchk:qchk ops PVL PSL SL D rd vs=true)
  (hV1:StaysAll L) (hV2:RowsAll T C L) (hsl:∀ s ∈ SL,s<a0.tmps.size)
  (hVs:∀ k,k<PSL.length→∀ w u,vL L (vs.getD k 0) w u→∃ cs:Array Value,u=.agg cs∧cs.size=z∧C cs∧cs.all (·.oneCell')=true)
  (hA:∀ j,j<PVL.length→∀ o,ops[PVL.getD j 0]?=some o→∀ (a:Act) (w:World),KeepB PSL.length gs B W0 w→(∀ s:Nat,SL.contains s=false→a.tmps[s]?=a0.tmps[s]?) →
   (∀ j' ∈ dL D j,∃ u,a.tmps[SL.getD j' 0]?=some u∧vL L j' w u)→(∀ k,k<PSL.length→j ∈ dL rd k→w.heap[gs k]?=W0.heap[gs k]?) →
   (o.guard=none∧o.wp P a w (fun a' w'=>∃ u,a'=a.put o.dst u∧vL L j w' u∧Bw w w') Q)∨wpOp P ops Q (PVL.getD j 0) (fun a' w'=>∃ u,a'=a.put o.dst u∧vL L j w' u∧Bw w w') a w)
  (hi:(P.info? T).map (·.size)=some z)
  (hst:∀ k,k<PSL.length→∃ o,ops[PSL.getD k 0]?=some o∧o.op=.store T (.tmp (bx k)) (.tmp (SL.getD (vs.getD k 0) 0)))
  (hbx:∀ k,k<PSL.length→a0.tmps[bx k]?=some (.pointer (some ⟨gs k,0,none⟩))∧SL.contains (bx k)=false)
  (hbox:∀ k,k<PSL.length→B≤gs k∧∃ cs,W0.heap[gs k]?=some (.cells cs T (0,0))∧cs.size=z∧C cs)
  (hgs:∀ k k',k<PSL.length→k'<PSL.length→gs k=gs k'→k=k') (hB:B≤W0.heap.size)
  (hQ:∀ (u:Nat→Value) (w:World),KeepB PSL.length gs B W0 w→(∀ j,j<PVL.length→vL L j w (u j)) →
   (∀ k,k<PSL.length→∃ cs,u (vs.getD k 0)=.agg cs∧w.heap[gs k]?=some (.cells cs T (0,0)))→Q .normal (putL a0 ((List.range PVL.length).map (fun j=>(SL.getD j 0,u j)))) w) :
  (Code.region id ops true).wp P Q a0 W0:=by
 unfold qchk at hchk
 simp only[Bool.and_eq_true,decide_eq_true_eq] at hchk
 obtain⟨⟨⟨⟨⟨h1,h2⟩,h3⟩,h4⟩,h5⟩,h6⟩:=hchk
 obtain⟨n1,n2,n3⟩:=List.nodup_append.1 h4
 have row:∀ {i o},ops[i]?=some o→qrow PVL PSL SL D rd vs i o=true:=fun {i o} ho=>by
  have:=List.all_eq_true.1 h1 i (List.mem_range.2 (Array.getElem?_eq_some_iff.1 ho).1)
  simp only[ho] at this
  exact this
 have val:∀ j,j<PVL.length→∃ o,ops[PVL.getD j 0]?=some o∧o.dst=some (SL.getD j 0)∧∀ j' ∈ dL D j,j'<PVL.length∧∃ e ∈ o.after,e.on=PVL.getD j' 0∧Region.binds .any e=true:=fun j hj=>by
  have:=List.all_eq_true.1 h2 j (List.mem_range.2 hj)
  unfold qval at this
  cases ho:ops[PVL.getD j 0]? with
  | none=>rw[ho] at this;cases this
  | some o =>
   rw[ho] at this
   simp only[Bool.and_eq_true] at this
   refine⟨o,rfl,by simpa using this.1,fun j' hj'=>?_⟩
   have:=List.all_eq_true.1 this.2 j' hj'
   rw[Bool.and_eq_true] at this
   exact⟨of_decide_eq_true this.1,vhas_ex this.2⟩
 have sto:∀ k,k<PSL.length→∃ o,ops[PSL.getD k 0]?=some o∧o.dst=none∧o.guard=none∧vs.getD k 0<PVL.length∧vs.getD k 0 ∈ dL rd k∧∀ j ∈ dL rd k,j<PVL.length∧∃ e ∈ o.after,e.on=PVL.getD j 0∧Region.binds .any e=true:=fun k hk=>by
  have:=List.all_eq_true.1 h3 k (List.mem_range.2 hk)
  unfold qsto at this
  cases ho:ops[PSL.getD k 0]? with
  | none=>rw[ho] at this;cases this
  | some o =>
   rw[ho] at this
   simp only[Bool.and_eq_true] at this
   obtain⟨⟨⟨⟨x1,x2⟩,x3⟩,x4⟩,x5⟩:=this
   refine⟨o,rfl,by simpa using x1,Option.isNone_iff_eq_none.1 x2,of_decide_eq_true x3,by simpa using x4,fun j hj=>?_⟩
   have:=List.all_eq_true.1 x5 j hj
   rw[Bool.and_eq_true] at this
   exact⟨of_decide_eq_true this.1,vhas_ex this.2⟩
 have hoth:∀ {s:Nat},SL.contains s=false→∀ j,j<PVL.length→s≠SL.getD j 0:=fun {s} h j hj e=>by
  have h7:=getD_mem (l:=SL) (j:=j) (by omega)
  rw[←e] at h7
  have:SL.contains s=true:=by simpa using h7
  rw[h] at this;cases this
 refine parq_region hm (fun j=>PVL.getD j 0) (fun k=>PSL.getD k 0) PVL.length PSL.length (fun j=>SL.getD j 0) bx (fun k=>vs.getD k 0) gs B (dL D) (dL rd) T C z W0 a0 (vL L) ?_ ?_ ?_ ?_ (fun j j' hj hj' e=>getD_inj n1 hj hj' e) (fun k k' hk hk' e=>getD_inj n2 hk hk' e) ?_ (fun j w w' u hb h=>vL_stays hV1 j w w' u hb h) (fun j w u g cs cs' y1 y2 h=>vL_rows hV2 j w u g cs cs' y1 y2 h) hVs ?_ ?_ hi ?_ ?_ hbox hgs hB (fun j hj=>hsl _ (getD_mem (by omega))) (fun j j' hj hj' e=>getD_inj h5 (by omega) (by omega) e) ?_
 ·intro i hi'
  have ho:ops[i]?=some ops[i]:=Array.getElem?_eq_getElem hi'
  have:=row ho
  unfold qrow at this
  rw[Bool.and_eq_true,Bool.or_eq_true] at this
  rcases this.2 with h|h
  ·exact .inl (mem_getD (by simpa using h))
  ·exact .inr (mem_getD (by simpa using h))
 ·intro j hj
  obtain⟨o,ho,-⟩:=val j hj
  exact(Array.getElem?_eq_some_iff.1 ho).1
 ·intro k hk
  obtain⟨o,ho,-⟩:=sto k hk
  exact(Array.getElem?_eq_some_iff.1 ho).1
 ·intro j k hj hk
  exact n3 _ (getD_mem hj) _ (getD_mem hk)
 ·intro i o ho e he hb
  have:=row ho
  unfold qrow at this
  rw[Bool.and_eq_true] at this
  have h7:=Array.all_eq_true_iff_forall_mem.1 this.1 e he
  rw[hb] at h7
  exact of_decide_eq_true (by simpa using h7)
 ·intro j hj j' hj'
  obtain⟨o,ho,-,hd⟩:=val j hj
  obtain⟨x1,x2⟩:=hd j' hj'
  refine⟨x1,fun o' ho'=>?_⟩
  obtain rfl:o=o':=Option.some.inj (ho.symm.trans ho')
  exact x2
 ·intro j hj a w hk ho1 hd hrd
  obtain⟨o,ho,hds,-⟩:=val j hj
  have h7:=hA j hj o ho a w hk (fun s hs=>ho1 s (hoth hs)) hd hrd
  rw[hds] at h7
  rcases h7 with ⟨hg,h7⟩|h7
  ·exact step_wanted ho hg h7
  ·exact h7
 ·intro k hk
  obtain⟨o,ho,hop⟩:=hst k hk
  obtain⟨o',ho',x1,x2,x3,x4,x5⟩:=sto k hk
  obtain rfl:o'=o:=Option.some.inj (ho'.symm.trans ho)
  exact⟨x3,o',ho,x2,hop,x1,x4,x5⟩
 ·intro k hk
  exact⟨(hbx k hk).1,hoth (hbx k hk).2⟩
 ·intro u a w hk hu hcs hs hd ho1
  have q1:((List.range PVL.length).map (fun j=>((SL.getD j 0,u j):Tmp×Value))).map (fun p:Tmp×Value=>p.1)=(List.range PVL.length).map (fun j=>SL.getD j 0):=by simp[Function.comp_def]
  have ha:=act_putL (a:=a) (a0:=a0) (l:=(List.range PVL.length).map (fun j=>((SL.getD j 0,u j):Tmp×Value))) (by
    rw[q1]
    refine List.pairwise_map.2 ((List.nodup_range (n:=PVL.length)).imp_of_mem ?_)
    intro x y hx hy hne he
    have:=List.mem_range.1 hx
    have:=List.mem_range.1 hy
    exact hne (getD_inj h5 (by omega) (by omega) he)) hs hd (by
    intro p hp
    obtain⟨i,hi,rfl⟩:=List.mem_map.1 hp
    exact(hu i (List.mem_range.1 hi)).1) (fun s hsn=>ho1 s (fun i hi he=>hsn (List.mem_map.2 ⟨_,List.mem_map.2 ⟨i,List.mem_range.2 hi,rfl⟩,he.symm⟩)))
  rw[ha]
  exact hQ u w hk (fun j hj=>(hu j hj).2) hcs
def ZRowsAll (T:TypeId) (zs:Array Value):List (World→Value→Prop)→Prop
 | []=>True
 | P :: r=>(∀ w u g cs',w.heap[g]?=some (.cells zs T (0,0))→P w u→P (w.setRow g cs') u)∧ZRowsAll T zs r
theorem vL_zrows {T:TypeId} {zs:Array Value}:∀ {L:List (World→Value→Prop)},ZRowsAll T zs L→∀ j w u g cs',w.heap[g]?=some (.cells zs T (0,0))→vL L j w u→vL L j (w.setRow g cs') u
 | [],_,j=>fun w u g cs' _ h=>by simp[vL] at h
 | P :: r,hL,0=>hL.1
 | P :: r,hL,j+1=>fun w u g cs' h1 h=>vL_zrows hL.2 j w u g cs' h1 h
def xall (ops:Array Oper) (PVL PNL PSL BL:List Nat) (vs:List Nat) (k:Nat):Bool :=
 match ops[PNL.getD k 0]?,ops[PSL.getD k 0]? with
 | some o,some p=>o.dst==some (BL.getD k 0)&&o.guard.isNone&&p.dst==none&&p.guard.isNone&&decide (vs.getD k 0<PVL.length)&&vhas p (PNL.getD k 0)&&vhas p (PVL.getD (vs.getD k 0) 0)
 | _,_=>false
def xchk (ops:Array Oper) (PVL PNL PSL SL BL:List Nat) (D:List (List Nat)) (vs:List Nat):Bool :=
 ((List.range ops.size).all fun i=>match ops[i]? with|some o=>o.after.all (fun e => !(Region.binds .any e)||decide (e.on<i))&&(PVL.contains i||PNL.contains i||PSL.contains i)|none=>false)&&(List.range PVL.length).all (qval ops PVL SL D)&&(List.range PNL.length).all (xall ops PVL PNL PSL BL vs)&&decide (PVL++(PNL++PSL)).Nodup&&decide (SL++BL).Nodup&&decide (SL.length=PVL.length∧BL.length=PNL.length∧PSL.length=PNL.length)
theorem x_region {P:Program} {ops:Array Oper} {Q:Exit→Act→World→Prop} {id:Nat} (hm:P.follows .mixedOrders=true) (PVL PNL PSL SL BL:List Nat) (D:List (List Nat)) (vs:List Nat) (T:TypeId) (zs:Array Value)
  (W0:World) (a0:Act) (L:List (World→Value→Prop)) (hchk:xchk ops PVL PNL PSL SL BL D vs=true)
  (hV1:StaysAll L) (hV2:ZRowsAll T zs L) (hsl:∀ s ∈ SL++BL,s<a0.tmps.size)
  (hVs:∀ k,k<PNL.length→∀ w u,vL L (vs.getD k 0) w u→∃ cs:Array Value,u=.agg cs∧cs.size=zs.size∧cs.all (·.oneCell')=true)
  (hA:∀ j,j<PVL.length→∀ o,ops[PVL.getD j 0]?=some o→∀ (a:Act) (w:World),Bw W0 w→(∀ s:Nat,(SL++BL).contains s=false→a.tmps[s]?=a0.tmps[s]?) →
   (∀ j' ∈ dL D j,∃ u,a.tmps[SL.getD j' 0]?=some u∧vL L j' w u) →
   (o.guard=none∧o.wp P a w (fun a' w'=>∃ u,a'=a.put o.dst u∧vL L j w' u∧Bw w w') Q)∨wpOp P ops Q (PVL.getD j 0) (fun a' w'=>∃ u,a'=a.put o.dst u∧vL L j w' u∧Bw w w') a w)
  (hal:∀ k,k<PNL.length→∃ o,ops[PNL.getD k 0]?=some o∧o.op=.alloc T)
  (hz:∀ w,(zeroValue T).run P w=.ok (.agg zs) w) (hi:(P.info? T).map (·.size)=some zs.size)
  (hst:∀ k,k<PNL.length→∃ o,ops[PSL.getD k 0]?=some o∧o.op=.store T (.tmp (BL.getD k 0)) (.tmp (SL.getD (vs.getD k 0) 0)))
  (hQ:∀ (u:Nat→Value) (g:Nat→Nat) (w:World),Bw W0 w→(∀ j,j<PVL.length→vL L j w (u j)) →
   (∀ k,k<PNL.length→W0.heap.size≤g k∧∃ cs,u (vs.getD k 0)=.agg cs∧w.heap[g k]?=some (.cells cs T (0,0)))→(∀ k k',k<PNL.length→k'<PNL.length→k≠k'→g k≠g k') →
   Q .normal (putL a0 ((List.range PVL.length).map (fun j=>(SL.getD j 0,u j))++(List.range PNL.length).map (fun k=>(BL.getD k 0,.pointer (some ⟨g k,0,none⟩))))) w) :
  (Code.region id ops true).wp P Q a0 W0:=by
 unfold xchk at hchk
 simp only[Bool.and_eq_true,decide_eq_true_eq] at hchk
 obtain⟨⟨⟨⟨⟨h1,h2⟩,h3⟩,h4⟩,h5⟩,h6,h7,h8⟩:=hchk
 obtain⟨n1,n23,n4⟩:=List.nodup_append.1 h4
 obtain⟨n2,n3,n5⟩:=List.nodup_append.1 n23
 obtain⟨s1,s2,s3⟩:=List.nodup_append.1 h5
 have row:∀ {i o},ops[i]?=some o→(∀ e ∈ o.after,Region.binds .any e=true→e.on<i)∧(i ∈ PVL∨i ∈ PNL∨i ∈ PSL):=fun {i o} ho=>by
  have:=List.all_eq_true.1 h1 i (List.mem_range.2 (Array.getElem?_eq_some_iff.1 ho).1)
  simp only[ho] at this
  rw[Bool.and_eq_true,Bool.or_eq_true,Bool.or_eq_true] at this
  refine⟨fun e he hb=>?_,?_⟩
  ·have h9:=Array.all_eq_true_iff_forall_mem.1 this.1 e he
   rw[hb] at h9
   exact of_decide_eq_true (by simpa using h9)
  ·rcases this.2 with (h|h)|h
   ·exact .inl (by simpa using h)
   ·exact .inr (.inl (by simpa using h))
   ·exact .inr (.inr (by simpa using h))
 have val:∀ j,j<PVL.length→∃ o,ops[PVL.getD j 0]?=some o∧o.dst=some (SL.getD j 0)∧∀ j' ∈ dL D j,j'<PVL.length∧∃ e ∈ o.after,e.on=PVL.getD j' 0∧Region.binds .any e=true:=fun j hj=>by
  have:=List.all_eq_true.1 h2 j (List.mem_range.2 hj)
  unfold qval at this
  cases ho:ops[PVL.getD j 0]? with
  | none=>rw[ho] at this;cases this
  | some o =>
   rw[ho] at this
   simp only[Bool.and_eq_true] at this
   refine⟨o,rfl,by simpa using this.1,fun j' hj'=>?_⟩
   have:=List.all_eq_true.1 this.2 j' hj'
   rw[Bool.and_eq_true] at this
   exact⟨of_decide_eq_true this.1,vhas_ex this.2⟩
 have sto:∀ k,k<PNL.length→∃ o p,ops[PNL.getD k 0]?=some o∧ops[PSL.getD k 0]?=some p∧o.dst=some (BL.getD k 0)∧o.guard=none∧p.dst=none∧p.guard=none∧vs.getD k 0<PVL.length∧(∃ e ∈ p.after,e.on=PNL.getD k 0∧Region.binds .any e=true)∧∃ e ∈ p.after,e.on=PVL.getD (vs.getD k 0) 0∧Region.binds .any e=true:=fun k hk=>by
  have:=List.all_eq_true.1 h3 k (List.mem_range.2 hk)
  unfold xall at this
  cases ho:ops[PNL.getD k 0]? with
  | none=>rw[ho] at this;cases this
  | some o =>
   cases hp:ops[PSL.getD k 0]? with
   | none=>rw[ho,hp] at this;cases this
   | some p =>
    rw[ho,hp] at this
    simp only[Bool.and_eq_true] at this
    obtain⟨⟨⟨⟨⟨⟨x1,x2⟩,x3⟩,x4⟩,x5⟩,x6⟩,x7⟩:=this
    exact⟨o,p,rfl,rfl,by simpa using x1,Option.isNone_iff_eq_none.1 x2,by simpa using x3,Option.isNone_iff_eq_none.1 x4,of_decide_eq_true x5,vhas_ex x6,vhas_ex x7⟩
 have hoth:∀ {s:Nat},(SL++BL).contains s=false→(∀ j,j<PVL.length→s≠SL.getD j 0)∧∀ k,k<PNL.length→s≠BL.getD k 0:=fun {s} h=>by
  have hn:s ∉ SL++BL:=fun hh=>by
   have:(SL++BL).contains s=true:=by simpa using hh
   rw[h] at this;cases this
  refine⟨fun j hj e=>hn ?_,fun k hk e=>hn ?_⟩
  ·rw[e];exact List.mem_append_left _ (getD_mem (by omega))
  ·rw[e];exact List.mem_append_right _ (getD_mem (by omega))
 refine parx_region hm (fun j=>PVL.getD j 0) (fun k=>PNL.getD k 0) (fun k=>PSL.getD k 0) PVL.length PNL.length (fun j=>SL.getD j 0) (fun k=>BL.getD k 0) (fun k=>vs.getD k 0) (dL D) T zs W0 a0 (vL L) ?_ ?_ ?_ ?_ (fun j j' hj hj' e=>getD_inj n1 hj hj' e) (fun k k' hk hk' e=>getD_inj n2 hk hk' e) (fun k k' hk hk' e=>getD_inj n3 (by omega) (by omega) e) ?_ ?_ ?_ (fun i o ho=>(row ho).1) (fun j w w' u hb h=>vL_stays hV1 j w w' u hb h) (fun j w u g cs' y1 h=>vL_zrows hV2 j w u g cs' y1 h) hVs ?_ ?_ ?_ hz hi ?_ (fun j hj=>hsl _ (List.mem_append_left _ (getD_mem (by omega)))) (fun k hk=>hsl _ (List.mem_append_right _ (getD_mem (by omega)))) (fun j j' hj hj' e=>getD_inj s1 (by omega) (by omega) e) (fun j j' hj hj' e=>getD_inj s2 (by omega) (by omega) e) ?_ ?_
 ·intro i hi'
  have ho:ops[i]?=some ops[i]:=Array.getElem?_eq_getElem hi'
  rcases(row ho).2 with h|h|h
  ·exact .inl (mem_getD h)
  ·exact .inr (.inl (mem_getD h))
  ·obtain⟨k,x1,x2⟩:=mem_getD h
   exact .inr (.inr ⟨k,by omega,x2⟩)
 ·intro j hj
  obtain⟨o,ho,-⟩:=val j hj
  exact(Array.getElem?_eq_some_iff.1 ho).1
 ·intro k hk
  obtain⟨o,p,ho,hp,-⟩:=sto k hk
  exact(Array.getElem?_eq_some_iff.1 ho).1
 ·intro k hk
  obtain⟨o,p,ho,hp,-⟩:=sto k hk
  exact(Array.getElem?_eq_some_iff.1 hp).1
 ·intro j k hj hk
  exact n4 _ (getD_mem hj) _ (List.mem_append_left _ (getD_mem hk))
 ·intro j k hj hk
  exact n4 _ (getD_mem hj) _ (List.mem_append_right _ (getD_mem (by omega)))
 ·intro k k' hk hk'
  exact n5 _ (getD_mem hk) _ (getD_mem (by omega))
 ·intro j hj j' hj'
  obtain⟨o,ho,-,hd⟩:=val j hj
  obtain⟨x1,x2⟩:=hd j' hj'
  refine⟨x1,fun o' ho'=>?_⟩
  obtain rfl:o=o':=Option.some.inj (ho.symm.trans ho')
  exact x2
 ·intro j hj a w hk ho1 hd
  obtain⟨o,ho,hds,-⟩:=val j hj
  have h7:=hA j hj o ho a w hk (fun s hs=>ho1 s (hoth hs).1 (hoth hs).2) hd
  rw[hds] at h7
  rcases h7 with ⟨hg,h7⟩|h7
  ·exact step_wanted ho hg h7
  ·exact h7
 ·intro k hk
  obtain⟨o,p,ho,hp,x1,x2,-⟩:=sto k hk
  obtain⟨o',ho',hop⟩:=hal k hk
  obtain rfl:o=o':=Option.some.inj (ho.symm.trans ho')
  exact⟨o,ho,x2,hop,x1⟩
 ·intro k hk
  obtain⟨o,p,ho,hp,x1,x2,x3,x4,x5,x6,x7⟩:=sto k hk
  obtain⟨p',hp',hop⟩:=hst k hk
  obtain rfl:p=p':=Option.some.inj (hp.symm.trans hp')
  exact⟨x5,p,hp,x4,hop,x3,x6,x7⟩
 ·intro j k hj hk
  exact s3 _ (getD_mem (by omega)) _ (getD_mem (by omega))
 ·intro u g a w hb hu hg hap hs hd ho1
  have q1:((List.range PVL.length).map (fun j=>((SL.getD j 0,u j):Tmp×Value))++(List.range PNL.length).map (fun k=>((BL.getD k 0,Value.pointer (some ⟨g k,0,none⟩)):Tmp×Value))).map (fun p:Tmp×Value=>p.1)=(List.range PVL.length).map (fun j=>SL.getD j 0)++(List.range PNL.length).map (fun k=>BL.getD k 0):=by simp[Function.comp_def]
  have ha:=act_putL (a:=a) (a0:=a0) (l:=(List.range PVL.length).map (fun j=>((SL.getD j 0,u j):Tmp×Value))++(List.range PNL.length).map (fun k=>((BL.getD k 0,Value.pointer (some ⟨g k,0,none⟩)):Tmp×Value))) (by
    rw[q1,List.nodup_append]
    refine⟨?_,?_,?_⟩
    ·refine List.pairwise_map.2 ((List.nodup_range (n:=PVL.length)).imp_of_mem ?_)
     intro x y hx hy hne he
     have:=List.mem_range.1 hx
     have:=List.mem_range.1 hy
     exact hne (getD_inj s1 (by omega) (by omega) he)
    ·refine List.pairwise_map.2 ((List.nodup_range (n:=PNL.length)).imp_of_mem ?_)
     intro x y hx hy hne he
     have:=List.mem_range.1 hx
     have:=List.mem_range.1 hy
     exact hne (getD_inj s2 (by omega) (by omega) he)
    ·intro x hx y hy
     obtain⟨i,hi1,rfl⟩:=List.mem_map.1 hx
     obtain⟨k,hk1,rfl⟩:=List.mem_map.1 hy
     have:=List.mem_range.1 hi1
     have:=List.mem_range.1 hk1
     exact s3 _ (getD_mem (by omega)) _ (getD_mem (by omega))) hs hd (by
    intro p hp
    rcases List.mem_append.1 hp with hp|hp
    ·obtain⟨i,hi1,rfl⟩:=List.mem_map.1 hp
     exact(hu i (List.mem_range.1 hi1)).1
    ·obtain⟨k,hk1,rfl⟩:=List.mem_map.1 hp
     exact(hg k (List.mem_range.1 hk1)).1) (fun s hsn=>ho1 s (fun i hi1 he=>hsn (List.mem_map.2 ⟨_,List.mem_append_left _ (List.mem_map.2 ⟨i,List.mem_range.2 hi1,rfl⟩),he.symm⟩)) (fun k hk1 he=>hsn (List.mem_map.2 ⟨_,List.mem_append_right _ (List.mem_map.2 ⟨k,List.mem_range.2 hk1,rfl⟩),he.symm⟩)))
  rw[ha]
  exact hQ u g w hb (fun j hj=>(hu j hj).2) (fun k hk=>(hg k hk).2) hap
end Go.Proofs.YtapooodfgcjoaaaGreat
namespace Go.Proofs.YtapooodfgcjoaaaGreat
open Go.RowKit Go.Fl64
theorem gord_of {ops:Array Oper} (h:((List.range ops.size).all fun i=>match ops[i]? with|some o=>o.after.all (fun e=>decide (e.on<i))|none=>true)=true) (i:Nat) (o:Oper) (ho:ops[i]?=some o):∀ e ∈ o.after,e.on<i:=by
 intro e he
 have hi:i<ops.size:=(Array.getElem?_eq_some_iff.1 ho).1
 have h1:=List.all_eq_true.1 h i (List.mem_range.2 hi)
 simp only[ho] at h1
 exact of_decide_eq_true (Array.all_eq_true_iff_forall_mem.1 h1 e he)
theorem gzero_num (w:World):(zeroValue 45).run Tryz.prog w=.ok (.agg #[.bool false,.slice none 0 0,.int .i64 0]) w:=Tryz.zeroValue45 w
def NumC (cs:Array Value):Prop:=∃ (s:Bool) (ao:Option Addr) (n cap:Nat) (e:Int),cs = #[.bool s,.slice ao n cap,.int .i64 e]
theorem gat_row {W:World} {ao:Option Addr} {n z g:Nat} {cs0:Array Value} {T:TypeId} (h:At W ao n z) (hE:W.heap[g]?=some (.cells cs0 T (0,0))) (hC:NumC cs0) (cs:Array Value):At (W.setRow g cs) ao n z:=by
 obtain⟨bb,o,h1,h2⟩:=h
 obtain⟨s',ao',n',cap',e',rfl⟩:=hC
 refine⟨bb,o,h1,fun i hi=>?_⟩
 have hc:=h2 i hi
 have hne:bb≠g:=by
  rintro rfl
  simp only[World.cell?,hE] at hc
  rcases(show o+i=0∨o+i=1∨o+i=2∨3≤o+i by omega)with e|e|e|e
  ·rw[e] at hc;simp at hc
  ·rw[e] at hc;simp at hc
  ·rw[e] at hc;simp at hc
  ·rw[Array.getElem?_eq_none (by simpa using e)] at hc;cases hc
 have hs:=setRow_other W g bb cs hne
 unfold World.cell? at hc ⊢
 rw[hs]
 exact hc
theorem DN.grow {W:World} {A:Value} {t:Bool×Nat×Int} {g:Nat} {cs0:Array Value} {T:TypeId} (h:DN W A t) (hE:W.heap[g]?=some (.cells cs0 T (0,0))) (hC:NumC cs0) (cs:Array Value):DN (W.setRow g cs) A t:=by
 obtain⟨ao',cap',h2,h3⟩:=h
 exact⟨ao',cap',h2,h3.nil,gat_row h3.at_ hE hC cs,h3.le,h3.small⟩
theorem DN.cells {W:World} {A:Value} {t:Bool×Nat×Int} (h:DN W A t):∃ cs:Array Value,A=.agg cs∧cs.size=3∧NumC cs∧cs.all (·.oneCell')=true:=by
 obtain⟨s,ao,n,cap,e,rfl⟩:=h.shape
 exact⟨_,rfl,rfl,⟨_,_,_,_,_,rfl⟩,one3 rfl rfl⟩
theorem glt6 {j:Nat} (h:j<6):j=0∨j=1∨j=2∨j=3∨j=4∨j=5:=by omega
def NbD (W:World) (g:Nat) (s:Bool) (ao:Option Addr) (n cp:Nat) (e:Int) (T:Bool×Nat×Int):Prop:=W.heap[g]?=some (.cells #[.bool s,.slice ao n cp,.int .i64 e] 45 (0,0))∧DN W (.agg #[.bool s,.slice ao n cp,.int .i64 e]) T
theorem NbD.later {W w':World} {g:Nat} {s:Bool} {ao:Option Addr} {n cp:Nat} {e:Int} {T:Bool×Nat×Int} (h:NbD W g s ao n cp e T) (hb:Bw W w'):NbD w' g s ao n cp e T :=
 ⟨box_later h.1 hb (Array.getElem?_eq_some_iff.1 h.1).1,h.2.later hb⟩
theorem NbD.lt {W:World} {g:Nat} {s:Bool} {ao:Option Addr} {n cp:Nat} {e:Int} {T:Bool×Nat×Int} (h:NbD W g s ao n cp e T):g<W.heap.size:=(Array.getElem?_eq_some_iff.1 h.1).1
theorem gat_storeN {W:World} {ao:Option Addr} {n z g:Nat} {x y v:Value} {s0:Bool} {ao0:Option Addr} {n0 cp0:Nat} {e0:Int} (h:At W ao n z) (hE:W.heap[g]?=some (.cells #[.bool s0,.slice ao0 n0 cp0,.int .i64 e0] 45 (0,0))):At (((W.setCell ⟨g,0,none⟩ x).setCell ⟨g,1,none⟩ y).setCell ⟨g,2,none⟩ v) ao n z:=by
 obtain⟨bb,o,h1,h2⟩:=h
 refine⟨bb,o,h1,fun i hi=>?_⟩
 have hc:=h2 i hi
 have hne:bb≠g:=by
  rintro rfl
  simp only[World.cell?,hE] at hc
  rcases(show o+i=0∨o+i=1∨o+i=2∨3≤o+i by omega)with e|e|e|e
  ·rw[e] at hc;simp at hc
  ·rw[e] at hc;simp at hc
  ·rw[e] at hc;simp at hc
  ·rw[Array.getElem?_eq_none (by simpa using e)] at hc;cases hc
 rw[cell_far3 hne]
 exact hc
theorem DN.storeN {W:World} {A:Value} {t:Bool×Nat×Int} {g:Nat} {s0:Bool} {ao0:Option Addr} {n0 cp0:Nat} {e0:Int} (h:DN W A t) (hE:W.heap[g]?=some (.cells #[.bool s0,.slice ao0 n0 cp0,.int .i64 e0] 45 (0,0))) (x y v:Value):DN (((W.setCell ⟨g,0,none⟩ x).setCell ⟨g,1,none⟩ y).setCell ⟨g,2,none⟩ v) A t:=by
 obtain⟨ao,cap,h1,h2⟩:=h
 exact⟨ao,cap,h1,h2.nil,gat_storeN h2.at_ hE,h2.le,h2.small⟩
theorem NbD.put {W:World} {g:Nat} {s:Bool} {ao:Option Addr} {n cp:Nat} {e:Int} {T:Bool×Nat×Int} (h:NbD W g s ao n cp e T) {s':Bool} {ao':Option Addr} {n' cp':Nat} {e':Int} {T':Bool×Nat×Int} (hd:DN W (.agg #[.bool s',.slice ao' n' cp',.int .i64 e']) T') :
  NbD (((W.setCell ⟨g,0,none⟩ (.bool s')).setCell ⟨g,1,none⟩ (.slice ao' n' cp')).setCell ⟨g,2,none⟩ (.int .i64 e')) g s' ao' n' cp' e' T' :=
 ⟨store3_29 _ _ _ h.1,hd.storeN h.1 _ _ _⟩
theorem heap_other3 {W:World} {g k:Nat} {o:Obj} (h:W.heap[k]?=some o) (hk:k≠g) (x y v:Value):(((W.setCell ⟨g,0,none⟩ x).setCell ⟨g,1,none⟩ y).setCell ⟨g,2,none⟩ v).heap[k]?=some o:=by
 have h':¬ g=k:=fun e=>hk e.symm
 simp[World.setCell,Array.getElem?_modify,h',h]
theorem NbD.other {W:World} {g k:Nat} {s:Bool} {ao:Option Addr} {n cp:Nat} {e:Int} {T:Bool×Nat×Int} (h:NbD W k s ao n cp e T) {s0:Bool} {ao0:Option Addr} {n0 cp0:Nat} {e0:Int} (hE:W.heap[g]?=some (.cells #[.bool s0,.slice ao0 n0 cp0,.int .i64 e0] 45 (0,0))) (hk:k≠g) (x y v:Value) :
  NbD (((W.setCell ⟨g,0,none⟩ x).setCell ⟨g,1,none⟩ y).setCell ⟨g,2,none⟩ v) k s ao n cp e T :=
 ⟨heap_other3 h.1 hk _ _ _,h.2.storeN hE _ _ _⟩
def ovV (s:Bool) (ao:Option Addr) (n cp:Nat) (e:Int) (k p:Int) (X Tk To:Bool×Nat×Int) (j:Nat) (w:World) (u:Value):Prop :=
 match j with
 | 0=>u=.agg #[.bool s,.slice ao n cp,.int .i64 e]∧DN w u X
 | 1=>u=.int .i64 k
 | 2=>DN w u Tk
 | 3=>u=.int .i64 p
 | _=>DN w u To
def ovD (j:Nat):List Nat :=
 match j with
 | 2 => [1]
 | 4 => [0,2,3]
 | _ => []
theorem lt5D {j:Nat} (h:j<5):j=0∨j=1∨j=2∨j=3∨j=4:=by omega
theorem run_loadNum (g:Nat) (s:Bool) (ao:Option Addr) (n cp:Nat) (e:Int) (w:World) (h:w.heap[g]?=some (.cells #[.bool s,.slice ao n cp,.int .i64 e] 45 (0,0))):(Instr.loadAt 45 (.pointer (some ⟨g,0,none⟩))).run Tryz.prog w=.ok (.agg #[.bool s,.slice ao n cp,.int .i64 e]) w:=by
 simp only[Instr.loadAt,Instr.sureAddr,Sem.run_bind,Sem.run_pure,Result.andThen_ok,run_loadVar_row w g 45 45 #[.bool s,.slice ao n cp,.int .i64 e] (0,0) _ h Tryz.underlying45 rfl Tryz.info45]
theorem ostep_load {ops:Array Oper} {Q:Exit→Act→World→Prop} {i:Nat} {o:Oper} {K:Act→World→Prop} {a:Act} {w:World}
  (hi:ops[i]?=some o) (hg:o.guard=none) {s:Tmp} {ty:TypeId} (hop:o.op=.load ty (.tmp s)) {p v:Value} (hr:(Instr.loadAt ty p).run Tryz.prog w=.ok v w)
  (hs:a.tmps[s]?=some p) (h:K (a.put o.dst v) w):wpOp Tryz.prog ops Q i K a w:=by
 refine step_wanted hi hg ?_
 unfold Oper.wp
 simp[execOp,hop,eval_get hs,hr,Result.andThen,Oper.upon,h]
theorem ostep_move {ops:Array Oper} {Q:Exit→Act→World→Prop} {i:Nat} {o:Oper} {K:Act→World→Prop} {a:Act} {w:World}
  (hi:ops[i]?=some o) (hg:o.guard=none) {s:Tmp} (hop:o.op=.move (.tmp s)) {v:Value}
  (hs:a.tmps[s]?=some v) (h:K (a.put o.dst v) w):wpOp Tryz.prog ops Q i K a w:=by
 refine step_wanted hi hg ?_
 unfold Oper.wp
 simp[execOp,hop,eval_get hs,Result.andThen,Oper.upon,h]
end Go.Proofs.YtapooodfgcjoaaaGreat
