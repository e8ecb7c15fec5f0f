/- Own work: contracts of the program's functions, part 8: RE1 RE3 RE4 DL1 SNP DL2 DL3 CP1. -/
import Derived.Test.YtolefllepcdagaaGreatA7
import Derived.Test.YtolefllepcdagaaGreatA6
import Derived.Test.YtolefllepcdagaaGreatA5

set_option maxHeartbeats 16000000
set_option maxRecDepth 200000
set_option linter.unusedVariables false
set_option linter.unusedSimpArgs false
namespace Go.Proofs.YtolefllepcdagaaGreat
open Go.RowKit
theorem rmag_1 (na nb:Bool) (ua va:Option Addr) (un uc vn vc:Nat) (ea eb ha hb:Int) (w:World) (hn1:((un:Int)==0)=false) (hn2:((vn:Int)==0)=false)
  (hh1 : -64000000000≤ha) (hh2:ha≤64000000000) (hh3 : -64000000000≤hb) (hh4:hb≤64000000000) (hne:ha≠hb)
  (kA:∀ W,Bw w W→Calls Tryz.prog 38 #[.agg #[.bool na,.slice ua un uc,.int .i64 ea]] W fun r w'=>r=.returned (.int .i64 ha)∧Bw W w')
  (kB:∀ W,Bw w W→Calls Tryz.prog 38 #[.agg #[.bool nb,.slice va vn vc,.int .i64 eb]] W fun r w'=>r=.returned (.int .i64 hb)∧Bw W w') :
  Calls Tryz.prog 24 #[.agg #[.bool na,.slice ua un uc,.int .i64 ea],.agg #[.bool nb,.slice va vn vc,.int .i64 eb]] w fun r w'=>r=.returned (.int .i64 (ha - hb))∧Bw w w':=by
 obtain⟨W,hW⟩:∃ W,W=(w.alloc (.cells #[.bool na,.slice ua un uc,.int .i64 ea] 30)).alloc (.cells #[.bool nb,.slice va vn vc,.int .i64 eb] 30):=⟨_,rfl⟩
 obtain⟨hA,hBb,hsz,hBW⟩:=two29 _ _ hW
 have HX:Hid (Bw w W):=hBW
 have kA':∀ w4,Bw W w4→Calls Tryz.prog 38 #[.agg #[.bool na,.slice ua un uc,.int .i64 ea]] w4 fun r w'=>r=.returned (.int .i64 ha)∧Bw W w':=fun w4 h4=>(kA w4 (hBW.trans (h4.mono hBW.size))).mono fun r w' ⟨e1,o2⟩=>⟨e1,h4.trans (o2.mono h4.size)⟩
 have kB':∀ w4,Bw W w4→Calls Tryz.prog 38 #[.agg #[.bool nb,.slice va vn vc,.int .i64 eb]] w4 fun r w'=>r=.returned (.int .i64 hb)∧Bw W w':=fun w4 h4=>(kB w4 (hBW.trans (h4.mono hBW.size))).mono fun r w' ⟨e1,o2⟩=>⟨e1,h4.trans (o2.mono h4.size)⟩
 have HKA:Hid (∀ w4,Bw W w4→Calls Tryz.prog 38 #[.agg #[.bool na,.slice ua un uc,.int .i64 ea]] w4 fun r w'=>r=.returned (.int .i64 ha)∧Bw W w'):=kA'
 have HKB:Hid (∀ w4,Bw W w4→Calls Tryz.prog 38 #[.agg #[.bool nb,.slice va vn vc,.int .i64 eb]] w4 fun r w'=>r=.returned (.int .i64 hb)∧Bw W w'):=kB'
 obtain⟨⟨a0,a1,a2⟩,-⟩:=box_cells29 hA
 obtain⟨⟨b0,b1,b2⟩,-⟩:=box_cells29 hBb
 have HK:Hid (∀ w',Bw W w'→((w'.cell? ⟨w.heap.size,0,none⟩=some (.bool na)∧w'.cell? ⟨w.heap.size,1,none⟩=some (.slice ua un uc)∧w'.cell? ⟨w.heap.size,2,none⟩=some (.int .i64 ea))∧(w'.cell? ⟨w.heap.size+1,0,none⟩=some (.bool nb)∧w'.cell? ⟨w.heap.size+1,1,none⟩=some (.slice va vn vc)∧w'.cell? ⟨w.heap.size+1,2,none⟩=some (.int .i64 eb)))):=fun w' hb=>⟨(box_cells29 (box_later hA hb (by omega))).1,(box_cells29 (box_later hBb hb (by omega))).1⟩
 have HRD:Hid (∀ w',Bw W w'→Bw W w'.drew):=fun w' h=>h.trans ⟨rfl,rfl,rfl,Nat.le_refl _,fun _ _=>rfl⟩
 have hBR:Bw W W.drew:=(Below.refl _ _).drew
 have HZ:Hid (IntKind.i64.wrap (ha - hb)=ha - hb):=(by rw[IntKind.wrap_i64];omega:IntKind.i64.wrap (ha - hb)=ha - hb)
 have hne':(ha==hb)=false:=by simpa using hne
 clear kA kB hA hBb hsz hBW hne hh1 hh2 hh3 hh4
 go_enter Tryz.func24,Tryz.ntmps24
 go_upto_region 3 with fail
 rw[←hW]
 clear hW
 go_cut [24] from 25 to 29 (fun v w'=>v=.bool true∧Hid (Bw W w'))
 case first =>
  go_region_held3 (fun w'=>((w'.cell? ⟨w.heap.size,0,none⟩=some (.bool na)∧w'.cell? ⟨w.heap.size,1,none⟩=some (.slice ua un uc)∧w'.cell? ⟨w.heap.size,2,none⟩=some (.int .i64 ea))∧(w'.cell? ⟨w.heap.size+1,0,none⟩=some (.bool nb)∧w'.cell? ⟨w.heap.size+1,1,none⟩=some (.slice va vn vc)∧w'.cell? ⟨w.heap.size+1,2,none⟩=some (.int .i64 eb)))) (first|(with_reducible assumption)|exact⟨⟨a0,a1,a2⟩,b0,b1,b2⟩|(refine HK.out _ ?_;with_reducible assumption)|go_keep)
   (first|(go_at_call 38;first|(with_reducible refine(kA' _ (by first|(with_reducible assumption)|exact hBR)).mono ?_;rintro r w5 ⟨rfl,hb5⟩)|(with_reducible refine(kB' _ (by first|(with_reducible assumption)|exact hBR)).mono ?_;rintro r w6 ⟨rfl,hb6⟩)))
  all_goals go_wp2_with fail
  all_goals go_meet
  all_goals exact⟨by rw[bne,hne'];rfl,by first|exact hb6|exact hb5⟩
 case rest =>
  obtain⟨rfl,hc⟩:=hcut
  obtain⟨W2,rfl⟩:∃ W2:World,W2=wc:=⟨_,rfl⟩
  clear a0 a1 a2 b0 b1 b2 kA' kB' hBR
  obtain⟨⟨a0,a1,a2⟩,b0,b1,b2⟩:=HK.out W2 hc.out
  have hBR:Bw W W2.drew:=HRD.out _ hc.out
  have kA':=HKA.out
  have kB':=HKB.out
  go_upto_region 4 with fail
  go_region_held3 (fun w'=>((w'.cell? ⟨w.heap.size,0,none⟩=some (.bool na)∧w'.cell? ⟨w.heap.size,1,none⟩=some (.slice ua un uc)∧w'.cell? ⟨w.heap.size,2,none⟩=some (.int .i64 ea))∧(w'.cell? ⟨w.heap.size+1,0,none⟩=some (.bool nb)∧w'.cell? ⟨w.heap.size+1,1,none⟩=some (.slice va vn vc)∧w'.cell? ⟨w.heap.size+1,2,none⟩=some (.int .i64 eb)))) (first|(with_reducible assumption)|exact⟨⟨a0,a1,a2⟩,b0,b1,b2⟩|(refine HK.out _ ?_;with_reducible assumption)|go_keep)
   (first|(go_at_call 38;first|(with_reducible refine(kA' _ (by first|(with_reducible assumption)|exact hBR)).mono ?_;rintro r w5 ⟨rfl,hb5⟩)|(with_reducible refine(kB' _ (by first|(with_reducible assumption)|exact hBR)).mono ?_;rintro r w6 ⟨rfl,hb6⟩)))
  all_goals (have HL5:Hid (Bw W w5):=hb5;have HL6:Hid (Bw W w6):=hb6;clear kA' kB' HK HKA HKB a0 a1 a2 b0 b1 b2 hBR hb5 hb6;go_wp2;go_ret;first|exact⟨by rw[HZ.out];rfl,HX.out.trans (HL6.out.mono HX.out.size)⟩|exact⟨by rw[HZ.out];rfl,HX.out.trans (HL5.out.mono HX.out.size)⟩)
theorem rmag_2 (na nb:Bool) (ua va:Option Addr) (un uc vn vc X Y:Nat) (ea eb ha:Int) (w:World) (hn1:((un:Int)==0)=false) (hn2:((vn:Int)==0)=false) (hX:dlen X≤1000000) (hY:dlen Y≤1000000)
  (he1 : -4000000≤ea) (he2:ea≤4000000) (he3 : -4000000≤eb) (he4:eb≤4000000)
  (kA:∀ W,Bw w W→Calls Tryz.prog 38 #[.agg #[.bool na,.slice ua un uc,.int .i64 ea]] W fun r w'=>r=.returned (.int .i64 ha)∧Bw W w')
  (kB:∀ W,Bw w W→Calls Tryz.prog 38 #[.agg #[.bool nb,.slice va vn vc,.int .i64 eb]] W fun r w'=>r=.returned (.int .i64 ha)∧Bw W w')
  (ku:∀ W i,Bw w W→i=ea - min ea eb→Calls Tryz.prog 40 #[.slice ua un uc,.int .i64 i] W fun r w'=>∃ v,r=.returned v∧Ir w' v X∧Bw W w')
  (kv:∀ W i,Bw w W→i=eb - min ea eb→Calls Tryz.prog 40 #[.slice va vn vc,.int .i64 i] W fun r w'=>∃ v,r=.returned v∧Ir w' v Y∧Bw W w') :
  Calls Tryz.prog 24 #[.agg #[.bool na,.slice ua un uc,.int .i64 ea],.agg #[.bool nb,.slice va vn vc,.int .i64 eb]] w fun r w'=>r=.returned (.int .i64 (cmpI X Y))∧Bw w w':=by
 obtain⟨W,hW⟩:∃ W,W=(w.alloc (.cells #[.bool na,.slice ua un uc,.int .i64 ea] 30)).alloc (.cells #[.bool nb,.slice va vn vc,.int .i64 eb] 30):=⟨_,rfl⟩
 obtain⟨hA,hBb,hsz,hBW⟩:=two29 _ _ hW
 have HX:Hid (Bw w W):=hBW
 have kA':∀ w4,Bw W w4→Calls Tryz.prog 38 #[.agg #[.bool na,.slice ua un uc,.int .i64 ea]] w4 fun r w'=>r=.returned (.int .i64 ha)∧Bw W w':=fun w4 h4=>(kA w4 (hBW.trans (h4.mono hBW.size))).mono fun r w' ⟨e1,o2⟩=>⟨e1,h4.trans (o2.mono h4.size)⟩
 have kB':∀ w4,Bw W w4→Calls Tryz.prog 38 #[.agg #[.bool nb,.slice va vn vc,.int .i64 eb]] w4 fun r w'=>r=.returned (.int .i64 ha)∧Bw W w':=fun w4 h4=>(kB w4 (hBW.trans (h4.mono hBW.size))).mono fun r w' ⟨e1,o2⟩=>⟨e1,h4.trans (o2.mono h4.size)⟩
 obtain⟨i1,hi1⟩:∃ i1,i1=ea - min ea eb:=⟨_,rfl⟩
 obtain⟨i2,hi2⟩:∃ i2,i2=eb - min ea eb:=⟨_,rfl⟩
 have HKU:Hid (∀ w4,Bw W w4→Calls Tryz.prog 40 #[.slice ua un uc,.int .i64 i1] w4 fun r w'=>∃ v,r=.returned v∧Ir w' v X∧Bw W w'∧Bw w4 w'):=(fun w4 h4=>(ku w4 i1 (hBW.trans (h4.mono hBW.size)) hi1).mono fun r w' ⟨v,e1,o1,o2⟩=>⟨v,e1,o1,h4.trans (o2.mono h4.size),o2⟩:∀ w4,Bw W w4→Calls Tryz.prog 40 #[.slice ua un uc,.int .i64 i1] w4 fun r w'=>∃ v,r=.returned v∧Ir w' v X∧Bw W w'∧Bw w4 w')
 have HKV:Hid (∀ w4,Bw W w4→Calls Tryz.prog 40 #[.slice va vn vc,.int .i64 i2] w4 fun r w'=>∃ v,r=.returned v∧Ir w' v Y∧Bw W w'∧Bw w4 w'):=(fun w4 h4=>(kv w4 i2 (hBW.trans (h4.mono hBW.size)) hi2).mono fun r w' ⟨v,e1,o1,o2⟩=>⟨v,e1,o1,h4.trans (o2.mono h4.size),o2⟩:∀ w4,Bw W w4→Calls Tryz.prog 40 #[.slice va vn vc,.int .i64 i2] w4 fun r w'=>∃ v,r=.returned v∧Ir w' v Y∧Bw W w'∧Bw w4 w')
 have kO:∀ w4 p q,Ir w4 p X→Ir w4 q Y→Bw W w4→Calls Tryz.prog 39 #[p,q] w4 fun r w'=>r=.returned (.int .i64 (cmpI X Y))∧Bw W w':=fun w4 p q hp hq h4=>(rord hp hq (by omega) (by omega)).mono fun r w' ⟨e1,d,e2⟩=>⟨e1,by rw[e2];exact h4.trans ⟨rfl,rfl,rfl,Nat.le_refl _,fun _ _=>rfl⟩⟩
 have HKO:Hid _:=kO
 obtain⟨⟨a0,a1,a2⟩,-⟩:=box_cells29 hA
 obtain⟨⟨b0,b1,b2⟩,-⟩:=box_cells29 hBb
 have HK:Hid (∀ w',Bw W w'→((w'.cell? ⟨w.heap.size,0,none⟩=some (.bool na)∧w'.cell? ⟨w.heap.size,1,none⟩=some (.slice ua un uc)∧w'.cell? ⟨w.heap.size,2,none⟩=some (.int .i64 ea))∧(w'.cell? ⟨w.heap.size+1,0,none⟩=some (.bool nb)∧w'.cell? ⟨w.heap.size+1,1,none⟩=some (.slice va vn vc)∧w'.cell? ⟨w.heap.size+1,2,none⟩=some (.int .i64 eb)))):=fun w' hb=>⟨(box_cells29 (box_later hA hb (by omega))).1,(box_cells29 (box_later hBb hb (by omega))).1⟩
 have HRD:Hid (∀ w',Bw W w'→Bw W w'.drew):=fun w' h=>h.trans ⟨rfl,rfl,rfl,Nat.le_refl _,fun _ _=>rfl⟩
 have hBR:Bw W W.drew:=(Below.refl _ _).drew
 have HI:Hid (∀ i,(i=ea - min ea eb∨i=IntKind.i64.wrap (ea - min ea eb))→i=i1):=(fun i h=>by rw[IntKind.wrap_i64] at h;omega:∀ i,(i=ea - min ea eb∨i=IntKind.i64.wrap (ea - min ea eb))→i=i1)
 have HJ:Hid (∀ i,(i=eb - min ea eb∨i=IntKind.i64.wrap (eb - min ea eb))→i=i2):=(fun i h=>by rw[IntKind.wrap_i64] at h;omega:∀ i,(i=eb - min ea eb∨i=IntKind.i64.wrap (eb - min ea eb))→i=i2)
 obtain⟨c,hc⟩:∃ c,c=cmpI X Y:=⟨_,rfl⟩
 rw[←hc] at HKO ⊢
 clear kA kB ku kv kO hA hBb hsz hBW hX hY hi1 hi2 hc
 go_enter Tryz.func24,Tryz.ntmps24
 go_upto_region 3 with fail
 rw[←hW]
 clear hW
 go_cut [24] from 25 to 29 (fun v w'=>v=.bool false∧Hid (Bw W w'))
 case first =>
  go_region_held3 (fun w'=>((w'.cell? ⟨w.heap.size,0,none⟩=some (.bool na)∧w'.cell? ⟨w.heap.size,1,none⟩=some (.slice ua un uc)∧w'.cell? ⟨w.heap.size,2,none⟩=some (.int .i64 ea))∧(w'.cell? ⟨w.heap.size+1,0,none⟩=some (.bool nb)∧w'.cell? ⟨w.heap.size+1,1,none⟩=some (.slice va vn vc)∧w'.cell? ⟨w.heap.size+1,2,none⟩=some (.int .i64 eb)))) (first|(with_reducible assumption)|exact⟨⟨a0,a1,a2⟩,b0,b1,b2⟩|(refine HK.out _ ?_;with_reducible assumption)|go_keep)
   (first|(go_at_call 38;first|(with_reducible refine(kA' _ (by first|(with_reducible assumption)|exact hBR)).mono ?_;rintro r w5 ⟨rfl,hb5⟩)|(with_reducible refine(kB' _ (by first|(with_reducible assumption)|exact hBR)).mono ?_;rintro r w6 ⟨rfl,hb6⟩)))
  all_goals go_wp2_with fail
  all_goals go_meet
  all_goals exact⟨by first|rfl|simp,by first|exact hb6|exact hb5⟩
 case rest =>
  obtain⟨rfl,hc⟩:=hcut
  obtain⟨W2,rfl⟩:∃ W2:World,W2=wc:=⟨_,rfl⟩
  clear a0 a1 a2 b0 b1 b2 kA' kB' hBR
  obtain⟨⟨a0,a1,a2⟩,b0,b1,b2⟩:=HK.out W2 hc.out
  have hBR:Bw W W2.drew:=HRD.out _ hc.out
  have kU:∀ i w4,(i=ea - min ea eb∨i=IntKind.i64.wrap (ea - min ea eb))→Bw W w4→Calls Tryz.prog 40 #[.slice ua un uc,.int .i64 i] w4 fun r w'=>∃ v,r=.returned v∧Ir w' v X∧Bw W w'∧Bw w4 w':=fun i w4 hi=>by rw[HI.out i hi];exact HKU.out w4
  have kV:∀ i w4,(i=eb - min ea eb∨i=IntKind.i64.wrap (eb - min ea eb))→Bw W w4→Calls Tryz.prog 40 #[.slice va vn vc,.int .i64 i] w4 fun r w'=>∃ v,r=.returned v∧Ir w' v Y∧Bw W w'∧Bw w4 w':=fun i w4 hi=>by rw[HJ.out i hi];exact HKV.out w4
  have kO:=HKO.out
  go_upto_region 6 with fail
  go_region_held3 (fun w'=>((w'.cell? ⟨w.heap.size,0,none⟩=some (.bool na)∧w'.cell? ⟨w.heap.size,1,none⟩=some (.slice ua un uc)∧w'.cell? ⟨w.heap.size,2,none⟩=some (.int .i64 ea))∧(w'.cell? ⟨w.heap.size+1,0,none⟩=some (.bool nb)∧w'.cell? ⟨w.heap.size+1,1,none⟩=some (.slice va vn vc)∧w'.cell? ⟨w.heap.size+1,2,none⟩=some (.int .i64 eb)))) (first|(with_reducible assumption)|exact⟨⟨a0,a1,a2⟩,b0,b1,b2⟩|(refine HK.out _ ?_;with_reducible assumption)|go_keep)
   (first|(go_at_call 40;first|(with_reducible refine(kU _ _ (by first|exact .inl rfl|exact .inr rfl) (by first|(with_reducible assumption)|exact hBR)).mono ?_;rintro r w5 ⟨p5,rfl,hp5,hb5,hc5⟩)|(with_reducible refine(kV _ _ (by first|exact .inl rfl|exact .inr rfl) (by first|(with_reducible assumption)|exact hBR)).mono ?_;rintro r w6 ⟨p6,rfl,hp6,hb6,hc6⟩))|(go_at_call 39;first|(with_reducible refine(kO _ _ _ (hp5.later hc6) hp6 hb6).mono ?_;rintro r w7 ⟨rfl,hb7⟩)|(with_reducible refine(kO _ _ _ hp5 (hp6.later hc5) hb5).mono ?_;rintro r w7 ⟨rfl,hb7⟩)))
  all_goals (have HL7:Hid (Bw W w7):=hb7;clear kU kV kO HK HKU HKV HKO a0 a1 a2 b0 b1 b2 hBR hb5 hb6 hb7 hp5 hp6 hc5 hc6;go_wp2;go_ret;exact⟨rfl,HX.out.trans (HL7.out.mono HX.out.size)⟩)
theorem rmag_0 (na nb:Bool) (ua va:Option Addr) (un uc vn vc:Nat) (ea eb:Int) (w:World) (h0:un=0∨vn=0) (hn1:un≤35184372088832) (hn2:vn≤35184372088832) :
  Calls Tryz.prog 24 #[.agg #[.bool na,.slice ua un uc,.int .i64 ea],.agg #[.bool nb,.slice va vn vc,.int .i64 eb]] w fun r w'=>r=.returned (.int .i64 ((un:Int) - vn))∧Bw w w':=by
 obtain⟨W,hW⟩:∃ W,W=(w.alloc (.cells #[.bool na,.slice ua un uc,.int .i64 ea] 30)).alloc (.cells #[.bool nb,.slice va vn vc,.int .i64 eb] 30):=⟨_,rfl⟩
 obtain⟨hA,hBb,hsz,hBW⟩:=two29 _ _ hW
 have HX:Hid (Bw w W):=hBW
 obtain⟨⟨a0,a1,a2⟩,-⟩:=box_cells29 hA
 obtain⟨⟨b0,b1,b2⟩,-⟩:=box_cells29 hBb
 rw[hW] at a0 a1 a2 b0 b1 b2
 have hw:IntKind.i64.wrap ((un:Int) - vn)=(un:Int) - vn:=by rw[IntKind.wrap_i64];omega
 have HD:Hid ((un:Int) - vn=(un:Int) - vn):=rfl
 clear hA hBb hsz hBW
 by_cases hu:un=0
 ·subst hu
  clear h0
  go_enter Tryz.func24,Tryz.ntmps24
  go_wp2
  go_ret
  exact⟨by simp,hW ▸ HX.out⟩
 ·obtain rfl:vn=0:=by omega
  have hu1:((un:Int)==0)=false:=by simp;omega
  clear h0 hu
  go_enter Tryz.func24,Tryz.ntmps24
  go_wp2
  go_ret
  exact⟨by simp,hW ▸ HX.out⟩
def magI (x:Nat) (ea:Int) (y:Nat) (eb:Int):Int:=if x=0∨y=0 then(dlen x:Int) - dlen y else if(bl x:Int)+ea=bl y+eb then cmpI (x*2^(ea - min ea eb).toNat:Nat) (y*2^(eb - min ea eb).toNat:Nat) else(bl x:Int)+ea - (bl y+eb)
theorem rmag {na nb:Bool} {ua va:Option Addr} {uc vc x y:Nat} {ea eb:Int} {w:World} (h1:Arg w ua (dlen x) uc x) (h2:Arg w va (dlen y) vc y) (hx:dlen x≤400000) (hy:dlen y≤400000) (ha : -2000000≤ea∧ea≤2000000) (hb : -2000000≤eb∧eb≤2000000) :
  Calls Tryz.prog 24 #[.agg #[.bool na,.slice ua (dlen x) uc,.int .i64 ea],.agg #[.bool nb,.slice va (dlen y) vc,.int .i64 eb]] w fun r w'=>r=.returned (.int .i64 (magI x ea y eb))∧Bw w w':=by
 unfold magI
 by_cases h0:x=0∨y=0
 ·rw[if_pos h0]
  exact rmag_0 na nb ua va _ uc _ vc ea eb w (h0.imp (fun h=>by rw[h,dlen_zero]) (fun h=>by rw[h,dlen_zero])) (by omega) (by omega)
 ·rw[if_neg h0]
  have hx0:x≠0:=fun e=>h0 (.inl e)
  have hy0:y≠0:=fun e=>h0 (.inr e)
  have b1:=bl_le_dlen x
  have b2:=bl_le_dlen y
  have kA:∀ W,Bw w W→Calls Tryz.prog 38 #[.agg #[.bool na,.slice ua (dlen x) uc,.int .i64 ea]] W fun r w'=>r=.returned (.int .i64 (bl x+ea))∧Bw W w':=fun W hW=>rhigh (h1.later hW).at_ hx0 (by omega) (by omega)
  have kB:∀ W,Bw w W→Calls Tryz.prog 38 #[.agg #[.bool nb,.slice va (dlen y) vc,.int .i64 eb]] W fun r w'=>r=.returned (.int .i64 (bl y+eb))∧Bw W w':=fun W hW=>rhigh (h2.later hW).at_ hy0 (by omega) (by omega)
  by_cases ht:(bl x:Int)+ea=bl y+eb
  ·rw[if_pos ht]
   rw[←ht] at kB
   have l1:dlen (x*2^(ea - min ea eb).toNat)≤760000:=by have:=shl_len (x:=x) (k:=(ea - min ea eb).toNat) rfl;omega
   have l2:dlen (y*2^(eb - min ea eb).toNat)≤760000:=by have:=shl_len (x:=y) (k:=(eb - min ea eb).toNat) rfl;omega
   refine rmag_2 na nb ua va _ uc _ vc _ _ ea eb _ w (len_ne (n:=0) hx0) (len_ne (n:=0) hy0) (by omega) (by omega) (by omega) (by omega) (by omega) (by omega) kA kB (fun W i hW hi=>?_) (fun W i hW hi=>?_)
   ·have hik:i=(((ea - min ea eb).toNat:Nat):Int):=by omega
    rw[hik]
    exact rup ⟨ua,uc,rfl,h1.le,(h1.later hW).at_⟩ _ (by omega) (by omega)
   ·have hik:i=(((eb - min ea eb).toNat:Nat):Int):=by omega
    rw[hik]
    exact rup ⟨va,vc,rfl,h2.le,(h2.later hW).at_⟩ _ (by omega) (by omega)
  ·rw[if_neg ht]
   exact rmag_1 na nb ua va _ uc _ vc ea eb _ _ w (len_ne (n:=0) hx0) (len_ne (n:=0) hy0) (by omega) (by omega) (by omega) (by omega) ht kA kB
theorem rorder_lt (na nb:Bool) (ua va:Option Addr) (un uc vn vc:Nat) (ea eb sa sb c:Int) (w:World) (hs:sa<sb)
  (kA:∀ W,Bw w W→Calls Tryz.prog 23 #[.agg #[.bool na,.slice ua un uc,.int .i64 ea]] W fun r w'=>r=.returned (.int .i64 sa)∧Bw W w')
  (kB:∀ W,Bw w W→Calls Tryz.prog 23 #[.agg #[.bool nb,.slice va vn vc,.int .i64 eb]] W fun r w'=>r=.returned (.int .i64 sb)∧Bw W w') :
  Calls Tryz.prog 8 #[.agg #[.bool na,.slice ua un uc,.int .i64 ea],.agg #[.bool nb,.slice va vn vc,.int .i64 eb]] w fun r w'=>r=.returned (.int .i64 (-1))∧Bw w w':=by
 obtain⟨W,hW⟩:∃ W,W=(w.alloc (.cells #[.bool na,.slice ua un uc,.int .i64 ea] 30)).alloc (.cells #[.bool nb,.slice va vn vc,.int .i64 eb] 30):=⟨_,rfl⟩
 obtain⟨hA,hBb,hsz,hBW⟩:=two29 _ _ hW
 have HX:Hid (Bw w W):=hBW
 have kA':∀ w4,Bw W w4→Calls Tryz.prog 23 #[.agg #[.bool na,.slice ua un uc,.int .i64 ea]] w4 fun r w'=>r=.returned (.int .i64 sa)∧Bw W w':=fun w4 h4=>(kA w4 (hBW.trans (h4.mono hBW.size))).mono fun r w' ⟨e1,o2⟩=>⟨e1,h4.trans (o2.mono h4.size)⟩
 have kB':∀ w4,Bw W w4→Calls Tryz.prog 23 #[.agg #[.bool nb,.slice va vn vc,.int .i64 eb]] w4 fun r w'=>r=.returned (.int .i64 sb)∧Bw W w':=fun w4 h4=>(kB w4 (hBW.trans (h4.mono hBW.size))).mono fun r w' ⟨e1,o2⟩=>⟨e1,h4.trans (o2.mono h4.size)⟩
 obtain⟨⟨a0,a1,a2⟩,-⟩:=box_cells29 hA
 obtain⟨⟨b0,b1,b2⟩,-⟩:=box_cells29 hBb
 have HK:Hid (∀ w',Bw W w'→((w'.cell? ⟨w.heap.size,0,none⟩=some (.bool na)∧w'.cell? ⟨w.heap.size,1,none⟩=some (.slice ua un uc)∧w'.cell? ⟨w.heap.size,2,none⟩=some (.int .i64 ea))∧(w'.cell? ⟨w.heap.size+1,0,none⟩=some (.bool nb)∧w'.cell? ⟨w.heap.size+1,1,none⟩=some (.slice va vn vc)∧w'.cell? ⟨w.heap.size+1,2,none⟩=some (.int .i64 eb)))):=fun w' hb=>⟨(box_cells29 (box_later hA hb (by omega))).1,(box_cells29 (box_later hBb hb (by omega))).1⟩
 have HRD:Hid (∀ w',Bw W w'→Bw W w'.drew):=fun w' h=>h.trans ⟨rfl,rfl,rfl,Nat.le_refl _,fun _ _=>rfl⟩
 have hBR:Bw W W.drew:=(Below.refl _ _).drew
 have hne:(sa==sb)=false:=by simp;omega
 have hne2:(sa != sb)=true:=by simp;omega
 clear kA kB hA hBb hsz hBW 
 go_enter Tryz.func8,Tryz.ntmps8
 go_upto_region 1 with fail
 rw[←hW]
 clear hW
 go_cut [5,6] from 8 to 11 (fun u v w'=>u=.int .i64 sa∧v=.int .i64 sb∧Hid (Bw W w'))
 case first =>
  go_region_held3 (fun w'=>((w'.cell? ⟨w.heap.size,0,none⟩=some (.bool na)∧w'.cell? ⟨w.heap.size,1,none⟩=some (.slice ua un uc)∧w'.cell? ⟨w.heap.size,2,none⟩=some (.int .i64 ea))∧(w'.cell? ⟨w.heap.size+1,0,none⟩=some (.bool nb)∧w'.cell? ⟨w.heap.size+1,1,none⟩=some (.slice va vn vc)∧w'.cell? ⟨w.heap.size+1,2,none⟩=some (.int .i64 eb)))) (first|(with_reducible assumption)|exact⟨⟨a0,a1,a2⟩,b0,b1,b2⟩|(refine HK.out _ ?_;with_reducible assumption)|go_keep)
   (first|(go_at_call 23;first|(with_reducible refine(kA' _ (by first|(with_reducible assumption)|exact hBR)).mono ?_;rintro r w5 ⟨rfl,hb5⟩)|(with_reducible refine(kB' _ (by first|(with_reducible assumption)|exact hBR)).mono ?_;rintro r w6 ⟨rfl,hb6⟩)))
  all_goals go_wp2_with fail
  all_goals go_meet
  all_goals exact⟨rfl,rfl,by first|exact hb6|exact hb5⟩
 case rest =>
  obtain⟨rfl,rfl,hc⟩:=hcut
  obtain⟨W2,rfl⟩:∃ W2:World,W2=wc:=⟨_,rfl⟩
  clear a0 a1 a2 b0 b1 b2 kA' kB' hBR
  go_wp2
  go_ret;exact⟨rfl,HX.out.trans (hc.out.mono HX.out.size)⟩
theorem rorder_gt (na nb:Bool) (ua va:Option Addr) (un uc vn vc:Nat) (ea eb sa sb c:Int) (w:World) (hs:¬ sa<sb) (hn:sa≠sb)
  (kA:∀ W,Bw w W→Calls Tryz.prog 23 #[.agg #[.bool na,.slice ua un uc,.int .i64 ea]] W fun r w'=>r=.returned (.int .i64 sa)∧Bw W w')
  (kB:∀ W,Bw w W→Calls Tryz.prog 23 #[.agg #[.bool nb,.slice va vn vc,.int .i64 eb]] W fun r w'=>r=.returned (.int .i64 sb)∧Bw W w') :
  Calls Tryz.prog 8 #[.agg #[.bool na,.slice ua un uc,.int .i64 ea],.agg #[.bool nb,.slice va vn vc,.int .i64 eb]] w fun r w'=>r=.returned (.int .i64 (1))∧Bw w w':=by
 obtain⟨W,hW⟩:∃ W,W=(w.alloc (.cells #[.bool na,.slice ua un uc,.int .i64 ea] 30)).alloc (.cells #[.bool nb,.slice va vn vc,.int .i64 eb] 30):=⟨_,rfl⟩
 obtain⟨hA,hBb,hsz,hBW⟩:=two29 _ _ hW
 have HX:Hid (Bw w W):=hBW
 have kA':∀ w4,Bw W w4→Calls Tryz.prog 23 #[.agg #[.bool na,.slice ua un uc,.int .i64 ea]] w4 fun r w'=>r=.returned (.int .i64 sa)∧Bw W w':=fun w4 h4=>(kA w4 (hBW.trans (h4.mono hBW.size))).mono fun r w' ⟨e1,o2⟩=>⟨e1,h4.trans (o2.mono h4.size)⟩
 have kB':∀ w4,Bw W w4→Calls Tryz.prog 23 #[.agg #[.bool nb,.slice va vn vc,.int .i64 eb]] w4 fun r w'=>r=.returned (.int .i64 sb)∧Bw W w':=fun w4 h4=>(kB w4 (hBW.trans (h4.mono hBW.size))).mono fun r w' ⟨e1,o2⟩=>⟨e1,h4.trans (o2.mono h4.size)⟩
 obtain⟨⟨a0,a1,a2⟩,-⟩:=box_cells29 hA
 obtain⟨⟨b0,b1,b2⟩,-⟩:=box_cells29 hBb
 have HK:Hid (∀ w',Bw W w'→((w'.cell? ⟨w.heap.size,0,none⟩=some (.bool na)∧w'.cell? ⟨w.heap.size,1,none⟩=some (.slice ua un uc)∧w'.cell? ⟨w.heap.size,2,none⟩=some (.int .i64 ea))∧(w'.cell? ⟨w.heap.size+1,0,none⟩=some (.bool nb)∧w'.cell? ⟨w.heap.size+1,1,none⟩=some (.slice va vn vc)∧w'.cell? ⟨w.heap.size+1,2,none⟩=some (.int .i64 eb)))):=fun w' hb=>⟨(box_cells29 (box_later hA hb (by omega))).1,(box_cells29 (box_later hBb hb (by omega))).1⟩
 have HRD:Hid (∀ w',Bw W w'→Bw W w'.drew):=fun w' h=>h.trans ⟨rfl,rfl,rfl,Nat.le_refl _,fun _ _=>rfl⟩
 have hBR:Bw W W.drew:=(Below.refl _ _).drew
 have hne:(sa==sb)=false:=by simp;omega
 have hne2:(sa != sb)=true:=by simp;omega
 clear kA kB hA hBb hsz hBW hn
 go_enter Tryz.func8,Tryz.ntmps8
 go_upto_region 1 with fail
 rw[←hW]
 clear hW
 go_cut [5,6] from 8 to 11 (fun u v w'=>u=.int .i64 sa∧v=.int .i64 sb∧Hid (Bw W w'))
 case first =>
  go_region_held3 (fun w'=>((w'.cell? ⟨w.heap.size,0,none⟩=some (.bool na)∧w'.cell? ⟨w.heap.size,1,none⟩=some (.slice ua un uc)∧w'.cell? ⟨w.heap.size,2,none⟩=some (.int .i64 ea))∧(w'.cell? ⟨w.heap.size+1,0,none⟩=some (.bool nb)∧w'.cell? ⟨w.heap.size+1,1,none⟩=some (.slice va vn vc)∧w'.cell? ⟨w.heap.size+1,2,none⟩=some (.int .i64 eb)))) (first|(with_reducible assumption)|exact⟨⟨a0,a1,a2⟩,b0,b1,b2⟩|(refine HK.out _ ?_;with_reducible assumption)|go_keep)
   (first|(go_at_call 23;first|(with_reducible refine(kA' _ (by first|(with_reducible assumption)|exact hBR)).mono ?_;rintro r w5 ⟨rfl,hb5⟩)|(with_reducible refine(kB' _ (by first|(with_reducible assumption)|exact hBR)).mono ?_;rintro r w6 ⟨rfl,hb6⟩)))
  all_goals go_wp2_with fail
  all_goals go_meet
  all_goals exact⟨rfl,rfl,by first|exact hb6|exact hb5⟩
 case rest =>
  obtain⟨rfl,rfl,hc⟩:=hcut
  obtain⟨W2,rfl⟩:∃ W2:World,W2=wc:=⟨_,rfl⟩
  clear a0 a1 a2 b0 b1 b2 kA' kB' hBR
  go_wp2
  go_ret;exact⟨rfl,HX.out.trans (hc.out.mono HX.out.size)⟩
theorem rorder_all (na nb:Bool) (ua va:Option Addr) (un uc vn vc:Nat) (ea eb sa sb c R:Int) (w:World) (hse0:sa=sb) (hcase:Hid ((0≤sa∧(c=0∧R=0∨0<c∧R=1∨c<0∧R = -1))∨(sa<0∧(c=0∧R=0∨0<c∧R = -1∨c<0∧R=1)))) (hc3 : -90000000000≤c) (hc4:c≤90000000000)
  (kA:∀ W,Bw w W→Calls Tryz.prog 23 #[.agg #[.bool na,.slice ua un uc,.int .i64 ea]] W fun r w'=>r=.returned (.int .i64 sa)∧Bw W w')
  (kB:∀ W,Bw w W→Calls Tryz.prog 23 #[.agg #[.bool nb,.slice va vn vc,.int .i64 eb]] W fun r w'=>r=.returned (.int .i64 sb)∧Bw W w')
  (kM:∀ W,Bw w W→Calls Tryz.prog 24 #[.agg #[.bool na,.slice ua un uc,.int .i64 ea],.agg #[.bool nb,.slice va vn vc,.int .i64 eb]] W fun r w'=>r=.returned (.int .i64 c)∧Bw W w') :
  Calls Tryz.prog 8 #[.agg #[.bool na,.slice ua un uc,.int .i64 ea],.agg #[.bool nb,.slice va vn vc,.int .i64 eb]] w fun r w'=>r=.returned (.int .i64 R)∧Bw w w':=by
 obtain⟨W,hW⟩:∃ W,W=(w.alloc (.cells #[.bool na,.slice ua un uc,.int .i64 ea] 30)).alloc (.cells #[.bool nb,.slice va vn vc,.int .i64 eb] 30):=⟨_,rfl⟩
 obtain⟨hA,hBb,hsz,hBW⟩:=two29 _ _ hW
 have HX:Hid (Bw w W):=hBW
 have kA':∀ w4,Bw W w4→Calls Tryz.prog 23 #[.agg #[.bool na,.slice ua un uc,.int .i64 ea]] w4 fun r w'=>r=.returned (.int .i64 sa)∧Bw W w':=fun w4 h4=>(kA w4 (hBW.trans (h4.mono hBW.size))).mono fun r w' ⟨e1,o2⟩=>⟨e1,h4.trans (o2.mono h4.size)⟩
 have kB':∀ w4,Bw W w4→Calls Tryz.prog 23 #[.agg #[.bool nb,.slice va vn vc,.int .i64 eb]] w4 fun r w'=>r=.returned (.int .i64 sb)∧Bw W w':=fun w4 h4=>(kB w4 (hBW.trans (h4.mono hBW.size))).mono fun r w' ⟨e1,o2⟩=>⟨e1,h4.trans (o2.mono h4.size)⟩
 have kM':∀ w4,Bw W w4→Calls Tryz.prog 24 #[.agg #[.bool na,.slice ua un uc,.int .i64 ea],.agg #[.bool nb,.slice va vn vc,.int .i64 eb]] w4 fun r w'=>r=.returned (.int .i64 c)∧Bw W w':=fun w4 h4=>(kM w4 (hBW.trans (h4.mono hBW.size))).mono fun r w' ⟨e1,o2⟩=>⟨e1,h4.trans (o2.mono h4.size)⟩
 have HKM:Hid (∀ w4,Bw W w4→Calls Tryz.prog 24 #[.agg #[.bool na,.slice ua un uc,.int .i64 ea],.agg #[.bool nb,.slice va vn vc,.int .i64 eb]] w4 fun r w'=>r=.returned (.int .i64 c)∧Bw W w'):=kM'
 obtain⟨⟨a0,a1,a2⟩,-⟩:=box_cells29 hA
 obtain⟨⟨b0,b1,b2⟩,-⟩:=box_cells29 hBb
 have HK:Hid (∀ w',Bw W w'→((w'.cell? ⟨w.heap.size,0,none⟩=some (.bool na)∧w'.cell? ⟨w.heap.size,1,none⟩=some (.slice ua un uc)∧w'.cell? ⟨w.heap.size,2,none⟩=some (.int .i64 ea))∧(w'.cell? ⟨w.heap.size+1,0,none⟩=some (.bool nb)∧w'.cell? ⟨w.heap.size+1,1,none⟩=some (.slice va vn vc)∧w'.cell? ⟨w.heap.size+1,2,none⟩=some (.int .i64 eb)))):=fun w' hb=>⟨(box_cells29 (box_later hA hb (by omega))).1,(box_cells29 (box_later hBb hb (by omega))).1⟩
 have HRD:Hid (∀ w',Bw W w'→Bw W w'.drew):=fun w' h=>h.trans ⟨rfl,rfl,rfl,Nat.le_refl _,fun _ _=>rfl⟩
 have hBR:Bw W W.drew:=(Below.refl _ _).drew
 have hse:(sa==sb)=true:=by simp;omega
 have hse2:(sa != sb)=false:=by simp;omega
 have HC:Hid (-90000000000≤c∧c≤90000000000):=⟨hc3,hc4⟩
 clear kA kB kM kM' hA hBb hsz hBW hc3 hc4 hse0
 go_enter Tryz.func8,Tryz.ntmps8
 go_upto_region 1 with fail
 rw[←hW]
 clear hW
 go_cut [5,6] from 8 to 11 (fun u v w'=>u=.int .i64 sa∧v=.int .i64 sb∧Hid (Bw W w'))
 case first =>
  go_region_held3 (fun w'=>((w'.cell? ⟨w.heap.size,0,none⟩=some (.bool na)∧w'.cell? ⟨w.heap.size,1,none⟩=some (.slice ua un uc)∧w'.cell? ⟨w.heap.size,2,none⟩=some (.int .i64 ea))∧(w'.cell? ⟨w.heap.size+1,0,none⟩=some (.bool nb)∧w'.cell? ⟨w.heap.size+1,1,none⟩=some (.slice va vn vc)∧w'.cell? ⟨w.heap.size+1,2,none⟩=some (.int .i64 eb)))) (first|(with_reducible assumption)|exact⟨⟨a0,a1,a2⟩,b0,b1,b2⟩|(refine HK.out _ ?_;with_reducible assumption)|go_keep)
   (first|(go_at_call 23;first|(with_reducible refine(kA' _ (by first|(with_reducible assumption)|exact hBR)).mono ?_;rintro r w5 ⟨rfl,hb5⟩)|(with_reducible refine(kB' _ (by first|(with_reducible assumption)|exact hBR)).mono ?_;rintro r w6 ⟨rfl,hb6⟩)))
  all_goals go_wp2_with fail
  all_goals go_meet
  all_goals exact⟨rfl,rfl,by first|exact hb6|exact hb5⟩
 case rest =>
  obtain⟨rfl,rfl,hc⟩:=hcut
  obtain⟨W2,rfl⟩:∃ W2:World,W2=wc:=⟨_,rfl⟩
  clear a0 a1 a2 b0 b1 b2 kA' kB' hBR
  have kM':=HKM.out W2 hc.out
  obtain⟨⟨a0,a1,a2⟩,b0,b1,b2⟩:=HK.out W2 hc.out
  go_wp2_with fail
  refine kM'.mono ?_
  rintro r w7 ⟨rfl,hb7⟩
  have HL7:Hid (Bw W w7):=hb7
  clear kM' HK HKM a0 a1 a2 b0 b1 b2 hb7
  rcases hcase.out with ⟨hs,h⟩|⟨hs,h⟩
  ·have hs1:¬ sa<0:=by omega
   rcases h with ⟨h,rfl⟩|⟨h,rfl⟩|⟨h,rfl⟩
   ·have hc1:¬ c<0:=by omega
    have hc2:¬ 0<c:=by omega
    clear h
    go_wp2
    go_ret
    exact⟨rfl,HX.out.trans (HL7.out.mono HX.out.size)⟩
   ·have hc1:¬ c<0:=by omega
    go_wp2
    go_ret
    exact⟨rfl,HX.out.trans (HL7.out.mono HX.out.size)⟩
   ·go_wp2
    go_ret
    exact⟨rfl,HX.out.trans (HL7.out.mono HX.out.size)⟩
  ·have hcb:=HC.out
   obtain⟨d,hd⟩:∃ d,d = -c:=⟨_,rfl⟩
   have hdw:IntKind.i64.wrap d=d:=by rw[IntKind.wrap_i64];omega
   have hdn : -c=d:=hd.symm
   rcases h with ⟨h,rfl⟩|⟨h,rfl⟩|⟨h,rfl⟩
   ·have hd1:¬ d<0:=by omega
    have hd2:¬ 0<d:=by omega
    clear hd h hcb
    go_wp2
    go_ret
    exact⟨rfl,HX.out.trans (HL7.out.mono HX.out.size)⟩
   ·have hd1:d<0:=by omega
    clear hd h hcb
    go_wp2
    go_ret
    exact⟨rfl,HX.out.trans (HL7.out.mono HX.out.size)⟩
   ·have hd1:¬ d<0:=by omega
    have hd2:0<d:=by omega
    clear hd h hcb
    go_wp2
    go_ret
    exact⟨rfl,HX.out.trans (HL7.out.mono HX.out.size)⟩
theorem magI_sign {x y:Nat} {ea eb:Int}:cmpI (magI x ea y eb) 0=cmpI (x*2^(ea - min ea eb).toNat:Nat) (y*2^(eb - min ea eb).toNat:Nat):=by
 unfold magI
 by_cases h0:x=0∨y=0
 ·rw[if_pos h0]
  by_cases hx:x=0
  ·subst hx
   rw[dlen_zero,Nat.zero_mul]
   by_cases hy:y=0
   ·subst hy;rw[dlen_zero,Nat.zero_mul];rfl
   ·have h1:dlen y≠0:=fun e=>hy (dlen_eq_zero.1 e)
    have h2:0<y*2^(eb - min ea eb).toNat:=Nat.mul_pos (by omega) (Nat.two_pow_pos _)
    unfold cmpI
    rw[if_pos (by omega),if_pos (by omega)]
  ·have hy:y=0:=by omega
   subst hy
   rw[dlen_zero,Nat.zero_mul]
   have h1:dlen x≠0:=fun e=>hx (dlen_eq_zero.1 e)
   have h2:0<x*2^(ea - min ea eb).toNat:=Nat.mul_pos (by omega) (Nat.two_pow_pos _)
   unfold cmpI
   rw[if_neg (by omega),if_pos (by omega),if_neg (by omega),if_pos (by omega)]
 ·rw[if_neg h0]
  have hx0:x≠0:=fun e=>h0 (.inl e)
  have hy0:y≠0:=fun e=>h0 (.inr e)
  by_cases ht:(bl x:Int)+ea=bl y+eb
  ·rw[if_pos ht]
   rcases cmpI_cases (x*2^(ea - min ea eb).toNat:Nat) (y*2^(eb - min ea eb).toNat:Nat)with h|h|h <;> rw[h.2] <;> rfl
  ·rw[if_neg ht]
   rcases cmpI_cases (bl x+ea) (bl y+eb)with h|h|h
   ·have:=top_lt (x:=x) (k:=(ea - min ea eb).toNat) (l:=(eb - min ea eb).toNat) hy0 (by omega)
    unfold cmpI;rw[if_pos (by omega),if_pos (by omega)]
   ·have:=top_lt (x:=y) (y:=x) (k:=(eb - min ea eb).toNat) (l:=(ea - min ea eb).toNat) hx0 (by omega)
    unfold cmpI;rw[if_neg (by omega),if_pos (by omega),if_neg (by omega),if_pos (by omega)]
   ·exact absurd h.1 ht
theorem magI_le {x y:Nat} {ea eb:Int} (hx:dlen x≤400000) (hy:dlen y≤400000) (ha : -2000000≤ea∧ea≤2000000) (hb : -2000000≤eb∧eb≤2000000) : -90000000000≤magI x ea y eb∧magI x ea y eb≤90000000000:=by
 have b1:=bl_le_dlen x
 have b2:=bl_le_dlen y
 unfold magI
 split
 ·omega
 ·split
  ·rcases cmpI_cases (x*2^(ea - min ea eb).toNat:Nat) (y*2^(eb - min ea eb).toNat:Nat)with h|h|h <;> rw[h.2] <;> omega
  ·omega
theorem rorder {na nb:Bool} {ua va:Option Addr} {uc vc x y:Nat} {ea eb:Int} {w:World} (h1:Arg w ua (dlen x) uc x) (h2:Arg w va (dlen y) vc y) (hx:dlen x≤400000) (hy:dlen y≤400000) (ha : -2000000≤ea∧ea≤2000000) (hb : -2000000≤eb∧eb≤2000000) :
  Calls Tryz.prog 8 #[.agg #[.bool na,.slice ua (dlen x) uc,.int .i64 ea],.agg #[.bool nb,.slice va (dlen y) vc,.int .i64 eb]] w fun r w'=>r=.returned (.int .i64 (ordN na x ea nb y eb))∧Bw w w':=by
 have kA:∀ W,Bw w W→Calls Tryz.prog 23 #[.agg #[.bool na,.slice ua (dlen x) uc,.int .i64 ea]] W fun r w'=>r=.returned (.int .i64 (sgI na (dlen x)))∧Bw W w':=fun W hW=>rsgn (by omega)
 have kB:∀ W,Bw w W→Calls Tryz.prog 23 #[.agg #[.bool nb,.slice va (dlen y) vc,.int .i64 eb]] W fun r w'=>r=.returned (.int .i64 (sgI nb (dlen y)))∧Bw W w':=fun W hW=>rsgn (by omega)
 have kM:∀ W,Bw w W→Calls Tryz.prog 24 #[.agg #[.bool na,.slice ua (dlen x) uc,.int .i64 ea],.agg #[.bool nb,.slice va (dlen y) vc,.int .i64 eb]] W fun r w'=>r=.returned (.int .i64 (magI x ea y eb))∧Bw W w':=fun W hW=>rmag (h1.later hW) (h2.later hW) hx hy ha hb
 have hl:=magI_le (ea:=ea) (eb:=eb) hx hy ha hb
 have hm:=magI_sign (x:=x) (y:=y) (ea:=ea) (eb:=eb)
 unfold ordN
 rw[←hm]
 generalize hsa:sgI na (dlen x)=sa at *
 generalize hsb:sgI nb (dlen y)=sb at *
 generalize magI x ea y eb=c at *
 by_cases hs:sa=sb
 ·rw[if_pos hs]
  have hs3:sa=0∨sa = -1∨sa=1:=by
   rw[←hsa];unfold sgI
   split
   ·exact .inl rfl
   ·split
    ·exact .inr (.inl rfl)
    ·exact .inr (.inr rfl)
  by_cases hsn:sa<0
  ·have hs1:sa = -1:=by omega
   rcases cmpI_cases c 0 with h|h|h
   ·rw[h.2,show sa * -1=1 by omega];exact rorder_all na nb ua va _ uc _ vc ea eb sa sb c _ w hs (.inr ⟨hsn,.inr (.inr ⟨h.1,rfl⟩)⟩) hl.1 hl.2 kA kB kM
   ·rw[h.2,show sa*1 = -1 by omega];exact rorder_all na nb ua va _ uc _ vc ea eb sa sb c _ w hs (.inr ⟨hsn,.inr (.inl ⟨h.1,rfl⟩)⟩) hl.1 hl.2 kA kB kM
   ·rw[h.2,Int.mul_zero];exact rorder_all na nb ua va _ uc _ vc ea eb sa sb c _ w hs (.inr ⟨hsn,.inl ⟨h.1,rfl⟩⟩) hl.1 hl.2 kA kB kM
  ·by_cases h0:sa=0
   ·have hc0:c=0:=by
     have hdx:dlen x=0:=by
      apply Decidable.byContradiction
      intro hne
      rw[h0,sgI_pos hne] at hsa
      cases na <;> simp at hsa
     have hdy:dlen y=0:=by
      apply Decidable.byContradiction
      intro hne
      rw[←hs,h0,sgI_pos hne] at hsb
      cases nb <;> simp at hsb
     have ex:x=0:=dlen_eq_zero.1 hdx
     have ey:y=0:=dlen_eq_zero.1 hdy
     subst ex;subst ey
     rw[Nat.zero_mul,Nat.zero_mul] at hm
     rcases cmpI_cases c 0 with h|h|h
     ·rw[h.2] at hm;exact absurd hm (by decide)
     ·rw[h.2] at hm;exact absurd hm (by decide)
     ·exact h.1
    rw[show sa*cmpI c 0=0 by rw[h0,Int.zero_mul]]
    exact rorder_all na nb ua va _ uc _ vc ea eb sa sb c _ w hs (.inl ⟨(by omega),.inl ⟨hc0,rfl⟩⟩) hl.1 hl.2 kA kB kM
   ·have hs1:sa=1:=by omega
    rw[show sa*cmpI c 0=cmpI c 0 by rw[hs1,Int.one_mul]]
    rcases cmpI_cases c 0 with h|h|h
    ·rw[h.2];exact rorder_all na nb ua va _ uc _ vc ea eb sa sb c _ w hs (.inl ⟨(by omega),.inr (.inr ⟨h.1,rfl⟩)⟩) hl.1 hl.2 kA kB kM
    ·rw[h.2];exact rorder_all na nb ua va _ uc _ vc ea eb sa sb c _ w hs (.inl ⟨(by omega),.inr (.inl ⟨h.1,rfl⟩)⟩) hl.1 hl.2 kA kB kM
    ·rw[h.2];exact rorder_all na nb ua va _ uc _ vc ea eb sa sb c _ w hs (.inl ⟨(by omega),.inl ⟨h.1,rfl⟩⟩) hl.1 hl.2 kA kB kM
 ·rw[if_neg hs]
  unfold cmpI
  by_cases hlt:sa<sb
  ·rw[if_pos hlt];exact rorder_lt na nb ua va _ uc _ vc ea eb sa sb c w hlt kA kB
  ·rw[if_neg hlt,if_pos (by omega)];exact rorder_gt na nb ua va _ uc _ vc ea eb sa sb c w hlt hs kA kB
end Go.Proofs.YtolefllepcdagaaGreat
namespace Go.Proofs.YtolefllepcdagaaGreat
open Go.RowKit Go.Fl64
def gS (t1 t2:Bool×Nat×Int):Bool×Nat×Int:=cn (sumN t1.1 t1.2.1 t1.2.2 t2.1 t2.2.1 t2.2.2).1 (sumN t1.1 t1.2.1 t1.2.2 t2.1 t2.2.1 t2.2.2).2.1 (sumN t1.1 t1.2.1 t1.2.2 t2.1 t2.2.1 t2.2.2).2.2
def gM (t1 t2:Bool×Nat×Int):Bool×Nat×Int:=cn (!(t1.1==t2.1)) (t1.2.1*t2.2.1) (t1.2.2+t2.2.2)
def gD (t1 t2:Bool×Nat×Int):Bool×Nat×Int:=cn (sumN t1.1 t1.2.1 t1.2.2 (!t2.1&&decide (0<dlen t2.2.1)) t2.2.1 t2.2.2).1 (sumN t1.1 t1.2.1 t1.2.2 (!t2.1&&decide (0<dlen t2.2.1)) t2.2.1 t2.2.2).2.1 (sumN t1.1 t1.2.1 t1.2.2 (!t2.1&&decide (0<dlen t2.2.1)) t2.2.1 t2.2.2).2.2
theorem gtimes_1 (na nb sg:Bool) (ua va:Option Addr) (un uc vn vc x y:Nat) (ea eb:Int) (w:World) (h1:Ir w (.slice ua un uc) x) (h2:Ir w (.slice va vn vc) y) (hx:dlen x≤400000) (hy:dlen y≤400000) (he1 : -4000000≤ea) (he2:ea≤4000000) (he3 : -4000000≤eb) (he4:eb≤4000000) (hsg:(!(na==nb))=sg) :
  Calls Tryz.prog 9 #[.agg #[.bool na,.slice ua un uc,.int .i64 ea],.agg #[.bool nb,.slice va vn vc,.int .i64 eb]] w fun r w'=>∃ a,r=.returned a∧NC w' w.heap.size a sg (x*y) (ea+eb)∧Bw w w':=by
 obtain⟨W,hW⟩:∃ W,W=((w.alloc (.cells #[.bool na,.slice ua un uc,.int .i64 ea] 30)).alloc (.cells #[.bool nb,.slice va vn vc,.int .i64 eb] 30)).alloc (.cells #[.bool false,.slice none 0 0,.int .i64 0] 30):=⟨_,rfl⟩
 obtain⟨hA,hBb,hC,hsz,hBW⟩:=boxes3 _ _ _ hW
 have hxy:dlen (x*y)≤1000000:=by
  have l1:=(dlen_le (dlen x) x).1 (Nat.le_refl _)
  have l2:=(dlen_le (dlen y) y).1 (Nat.le_refl _)
  have:dlen (x*y)≤dlen x+dlen y:=(dlen_le _ _).2 (by
   rw[Nat.pow_add]
   rcases Nat.eq_zero_or_pos x with h|h
   ·rw[h,Nat.zero_mul];exact Nat.mul_pos (Bpow_pos _) (Bpow_pos _)
   ·exact Nat.mul_lt_mul_of_lt_of_le l1 (Nat.le_of_lt l2) (Bpow_pos _))
  omega
 have HH:Hid (W.heap[w.heap.size+1+1]?=some (.cells #[.bool false,.slice none 0 0,.int .i64 0] 30 (0,0))∧W.heap.size=w.heap.size+1+1+1∧Bw w W):=⟨hC,hsz,hBW⟩
 have k78:∀ w4,Bw W w4→Calls Tryz.prog 25 #[.slice ua un uc,.slice va vn vc] w4 fun r w'=>∃ v,r=.returned v∧Own w' W.heap.size v (x*y)∧Bw W w':=fun w4 hb =>
  (rprod ((h1.later hBW).later hb) ((h2.later hBW).later hb) (by omega) (by omega)).mono fun r w' ⟨v,e1,o1,o2⟩=>⟨v,e1,o1.mono hb.size,hb.trans (o2.mono hb.size)⟩
 have k31:∀ v5 w5,Own w5 W.heap.size v5 (x*y)→Bw W w5→Calls Tryz.prog 17 #[.bool sg,v5,.int .i64 (ea+eb)] w5 fun r w'=>∃ s ao n cap ex,r=.returned (.agg #[.bool s,.slice ao n cap,.int .i64 ex]) ∧
   Hid (NC w' w5.heap.size (.agg #[.bool s,.slice ao n cap,.int .i64 ex]) sg (x*y) (ea+eb)∧W.heap.size≤w5.heap.size)∧Bw W w'∧Hid (w'.heap[w.heap.size+1+1]?=some (.cells #[.bool false,.slice none 0 0,.int .i64 0] 30 (0,0))) ∧
   (w'.cell? ⟨w.heap.size+1+1,0,none⟩=some (.bool false)∧w'.cell? ⟨w.heap.size+1+1,1,none⟩=some (.slice none 0 0)∧w'.cell? ⟨w.heap.size+1+1,2,none⟩=some (.int .i64 0))∧(w'.frozen? ⟨w.heap.size+1+1,0,none⟩=false∧w'.frozen? ⟨w.heap.size+1+1,1,none⟩=false∧w'.frozen? ⟨w.heap.size+1+1,2,none⟩=false):=by
  intro v5 w5 ho hb
  obtain⟨ao0,cap0,rfl,hl0,-,hat0⟩:=ho.is
  refine(rnormN hat0 (Nat.le_refl _) hl0 (by omega) (by omega)).mono ?_
  rintro r w6 ⟨a,rfl,hN,hb6⟩
  obtain⟨s,ao,n,cap,ex,rfl⟩:=hN.shape
  have hb46:Bw W w6:=hb.trans (hb6.mono hb.size)
  have hblk:=box_later HH.out.1 hb46 (by have:=HH.out.2.1;omega)
  obtain⟨f1,f2⟩:=box_cells29 hblk
  exact⟨s,ao,n,cap,ex,rfl,⟨hN,hb.size⟩,hb46,hblk,f1,f2⟩
 obtain⟨⟨a0,a1,a2⟩,-⟩:=box_cells29 hA
 obtain⟨⟨b0,b1,b2⟩,-⟩:=box_cells29 hBb
 have HK:Hid (∀ w',Bw W w'→((w'.cell? ⟨w.heap.size,0,none⟩=some (.bool na)∧w'.cell? ⟨w.heap.size,1,none⟩=some (.slice ua un uc)∧w'.cell? ⟨w.heap.size,2,none⟩=some (.int .i64 ea))∧(w'.cell? ⟨w.heap.size+1,0,none⟩=some (.bool nb)∧w'.cell? ⟨w.heap.size+1,1,none⟩=some (.slice va vn vc)∧w'.cell? ⟨w.heap.size+1,2,none⟩=some (.int .i64 eb)))):=fun w' hb=>⟨(box_cells29 (box_later hA hb (by omega))).1,(box_cells29 (box_later hBb hb (by omega))).1⟩
 have HK2:Hid (∀ w',Below (w.heap.size+1+1) W w'→((w'.cell? ⟨w.heap.size,0,none⟩=some (.bool na)∧w'.cell? ⟨w.heap.size,1,none⟩=some (.slice ua un uc)∧w'.cell? ⟨w.heap.size,2,none⟩=some (.int .i64 ea))∧(w'.cell? ⟨w.heap.size+1,0,none⟩=some (.bool nb)∧w'.cell? ⟨w.heap.size+1,1,none⟩=some (.slice va vn vc)∧w'.cell? ⟨w.heap.size+1,2,none⟩=some (.int .i64 eb)))):=fun w' hb=>⟨(box_cells29 (box_later hA hb (by omega))).1,(box_cells29 (box_later hBb hb (by omega))).1⟩
 have HS2:Hid (w.heap.size+1+1≤W.heap.size):=(by omega:w.heap.size+1+1≤W.heap.size)
 have hBR:Bw W W.drew:=(Below.refl _ _).drew
 have wz:IntKind.i64.wrap (ea+eb)=ea+eb:=by rw[IntKind.wrap_i64];omega
 clear hA hBb hC hsz hBW h1 h2 hx hy hxy
 go_enter Tryz.func9,Tryz.ntmps9
 go_upto_region 1 with fail
 rw[←hW]
 clear hW
 go_region_held3 (fun w'=>((w'.cell? ⟨w.heap.size,0,none⟩=some (.bool na)∧w'.cell? ⟨w.heap.size,1,none⟩=some (.slice ua un uc)∧w'.cell? ⟨w.heap.size,2,none⟩=some (.int .i64 ea))∧(w'.cell? ⟨w.heap.size+1,0,none⟩=some (.bool nb)∧w'.cell? ⟨w.heap.size+1,1,none⟩=some (.slice va vn vc)∧w'.cell? ⟨w.heap.size+1,2,none⟩=some (.int .i64 eb)))) (first|(with_reducible assumption)|exact⟨⟨a0,a1,a2⟩,b0,b1,b2⟩|(refine HK.out _ ?_;with_reducible assumption)|(refine HK2.out _ (below_store3 (Below.mono hb6 HS2.out) (Nat.le_refl _) _ _ _))|go_keep)
  (first|(go_at_call 25;refine(k78 _ (by first|(with_reducible assumption)|exact hBR)).mono ?_;rintro r w5 ⟨v5,rfl,ho5,hb5⟩)|(go_at_call 17;(try simp only[hsg,wz]);refine(k31 _ _ ho5 hb5).mono ?_;rintro r w6 ⟨s6,ao6,n6,cap6,ex6,rfl,hN6,hb6,hblk6,⟨x1,x2,x3⟩,x4,x5,x6⟩))
 have HF:Hid (Bw W w6):=hb6
 clear ho5 hb5 hb6 k31 k78 x1 x2 x3 x4 x5 x6 a0 a1 a2 b0 b1 b2 HK HK2
 go_wp2
 refine bodyPost_ret (results_cell_row rfl _ _ (w.heap.size+1+1) 30 #[.bool s6,.slice ao6 n6 cap6,.int .i64 ex6] (0,0) _ rfl (store3_29 _ _ _ hblk6.out) Tryz.underlying30 rfl Tryz.info30) rfl ?_
 obtain⟨-,hs,hBW⟩:=HH.out
 have hs5:=hN6.out.2
 exact⟨_,rfl,(hN6.out.1.store (by omega) _ _ _).mono (by omega),below_store3 (hBW.trans (HF.out.mono hBW.size)) (by omega) _ _ _⟩
theorem garg0 (w:World):Arg w none 0 0 0:=⟨fun _=>.inr ⟨rfl,rfl⟩,⟨0,0,fun h=>absurd h (by omega),fun i hi=>absurd hi (by omega)⟩,Nat.le_refl _,by omega⟩
theorem garg0D (w:World):Arg w none (dlen 0) 0 0:=by rw[dlen_zero];exact garg0 w
def Gn (t:Bool×Nat×Int):Prop:=cn t.1 t.2.1 t.2.2=t∧dlen t.2.1≤60000 ∧ -1000000≤t.2.2∧t.2.2≤1000000
theorem gplus {t1 t2:Bool×Nat×Int} {X Y:Value} {w:World} (o1:Gn t1) (o2:Gn t2) (h1:DN w X t1) (h2:DN w Y t2):Calls Tryz.prog 26 #[X,Y] w fun r w'=>∃ A,r=.returned A∧DN w' A (gS t1 t2)∧Bw w w':=by
 obtain⟨ao,cap,rfl,a1⟩:=h1
 obtain⟨ao',cap',rfl,a2⟩:=h2
 obtain⟨c1,f1,f2,f3⟩:=o1
 obtain⟨c2,g1,g2,g3⟩:=o2
 exact(rplusG a1 a2 c1 c2 (by omega) (by omega) (by omega) (by omega) (by omega) (by omega)).mono fun r w' ⟨A,e,h,hb⟩=>⟨A,e,h.dn,hb⟩
theorem gtimes {t1 t2:Bool×Nat×Int} {X Y:Value} {w:World} (o1:Gn t1) (o2:Gn t2) (h1:DN w X t1) (h2:DN w Y t2):Calls Tryz.prog 9 #[X,Y] w fun r w'=>∃ A,r=.returned A∧DN w' A (gM t1 t2)∧Bw w w':=by
 obtain⟨ao,cap,rfl,a1⟩:=h1
 obtain⟨ao',cap',rfl,a2⟩:=h2
 obtain⟨c1,f1,f2,f3⟩:=o1
 obtain⟨c2,g1,g2,g3⟩:=o2
 exact(gtimes_1 t1.1 t2.1 _ ao ao' _ cap _ cap' t1.2.1 t2.2.1 t1.2.2 t2.2.2 w ⟨ao,cap,rfl,a1.le,a1.at_⟩ ⟨ao',cap',rfl,a2.le,a2.at_⟩ (by omega) (by omega) (by omega) (by omega) (by omega) (by omega) rfl).mono fun r w' ⟨A,e,h,hb⟩=>⟨A,e,h.dn,hb⟩
theorem gorder {t1 t2:Bool×Nat×Int} {X Y:Value} {w:World} (o1:Gn t1) (o2:Gn t2) (h1:DN w X t1) (h2:DN w Y t2):Calls Tryz.prog 8 #[X,Y] w fun r w'=>r=.returned (.int .i64 (ordN t1.1 t1.2.1 t1.2.2 t2.1 t2.2.1 t2.2.2))∧Bw w w':=by
 obtain⟨ao,cap,rfl,a1⟩:=h1
 obtain⟨ao',cap',rfl,a2⟩:=h2
 obtain⟨c1,f1,f2,f3⟩:=o1
 obtain⟨c2,g1,g2,g3⟩:=o2
 exact rorder a1 a2 (by omega) (by omega) (by omega) (by omega)
theorem Gn.zero {t:Bool×Nat×Int} (h:Gn t) (h0:t.2.1=0):t=(false,0,0):=by
 have e:=h.1
 unfold cn at e
 rw[if_pos h0] at e
 exact e.symm
theorem gcn_turn {t:Bool×Nat×Int} (h:cn t.1 t.2.1 t.2.2=t) (h0:t.2.1≠0) (s:Bool):cn s t.2.1 t.2.2=(s,t.2.1,t.2.2):=by
 unfold cn at h ⊢
 rw[if_neg h0] at h ⊢
 rw[Prod.ext_iff] at h
 exact Prod.ext rfl h.2
theorem gless {t1 t2:Bool×Nat×Int} {X Y:Value} {w:World} (o1:Gn t1) (o2:Gn t2) (h1:DN w X t1) (h2:DN w Y t2):Calls Tryz.prog 10 #[X,Y] w fun r w'=>∃ A,r=.returned A∧DN w' A (gD t1 t2)∧Bw w w':=by
 obtain⟨ao,cap,rfl,a1⟩:=h1
 obtain⟨ao',cap',rfl,a2⟩:=h2
 have z2:=o2.zero
 obtain⟨c1,f1,f2,f3⟩:=o1
 obtain⟨c2,g1,g2,g3⟩:=o2
 unfold gD
 by_cases h0:t2.2.1=0
 ·have e2:=z2 h0
  have e3:t2.1=false:=by rw[e2]
  have e4:t2.2.2=0:=by rw[e2]
  rw[h0,e3,e4,dlen_zero]
  have k2:=fun(W:World) (hW:Bw w W)=>rplusG (nb:=false) (y:=0) (eb:=0) (a1.later hW) (garg0D W) c1 rfl (by omega) (by omega) (by omega) (by omega) (by omega) (by rw[dlen_zero];omega)
  simp only[dlen_zero] at k2
  exact(rlessN_1 t1.1 false ao ao' (dlen t1.2.1) cap 0 cap' t1.2.2 0 false none 0 0 0 _ _ _ w (fun W=>rminus_0 false ao' cap' 0 W) k2).mono fun r w' ⟨A,e,h,hb⟩=>⟨A,e,h.dn,hb⟩
 ·have hl:0<dlen t2.2.1:=by have:=dlen_pos h0;omega
  rw[decide_eq_true hl,Bool.and_true]
  exact(rlessN_1 t1.1 t2.1 ao ao' (dlen t1.2.1) cap (dlen t2.2.1) cap' t1.2.2 t2.2.2 (!t2.1) ao' (dlen t2.2.1) cap' t2.2.2 _ _ _ w (fun W=>rminus_1 t2.1 ao' (dlen t2.2.1) cap' t2.2.2 W (by omega) (by rw[beq_eq_false_iff_ne];omega)) (fun W hW=>rplusG (a1.later hW) (a2.later hW) c1 (gcn_turn c2 h0 _) (by omega) (by omega) (by omega) (by omega) (by omega) (by omega))).mono fun r w' ⟨A,e,h,hb⟩=>⟨A,e,h.dn,hb⟩
theorem gwhole_1 (n:Int) (m:Nat) (w:World) (hm:m<18446744073709551616) (hn1:0≤n) (hn2:n≤9223372036854775807) (hwr:IntKind.u64.wrap n=(m:Int)) :
  Calls Tryz.prog 6 #[.int .i64 n] w fun r w'=>∃ A,r=.returned A∧NC w' w.heap.size A false m 0∧Bw w w':=by
 have hnn:¬ n<0:=by omega
 obtain⟨W,hW⟩:∃ W,W=w.alloc (.cells #[.bool false,.slice none 0 0,.int .i64 0] 30):=⟨_,rfl⟩
 have k34:=xnorm_two (ng:=false) (m:=m) (e:=0) (W:=W) hm (by omega)
 have HB0:Hid (Bw w W∧W.heap[w.heap.size]?=some (.cells #[.bool false,.slice none 0 0,.int .i64 0] 30 (0,0))∧W.heap.size=w.heap.size+1):=⟨by rw[hW];exact(Below.refl _ _).alloc (Nat.le_refl _) _,by rw[hW];exact heap_alloc_new _ _,by rw[hW];simp⟩
 (try unfold Bw at k34);rw[HB0.out.2.2] at k34
 go_enter Tryz.func6,Tryz.ntmps6
 go_wp2_with fail
 rw[←hW]
 clear hW
 refine k34.mono ?_
 rintro r w3 ⟨s,ao,n,cap,ex,rfl,hn,hb⟩
 have hs:=HB0.out.2.2
 have HC3:Hid (w3.heap[w.heap.size]?=some (.cells #[.bool false,.slice none 0 0,.int .i64 0] 30 (0,0))):=box_later HB0.out.2.1 hb (by omega)
 obtain⟨⟨a1,a2,a3⟩,a4,a5,a6⟩:=box_cells29 HC3.out
 have HN:Hid (NC w3 (w.heap.size+1) (.agg #[.bool s,.slice ao n cap,.int .i64 ex]) false m 0∧Below (w.heap.size+1) W w3):=⟨hn.mono (by omega),hb⟩
 clear hn hb k34 hs
 go_wp2
 refine bodyPost_ret (results_cell_row rfl _ _ w.heap.size 30 #[.bool s,.slice ao n cap,.int .i64 ex] (0,0) _ rfl (store3_29 _ _ _ HC3.out) Tryz.underlying30 rfl Tryz.info30) rfl ?_
 have hs:=HB0.out.2.2
 exact⟨_,rfl,(HN.out.1.store (by omega) _ _ _).mono (by omega),below_store3 (HB0.out.1.trans (HN.out.2.mono (by omega))) (Nat.le_refl _) _ _ _⟩
theorem gwhole_2 (n:Int) (m:Nat) (w:World) (hm:m<18446744073709551616) (hn1:n<0) (hn2 : -9223372036854775808≤n) (hwr : -(n+1)+1=(m:Int)) :
  Calls Tryz.prog 6 #[.int .i64 n] w fun r w'=>∃ A,r=.returned A∧NC w' w.heap.size A true m 0∧Bw w w':=by
 obtain⟨W,hW⟩:∃ W,W=w.alloc (.cells #[.bool false,.slice none 0 0,.int .i64 0] 30):=⟨_,rfl⟩
 have k34:=xnorm_two (ng:=true) (m:=m) (e:=0) (W:=W) hm (by omega)
 have HB0:Hid (Bw w W∧W.heap[w.heap.size]?=some (.cells #[.bool false,.slice none 0 0,.int .i64 0] 30 (0,0))∧W.heap.size=w.heap.size+1):=⟨by rw[hW];exact(Below.refl _ _).alloc (Nat.le_refl _) _,by rw[hW];exact heap_alloc_new _ _,by rw[hW];simp⟩
 (try unfold Bw at k34);rw[HB0.out.2.2] at k34
 go_enter Tryz.func6,Tryz.ntmps6
 go_wp2_with fail
 rw[←hW]
 clear hW
 refine k34.mono ?_
 rintro r w3 ⟨s,ao,n,cap,ex,rfl,hn,hb⟩
 have hs:=HB0.out.2.2
 have HC3:Hid (w3.heap[w.heap.size]?=some (.cells #[.bool false,.slice none 0 0,.int .i64 0] 30 (0,0))):=box_later HB0.out.2.1 hb (by omega)
 obtain⟨⟨a1,a2,a3⟩,a4,a5,a6⟩:=box_cells29 HC3.out
 have HN:Hid (NC w3 (w.heap.size+1) (.agg #[.bool s,.slice ao n cap,.int .i64 ex]) true m 0∧Below (w.heap.size+1) W w3):=⟨hn.mono (by omega),hb⟩
 clear hn hb k34 hs
 go_wp2
 refine bodyPost_ret (results_cell_row rfl _ _ w.heap.size 30 #[.bool s,.slice ao n cap,.int .i64 ex] (0,0) _ rfl (store3_29 _ _ _ HC3.out) Tryz.underlying30 rfl Tryz.info30) rfl ?_
 have hs:=HB0.out.2.2
 exact⟨_,rfl,(HN.out.1.store (by omega) _ _ _).mono (by omega),below_store3 (HB0.out.1.trans (HN.out.2.mono (by omega))) (Nat.le_refl _) _ _ _⟩
theorem gwhole {n:Int} {w:World} (hn : -9223372036854775808≤n∧n≤9223372036854775807) :
  Calls Tryz.prog 6 #[.int .i64 n] w fun r w'=>∃ A,r=.returned A∧DN w' A (cn (decide (n<0)) n.natAbs 0)∧Bw w w':=by
 by_cases h:n<0
 ·rw[decide_eq_true h]
  exact(gwhole_2 n n.natAbs w (by omega) h (by omega) (by omega)).mono fun r w' ⟨A,e,h,hb⟩=>⟨A,e,h.dn,hb⟩
 ·rw[decide_eq_false h]
  exact(gwhole_1 n n.natAbs w (by omega) (by omega) (by omega) (by rw[IntKind.wrap_u64];omega)).mono fun r w' ⟨A,e,h,hb⟩=>⟨A,e,h.dn,hb⟩
end Go.Proofs.YtolefllepcdagaaGreat
namespace Go.Proofs.YtolefllepcdagaaGreat
open Go.RowKit
structure ParZ (W0:World) (a0:Act) (m n:Nat) (slot bx:Nat→Tmp) (vs:Nat→Nat) (T:TypeId) (zs:Array Value) (V:Nat→World→Value→Prop) (listed:Array Bool) (a:Act) (w:World):Prop where
 below:Bw W0 w
 size:a.tmps.size=a0.tmps.size
 defers:a.defers=a0.defers
 other:∀ s,(∀ j,j<m→s≠slot j)→(∀ k,k<n→s≠bx k)→a.tmps[s]?=a0.tmps[s]?
 val:∀ j,j<m→listed.getD j false=true→∃ u,a.tmps[slot j]?=some u∧V j w u
 box:∀ k,k<n→listed.getD (m+k) false=true→∃ g cs,a.tmps[bx k]?=some (.pointer (some ⟨g,0,none⟩))∧W0.heap.size≤g∧w.heap[g]?=some (.cells cs T (0,0))∧cs.size=zs.size ∧
  (listed.getD (m+n+k) false=true→a.tmps[slot (vs k)]?=some (.agg cs))∧(listed.getD (m+n+k) false=false→cs=zs)
 apart:∀ k k',k<n→k'<n→k≠k'→listed.getD (m+k) false=true→listed.getD (m+k') false=true→a.tmps[bx k]?≠a.tmps[bx k']?
 stored:∀ k,k<n→listed.getD (m+n+k) false=true→listed.getD (m+k) false=true∧listed.getD (vs k) false=true
theorem parz_region {P:Program} {ops:Array Oper} {Q:Exit→Act→World→Prop} {id:Nat} (hm:P.follows .mixedOrders=true) (m n:Nat) (slot bx:Nat→Tmp) (vs:Nat→Nat) (dep:Nat→List Nat) (T:TypeId) (zs:Array Value)
  (W0:World) (a0:Act) (V:Nat→World→Value→Prop) (hsz:ops.size=m+n+n)
  (hord:∀ (i:Nat) (o:Oper),ops[i]?=some o→∀ e ∈ o.after,e.on<i)
  (hV1:∀ j w w' u,Bw w w'→V j w u→V j w' u)
  (hV2:∀ j w u g cs',w.heap[g]?=some (.cells zs T (0,0))→V j w u→V j (w.setRow g cs') u)
  (hVs:∀ k,k<n→∀ w u,V (vs k) w u→∃ cs:Array Value,u=.agg cs∧cs.size=zs.size∧cs.all (·.oneCell')=true)
  (hdep:∀ j,j<m→∀ j' ∈ dep j,j'<m∧∀ o,ops[j]?=some o→∃ e ∈ o.after,e.on=j'∧Region.binds .any e=true)
  (hA:∀ j,j<m→∀ (a:Act) (w:World),Bw W0 w→(∀ s,(∀ j,j<m→s≠slot j)→(∀ k,k<n→s≠bx k)→a.tmps[s]?=a0.tmps[s]?) →
   (∀ j' ∈ dep j,∃ u,a.tmps[slot j']?=some u∧V j' w u)→wpOp P ops Q j (fun a' w'=>∃ u,a'=a.put (some (slot j)) u∧V j w' u∧Bw w w') a w)
  (hal:∀ k,k<n→∃ o,ops[m+k]?=some o∧o.guard=none∧o.op=.alloc T∧o.dst=some (bx k))
  (hz:∀ w,(zeroValue T).run P w=.ok (.agg zs) w) (hi:(P.info? T).map (·.size)=some zs.size)
  (hst:∀ k,k<n→vs k<m∧∃ o,ops[m+n+k]?=some o∧o.guard=none∧o.op=.store T (.tmp (bx k)) (.tmp (slot (vs k)))∧o.dst=none∧(∃ e ∈ o.after,e.on=m+k∧Region.binds .any e=true)∧(∃ e ∈ o.after,e.on=vs k∧Region.binds .any e=true))
  (hin:∀ j,j<m→slot j<a0.tmps.size) (hbin:∀ k,k<n→bx k<a0.tmps.size)
  (hinj:∀ j j',j<m→j'<m→slot j=slot j'→j=j') (hbinj:∀ k k',k<n→k'<n→bx k=bx k'→k=k') (hsb:∀ j k,j<m→k<n→slot j≠bx k)
  (hQ:∀ (u:Nat→Value) (g:Nat→Nat) (a:Act) (w:World),Bw W0 w→(∀ j,j<m→a.tmps[slot j]?=some (u j)∧V j w (u j)) →
   (∀ k,k<n→a.tmps[bx k]?=some (.pointer (some ⟨g k,0,none⟩))∧W0.heap.size≤g k∧∃ cs,u (vs k)=.agg cs∧w.heap[g k]?=some (.cells cs T (0,0))) →
   a.tmps.size=a0.tmps.size→a.defers=a0.defers→(∀ s,(∀ j,j<m→s≠slot j)→(∀ k,k<n→s≠bx k)→a.tmps[s]?=a0.tmps[s]?)→Q .normal a w) :
  (Code.region id ops true).wp P Q a0 W0:=by
 refine wp_region_any hm ?_
 refine wpAny_inv (ParZ W0 a0 m n slot bx vs T zs V) ?_ ?_ ops.size _ a0 _ (by simp) ?_ (by simp)
 ·-- a step
  intro listed a w i hl hI hr
  obtain⟨hun,o,ho,hall⟩:=mem_ready.1 hr
  have hunf:=not_listed hun
  have hio:i<ops.size:=(Array.getElem?_eq_some_iff.1 ho).1
  have hil:i<listed.size:=by omega
  have hset:=listed_set hil
  have hne:∀ x,x≠i→(listed.setIfInBounds i true).getD x false=listed.getD x false:=fun x hx=>getD_set_ne false (Ne.symm hx)
  have hpart:i<m∨(∃ k,k<n∧i=m+k)∨∃ k,k<n∧i=m+n+k:=by
   by_cases h1:i<m
   ·exact .inl h1
   ·by_cases h2:i<m+n
    ·exact .inr (.inl ⟨i - m,by omega,by omega⟩)
    ·exact .inr (.inr ⟨i - m - n,by omega,by omega⟩)
  rcases hpart with him|⟨k,hk,rfl⟩|⟨k,hk,rfl⟩
  ·refine wpOp_mono ?_ (hA i him a w hI.below hI.other fun j' hj'=>?_)
   ·rintro a' w' ⟨u,rfl,hu,hb⟩
    have hlt:slot i<a.tmps.size:=by rw[hI.size];exact hin i him
    refine⟨hI.below.trans (hb.mono hI.below.size),by rw[put_size];exact hI.size,by rw[put_defers];exact hI.defers,fun s h1 h2=>?_,fun j hj h1=>?_,fun k hk h1=>?_,fun k k' hk hk' hkk h1 h2=>?_,fun k hk h1=>?_⟩
    ·rw[put_get_ne (h1 i him)];exact hI.other s h1 h2
    ·by_cases e:j=i
     ·subst e;exact⟨u,put_get hlt,hu⟩
     ·rw[hne j e] at h1
      obtain⟨u',g1,g2⟩:=hI.val j hj h1
      exact⟨u',by rw[put_get_ne (fun e2=>e (hinj j i hj him e2))];exact g1,hV1 _ _ _ _ hb g2⟩
    ·rw[hne _ (by omega)] at h1
     obtain⟨g,cs,g1,g2,g3,g4,g5,g6⟩:=hI.box k hk h1
     refine⟨g,cs,by rw[put_get_ne (Ne.symm (hsb i k him hk))];exact g1,g2,(hb.block g (Array.getElem?_eq_some_iff.1 g3).1).trans g3,g4,fun h2=>?_,fun h2=>g6 (by rw[←hne (m+n+k) (by omega)];exact h2)⟩
     rw[hne _ (by omega)] at h2
     have h3:=(hI.stored k hk h2).2
     have h4:vs k≠i:=fun e=>by rw[e,hunf] at h3;cases h3
     rw[put_get_ne (fun e2=>h4 (hinj _ _ (hst k hk).1 him e2))]
     exact g5 h2
    ·rw[hne _ (by omega)] at h1 h2
     rw[put_get_ne (Ne.symm (hsb i k him hk)),put_get_ne (Ne.symm (hsb i k' him hk'))]
     exact hI.apart k k' hk hk' hkk h1 h2
    ·rw[hne _ (by omega)] at h1
     obtain⟨h2,h3⟩:=hI.stored k hk h1
     exact⟨by rw[hne _ (by omega)];exact h2,getD_set_true h3⟩
   ·obtain⟨h1,h2⟩:=hdep i him j' hj'
    obtain⟨e,he,rfl,hbd⟩:=h2 o ho
    exact hI.val _ h1 (hall e he hbd)
  ·obtain⟨o',ho',hg,hop,hd⟩:=hal k hk
   refine step_alloc ho' hg hop hz ?_
   rw[hd]
   have hlt:bx k<a.tmps.size:=by rw[hI.size];exact hbin k hk
   have hbw:Below w.heap.size w (w.alloc (.cells zs T)):=(Below.refl _ _).alloc (Nat.le_refl _) _
   refine⟨hI.below.trans (hbw.mono hI.below.size),by rw[put_size];exact hI.size,by rw[put_defers];exact hI.defers,fun s h1 h2=>?_,fun j hj h1=>?_,fun k1 hk1 h1=>?_,fun k1 k2 hk1 hk2 hkk h1 h2=>?_,fun k1 hk1 h1=>?_⟩
   ·rw[put_get_ne (h2 k hk)];exact hI.other s h1 h2
   ·rw[hne j (by omega)] at h1
    obtain⟨u',g1,g2⟩:=hI.val j hj h1
    exact⟨u',by rw[put_get_ne (hsb j k hj hk)];exact g1,hV1 _ _ _ _ hbw g2⟩
   ·by_cases e:k1=k
    ·subst e
     refine⟨w.heap.size,zs,put_get hlt,hI.below.size,heap_alloc_new _ _,rfl,fun h2=>?_,fun _=>rfl⟩
     rw[hne _ (by omega)] at h2
     have:=(hI.stored k1 hk h2).1
     rw[hunf] at this
     cases this
    ·rw[hne _ (by omega)] at h1
     obtain⟨g,cs,g1,g2,g3,g4,g5,g6⟩:=hI.box k1 hk1 h1
     refine⟨g,cs,by rw[put_get_ne (fun e2=>e (hbinj _ _ hk1 hk e2))];exact g1,g2,(hbw.block g (Array.getElem?_eq_some_iff.1 g3).1).trans g3,g4,fun h2=>?_,fun h2=>g6 (by rw[←hne (m+n+k1) (by omega)];exact h2)⟩
     rw[hne _ (by omega)] at h2
     rw[put_get_ne (hsb _ k (hst k1 hk1).1 hk)]
     exact g5 h2
   ·have old:∀ k1,k1<n→k1≠k→listed.getD (m+k1) false=true→a.tmps[bx k1]?≠some (.pointer (some ⟨w.heap.size,0,none⟩)):=fun k1 hk1 e h1 h2=>by
     obtain⟨g,cs,g1,g2,g3,g4,g5,g6⟩:=hI.box k1 hk1 h1
     have hlt:=(Array.getElem?_eq_some_iff.1 g3).1
     rw[g1] at h2
     simp only[Option.some.injEq,Value.pointer.injEq,Addr.mk.injEq] at h2
     omega
    by_cases e1:k1=k
    ·subst e1
     rw[hne _ (by omega)] at h2
     rw[put_get hlt,put_get_ne (fun e2=>hkk (hbinj _ _ hk hk2 e2.symm))]
     exact Ne.symm (old k2 hk2 (Ne.symm hkk) h2)
    ·rw[hne _ (by omega)] at h1
     by_cases e2:k2=k
     ·subst e2
      rw[put_get hlt,put_get_ne (fun e2=>e1 (hbinj _ _ hk1 hk e2))]
      exact old k1 hk1 e1 h1
     ·rw[hne _ (by omega)] at h2
      rw[put_get_ne (fun e3=>e1 (hbinj _ _ hk1 hk e3)),put_get_ne (fun e3=>e2 (hbinj _ _ hk2 hk e3))]
      exact hI.apart k1 k2 hk1 hk2 hkk h1 h2
   ·rw[hne _ (by omega)] at h1
    obtain⟨h2,h3⟩:=hI.stored k1 hk1 h1
    exact⟨getD_set_true h2,getD_set_true h3⟩
  ·obtain⟨hvm,o',ho',hg,hop,hd,⟨e1,he1,hon1,hb1⟩,e2,he2,hon2,hb2⟩:=hst k hk
   obtain rfl:o'=o:=Option.some.inj (ho'.symm.trans ho)
   have l1:=hall e1 he1 hb1
   have l2:=hall e2 he2 hb2
   rw[hon1] at l1
   rw[hon2] at l2
   obtain⟨u,hu1,hu2⟩:=hI.val _ hvm l2
   obtain⟨cs,rfl,hc1,hc2⟩:=hVs k hk w u hu2
   obtain⟨g,old,g1,g2,g3,g4,g5,g6⟩:=hI.box k hk l1
   rw[g6 hunf] at g3 g4
   refine step_store ho' hg hop g1 hu1 g3 (by rw[hc1];exact hi) (by omega) hc2 ?_
   rw[hd]
   show ParZ W0 a0 m n slot bx vs T zs V _ a _
   refine⟨below_row hI.below g2 _,hI.size,hI.defers,hI.other,fun j hj h1=>?_,fun k1 hk1 h1=>?_,fun k1 k2 hk1 hk2 hkk h1 h2=>?_,fun k1 hk1 h1=>?_⟩
   ·rw[hne j (by omega)] at h1
    obtain⟨u',q1,q2⟩:=hI.val j hj h1
    exact⟨u',q1,hV2 _ _ _ _ _ g3 q2⟩
   ·rw[hne _ (by omega)] at h1
    by_cases e:k1=k
    ·subst e
     exact⟨g,cs,g1,g2,setRow_heap w g _ cs T _ g3,hc1,fun _=>hu1,fun h2=>by rw[hset] at h2;cases h2⟩
    ·obtain⟨g',cs',q1,q2,q3,q4,q5,q6⟩:=hI.box k1 hk1 h1
     have hgg:g'≠g:=fun e2=>by
      subst e2
      exact hI.apart k1 k hk1 hk e h1 l1 (q1.trans g1.symm)
     refine⟨g',cs',q1,q2,(setRow_other w g g' cs hgg).trans q3,q4,fun h2=>?_,fun h2=>q6 (by rw[←hne (m+n+k1) (by omega)];exact h2)⟩
     rw[hne _ (by omega)] at h2
     exact q5 h2
   ·rw[hne _ (by omega)] at h1 h2
    exact hI.apart k1 k2 hk1 hk2 hkk h1 h2
   ·by_cases e:k1=k
    ·subst e
     exact⟨getD_set_true l1,getD_set_true l2⟩
    ·rw[hne _ (by omega)] at h1
     obtain⟨h2,h3⟩:=hI.stored k1 hk1 h1
     exact⟨getD_set_true h2,getD_set_true h3⟩
 ·-- the end: all have come up
  intro listed a w hl hI hr
  have hfull:∀ i,i<ops.size→listed.getD i false=true:=by
   intro i
   induction i using Nat.strongRecOn with
   | _ i ih =>
    intro hi
    cases hx:listed.getD i false with
    | true=>rfl
    | false =>
     exfalso
     have ho:ops[i]?=some ops[i]:=Array.getElem?_eq_getElem hi
     have:i ∈ Region.ready .any ops listed:=by
      refine mem_ready.2 ⟨?_,ops[i],ho,fun e he _=>ih e.on (hord i _ ho e he) (Nat.lt_trans (hord i _ ho e he) hi)⟩
      have hil:i<listed.size:=by omega
      simp only[Array.getD_eq_getD_getElem?,Array.getElem?_eq_getElem hil,Option.getD_some] at hx ⊢
      exact hx
     rw[hr] at this
     cases this
  have hval:∀ j,∃ u,j<m→a.tmps[slot j]?=some u∧V j w u:=fun j=>by
   by_cases hj:j<m
   ·obtain⟨u,h1,h2⟩:=hI.val j hj (hfull j (by omega))
    exact⟨u,fun _=>⟨h1,h2⟩⟩
   ·exact⟨undef,fun h=>absurd h hj⟩
  obtain⟨u,hu⟩:=Classical.axiomOfChoice hval
  have hbox:∀ k,∃ g,k<n→a.tmps[bx k]?=some (.pointer (some ⟨g,0,none⟩))∧W0.heap.size≤g∧∃ cs,u (vs k)=.agg cs∧w.heap[g]?=some (.cells cs T (0,0)):=fun k=>by
   by_cases hk:k<n
   ·obtain⟨g,cs,h1,h2,h3,h4,h5,-⟩:=hI.box k hk (hfull _ (by omega))
    refine⟨g,fun _=>⟨h1,h2,cs,?_,h3⟩⟩
    have h6:=h5 (hfull _ (by omega))
    rw[(hu _ (hst k hk).1).1] at h6
    exact Option.some.inj h6
   ·exact⟨0,fun h=>absurd h hk⟩
  obtain⟨g,hg⟩:=Classical.axiomOfChoice hbox
  exact hQ u g a w hI.below hu hg hI.size hI.defers hI.other
 ·-- the start
  have h0:∀ x,(Array.replicate ops.size false).getD x false=true→False:=fun x h=>by
   simp[Array.getD_eq_getD_getElem?,Array.getElem?_replicate] at h
   split at h <;> simp at h
  exact⟨(Below.refl _ _).drew,rfl,rfl,fun _ _ _=>rfl,fun j _ h=>(h0 _ h).elim,fun k _ h=>(h0 _ h).elim,fun k k' _ _ _ h=>(h0 _ h).elim,fun k _ h=>(h0 _ h).elim⟩
structure KeepB (n:Nat) (gs:Nat→Nat) (B:Nat) (W0 w:World):Prop where
 below:Below B W0 w
 size:W0.heap.size≤w.heap.size
 keep:∀ b,b<W0.heap.size→(∀ k,k<n→b≠gs k)→w.heap[b]?=W0.heap[b]?
theorem KeepB.step {n:Nat} {gs:Nat→Nat} {B:Nat} {W0 w w':World} (h:KeepB n gs B W0 w) (hB:B≤W0.heap.size) (hb:Bw w w'):KeepB n gs B W0 w' :=
 ⟨h.below.trans (hb.mono (Nat.le_trans hB h.size)),Nat.le_trans h.size hb.size,fun b h1 h2=>(hb.block b (Nat.lt_of_lt_of_le h1 h.size)).trans (h.keep b h1 h2)⟩
theorem KeepB.row {n:Nat} {gs:Nat→Nat} {B:Nat} {W0 w:World} (h:KeepB n gs B W0 w) {k:Nat} (hk:k<n) (hB:B≤gs k) (cs:Array Value):KeepB n gs B W0 (w.setRow (gs k) cs) :=
 ⟨below_row h.below hB _,by simpa using h.size,fun b h1 h2=>(setRow_other w (gs k) b cs (h2 k hk)).trans (h.keep b h1 h2)⟩
structure ParS (W0:World) (a0:Act) (m n:Nat) (slot:Nat→Tmp) (vs gs:Nat→Nat) (B:Nat) (T:TypeId) (C:Array Value→Prop) (z:Nat) (V:Nat→World→Value→Prop) (listed:Array Bool) (a:Act) (w:World):Prop where
 kept:KeepB n gs B W0 w
 size:a.tmps.size=a0.tmps.size
 defers:a.defers=a0.defers
 other:∀ s,(∀ j,j<m→s≠slot j)→a.tmps[s]?=a0.tmps[s]?
 val:∀ j,j<m→listed.getD j false=true→∃ u,a.tmps[slot j]?=some u∧V j w u
 box:∀ k,k<n→∃ cs,w.heap[gs k]?=some (.cells cs T (0,0))∧cs.size=z∧C cs∧(listed.getD (m+k) false=true→a.tmps[slot (vs k)]?=some (.agg cs))
 stored:∀ k,k<n→listed.getD (m+k) false=true→listed.getD (vs k) false=true
theorem pars_region {P:Program} {ops:Array Oper} {Q:Exit→Act→World→Prop} {id:Nat} (hm:P.follows .mixedOrders=true) (m n:Nat) (slot bx:Nat→Tmp) (vs gs:Nat→Nat) (B:Nat) (dep:Nat→List Nat) (T:TypeId) (C:Array Value→Prop) (z:Nat)
  (W0:World) (a0:Act) (V:Nat→World→Value→Prop) (hsz:ops.size=m+n)
  (hord:∀ (i:Nat) (o:Oper),ops[i]?=some o→∀ e ∈ o.after,e.on<i)
  (hV1:∀ j w w' u,Bw w w'→V j w u→V j w' u)
  (hV2:∀ j w u g cs cs',w.heap[g]?=some (.cells cs T (0,0))→C cs→V j w u→V j (w.setRow g cs') u)
  (hVs:∀ k,k<n→∀ w u,V (vs k) w u→∃ cs:Array Value,u=.agg cs∧cs.size=z∧C cs∧cs.all (·.oneCell')=true)
  (hdep:∀ j,j<m→∀ j' ∈ dep j,j'<m∧∀ o,ops[j]?=some o→∃ e ∈ o.after,e.on=j'∧Region.binds .any e=true)
  (hA:∀ j,j<m→∀ (a:Act) (w:World),KeepB n gs B W0 w→(∀ s,(∀ j,j<m→s≠slot j)→a.tmps[s]?=a0.tmps[s]?) →
   (∀ j' ∈ dep j,∃ u,a.tmps[slot j']?=some u∧V j' w u)→wpOp P ops Q j (fun a' w'=>∃ u,a'=a.put (some (slot j)) u∧V j w' u∧Bw w w') a w)
  (hi:(P.info? T).map (·.size)=some z)
  (hst:∀ k,k<n→vs k<m∧∃ o,ops[m+k]?=some o∧o.guard=none∧o.op=.store T (.tmp (bx k)) (.tmp (slot (vs k)))∧o.dst=none∧(∃ e ∈ o.after,e.on=vs k∧Region.binds .any e=true))
  (hbx:∀ k,k<n→a0.tmps[bx k]?=some (.pointer (some ⟨gs k,0,none⟩))∧∀ j,j<m→bx k≠slot j)
  (hbox:∀ k,k<n→B≤gs k∧∃ cs,W0.heap[gs k]?=some (.cells cs T (0,0))∧cs.size=z∧C cs)
  (hgs:∀ k k',k<n→k'<n→gs k=gs k'→k=k') (hB:B≤W0.heap.size)
  (hin:∀ j,j<m→slot j<a0.tmps.size)
  (hinj:∀ j j',j<m→j'<m→slot j=slot j'→j=j')
  (hQ:∀ (u:Nat→Value) (a:Act) (w:World),KeepB n gs B W0 w→(∀ j,j<m→a.tmps[slot j]?=some (u j)∧V j w (u j)) →
   (∀ k,k<n→∃ cs,u (vs k)=.agg cs∧w.heap[gs k]?=some (.cells cs T (0,0))) →
   a.tmps.size=a0.tmps.size→a.defers=a0.defers→(∀ s,(∀ j,j<m→s≠slot j)→a.tmps[s]?=a0.tmps[s]?)→Q .normal a w) :
  (Code.region id ops true).wp P Q a0 W0:=by
 refine wp_region_any hm ?_
 refine wpAny_inv (ParS W0 a0 m n slot vs gs B T C z V) ?_ ?_ ops.size _ a0 _ (by simp) ?_ (by simp)
 ·-- a step
  intro listed a w i hl hI hr
  obtain⟨hun,o,ho,hall⟩:=mem_ready.1 hr
  have hunf:=not_listed hun
  have hio:i<ops.size:=(Array.getElem?_eq_some_iff.1 ho).1
  have hil:i<listed.size:=by omega
  have hset:=listed_set hil
  have hne:∀ x,x≠i→(listed.setIfInBounds i true).getD x false=listed.getD x false:=fun x hx=>getD_set_ne false (Ne.symm hx)
  have hpart:i<m∨∃ k,k<n∧i=m+k:=by
   by_cases h1:i<m
   ·exact .inl h1
   ·exact .inr ⟨i - m,by omega,by omega⟩
  rcases hpart with him|⟨k,hk,rfl⟩
  ·refine wpOp_mono ?_ (hA i him a w hI.kept hI.other fun j' hj'=>?_)
   ·rintro a' w' ⟨u,rfl,hu,hb⟩
    have hlt:slot i<a.tmps.size:=by rw[hI.size];exact hin i him
    refine⟨hI.kept.step hB hb,by rw[put_size];exact hI.size,by rw[put_defers];exact hI.defers,fun s h1=>?_,fun j hj h1=>?_,fun k hk=>?_,fun k hk h1=>?_⟩
    ·rw[put_get_ne (h1 i him)];exact hI.other s h1
    ·by_cases e:j=i
     ·subst e;exact⟨u,put_get hlt,hu⟩
     ·rw[hne j e] at h1
      obtain⟨u',g1,g2⟩:=hI.val j hj h1
      exact⟨u',by rw[put_get_ne (fun e2=>e (hinj j i hj him e2))];exact g1,hV1 _ _ _ _ hb g2⟩
    ·obtain⟨cs,g3,g4,g5,g6⟩:=hI.box k hk
     refine⟨cs,(hb.block _ (Array.getElem?_eq_some_iff.1 g3).1).trans g3,g4,g5,fun h2=>?_⟩
     rw[hne _ (by omega)] at h2
     have h3:=hI.stored k hk h2
     have h4:vs k≠i:=fun e=>by rw[e,hunf] at h3;cases h3
     rw[put_get_ne (fun e2=>h4 (hinj _ _ (hst k hk).1 him e2))]
     exact g6 h2
    ·rw[hne _ (by omega)] at h1
     exact getD_set_true (hI.stored k hk h1)
   ·obtain⟨h1,h2⟩:=hdep i him j' hj'
    obtain⟨e,he,rfl,hbd⟩:=h2 o ho
    exact hI.val _ h1 (hall e he hbd)
  ·obtain⟨hvm,o',ho',hg,hop,hd,e2,he2,hon2,hb2⟩:=hst k hk
   obtain rfl:o'=o:=Option.some.inj (ho'.symm.trans ho)
   have l2:=hall e2 he2 hb2
   rw[hon2] at l2
   obtain⟨u,hu1,hu2⟩:=hI.val _ hvm l2
   obtain⟨cs,rfl,hc1,hcC,hc2⟩:=hVs k hk w u hu2
   obtain⟨old,g3,g4,g5,g6⟩:=hI.box k hk
   have hbk:a.tmps[bx k]?=some (.pointer (some ⟨gs k,0,none⟩)):=by rw[hI.other _ (hbx k hk).2];exact(hbx k hk).1
   refine step_store ho' hg hop hbk hu1 g3 (by rw[hc1];exact hi) (by omega) hc2 ?_
   rw[hd]
   show ParS W0 a0 m n slot vs gs B T C z V _ a _
   refine⟨hI.kept.row hk (hbox k hk).1 _,hI.size,hI.defers,hI.other,fun j hj h1=>?_,fun k1 hk1=>?_,fun k1 hk1 h1=>?_⟩
   ·rw[hne j (by omega)] at h1
    obtain⟨u',q1,q2⟩:=hI.val j hj h1
    exact⟨u',q1,hV2 _ _ _ _ _ _ g3 g5 q2⟩
   ·by_cases e:k1=k
    ·subst e
     exact⟨cs,setRow_heap w (gs k1) old cs T _ g3,hc1,hcC,fun _=>hu1⟩
    ·obtain⟨cs',q3,q4,q5,q6⟩:=hI.box k1 hk1
     have hgg:gs k1≠gs k:=fun e2=>e (hgs k1 k hk1 hk e2)
     refine⟨cs',(setRow_other w (gs k) (gs k1) cs hgg).trans q3,q4,q5,fun h2=>?_⟩
     rw[hne _ (by omega)] at h2
     exact q6 h2
   ·by_cases e:k1=k
    ·subst e
     exact getD_set_true l2
    ·rw[hne _ (by omega)] at h1
     exact getD_set_true (hI.stored k1 hk1 h1)
 ·-- the end: all have come up
  intro listed a w hl hI hr
  have hfull:∀ i,i<ops.size→listed.getD i false=true:=by
   intro i
   induction i using Nat.strongRecOn with
   | _ i ih =>
    intro hi
    cases hx:listed.getD i false with
    | true=>rfl
    | false =>
     exfalso
     have ho:ops[i]?=some ops[i]:=Array.getElem?_eq_getElem hi
     have:i ∈ Region.ready .any ops listed:=by
      refine mem_ready.2 ⟨?_,ops[i],ho,fun e he _=>ih e.on (hord i _ ho e he) (Nat.lt_trans (hord i _ ho e he) hi)⟩
      have hil:i<listed.size:=by omega
      simp only[Array.getD_eq_getD_getElem?,Array.getElem?_eq_getElem hil,Option.getD_some] at hx ⊢
      exact hx
     rw[hr] at this
     cases this
  have hval:∀ j,∃ u,j<m→a.tmps[slot j]?=some u∧V j w u:=fun j=>by
   by_cases hj:j<m
   ·obtain⟨u,h1,h2⟩:=hI.val j hj (hfull j (by omega))
    exact⟨u,fun _=>⟨h1,h2⟩⟩
   ·exact⟨undef,fun h=>absurd h hj⟩
  obtain⟨u,hu⟩:=Classical.axiomOfChoice hval
  refine hQ u a w hI.kept hu (fun k hk=>?_) hI.size hI.defers hI.other
  obtain⟨cs,h3,h4,h5,h6⟩:=hI.box k hk
  have h7:=h6 (hfull _ (by omega))
  rw[(hu _ (hst k hk).1).1] at h7
  exact⟨cs,Option.some.inj h7,h3⟩
 ·-- the start
  have h0:∀ x,(Array.replicate ops.size false).getD x false=true→False:=fun x h=>by
   simp[Array.getD_eq_getD_getElem?,Array.getElem?_replicate] at h
   split at h <;> simp at h
  refine⟨⟨(Below.refl _ _).drew,Nat.le_refl _,fun _ _ _=>rfl⟩,rfl,rfl,fun _ _=>rfl,fun j _ h=>(h0 _ h).elim,fun k hk=>?_,fun k _ h=>(h0 _ h).elim⟩
  obtain⟨-,cs,h1,h2,h3⟩:=hbox k hk
  exact⟨cs,h1,h2,h3,fun h=>(h0 _ h).elim⟩
end Go.Proofs.YtolefllepcdagaaGreat
namespace Go.Proofs.YtolefllepcdagaaGreat
open Go.RowKit Go.Fl64
theorem gord_of {ops:Array Oper} (h:((List.range ops.size).all fun i=>match ops[i]? with|some o=>o.after.all (fun e=>decide (e.on<i))|none=>true)=true) (i:Nat) (o:Oper) (ho:ops[i]?=some o):∀ e ∈ o.after,e.on<i:=by
 intro e he
 have hi:i<ops.size:=(Array.getElem?_eq_some_iff.1 ho).1
 have h1:=List.all_eq_true.1 h i (List.mem_range.2 hi)
 simp only[ho] at h1
 exact of_decide_eq_true (Array.all_eq_true_iff_forall_mem.1 h1 e he)
theorem grun_fieldI0 (g:Nat) (w:World):(Instr.fieldAt 24 (.pointer (some ⟨g,0,none⟩)) 0).run Tryz.prog w=.ok (.pointer (some ⟨g,0,none⟩)) w:=by kernel_rfl
theorem grun_fieldI1 (g:Nat) (w:World):(Instr.fieldAt 24 (.pointer (some ⟨g,0,none⟩)) 1).run Tryz.prog w=.ok (.pointer (some ⟨g,1,none⟩)) w:=by kernel_rfl
theorem grun_loadF (g f x:Nat) (w:World) (h:w.cell? ⟨g,f,none⟩=some (.float .f64 x)):(Instr.loadAt 22 (.pointer (some ⟨g,f,none⟩))).run Tryz.prog w=.ok (.float .f64 x) w:=by
 have u:=Tryz.isAgg22
 simp[Instr.loadAt,Instr.sureAddr,loadVar,h,go_sem]
theorem gstep_fieldI {ops:Array Oper} {Q:Exit→Act→World→Prop} {i:Nat} {o:Oper} {K:Act→World→Prop} {a:Act} {w:World}
  (hi:ops[i]?=some o) (hg:o.guard=none) {s:Tmp} {f:Nat} (hop:o.op=.fieldAddr 24 (.tmp s) f) {g:Nat} (hf:f=0∨f=1)
  (hs:a.tmps[s]?=some (.pointer (some ⟨g,0,none⟩))) (h:K (a.put o.dst (.pointer (some ⟨g,f,none⟩))) w):wpOp Tryz.prog ops Q i K a w:=by
 refine step_wanted hi hg ?_
 unfold Oper.wp
 rcases hf with rfl|rfl
 ·simp[execOp,hop,eval_get hs,grun_fieldI0,Result.andThen,Oper.upon,h]
 ·simp[execOp,hop,eval_get hs,grun_fieldI1,Result.andThen,Oper.upon,h]
theorem gstep_loadF {ops:Array Oper} {Q:Exit→Act→World→Prop} {i:Nat} {o:Oper} {K:Act→World→Prop} {a:Act} {w:World}
  (hi:ops[i]?=some o) (hg:o.guard=none) {s:Tmp} (hop:o.op=.load 22 (.tmp s)) {g f x:Nat}
  (hs:a.tmps[s]?=some (.pointer (some ⟨g,f,none⟩))) (hc:w.cell? ⟨g,f,none⟩=some (.float .f64 x)) (h:K (a.put o.dst (.float .f64 x)) w):wpOp Tryz.prog ops Q i K a w:=by
 refine step_wanted hi hg ?_
 unfold Oper.wp
 simp[execOp,hop,eval_get hs,grun_loadF g f x w hc,Result.andThen,Oper.upon,h]
theorem gzero_num (w:World):(zeroValue 30).run Tryz.prog w=.ok (.agg #[.bool false,.slice none 0 0,.int .i64 0]) w:=Tryz.zeroValue30 w
def NumC (cs:Array Value):Prop:=∃ (s:Bool) (ao:Option Addr) (n cap:Nat) (e:Int),cs = #[.bool s,.slice ao n cap,.int .i64 e]
theorem gat_row {W:World} {ao:Option Addr} {n z g:Nat} {cs0:Array Value} {T:TypeId} (h:At W ao n z) (hE:W.heap[g]?=some (.cells cs0 T (0,0))) (hC:NumC cs0) (cs:Array Value):At (W.setRow g cs) ao n z:=by
 obtain⟨bb,o,h1,h2⟩:=h
 obtain⟨s',ao',n',cap',e',rfl⟩:=hC
 refine⟨bb,o,h1,fun i hi=>?_⟩
 have hc:=h2 i hi
 have hne:bb≠g:=by
  rintro rfl
  simp only[World.cell?,hE] at hc
  rcases(show o+i=0∨o+i=1∨o+i=2∨3≤o+i by omega)with e|e|e|e
  ·rw[e] at hc;simp at hc
  ·rw[e] at hc;simp at hc
  ·rw[e] at hc;simp at hc
  ·rw[Array.getElem?_eq_none (by simpa using e)] at hc;cases hc
 have hs:=setRow_other W g bb cs hne
 unfold World.cell? at hc ⊢
 rw[hs]
 exact hc
theorem DN.grow {W:World} {A:Value} {t:Bool×Nat×Int} {g:Nat} {cs0:Array Value} {T:TypeId} (h:DN W A t) (hE:W.heap[g]?=some (.cells cs0 T (0,0))) (hC:NumC cs0) (cs:Array Value):DN (W.setRow g cs) A t:=by
 obtain⟨ao',cap',h2,h3⟩:=h
 exact⟨ao',cap',h2,h3.nil,gat_row h3.at_ hE hC cs,h3.le,h3.small⟩
theorem DN.cells {W:World} {A:Value} {t:Bool×Nat×Int} (h:DN W A t):∃ cs:Array Value,A=.agg cs∧cs.size=3∧NumC cs∧cs.all (·.oneCell')=true:=by
 obtain⟨s,ao,n,cap,e,rfl⟩:=h.shape
 exact⟨_,rfl,rfl,⟨_,_,_,_,_,rfl⟩,one3 rfl rfl⟩
def flE (g f0 f1:Nat) (j:Nat) (w:World) (u:Value):Prop :=
 match j with
 | 0=>u=.pointer (some ⟨g,0,none⟩)
 | 1=>u=.float .f64 f0
 | 2=>DN w u (tF f0)
 | 3=>u=.pointer (some ⟨g,1,none⟩)
 | 4=>u=.float .f64 f1
 | _=>DN w u (tF f1)
def flD (j:Nat):List Nat :=
 match j with
 | 0 => []
 | 1 => [0]
 | 2 => [1]
 | 3 => []
 | 4 => [3]
 | _ => [4]
theorem flE_later {g f0 f1 j:Nat} {w w':World} {u:Value} (hb:Bw w w') (h:flE g f0 f1 j w u):flE g f0 f1 j w' u:=by
 rcases(show j=0∨j=1∨j=2∨j=3∨j=4∨∃ k,j=k+5 by by_cases h:5≤j;exact .inr (.inr (.inr (.inr (.inr ⟨j - 5,by omega⟩))));omega)with rfl|rfl|rfl|rfl|rfl|⟨k,rfl⟩
 ·exact h
 ·exact h
 ·exact DN.later h hb
 ·exact h
 ·exact h
 ·exact DN.later (t:=tF f1) h hb
theorem flE_row {g f0 f1 j g':Nat} {w:World} {u:Value} {cs0 cs:Array Value} {T:TypeId} (hE:w.heap[g']?=some (.cells cs0 T (0,0))) (hC:NumC cs0) (h:flE g f0 f1 j w u):flE g f0 f1 j (w.setRow g' cs) u:=by
 rcases(show j=0∨j=1∨j=2∨j=3∨j=4∨∃ k,j=k+5 by by_cases h:5≤j;exact .inr (.inr (.inr (.inr (.inr ⟨j - 5,by omega⟩))));omega)with rfl|rfl|rfl|rfl|rfl|⟨k,rfl⟩
 ·exact h
 ·exact h
 ·exact DN.grow h hE hC _
 ·exact h
 ·exact h
 ·exact DN.grow (t:=tF f1) h hE hC _
theorem glt6 {j:Nat} (h:j<6):j=0∨j=1∨j=2∨j=3∨j=4∨j=5:=by omega
theorem glt2 {j:Nat} (h:j<2):j=0∨j=1:=by omega
structure FlOps (ops:Array Oper) (src s0:Tmp):Prop where
 o0:∃ o,ops[0]?=some o∧o.guard=none∧o.op=.fieldAddr 24 (.tmp src) 0∧o.dst=some s0
 o1:∃ o,ops[1]?=some o∧o.guard=none∧o.op=.load 22 (.tmp s0)∧o.dst=some (s0+1)∧∃ e ∈ o.after,e.on=0∧Region.binds .any e=true
 o2:∃ o,ops[2]?=some o∧o.guard=none∧(∃ ts,o.op=.call { callee:=.value (.func 5),args:=#[.tmp (s0+1)],argTypes:=ts })∧o.dst=some (s0+2)∧∃ e ∈ o.after,e.on=1∧Region.binds .any e=true
 o3:∃ o,ops[3]?=some o∧o.guard=none∧o.op=.fieldAddr 24 (.tmp src) 1∧o.dst=some (s0+3)
 o4:∃ o,ops[4]?=some o∧o.guard=none∧o.op=.load 22 (.tmp (s0+3))∧o.dst=some (s0+4)∧∃ e ∈ o.after,e.on=3∧Region.binds .any e=true
 o5:∃ o,ops[5]?=some o∧o.guard=none∧(∃ ts,o.op=.call { callee:=.value (.func 5),args:=#[.tmp (s0+4)],argTypes:=ts })∧o.dst=some (s0+5)∧∃ e ∈ o.after,e.on=4∧Region.binds .any e=true
theorem FlOps.dep {ops:Array Oper} {src s0:Tmp} (h:FlOps ops src s0):∀ j,j<6→∀ j' ∈ flD j,j'<6∧∀ o,ops[j]?=some o→∃ e ∈ o.after,e.on=j'∧Region.binds .any e=true:=by
 intro j hj j' hj'
 rcases glt6 hj with rfl|rfl|rfl|rfl|rfl|rfl
 ·simp[flD] at hj'
 ·obtain rfl:j'=0:=by simpa [flD] using hj'
  refine⟨by omega,fun o ho=>?_⟩
  obtain⟨o',ho',-,-,-,e⟩:=h.o1
  obtain rfl:o'=o:=Option.some.inj (ho'.symm.trans ho)
  exact e
 ·obtain rfl:j'=1:=by simpa [flD] using hj'
  refine⟨by omega,fun o ho=>?_⟩
  obtain⟨o',ho',-,-,-,e⟩:=h.o2
  obtain rfl:o'=o:=Option.some.inj (ho'.symm.trans ho)
  exact e
 ·simp[flD] at hj'
 ·obtain rfl:j'=3:=by simpa [flD] using hj'
  refine⟨by omega,fun o ho=>?_⟩
  obtain⟨o',ho',-,-,-,e⟩:=h.o4
  obtain rfl:o'=o:=Option.some.inj (ho'.symm.trans ho)
  exact e
 ·obtain rfl:j'=4:=by simpa [flD] using hj'
  refine⟨by omega,fun o ho=>?_⟩
  obtain⟨o',ho',-,-,-,e⟩:=h.o5
  obtain rfl:o'=o:=Option.some.inj (ho'.symm.trans ho)
  exact e
theorem FlOps.step {ops:Array Oper} {Q:Exit→Act→World→Prop} {src s0:Tmp} (h:FlOps ops src s0) {g f0 f1:Nat} (h0:f0<18446744073709551616) (h1:f1<18446744073709551616) {j:Nat} (hj:j<6) {a:Act} {w:World}
  (hs:a.tmps[src]?=some (.pointer (some ⟨g,0,none⟩))) (c0:w.cell? ⟨g,0,none⟩=some (.float .f64 f0)) (c1:w.cell? ⟨g,1,none⟩=some (.float .f64 f1))
  (hd:∀ j' ∈ flD j,∃ u,a.tmps[s0+j']?=some u∧flE g f0 f1 j' w u):wpOp Tryz.prog ops Q j (fun a' w'=>∃ u,a'=a.put (some (s0+j)) u∧flE g f0 f1 j w' u∧Bw w w') a w:=by
 rcases glt6 hj with rfl|rfl|rfl|rfl|rfl|rfl
 ·obtain⟨o,ho,hg,hop,hdst⟩:=h.o0
  refine gstep_fieldI ho hg hop (.inl rfl) hs ?_
  exact⟨_,by rw[hdst];rfl,rfl,Below.refl _ _⟩
 ·obtain⟨o,ho,hg,hop,hdst,-⟩:=h.o1
  obtain⟨u,hu,hv⟩:=hd 0 (by simp[flD])
  obtain rfl:u=_:=hv
  refine gstep_loadF ho hg hop hu c0 ?_
  exact⟨_,by rw[hdst],rfl,Below.refl _ _⟩
 ·obtain⟨o,ho,hg,⟨ts,hop⟩,hdst,-⟩:=h.o2
  obtain⟨u,hu,hv⟩:=hd 1 (by simp[flD])
  obtain rfl:u=_:=hv
  refine step_call ho hg hop (enters Tryz.func5 (by kernel_rfl) (by kernel_rfl)) (vs:=#[_]) (by simp only[List.map_toArray,List.map_cons,List.map_nil];rw[eval_get hu]) ?_
  refine(float_dn f0 h0 w).mono ?_
  rintro r w' ⟨A,rfl,hE,hb'⟩
  exact⟨_,rfl,_,by rw[hdst],hE,hb'⟩
 ·obtain⟨o,ho,hg,hop,hdst⟩:=h.o3
  refine gstep_fieldI ho hg hop (.inr rfl) hs ?_
  exact⟨_,by rw[hdst],rfl,Below.refl _ _⟩
 ·obtain⟨o,ho,hg,hop,hdst,-⟩:=h.o4
  obtain⟨u,hu,hv⟩:=hd 3 (by simp[flD])
  obtain rfl:u=_:=hv
  refine gstep_loadF ho hg hop hu c1 ?_
  exact⟨_,by rw[hdst],rfl,Below.refl _ _⟩
 ·obtain⟨o,ho,hg,⟨ts,hop⟩,hdst,-⟩:=h.o5
  obtain⟨u,hu,hv⟩:=hd 4 (by simp[flD])
  obtain rfl:u=_:=hv
  refine step_call ho hg hop (enters Tryz.func5 (by kernel_rfl) (by kernel_rfl)) (vs:=#[_]) (by simp only[List.map_toArray,List.map_cons,List.map_nil];rw[eval_get hu]) ?_
  refine(float_dn f1 h1 w).mono ?_
  rintro r w' ⟨A,rfl,hE,hb'⟩
  exact⟨_,rfl,_,by rw[hdst],hE,hb'⟩
theorem flz_region {ops:Array Oper} {Q:Exit→Act→World→Prop} {id:Nat} (src s0 b0:Tmp) (g f0 f1:Nat) (W0:World) (a0:Act) (h0:f0<18446744073709551616) (h1:f1<18446744073709551616)
  (hsz:ops.size=10) (hord:∀ (i:Nat) (o:Oper),ops[i]?=some o→∀ e ∈ o.after,e.on<i) (hops:FlOps ops src s0)
  (hs:a0.tmps[src]?=some (.pointer (some ⟨g,0,none⟩))) (hc:∀ w,Bw W0 w→w.cell? ⟨g,0,none⟩=some (.float .f64 f0)∧w.cell? ⟨g,1,none⟩=some (.float .f64 f1))
  (hfree:(∀ j,j<6→src≠s0+j)∧∀ k,k<2→src≠b0+k)
  (hal:∀ k,k<2→∃ o,ops[6+k]?=some o∧o.guard=none∧o.op=.alloc 30∧o.dst=some (b0+k))
  (hst:∀ k,k<2→∃ o,ops[6+2+k]?=some o∧o.guard=none∧o.op=.store 30 (.tmp (b0+k)) (.tmp (s0+(3*k+2)))∧o.dst=none∧(∃ e ∈ o.after,e.on=6+k∧Region.binds .any e=true)∧(∃ e ∈ o.after,e.on=3*k+2∧Region.binds .any e=true))
  (hin:∀ j,j<6→s0+j<a0.tmps.size) (hbin:∀ k,k<2→b0+k<a0.tmps.size) (hsb:∀ j,j<6→∀ k,k<2→s0+j≠b0+k)
  (hQ:∀ (u:Nat→Value) (gb:Nat→Nat) (w:World),Bw W0 w→DN w (u 2) (tF f0)→DN w (u 5) (tF f1)→W0.heap.size≤gb 0→W0.heap.size≤gb 1 →
   (∃ cs,u 2=.agg cs∧w.heap[gb 0]?=some (.cells cs 30 (0,0)))→(∃ cs,u 5=.agg cs∧w.heap[gb 1]?=some (.cells cs 30 (0,0))) →
   Q .normal (putL a0 ((List.range 6).map (fun j=>(s0+j,u j))++(List.range 2).map (fun k=>(b0+k,.pointer (some ⟨gb k,0,none⟩))))) w) :
  (Code.region id ops true).wp Tryz.prog Q a0 W0:=by
 refine parz_region follows_mixed 6 2 (fun j=>s0+j) (fun k=>b0+k) (fun k=>3*k+2) flD 30 #[.bool false,.slice none 0 0,.int .i64 0] W0 a0 (flE g f0 f1) hsz hord (fun j w w' u hb h=>flE_later hb h) (fun j w u g' cs' hg h=>flE_row hg ⟨_,_,_,_,_,rfl⟩ h) ?_ hops.dep ?_ hal gzero_num Tryz.info30 ?_ hin hbin (fun j j' _ _ h=>Nat.add_left_cancel h) (fun k k' _ _ h=>Nat.add_left_cancel h) (fun j k hj hk=>hsb j hj k hk) ?_
 ·intro k hk w u h
  rcases glt2 hk with rfl|rfl
  ·obtain⟨cs,e1,e2,-,e3⟩:=DN.cells (show DN w u (tF f0)from h)
   exact⟨cs,e1,e2,e3⟩
  ·obtain⟨cs,e1,e2,-,e3⟩:=DN.cells (show DN w u (tF f1)from h)
   exact⟨cs,e1,e2,e3⟩
 ·intro j hj a w hb hoth hdep
  exact hops.step h0 h1 hj (by rw[hoth src hfree.1 hfree.2];exact hs) (hc w hb).1 (hc w hb).2 hdep
 ·intro k hk
  obtain⟨o,x1,x2,x3,x4,x5,x6⟩:=hst k hk
  exact⟨by omega,o,x1,x2,x3,x4,x5,x6⟩
 ·intro u gb a w hb hu hg hs' hd' hoth
  have ha:a=putL a0 ((List.range 6).map (fun j=>(s0+j,u j))++(List.range 2).map (fun k=>(b0+k,.pointer (some ⟨gb k,0,none⟩)))):=by
   refine act_putL ?_ hs' hd' ?_ ?_
   ·have e:((List.range 6).map (fun j=>(s0+j,u j))++(List.range 2).map (fun k=>(b0+k,Value.pointer (some ⟨gb k,0,none⟩)))).map (·.1)=(List.range 6).map (fun j=>s0+j)++(List.range 2).map (fun k=>b0+k):=by simp[Function.comp_def]
    rw[e,List.nodup_append]
    refine⟨?_,?_,?_⟩
    ·refine List.pairwise_map.2 ((List.nodup_range (n:=6)).imp_of_mem ?_)
     intro x y hx hy hne he
     exact hne (Nat.add_left_cancel he)
    ·refine List.pairwise_map.2 ((List.nodup_range (n:=2)).imp_of_mem ?_)
     intro x y hx hy hne he
     exact hne (Nat.add_left_cancel he)
    ·intro x hx y hy
     obtain⟨j,hj,rfl⟩:=List.mem_map.1 hx
     obtain⟨k,hk,rfl⟩:=List.mem_map.1 hy
     exact hsb j (List.mem_range.1 hj) k (List.mem_range.1 hk)
   ·intro p hp
    rcases List.mem_append.1 hp with h|h
    ·obtain⟨j,hj,rfl⟩:=List.mem_map.1 h
     exact(hu j (List.mem_range.1 hj)).1
    ·obtain⟨k,hk,rfl⟩:=List.mem_map.1 h
     exact(hg k (List.mem_range.1 hk)).1
   ·intro s hsn
    refine hoth s (fun j hj he=>hsn ?_) (fun k hk he=>hsn ?_)
    ·rw[List.map_append]
     exact List.mem_append_left _ (List.mem_map.2 ⟨_,List.mem_map.2 ⟨j,List.mem_range.2 hj,rfl⟩,he.symm⟩)
    ·rw[List.map_append]
     exact List.mem_append_right _ (List.mem_map.2 ⟨_,List.mem_map.2 ⟨k,List.mem_range.2 hk,rfl⟩,he.symm⟩)
  rw[ha]
  exact hQ u gb w hb (hu 2 (by omega)).2 (hu 5 (by omega)).2 (hg 0 (by omega)).2.1 (hg 1 (by omega)).2.1 (hg 0 (by omega)).2.2 (hg 1 (by omega)).2.2
theorem fls_region {ops:Array Oper} {Q:Exit→Act→World→Prop} {id:Nat} (src s0 b0:Tmp) (g f0 f1 B:Nat) (gs:Nat→Nat) (W0:World) (a0:Act) (h0:f0<18446744073709551616) (h1:f1<18446744073709551616)
  (hsz:ops.size=8) (hord:∀ (i:Nat) (o:Oper),ops[i]?=some o→∀ e ∈ o.after,e.on<i) (hops:FlOps ops src s0)
  (hs:a0.tmps[src]?=some (.pointer (some ⟨g,0,none⟩))) (hc:∀ w,KeepB 2 gs B W0 w→w.cell? ⟨g,0,none⟩=some (.float .f64 f0)∧w.cell? ⟨g,1,none⟩=some (.float .f64 f1))
  (hfree:∀ j,j<6→src≠s0+j)
  (hst:∀ k,k<2→∃ o,ops[6+k]?=some o∧o.guard=none∧o.op=.store 30 (.tmp (b0+k)) (.tmp (s0+(3*k+2)))∧o.dst=none∧(∃ e ∈ o.after,e.on=3*k+2∧Region.binds .any e=true))
  (hbx:∀ k,k<2→a0.tmps[b0+k]?=some (.pointer (some ⟨gs k,0,none⟩)))
  (hbox:∀ k,k<2→B≤gs k∧∃ cs,W0.heap[gs k]?=some (.cells cs 30 (0,0))∧cs.size=3∧NumC cs) (hgs:gs 0≠gs 1) (hB:B≤W0.heap.size)
  (hin:∀ j,j<6→s0+j<a0.tmps.size) (hsb:∀ j,j<6→∀ k,k<2→s0+j≠b0+k)
  (hQ:∀ (u:Nat→Value) (w:World),KeepB 2 gs B W0 w→DN w (u 2) (tF f0)→DN w (u 5) (tF f1) →
   (∃ cs,u 2=.agg cs∧w.heap[gs 0]?=some (.cells cs 30 (0,0)))→(∃ cs,u 5=.agg cs∧w.heap[gs 1]?=some (.cells cs 30 (0,0))) →
   Q .normal (putL a0 ((List.range 6).map (fun j=>(s0+j,u j)))) w) :
  (Code.region id ops true).wp Tryz.prog Q a0 W0:=by
 refine pars_region follows_mixed 6 2 (fun j=>s0+j) (fun k=>b0+k) (fun k=>3*k+2) gs B flD 30 NumC 3 W0 a0 (flE g f0 f1) hsz hord (fun j w w' u hb h=>flE_later hb h) (fun j w u g' cs cs' hg hC h=>flE_row hg hC h) ?_ hops.dep ?_ Tryz.info30 ?_ ?_ hbox ?_ hB hin (fun j j' _ _ h=>Nat.add_left_cancel h) ?_
 ·intro k hk w u h
  rcases glt2 hk with rfl|rfl
  ·exact DN.cells (show DN w u (tF f0)from h)
  ·exact DN.cells (show DN w u (tF f1)from h)
 ·intro j hj a w hb hoth hdep
  exact hops.step h0 h1 hj (by rw[hoth src hfree];exact hs) (hc w hb).1 (hc w hb).2 hdep
 ·intro k hk
  obtain⟨o,x1,x2,x3,x4,x5⟩:=hst k hk
  exact⟨by omega,o,x1,x2,x3,x4,x5⟩
 ·intro k hk
  exact⟨hbx k hk,fun j hj e=>hsb j hj k hk e.symm⟩
 ·intro k k' hk hk' e
  rcases glt2 hk with rfl|rfl <;> rcases glt2 hk' with rfl|rfl
  ·rfl
  ·exact absurd e hgs
  ·exact absurd e.symm hgs
  ·rfl
 ·intro u a w hb hu hg hs' hd' hoth
  have ha:a=putL a0 ((List.range 6).map (fun j=>(s0+j,u j))):=by
   refine act_putL ?_ hs' hd' ?_ ?_
   ·have e:((List.range 6).map (fun j=>(s0+j,u j))).map (·.1)=(List.range 6).map (fun j=>s0+j):=by simp[Function.comp_def]
    rw[e]
    refine List.pairwise_map.2 ((List.nodup_range (n:=6)).imp_of_mem ?_)
    intro x y hx hy hne he
    exact hne (Nat.add_left_cancel he)
   ·intro p hp
    obtain⟨j,hj,rfl⟩:=List.mem_map.1 hp
    exact(hu j (List.mem_range.1 hj)).1
   ·intro s hsn
    refine hoth s (fun j hj he=>hsn ?_)
    exact List.mem_map.2 ⟨_,List.mem_map.2 ⟨j,List.mem_range.2 hj,rfl⟩,he.symm⟩
  rw[ha]
  exact hQ u w hb (hu 2 (by omega)).2 (hu 5 (by omega)).2 (hg 0 (by omega)) (hg 1 (by omega))
attribute [local go_sem] run_store_fltK
def NumB (W:World) (g:Nat) (s:Bool) (ao:Option Addr) (n cap:Nat) (e:Int):Prop:=W.heap[g]?=some (.cells #[.bool s,.slice ao n cap,.int .i64 e] 30 (0,0))
theorem NumB.lt {W:World} {g:Nat} {s:Bool} {ao:Option Addr} {n cap:Nat} {e:Int} (h:NumB W g s ao n cap e):g<W.heap.size:=(Array.getElem?_eq_some_iff.1 h).1
theorem NumB.box {W w':World} {g:Nat} {s:Bool} {ao:Option Addr} {n cap:Nat} {e:Int} (h:NumB W g s ao n cap e) (hb:Bw W w'):NumB w' g s ao n cap e:=(hb.block g h.lt).trans h
theorem NumB.apart {W:World} {g0 g1:Nat} {s s':Bool} {ao ao':Option Addr} {n cap n' cap':Nat} {e e':Int} {t t':Bool×Nat×Int} (h:NumB W g0 s ao n cap e) (h':NumB W g1 s' ao' n' cap' e') (d:DN W (.agg #[.bool s,.slice ao n cap,.int .i64 e]) t) (d':DN W (.agg #[.bool s',.slice ao' n' cap',.int .i64 e']) t') (hne:t.2.2≠t'.2.2):g0≠g1:=by
 rintro rfl
 unfold NumB at h h'
 rw[h] at h'
 have h3:s=s'∧(ao=ao'∧n=n'∧cap=cap')∧e=e':=by simpa using h'
 obtain⟨x,y,h4,-⟩:=d
 obtain⟨x',y',h5,-⟩:=d'
 have e4:e=t.2.2:=by
  have:=h4
  simp only[Value.agg.injEq,Array.mk.injEq,List.cons.injEq,Value.int.injEq] at this
  exact this.2.2.1.2
 have e5:e'=t'.2.2:=by
  have:=h5
  simp only[Value.agg.injEq,Array.mk.injEq,List.cons.injEq,Value.int.injEq] at this
  exact this.2.2.1.2
 exact hne (by rw[←e4,←e5];exact h3.2.2)
def A7:Bool×Nat×Int:=tF 4609047870845172684
def B7:Bool×Nat×Int:=tF 4609047870845172685
def A8:Bool×Nat×Int:=tF 4609965796441453735
def B8:Bool×Nat×Int:=tF 4609965796441453736
theorem gn_A7:Gn A7∧Gn (gM A7 A7):=by unfold Gn;decide +kernel
theorem gn_B7:Gn B7∧Gn (gM B7 B7):=by unfold Gn;decide +kernel
theorem gn_A8:Gn A8∧Gn (gM A8 A8)∧Gn (gD (gM A8 A8) A8):=by unfold Gn;decide +kernel
theorem gn_B8:Gn B8∧Gn (gM B8 B8)∧Gn (gD (gM B8 B8) B8):=by unfold Gn;decide +kernel
theorem ex_7:A7.2.2≠B7.2.2:=by decide +kernel
theorem gn_1:Gn (false,1,0)∧Gn (false,1,1):=by unfold Gn;decide +kernel
theorem or_A7:ordN (gM A7 A7).1 (gM A7 A7).2.1 (gM A7 A7).2.2 false 1 1 = -1:=by decide +kernel
theorem or_B7:ordN (gM B7 B7).1 (gM B7 B7).2.1 (gM B7 B7).2.2 false 1 1=1:=by decide +kernel
theorem or_A8:ordN (gD (gM A8 A8) A8).1 (gD (gM A8 A8) A8).2.1 (gD (gM A8 A8) A8).2.2 false 1 0 = -1:=by decide +kernel
theorem or_B8:ordN (gD (gM B8 B8) B8).1 (gD (gM B8 B8) B8).2.1 (gD (gM B8 B8) B8).2.2 false 1 0=1:=by decide +kernel
theorem whole2 {w:World}:Calls Tryz.prog 6 #[.int .i64 2] w fun r w'=>∃ A,r=.returned A∧DN w' A (false,1,1)∧Bw w w':=by
 have h:=gwhole (n:=2) (w:=w) (by omega)
 rw[show cn (decide ((2:Int)<0)) (2:Int).natAbs 0=(false,1,1) by decide +kernel] at h
 exact h
theorem whole1 {w:World}:Calls Tryz.prog 6 #[.int .i64 1] w fun r w'=>∃ A,r=.returned A∧DN w' A (false,1,0)∧Bw w w':=by
 have h:=gwhole (n:=1) (w:=w) (by omega)
 rw[show cn (decide ((1:Int)<0)) (1:Int).natAbs 0=(false,1,0) by decide +kernel] at h
 exact h
end Go.Proofs.YtolefllepcdagaaGreat
