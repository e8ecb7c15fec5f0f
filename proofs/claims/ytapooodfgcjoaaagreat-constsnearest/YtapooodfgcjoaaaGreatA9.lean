/- Own work: contracts of the program's functions, part 9: RE1 RE3 RE4 DL1 DE1 RW3 RW4. -/
import Derived.Test.YtapooodfgcjoaaaGreatA8
import Derived.Test.YtapooodfgcjoaaaGreatA7

set_option maxHeartbeats 16000000
set_option maxRecDepth 200000
set_option linter.unusedVariables false
set_option linter.unusedSimpArgs false
namespace Go.Proofs.YtapooodfgcjoaaaGreat
open Go.RowKit
theorem rmag_1 (na nb:Bool) (ua va:Option Addr) (un uc vn vc:Nat) (ea eb ha hb:Int) (w:World) (hn1:((un:Int)==0)=false) (hn2:((vn:Int)==0)=false)
  (hh1 : -64000000000≤ha) (hh2:ha≤64000000000) (hh3 : -64000000000≤hb) (hh4:hb≤64000000000) (hne:ha≠hb)
  (kA:∀ W,Bw w W→Calls Tryz.prog 95 #[.agg #[.bool na,.slice ua un uc,.int .i64 ea]] W fun r w'=>r=.returned (.int .i64 ha)∧Bw W w')
  (kB:∀ W,Bw w W→Calls Tryz.prog 95 #[.agg #[.bool nb,.slice va vn vc,.int .i64 eb]] W fun r w'=>r=.returned (.int .i64 hb)∧Bw W w') :
  Calls Tryz.prog 59 #[.agg #[.bool na,.slice ua un uc,.int .i64 ea],.agg #[.bool nb,.slice va vn vc,.int .i64 eb]] w fun r w'=>r=.returned (.int .i64 (ha - hb))∧Bw w w':=by
 obtain⟨W,hW⟩:∃ W,W=(w.alloc (.cells #[.bool na,.slice ua un uc,.int .i64 ea] 45)).alloc (.cells #[.bool nb,.slice va vn vc,.int .i64 eb] 45):=⟨_,rfl⟩
 obtain⟨hA,hBb,hsz,hBW⟩:=two29 _ _ hW
 have HX:Hid (Bw w W):=hBW
 have kA':∀ w4,Bw W w4→Calls Tryz.prog 95 #[.agg #[.bool na,.slice ua un uc,.int .i64 ea]] w4 fun r w'=>r=.returned (.int .i64 ha)∧Bw W w':=fun w4 h4=>(kA w4 (hBW.trans (h4.mono hBW.size))).mono fun r w' ⟨e1,o2⟩=>⟨e1,h4.trans (o2.mono h4.size)⟩
 have kB':∀ w4,Bw W w4→Calls Tryz.prog 95 #[.agg #[.bool nb,.slice va vn vc,.int .i64 eb]] w4 fun r w'=>r=.returned (.int .i64 hb)∧Bw W w':=fun w4 h4=>(kB w4 (hBW.trans (h4.mono hBW.size))).mono fun r w' ⟨e1,o2⟩=>⟨e1,h4.trans (o2.mono h4.size)⟩
 have HKA:Hid (∀ w4,Bw W w4→Calls Tryz.prog 95 #[.agg #[.bool na,.slice ua un uc,.int .i64 ea]] w4 fun r w'=>r=.returned (.int .i64 ha)∧Bw W w'):=kA'
 have HKB:Hid (∀ w4,Bw W w4→Calls Tryz.prog 95 #[.agg #[.bool nb,.slice va vn vc,.int .i64 eb]] w4 fun r w'=>r=.returned (.int .i64 hb)∧Bw W w'):=kB'
 obtain⟨⟨a0,a1,a2⟩,-⟩:=box_cells29 hA
 obtain⟨⟨b0,b1,b2⟩,-⟩:=box_cells29 hBb
 have HK:Hid (∀ w',Bw W w'→((w'.cell? ⟨w.heap.size,0,none⟩=some (.bool na)∧w'.cell? ⟨w.heap.size,1,none⟩=some (.slice ua un uc)∧w'.cell? ⟨w.heap.size,2,none⟩=some (.int .i64 ea))∧(w'.cell? ⟨w.heap.size+1,0,none⟩=some (.bool nb)∧w'.cell? ⟨w.heap.size+1,1,none⟩=some (.slice va vn vc)∧w'.cell? ⟨w.heap.size+1,2,none⟩=some (.int .i64 eb)))):=fun w' hb=>⟨(box_cells29 (box_later hA hb (by omega))).1,(box_cells29 (box_later hBb hb (by omega))).1⟩
 have HRD:Hid (∀ w',Bw W w'→Bw W w'.drew):=fun w' h=>h.trans ⟨rfl,rfl,rfl,Nat.le_refl _,fun _ _=>rfl⟩
 have hBR:Bw W W.drew:=(Below.refl _ _).drew
 have HZ:Hid (IntKind.i64.wrap (ha - hb)=ha - hb):=(by rw[IntKind.wrap_i64];omega:IntKind.i64.wrap (ha - hb)=ha - hb)
 have hne':(ha==hb)=false:=by simpa using hne
 clear kA kB hA hBb hsz hBW hne hh1 hh2 hh3 hh4
 go_enter Tryz.func59,Tryz.ntmps59
 go_upto_region 3 with fail
 rw[←hW]
 clear hW
 go_cut [24] from 25 to 29 (fun v w'=>v=.bool true∧Hid (Bw W w'))
 case first =>
  go_region_held3 (fun w'=>((w'.cell? ⟨w.heap.size,0,none⟩=some (.bool na)∧w'.cell? ⟨w.heap.size,1,none⟩=some (.slice ua un uc)∧w'.cell? ⟨w.heap.size,2,none⟩=some (.int .i64 ea))∧(w'.cell? ⟨w.heap.size+1,0,none⟩=some (.bool nb)∧w'.cell? ⟨w.heap.size+1,1,none⟩=some (.slice va vn vc)∧w'.cell? ⟨w.heap.size+1,2,none⟩=some (.int .i64 eb)))) (first|(with_reducible assumption)|exact⟨⟨a0,a1,a2⟩,b0,b1,b2⟩|(refine HK.out _ ?_;with_reducible assumption)|go_keep)
   (first|(go_at_call 95;first|(with_reducible refine(kA' _ (by first|(with_reducible assumption)|exact hBR)).mono ?_;rintro r w5 ⟨rfl,hb5⟩)|(with_reducible refine(kB' _ (by first|(with_reducible assumption)|exact hBR)).mono ?_;rintro r w6 ⟨rfl,hb6⟩)))
  all_goals go_wp2_with fail
  all_goals go_meet
  all_goals exact⟨by rw[bne,hne'];rfl,by first|exact hb6|exact hb5⟩
 case rest =>
  obtain⟨rfl,hc⟩:=hcut
  obtain⟨W2,rfl⟩:∃ W2:World,W2=wc:=⟨_,rfl⟩
  clear a0 a1 a2 b0 b1 b2 kA' kB' hBR
  obtain⟨⟨a0,a1,a2⟩,b0,b1,b2⟩:=HK.out W2 hc.out
  have hBR:Bw W W2.drew:=HRD.out _ hc.out
  have kA':=HKA.out
  have kB':=HKB.out
  go_upto_region 4 with fail
  go_region_held3 (fun w'=>((w'.cell? ⟨w.heap.size,0,none⟩=some (.bool na)∧w'.cell? ⟨w.heap.size,1,none⟩=some (.slice ua un uc)∧w'.cell? ⟨w.heap.size,2,none⟩=some (.int .i64 ea))∧(w'.cell? ⟨w.heap.size+1,0,none⟩=some (.bool nb)∧w'.cell? ⟨w.heap.size+1,1,none⟩=some (.slice va vn vc)∧w'.cell? ⟨w.heap.size+1,2,none⟩=some (.int .i64 eb)))) (first|(with_reducible assumption)|exact⟨⟨a0,a1,a2⟩,b0,b1,b2⟩|(refine HK.out _ ?_;with_reducible assumption)|go_keep)
   (first|(go_at_call 95;first|(with_reducible refine(kA' _ (by first|(with_reducible assumption)|exact hBR)).mono ?_;rintro r w5 ⟨rfl,hb5⟩)|(with_reducible refine(kB' _ (by first|(with_reducible assumption)|exact hBR)).mono ?_;rintro r w6 ⟨rfl,hb6⟩)))
  all_goals (have HL5:Hid (Bw W w5):=hb5;have HL6:Hid (Bw W w6):=hb6;clear kA' kB' HK HKA HKB a0 a1 a2 b0 b1 b2 hBR hb5 hb6;go_wp2;go_ret;first|exact⟨by rw[HZ.out];rfl,HX.out.trans (HL6.out.mono HX.out.size)⟩|exact⟨by rw[HZ.out];rfl,HX.out.trans (HL5.out.mono HX.out.size)⟩)
theorem rmag_2 (na nb:Bool) (ua va:Option Addr) (un uc vn vc X Y:Nat) (ea eb ha:Int) (w:World) (hn1:((un:Int)==0)=false) (hn2:((vn:Int)==0)=false) (hX:dlen X≤1000000) (hY:dlen Y≤1000000)
  (he1 : -4000000≤ea) (he2:ea≤4000000) (he3 : -4000000≤eb) (he4:eb≤4000000)
  (kA:∀ W,Bw w W→Calls Tryz.prog 95 #[.agg #[.bool na,.slice ua un uc,.int .i64 ea]] W fun r w'=>r=.returned (.int .i64 ha)∧Bw W w')
  (kB:∀ W,Bw w W→Calls Tryz.prog 95 #[.agg #[.bool nb,.slice va vn vc,.int .i64 eb]] W fun r w'=>r=.returned (.int .i64 ha)∧Bw W w')
  (ku:∀ W i,Bw w W→i=ea - min ea eb→Calls Tryz.prog 82 #[.slice ua un uc,.int .i64 i] W fun r w'=>∃ v,r=.returned v∧Ir w' v X∧Bw W w')
  (kv:∀ W i,Bw w W→i=eb - min ea eb→Calls Tryz.prog 82 #[.slice va vn vc,.int .i64 i] W fun r w'=>∃ v,r=.returned v∧Ir w' v Y∧Bw W w') :
  Calls Tryz.prog 59 #[.agg #[.bool na,.slice ua un uc,.int .i64 ea],.agg #[.bool nb,.slice va vn vc,.int .i64 eb]] w fun r w'=>r=.returned (.int .i64 (cmpI X Y))∧Bw w w':=by
 obtain⟨W,hW⟩:∃ W,W=(w.alloc (.cells #[.bool na,.slice ua un uc,.int .i64 ea] 45)).alloc (.cells #[.bool nb,.slice va vn vc,.int .i64 eb] 45):=⟨_,rfl⟩
 obtain⟨hA,hBb,hsz,hBW⟩:=two29 _ _ hW
 have HX:Hid (Bw w W):=hBW
 have kA':∀ w4,Bw W w4→Calls Tryz.prog 95 #[.agg #[.bool na,.slice ua un uc,.int .i64 ea]] w4 fun r w'=>r=.returned (.int .i64 ha)∧Bw W w':=fun w4 h4=>(kA w4 (hBW.trans (h4.mono hBW.size))).mono fun r w' ⟨e1,o2⟩=>⟨e1,h4.trans (o2.mono h4.size)⟩
 have kB':∀ w4,Bw W w4→Calls Tryz.prog 95 #[.agg #[.bool nb,.slice va vn vc,.int .i64 eb]] w4 fun r w'=>r=.returned (.int .i64 ha)∧Bw W w':=fun w4 h4=>(kB w4 (hBW.trans (h4.mono hBW.size))).mono fun r w' ⟨e1,o2⟩=>⟨e1,h4.trans (o2.mono h4.size)⟩
 obtain⟨i1,hi1⟩:∃ i1,i1=ea - min ea eb:=⟨_,rfl⟩
 obtain⟨i2,hi2⟩:∃ i2,i2=eb - min ea eb:=⟨_,rfl⟩
 have HKU:Hid (∀ w4,Bw W w4→Calls Tryz.prog 82 #[.slice ua un uc,.int .i64 i1] w4 fun r w'=>∃ v,r=.returned v∧Ir w' v X∧Bw W w'∧Bw w4 w'):=(fun w4 h4=>(ku w4 i1 (hBW.trans (h4.mono hBW.size)) hi1).mono fun r w' ⟨v,e1,o1,o2⟩=>⟨v,e1,o1,h4.trans (o2.mono h4.size),o2⟩:∀ w4,Bw W w4→Calls Tryz.prog 82 #[.slice ua un uc,.int .i64 i1] w4 fun r w'=>∃ v,r=.returned v∧Ir w' v X∧Bw W w'∧Bw w4 w')
 have HKV:Hid (∀ w4,Bw W w4→Calls Tryz.prog 82 #[.slice va vn vc,.int .i64 i2] w4 fun r w'=>∃ v,r=.returned v∧Ir w' v Y∧Bw W w'∧Bw w4 w'):=(fun w4 h4=>(kv w4 i2 (hBW.trans (h4.mono hBW.size)) hi2).mono fun r w' ⟨v,e1,o1,o2⟩=>⟨v,e1,o1,h4.trans (o2.mono h4.size),o2⟩:∀ w4,Bw W w4→Calls Tryz.prog 82 #[.slice va vn vc,.int .i64 i2] w4 fun r w'=>∃ v,r=.returned v∧Ir w' v Y∧Bw W w'∧Bw w4 w')
 have kO:∀ w4 p q,Ir w4 p X→Ir w4 q Y→Bw W w4→Calls Tryz.prog 100 #[p,q] w4 fun r w'=>r=.returned (.int .i64 (cmpI X Y))∧Bw W w':=fun w4 p q hp hq h4=>(rord hp hq (by omega) (by omega)).mono fun r w' ⟨e1,d,e2⟩=>⟨e1,by rw[e2];exact h4.trans ⟨rfl,rfl,rfl,Nat.le_refl _,fun _ _=>rfl⟩⟩
 have HKO:Hid _:=kO
 obtain⟨⟨a0,a1,a2⟩,-⟩:=box_cells29 hA
 obtain⟨⟨b0,b1,b2⟩,-⟩:=box_cells29 hBb
 have HK:Hid (∀ w',Bw W w'→((w'.cell? ⟨w.heap.size,0,none⟩=some (.bool na)∧w'.cell? ⟨w.heap.size,1,none⟩=some (.slice ua un uc)∧w'.cell? ⟨w.heap.size,2,none⟩=some (.int .i64 ea))∧(w'.cell? ⟨w.heap.size+1,0,none⟩=some (.bool nb)∧w'.cell? ⟨w.heap.size+1,1,none⟩=some (.slice va vn vc)∧w'.cell? ⟨w.heap.size+1,2,none⟩=some (.int .i64 eb)))):=fun w' hb=>⟨(box_cells29 (box_later hA hb (by omega))).1,(box_cells29 (box_later hBb hb (by omega))).1⟩
 have HRD:Hid (∀ w',Bw W w'→Bw W w'.drew):=fun w' h=>h.trans ⟨rfl,rfl,rfl,Nat.le_refl _,fun _ _=>rfl⟩
 have hBR:Bw W W.drew:=(Below.refl _ _).drew
 have HI:Hid (∀ i,(i=ea - min ea eb∨i=IntKind.i64.wrap (ea - min ea eb))→i=i1):=(fun i h=>by rw[IntKind.wrap_i64] at h;omega:∀ i,(i=ea - min ea eb∨i=IntKind.i64.wrap (ea - min ea eb))→i=i1)
 have HJ:Hid (∀ i,(i=eb - min ea eb∨i=IntKind.i64.wrap (eb - min ea eb))→i=i2):=(fun i h=>by rw[IntKind.wrap_i64] at h;omega:∀ i,(i=eb - min ea eb∨i=IntKind.i64.wrap (eb - min ea eb))→i=i2)
 obtain⟨c,hc⟩:∃ c,c=cmpI X Y:=⟨_,rfl⟩
 rw[←hc] at HKO ⊢
 clear kA kB ku kv kO hA hBb hsz hBW hX hY hi1 hi2 hc
 go_enter Tryz.func59,Tryz.ntmps59
 go_upto_region 3 with fail
 rw[←hW]
 clear hW
 go_cut [24] from 25 to 29 (fun v w'=>v=.bool false∧Hid (Bw W w'))
 case first =>
  go_region_held3 (fun w'=>((w'.cell? ⟨w.heap.size,0,none⟩=some (.bool na)∧w'.cell? ⟨w.heap.size,1,none⟩=some (.slice ua un uc)∧w'.cell? ⟨w.heap.size,2,none⟩=some (.int .i64 ea))∧(w'.cell? ⟨w.heap.size+1,0,none⟩=some (.bool nb)∧w'.cell? ⟨w.heap.size+1,1,none⟩=some (.slice va vn vc)∧w'.cell? ⟨w.heap.size+1,2,none⟩=some (.int .i64 eb)))) (first|(with_reducible assumption)|exact⟨⟨a0,a1,a2⟩,b0,b1,b2⟩|(refine HK.out _ ?_;with_reducible assumption)|go_keep)
   (first|(go_at_call 95;first|(with_reducible refine(kA' _ (by first|(with_reducible assumption)|exact hBR)).mono ?_;rintro r w5 ⟨rfl,hb5⟩)|(with_reducible refine(kB' _ (by first|(with_reducible assumption)|exact hBR)).mono ?_;rintro r w6 ⟨rfl,hb6⟩)))
  all_goals go_wp2_with fail
  all_goals go_meet
  all_goals exact⟨by first|rfl|simp,by first|exact hb6|exact hb5⟩
 case rest =>
  obtain⟨rfl,hc⟩:=hcut
  obtain⟨W2,rfl⟩:∃ W2:World,W2=wc:=⟨_,rfl⟩
  clear a0 a1 a2 b0 b1 b2 kA' kB' hBR
  obtain⟨⟨a0,a1,a2⟩,b0,b1,b2⟩:=HK.out W2 hc.out
  have hBR:Bw W W2.drew:=HRD.out _ hc.out
  have kU:∀ i w4,(i=ea - min ea eb∨i=IntKind.i64.wrap (ea - min ea eb))→Bw W w4→Calls Tryz.prog 82 #[.slice ua un uc,.int .i64 i] w4 fun r w'=>∃ v,r=.returned v∧Ir w' v X∧Bw W w'∧Bw w4 w':=fun i w4 hi=>by rw[HI.out i hi];exact HKU.out w4
  have kV:∀ i w4,(i=eb - min ea eb∨i=IntKind.i64.wrap (eb - min ea eb))→Bw W w4→Calls Tryz.prog 82 #[.slice va vn vc,.int .i64 i] w4 fun r w'=>∃ v,r=.returned v∧Ir w' v Y∧Bw W w'∧Bw w4 w':=fun i w4 hi=>by rw[HJ.out i hi];exact HKV.out w4
  have kO:=HKO.out
  go_upto_region 6 with fail
  go_region_held3 (fun w'=>((w'.cell? ⟨w.heap.size,0,none⟩=some (.bool na)∧w'.cell? ⟨w.heap.size,1,none⟩=some (.slice ua un uc)∧w'.cell? ⟨w.heap.size,2,none⟩=some (.int .i64 ea))∧(w'.cell? ⟨w.heap.size+1,0,none⟩=some (.bool nb)∧w'.cell? ⟨w.heap.size+1,1,none⟩=some (.slice va vn vc)∧w'.cell? ⟨w.heap.size+1,2,none⟩=some (.int .i64 eb)))) (first|(with_reducible assumption)|exact⟨⟨a0,a1,a2⟩,b0,b1,b2⟩|(refine HK.out _ ?_;with_reducible assumption)|go_keep)
   (first|(go_at_call 82;first|(with_reducible refine(kU _ _ (by first|exact .inl rfl|exact .inr rfl) (by first|(with_reducible assumption)|exact hBR)).mono ?_;rintro r w5 ⟨p5,rfl,hp5,hb5,hc5⟩)|(with_reducible refine(kV _ _ (by first|exact .inl rfl|exact .inr rfl) (by first|(with_reducible assumption)|exact hBR)).mono ?_;rintro r w6 ⟨p6,rfl,hp6,hb6,hc6⟩))|(go_at_call 100;first|(with_reducible refine(kO _ _ _ (hp5.later hc6) hp6 hb6).mono ?_;rintro r w7 ⟨rfl,hb7⟩)|(with_reducible refine(kO _ _ _ hp5 (hp6.later hc5) hb5).mono ?_;rintro r w7 ⟨rfl,hb7⟩)))
  all_goals (have HL7:Hid (Bw W w7):=hb7;clear kU kV kO HK HKU HKV HKO a0 a1 a2 b0 b1 b2 hBR hb5 hb6 hb7 hp5 hp6 hc5 hc6;go_wp2;go_ret;exact⟨rfl,HX.out.trans (HL7.out.mono HX.out.size)⟩)
theorem rmag_0 (na nb:Bool) (ua va:Option Addr) (un uc vn vc:Nat) (ea eb:Int) (w:World) (h0:un=0∨vn=0) (hn1:un≤35184372088832) (hn2:vn≤35184372088832) :
  Calls Tryz.prog 59 #[.agg #[.bool na,.slice ua un uc,.int .i64 ea],.agg #[.bool nb,.slice va vn vc,.int .i64 eb]] w fun r w'=>r=.returned (.int .i64 ((un:Int) - vn))∧Bw w w':=by
 obtain⟨W,hW⟩:∃ W,W=(w.alloc (.cells #[.bool na,.slice ua un uc,.int .i64 ea] 45)).alloc (.cells #[.bool nb,.slice va vn vc,.int .i64 eb] 45):=⟨_,rfl⟩
 obtain⟨hA,hBb,hsz,hBW⟩:=two29 _ _ hW
 have HX:Hid (Bw w W):=hBW
 obtain⟨⟨a0,a1,a2⟩,-⟩:=box_cells29 hA
 obtain⟨⟨b0,b1,b2⟩,-⟩:=box_cells29 hBb
 rw[hW] at a0 a1 a2 b0 b1 b2
 have hw:IntKind.i64.wrap ((un:Int) - vn)=(un:Int) - vn:=by rw[IntKind.wrap_i64];omega
 have HD:Hid ((un:Int) - vn=(un:Int) - vn):=rfl
 clear hA hBb hsz hBW
 by_cases hu:un=0
 ·subst hu
  clear h0
  go_enter Tryz.func59,Tryz.ntmps59
  go_wp2
  go_ret
  exact⟨by simp,hW ▸ HX.out⟩
 ·obtain rfl:vn=0:=by omega
  have hu1:((un:Int)==0)=false:=by simp;omega
  clear h0 hu
  go_enter Tryz.func59,Tryz.ntmps59
  go_wp2
  go_ret
  exact⟨by simp,hW ▸ HX.out⟩
def magI (x:Nat) (ea:Int) (y:Nat) (eb:Int):Int:=if x=0∨y=0 then(dlen x:Int) - dlen y else if(bl x:Int)+ea=bl y+eb then cmpI (x*2^(ea - min ea eb).toNat:Nat) (y*2^(eb - min ea eb).toNat:Nat) else(bl x:Int)+ea - (bl y+eb)
theorem rmag {na nb:Bool} {ua va:Option Addr} {uc vc x y:Nat} {ea eb:Int} {w:World} (h1:Arg w ua (dlen x) uc x) (h2:Arg w va (dlen y) vc y) (hx:dlen x≤400000) (hy:dlen y≤400000) (ha : -2000000≤ea∧ea≤2000000) (hb : -2000000≤eb∧eb≤2000000) :
  Calls Tryz.prog 59 #[.agg #[.bool na,.slice ua (dlen x) uc,.int .i64 ea],.agg #[.bool nb,.slice va (dlen y) vc,.int .i64 eb]] w fun r w'=>r=.returned (.int .i64 (magI x ea y eb))∧Bw w w':=by
 unfold magI
 by_cases h0:x=0∨y=0
 ·rw[if_pos h0]
  exact rmag_0 na nb ua va _ uc _ vc ea eb w (h0.imp (fun h=>by rw[h,dlen_zero]) (fun h=>by rw[h,dlen_zero])) (by omega) (by omega)
 ·rw[if_neg h0]
  have hx0:x≠0:=fun e=>h0 (.inl e)
  have hy0:y≠0:=fun e=>h0 (.inr e)
  have b1:=bl_le_dlen x
  have b2:=bl_le_dlen y
  have kA:∀ W,Bw w W→Calls Tryz.prog 95 #[.agg #[.bool na,.slice ua (dlen x) uc,.int .i64 ea]] W fun r w'=>r=.returned (.int .i64 (bl x+ea))∧Bw W w':=fun W hW=>rhigh (h1.later hW).at_ hx0 (by omega) (by omega)
  have kB:∀ W,Bw w W→Calls Tryz.prog 95 #[.agg #[.bool nb,.slice va (dlen y) vc,.int .i64 eb]] W fun r w'=>r=.returned (.int .i64 (bl y+eb))∧Bw W w':=fun W hW=>rhigh (h2.later hW).at_ hy0 (by omega) (by omega)
  by_cases ht:(bl x:Int)+ea=bl y+eb
  ·rw[if_pos ht]
   rw[←ht] at kB
   have l1:dlen (x*2^(ea - min ea eb).toNat)≤760000:=by have:=shl_len (x:=x) (k:=(ea - min ea eb).toNat) rfl;omega
   have l2:dlen (y*2^(eb - min ea eb).toNat)≤760000:=by have:=shl_len (x:=y) (k:=(eb - min ea eb).toNat) rfl;omega
   refine rmag_2 na nb ua va _ uc _ vc _ _ ea eb _ w (len_ne (n:=0) hx0) (len_ne (n:=0) hy0) (by omega) (by omega) (by omega) (by omega) (by omega) (by omega) kA kB (fun W i hW hi=>?_) (fun W i hW hi=>?_)
   ·have hik:i=(((ea - min ea eb).toNat:Nat):Int):=by omega
    rw[hik]
    exact rup ⟨ua,uc,rfl,h1.le,(h1.later hW).at_⟩ _ (by omega) (by omega)
   ·have hik:i=(((eb - min ea eb).toNat:Nat):Int):=by omega
    rw[hik]
    exact rup ⟨va,vc,rfl,h2.le,(h2.later hW).at_⟩ _ (by omega) (by omega)
  ·rw[if_neg ht]
   exact rmag_1 na nb ua va _ uc _ vc ea eb _ _ w (len_ne (n:=0) hx0) (len_ne (n:=0) hy0) (by omega) (by omega) (by omega) (by omega) ht kA kB
theorem rorder_lt (na nb:Bool) (ua va:Option Addr) (un uc vn vc:Nat) (ea eb sa sb c:Int) (w:World) (hs:sa<sb)
  (kA:∀ W,Bw w W→Calls Tryz.prog 58 #[.agg #[.bool na,.slice ua un uc,.int .i64 ea]] W fun r w'=>r=.returned (.int .i64 sa)∧Bw W w')
  (kB:∀ W,Bw w W→Calls Tryz.prog 58 #[.agg #[.bool nb,.slice va vn vc,.int .i64 eb]] W fun r w'=>r=.returned (.int .i64 sb)∧Bw W w') :
  Calls Tryz.prog 19 #[.agg #[.bool na,.slice ua un uc,.int .i64 ea],.agg #[.bool nb,.slice va vn vc,.int .i64 eb]] w fun r w'=>r=.returned (.int .i64 (-1))∧Bw w w':=by
 obtain⟨W,hW⟩:∃ W,W=(w.alloc (.cells #[.bool na,.slice ua un uc,.int .i64 ea] 45)).alloc (.cells #[.bool nb,.slice va vn vc,.int .i64 eb] 45):=⟨_,rfl⟩
 obtain⟨hA,hBb,hsz,hBW⟩:=two29 _ _ hW
 have HX:Hid (Bw w W):=hBW
 have kA':∀ w4,Bw W w4→Calls Tryz.prog 58 #[.agg #[.bool na,.slice ua un uc,.int .i64 ea]] w4 fun r w'=>r=.returned (.int .i64 sa)∧Bw W w':=fun w4 h4=>(kA w4 (hBW.trans (h4.mono hBW.size))).mono fun r w' ⟨e1,o2⟩=>⟨e1,h4.trans (o2.mono h4.size)⟩
 have kB':∀ w4,Bw W w4→Calls Tryz.prog 58 #[.agg #[.bool nb,.slice va vn vc,.int .i64 eb]] w4 fun r w'=>r=.returned (.int .i64 sb)∧Bw W w':=fun w4 h4=>(kB w4 (hBW.trans (h4.mono hBW.size))).mono fun r w' ⟨e1,o2⟩=>⟨e1,h4.trans (o2.mono h4.size)⟩
 obtain⟨⟨a0,a1,a2⟩,-⟩:=box_cells29 hA
 obtain⟨⟨b0,b1,b2⟩,-⟩:=box_cells29 hBb
 have HK:Hid (∀ w',Bw W w'→((w'.cell? ⟨w.heap.size,0,none⟩=some (.bool na)∧w'.cell? ⟨w.heap.size,1,none⟩=some (.slice ua un uc)∧w'.cell? ⟨w.heap.size,2,none⟩=some (.int .i64 ea))∧(w'.cell? ⟨w.heap.size+1,0,none⟩=some (.bool nb)∧w'.cell? ⟨w.heap.size+1,1,none⟩=some (.slice va vn vc)∧w'.cell? ⟨w.heap.size+1,2,none⟩=some (.int .i64 eb)))):=fun w' hb=>⟨(box_cells29 (box_later hA hb (by omega))).1,(box_cells29 (box_later hBb hb (by omega))).1⟩
 have HRD:Hid (∀ w',Bw W w'→Bw W w'.drew):=fun w' h=>h.trans ⟨rfl,rfl,rfl,Nat.le_refl _,fun _ _=>rfl⟩
 have hBR:Bw W W.drew:=(Below.refl _ _).drew
 have hne:(sa==sb)=false:=by simp;omega
 have hne2:(sa != sb)=true:=by simp;omega
 clear kA kB hA hBb hsz hBW 
 go_enter Tryz.func19,Tryz.ntmps19
 go_upto_region 1 with fail
 rw[←hW]
 clear hW
 go_cut [5,6] from 8 to 11 (fun u v w'=>u=.int .i64 sa∧v=.int .i64 sb∧Hid (Bw W w'))
 case first =>
  go_region_held3 (fun w'=>((w'.cell? ⟨w.heap.size,0,none⟩=some (.bool na)∧w'.cell? ⟨w.heap.size,1,none⟩=some (.slice ua un uc)∧w'.cell? ⟨w.heap.size,2,none⟩=some (.int .i64 ea))∧(w'.cell? ⟨w.heap.size+1,0,none⟩=some (.bool nb)∧w'.cell? ⟨w.heap.size+1,1,none⟩=some (.slice va vn vc)∧w'.cell? ⟨w.heap.size+1,2,none⟩=some (.int .i64 eb)))) (first|(with_reducible assumption)|exact⟨⟨a0,a1,a2⟩,b0,b1,b2⟩|(refine HK.out _ ?_;with_reducible assumption)|go_keep)
   (first|(go_at_call 58;first|(with_reducible refine(kA' _ (by first|(with_reducible assumption)|exact hBR)).mono ?_;rintro r w5 ⟨rfl,hb5⟩)|(with_reducible refine(kB' _ (by first|(with_reducible assumption)|exact hBR)).mono ?_;rintro r w6 ⟨rfl,hb6⟩)))
  all_goals go_wp2_with fail
  all_goals go_meet
  all_goals exact⟨rfl,rfl,by first|exact hb6|exact hb5⟩
 case rest =>
  obtain⟨rfl,rfl,hc⟩:=hcut
  obtain⟨W2,rfl⟩:∃ W2:World,W2=wc:=⟨_,rfl⟩
  clear a0 a1 a2 b0 b1 b2 kA' kB' hBR
  go_wp2
  go_ret;exact⟨rfl,HX.out.trans (hc.out.mono HX.out.size)⟩
theorem rorder_gt (na nb:Bool) (ua va:Option Addr) (un uc vn vc:Nat) (ea eb sa sb c:Int) (w:World) (hs:¬ sa<sb) (hn:sa≠sb)
  (kA:∀ W,Bw w W→Calls Tryz.prog 58 #[.agg #[.bool na,.slice ua un uc,.int .i64 ea]] W fun r w'=>r=.returned (.int .i64 sa)∧Bw W w')
  (kB:∀ W,Bw w W→Calls Tryz.prog 58 #[.agg #[.bool nb,.slice va vn vc,.int .i64 eb]] W fun r w'=>r=.returned (.int .i64 sb)∧Bw W w') :
  Calls Tryz.prog 19 #[.agg #[.bool na,.slice ua un uc,.int .i64 ea],.agg #[.bool nb,.slice va vn vc,.int .i64 eb]] w fun r w'=>r=.returned (.int .i64 (1))∧Bw w w':=by
 obtain⟨W,hW⟩:∃ W,W=(w.alloc (.cells #[.bool na,.slice ua un uc,.int .i64 ea] 45)).alloc (.cells #[.bool nb,.slice va vn vc,.int .i64 eb] 45):=⟨_,rfl⟩
 obtain⟨hA,hBb,hsz,hBW⟩:=two29 _ _ hW
 have HX:Hid (Bw w W):=hBW
 have kA':∀ w4,Bw W w4→Calls Tryz.prog 58 #[.agg #[.bool na,.slice ua un uc,.int .i64 ea]] w4 fun r w'=>r=.returned (.int .i64 sa)∧Bw W w':=fun w4 h4=>(kA w4 (hBW.trans (h4.mono hBW.size))).mono fun r w' ⟨e1,o2⟩=>⟨e1,h4.trans (o2.mono h4.size)⟩
 have kB':∀ w4,Bw W w4→Calls Tryz.prog 58 #[.agg #[.bool nb,.slice va vn vc,.int .i64 eb]] w4 fun r w'=>r=.returned (.int .i64 sb)∧Bw W w':=fun w4 h4=>(kB w4 (hBW.trans (h4.mono hBW.size))).mono fun r w' ⟨e1,o2⟩=>⟨e1,h4.trans (o2.mono h4.size)⟩
 obtain⟨⟨a0,a1,a2⟩,-⟩:=box_cells29 hA
 obtain⟨⟨b0,b1,b2⟩,-⟩:=box_cells29 hBb
 have HK:Hid (∀ w',Bw W w'→((w'.cell? ⟨w.heap.size,0,none⟩=some (.bool na)∧w'.cell? ⟨w.heap.size,1,none⟩=some (.slice ua un uc)∧w'.cell? ⟨w.heap.size,2,none⟩=some (.int .i64 ea))∧(w'.cell? ⟨w.heap.size+1,0,none⟩=some (.bool nb)∧w'.cell? ⟨w.heap.size+1,1,none⟩=some (.slice va vn vc)∧w'.cell? ⟨w.heap.size+1,2,none⟩=some (.int .i64 eb)))):=fun w' hb=>⟨(box_cells29 (box_later hA hb (by omega))).1,(box_cells29 (box_later hBb hb (by omega))).1⟩
 have HRD:Hid (∀ w',Bw W w'→Bw W w'.drew):=fun w' h=>h.trans ⟨rfl,rfl,rfl,Nat.le_refl _,fun _ _=>rfl⟩
 have hBR:Bw W W.drew:=(Below.refl _ _).drew
 have hne:(sa==sb)=false:=by simp;omega
 have hne2:(sa != sb)=true:=by simp;omega
 clear kA kB hA hBb hsz hBW hn
 go_enter Tryz.func19,Tryz.ntmps19
 go_upto_region 1 with fail
 rw[←hW]
 clear hW
 go_cut [5,6] from 8 to 11 (fun u v w'=>u=.int .i64 sa∧v=.int .i64 sb∧Hid (Bw W w'))
 case first =>
  go_region_held3 (fun w'=>((w'.cell? ⟨w.heap.size,0,none⟩=some (.bool na)∧w'.cell? ⟨w.heap.size,1,none⟩=some (.slice ua un uc)∧w'.cell? ⟨w.heap.size,2,none⟩=some (.int .i64 ea))∧(w'.cell? ⟨w.heap.size+1,0,none⟩=some (.bool nb)∧w'.cell? ⟨w.heap.size+1,1,none⟩=some (.slice va vn vc)∧w'.cell? ⟨w.heap.size+1,2,none⟩=some (.int .i64 eb)))) (first|(with_reducible assumption)|exact⟨⟨a0,a1,a2⟩,b0,b1,b2⟩|(refine HK.out _ ?_;with_reducible assumption)|go_keep)
   (first|(go_at_call 58;first|(with_reducible refine(kA' _ (by first|(with_reducible assumption)|exact hBR)).mono ?_;rintro r w5 ⟨rfl,hb5⟩)|(with_reducible refine(kB' _ (by first|(with_reducible assumption)|exact hBR)).mono ?_;rintro r w6 ⟨rfl,hb6⟩)))
  all_goals go_wp2_with fail
  all_goals go_meet
  all_goals exact⟨rfl,rfl,by first|exact hb6|exact hb5⟩
 case rest =>
  obtain⟨rfl,rfl,hc⟩:=hcut
  obtain⟨W2,rfl⟩:∃ W2:World,W2=wc:=⟨_,rfl⟩
  clear a0 a1 a2 b0 b1 b2 kA' kB' hBR
  go_wp2
  go_ret;exact⟨rfl,HX.out.trans (hc.out.mono HX.out.size)⟩
theorem rorder_all (na nb:Bool) (ua va:Option Addr) (un uc vn vc:Nat) (ea eb sa sb c R:Int) (w:World) (hse0:sa=sb) (hcase:Hid ((0≤sa∧(c=0∧R=0∨0<c∧R=1∨c<0∧R = -1))∨(sa<0∧(c=0∧R=0∨0<c∧R = -1∨c<0∧R=1)))) (hc3 : -90000000000≤c) (hc4:c≤90000000000)
  (kA:∀ W,Bw w W→Calls Tryz.prog 58 #[.agg #[.bool na,.slice ua un uc,.int .i64 ea]] W fun r w'=>r=.returned (.int .i64 sa)∧Bw W w')
  (kB:∀ W,Bw w W→Calls Tryz.prog 58 #[.agg #[.bool nb,.slice va vn vc,.int .i64 eb]] W fun r w'=>r=.returned (.int .i64 sb)∧Bw W w')
  (kM:∀ W,Bw w W→Calls Tryz.prog 59 #[.agg #[.bool na,.slice ua un uc,.int .i64 ea],.agg #[.bool nb,.slice va vn vc,.int .i64 eb]] W fun r w'=>r=.returned (.int .i64 c)∧Bw W w') :
  Calls Tryz.prog 19 #[.agg #[.bool na,.slice ua un uc,.int .i64 ea],.agg #[.bool nb,.slice va vn vc,.int .i64 eb]] w fun r w'=>r=.returned (.int .i64 R)∧Bw w w':=by
 obtain⟨W,hW⟩:∃ W,W=(w.alloc (.cells #[.bool na,.slice ua un uc,.int .i64 ea] 45)).alloc (.cells #[.bool nb,.slice va vn vc,.int .i64 eb] 45):=⟨_,rfl⟩
 obtain⟨hA,hBb,hsz,hBW⟩:=two29 _ _ hW
 have HX:Hid (Bw w W):=hBW
 have kA':∀ w4,Bw W w4→Calls Tryz.prog 58 #[.agg #[.bool na,.slice ua un uc,.int .i64 ea]] w4 fun r w'=>r=.returned (.int .i64 sa)∧Bw W w':=fun w4 h4=>(kA w4 (hBW.trans (h4.mono hBW.size))).mono fun r w' ⟨e1,o2⟩=>⟨e1,h4.trans (o2.mono h4.size)⟩
 have kB':∀ w4,Bw W w4→Calls Tryz.prog 58 #[.agg #[.bool nb,.slice va vn vc,.int .i64 eb]] w4 fun r w'=>r=.returned (.int .i64 sb)∧Bw W w':=fun w4 h4=>(kB w4 (hBW.trans (h4.mono hBW.size))).mono fun r w' ⟨e1,o2⟩=>⟨e1,h4.trans (o2.mono h4.size)⟩
 have kM':∀ w4,Bw W w4→Calls Tryz.prog 59 #[.agg #[.bool na,.slice ua un uc,.int .i64 ea],.agg #[.bool nb,.slice va vn vc,.int .i64 eb]] w4 fun r w'=>r=.returned (.int .i64 c)∧Bw W w':=fun w4 h4=>(kM w4 (hBW.trans (h4.mono hBW.size))).mono fun r w' ⟨e1,o2⟩=>⟨e1,h4.trans (o2.mono h4.size)⟩
 have HKM:Hid (∀ w4,Bw W w4→Calls Tryz.prog 59 #[.agg #[.bool na,.slice ua un uc,.int .i64 ea],.agg #[.bool nb,.slice va vn vc,.int .i64 eb]] w4 fun r w'=>r=.returned (.int .i64 c)∧Bw W w'):=kM'
 obtain⟨⟨a0,a1,a2⟩,-⟩:=box_cells29 hA
 obtain⟨⟨b0,b1,b2⟩,-⟩:=box_cells29 hBb
 have HK:Hid (∀ w',Bw W w'→((w'.cell? ⟨w.heap.size,0,none⟩=some (.bool na)∧w'.cell? ⟨w.heap.size,1,none⟩=some (.slice ua un uc)∧w'.cell? ⟨w.heap.size,2,none⟩=some (.int .i64 ea))∧(w'.cell? ⟨w.heap.size+1,0,none⟩=some (.bool nb)∧w'.cell? ⟨w.heap.size+1,1,none⟩=some (.slice va vn vc)∧w'.cell? ⟨w.heap.size+1,2,none⟩=some (.int .i64 eb)))):=fun w' hb=>⟨(box_cells29 (box_later hA hb (by omega))).1,(box_cells29 (box_later hBb hb (by omega))).1⟩
 have HRD:Hid (∀ w',Bw W w'→Bw W w'.drew):=fun w' h=>h.trans ⟨rfl,rfl,rfl,Nat.le_refl _,fun _ _=>rfl⟩
 have hBR:Bw W W.drew:=(Below.refl _ _).drew
 have hse:(sa==sb)=true:=by simp;omega
 have hse2:(sa != sb)=false:=by simp;omega
 have HC:Hid (-90000000000≤c∧c≤90000000000):=⟨hc3,hc4⟩
 clear kA kB kM kM' hA hBb hsz hBW hc3 hc4 hse0
 go_enter Tryz.func19,Tryz.ntmps19
 go_upto_region 1 with fail
 rw[←hW]
 clear hW
 go_cut [5,6] from 8 to 11 (fun u v w'=>u=.int .i64 sa∧v=.int .i64 sb∧Hid (Bw W w'))
 case first =>
  go_region_held3 (fun w'=>((w'.cell? ⟨w.heap.size,0,none⟩=some (.bool na)∧w'.cell? ⟨w.heap.size,1,none⟩=some (.slice ua un uc)∧w'.cell? ⟨w.heap.size,2,none⟩=some (.int .i64 ea))∧(w'.cell? ⟨w.heap.size+1,0,none⟩=some (.bool nb)∧w'.cell? ⟨w.heap.size+1,1,none⟩=some (.slice va vn vc)∧w'.cell? ⟨w.heap.size+1,2,none⟩=some (.int .i64 eb)))) (first|(with_reducible assumption)|exact⟨⟨a0,a1,a2⟩,b0,b1,b2⟩|(refine HK.out _ ?_;with_reducible assumption)|go_keep)
   (first|(go_at_call 58;first|(with_reducible refine(kA' _ (by first|(with_reducible assumption)|exact hBR)).mono ?_;rintro r w5 ⟨rfl,hb5⟩)|(with_reducible refine(kB' _ (by first|(with_reducible assumption)|exact hBR)).mono ?_;rintro r w6 ⟨rfl,hb6⟩)))
  all_goals go_wp2_with fail
  all_goals go_meet
  all_goals exact⟨rfl,rfl,by first|exact hb6|exact hb5⟩
 case rest =>
  obtain⟨rfl,rfl,hc⟩:=hcut
  obtain⟨W2,rfl⟩:∃ W2:World,W2=wc:=⟨_,rfl⟩
  clear a0 a1 a2 b0 b1 b2 kA' kB' hBR
  have kM':=HKM.out W2 hc.out
  obtain⟨⟨a0,a1,a2⟩,b0,b1,b2⟩:=HK.out W2 hc.out
  go_wp2_with fail
  refine kM'.mono ?_
  rintro r w7 ⟨rfl,hb7⟩
  have HL7:Hid (Bw W w7):=hb7
  clear kM' HK HKM a0 a1 a2 b0 b1 b2 hb7
  rcases hcase.out with ⟨hs,h⟩|⟨hs,h⟩
  ·have hs1:¬ sa<0:=by omega
   rcases h with ⟨h,rfl⟩|⟨h,rfl⟩|⟨h,rfl⟩
   ·have hc1:¬ c<0:=by omega
    have hc2:¬ 0<c:=by omega
    clear h
    go_wp2
    go_ret
    exact⟨rfl,HX.out.trans (HL7.out.mono HX.out.size)⟩
   ·have hc1:¬ c<0:=by omega
    go_wp2
    go_ret
    exact⟨rfl,HX.out.trans (HL7.out.mono HX.out.size)⟩
   ·go_wp2
    go_ret
    exact⟨rfl,HX.out.trans (HL7.out.mono HX.out.size)⟩
  ·have hcb:=HC.out
   obtain⟨d,hd⟩:∃ d,d = -c:=⟨_,rfl⟩
   have hdw:IntKind.i64.wrap d=d:=by rw[IntKind.wrap_i64];omega
   have hdn : -c=d:=hd.symm
   rcases h with ⟨h,rfl⟩|⟨h,rfl⟩|⟨h,rfl⟩
   ·have hd1:¬ d<0:=by omega
    have hd2:¬ 0<d:=by omega
    clear hd h hcb
    go_wp2
    go_ret
    exact⟨rfl,HX.out.trans (HL7.out.mono HX.out.size)⟩
   ·have hd1:d<0:=by omega
    clear hd h hcb
    go_wp2
    go_ret
    exact⟨rfl,HX.out.trans (HL7.out.mono HX.out.size)⟩
   ·have hd1:¬ d<0:=by omega
    have hd2:0<d:=by omega
    clear hd h hcb
    go_wp2
    go_ret
    exact⟨rfl,HX.out.trans (HL7.out.mono HX.out.size)⟩
theorem magI_sign {x y:Nat} {ea eb:Int}:cmpI (magI x ea y eb) 0=cmpI (x*2^(ea - min ea eb).toNat:Nat) (y*2^(eb - min ea eb).toNat:Nat):=by
 unfold magI
 by_cases h0:x=0∨y=0
 ·rw[if_pos h0]
  by_cases hx:x=0
  ·subst hx
   rw[dlen_zero,Nat.zero_mul]
   by_cases hy:y=0
   ·subst hy;rw[dlen_zero,Nat.zero_mul];rfl
   ·have h1:dlen y≠0:=fun e=>hy (dlen_eq_zero.1 e)
    have h2:0<y*2^(eb - min ea eb).toNat:=Nat.mul_pos (by omega) (Nat.two_pow_pos _)
    unfold cmpI
    rw[if_pos (by omega),if_pos (by omega)]
  ·have hy:y=0:=by omega
   subst hy
   rw[dlen_zero,Nat.zero_mul]
   have h1:dlen x≠0:=fun e=>hx (dlen_eq_zero.1 e)
   have h2:0<x*2^(ea - min ea eb).toNat:=Nat.mul_pos (by omega) (Nat.two_pow_pos _)
   unfold cmpI
   rw[if_neg (by omega),if_pos (by omega),if_neg (by omega),if_pos (by omega)]
 ·rw[if_neg h0]
  have hx0:x≠0:=fun e=>h0 (.inl e)
  have hy0:y≠0:=fun e=>h0 (.inr e)
  by_cases ht:(bl x:Int)+ea=bl y+eb
  ·rw[if_pos ht]
   rcases cmpI_cases (x*2^(ea - min ea eb).toNat:Nat) (y*2^(eb - min ea eb).toNat:Nat)with h|h|h <;> rw[h.2] <;> rfl
  ·rw[if_neg ht]
   rcases cmpI_cases (bl x+ea) (bl y+eb)with h|h|h
   ·have:=top_lt (x:=x) (k:=(ea - min ea eb).toNat) (l:=(eb - min ea eb).toNat) hy0 (by omega)
    unfold cmpI;rw[if_pos (by omega),if_pos (by omega)]
   ·have:=top_lt (x:=y) (y:=x) (k:=(eb - min ea eb).toNat) (l:=(ea - min ea eb).toNat) hx0 (by omega)
    unfold cmpI;rw[if_neg (by omega),if_pos (by omega),if_neg (by omega),if_pos (by omega)]
   ·exact absurd h.1 ht
theorem magI_le {x y:Nat} {ea eb:Int} (hx:dlen x≤400000) (hy:dlen y≤400000) (ha : -2000000≤ea∧ea≤2000000) (hb : -2000000≤eb∧eb≤2000000) : -90000000000≤magI x ea y eb∧magI x ea y eb≤90000000000:=by
 have b1:=bl_le_dlen x
 have b2:=bl_le_dlen y
 unfold magI
 split
 ·omega
 ·split
  ·rcases cmpI_cases (x*2^(ea - min ea eb).toNat:Nat) (y*2^(eb - min ea eb).toNat:Nat)with h|h|h <;> rw[h.2] <;> omega
  ·omega
theorem rorder {na nb:Bool} {ua va:Option Addr} {uc vc x y:Nat} {ea eb:Int} {w:World} (h1:Arg w ua (dlen x) uc x) (h2:Arg w va (dlen y) vc y) (hx:dlen x≤400000) (hy:dlen y≤400000) (ha : -2000000≤ea∧ea≤2000000) (hb : -2000000≤eb∧eb≤2000000) :
  Calls Tryz.prog 19 #[.agg #[.bool na,.slice ua (dlen x) uc,.int .i64 ea],.agg #[.bool nb,.slice va (dlen y) vc,.int .i64 eb]] w fun r w'=>r=.returned (.int .i64 (ordN na x ea nb y eb))∧Bw w w':=by
 have kA:∀ W,Bw w W→Calls Tryz.prog 58 #[.agg #[.bool na,.slice ua (dlen x) uc,.int .i64 ea]] W fun r w'=>r=.returned (.int .i64 (sgI na (dlen x)))∧Bw W w':=fun W hW=>rsgn (by omega)
 have kB:∀ W,Bw w W→Calls Tryz.prog 58 #[.agg #[.bool nb,.slice va (dlen y) vc,.int .i64 eb]] W fun r w'=>r=.returned (.int .i64 (sgI nb (dlen y)))∧Bw W w':=fun W hW=>rsgn (by omega)
 have kM:∀ W,Bw w W→Calls Tryz.prog 59 #[.agg #[.bool na,.slice ua (dlen x) uc,.int .i64 ea],.agg #[.bool nb,.slice va (dlen y) vc,.int .i64 eb]] W fun r w'=>r=.returned (.int .i64 (magI x ea y eb))∧Bw W w':=fun W hW=>rmag (h1.later hW) (h2.later hW) hx hy ha hb
 have hl:=magI_le (ea:=ea) (eb:=eb) hx hy ha hb
 have hm:=magI_sign (x:=x) (y:=y) (ea:=ea) (eb:=eb)
 unfold ordN
 rw[←hm]
 generalize hsa:sgI na (dlen x)=sa at *
 generalize hsb:sgI nb (dlen y)=sb at *
 generalize magI x ea y eb=c at *
 by_cases hs:sa=sb
 ·rw[if_pos hs]
  have hs3:sa=0∨sa = -1∨sa=1:=by
   rw[←hsa];unfold sgI
   split
   ·exact .inl rfl
   ·split
    ·exact .inr (.inl rfl)
    ·exact .inr (.inr rfl)
  by_cases hsn:sa<0
  ·have hs1:sa = -1:=by omega
   rcases cmpI_cases c 0 with h|h|h
   ·rw[h.2,show sa * -1=1 by omega];exact rorder_all na nb ua va _ uc _ vc ea eb sa sb c _ w hs (.inr ⟨hsn,.inr (.inr ⟨h.1,rfl⟩)⟩) hl.1 hl.2 kA kB kM
   ·rw[h.2,show sa*1 = -1 by omega];exact rorder_all na nb ua va _ uc _ vc ea eb sa sb c _ w hs (.inr ⟨hsn,.inr (.inl ⟨h.1,rfl⟩)⟩) hl.1 hl.2 kA kB kM
   ·rw[h.2,Int.mul_zero];exact rorder_all na nb ua va _ uc _ vc ea eb sa sb c _ w hs (.inr ⟨hsn,.inl ⟨h.1,rfl⟩⟩) hl.1 hl.2 kA kB kM
  ·by_cases h0:sa=0
   ·have hc0:c=0:=by
     have hdx:dlen x=0:=by
      apply Decidable.byContradiction
      intro hne
      rw[h0,sgI_pos hne] at hsa
      cases na <;> simp at hsa
     have hdy:dlen y=0:=by
      apply Decidable.byContradiction
      intro hne
      rw[←hs,h0,sgI_pos hne] at hsb
      cases nb <;> simp at hsb
     have ex:x=0:=dlen_eq_zero.1 hdx
     have ey:y=0:=dlen_eq_zero.1 hdy
     subst ex;subst ey
     rw[Nat.zero_mul,Nat.zero_mul] at hm
     rcases cmpI_cases c 0 with h|h|h
     ·rw[h.2] at hm;exact absurd hm (by decide)
     ·rw[h.2] at hm;exact absurd hm (by decide)
     ·exact h.1
    rw[show sa*cmpI c 0=0 by rw[h0,Int.zero_mul]]
    exact rorder_all na nb ua va _ uc _ vc ea eb sa sb c _ w hs (.inl ⟨(by omega),.inl ⟨hc0,rfl⟩⟩) hl.1 hl.2 kA kB kM
   ·have hs1:sa=1:=by omega
    rw[show sa*cmpI c 0=cmpI c 0 by rw[hs1,Int.one_mul]]
    rcases cmpI_cases c 0 with h|h|h
    ·rw[h.2];exact rorder_all na nb ua va _ uc _ vc ea eb sa sb c _ w hs (.inl ⟨(by omega),.inr (.inr ⟨h.1,rfl⟩)⟩) hl.1 hl.2 kA kB kM
    ·rw[h.2];exact rorder_all na nb ua va _ uc _ vc ea eb sa sb c _ w hs (.inl ⟨(by omega),.inr (.inl ⟨h.1,rfl⟩)⟩) hl.1 hl.2 kA kB kM
    ·rw[h.2];exact rorder_all na nb ua va _ uc _ vc ea eb sa sb c _ w hs (.inl ⟨(by omega),.inl ⟨h.1,rfl⟩⟩) hl.1 hl.2 kA kB kM
 ·rw[if_neg hs]
  unfold cmpI
  by_cases hlt:sa<sb
  ·rw[if_pos hlt];exact rorder_lt na nb ua va _ uc _ vc ea eb sa sb c w hlt kA kB
  ·rw[if_neg hlt,if_pos (by omega)];exact rorder_gt na nb ua va _ uc _ vc ea eb sa sb c w hlt hs kA kB
end Go.Proofs.YtapooodfgcjoaaaGreat
namespace Go.Proofs.YtapooodfgcjoaaaGreat
open Go.RowKit Go.Fl64
def gS (t1 t2:Bool×Nat×Int):Bool×Nat×Int:=cn (sumN t1.1 t1.2.1 t1.2.2 t2.1 t2.2.1 t2.2.2).1 (sumN t1.1 t1.2.1 t1.2.2 t2.1 t2.2.1 t2.2.2).2.1 (sumN t1.1 t1.2.1 t1.2.2 t2.1 t2.2.1 t2.2.2).2.2
def gM (t1 t2:Bool×Nat×Int):Bool×Nat×Int:=cn (!(t1.1==t2.1)) (t1.2.1*t2.2.1) (t1.2.2+t2.2.2)
def gD (t1 t2:Bool×Nat×Int):Bool×Nat×Int:=cn (sumN t1.1 t1.2.1 t1.2.2 (!t2.1&&decide (0<dlen t2.2.1)) t2.2.1 t2.2.2).1 (sumN t1.1 t1.2.1 t1.2.2 (!t2.1&&decide (0<dlen t2.2.1)) t2.2.1 t2.2.2).2.1 (sumN t1.1 t1.2.1 t1.2.2 (!t2.1&&decide (0<dlen t2.2.1)) t2.2.1 t2.2.2).2.2
def gN (t:Bool×Nat×Int):Bool×Nat×Int:=if t.2.1=0 then(false,0,0) else(!t.1,t.2.1,t.2.2)
theorem gtimes_1 (na nb sg:Bool) (ua va:Option Addr) (un uc vn vc x y:Nat) (ea eb:Int) (w:World) (h1:Ir w (.slice ua un uc) x) (h2:Ir w (.slice va vn vc) y) (hx:dlen x≤400000) (hy:dlen y≤400000) (he1 : -4000000≤ea) (he2:ea≤4000000) (he3 : -4000000≤eb) (he4:eb≤4000000) (hsg:(!(na==nb))=sg) :
  Calls Tryz.prog 33 #[.agg #[.bool na,.slice ua un uc,.int .i64 ea],.agg #[.bool nb,.slice va vn vc,.int .i64 eb]] w fun r w'=>∃ a,r=.returned a∧NC w' w.heap.size a sg (x*y) (ea+eb)∧Bw w w':=by
 obtain⟨W,hW⟩:∃ W,W=((w.alloc (.cells #[.bool na,.slice ua un uc,.int .i64 ea] 45)).alloc (.cells #[.bool nb,.slice va vn vc,.int .i64 eb] 45)).alloc (.cells #[.bool false,.slice none 0 0,.int .i64 0] 45):=⟨_,rfl⟩
 obtain⟨hA,hBb,hC,hsz,hBW⟩:=boxes3 _ _ _ hW
 have hxy:dlen (x*y)≤1000000:=by
  have l1:=(dlen_le (dlen x) x).1 (Nat.le_refl _)
  have l2:=(dlen_le (dlen y) y).1 (Nat.le_refl _)
  have:dlen (x*y)≤dlen x+dlen y:=(dlen_le _ _).2 (by
   rw[Nat.pow_add]
   rcases Nat.eq_zero_or_pos x with h|h
   ·rw[h,Nat.zero_mul];exact Nat.mul_pos (Bpow_pos _) (Bpow_pos _)
   ·exact Nat.mul_lt_mul_of_lt_of_le l1 (Nat.le_of_lt l2) (Bpow_pos _))
  omega
 have HH:Hid (W.heap[w.heap.size+1+1]?=some (.cells #[.bool false,.slice none 0 0,.int .i64 0] 45 (0,0))∧W.heap.size=w.heap.size+1+1+1∧Bw w W):=⟨hC,hsz,hBW⟩
 have k78:∀ w4,Bw W w4→Calls Tryz.prog 85 #[.slice ua un uc,.slice va vn vc] w4 fun r w'=>∃ v,r=.returned v∧Own w' W.heap.size v (x*y)∧Bw W w':=fun w4 hb =>
  (rprod ((h1.later hBW).later hb) ((h2.later hBW).later hb) (by omega) (by omega)).mono fun r w' ⟨v,e1,o1,o2⟩=>⟨v,e1,o1.mono hb.size,hb.trans (o2.mono hb.size)⟩
 have k31:∀ v5 w5,Own w5 W.heap.size v5 (x*y)→Bw W w5→Calls Tryz.prog 67 #[.bool sg,v5,.int .i64 (ea+eb)] w5 fun r w'=>∃ s ao n cap ex,r=.returned (.agg #[.bool s,.slice ao n cap,.int .i64 ex]) ∧
   Hid (NC w' w5.heap.size (.agg #[.bool s,.slice ao n cap,.int .i64 ex]) sg (x*y) (ea+eb)∧W.heap.size≤w5.heap.size)∧Bw W w'∧Hid (w'.heap[w.heap.size+1+1]?=some (.cells #[.bool false,.slice none 0 0,.int .i64 0] 45 (0,0))) ∧
   (w'.cell? ⟨w.heap.size+1+1,0,none⟩=some (.bool false)∧w'.cell? ⟨w.heap.size+1+1,1,none⟩=some (.slice none 0 0)∧w'.cell? ⟨w.heap.size+1+1,2,none⟩=some (.int .i64 0))∧(w'.frozen? ⟨w.heap.size+1+1,0,none⟩=false∧w'.frozen? ⟨w.heap.size+1+1,1,none⟩=false∧w'.frozen? ⟨w.heap.size+1+1,2,none⟩=false):=by
  intro v5 w5 ho hb
  obtain⟨ao0,cap0,rfl,hl0,-,hat0⟩:=ho.is
  refine(rnormN hat0 (Nat.le_refl _) hl0 (by omega) (by omega)).mono ?_
  rintro r w6 ⟨a,rfl,hN,hb6⟩
  obtain⟨s,ao,n,cap,ex,rfl⟩:=hN.shape
  have hb46:Bw W w6:=hb.trans (hb6.mono hb.size)
  have hblk:=box_later HH.out.1 hb46 (by have:=HH.out.2.1;omega)
  obtain⟨f1,f2⟩:=box_cells29 hblk
  exact⟨s,ao,n,cap,ex,rfl,⟨hN,hb.size⟩,hb46,hblk,f1,f2⟩
 obtain⟨⟨a0,a1,a2⟩,-⟩:=box_cells29 hA
 obtain⟨⟨b0,b1,b2⟩,-⟩:=box_cells29 hBb
 have HK:Hid (∀ w',Bw W w'→((w'.cell? ⟨w.heap.size,0,none⟩=some (.bool na)∧w'.cell? ⟨w.heap.size,1,none⟩=some (.slice ua un uc)∧w'.cell? ⟨w.heap.size,2,none⟩=some (.int .i64 ea))∧(w'.cell? ⟨w.heap.size+1,0,none⟩=some (.bool nb)∧w'.cell? ⟨w.heap.size+1,1,none⟩=some (.slice va vn vc)∧w'.cell? ⟨w.heap.size+1,2,none⟩=some (.int .i64 eb)))):=fun w' hb=>⟨(box_cells29 (box_later hA hb (by omega))).1,(box_cells29 (box_later hBb hb (by omega))).1⟩
 have HK2:Hid (∀ w',Below (w.heap.size+1+1) W w'→((w'.cell? ⟨w.heap.size,0,none⟩=some (.bool na)∧w'.cell? ⟨w.heap.size,1,none⟩=some (.slice ua un uc)∧w'.cell? ⟨w.heap.size,2,none⟩=some (.int .i64 ea))∧(w'.cell? ⟨w.heap.size+1,0,none⟩=some (.bool nb)∧w'.cell? ⟨w.heap.size+1,1,none⟩=some (.slice va vn vc)∧w'.cell? ⟨w.heap.size+1,2,none⟩=some (.int .i64 eb)))):=fun w' hb=>⟨(box_cells29 (box_later hA hb (by omega))).1,(box_cells29 (box_later hBb hb (by omega))).1⟩
 have HS2:Hid (w.heap.size+1+1≤W.heap.size):=(by omega:w.heap.size+1+1≤W.heap.size)
 have hBR:Bw W W.drew:=(Below.refl _ _).drew
 have wz:IntKind.i64.wrap (ea+eb)=ea+eb:=by rw[IntKind.wrap_i64];omega
 clear hA hBb hC hsz hBW h1 h2 hx hy hxy
 go_enter Tryz.func33,Tryz.ntmps33
 go_upto_region 1 with fail
 rw[←hW]
 clear hW
 go_region_held3 (fun w'=>((w'.cell? ⟨w.heap.size,0,none⟩=some (.bool na)∧w'.cell? ⟨w.heap.size,1,none⟩=some (.slice ua un uc)∧w'.cell? ⟨w.heap.size,2,none⟩=some (.int .i64 ea))∧(w'.cell? ⟨w.heap.size+1,0,none⟩=some (.bool nb)∧w'.cell? ⟨w.heap.size+1,1,none⟩=some (.slice va vn vc)∧w'.cell? ⟨w.heap.size+1,2,none⟩=some (.int .i64 eb)))) (first|(with_reducible assumption)|exact⟨⟨a0,a1,a2⟩,b0,b1,b2⟩|(refine HK.out _ ?_;with_reducible assumption)|(refine HK2.out _ (below_store3 (Below.mono hb6 HS2.out) (Nat.le_refl _) _ _ _))|go_keep)
  (first|(go_at_call 85;refine(k78 _ (by first|(with_reducible assumption)|exact hBR)).mono ?_;rintro r w5 ⟨v5,rfl,ho5,hb5⟩)|(go_at_call 67;(try simp only[hsg,wz]);refine(k31 _ _ ho5 hb5).mono ?_;rintro r w6 ⟨s6,ao6,n6,cap6,ex6,rfl,hN6,hb6,hblk6,⟨x1,x2,x3⟩,x4,x5,x6⟩))
 have HF:Hid (Bw W w6):=hb6
 clear ho5 hb5 hb6 k31 k78 x1 x2 x3 x4 x5 x6 a0 a1 a2 b0 b1 b2 HK HK2
 go_wp2
 refine bodyPost_ret (results_cell_row rfl _ _ (w.heap.size+1+1) 45 #[.bool s6,.slice ao6 n6 cap6,.int .i64 ex6] (0,0) _ rfl (store3_29 _ _ _ hblk6.out) Tryz.underlying45 rfl Tryz.info45) rfl ?_
 obtain⟨-,hs,hBW⟩:=HH.out
 have hs5:=hN6.out.2
 exact⟨_,rfl,(hN6.out.1.store (by omega) _ _ _).mono (by omega),below_store3 (hBW.trans (HF.out.mono hBW.size)) (by omega) _ _ _⟩
theorem garg0 (w:World):Arg w none 0 0 0:=⟨fun _=>.inr ⟨rfl,rfl⟩,⟨0,0,fun h=>absurd h (by omega),fun i hi=>absurd hi (by omega)⟩,Nat.le_refl _,by omega⟩
theorem garg0D (w:World):Arg w none (dlen 0) 0 0:=by rw[dlen_zero];exact garg0 w
theorem gdn0 (w:World):DN w (.agg #[.bool false,.slice none 0 0,.int .i64 0]) (false,0,0):=⟨none,0,by show _=Value.agg #[.bool false,.slice none (dlen 0) 0,.int .i64 0];rw[dlen_zero],garg0D w⟩
def Gn (t:Bool×Nat×Int):Prop:=cn t.1 t.2.1 t.2.2=t∧dlen t.2.1≤60000 ∧ -1000000≤t.2.2∧t.2.2≤1000000
theorem gplus {t1 t2:Bool×Nat×Int} {X Y:Value} {w:World} (o1:Gn t1) (o2:Gn t2) (h1:DN w X t1) (h2:DN w Y t2):Calls Tryz.prog 45 #[X,Y] w fun r w'=>∃ A,r=.returned A∧DN w' A (gS t1 t2)∧Bw w w':=by
 obtain⟨ao,cap,rfl,a1⟩:=h1
 obtain⟨ao',cap',rfl,a2⟩:=h2
 obtain⟨c1,f1,f2,f3⟩:=o1
 obtain⟨c2,g1,g2,g3⟩:=o2
 exact(rplusG a1 a2 c1 c2 (by omega) (by omega) (by omega) (by omega) (by omega) (by omega)).mono fun r w' ⟨A,e,h,hb⟩=>⟨A,e,h.dn,hb⟩
theorem gtimes {t1 t2:Bool×Nat×Int} {X Y:Value} {w:World} (o1:Gn t1) (o2:Gn t2) (h1:DN w X t1) (h2:DN w Y t2):Calls Tryz.prog 33 #[X,Y] w fun r w'=>∃ A,r=.returned A∧DN w' A (gM t1 t2)∧Bw w w':=by
 obtain⟨ao,cap,rfl,a1⟩:=h1
 obtain⟨ao',cap',rfl,a2⟩:=h2
 obtain⟨c1,f1,f2,f3⟩:=o1
 obtain⟨c2,g1,g2,g3⟩:=o2
 exact(gtimes_1 t1.1 t2.1 _ ao ao' _ cap _ cap' t1.2.1 t2.2.1 t1.2.2 t2.2.2 w ⟨ao,cap,rfl,a1.le,a1.at_⟩ ⟨ao',cap',rfl,a2.le,a2.at_⟩ (by omega) (by omega) (by omega) (by omega) (by omega) (by omega) rfl).mono fun r w' ⟨A,e,h,hb⟩=>⟨A,e,h.dn,hb⟩
theorem gorder {t1 t2:Bool×Nat×Int} {X Y:Value} {w:World} (o1:Gn t1) (o2:Gn t2) (h1:DN w X t1) (h2:DN w Y t2):Calls Tryz.prog 19 #[X,Y] w fun r w'=>r=.returned (.int .i64 (ordN t1.1 t1.2.1 t1.2.2 t2.1 t2.2.1 t2.2.2))∧Bw w w':=by
 obtain⟨ao,cap,rfl,a1⟩:=h1
 obtain⟨ao',cap',rfl,a2⟩:=h2
 obtain⟨c1,f1,f2,f3⟩:=o1
 obtain⟨c2,g1,g2,g3⟩:=o2
 exact rorder a1 a2 (by omega) (by omega) (by omega) (by omega)
theorem Gn.zero {t:Bool×Nat×Int} (h:Gn t) (h0:t.2.1=0):t=(false,0,0):=by
 have e:=h.1
 unfold cn at e
 rw[if_pos h0] at e
 exact e.symm
theorem gcn_turn {t:Bool×Nat×Int} (h:cn t.1 t.2.1 t.2.2=t) (h0:t.2.1≠0) (s:Bool):cn s t.2.1 t.2.2=(s,t.2.1,t.2.2):=by
 unfold cn at h ⊢
 rw[if_neg h0] at h ⊢
 rw[Prod.ext_iff] at h
 exact Prod.ext rfl h.2
theorem gless {t1 t2:Bool×Nat×Int} {X Y:Value} {w:World} (o1:Gn t1) (o2:Gn t2) (h1:DN w X t1) (h2:DN w Y t2):Calls Tryz.prog 57 #[X,Y] w fun r w'=>∃ A,r=.returned A∧DN w' A (gD t1 t2)∧Bw w w':=by
 obtain⟨ao,cap,rfl,a1⟩:=h1
 obtain⟨ao',cap',rfl,a2⟩:=h2
 have z2:=o2.zero
 obtain⟨c1,f1,f2,f3⟩:=o1
 obtain⟨c2,g1,g2,g3⟩:=o2
 unfold gD
 by_cases h0:t2.2.1=0
 ·have e2:=z2 h0
  have e3:t2.1=false:=by rw[e2]
  have e4:t2.2.2=0:=by rw[e2]
  rw[h0,e3,e4,dlen_zero]
  have k2:=fun(W:World) (hW:Bw w W)=>rplusG (nb:=false) (y:=0) (eb:=0) (a1.later hW) (garg0D W) c1 rfl (by omega) (by omega) (by omega) (by omega) (by omega) (by rw[dlen_zero];omega)
  simp only[dlen_zero] at k2
  exact(rlessN_1 t1.1 false ao ao' (dlen t1.2.1) cap 0 cap' t1.2.2 0 false none 0 0 0 _ _ _ w (fun W=>rminus_0 false ao' cap' 0 W) k2).mono fun r w' ⟨A,e,h,hb⟩=>⟨A,e,h.dn,hb⟩
 ·have hl:0<dlen t2.2.1:=by have:=dlen_pos h0;omega
  rw[decide_eq_true hl,Bool.and_true]
  exact(rlessN_1 t1.1 t2.1 ao ao' (dlen t1.2.1) cap (dlen t2.2.1) cap' t1.2.2 t2.2.2 (!t2.1) ao' (dlen t2.2.1) cap' t2.2.2 _ _ _ w (fun W=>rminus_1 t2.1 ao' (dlen t2.2.1) cap' t2.2.2 W (by omega) (by rw[beq_eq_false_iff_ne];omega)) (fun W hW=>rplusG (a1.later hW) (a2.later hW) c1 (gcn_turn c2 h0 _) (by omega) (by omega) (by omega) (by omega) (by omega) (by omega))).mono fun r w' ⟨A,e,h,hb⟩=>⟨A,e,h.dn,hb⟩
theorem gscaled_0 (na:Bool) (ua:Option Addr) (uc:Nat) (ea k:Int) (w:World) :
  Calls Tryz.prog 40 #[.agg #[.bool na,.slice ua 0 uc,.int .i64 ea],.int .i64 k] w fun r w'=>r=.returned (.agg #[.bool false,.slice none 0 0,.int .i64 0])∧Bw w w':=by
 obtain⟨W,hW⟩:∃ W,W=(w.alloc (.cells #[.bool na,.slice ua 0 uc,.int .i64 ea] 45)).alloc (.cells #[.bool false,.slice none 0 0,.int .i64 0] 45):=⟨_,rfl⟩
 obtain⟨hA,hB,hsz,hBW⟩:=two29 _ _ hW
 obtain⟨⟨a0,a1,a2⟩,-⟩:=box_cells29 hA
 obtain⟨⟨b0,b1,b2⟩,b3,b4,b5⟩:=box_cells29 hB
 have HX:Hid (Bw w W∧W.heap[w.heap.size+1]?=some (.cells #[.bool false,.slice none 0 0,.int .i64 0] 45 (0,0))):=⟨hBW,hB⟩
 clear hA hB hsz hBW
 have HE:Hid (W=(w.alloc (.cells #[.bool na,.slice ua 0 uc,.int .i64 ea] 45)).alloc (.cells #[.bool false,.slice none 0 0,.int .i64 0] 45)):=hW
 rw[hW] at a0 a1 a2 b0 b1 b2 b3 b4 b5
 clear hW
 go_enter Tryz.func40,Tryz.ntmps40
 go_wp2
 refine bodyPost_ret (results_cell_row rfl _ _ (w.heap.size+1) 45 #[.bool false,.slice none 0 0,.int .i64 0] (0,0) _ rfl (two29 _ _ rfl).2.1 Tryz.underlying45 rfl Tryz.info45) rfl ?_
 exact⟨rfl,(two29 _ _ rfl).2.2.2⟩
def gK (k:Int) (t:Bool×Nat×Int):Bool×Nat×Int:=if t.2.1=0 then(false,0,0) else(t.1,t.2.1,t.2.2+k)
theorem gscaled_1 (na:Bool) (ua:Option Addr) (un uc:Nat) (ea k:Int) (w:World) (hn:un≤35184372088832) (hn0:((un:Int)==0)=false) (he : -2000000≤ea∧ea≤2000000) (hk : -2000000≤k∧k≤2000000) :
  Calls Tryz.prog 40 #[.agg #[.bool na,.slice ua un uc,.int .i64 ea],.int .i64 k] w fun r w'=>r=.returned (.agg #[.bool na,.slice ua un uc,.int .i64 (ea+k)])∧Bw w w':=by
 obtain⟨W,hW⟩:∃ W,W=(w.alloc (.cells #[.bool na,.slice ua un uc,.int .i64 ea] 45)).alloc (.cells #[.bool false,.slice none 0 0,.int .i64 0] 45):=⟨_,rfl⟩
 obtain⟨hA,hB,hsz,hBW⟩:=two29 _ _ hW
 obtain⟨⟨a0,a1,a2⟩,-⟩:=box_cells29 hA
 obtain⟨⟨b0,b1,b2⟩,b3,b4,b5⟩:=box_cells29 hB
 obtain⟨he1,he2⟩:=he
 obtain⟨hk1,hk2⟩:=hk
 clear hA hB hsz hBW
 rw[hW] at a0 a1 a2 b0 b1 b2 b3 b4 b5
 clear hW
 go_enter Tryz.func40,Tryz.ntmps40
 go_wp2
 refine bodyPost_ret (results_cell_row rfl _ _ (w.heap.size+1) 45 #[.bool na,.slice ua un uc,.int .i64 (ea+k)] (0,0) _ rfl (two29 _ _ rfl).2.1 Tryz.underlying45 rfl Tryz.info45) rfl ?_
 exact⟨rfl,(two29 _ _ rfl).2.2.2⟩
theorem gscaled {t:Bool×Nat×Int} {X:Value} {w:World} {k:Int} (o:Gn t) (h:DN w X t) (hk : -1000000≤k∧k≤1000000):Calls Tryz.prog 40 #[X,.int .i64 k] w fun r w'=>∃ A,r=.returned A∧DN w' A (gK k t)∧Bw w w':=by
 obtain⟨ao,cap,rfl,a1⟩:=h
 have hz:=o.zero
 obtain⟨c1,f1,f2,f3⟩:=o
 unfold gK
 by_cases h0:t.2.1=0
 ·rw[if_pos h0,h0,dlen_zero]
  refine(gscaled_0 t.1 ao cap t.2.2 k w).mono ?_
  rintro r w' ⟨rfl,hb⟩
  exact⟨_,rfl,gdn0 _,hb⟩
 ·rw[if_neg h0]
  have hl:0<dlen t.2.1:=by have:=dlen_pos h0;omega
  refine(gscaled_1 t.1 ao (dlen t.2.1) cap t.2.2 k w (by omega) (by rw[beq_eq_false_iff_ne];omega) ⟨by omega,by omega⟩ ⟨by omega,by omega⟩).mono ?_
  rintro r w' ⟨rfl,hb⟩
  exact⟨_,rfl,⟨ao,cap,rfl,a1.later hb⟩,hb⟩
theorem gminus {t:Bool×Nat×Int} {A:Value} {w:World} (h:DN w A t):Calls Tryz.prog 50 #[A] w fun r w'=>∃ B,r=.returned B∧DN w' B (gN t)∧Bw w w':=by
 obtain⟨ao,cap,rfl,hA⟩:=h
 unfold gN
 by_cases h0:t.2.1=0
 ·rw[if_pos h0,dlen_eq_zero.2 h0]
  refine(rminus_0 t.1 ao cap t.2.2 w).mono ?_
  rintro r w' ⟨rfl,hb⟩
  exact⟨_,rfl,gdn0 _,hb⟩
 ·rw[if_neg h0]
  have hd:dlen t.2.1≠0:=fun e=>h0 (dlen_eq_zero.1 e)
  refine(rminus_1 t.1 ao (dlen t.2.1) cap t.2.2 w hA.small (by simp;omega)).mono ?_
  rintro r w' ⟨rfl,hb⟩
  exact⟨_,rfl,⟨ao,cap,rfl,hA.later hb⟩,hb⟩
theorem gwhole_1 (n:Int) (m:Nat) (w:World) (hm:m<18446744073709551616) (hn1:0≤n) (hn2:n≤9223372036854775807) (hwr:IntKind.u64.wrap n=(m:Int)) :
  Calls Tryz.prog 24 #[.int .i64 n] w fun r w'=>∃ A,r=.returned A∧NC w' w.heap.size A false m 0∧Bw w w':=by
 have hnn:¬ n<0:=by omega
 obtain⟨W,hW⟩:∃ W,W=w.alloc (.cells #[.bool false,.slice none 0 0,.int .i64 0] 45):=⟨_,rfl⟩
 have k34:=xnorm_two (ng:=false) (m:=m) (e:=0) (W:=W) hm (by omega)
 have HB0:Hid (Bw w W∧W.heap[w.heap.size]?=some (.cells #[.bool false,.slice none 0 0,.int .i64 0] 45 (0,0))∧W.heap.size=w.heap.size+1):=⟨by rw[hW];exact(Below.refl _ _).alloc (Nat.le_refl _) _,by rw[hW];exact heap_alloc_new _ _,by rw[hW];simp⟩
 (try unfold Bw at k34);rw[HB0.out.2.2] at k34
 go_enter Tryz.func24,Tryz.ntmps24
 go_wp2_with fail
 rw[←hW]
 clear hW
 refine k34.mono ?_
 rintro r w3 ⟨s,ao,n,cap,ex,rfl,hn,hb⟩
 have hs:=HB0.out.2.2
 have HC3:Hid (w3.heap[w.heap.size]?=some (.cells #[.bool false,.slice none 0 0,.int .i64 0] 45 (0,0))):=box_later HB0.out.2.1 hb (by omega)
 obtain⟨⟨a1,a2,a3⟩,a4,a5,a6⟩:=box_cells29 HC3.out
 have HN:Hid (NC w3 (w.heap.size+1) (.agg #[.bool s,.slice ao n cap,.int .i64 ex]) false m 0∧Below (w.heap.size+1) W w3):=⟨hn.mono (by omega),hb⟩
 clear hn hb k34 hs
 go_wp2
 refine bodyPost_ret (results_cell_row rfl _ _ w.heap.size 45 #[.bool s,.slice ao n cap,.int .i64 ex] (0,0) _ rfl (store3_29 _ _ _ HC3.out) Tryz.underlying45 rfl Tryz.info45) rfl ?_
 have hs:=HB0.out.2.2
 exact⟨_,rfl,(HN.out.1.store (by omega) _ _ _).mono (by omega),below_store3 (HB0.out.1.trans (HN.out.2.mono (by omega))) (Nat.le_refl _) _ _ _⟩
theorem gwhole_2 (n:Int) (m:Nat) (w:World) (hm:m<18446744073709551616) (hn1:n<0) (hn2 : -9223372036854775808≤n) (hwr : -(n+1)+1=(m:Int)) :
  Calls Tryz.prog 24 #[.int .i64 n] w fun r w'=>∃ A,r=.returned A∧NC w' w.heap.size A true m 0∧Bw w w':=by
 obtain⟨W,hW⟩:∃ W,W=w.alloc (.cells #[.bool false,.slice none 0 0,.int .i64 0] 45):=⟨_,rfl⟩
 have k34:=xnorm_two (ng:=true) (m:=m) (e:=0) (W:=W) hm (by omega)
 have HB0:Hid (Bw w W∧W.heap[w.heap.size]?=some (.cells #[.bool false,.slice none 0 0,.int .i64 0] 45 (0,0))∧W.heap.size=w.heap.size+1):=⟨by rw[hW];exact(Below.refl _ _).alloc (Nat.le_refl _) _,by rw[hW];exact heap_alloc_new _ _,by rw[hW];simp⟩
 (try unfold Bw at k34);rw[HB0.out.2.2] at k34
 go_enter Tryz.func24,Tryz.ntmps24
 go_wp2_with fail
 rw[←hW]
 clear hW
 refine k34.mono ?_
 rintro r w3 ⟨s,ao,n,cap,ex,rfl,hn,hb⟩
 have hs:=HB0.out.2.2
 have HC3:Hid (w3.heap[w.heap.size]?=some (.cells #[.bool false,.slice none 0 0,.int .i64 0] 45 (0,0))):=box_later HB0.out.2.1 hb (by omega)
 obtain⟨⟨a1,a2,a3⟩,a4,a5,a6⟩:=box_cells29 HC3.out
 have HN:Hid (NC w3 (w.heap.size+1) (.agg #[.bool s,.slice ao n cap,.int .i64 ex]) true m 0∧Below (w.heap.size+1) W w3):=⟨hn.mono (by omega),hb⟩
 clear hn hb k34 hs
 go_wp2
 refine bodyPost_ret (results_cell_row rfl _ _ w.heap.size 45 #[.bool s,.slice ao n cap,.int .i64 ex] (0,0) _ rfl (store3_29 _ _ _ HC3.out) Tryz.underlying45 rfl Tryz.info45) rfl ?_
 have hs:=HB0.out.2.2
 exact⟨_,rfl,(HN.out.1.store (by omega) _ _ _).mono (by omega),below_store3 (HB0.out.1.trans (HN.out.2.mono (by omega))) (Nat.le_refl _) _ _ _⟩
theorem gwhole {n:Int} {w:World} (hn : -9223372036854775808≤n∧n≤9223372036854775807) :
  Calls Tryz.prog 24 #[.int .i64 n] w fun r w'=>∃ A,r=.returned A∧DN w' A (cn (decide (n<0)) n.natAbs 0)∧Bw w w':=by
 by_cases h:n<0
 ·rw[decide_eq_true h]
  exact(gwhole_2 n n.natAbs w (by omega) h (by omega) (by omega)).mono fun r w' ⟨A,e,h,hb⟩=>⟨A,e,h.dn,hb⟩
 ·rw[decide_eq_false h]
  exact(gwhole_1 n n.natAbs w (by omega) (by omega) (by omega) (by rw[IntKind.wrap_u64];omega)).mono fun r w' ⟨A,e,h,hb⟩=>⟨A,e,h.dn,hb⟩
def un (Z:Int) (p:Nat):Bool×Nat×Int:=cn (decide (Z<0)) Z.natAbs (-(p:Int))
theorem sv_nat (Z:Int):sv (decide (Z<0)) Z.natAbs=Z:=by
 unfold sv
 by_cases h:Z<0
 ·rw[if_pos (decide_eq_true h)];omega
 ·rw[if_neg (by simpa using h)];omega
theorem vz_un {K p:Nat} (Z:Int) (h:p≤K):vz K (un Z p).1 (un Z p).2.1 (un Z p).2.2=Z*((2^(K - p):Nat):Int):=by
 unfold un
 rw[vz_cn (by omega)]
 unfold vz
 rw[sv_nat,show(-(p:Int)+(K:Int)).toNat=K - p by omega]
theorem tz_le {x b:Nat} (h:x<2^b):tz x≤b:=by
 by_cases h0:x=0
 ·rw[h0];exact Nat.le_trans (Nat.le_of_eq (by rw[tz];rfl)) (Nat.zero_le _)
 ·have h2:=(tz_spec x x (Nat.le_refl _) h0).1
  have h3:2^tz x≤x:=by
   have h4:0<x / 2^tz x:=by
    rcases Nat.eq_zero_or_pos (x / 2^tz x)with h|h
    ·rw[h,Nat.mul_zero] at h2;omega
    ·exact h
   exact Nat.le_trans (Nat.le_mul_of_pos_right _ h4) (Nat.le_of_eq h2)
  exact Nat.le_of_lt ((Nat.pow_lt_pow_iff_right (by omega)).1 (Nat.lt_of_le_of_lt h3 h))
theorem un_e {Z:Int} {p b:Nat} (h:Z.natAbs<2^b) : -(p:Int)≤(un Z p).2.2∧(un Z p).2.2≤b∧0≤(un Z p).2.2+(p:Int):=by
 have ht:=tz_le h
 unfold un cn
 by_cases h0:Z.natAbs=0
 ·rw[if_pos h0];simp only;omega
 ·rw[if_neg h0];simp only;omega
theorem dlen_two9 {x b:Nat} (h:x<2^b):dlen x≤b / 32+1:=by
 refine(dlen_le _ _).2 (Nat.lt_of_lt_of_le h ?_)
 rw[show B=2^32 by rfl,←Nat.pow_mul]
 exact Nat.pow_le_pow_right (by decide) (by omega)
theorem cn_idem (s:Bool) (z:Nat) (e:Int):cn (cn s z e).1 (cn s z e).2.1 (cn s z e).2.2=cn s z e:=by
 by_cases h0:z=0
 ·unfold cn;rw[if_pos h0,if_pos rfl]
 ·have h2:=(tz_spec z z (Nat.le_refl _) h0).2
  have:cn s z e=(s,z / 2^tz z,e+tz z):=by unfold cn;rw[if_neg h0]
  rw[this]
  exact cn_odd h2
theorem un_small {Z:Int} {p b:Nat} (h:Z.natAbs<2^b):(un Z p).2.1<2^b:=by
 unfold un cn
 split
 ·exact Nat.two_pow_pos _
 ·exact Nat.lt_of_le_of_lt (Nat.div_le_self _ _) h
theorem un_gn {Z:Int} {p b:Nat} (h:Z.natAbs<2^b) (hb:b≤90000) (hp:p≤90000):Gn (un Z p):=by
 have h1:=un_e (p:=p) h
 have h2:=dlen_two9 (un_small (p:=p) h)
 exact⟨cn_idem _ _ _,by omega,by omega,by omega⟩
theorem un_eq {s:Bool} {z:Nat} {e:Int} {Z:Int} {p K:Nat} (hp:p≤K) (he:0≤e+K) (h:vz K s z e=Z*((2^(K - p):Nat):Int)):cn s z e=un Z p:=by
 unfold un
 refine cn_eq he (by omega) ?_
 rw[h]
 unfold vz
 rw[sv_nat,show(-(p:Int)+(K:Int)).toNat=K - p by omega]
theorem gS_un {a b:Int} {p:Nat}:gS (un a p) (un b p)=un (a+b) p:=by
 have e1:=(un_e (p:=p) (Nat.lt_two_pow_self (n:=a.natAbs))).2.2
 have e2:=(un_e (p:=p) (Nat.lt_two_pow_self (n:=b.natAbs))).2.2
 unfold gS
 have hs:0≤(sumN (un a p).1 (un a p).2.1 (un a p).2.2 (un b p).1 (un b p).2.1 (un b p).2.2).2.2+(p:Int):=by
  unfold sumN
  split
  ·exact e2
  ·split
   ·exact e1
   ·split
    ·simp only;omega
    ·split <;> (simp only;omega)
 refine un_eq (K:=p) (Nat.le_refl _) hs ?_
 rw[vz_sumN e1 e2,vz_un a (Nat.le_refl _),vz_un b (Nat.le_refl _),←Int.add_mul]
theorem un_sign {Z:Int} {p:Nat}:((un Z p).1=true→0<dlen (un Z p).2.1)∧((un Z p).2.1=0↔Z=0):=by
 have hz:(un Z p).2.1=0↔Z=0:=by
  have h:=vz_un (K:=p) (p:=p) Z (Nat.le_refl _)
  have e:=vz_eq_zero (K:=p) (s:=(un Z p).1) (x:=(un Z p).2.1) (e:=(un Z p).2.2)
  rw[h,Nat.sub_self,Nat.pow_zero] at e
  constructor
  ·intro h0;have:=e.2 h0;simpa using this
  ·intro h0;exact e.1 (by rw[h0];simp)
 refine⟨fun h=>?_,hz⟩
 by_cases h0:(un Z p).2.1=0
 ·have:Z=0:=hz.1 h0
  subst this
  exact absurd h (by unfold un cn;rw[if_pos (by decide)];decide)
 ·have:dlen (un Z p).2.1≠0:=fun e=>h0 (dlen_eq_zero.1 e)
  omega
theorem gN_un {a:Int} {p:Nat}:gN (un a p)=un (-a) p:=by
 unfold gN
 by_cases h0:(un a p).2.1=0
 ·rw[if_pos h0]
  have:=un_sign.2.1 h0
  subst this
  unfold un cn;rw[if_pos (by decide)]
 ·rw[if_neg h0]
  have e1:=(un_e (p:=p) (Nat.lt_two_pow_self (n:=a.natAbs))).2.2
  have k:cn (!(un a p).1) (un a p).2.1 (un a p).2.2=(!(un a p).1,(un a p).2.1,(un a p).2.2):=gcn_turn (cn_idem _ _ _) h0 _
  rw[←k]
  refine un_eq (K:=p) (Nat.le_refl _) e1 ?_
  have h:=vz_un (K:=p) (p:=p) a (Nat.le_refl _)
  unfold vz at h ⊢
  have hs:sv (!(un a p).1) (un a p).2.1 = - sv (un a p).1 (un a p).2.1:=by unfold sv;cases (un a p).1 <;> simp
  rw[hs,Int.neg_mul,h,Int.neg_mul]
theorem gD_un {a b:Int} {p:Nat}:gD (un a p) (un b p)=un (a - b) p:=by
 have h:gD (un a p) (un b p)=gS (un a p) (gN (un b p)):=by
  unfold gD gS gN
  by_cases h0:(un b p).2.1=0
  ·rw[if_pos h0]
   have hb:=un_sign.2.1 h0
   subst hb
   have e:un 0 p=(false,0,0):=by unfold un cn;rw[if_pos (by decide)]
   rw[e,dlen_zero]
   rfl
  ·rw[if_neg h0]
   have hd:dlen (un b p).2.1≠0:=fun e=>h0 (dlen_eq_zero.1 e)
   rw[decide_eq_true (show 0<dlen (un b p).2.1 by omega),Bool.and_true]
 rw[h,gN_un,gS_un,Int.sub_eq_add_neg]
theorem gM_un {a b:Int} {p q:Nat}:gM (un a p) (un b q)=un (a*b) (p+q):=by
 have e1:=(un_e (p:=p) (Nat.lt_two_pow_self (n:=a.natAbs))).2.2
 have e2:=(un_e (p:=q) (Nat.lt_two_pow_self (n:=b.natAbs))).2.2
 unfold gM
 refine un_eq (K:=p+q) (Nat.le_refl _) (by omega) ?_
 rw[vz_mul e1 e2,vz_un a (Nat.le_refl _),vz_un b (Nat.le_refl _),Nat.sub_self,Nat.sub_self,Nat.sub_self]
 simp
theorem gK_un {a:Int} {p:Nat} {k:Int} {q:Nat} (h:(p:Int) - k=q):gK k (un a p)=un a q:=by
 unfold gK
 by_cases h0:(un a p).2.1=0
 ·rw[if_pos h0]
  have hb:=un_sign.2.1 h0
  subst hb
  unfold un cn;rw[if_pos (by decide)]
 ·rw[if_neg h0]
  unfold un at h0 ⊢
  unfold cn at h0 ⊢
  by_cases hz:a.natAbs=0
  ·rw[if_pos hz] at h0;exact absurd rfl h0
  ·rw[if_neg hz,if_neg hz]
   refine Prod.ext rfl (Prod.ext rfl ?_)
   simp only;omega
end Go.Proofs.YtapooodfgcjoaaaGreat
namespace Go.Proofs.YtapooodfgcjoaaaGreat
open Go.RowKit
theorem rless_nc {va:Option Addr} {vc q base:Nat} {place:Int} {w:World} {s6:Bool} {ao6:Option Addr} {n6 cap6:Nat} {ex6:Int} (h:NC w base (.agg #[.bool s6,.slice ao6 n6 cap6,.int .i64 ex6]) true q (-place)) (h1:At w va 1 1) (hvc:1≤vc) (hp1 : -1000000≤place) (hp2:place≤1000000) (hq:dlen q≤30000) :
  Calls Tryz.prog 57 #[.agg #[.bool s6,.slice ao6 n6 cap6,.int .i64 ex6],.agg #[.bool false,.slice va 1 vc,.int .i64 (-place)]] w fun r w'=>∃ a,r=.returned a∧NC w' w.heap.size a true (q+1) (-place)∧Bw w w':=by
 obtain⟨ao,cap,e,hA,-⟩:=h
 rw[e]
 exact rless_one hA h1 hvc hp1 hp2 hq
theorem rover_a (na nb:Bool) (ua va:Option Addr) (uc vc x y k:Nat) (ea eb place:Int) (w:World) (sg ex:Bool) (NQ:Nat) (hNQ:Hid (NQ=if sg && !ex then(x*2^k) / (y)+1 else(x*2^k) / (y))) (hsg:(!(na==nb))=sg) (h1:At w ua (dlen x) x) (hu:dlen x≤uc) (h2:At w va (dlen y) y) (hv:dlen y≤vc) (hx0:x≠0) (hy0:y≠0) (hx:dlen x≤3000) (hy:dlen y≤3000)
  (he1 : -200000≤ea) (he2:ea≤200000) (he3 : -200000≤eb) (he4:eb≤200000) (hp1 : -200000≤place) (hp2:place≤200000) (hk:ea - eb+place=(k:Int)) (hk2:k≤600000) (hr:decide ((x*2^k) % (y)=0)=ex) :
  Calls Tryz.prog 129 #[.agg #[.bool na,.slice ua (dlen x) uc,.int .i64 ea],.agg #[.bool nb,.slice va (dlen y) vc,.int .i64 eb],.int .i64 place] w fun r w'=>∃ A,r=.returned (.tuple #[A,.bool ex])∧NC w' w.heap.size A sg NQ (-place)∧Bw w w':=by
 obtain⟨W,hW⟩:∃ W,W=((w.alloc (.cells #[.bool na,.slice ua (dlen x) uc,.int .i64 ea] 45)).alloc (.cells #[.bool nb,.slice va (dlen y) vc,.int .i64 eb] 45)).alloc (.cells #[.bool false,.slice none 0 0,.int .i64 0] 45):=⟨_,rfl⟩
 obtain⟨hA,hBb,hC,hsz,hBW⟩:=boxes3 _ _ _ hW
 have HH:Hid ((W.heap[w.heap.size]?=some (.cells #[.bool na,.slice ua (dlen x) uc,.int .i64 ea] 45 (0,0))∧W.heap[w.heap.size+1]?=some (.cells #[.bool nb,.slice va (dlen y) vc,.int .i64 eb] 45 (0,0))∧W.heap[w.heap.size+1+1]?=some (.cells #[.bool false,.slice none 0 0,.int .i64 0] 45 (0,0)))∧W.heap.size=w.heap.size+1+1+1∧Bw w W):=⟨⟨hA,hBb,hC⟩,hsz,hBW⟩
 obtain⟨⟨a0,a1,a2⟩,-⟩:=box_cells29 hA
 obtain⟨⟨b0,b1,b2⟩,-⟩:=box_cells29 hBb
 have HI:Hid (Ir w (.slice ua (dlen x) uc) x∧Ir w (.slice va (dlen y) vc) y):=⟨⟨ua,uc,rfl,hu,h1⟩,⟨va,vc,rfl,hv,h2⟩⟩
 have HN:Hid ((x≠0∧y≠0∧dlen x≤3000∧dlen y≤3000∧k≤600000)∧decide ((x*2^k) % (y)=0)=ex):=⟨⟨hx0,hy0,hx,hy,hk2⟩,hr⟩
 have hxz:((dlen x:Int)==0)=false:=len_ne (n:=0) hx0
 clear hA hBb hC hsz hBW h1 h2 hr
 generalize hdx:dlen x=lx at *
 generalize hdy:dlen y=ly at *
 rw[hW] at a0 a1 a2 b0 b1 b2
 go_enter Tryz.func129,Tryz.ntmps129
 go_wp2
 go_quiet (fail)
 rw[←hW]
 have HBW1:Hid (Below W.heap.size W (W.drewN nq)):=(⟨rfl,rfl,rfl,Nat.le_refl _,fun _ _=>rfl⟩:Below W.heap.size W (W.drewN nq))
 obtain⟨W1,hW1⟩:∃ W1,W1=W.drewN nq:=⟨_,rfl⟩
 rw[←hW1] at HBW1 ⊢
 clear hW hW1 a0 a1 a2 b0 b1 b2
 have HIW:Hid (Ir W1 (.slice ua lx uc) x∧Ir W1 (.slice va ly vc) y):=⟨HI.out.1.later (HH.out.2.2.trans (HBW1.out.mono HH.out.2.2.size)),HI.out.2.later (HH.out.2.2.trans (HBW1.out.mono HH.out.2.2.size))⟩
 have ku:=rup HIW.out.1 k (by have:=HN.out.1;omega) (by omega)
 go_wp2_with fail
 refine ku.mono ?_
 rintro r w4 ⟨vu,rfl,hIu,hb4⟩
 have HB4:Hid (Bw W w4):=HBW1.out.trans (hb4.mono HBW1.out.size)
 have hl:dlen (x*2^k)≤25000:=by
  have:=shl_len (x:=x) (k:=k) rfl
  have:=HN.out.1
  omega
 have kd:=rdivide hIu (HIW.out.2.later hb4) (Nat.mul_ne_zero HN.out.1.1 (by have:=Nat.two_pow_pos k;omega)) HN.out.1.2.1 (by omega) (by have:=HN.out.1;omega)
 have HO:Hid (Ir w4 vu (x*2^k)):=hIu
 clear ku hIu hb4
 go_wp2_with fail
 refine kd.mono ?_
 rintro r w5 ⟨vq,vr,rfl,hIq,hIr,hb5⟩
 have HB5:Hid (Bw W w5):=HB4.out.trans (hb5.mono HB4.out.size)
 obtain⟨⟨a0,a1,a2⟩,-⟩:=box_cells29 (box_later HH.out.1.1 HB5.out (by have:=HH.out.2.1;omega))
 obtain⟨⟨b0,b1,b2⟩,-⟩:=box_cells29 (box_later HH.out.1.2.1 HB5.out (by have:=HH.out.2.1;omega))
 obtain⟨rr,rcap,rfl,hrc,hrA⟩:=hIr
 have hql:dlen ((x*2^k) / (y))≤30000:=Nat.le_trans (dlen_mono (Nat.div_le_self _ _)) (by omega)
 have kn:=rnorm (neg:=sg) (e := -place) hIq (by omega) (by omega)
 have HQL:Hid (dlen ((x*2^k) / (y))≤30000):=hql
 have hrl:((dlen ((x*2^k) % (y)):Int)==0)=ex:=by
  rw[←HN.out.2]
  by_cases hz:(x*2^k) % (y)=0
  ·rw[hz,dlen_zero];rfl
  ·rw[len_ne (n:=0) hz,decide_eq_false hz]
 clear kd hIq hb5 hrA hql hl
 generalize hdr:dlen ((x*2^k) % (y))=lr at *
 go_wp2_with fail
 refine kn.mono ?_
 rintro r w6 ⟨A,rfl,hN6,hb6⟩
 obtain⟨s6,ao6,n6,cap6,ex6,rfl⟩:=hN6.shape
 have HB6:Hid (Bw W w6):=HB5.out.trans (hb6.mono HB5.out.size)
 have HN6:Hid (NC w6 w5.heap.size (.agg #[.bool s6,.slice ao6 n6 cap6,.int .i64 ex6]) sg ((x*2^k) / (y)) (-place)):=hN6
 obtain⟨w7,hw7⟩:∃ w7,w7=w6.alloc (.cells #[.bool s6,.slice ao6 n6 cap6,.int .i64 ex6] 45):=⟨_,rfl⟩
 have hB67:Bw w6 w7:=by rw[hw7];exact(Below.refl _ _).alloc (Nat.le_refl _) _
 have HB7:Hid (Bw W w7):=HB6.out.trans (hB67.mono HB6.out.size)
 have hbox:w7.heap[w6.heap.size]?=some (.cells #[.bool s6,.slice ao6 n6 cap6,.int .i64 ex6] 45 (0,0)):=by rw[hw7];exact heap_alloc_new _ _
 have HBX:Hid (w7.heap[w6.heap.size]?=some (.cells #[.bool s6,.slice ao6 n6 cap6,.int .i64 ex6] 45 (0,0))∧Bw w6 w7):=⟨hbox,hB67⟩
 have hres:=box_later HH.out.1.2.2 HB7.out (by have:=HH.out.2.1;omega)
 have HRES:Hid (w7.heap[w.heap.size+1+1]?=some (.cells #[.bool false,.slice none 0 0,.int .i64 0] 45 (0,0))):=hres
 obtain⟨⟨c0,c1,c2⟩,c3,c4,c5⟩:=box_cells29 hres
 obtain⟨⟨d0,d1,d2⟩,d3,d4,d5⟩:=box_cells29 hbox
 clear kn hN6 hb6 hbox hres hB67 a0 a1 a2 b0 b1 b2
 rw[hw7] at c0 c1 c2 c3 c4 c5 d0 d1 d2 d3 d4 d5
 cases ex
 ·cases sg
  ·obtain rfl:NQ=(x*2^k) / (y):=hNQ.out
   go_wp2
   rw[←hw7]
   refine bodyPost_ret (results_cell_tmp_row rfl _ _ (w.heap.size+1+1) 45 #[.bool s6,.slice ao6 n6 cap6,.int .i64 ex6] (0,0) _ rfl (store3_29 _ _ _ HRES.out) Tryz.underlying45 rfl Tryz.info45) rfl ?_
   have q1:=HH.out.2.1
   have q2:=HB5.out.size
   exact⟨_,rfl,((HN6.out.later HBX.out.2).store (by omega) _ _ _).mono (by omega),below_store3 (HH.out.2.2.trans (HB7.out.mono HH.out.2.2.size)) (by omega) _ _ _⟩
  ·obtain rfl:NQ=(x*2^k) / (y)+1:=hNQ.out
   have HK:Hid (∀ w',Bw w7 w'→(w'.cell? ⟨w6.heap.size,0,none⟩=some (.bool s6)∧w'.cell? ⟨w6.heap.size,1,none⟩=some (.slice ao6 n6 cap6)∧w'.cell? ⟨w6.heap.size,2,none⟩=some (.int .i64 ex6))):=fun w' hb=>(box_cells29 (box_later HBX.out.1 hb (by have:=HBX.out.1;exact(Array.getElem?_eq_some_iff.1 this).1))).1
   have kO:∀ w8,Bw w7 w8→Calls Tryz.prog 128 #[.int .i64 place] w8 fun r w'=>∃ g,r=.returned (.agg #[.bool false,.slice (some ⟨g,0,none⟩) 1 1,.int .i64 (-place)])∧Hid (At w' (some ⟨g,0,none⟩) 1 1)∧Bw w7 w'∧(w'.cell? ⟨w6.heap.size,0,none⟩=some (.bool s6)∧w'.cell? ⟨w6.heap.size,1,none⟩=some (.slice ao6 n6 cap6)∧w'.cell? ⟨w6.heap.size,2,none⟩=some (.int .i64 ex6)):=fun w8 hb=>(rone place w8 (by omega) (by omega)).mono fun r w' ⟨g,e1,e2,e3,e4⟩=>⟨g,e1,e3,hb.trans (e4.mono hb.size),HK.out w' (hb.trans (e4.mono hb.size))⟩
   have kL:∀ g w9,Hid (At w9 (some ⟨g,0,none⟩) 1 1)→Bw w7 w9→Calls Tryz.prog 57 #[.agg #[.bool s6,.slice ao6 n6 cap6,.int .i64 ex6],.agg #[.bool false,.slice (some ⟨g,0,none⟩) 1 1,.int .i64 (-place)]] w9 fun r w'=>∃ s ao n cap ex,r=.returned (.agg #[.bool s,.slice ao n cap,.int .i64 ex])∧Hid (NC w' w7.heap.size (.agg #[.bool s,.slice ao n cap,.int .i64 ex]) true ((x*2^k) / (y)+1) (-place))∧Bw w7 w'∧Hid (w'.heap[w6.heap.size]?=some (.cells #[.bool s6,.slice ao6 n6 cap6,.int .i64 ex6] 45 (0,0)))∧(w'.cell? ⟨w6.heap.size,0,none⟩=some (.bool s6)∧w'.cell? ⟨w6.heap.size,1,none⟩=some (.slice ao6 n6 cap6)∧w'.cell? ⟨w6.heap.size,2,none⟩=some (.int .i64 ex6))∧(w'.frozen? ⟨w6.heap.size,0,none⟩=false∧w'.frozen? ⟨w6.heap.size,1,none⟩=false∧w'.frozen? ⟨w6.heap.size,2,none⟩=false):=by
    intro g w9 hA hb
    refine(rless_nc ((HN6.out.later HBX.out.2).later hb) hA.out (Nat.le_refl _) (by omega) (by omega) HQL.out).mono ?_
    rintro r w10 ⟨A,rfl,hN,hb10⟩
    obtain⟨s,ao,n,cap,ex,rfl⟩:=hN.shape
    have hbb:=hb.trans (hb10.mono hb.size)
    have hblk:=box_later HBX.out.1 hbb (by have:=HBX.out.1;exact(Array.getElem?_eq_some_iff.1 this).1)
    obtain⟨f1,f2⟩:=box_cells29 hblk
    exact⟨s,ao,n,cap,ex,rfl,hN.mono hb.size,hbb,hblk,f1,f2⟩
   have hBR:Bw w7 w7.drew:=(Below.refl _ _).drew
   have e0:w7.cell? ⟨w6.heap.size,0,none⟩=some (.bool s6)∧w7.cell? ⟨w6.heap.size,1,none⟩=some (.slice ao6 n6 cap6)∧w7.cell? ⟨w6.heap.size,2,none⟩=some (.int .i64 ex6):=HK.out w7 (Below.refl _ _)
   go_upto_region 14 with fail
   rw[←hw7]
   clear hw7 c0 c1 c2 c3 c4 c5 d0 d1 d2 d3 d4 d5
   obtain⟨d0,d1,d2⟩:=e0
   go_cut [64] from 61 to 64 (fun v wx=>∃ s ao n cap ex,v=.agg #[.bool s,.slice ao n cap,.int .i64 ex]∧Hid (NC wx w7.heap.size (.agg #[.bool s,.slice ao n cap,.int .i64 ex]) true ((x*2^k) / (y)+1) (-place))∧Hid (wx.heap[w6.heap.size]?=some (.cells #[.bool s,.slice ao n cap,.int .i64 ex] 45 (0,0)))∧Hid (Below w6.heap.size w7 wx))
   case first =>
    go_region_with (first|(go_at_call 128;refine(kO _ (by first|(with_reducible assumption)|exact hBR|exact Below.refl _ _)).mono ?_;rintro r w8 ⟨g8,rfl,hA8,hb8,⟨y1,y2,y3⟩⟩)|(go_at_call 57;refine(kL _ _ hA8 (by with_reducible assumption)).mono ?_;rintro r w9 ⟨s9,ao9,n9,cap9,ex9,rfl,hN9,hb9,hblk9,⟨x1,x2,x3⟩,x4,x5,x6⟩))
    all_goals go_wp2_with fail
    all_goals go_meet
    all_goals exact⟨s9,ao9,n9,cap9,ex9,rfl,hN9.out.store (Array.getElem?_eq_some_iff.1 HBX.out.1).1 _ _ _,store3_29 _ _ _ hblk9.out,below_store3 (hb9.mono HBX.out.2.size) (Nat.le_refl _) _ _ _⟩
   case rest =>
    obtain⟨s9,ao9,n9,cap9,ex9,rfl,hN9,hB9,hL9⟩:=hcut
    obtain⟨wx,rfl⟩:∃ wx:World,wx=wc:=⟨_,rfl⟩
    have q1:=HH.out.2.1
    have q2:=HB6.out.size
    have q3:=HB7.out.size
    have HBx:Hid (Bw W wx):=HB7.out.trans (hL9.out.mono HB6.out.size)
    have hres:=box_later HH.out.1.2.2 HBx.out (by omega)
    have HRES2:Hid (wx.heap[w.heap.size+1+1]?=some (.cells #[.bool false,.slice none 0 0,.int .i64 0] 45 (0,0))):=hres
    obtain⟨⟨c0,c1,c2⟩,c3,c4,c5⟩:=box_cells29 hres
    clear d0 d1 d2
    obtain⟨⟨d0,d1,d2⟩,d3,d4,d5⟩:=box_cells29 hB9.out
    clear kO kL hBR hres
    go_wp2
    refine bodyPost_ret (results_cell_tmp_row rfl _ _ (w.heap.size+1+1) 45 #[.bool s9,.slice ao9 n9 cap9,.int .i64 ex9] (0,0) _ rfl (store3_29 _ _ _ HRES2.out) Tryz.underlying45 rfl Tryz.info45) rfl ?_
    exact⟨_,rfl,(hN9.out.store (by omega) _ _ _).mono (by omega),below_store3 (HH.out.2.2.trans (HBx.out.mono HH.out.2.2.size)) (by omega) _ _ _⟩
 ·obtain rfl:NQ=(x*2^k) / (y):=by have h:=hNQ.out;cases sg <;> exact h
  go_wp2
  rw[←hw7]
  refine bodyPost_ret (results_cell_tmp_row rfl _ _ (w.heap.size+1+1) 45 #[.bool s6,.slice ao6 n6 cap6,.int .i64 ex6] (0,0) _ rfl (store3_29 _ _ _ HRES.out) Tryz.underlying45 rfl Tryz.info45) rfl ?_
  have q1:=HH.out.2.1
  have q2:=HB5.out.size
  exact⟨_,rfl,((HN6.out.later HBX.out.2).store (by omega) _ _ _).mono (by omega),below_store3 (HH.out.2.2.trans (HB7.out.mono HH.out.2.2.size)) (by omega) _ _ _⟩
theorem rover_b (na nb:Bool) (ua va:Option Addr) (uc vc x y k:Nat) (ea eb place:Int) (w:World) (sg ex:Bool) (NQ:Nat) (hNQ:Hid (NQ=if sg && !ex then(x) / (y*2^k)+1 else(x) / (y*2^k))) (hsg:(!(na==nb))=sg) (h1:At w ua (dlen x) x) (hu:dlen x≤uc) (h2:At w va (dlen y) y) (hv:dlen y≤vc) (hx0:x≠0) (hy0:y≠0) (hx:dlen x≤3000) (hy:dlen y≤3000)
  (he1 : -200000≤ea) (he2:ea≤200000) (he3 : -200000≤eb) (he4:eb≤200000) (hp1 : -200000≤place) (hp2:place≤200000) (hk:ea - eb+place = -(k:Int)) (hk1:0<k) (hk2:k≤600000) (hr:decide ((x) % (y*2^k)=0)=ex) :
  Calls Tryz.prog 129 #[.agg #[.bool na,.slice ua (dlen x) uc,.int .i64 ea],.agg #[.bool nb,.slice va (dlen y) vc,.int .i64 eb],.int .i64 place] w fun r w'=>∃ A,r=.returned (.tuple #[A,.bool ex])∧NC w' w.heap.size A sg NQ (-place)∧Bw w w':=by
 obtain⟨W,hW⟩:∃ W,W=((w.alloc (.cells #[.bool na,.slice ua (dlen x) uc,.int .i64 ea] 45)).alloc (.cells #[.bool nb,.slice va (dlen y) vc,.int .i64 eb] 45)).alloc (.cells #[.bool false,.slice none 0 0,.int .i64 0] 45):=⟨_,rfl⟩
 obtain⟨hA,hBb,hC,hsz,hBW⟩:=boxes3 _ _ _ hW
 have HH:Hid ((W.heap[w.heap.size]?=some (.cells #[.bool na,.slice ua (dlen x) uc,.int .i64 ea] 45 (0,0))∧W.heap[w.heap.size+1]?=some (.cells #[.bool nb,.slice va (dlen y) vc,.int .i64 eb] 45 (0,0))∧W.heap[w.heap.size+1+1]?=some (.cells #[.bool false,.slice none 0 0,.int .i64 0] 45 (0,0)))∧W.heap.size=w.heap.size+1+1+1∧Bw w W):=⟨⟨hA,hBb,hC⟩,hsz,hBW⟩
 obtain⟨⟨a0,a1,a2⟩,-⟩:=box_cells29 hA
 obtain⟨⟨b0,b1,b2⟩,-⟩:=box_cells29 hBb
 have HI:Hid (Ir w (.slice ua (dlen x) uc) x∧Ir w (.slice va (dlen y) vc) y):=⟨⟨ua,uc,rfl,hu,h1⟩,⟨va,vc,rfl,hv,h2⟩⟩
 have HN:Hid ((x≠0∧y≠0∧dlen x≤3000∧dlen y≤3000∧k≤600000)∧decide ((x) % (y*2^k)=0)=ex):=⟨⟨hx0,hy0,hx,hy,hk2⟩,hr⟩
 have hxz:((dlen x:Int)==0)=false:=len_ne (n:=0) hx0
 clear hA hBb hC hsz hBW h1 h2 hr
 generalize hdx:dlen x=lx at *
 generalize hdy:dlen y=ly at *
 rw[hW] at a0 a1 a2 b0 b1 b2
 go_enter Tryz.func129,Tryz.ntmps129
 go_wp2
 go_quiet (fail)
 rw[←hW]
 have HBW1:Hid (Below W.heap.size W (W.drewN nq)):=(⟨rfl,rfl,rfl,Nat.le_refl _,fun _ _=>rfl⟩:Below W.heap.size W (W.drewN nq))
 obtain⟨W1,hW1⟩:∃ W1,W1=W.drewN nq:=⟨_,rfl⟩
 rw[←hW1] at HBW1 ⊢
 clear hW hW1 a0 a1 a2 b0 b1 b2
 have HIW:Hid (Ir W1 (.slice ua lx uc) x∧Ir W1 (.slice va ly vc) y):=⟨HI.out.1.later (HH.out.2.2.trans (HBW1.out.mono HH.out.2.2.size)),HI.out.2.later (HH.out.2.2.trans (HBW1.out.mono HH.out.2.2.size))⟩
 have ku:=rup HIW.out.2 k (by have:=HN.out.1;omega) (by omega)
 go_wp2_with fail
 refine ku.mono ?_
 rintro r w4 ⟨vu,rfl,hIu,hb4⟩
 have HB4:Hid (Bw W w4):=HBW1.out.trans (hb4.mono HBW1.out.size)
 have hl:dlen (y*2^k)≤25000:=by
  have:=shl_len (x:=y) (k:=k) rfl
  have:=HN.out.1
  omega
 have kd:=rdivide (HIW.out.1.later hb4) hIu HN.out.1.1 (Nat.mul_ne_zero HN.out.1.2.1 (by have:=Nat.two_pow_pos k;omega)) (by have:=HN.out.1;omega) (by omega)
 have HO:Hid (Ir w4 vu (y*2^k)):=hIu
 clear ku hIu hb4
 go_wp2_with fail
 refine kd.mono ?_
 rintro r w5 ⟨vq,vr,rfl,hIq,hIr,hb5⟩
 have HB5:Hid (Bw W w5):=HB4.out.trans (hb5.mono HB4.out.size)
 obtain⟨⟨a0,a1,a2⟩,-⟩:=box_cells29 (box_later HH.out.1.1 HB5.out (by have:=HH.out.2.1;omega))
 obtain⟨⟨b0,b1,b2⟩,-⟩:=box_cells29 (box_later HH.out.1.2.1 HB5.out (by have:=HH.out.2.1;omega))
 obtain⟨rr,rcap,rfl,hrc,hrA⟩:=hIr
 have hql:dlen ((x) / (y*2^k))≤30000:=Nat.le_trans (dlen_mono (Nat.div_le_self _ _)) (by have:=HN.out.1;omega)
 have kn:=rnorm (neg:=sg) (e := -place) hIq (by omega) (by omega)
 have HQL:Hid (dlen ((x) / (y*2^k))≤30000):=hql
 have hrl:((dlen ((x) % (y*2^k)):Int)==0)=ex:=by
  rw[←HN.out.2]
  by_cases hz:(x) % (y*2^k)=0
  ·rw[hz,dlen_zero];rfl
  ·rw[len_ne (n:=0) hz,decide_eq_false hz]
 clear kd hIq hb5 hrA hql hl
 generalize hdr:dlen ((x) % (y*2^k))=lr at *
 go_wp2_with fail
 refine kn.mono ?_
 rintro r w6 ⟨A,rfl,hN6,hb6⟩
 obtain⟨s6,ao6,n6,cap6,ex6,rfl⟩:=hN6.shape
 have HB6:Hid (Bw W w6):=HB5.out.trans (hb6.mono HB5.out.size)
 have HN6:Hid (NC w6 w5.heap.size (.agg #[.bool s6,.slice ao6 n6 cap6,.int .i64 ex6]) sg ((x) / (y*2^k)) (-place)):=hN6
 obtain⟨w7,hw7⟩:∃ w7,w7=w6.alloc (.cells #[.bool s6,.slice ao6 n6 cap6,.int .i64 ex6] 45):=⟨_,rfl⟩
 have hB67:Bw w6 w7:=by rw[hw7];exact(Below.refl _ _).alloc (Nat.le_refl _) _
 have HB7:Hid (Bw W w7):=HB6.out.trans (hB67.mono HB6.out.size)
 have hbox:w7.heap[w6.heap.size]?=some (.cells #[.bool s6,.slice ao6 n6 cap6,.int .i64 ex6] 45 (0,0)):=by rw[hw7];exact heap_alloc_new _ _
 have HBX:Hid (w7.heap[w6.heap.size]?=some (.cells #[.bool s6,.slice ao6 n6 cap6,.int .i64 ex6] 45 (0,0))∧Bw w6 w7):=⟨hbox,hB67⟩
 have hres:=box_later HH.out.1.2.2 HB7.out (by have:=HH.out.2.1;omega)
 have HRES:Hid (w7.heap[w.heap.size+1+1]?=some (.cells #[.bool false,.slice none 0 0,.int .i64 0] 45 (0,0))):=hres
 obtain⟨⟨c0,c1,c2⟩,c3,c4,c5⟩:=box_cells29 hres
 obtain⟨⟨d0,d1,d2⟩,d3,d4,d5⟩:=box_cells29 hbox
 clear kn hN6 hb6 hbox hres hB67 a0 a1 a2 b0 b1 b2
 rw[hw7] at c0 c1 c2 c3 c4 c5 d0 d1 d2 d3 d4 d5
 cases ex
 ·cases sg
  ·obtain rfl:NQ=(x) / (y*2^k):=hNQ.out
   go_wp2
   rw[←hw7]
   refine bodyPost_ret (results_cell_tmp_row rfl _ _ (w.heap.size+1+1) 45 #[.bool s6,.slice ao6 n6 cap6,.int .i64 ex6] (0,0) _ rfl (store3_29 _ _ _ HRES.out) Tryz.underlying45 rfl Tryz.info45) rfl ?_
   have q1:=HH.out.2.1
   have q2:=HB5.out.size
   exact⟨_,rfl,((HN6.out.later HBX.out.2).store (by omega) _ _ _).mono (by omega),below_store3 (HH.out.2.2.trans (HB7.out.mono HH.out.2.2.size)) (by omega) _ _ _⟩
  ·obtain rfl:NQ=(x) / (y*2^k)+1:=hNQ.out
   have HK:Hid (∀ w',Bw w7 w'→(w'.cell? ⟨w6.heap.size,0,none⟩=some (.bool s6)∧w'.cell? ⟨w6.heap.size,1,none⟩=some (.slice ao6 n6 cap6)∧w'.cell? ⟨w6.heap.size,2,none⟩=some (.int .i64 ex6))):=fun w' hb=>(box_cells29 (box_later HBX.out.1 hb (by have:=HBX.out.1;exact(Array.getElem?_eq_some_iff.1 this).1))).1
   have kO:∀ w8,Bw w7 w8→Calls Tryz.prog 128 #[.int .i64 place] w8 fun r w'=>∃ g,r=.returned (.agg #[.bool false,.slice (some ⟨g,0,none⟩) 1 1,.int .i64 (-place)])∧Hid (At w' (some ⟨g,0,none⟩) 1 1)∧Bw w7 w'∧(w'.cell? ⟨w6.heap.size,0,none⟩=some (.bool s6)∧w'.cell? ⟨w6.heap.size,1,none⟩=some (.slice ao6 n6 cap6)∧w'.cell? ⟨w6.heap.size,2,none⟩=some (.int .i64 ex6)):=fun w8 hb=>(rone place w8 (by omega) (by omega)).mono fun r w' ⟨g,e1,e2,e3,e4⟩=>⟨g,e1,e3,hb.trans (e4.mono hb.size),HK.out w' (hb.trans (e4.mono hb.size))⟩
   have kL:∀ g w9,Hid (At w9 (some ⟨g,0,none⟩) 1 1)→Bw w7 w9→Calls Tryz.prog 57 #[.agg #[.bool s6,.slice ao6 n6 cap6,.int .i64 ex6],.agg #[.bool false,.slice (some ⟨g,0,none⟩) 1 1,.int .i64 (-place)]] w9 fun r w'=>∃ s ao n cap ex,r=.returned (.agg #[.bool s,.slice ao n cap,.int .i64 ex])∧Hid (NC w' w7.heap.size (.agg #[.bool s,.slice ao n cap,.int .i64 ex]) true ((x) / (y*2^k)+1) (-place))∧Bw w7 w'∧Hid (w'.heap[w6.heap.size]?=some (.cells #[.bool s6,.slice ao6 n6 cap6,.int .i64 ex6] 45 (0,0)))∧(w'.cell? ⟨w6.heap.size,0,none⟩=some (.bool s6)∧w'.cell? ⟨w6.heap.size,1,none⟩=some (.slice ao6 n6 cap6)∧w'.cell? ⟨w6.heap.size,2,none⟩=some (.int .i64 ex6))∧(w'.frozen? ⟨w6.heap.size,0,none⟩=false∧w'.frozen? ⟨w6.heap.size,1,none⟩=false∧w'.frozen? ⟨w6.heap.size,2,none⟩=false):=by
    intro g w9 hA hb
    refine(rless_nc ((HN6.out.later HBX.out.2).later hb) hA.out (Nat.le_refl _) (by omega) (by omega) HQL.out).mono ?_
    rintro r w10 ⟨A,rfl,hN,hb10⟩
    obtain⟨s,ao,n,cap,ex,rfl⟩:=hN.shape
    have hbb:=hb.trans (hb10.mono hb.size)
    have hblk:=box_later HBX.out.1 hbb (by have:=HBX.out.1;exact(Array.getElem?_eq_some_iff.1 this).1)
    obtain⟨f1,f2⟩:=box_cells29 hblk
    exact⟨s,ao,n,cap,ex,rfl,hN.mono hb.size,hbb,hblk,f1,f2⟩
   have hBR:Bw w7 w7.drew:=(Below.refl _ _).drew
   have e0:w7.cell? ⟨w6.heap.size,0,none⟩=some (.bool s6)∧w7.cell? ⟨w6.heap.size,1,none⟩=some (.slice ao6 n6 cap6)∧w7.cell? ⟨w6.heap.size,2,none⟩=some (.int .i64 ex6):=HK.out w7 (Below.refl _ _)
   go_upto_region 14 with fail
   rw[←hw7]
   clear hw7 c0 c1 c2 c3 c4 c5 d0 d1 d2 d3 d4 d5
   obtain⟨d0,d1,d2⟩:=e0
   go_cut [64] from 61 to 64 (fun v wx=>∃ s ao n cap ex,v=.agg #[.bool s,.slice ao n cap,.int .i64 ex]∧Hid (NC wx w7.heap.size (.agg #[.bool s,.slice ao n cap,.int .i64 ex]) true ((x) / (y*2^k)+1) (-place))∧Hid (wx.heap[w6.heap.size]?=some (.cells #[.bool s,.slice ao n cap,.int .i64 ex] 45 (0,0)))∧Hid (Below w6.heap.size w7 wx))
   case first =>
    go_region_with (first|(go_at_call 128;refine(kO _ (by first|(with_reducible assumption)|exact hBR|exact Below.refl _ _)).mono ?_;rintro r w8 ⟨g8,rfl,hA8,hb8,⟨y1,y2,y3⟩⟩)|(go_at_call 57;refine(kL _ _ hA8 (by with_reducible assumption)).mono ?_;rintro r w9 ⟨s9,ao9,n9,cap9,ex9,rfl,hN9,hb9,hblk9,⟨x1,x2,x3⟩,x4,x5,x6⟩))
    all_goals go_wp2_with fail
    all_goals go_meet
    all_goals exact⟨s9,ao9,n9,cap9,ex9,rfl,hN9.out.store (Array.getElem?_eq_some_iff.1 HBX.out.1).1 _ _ _,store3_29 _ _ _ hblk9.out,below_store3 (hb9.mono HBX.out.2.size) (Nat.le_refl _) _ _ _⟩
   case rest =>
    obtain⟨s9,ao9,n9,cap9,ex9,rfl,hN9,hB9,hL9⟩:=hcut
    obtain⟨wx,rfl⟩:∃ wx:World,wx=wc:=⟨_,rfl⟩
    have q1:=HH.out.2.1
    have q2:=HB6.out.size
    have q3:=HB7.out.size
    have HBx:Hid (Bw W wx):=HB7.out.trans (hL9.out.mono HB6.out.size)
    have hres:=box_later HH.out.1.2.2 HBx.out (by omega)
    have HRES2:Hid (wx.heap[w.heap.size+1+1]?=some (.cells #[.bool false,.slice none 0 0,.int .i64 0] 45 (0,0))):=hres
    obtain⟨⟨c0,c1,c2⟩,c3,c4,c5⟩:=box_cells29 hres
    clear d0 d1 d2
    obtain⟨⟨d0,d1,d2⟩,d3,d4,d5⟩:=box_cells29 hB9.out
    clear kO kL hBR hres
    go_wp2
    refine bodyPost_ret (results_cell_tmp_row rfl _ _ (w.heap.size+1+1) 45 #[.bool s9,.slice ao9 n9 cap9,.int .i64 ex9] (0,0) _ rfl (store3_29 _ _ _ HRES2.out) Tryz.underlying45 rfl Tryz.info45) rfl ?_
    exact⟨_,rfl,(hN9.out.store (by omega) _ _ _).mono (by omega),below_store3 (HH.out.2.2.trans (HBx.out.mono HH.out.2.2.size)) (by omega) _ _ _⟩
 ·obtain rfl:NQ=(x) / (y*2^k):=by have h:=hNQ.out;cases sg <;> exact h
  go_wp2
  rw[←hw7]
  refine bodyPost_ret (results_cell_tmp_row rfl _ _ (w.heap.size+1+1) 45 #[.bool s6,.slice ao6 n6 cap6,.int .i64 ex6] (0,0) _ rfl (store3_29 _ _ _ HRES.out) Tryz.underlying45 rfl Tryz.info45) rfl ?_
  have q1:=HH.out.2.1
  have q2:=HB5.out.size
  exact⟨_,rfl,((HN6.out.later HBX.out.2).store (by omega) _ _ _).mono (by omega),below_store3 (HH.out.2.2.trans (HB7.out.mono HH.out.2.2.size)) (by omega) _ _ _⟩
theorem rover_0 (na nb:Bool) (ua va:Option Addr) (uc vn vc:Nat) (ea eb place:Int) (w:World) :
  Calls Tryz.prog 129 #[.agg #[.bool na,.slice ua 0 uc,.int .i64 ea],.agg #[.bool nb,.slice va vn vc,.int .i64 eb],.int .i64 place] w fun r w'=>r=.returned (.tuple #[.agg #[.bool false,.slice none 0 0,.int .i64 0],.bool true])∧Bw w w':=by
 obtain⟨W,hW⟩:∃ W,W=((w.alloc (.cells #[.bool na,.slice ua 0 uc,.int .i64 ea] 45)).alloc (.cells #[.bool nb,.slice va vn vc,.int .i64 eb] 45)).alloc (.cells #[.bool false,.slice none 0 0,.int .i64 0] 45):=⟨_,rfl⟩
 obtain⟨hA,hBb,hC,hsz,hBW⟩:=boxes3 _ _ _ hW
 have HH:Hid (W.heap[w.heap.size+1+1]?=some (.cells #[.bool false,.slice none 0 0,.int .i64 0] 45 (0,0))∧Bw w W):=⟨hC,hBW⟩
 obtain⟨⟨a0,a1,a2⟩,-⟩:=box_cells29 hA
 obtain⟨⟨c0,c1,c2⟩,c3,c4,c5⟩:=box_cells29 hC
 clear hA hBb hC hsz hBW
 rw[hW] at a0 a1 a2 c0 c1 c2 c3 c4 c5
 go_enter Tryz.func129,Tryz.ntmps129
 go_wp2
 rw[←hW]
 refine bodyPost_ret (results_cell_tmp_row rfl _ _ (w.heap.size+1+1) 45 #[.bool false,.slice none 0 0,.int .i64 0] (0,0) _ rfl HH.out.1 Tryz.underlying45 rfl Tryz.info45) rfl ?_
 exact⟨rfl,HH.out.2⟩
def ovX (x:Nat) (ea eb place:Int):Nat:=x*2^(ea+place - min (ea+place) eb).toNat
def ovY (y:Nat) (ea eb place:Int):Nat:=y*2^(eb - min (ea+place) eb).toNat
theorem rover {na nb:Bool} {ua va:Option Addr} {uc vc x y:Nat} {ea eb place:Int} {w:World} (h1:At w ua (dlen x) x) (hu:dlen x≤uc) (h2:At w va (dlen y) y) (hv:dlen y≤vc) (hy0:y≠0) (hx:dlen x≤3000) (hy:dlen y≤3000)
  (ha : -200000≤ea∧ea≤200000) (hb : -200000≤eb∧eb≤200000) (hp : -200000≤place∧place≤200000) {X Y:Nat} (hX:ovX x ea eb place=X) (hY:ovY y ea eb place=Y) :
  Calls Tryz.prog 129 #[.agg #[.bool na,.slice ua (dlen x) uc,.int .i64 ea],.agg #[.bool nb,.slice va (dlen y) vc,.int .i64 eb],.int .i64 place] w fun r w'=>∃ A,r=.returned (.tuple #[A,.bool (decide (X % Y=0))])∧NC w' w.heap.size A (na != nb) (if(na != nb) && !(decide (X % Y=0))then X / Y+1 else X / Y) (-place)∧Bw w w':=by
 by_cases hx0:x=0
 ·subst hx0
  have hX0:X=0:=by rw[←hX];unfold ovX;rw[Nat.zero_mul]
  rw[dlen_zero,hX0,Nat.zero_mod,Nat.zero_div]
  refine(rover_0 na nb ua va uc _ vc ea eb place w).mono ?_
  rintro r w' ⟨rfl,hb'⟩
  refine⟨_,rfl,⟨none,0,?_,?_,fun ad e=>by cases e⟩,hb'⟩
  ·simp[cn,dlen_zero]
  ·simp only[decide_true,Bool.not_true,Bool.and_false,Bool.false_eq_true,if_false]
   unfold cn;rw[if_pos rfl]
   exact⟨fun _=>.inr ⟨rfl,rfl⟩,⟨0,0,fun h=>by rw[dlen_zero] at h;omega,fun i hi=>by rw[dlen_zero] at hi;omega⟩,by rw[dlen_zero];exact Nat.le_refl _,by rw[dlen_zero];omega⟩
 ·by_cases hs:0≤ea - eb+place
  ·obtain⟨k,hk⟩:∃ k:Nat,ea - eb+place=(k:Int):=⟨(ea - eb+place).toNat,by omega⟩
   obtain rfl:x*2^k=X:=by rw[←hX];unfold ovX;rw[show(ea+place - min (ea+place) eb).toNat=k by omega]
   obtain rfl:y=Y:=by rw[←hY];unfold ovY;rw[show(eb - min (ea+place) eb).toNat=0 by omega,Nat.pow_zero,Nat.mul_one]
   exact rover_a na nb ua va uc vc x y k ea eb place w (na != nb) _ _ rfl rfl h1 hu h2 hv hx0 hy0 hx hy ha.1 ha.2 hb.1 hb.2 hp.1 hp.2 hk (by omega) rfl
  ·obtain⟨k,hk⟩:∃ k:Nat,ea - eb+place = -(k:Int):=⟨(-(ea - eb+place)).toNat,by omega⟩
   obtain rfl:x=X:=by rw[←hX];unfold ovX;rw[show(ea+place - min (ea+place) eb).toNat=0 by omega,Nat.pow_zero,Nat.mul_one]
   obtain rfl:y*2^k=Y:=by rw[←hY];unfold ovY;rw[show(eb - min (ea+place) eb).toNat=k by omega]
   exact rover_b na nb ua va uc vc x y k ea eb place w (na != nb) _ _ rfl rfl h1 hu h2 hv hx0 hy0 hx hy ha.1 ha.2 hb.1 hb.2 hp.1 hp.2 hk (by omega) (by omega) rfl
end Go.Proofs.YtapooodfgcjoaaaGreat
