/- Own work: contracts of the program's functions, part 9: W51 W52 FM FM2 F1 F6 F7 FM3 L6 L8 FM4 FM5 RT0 RT1 RT3 RT7 RY1 RY2 RY3 RY4 FM6 FM7 FM8 RY5 SA7. -/
import Derived.Test.YtokklnjoalkjaaaGreatDoorA8
import Derived.Test.YtokklnjoalkjaaaGreatDoorA1
import Derived.Test.YtokklnjoalkjaaaGreatDoorA4
import Derived.Test.YtokklnjoalkjaaaGreatDoorA6
import Derived.Test.YtokklnjoalkjaaaGreatDoorA7
import Derived.Deep.CutBlock

set_option maxHeartbeats 16000000
set_option maxRecDepth 200000
set_option linter.unusedVariables false
set_option linter.unusedSimpArgs false
namespace Go.Proofs.YtokklnjoalkjaaaGreatDoor
open Go.RowKit
theorem psqrt_e (ua:Option Addr) (un uc x k0 b:Nat) (ea mode h2:Int) (w:World) (hT:Tab32 w) (h1:Is w (.slice ua un uc) x) (hx:dlen x≤3000) (he1 : -65536≤ea) (he2:ea≤65536) (hm:mode=1∨mode=2∨mode=3) (hb:bl x=b) (hb2:b≤96000) (hk0:max 0 (128 - (b:Int))=(k0:Int)) (hk1:k0≤128) (hod:((ea - (k0:Int)).tmod 2 != 0)=false) (hh:(ea - (k0:Int)).tdiv 2=h2) (hh1 : -40000≤h2) (hh2:h2≤40000)
  (k43:∀ W g,Bw w W→W.heap[g]?=some (.cells #[.bool false,.slice ua un uc,.int .i64 ea] 45 (0,0))→Calls Tryz.prog 90 #[.slice (some ⟨g,0,none⟩) 1 1] W fun r w'=>r=.returned (.bool true)∧Bw W w') :
  Calls Tryz.prog 60 #[.agg #[.bool false,.slice ua un uc,.int .i64 ea],.int .i64 mode] w fun r w'=>∃ q,(q*q≤x*2^k0∧x*2^k0<(q+1)*(q+1))∧r=.returned (.tuple #[.float .f64 (tfF false (decide (q*q=x*2^k0)) q h2 mode),.int .i64 0])∧Bw w w':=by
 obtain⟨W,hW⟩:∃ W,W=w.alloc (.cells #[.bool false,.slice ua un uc,.int .i64 ea] 45):=⟨_,rfl⟩
 have hBW:Bw w W:=by rw[hW];exact(Below.refl _ _).alloc (Nat.le_refl _) _
 have hbA:W.heap[w.heap.size]?=some (.cells #[.bool false,.slice ua un uc,.int .i64 ea] 45 (0,0)):=by rw[hW];exact heap_alloc_new _ _
 have hsz:W.heap.size=w.heap.size+1:=by rw[hW];simp
 have k1:=k43 (W.alloc (.cells #[.bool false,.slice ua un uc,.int .i64 ea] 45)) (w.heap.size+1) (hBW.alloc hBW.size _) (by rw[←hsz];exact heap_alloc_new _ _)
 have HX:Hid (Bw w W∧W.heap.size=w.heap.size+1∧W.heap[w.heap.size]?=some (.cells #[.bool false,.slice ua un uc,.int .i64 ea] 45 (0,0))):=⟨hBW,hsz,hbA⟩
 have HT:Hid (Tab32 w∧Is w (.slice ua un uc) x∧dlen x≤3000):=⟨hT,h1,hx⟩
 have k48:=fun W=>c48 mode hm W
 clear hBW hsz hbA k43 hT h1 hx
 go_enter Tryz.func60,Tryz.ntmps60
 go_wp2_with fail
 rw[←hW]
 clear hW
 refine k1.mono ?_
 rintro r w1 ⟨rfl,hb1⟩
 have HB1:Hid (Bw W w1):=((Below.refl W.heap.size W).alloc (Nat.le_refl _) _).trans (hb1.mono (by simp))
 have HW1:Hid (Bw w w1):=HX.out.1.trans (HB1.out.mono HX.out.1.size)
 obtain⟨⟨a0,a1,a2⟩,-⟩:=box_cells (box_later HX.out.2.2 HB1.out (by have:=HX.out.2.1;omega))
 clear k1 hb1
 go_wp2_with fail
 refine(k48 w1).mono ?_
 rintro r w1' ⟨rfl,hw⟩
 replace hw:=hw.symm
 subst hw
 clear k48
 have kl:=c74 (HT.out.2.1.later HW1.out) (by have:=HT.out.2.2;omega)
 rw[hb] at kl
 go_wp2_with fail
 refine kl.mono ?_
 rintro r w1' ⟨rfl,hw⟩
 replace hw:=hw.symm
 subst hw
 clear kl
 have ks:=c109 (HT.out.2.1.later HW1.out) k0 (by have:=HT.out.2.2;omega) (by omega)
 go_wp2_with fail
 refine ks.mono ?_
 rintro r w2 ⟨v2,rfl,ho2,hb2'⟩
 have HB2:Hid (Bw W w2):=HB1.out.trans (hb2'.mono HB1.out.size)
 have hl:dlen (x*2^k0)≤4000:=by have:=shl_len (x:=x) (k:=k0) rfl;have:=HT.out.2.2;omega
 have kr:=c112 ho2.is (by omega)
 clear ks ho2 hb2' a0 a1 a2
 go_wp2_with fail
 refine kr.mono ?_
 rintro r w3 ⟨v3,q,rfl,ho3,hq1,hq2,hb3⟩
 have HB3:Hid (Bw W w3):=HB2.out.trans (hb3.mono HB2.out.size)
 have HQ:Hid (q*q≤x*2^k0∧x*2^k0<(q+1)*(q+1)):=⟨hq1,hq2⟩
 obtain⟨⟨a0,a1,a2⟩,-⟩:=box_cells (box_later HX.out.2.2 HB3.out (by have:=HX.out.2.1;omega))
 obtain⟨bx,hbx⟩:∃ bx:Bool,bx=decide (q*q=x*2^k0):=⟨_,rfl⟩
 have kt:=c110 (neg:=false) (exact:=bx) (e:=h2) (mode:=mode) (HT.out.1.later (HX.out.1.trans (HB3.out.mono HX.out.1.size))) ho3.is (Nat.le_trans (dlen_mono (Nat.le_trans (Nat.le_mul_self q) hq1)) (by omega)) (by omega) (by omega)
 rw[←hbx]
 have HBX:Hid (bx=decide (q*q=x*2^k0)):=hbx
 clear kr ho3 hb3 hq1 hq2 hbx hl
 go_wp2_with fail
 refine kt.mono ?_
 rintro r w4 ⟨rfl,hb4⟩
 have HB4:Hid (Bw W w4):=HB3.out.trans (hb4.mono HB3.out.size)
 clear kt hb4
 go_wp2
 refine bodyPost_ret (results_tmp2 rfl _ _ _) rfl ?_
 exact⟨q,HQ.out,congrArg (fun b=>Ending.returned (Value.tuple #[.float .f64 (tfF false b q h2 mode),.int .i64 0])) HBX.out,HX.out.1.trans (HB4.out.mono HX.out.1.size)⟩
theorem psqrt_o (ua:Option Addr) (un uc x k0 b:Nat) (ea mode h2:Int) (w:World) (hT:Tab32 w) (h1:Is w (.slice ua un uc) x) (hx:dlen x≤3000) (he1 : -65536≤ea) (he2:ea≤65536) (hm:mode=1∨mode=2∨mode=3) (hb:bl x=b) (hb2:b≤96000) (hk0:max 0 (128 - (b:Int))=(k0:Int)) (hk1:k0≤128) (hod:((ea - (k0:Int)).tmod 2 != 0)=true) (hh:(ea - ((k0:Int)+1)).tdiv 2=h2) (hh1 : -40000≤h2) (hh2:h2≤40000)
  (k43:∀ W g,Bw w W→W.heap[g]?=some (.cells #[.bool false,.slice ua un uc,.int .i64 ea] 45 (0,0))→Calls Tryz.prog 90 #[.slice (some ⟨g,0,none⟩) 1 1] W fun r w'=>r=.returned (.bool true)∧Bw W w') :
  Calls Tryz.prog 60 #[.agg #[.bool false,.slice ua un uc,.int .i64 ea],.int .i64 mode] w fun r w'=>∃ q,(q*q≤x*2^(k0+1)∧x*2^(k0+1)<(q+1)*(q+1))∧r=.returned (.tuple #[.float .f64 (tfF false (decide (q*q=x*2^(k0+1))) q h2 mode),.int .i64 0])∧Bw w w':=by
 obtain⟨W,hW⟩:∃ W,W=w.alloc (.cells #[.bool false,.slice ua un uc,.int .i64 ea] 45):=⟨_,rfl⟩
 have hBW:Bw w W:=by rw[hW];exact(Below.refl _ _).alloc (Nat.le_refl _) _
 have hbA:W.heap[w.heap.size]?=some (.cells #[.bool false,.slice ua un uc,.int .i64 ea] 45 (0,0)):=by rw[hW];exact heap_alloc_new _ _
 have hsz:W.heap.size=w.heap.size+1:=by rw[hW];simp
 have k1:=k43 (W.alloc (.cells #[.bool false,.slice ua un uc,.int .i64 ea] 45)) (w.heap.size+1) (hBW.alloc hBW.size _) (by rw[←hsz];exact heap_alloc_new _ _)
 have HX:Hid (Bw w W∧W.heap.size=w.heap.size+1∧W.heap[w.heap.size]?=some (.cells #[.bool false,.slice ua un uc,.int .i64 ea] 45 (0,0))):=⟨hBW,hsz,hbA⟩
 have HT:Hid (Tab32 w∧Is w (.slice ua un uc) x∧dlen x≤3000):=⟨hT,h1,hx⟩
 have k48:=fun W=>c48 mode hm W
 clear hBW hsz hbA k43 hT h1 hx
 go_enter Tryz.func60,Tryz.ntmps60
 go_wp2_with fail
 rw[←hW]
 clear hW
 refine k1.mono ?_
 rintro r w1 ⟨rfl,hb1⟩
 have HB1:Hid (Bw W w1):=((Below.refl W.heap.size W).alloc (Nat.le_refl _) _).trans (hb1.mono (by simp))
 have HW1:Hid (Bw w w1):=HX.out.1.trans (HB1.out.mono HX.out.1.size)
 obtain⟨⟨a0,a1,a2⟩,-⟩:=box_cells (box_later HX.out.2.2 HB1.out (by have:=HX.out.2.1;omega))
 clear k1 hb1
 go_wp2_with fail
 refine(k48 w1).mono ?_
 rintro r w1' ⟨rfl,hw⟩
 replace hw:=hw.symm
 subst hw
 clear k48
 have kl:=c74 (HT.out.2.1.later HW1.out) (by have:=HT.out.2.2;omega)
 rw[hb] at kl
 go_wp2_with fail
 refine kl.mono ?_
 rintro r w1' ⟨rfl,hw⟩
 replace hw:=hw.symm
 subst hw
 clear kl
 have ks:=c109 (HT.out.2.1.later HW1.out) (k0+1) (by have:=HT.out.2.2;omega) (by omega)
 rw[show((k0+1:Nat):Int)=(k0:Int)+1 by omega] at ks
 go_wp2_with fail
 refine ks.mono ?_
 rintro r w2 ⟨v2,rfl,ho2,hb2'⟩
 have HB2:Hid (Bw W w2):=HB1.out.trans (hb2'.mono HB1.out.size)
 have hl:dlen (x*2^(k0+1))≤4000:=by have:=shl_len (x:=x) (k:=(k0+1)) rfl;have:=HT.out.2.2;omega
 have kr:=c112 ho2.is (by omega)
 clear ks ho2 hb2' a0 a1 a2
 go_wp2_with fail
 refine kr.mono ?_
 rintro r w3 ⟨v3,q,rfl,ho3,hq1,hq2,hb3⟩
 have HB3:Hid (Bw W w3):=HB2.out.trans (hb3.mono HB2.out.size)
 have HQ:Hid (q*q≤x*2^(k0+1)∧x*2^(k0+1)<(q+1)*(q+1)):=⟨hq1,hq2⟩
 obtain⟨⟨a0,a1,a2⟩,-⟩:=box_cells (box_later HX.out.2.2 HB3.out (by have:=HX.out.2.1;omega))
 obtain⟨bx,hbx⟩:∃ bx:Bool,bx=decide (q*q=x*2^(k0+1)):=⟨_,rfl⟩
 have kt:=c110 (neg:=false) (exact:=bx) (e:=h2) (mode:=mode) (HT.out.1.later (HX.out.1.trans (HB3.out.mono HX.out.1.size))) ho3.is (Nat.le_trans (dlen_mono (Nat.le_trans (Nat.le_mul_self q) hq1)) (by omega)) (by omega) (by omega)
 rw[←hbx]
 have HBX:Hid (bx=decide (q*q=x*2^(k0+1))):=hbx
 clear kr ho3 hb3 hq1 hq2 hbx hl
 go_wp2_with fail
 refine kt.mono ?_
 rintro r w4 ⟨rfl,hb4⟩
 have HB4:Hid (Bw W w4):=HB3.out.trans (hb4.mono HB3.out.size)
 clear kt hb4
 go_wp2
 refine bodyPost_ret (results_tmp2 rfl _ _ _) rfl ?_
 exact⟨q,HQ.out,congrArg (fun b=>Ending.returned (Value.tuple #[.float .f64 (tfF false b q h2 mode),.int .i64 0])) HBX.out,HX.out.1.trans (HB4.out.mono HX.out.1.size)⟩
theorem pratio_1 (na nb:Bool) (ua va:Option Addr) (un uc vn vc x y k bx by':Nat) (ea eb mode:Int) (sg:Bool) (w:World) (hsg:Hid ((!(na==nb))=sg)) (hT:Tab32 w) (h1:Is w (.slice ua un uc) x) (h2:Is w (.slice va vn vc) y) (hx:dlen x≤3000) (hy:dlen y≤3000) (hy0:y≠0) (he1 : -65536≤ea) (he2:ea≤65536) (he3 : -65536≤eb) (he4:eb≤65536) (hm:mode=1∨mode=2∨mode=3)
  (hbx:bl x=bx) (hby:bl y=by') (hbx2:bx≤96000) (hby2:by'≤96000) (hk:max 0 (64+(by':Int) - (bx:Int))=(k:Int)) (hk2:k≤100000) (hn0:((un:Int)==0)=false) (hn1:((vn:Int)==0)=false)
  (k67:∀ W g,Bw w W→W.heap[g]?=some (.cells #[.bool na,.slice ua un uc,.int .i64 ea,.bool nb,.slice va vn vc,.int .i64 eb] 45 (0,0))→Calls Tryz.prog 90 #[.slice (some ⟨g,0,none⟩) 2 2] W fun r w'=>r=.returned (.bool true)∧Bw W w') :
  Calls Tryz.prog 58 #[.agg #[.bool na,.slice ua un uc,.int .i64 ea],.agg #[.bool nb,.slice va vn vc,.int .i64 eb],.int .i64 mode] w fun r w'=>r=.returned (.tuple #[.float .f64 (tfF sg (decide (x*2^k % y=0)) (x*2^k / y) (ea - eb - k) mode),.int .i64 0])∧Bw w w':=by
 obtain⟨W,hW⟩:∃ W,W=(w.alloc (.cells #[.bool na,.slice ua un uc,.int .i64 ea] 45)).alloc (.cells #[.bool nb,.slice va vn vc,.int .i64 eb] 45):=⟨_,rfl⟩
 have hBW:Bw w W:=by rw[hW];exact((Below.refl _ _).alloc (Nat.le_refl _) _).alloc (by simp) _
 have hbA:W.heap[w.heap.size]?=some (.cells #[.bool na,.slice ua un uc,.int .i64 ea] 45 (0,0)):=by
  rw[hW,Below.heap_alloc _ _ _ (by simp)];exact heap_alloc_new _ _
 have hbB:W.heap[w.heap.size+1]?=some (.cells #[.bool nb,.slice va vn vc,.int .i64 eb] 45 (0,0)):=by
  have:=heap_alloc_new (w.alloc (.cells #[.bool na,.slice ua un uc,.int .i64 ea] 45)) (.cells #[.bool nb,.slice va vn vc,.int .i64 eb] 45)
  rw[hW];simpa using this
 have hsz:W.heap.size=w.heap.size+1+1:=by rw[hW];simp
 have k1:=k67 (W.alloc (.cells #[.bool na,.slice ua un uc,.int .i64 ea,.bool nb,.slice va vn vc,.int .i64 eb] 45)) (w.heap.size+1+1) (hBW.alloc hBW.size _) (by rw[←hsz];exact heap_alloc_new _ _)
 have HX:Hid (Bw w W∧W.heap.size=w.heap.size+1+1∧W.heap[w.heap.size]?=some (.cells #[.bool na,.slice ua un uc,.int .i64 ea] 45 (0,0))∧W.heap[w.heap.size+1]?=some (.cells #[.bool nb,.slice va vn vc,.int .i64 eb] 45 (0,0))):=⟨hBW,hsz,hbA,hbB⟩
 have HT:Hid (Tab32 w∧Is w (.slice ua un uc) x∧dlen x≤3000∧Is w (.slice va vn vc) y∧dlen y≤3000∧y≠0):=⟨hT,h1,hx,h2,hy,hy0⟩
 have k48:=fun W=>c48 mode hm W
 clear hBW hsz hbA hbB k67 hT h1 hx h2 hy hy0
 go_enter Tryz.func58,Tryz.ntmps58
 go_wp2_with fail
 rw[←hW]
 clear hW
 refine k1.mono ?_
 rintro r w1 ⟨rfl,hb1⟩
 have HB1:Hid (Bw W w1):=((Below.refl W.heap.size W).alloc (Nat.le_refl _) _).trans (hb1.mono (by simp))
 have HW1:Hid (Bw w w1):=HX.out.1.trans (HB1.out.mono HX.out.1.size)
 obtain⟨⟨a0,a1,a2⟩,-⟩:=box_cells (box_later HX.out.2.2.1 HB1.out (by have:=HX.out.2.1;omega))
 obtain⟨⟨b0,b1,b2⟩,-⟩:=box_cells (box_later HX.out.2.2.2 HB1.out (by have:=HX.out.2.1;omega))
 clear k1 hb1
 go_wp2_with fail
 refine(k48 w1).mono ?_
 rintro r w1' ⟨rfl,hw⟩
 replace hw:=hw.symm
 subst hw
 clear k48
 have kla:∀ d,Calls Tryz.prog 97 #[.slice ua un uc] (w1.drewN d) fun e w'=>e=.returned (.int .i64 (bx:Nat))∧w'=w1.drewN d:=fun d=>by
  have:=c74 (w:=w1.drewN d) (HT.out.2.1.later (HW1.out.trans ⟨rfl,rfl,rfl,Nat.le_refl _,fun _ _=>rfl⟩)) (by have:=HT.out.2.2;omega)
  rw[hbx] at this;exact this
 have klb:∀ d,Calls Tryz.prog 97 #[.slice va vn vc] (w1.drewN d) fun e w'=>e=.returned (.int .i64 (by':Nat))∧w'=w1.drewN d:=fun d=>by
  have:=c74 (w:=w1.drewN d) (HT.out.2.2.2.1.later (HW1.out.trans ⟨rfl,rfl,rfl,Nat.le_refl _,fun _ _=>rfl⟩)) (by have:=HT.out.2.2;omega)
  rw[hby] at this;exact this
 go_wp2
 go_quiet (first|(go_at_call 97;first|(with_reducible refine Calls.quiet_of_same (klb _))|(with_reducible refine Calls.quiet_of_same (kla _))))
 have HB2:Hid (Below W.heap.size W (w1.drewN nq)):=HB1.out.trans ⟨rfl,rfl,rfl,Nat.le_refl _,fun _ _=>rfl⟩
 obtain⟨w2,hw2⟩:∃ w2,w2=w1.drewN nq:=⟨_,rfl⟩
 rw[←hw2] at HB2 ⊢
 clear hw2 kla klb a0 a1 a2 b0 b1 b2
 have HK:Hid (∀ w',Bw w2 w'→((w'.cell? ⟨w.heap.size,0,none⟩=some (.bool na)∧w'.cell? ⟨w.heap.size,1,none⟩=some (.slice ua un uc)∧w'.cell? ⟨w.heap.size,2,none⟩=some (.int .i64 ea))∧(w'.cell? ⟨w.heap.size+1,0,none⟩=some (.bool nb)∧w'.cell? ⟨w.heap.size+1,1,none⟩=some (.slice va vn vc)∧w'.cell? ⟨w.heap.size+1,2,none⟩=some (.int .i64 eb)))):=fun w' hb=>⟨(box_cells (box_later HX.out.2.2.1 (HB2.out.trans (hb.mono HB2.out.size)) (by have:=HX.out.2.1;omega))).1,(box_cells (box_later HX.out.2.2.2 (HB2.out.trans (hb.mono HB2.out.size)) (by have:=HX.out.2.1;omega))).1⟩
 obtain⟨⟨a0,a1,a2⟩,b0,b1,b2⟩:=HK.out w2 (Below.refl _ _)
 have hBR:Bw w2 w2.drew:=(Below.refl _ _).drew
 have hl:dlen (x*2^k)≤7000:=by have:=shl_len (x:=x) (k:=k) rfl;have:=HT.out.2.2;omega
 have HL:Hid (dlen (x*2^k)≤7000):=hl
 have kS:∀ w',Bw w2 w'→Calls Tryz.prog 99 #[.slice ua un uc,.int .i64 (k:Int)] w' fun e w''=>∃ v,e=.returned v∧Hid (Is w'' v (x*2^k))∧Bw w2 w'':=fun w' hb=>(c109 (HT.out.2.1.later (HX.out.1.trans ((HB2.out.trans (hb.mono HB2.out.size)).mono HX.out.1.size))) k (by have:=HT.out.2.2;omega) (by omega)).mono fun r w'' ⟨v,e1,e2,e3⟩=>⟨v,e1,e2.is,hb.trans (e3.mono hb.size)⟩
 have kD:∀ v w',Hid (Is w' v (x*2^k))→Bw w2 w'→Calls Tryz.prog 98 #[v,.slice va vn vc] w' fun e w''=>∃ q,e=.returned (.tuple #[q,.bool (decide (x*2^k % y=0))])∧Hid (Is w'' q (x*2^k / y))∧Bw w2 w'':=fun v w' hI hb=>(c100 hI.out (HT.out.2.2.2.1.later (HX.out.1.trans ((HB2.out.trans (hb.mono HB2.out.size)).mono HX.out.1.size))) (by have:=HL.out;omega) (by have:=HT.out.2.2.2.2;omega) HT.out.2.2.2.2.2).mono fun r w'' ⟨q,e1,e2,e3⟩=>⟨q,e1,e2.is,hb.trans (e3.mono hb.size)⟩
 obtain⟨xb,hxb⟩:∃ xb:Bool,xb=decide (x*2^k % y=0):=⟨_,rfl⟩
 rw[←hxb] at kD
 have HXB:Hid (xb=decide (x*2^k % y=0)):=hxb
 clear hxb hl
 go_upto_region 8 with fail
 go_cut [9,10] from 42 to 50 (fun q b wx=>b=.bool xb∧Hid (Is wx q (x*2^k / y))∧Hid (Bw w2 wx))
 case first =>
  go_region_held3 (fun w'=>((w'.cell? ⟨w.heap.size,0,none⟩=some (.bool na)∧w'.cell? ⟨w.heap.size,1,none⟩=some (.slice ua un uc)∧w'.cell? ⟨w.heap.size,2,none⟩=some (.int .i64 ea))∧(w'.cell? ⟨w.heap.size+1,0,none⟩=some (.bool nb)∧w'.cell? ⟨w.heap.size+1,1,none⟩=some (.slice va vn vc)∧w'.cell? ⟨w.heap.size+1,2,none⟩=some (.int .i64 eb)))) (first|(with_reducible assumption)|exact⟨⟨a0,a1,a2⟩,b0,b1,b2⟩|(refine HK.out _ ?_;with_reducible assumption)|go_keep)
   (first|(go_at_call 99;refine(kS _ (by first|(with_reducible assumption)|exact hBR)).mono ?_;rintro r w5 ⟨v5,rfl,hI5,hb5⟩)|(go_at_call 98;refine(kD _ _ hI5 (by with_reducible assumption)).mono ?_;rintro r w6 ⟨v6,rfl,hI6,hb6⟩))
  all_goals go_wp2_with fail
  all_goals go_meet
  all_goals exact⟨rfl,hI6,hb6⟩
 case rest =>
  obtain⟨rfl,hI,hB⟩:=hcut
  obtain⟨w3,rfl⟩:∃ w3:World,w3=wc:=⟨_,rfl⟩
  have HB3:Hid (Bw W w3):=HB2.out.trans (hB.out.mono HB2.out.size)
  clear a0 a1 a2 b0 b1 b2 kS kD hBR
  obtain⟨⟨a0,a1,a2⟩,b0,b1,b2⟩:=HK.out w3 hB.out
  have kt:=c110 (neg:=sg) (exact:=xb) (e:=ea - eb - k) (mode:=mode) (HT.out.1.later (HX.out.1.trans (HB3.out.mono HX.out.1.size))) hI.out (Nat.le_trans (dlen_mono (Nat.div_le_self _ _)) (by have:=HL.out;omega)) (by omega) (by omega)
  go_wp2_with fail
  rw[hsg.out]
  refine kt.mono ?_
  rintro r w4 ⟨rfl,hb4⟩
  have HB4:Hid (Bw W w4):=HB3.out.trans (hb4.mono HB3.out.size)
  clear kt hb4
  go_wp2
  refine bodyPost_ret (results_tmp2 rfl _ _ _) rfl ?_
  exact⟨congrArg (fun b=>Ending.returned (Value.tuple #[.float .f64 (tfF sg b (x*2^k / y) (ea - eb - k) mode),.int .i64 0])) HXB.out,HX.out.1.trans (HB4.out.mono HX.out.1.size)⟩
end Go.Proofs.YtokklnjoalkjaaaGreatDoor
namespace Go.Proofs.YtokklnjoalkjaaaGreatDoor
def bv (b:Nat):Nat:=if b<4503599627370496 then b else(4503599627370496+b % 4503599627370496)*2^(b / 4503599627370496 - 1)
theorem bv_at {j q:Nat} (h:(j=0∧q≤9007199254740992)∨(4503599627370496≤q∧q≤9007199254740992)):bv (j*4503599627370496+q)=q*2^j:=by
 unfold bv
 by_cases h1:j*4503599627370496+q<4503599627370496
 ·have hj:j=0:=by omega
  subst hj
  rw[if_pos h1];simp
 ·rw[if_neg h1]
  by_cases h2:q=9007199254740992
  ·subst h2
   rw[show(j*4503599627370496+9007199254740992) % 4503599627370496=0 by omega,show(j*4503599627370496+9007199254740992) / 4503599627370496 - 1=j+1 by omega,Nat.pow_succ]
   omega
  ·have h3:4503599627370496≤q:=by omega
   rw[show(j*4503599627370496+q) % 4503599627370496=q - 4503599627370496 by omega,show(j*4503599627370496+q) / 4503599627370496 - 1=j by omega]
   rw[show 4503599627370496+(q - 4503599627370496)=q by omega]
theorem bv_form (b:Nat):∃ j q,b=j*4503599627370496+q∧bv b=q*2^j∧bv (b+1)=(q+1)*2^j:=by
 by_cases h:b<4503599627370496
 ·refine⟨0,b,by omega,?_,?_⟩
  ·have:=bv_at (j:=0) (q:=b) (.inl ⟨rfl,by omega⟩);simpa using this
  ·have:=bv_at (j:=0) (q:=b+1) (.inl ⟨rfl,by omega⟩);simpa using this
 ·have e:b=(b / 4503599627370496 - 1)*4503599627370496+(4503599627370496+b % 4503599627370496):=by omega
  refine⟨_,_,e,?_,?_⟩
  ·have:=bv_at (j:=b / 4503599627370496 - 1) (q:=4503599627370496+b % 4503599627370496) (.inr ⟨by omega,by omega⟩)
   rw[←e] at this;exact this
  ·have:=bv_at (j:=b / 4503599627370496 - 1) (q:=4503599627370496+b % 4503599627370496+1) (.inr ⟨by omega,by omega⟩)
   rw[←Nat.add_assoc,←e] at this;exact this
theorem bv_succ (b:Nat):bv b<bv (b+1):=by
 obtain⟨j,q,-,h1,h2⟩:=bv_form b
 rw[h1,h2]
 exact Nat.mul_lt_mul_of_pos_right (by omega) (Nat.two_pow_pos j)
theorem bv_lt {a b:Nat} (h:a<b):bv a<bv b:=by
 induction b with
 | zero=>omega
 | succ b ih =>
  by_cases h1:a<b
  ·exact Nat.lt_trans (ih h1) (bv_succ b)
  ·obtain rfl:a=b:=by omega
   exact bv_succ a
theorem bv_le {a b:Nat} (h:a≤b):bv a≤bv b:=by
 by_cases h1:a=b
 ·rw[h1];exact Nat.le_refl _
 ·exact Nat.le_of_lt (bv_lt (by omega))
theorem bv_inj_lt {a b:Nat} (h:bv a<bv b):a<b:=by
 apply Decidable.byContradiction
 intro h1
 have:=bv_le (a:=b) (b:=a) (by omega)
 omega
structure IsR (x:Nat) (e:Int) (j X k:Nat):Prop where
 eq:∀ K:Nat,0≤e+K→0≤(j:Int) - 1074 - k+K→X*2^((j:Int) - 1074 - k+K).toNat=x*2^(e+K).toNat
 lt:X / 2^k<9007199254740992
 ge:j=0∨4503599627370496≤X / 2^k
structure Lies (A u b:Nat) (r m:Nat):Prop where
 lo:bv b*u≤A
 hi:A<bv (b+1)*u
 ex:r=0↔A=bv b*u
 half_lt:2*r<m↔2*A<(bv b+bv (b+1))*u
 half_eq:2*r=m↔2*A=(bv b+bv (b+1))*u
theorem IsR.lies {x:Nat} {e:Int} {j X k:Nat} (h:IsR x e j X k) {K:Nat} (hK:1074≤K) (h1:0≤e+K) (h2:0≤(j:Int) - 1074 - k+K) :
  Lies (x*2^(e+K).toNat) (2^(K - 1074)) (j*4503599627370496+X / 2^k) (X % 2^k) (2^k):=by
 have eq:=h.eq K h1 h2
 have hl:=h.lt
 have hg:=h.ge
 have b0:bv (j*4503599627370496+X / 2^k)=X / 2^k*2^j:=bv_at (j:=j) (q:=X / 2^k) (by
  generalize X / 2^k=q at *
  rcases hg with g|g
  ·exact .inl ⟨g,by omega⟩
  ·exact .inr ⟨g,by omega⟩)
 have b1:bv (j*4503599627370496+X / 2^k+1)=(X / 2^k+1)*2^j:=by
  have:=bv_at (j:=j) (q:=X / 2^k+1) (by
   generalize X / 2^k=q at *
   rcases hg with g|g
   ·exact .inl ⟨g,by omega⟩
   ·exact .inr ⟨by omega,by omega⟩)
  rw[←Nat.add_assoc] at this
  exact this
 have hu:2^j*2^(K - 1074)=2^k*2^((j:Int) - 1074 - k+K).toNat:=by
  rw[←Nat.pow_add,←Nat.pow_add,show j+(K - 1074)=k+((j:Int) - 1074 - k+K).toNat by omega]
 have hX:X=2^k*(X / 2^k)+X % 2^k:=(Nat.div_add_mod X (2^k)).symm
 have hr:X % 2^k<2^k:=Nat.mod_lt _ (Nat.two_pow_pos k)
 have hU:0<2^((j:Int) - 1074 - k+K).toNat:=Nat.two_pow_pos _
 rw[←eq]
 generalize 2^((j:Int) - 1074 - k+K).toNat=U at *
 generalize X / 2^k=q at *
 generalize X % 2^k=r at *
 generalize 2^k=M at *
 generalize 2^j=J at *
 generalize 2^(K - 1074)=u at *
 have e0:bv (j*4503599627370496+q)*u=q*(M*U):=by rw[b0,Nat.mul_assoc,hu]
 have e1:bv (j*4503599627370496+q+1)*u=(q+1)*(M*U):=by rw[b1,Nat.mul_assoc,hu]
 have eA:X*U=q*(M*U)+r*U:=by rw[hX,Nat.add_mul];congr 1;rw[←Nat.mul_assoc,Nat.mul_comm q M]
 have e1':(q+1)*(M*U)=q*(M*U)+M*U:=by rw[Nat.add_mul,Nat.one_mul]
 have hrU:r*U<M*U:=Nat.mul_lt_mul_of_pos_right hr hU
 have hr0:r=0↔r*U=0:=by
  constructor
  ·rintro rfl;simp
  ·intro h;rcases Nat.mul_eq_zero.1 h with h|h
   ·exact h
   ·omega
 have hh1:2*r<M↔2*(r*U)<M*U:=by
  rw[←Nat.mul_assoc]
  exact(Nat.mul_lt_mul_right hU).symm
 have hh2:2*r=M↔2*(r*U)=M*U:=by
  rw[←Nat.mul_assoc]
  exact(Nat.mul_left_inj (by omega)).symm
 refine⟨?_,?_,?_,?_,?_⟩
 ·rw[e0,eA];omega
 ·rw[e1,eA,e1'];omega
 ·rw[hr0,e0,eA];omega
 ·rw[hh1,Nat.add_mul,e0,e1,eA,e1'];omega
 ·rw[hh2,Nat.add_mul,e0,e1,eA,e1'];omega
structure Rounds (A u b way:Nat):Prop where
 fl:∃ b0,(bv b0*u≤A∧A<bv (b0+1)*u)∧(way=0→b=b0)∧(way=2→b=if A=bv b0*u then b0 else b0+1)∧(way=1→b=if 2*A<(bv b0+bv (b0+1))*u then b0 else if 2*A=(bv b0+bv (b0+1))*u then b0+b0 % 2 else b0+1)
theorem floor_mono {A A' u b b':Nat} (h:A≤A') (h1:bv b*u≤A) (h2:A'<bv (b'+1)*u):b≤b':=by
 have h3:bv b*u<bv (b'+1)*u:=by omega
 have h4:bv b<bv (b'+1):=Nat.lt_of_mul_lt_mul_right h3
 have:=bv_inj_lt h4
 omega
theorem Rounds.mono {A A' u b b' way:Nat} (hw:way=0∨way=1∨way=2) (h:Rounds A u b way) (h':Rounds A' u b' way) (hle:A≤A'):b≤b':=by
 obtain⟨b0,⟨l,g⟩,w0,w2,w1⟩:=h.fl
 obtain⟨b1,⟨l',g'⟩,w0',w2',w1'⟩:=h'.fl
 have hb:=floor_mono hle l g'
 rcases hw with hw|hw|hw
 ·rw[w0 hw,w0' hw];exact hb
 ·rw[w1 hw,w1' hw]
  by_cases he:b0=b1
  ·subst he
   split
   ·split
    ·exact Nat.le_refl _
    ·split <;> omega
   ·split
    ·split
     ·omega
     ·split
      ·exact Nat.le_refl _
      ·have:b0 % 2<2:=Nat.mod_lt _ (by omega)
       omega
    ·rw[if_neg (by omega),if_neg (by omega)];exact Nat.le_refl _
  ·have hlt:b0<b1:=by omega
   have h1:(if 2*A<(bv b0+bv (b0+1))*u then b0 else if 2*A=(bv b0+bv (b0+1))*u then b0+b0 % 2 else b0+1)≤b0+1:=by
    split
    ·omega
    ·split <;> omega
   have h2:b1≤(if 2*A'<(bv b1+bv (b1+1))*u then b1 else if 2*A'=(bv b1+bv (b1+1))*u then b1+b1 % 2 else b1+1):=by
    split
    ·omega
    ·split <;> omega
   omega
 ·rw[w2 hw,w2' hw]
  by_cases he:b0=b1
  ·subst he
   split
   ·split <;> omega
   ·rw[if_neg (by omega)];exact Nat.le_refl _
  ·split
   ·split <;> omega
   ·split <;> omega
end Go.Proofs.YtokklnjoalkjaaaGreatDoor
namespace Go.Proofs.YtokklnjoalkjaaaGreatDoor
open Go.RowKit Go.Fl64
open Ie
theorem or_one_half (y:Nat):(y ||| 1) / 2=y / 2:=by rw[Nat.or_div_two];simp
theorem or_one_odd (y:Nat):(y ||| 1) % 2=1:=Nat.or_mod_two_eq_one.2 (.inr rfl)
theorem or_one_eq (y:Nat):y ||| 1=2*(y / 2)+1:=by
 have h1:=or_one_half y
 have h2:=or_one_odd y
 omega
theorem rnd_sticky {x D k y m:Nat} {way:Int} (hk:2≤k) (hy:y=x / 2^D) (hm:(x % 2^D=0∧m=y)∨(x % 2^D≠0∧m=2*(y / 2)+1)):rnd m k way=rnd x (D+k) way:=by
 obtain⟨h,rfl⟩:∃ h,k=h+2:=⟨k - 2,by omega⟩
 have e2:(2:Nat)^(h+2)=2*(2*2^h):=by rw[Nat.pow_succ,Nat.pow_succ];omega
 have eD:(2:Nat)^(D+(h+2))=2^D*2^(h+2):=Nat.pow_add ..
 have hq:m / 2^(h+2)=x / 2^(D+(h+2)):=by
  rw[eD,←Nat.div_div_eq_div_mul,←hy]
  rcases hm with ⟨-,hm⟩|⟨-,hm⟩
  ·rw[hm]
  ·have hd:∀ z,z / (2*(2*2^h))=z / 2 / (2*2^h):=fun z=>(Nat.div_div_eq_div_mul ..).symm
   rw[e2,hd,hd,hm,show(2*(y / 2)+1) / 2=y / 2 by omega]
 have hR:x % 2^(D+(h+2))=(y % 2^(h+2))*2^D+x % 2^D:=by
  rw[eD,Nat.mod_mul,hy,Nat.mul_comm];omega
 have hM:(x % 2^D=0∧m % 2^(h+2)=y % 2^(h+2))∨(x % 2^D≠0∧m % 2^(h+2)=2*(y % 2^(h+2) / 2)+1):=by
  rcases hm with ⟨h1,hm⟩|⟨h1,hm⟩
  ·exact .inl ⟨h1,by rw[hm]⟩
  ·refine .inr ⟨h1,?_⟩
   rw[hm,e2]
   generalize 2^h=H
   rw[Nat.mod_mul,Nat.mod_mul (x:=y),show(2*(y / 2)+1) % 2=1 by omega,show(2*(y / 2)+1) / 2=y / 2 by omega]
   generalize y / 2 % (2*H)=t
   omega
 have hrx:x % 2^D<2^D:=Nat.mod_lt _ (Nat.two_pow_pos D)
 have hp:0<2^D:=Nat.two_pow_pos D
 have i0:m % 2^(h+2)=0↔x % 2^(D+(h+2))=0:=by
  rw[hR]
  rcases hM with ⟨h1,h2⟩|⟨h1,h2⟩
  ·rw[h1,h2,Nat.add_zero]
   constructor
   ·intro e;rw[e,Nat.zero_mul]
   ·intro e;rcases Nat.mul_eq_zero.1 e with e|e
    ·exact e
    ·omega
  ·rw[h2];omega
 have key:∀ c:Nat,c=2*2^h→(2^(h+2)<2*(m % 2^(h+2))↔2^(D+(h+2))<2*(x % 2^(D+(h+2))))∧(2*(m % 2^(h+2))=2^(h+2)↔2*(x % 2^(D+(h+2)))=2^(D+(h+2))):=by
  intro c hc
  rw[hR,eD]
  have e3:(2:Nat)^(h+2)=2*c:=by rw[e2,hc]
  rw[e3] at hM ⊢
  have hc2:c % 2=0:=by omega
  generalize y % (2*c)=ry at *
  generalize m % (2*c)=rm at *
  generalize x % 2^D=rx at *
  generalize 2^D=T at *
  have a1:T*(2*c)=2*(c*T):=by rw[Nat.mul_comm T,Nat.mul_assoc]
  rw[a1]
  rcases hM with ⟨h1,h2⟩|⟨h1,h2⟩
  ·subst h1
   rw[h2,Nat.add_zero]
   constructor
   ·constructor
    ·intro g;have:=Nat.mul_lt_mul_of_pos_right (show c<ry by omega) hp;omega
    ·intro g;have:c*T<ry*T:=by omega
     have:=Nat.lt_of_mul_lt_mul_right this;omega
   ·constructor
    ·intro g;rw[show ry=c by omega]
    ·intro g;have:=Nat.eq_of_mul_eq_mul_right hp (show ry*T=c*T by omega);omega
  ·have hlt:ry<c→ry*T+rx<c*T:=by
    intro g
    have:=Nat.mul_le_mul_right T (show ry+1≤c by omega)
    rw[Nat.add_mul,Nat.one_mul] at this
    omega
   have hge:c≤ry→c*T<ry*T+rx:=by
    intro g
    have:=Nat.mul_le_mul_right T g
    omega
   by_cases g:ry<c
   ·have a2:=hlt g
    have a3:rm<c:=by omega
    clear hlt hge
    refine⟨⟨fun g2=>?_,fun g2=>?_⟩,⟨fun g2=>?_,fun g2=>?_⟩⟩
    ·omega
    ·omega
    ·omega
    ·omega
   ·have a2:=hge (by omega)
    have a3:c<rm:=by omega
    clear hlt hge
    refine⟨⟨fun g2=>?_,fun g2=>?_⟩,⟨fun g2=>?_,fun g2=>?_⟩⟩
    ·omega
    ·omega
    ·omega
    ·omega
 have k1:=key _ rfl
 unfold rnd
 have hrup:Ie.rup m (h+2) way=Ie.rup x (D+(h+2)) way:=by
  unfold Ie.rup
  rw[hq]
  simp only[k1.1,k1.2,ne_eq,i0]
 rw[hrup,hq]
theorem tz_iff {x n:Nat} (h0:x≠0):tz x<n↔x % 2^n≠0:=by
 obtain⟨h1,h2⟩:=tz_spec x x (Nat.le_refl _) h0
 constructor
 ·intro hlt he
  have hd:2^(tz x+1) ∣ x:=Nat.dvd_trans (Nat.pow_dvd_pow 2 (by omega)) (Nat.dvd_of_mod_eq_zero he)
  obtain⟨c,hc⟩:=hd
  have h3:x / 2^tz x=2*c:=by
   rw[Nat.pow_succ,Nat.mul_assoc] at hc
   exact Nat.div_eq_of_eq_mul_right (Nat.two_pow_pos _) hc
  omega
 ·intro hne
  apply Decidable.byContradiction
  intro hge
  apply hne
  have:2^n ∣ x:=by rw[←h1];exact Nat.dvd_trans (Nat.pow_dvd_pow 2 (by omega)) (Nat.dvd_mul_right _ _)
  exact Nat.mod_eq_zero_of_dvd this
theorem raw_of {x:Nat} {e:Int} {X m j k k1:Nat} {s P:Int} {e':Int} (hs:s=e' - (nz m:Int)) (hP:P=pl m e') (hk1:(k1:Int)=P - s) (hj:(j:Int)=P+1074) (hr:∀ way,rnd (tp m) k1 way=rnd X k way) (way:Int):raw m e' way=((j*4503599627370496+rnd X k way:Nat):Int):=by
 unfold raw
 rw[←hP,←hs,show(P - s).toNat=k1 by omega,hr]
 omega
theorem raw_is {x:Nat} {e:Int} (h0:x≠0):∃ j X k,IsR x e j X k∧(∀ way,raw (tfM true x) (e+(tfD x:Int)) way=((j*4503599627370496+rnd X k way:Nat):Int))∧(k:Int)≤j+1074+(if e<0 then -e else 0)+64 ∧ -64+min e (-1074)≤(j:Int) - 1074 - k:=by
 by_cases hD:bl x≤64
 ·have eD:tfD x=0:=by unfold tfD;omega
  have eM:tfM true x=x:=by unfold tfM;rw[eD];simp
  rw[eM,eD]
  have hx64:x<18446744073709551616:=(bl_le x 64).1 hD
  obtain⟨n1,n2,n3⟩:=nz_facts x hx64 h0
  obtain⟨P,hP⟩:∃ P,P=pl x (e+((0:Nat):Int)):=⟨_,rfl⟩
  have hPl:=hP
  unfold pl at hPl
  have hPc:(P = -1074∧e - nz x+11 < -1074)∨(P=e - nz x+11 ∧ -1074≤P):=by
   split at hPl
   ·exact .inl ⟨hPl,by omega⟩
   ·exact .inr ⟨by omega,by omega⟩
  refine⟨(P+1074).toNat,tp x,(P - (e - nz x)).toNat,⟨?_,?_,?_⟩,fun way=>raw_of (x:=x) (e:=e) (m:=x) (s:=e - nz x) (P:=P) (k1:=(P - (e - nz x)).toNat) (by omega) hP (by omega) (by omega) (fun _=>rfl) way,?_,?_⟩
  ·intro K hK1 hK2
   unfold tp
   rw[Nat.mul_assoc,←Nat.pow_add]
   congr 2
   omega
  ·have:2^11≤2^(P - (e - nz x)).toNat:=Nat.pow_le_pow_right (by omega) (by omega)
   refine Nat.div_lt_of_lt_mul ?_
   have:2^11*9007199254740992≤2^(P - (e - nz x)).toNat*9007199254740992:=Nat.mul_le_mul_right _ this
   omega
  ·rcases hPc with h|h
   ·exact .inl (by omega)
   ·refine .inr ?_
    rw[show(P - (e - nz x)).toNat=11 by omega]
    omega
  ·split <;> omega
  ·omega
 ·have eD:bl x=tfD x+64:=by unfold tfD;omega
  obtain⟨D,hDD⟩:∃ D,D=tfD x:=⟨_,rfl⟩
  rw[←hDD] at eD ⊢
  have hx1:x<2^(D+64):=by rw[←eD];exact lt_bl x
  have hx2:2^(D+63)≤x:=by have:=le_bl h0;rw[eD] at this;exact this
  have hp:0<2^D:=Nat.two_pow_pos D
  obtain⟨y,hy⟩:∃ y,y=x / 2^D:=⟨_,rfl⟩
  have hy1:y<18446744073709551616:=by rw[hy];refine Nat.div_lt_of_lt_mul ?_;rw[Nat.pow_add] at hx1;exact hx1
  have hy2:9223372036854775808≤y:=by rw[hy,Nat.le_div_iff_mul_le hp,Nat.mul_comm];rw[Nat.pow_add] at hx2;exact hx2
  have hm:(x % 2^D=0∧tfM true x=y)∨(x % 2^D≠0∧tfM true x=2*(y / 2)+1):=by
   unfold tfM
   rw[←hDD,←hy]
   by_cases hz:tz x<D
   ·exact .inr ⟨(tz_iff h0).1 hz,by rw[decide_eq_true hz];exact or_one_eq y⟩
   ·refine .inl ⟨?_,by rw[decide_eq_false hz];rfl⟩
    apply Decidable.byContradiction
    intro h
    exact hz ((tz_iff h0).2 h)
  obtain⟨m,hmm⟩:∃ m,m=tfM true x:=⟨_,rfl⟩
  rw[←hmm] at hm ⊢
  have hm1:m<18446744073709551616:=by rcases hm with h|h <;> omega
  have hm2:9223372036854775808≤m:=by rcases hm with h|h <;> omega
  have hbm:bl m=64:=bl_eq (n:=64) hm1 (.inr hm2)
  have hnz:nz m=0:=by unfold nz;rw[←bl_bitLen,hbm]
  have htp:tp m=m:=by unfold tp;rw[hnz];simp
  obtain⟨P,hP⟩:∃ P,P=pl m (e+(D:Int)):=⟨_,rfl⟩
  have hPl:=hP
  unfold pl at hPl
  rw[hnz] at hPl
  have hPc:(P = -1074∧e+D+11 < -1074)∨(P=e+D+11 ∧ -1074≤P):=by
   split at hPl
   ·exact .inl ⟨hPl,by omega⟩
   ·exact .inr ⟨by omega,by omega⟩
  have hq:∀ k1,11≤k1→x / 2^(D+k1)=y / 2^k1:=fun k1 _=>by rw[Nat.pow_add,←Nat.div_div_eq_div_mul,hy]
  refine⟨(P+1074).toNat,x,D+(P - (e+D)).toNat,⟨?_,?_,?_⟩,fun way=>raw_of (x:=x) (e:=e) (m:=m) (s:=e+D) (P:=P) (k1:=(P - (e+D)).toNat) (by rw[hnz];omega) hP (by omega) (by omega) (fun way=>by rw[htp];exact rnd_sticky (by omega) hy hm) way,?_,?_⟩
  ·intro K hK1 hK2
   congr 2
   omega
  ·rw[hq _ (by omega)]
   have:2^11≤2^(P - (e+D)).toNat:=Nat.pow_le_pow_right (by omega) (by omega)
   refine Nat.div_lt_of_lt_mul ?_
   have:2^11*9007199254740992≤2^(P - (e+D)).toNat*9007199254740992:=Nat.mul_le_mul_right _ this
   omega
  ·rcases hPc with h|h
   ·exact .inl (by omega)
   ·refine .inr ?_
    rw[hq _ (by omega),show(P - (e+D)).toNat=11 by omega]
    omega
  ·split <;> omega
  ·omega
end Go.Proofs.YtokklnjoalkjaaaGreatDoor
/- A float is made anew of its odd part and its exponent, whatever the way of rounding. -/
namespace Go.Proofs.YtokklnjoalkjaaaGreatDoor.Ie
open Go.RowKit Go.Fl64
end Go.Proofs.YtokklnjoalkjaaaGreatDoor.Ie
namespace Go.Proofs.YtokklnjoalkjaaaGreatDoor
open Go.RowKit Go.Fl64
end Go.Proofs.YtokklnjoalkjaaaGreatDoor
namespace Go.Proofs.YtokklnjoalkjaaaGreatDoor
open Go.RowKit Go.Fl64
open Ie
theorem rnd0 (X k:Nat):rnd X k ((0:Nat):Int)=X / 2^k:=by
 have h1:¬ (((0:Nat):Int)=1):=by decide
 have h2:¬ (((0:Nat):Int)=2):=by decide
 simp only[rnd,Ie.rup,if_neg h1,if_neg h2,Bool.false_eq_true,if_false]
theorem rnd2 (X k:Nat):rnd X k ((2:Nat):Int)=if X % 2^k=0 then X / 2^k else X / 2^k+1:=by
 have h1:¬ (((2:Nat):Int)=1):=by decide
 have h2:((2:Nat):Int)=2:=by decide
 simp only[rnd,Ie.rup,if_neg h1,if_pos h2]
 by_cases h:X % 2^k=0
 ·rw[if_pos h,decide_eq_false (by simpa using h)];rfl
 ·rw[if_neg h,decide_eq_true h];rfl
theorem rnd1 (X k:Nat):rnd X k ((1:Nat):Int)=if 2*(X % 2^k)<2^k then X / 2^k else if 2*(X % 2^k)=2^k then X / 2^k+X / 2^k % 2 else X / 2^k+1:=by
 have h0:((1:Nat):Int)=1:=by decide
 simp only[rnd,Ie.rup,if_pos h0]
 by_cases h1:2*(X % 2^k)<2^k
 ·rw[if_pos h1,decide_eq_false (show ¬ 2^k<2*(X % 2^k) by omega),decide_eq_false (show ¬ 2*(X % 2^k)=2^k by omega)];rfl
 ·rw[if_neg h1]
  by_cases h2:2*(X % 2^k)=2^k
  ·rw[if_pos h2,decide_eq_false (show ¬ 2^k<2*(X % 2^k) by omega),decide_eq_true h2]
   by_cases h3:X / 2^k % 2=1
   ·rw[decide_eq_true h3,h3];rfl
   ·rw[decide_eq_false h3,show X / 2^k % 2=0 by omega];rfl
  ·rw[if_neg h2,decide_eq_true (show 2^k<2*(X % 2^k) by omega)];rfl
def rwb (x:Nat) (e:Int) (way:Nat):Nat:=(raw (tfM true x) (e+(tfD x:Int)) (way:Int)).toNat
theorem rwb_rounds {x:Nat} {e:Int} (h0:x≠0) {K:Nat} (hK:1200≤K) (hK2:64 - e≤K) {way:Nat}:Rounds (x*2^(e+K).toNat) (2^(K - 1074)) (rwb x e way) way:=by
 obtain⟨j,X,k,hR,hr,-,hl⟩:=raw_is (e:=e) h0
 have L:=hR.lies (K:=K) (by omega) (by omega) (by omega)
 refine⟨⟨j*4503599627370496+X / 2^k,⟨L.lo,L.hi⟩,?_,?_,?_⟩⟩
 ·intro h;subst h
  unfold rwb
  rw[hr,Int.toNat_natCast,rnd0]
 ·intro h;subst h
  unfold rwb
  rw[hr,Int.toNat_natCast,rnd2]
  by_cases hx:X % 2^k=0
  ·rw[if_pos hx,if_pos (L.ex.1 hx)]
  ·rw[if_neg hx,if_neg (fun h=>hx (L.ex.2 h)),Nat.add_assoc]
 ·intro h;subst h
  unfold rwb
  rw[hr,Int.toNat_natCast,rnd1]
  have hpar:(j*4503599627370496+X / 2^k) % 2=X / 2^k % 2:=by omega
  by_cases h1:2*(X % 2^k)<2^k
  ·rw[if_pos h1,if_pos (L.half_lt.1 h1)]
  ·rw[if_neg h1,if_neg (fun h=>h1 (L.half_lt.2 h))]
   by_cases h2:2*(X % 2^k)=2^k
   ·rw[if_pos h2,if_pos (L.half_eq.1 h2),hpar,Nat.add_assoc]
   ·rw[if_neg h2,if_neg (fun h=>h2 (L.half_eq.2 h)),Nat.add_assoc]
def bdy (x:Nat) (e:Int) (way:Nat):Nat:=if x=0 then 0 else if rwb x e way<9218868437227405312 then rwb x e way else if way=0 then 9218868437227405311 else 9218868437227405312
theorem raw_nn {x:Nat} {e:Int} (h0:x≠0) (way:Nat):raw (tfM true x) (e+(tfD x:Int)) (way:Int)=(rwb x e way:Int):=by
 obtain⟨j,X,k,-,hr,-,-⟩:=raw_is (e:=e) h0
 unfold rwb
 rw[hr];rfl
theorem bod_eq {x:Nat} {e:Int} (h0:x≠0) (way:Nat):(bod (tfM true x) (e+(tfD x:Int)) (way:Int)).toNat=bdy x e way:=by
 unfold bod bdy
 rw[if_neg h0,raw_nn h0]
 by_cases h1:rwb x e way<9218868437227405312
 ·rw[if_pos (by omega),if_pos h1];rfl
 ·rw[if_neg (by omega),if_neg h1]
  by_cases h2:way=0
  ·subst h2;rfl
  ·rw[if_neg h2]
   have:((way:Int)==0)=false:=by simp;omega
   rw[this];rfl
end Go.Proofs.YtokklnjoalkjaaaGreatDoor
namespace Go.Proofs.YtokklnjoalkjaaaGreatDoor
open Go.RowKit Go.Fl64
theorem held3_pn {w:World} {s:Bool} {z:Nat} {e:Int} {b:Bool} {r:Ending} {w':World} (h:Held3 w s z e b r w') (hok:okR s z e=true) :
  ∃ s' ao n cap e',r=.returned (.tuple #[.agg #[.bool s',.slice ao n cap,.int .i64 e'],.bool b,.int .i64 0])∧PN w' (.agg #[.bool s',.slice ao n cap,.int .i64 e']) (cn s z e)∧Bw w w':=by
 obtain⟨A,rfl,hN,hb⟩:=h
 rw[hok]
 have hp:=hN.pn
 obtain⟨s',ao,n,cap,e',rfl⟩:=hp.shape
 exact⟨s',ao,n,cap,e',by simp,hp,hb⟩
end Go.Proofs.YtokklnjoalkjaaaGreatDoor
namespace Go.Proofs.YtokklnjoalkjaaaGreatDoor
open Go.RowKit Go.Fl64
open Ie
theorem bdy_le (x:Nat) (e:Int) (way:Nat):bdy x e way≤9218868437227405312:=by
 unfold bdy
 split
 ·omega
 ·split
  ·omega
  ·split <;> omega
def wyN (s:Bool) (m:Int):Nat:=if m=2 then 1 else if(s==(m==1))then 2 else 0
theorem wyN_eq (s:Bool) (m:Int):((wyN s m:Nat):Int)=wy s m:=by
 unfold wyN wy
 split
 ·rfl
 ·split <;> rfl
theorem tfM_zero:tfM true 0=0:=by unfold tfM;rw[show tfD 0=0 from rfl];simp
theorem tfM_ne {x:Nat} (h0:x≠0):tfM true x≠0:=by
 unfold tfM
 split
 ·have h1:=le_bl h0
  have hp:2^tfD x≤x:=Nat.le_trans (Nat.pow_le_pow_right (by omega) (by unfold tfD;omega)) h1
  have:=(Nat.le_div_iff_mul_le (Nat.two_pow_pos (tfD x))).2 (show 1*2^tfD x≤x by omega)
  omega
 ·rw[or_one_eq];omega
theorem tf_bdy {s:Bool} {x:Nat} {e m:Int} (hm:1≤m∧m≤3):tfF s true x e m=sig s (bdy x e (wyN s m)):=by
 unfold tfF mk
 rw[if_pos (by omega)]
 congr 1
 by_cases h0:x=0
 ·subst h0
  rw[tfM_zero,if_pos rfl]
  unfold bdy;rw[if_pos rfl]
 ·rw[if_neg (tfM_ne h0),←wyN_eq,bod_eq h0]
theorem rnd_rounds {x:Nat} {e:Int} {j X k:Nat} (hR:IsR x e j X k) {K:Nat} (hK:1074≤K) (h1:0≤e+K) (h2:0≤(j:Int) - 1074 - k+K) (way:Nat):Rounds (x*2^(e+K).toNat) (2^(K - 1074)) (j*4503599627370496+rnd X k (way:Int)) way:=by
 have L:=hR.lies hK h1 h2
 refine⟨⟨j*4503599627370496+X / 2^k,⟨L.lo,L.hi⟩,?_,?_,?_⟩⟩
 ·intro h;subst h
  rw[rnd0]
 ·intro h;subst h
  rw[rnd2]
  by_cases hx:X % 2^k=0
  ·rw[if_pos hx,if_pos (L.ex.1 hx)]
  ·rw[if_neg hx,if_neg (fun h=>hx (L.ex.2 h)),Nat.add_assoc]
 ·intro h;subst h
  rw[rnd1]
  have hpar:(j*4503599627370496+X / 2^k) % 2=X / 2^k % 2:=by omega
  by_cases h1:2*(X % 2^k)<2^k
  ·rw[if_pos h1,if_pos (L.half_lt.1 h1)]
  ·rw[if_neg h1,if_neg (fun h=>h1 (L.half_lt.2 h))]
   by_cases h2:2*(X % 2^k)=2^k
   ·rw[if_pos h2,if_pos (L.half_eq.1 h2),hpar,Nat.add_assoc]
   ·rw[if_neg h2,if_neg (fun h=>h2 (L.half_eq.2 h)),Nat.add_assoc]
theorem IsR.rwb {x:Nat} {e:Int} {j X k:Nat} (hR:IsR x e j X k) (h0:x≠0) {way:Nat} (hw:way=0∨way=1∨way=2):rwb x e way=j*4503599627370496+rnd X k (way:Int):=by
 obtain⟨K,hK⟩:∃ K:Nat,K=1200+(64 - e).toNat+(1074+k):=⟨_,rfl⟩
 have a:=rwb_rounds (e:=e) h0 (K:=K) (by omega) (by omega) (way:=way)
 have b:=rnd_rounds hR (K:=K) (by omega) (by omega) (by omega) way
 have h1:=Rounds.mono hw a b (Nat.le_refl _)
 have h2:=Rounds.mono hw b a (Nat.le_refl _)
 omega
theorem rwb_big {x:Nat} {e:Int} (h0:x≠0) (ht:1024<(bl x:Int)+e) {way:Nat} (hw:way=0∨way=1∨way=2):9218868437227405312≤rwb x e way:=by
 obtain⟨K,hK⟩:∃ K:Nat,K=1200+(64 - e).toNat:=⟨_,rfl⟩
 have a:=rwb_rounds (e:=e) h0 (K:=K) (by omega) (by omega) (way:=way)
 obtain⟨b0,⟨l,g⟩,w0,w2,w1⟩:=a.fl
 have hv:bv 9218868437227405312*2^(K - 1074)≤x*2^(e+K).toNat:=by
  obtain⟨j,hj⟩:∃ j:Nat,j=2046:=⟨_,rfl⟩
  have e1:bv 9218868437227405312=4503599627370496*2^j:=by
   have:=bv_at (j:=j) (q:=4503599627370496) (.inr ⟨by omega,by omega⟩)
   rw[show j*4503599627370496+4503599627370496=9218868437227405312 by omega] at this
   exact this
  have e2:(4503599627370496:Nat)=2^52:=by rfl
  rw[e1,e2,←Nat.pow_add,←Nat.pow_add]
  have h1:=le_bl h0
  have hb:bl x≠0:=by unfold bl;rw[if_neg h0];omega
  refine Nat.le_trans (Nat.pow_le_pow_right (by omega) (show 52+j+(K - 1074)≤bl x - 1+(e+K).toNat by omega)) ?_
  rw[Nat.pow_add]
  exact Nat.mul_le_mul_right _ h1
 have hb:=floor_mono (Nat.le_refl (x*2^(e+K).toNat)) hv g
 rcases hw with hw|hw|hw
 ·rw[w0 hw];exact hb
 ·rw[w1 hw]
  split
  ·exact hb
  ·split <;> omega
 ·rw[w2 hw];split <;> omega
theorem isR_up {x:Nat} {E e':Int} (h1:e'≤E) (hj : -1074≤e') (hlt:x*2^(E - e').toNat<9007199254740992) (hge:e' = -1074∨4503599627370496≤x*2^(E - e').toNat):IsR x E (e'+1074).toNat (x*2^(E - e').toNat) 0:=by
 refine⟨fun K a b=>?_,by rw[Nat.pow_zero,Nat.div_one];exact hlt,?_⟩
 ·rw[Nat.mul_assoc,←Nat.pow_add,show(E - e').toNat+(((e'+1074).toNat:Int) - 1074 - ((0:Nat):Int)+K).toNat=(E+K).toNat by omega]
 ·rw[Nat.pow_zero,Nat.div_one]
  rcases hge with h|h
  ·exact .inl (by omega)
  ·exact .inr h
theorem isR_down {x:Nat} {E e':Int} (h1:E≤e') (hj : -1074≤e') (hlt:x / 2^(e' - E).toNat<9007199254740992) (hge:e' = -1074∨4503599627370496≤x / 2^(e' - E).toNat):IsR x E (e'+1074).toNat x (e' - E).toNat:=by
 refine⟨fun K a b=>?_,hlt,?_⟩
 ·rw[show(((e'+1074).toNat:Int) - 1074 - ((e' - E).toNat:Int)+K).toNat=(E+K).toNat by omega]
 ·rcases hge with h|h
  ·exact .inl (by omega)
  ·exact .inr h
theorem rnd_k0 (X way:Nat) (hw:way=0∨way=1∨way=2):rnd X 0 (way:Int)=X:=by
 rcases hw with rfl|rfl|rfl
 ·rw[rnd0,Nat.pow_zero,Nat.div_one]
 ·rw[rnd1,Nat.pow_zero,Nat.div_one,Nat.mod_one,if_pos (by omega)]
 ·rw[rnd2,Nat.pow_zero,Nat.div_one,Nat.mod_one,if_pos rfl]
def tE (x:Nat) (E:Int):Int:=if(bl x:Int)+E - 53 < -1074 then -1074 else(bl x:Int)+E - 53
theorem bl_ne {x:Nat} (h0:x≠0):1≤bl x:=by unfold bl;rw[if_neg h0];omega
theorem bdy_big {x:Nat} {E:Int} (h0:x≠0) (ht:1024<(bl x:Int)+E) {way:Nat} (hw:way=0∨way=1∨way=2):bdy x E way=if way=0 then 9218868437227405311 else 9218868437227405312:=by
 unfold bdy
 rw[if_neg h0,if_neg (by have:=rwb_big (e:=E) h0 ht hw;omega)]
theorem up_lt {x k:Nat} (h0:x≠0) (h:bl x+k≤53):x*2^k<9007199254740992:=by
 have h1:=lt_bl x
 have h2:x*2^k<2^bl x*2^k:=Nat.mul_lt_mul_of_pos_right h1 (Nat.two_pow_pos _)
 rw[←Nat.pow_add] at h2
 exact Nat.lt_of_lt_of_le h2 (Nat.pow_le_pow_right (by omega) h:_≤2^53)
theorem up_ge {x k:Nat} (h0:x≠0) (h:bl x+k=53):4503599627370496≤x*2^k:=by
 have h1:=le_bl h0
 have hb:=bl_ne h0
 have h2:2^(bl x - 1)*2^k≤x*2^k:=Nat.mul_le_mul_right _ h1
 rw[←Nat.pow_add,show bl x - 1+k=52 by omega] at h2
 exact h2
theorem dn_lt {x k:Nat} (h:bl x≤k+53):x / 2^k<9007199254740992:=by
 have h1:=lt_bl x
 refine(Nat.div_lt_iff_lt_mul (Nat.two_pow_pos _)).2 (Nat.lt_of_lt_of_le h1 ?_)
 rw[show(9007199254740992:Nat)=2^53 by rfl,←Nat.pow_add]
 exact Nat.pow_le_pow_right (by omega) (by omega)
theorem dn_ge {x k:Nat} (h0:x≠0) (h:bl x=k+53):4503599627370496≤x / 2^k:=by
 have h1:=le_bl h0
 refine(Nat.le_div_iff_mul_le (Nat.two_pow_pos _)).2 (Nat.le_trans (Nat.le_of_eq ?_) h1)
 rw[show(4503599627370496:Nat)=2^52 by rfl,←Nat.pow_add,show 52+k=bl x - 1 by omega]
theorem tE_bounds {x:Nat} {E:Int} (ht:(bl x:Int)+E≤1024) : -1074≤tE x E∧tE x E≤971:=by unfold tE;split <;> omega
theorem body_eq {e':Int} {q n:Nat} (h1 : -1074≤e') (h2:e'≤971) (hq:q<9007199254740992) (hge:e' = -1074∨4503599627370496≤q):(e'+1074).toNat*4503599627370496+q<9218868437227405312:=by omega
theorem bdy_up {x:Nat} {E:Int} (h0:x≠0) (ht:(bl x:Int)+E≤1024) (hE:tE x E≤E) {way:Nat} (hw:way=0∨way=1∨way=2) :
  bdy x E way=(tE x E+1074).toNat*4503599627370496+x*2^(E - tE x E).toNat∧x*2^(E - tE x E).toNat<9007199254740992∧(tE x E = -1074∨4503599627370496≤x*2^(E - tE x E).toNat):=by
 have hb:=tE_bounds ht
 have hlt:x*2^(E - tE x E).toNat<9007199254740992:=up_lt h0 (by unfold tE at hE ⊢; split at hE <;> omega)
 have hge:tE x E = -1074∨4503599627370496≤x*2^(E - tE x E).toNat:=by
  by_cases h:tE x E = -1074
  ·exact .inl h
  ·exact .inr (up_ge h0 (by unfold tE at h hE ⊢; split at h <;> omega))
 refine⟨?_,hlt,hge⟩
 have hR:=isR_up (x:=x) hE hb.1 hlt hge
 have hr:=hR.rwb h0 hw
 rw[rnd_k0 _ _ hw] at hr
 unfold bdy
 rw[if_neg h0,hr,if_pos (body_eq hb.1 hb.2 hlt hge (n:=0))]
theorem bdy_tiny {x:Nat} {E:Int} (h0:x≠0) (ht:(bl x:Int)+E < -1075) {way:Nat} (hw:way=0∨way=1∨way=2):bdy x E way=if way=2 then 1 else 0:=by
 have hb:=bl_ne h0
 have hx:=lt_bl x
 have hx2:2*x<2^(-1074 - E).toNat:=by
  have:2^(bl x+1)≤2^(-1074 - E).toNat:=Nat.pow_le_pow_right (by omega) (by omega)
  rw[Nat.pow_succ] at this;omega
 have hq:x / 2^(-1074 - E).toNat=0:=Nat.div_eq_of_lt (by omega)
 have hm:x % 2^(-1074 - E).toNat=x:=Nat.mod_eq_of_lt (by omega)
 have hR:=isR_down (x:=x) (E:=E) (e' := -1074) (by omega) (by omega) (by rw[hq];omega) (.inl rfl)
 have hr:=hR.rwb h0 hw
 have h2:rwb x E way=if way=2 then 1 else 0:=by
  rw[hr]
  rcases hw with rfl|rfl|rfl
  ·rw[rnd0,hq,if_neg (by decide)];rfl
  ·rw[rnd1,hq,hm,if_pos hx2,if_neg (by decide)];rfl
  ·rw[rnd2,hq,hm,if_neg h0,if_pos rfl];rfl
 unfold bdy
 rw[if_neg h0,h2,if_pos (by split <;> omega)]
def dnU (x k way:Nat):Bool:=(way==2)||((way==1)&&((x / 2^(k - 1) % 2==1)&&(!(x % 2^(k - 1)==0)||(x / 2^k % 2==1))))
theorem rnd_dn {x k way:Nat} (hk:1≤k) (hx:x % 2=1) (hw:way=0∨way=1∨way=2):rnd x k (way:Int)=if dnU x k way then x / 2^k+1 else x / 2^k:=by
 obtain⟨n,rfl⟩:∃ n,k=n+1:=⟨k - 1,by omega⟩
 have hodd:x % 2^(n+1)≠0:=fun h=>by
  have:=Nat.dvd_of_mod_eq_zero h
  have h2:2 ∣ x:=Nat.dvd_trans ⟨2^n,by rw[Nat.pow_succ,Nat.mul_comm]⟩ this
  omega
 have hpos:0<2^n:=Nat.two_pow_pos n
 have hsplit:x % 2^(n+1)=x % 2^n+2^n*(x / 2^n % 2):=by rw[Nat.pow_succ,Nat.mod_mul]
 have hpw:2^(n+1)=2*2^n:=by rw[Nat.pow_succ,Nat.mul_comm]
 have hlt:x % 2^n<2^n:=Nat.mod_lt _ hpos
 have hb2:x / 2^n % 2=0∨x / 2^n % 2=1:=by omega
 unfold dnU
 rw[Nat.add_sub_cancel]
 rcases hw with rfl|rfl|rfl
 ·rw[rnd0];simp
 ·rw[rnd1]
  simp only[show((1:Nat)==2)=false by rfl,show((1:Nat)==1)=true by rfl,Bool.false_or,Bool.true_and]
  rw[hsplit,hpw]
  rcases hb2 with hb|hb
  ·rw[hb,Nat.mul_zero,Nat.add_zero,if_pos (by omega)];simp
  ·rw[hb,Nat.mul_one,if_neg (by omega)]
   by_cases hz:x % 2^n=0
   ·rw[hz,if_pos (by omega)]
    rcases Nat.mod_two_eq_zero_or_one (x / (2*2^n))with h|h <;> rw[h] <;> simp
   ·rw[if_neg (by omega)]
    have:(x % 2^n==0)=false:=by simpa using hz
    rw[this];simp
 ·rw[rnd2,if_neg hodd];simp
theorem bdy_dn {x:Nat} {E:Int} (h0:x % 2=1) (ht:(bl x:Int)+E≤1024) (hE:E<tE x E) {way:Nat} (hw:way=0∨way=1∨way=2) {n:Nat}
  (hn:n=if dnU x (tE x E - E).toNat way then x / 2^(tE x E - E).toNat+1 else x / 2^(tE x E - E).toNat) :
  n≤9007199254740992∧(tE x E = -1074∨4503599627370496≤n)∧bdy x E way=(tE x E+1074).toNat*4503599627370496+n∧x / 2^(tE x E - E).toNat<9007199254740992:=by
 have hx0:x≠0:=by omega
 have hb:=tE_bounds ht
 have hlt:x / 2^(tE x E - E).toNat<9007199254740992:=dn_lt (by unfold tE at hE ⊢; split at hE <;> omega)
 have hge:tE x E = -1074∨4503599627370496≤x / 2^(tE x E - E).toNat:=by
  by_cases h:tE x E = -1074
  ·exact .inl h
  ·exact .inr (dn_ge hx0 (by unfold tE at h hE ⊢; split at h <;> omega))
 have hR:=isR_down (x:=x) (E:=E) (by omega) hb.1 hlt hge
 have hr:=hR.rwb hx0 hw
 rw[rnd_dn (by omega) h0 hw,←hn] at hr
 have hn1:n≤9007199254740992:=by rw[hn];split <;> omega
 have hn2:tE x E = -1074∨4503599627370496≤n:=by
  rcases hge with h|h
  ·exact .inl h
  ·right;rw[hn];split <;> omega
 refine⟨hn1,hn2,?_,hlt⟩
 unfold bdy
 rw[if_neg hx0,hr]
 by_cases h1:(tE x E+1074).toNat*4503599627370496+n<9218868437227405312
 ·rw[if_pos h1]
 ·rw[if_neg h1]
  have h2:(tE x E+1074).toNat*4503599627370496+n=9218868437227405312:=by omega
  have h3:n≠x / 2^(tE x E - E).toNat:=by
   intro h;rw[←h] at hlt;omega
  have h4:way≠0:=by
   intro h;subst h
   apply h3;rw[hn];simp[dnU]
  rw[if_neg h4,h2]
theorem rsignb (s:Bool) (w:World):Calls Tryz.prog 131 #[.bool s] w fun r w'=>r=.returned (.int .i64 (if s then 1 else 0))∧w'=w:=by
 cases s
 ·go_enter Tryz.func131,Tryz.ntmps131
  go_wp2
  go_ret
  exact⟨rfl,rfl⟩
 ·go_enter Tryz.func131,Tryz.ntmps131
  go_wp2
  go_ret
  exact⟨rfl,rfl⟩
theorem cinf_m (w:World):Calls Tryz.prog 63 #[.int .i64 (-1)] w fun r w'=>r=.returned (.float .f64 18442240474082181120)∧w'=w:=by
 have hb:=Ie.run_frombits
 go_enter Tryz.func63,Tryz.ntmps63
 go_wp2
 go_ret
 exact⟨rfl,rfl⟩
theorem bd_or {E M:Nat} (hE:E≤2046) (h1:4503599627370496≤M) (h2:M<9007199254740992):bits BinOp.or IntKind.u64 ((E:Int)*4503599627370496) (bits BinOp.and IntKind.u64 (M:Int) 4503599627370495)=((E*4503599627370496+(M - 4503599627370496):Nat):Int):=by
 have e:=Nat.two_pow_add_eq_or_of_lt (i:=52) (b:=M - 4503599627370496) (by rw[show(2^52:Nat)=4503599627370496 from rfl];omega) E
 rw[show(2^52:Nat)=4503599627370496 from rfl] at e
 rw[and_mant M (by omega),show M % 4503599627370496=M - 4503599627370496 by omega,show(E:Int)*4503599627370496=((4503599627370496*E:Nat):Int) by omega,u64_or_nat _ _ (by omega) (by omega),←e,Nat.mul_comm]
theorem sg_or {b:Nat} (h:b<9223372036854775808):bits BinOp.or IntKind.u64 (b:Int) 9223372036854775808=((b+9223372036854775808:Nat):Int):=by
 have e:=u64_or_nat b 9223372036854775808 (by omega) (by decide)
 rw[show((9223372036854775808:Nat):Int)=9223372036854775808 from rfl] at e
 rw[e,Nat.or_comm,Nat.add_comm]
 congr 1
 have:=Nat.two_pow_add_eq_or_of_lt (i:=63) (b:=b) (by rw[show(2^63:Nat)=9223372036854775808 from rfl];exact h) 1
 rw[←(show 2^63*1=9223372036854775808 from rfl),←this]
theorem rbuild_1 (s:Bool) (M E:Nat) (w:World) (hm:4503599627370496≤M) (hm2:M<9007199254740992) (hE:1≤E) (hE2:E≤2046):Calls Tryz.prog 132 #[.bool s,.int .u64 (M:Nat),.int .i64 ((E:Int) - 1075)] w fun r w'=>r=.returned (.float .f64 (sig s ((E - 1)*4503599627370496+M)))∧w'=w:=by
 have hb:=Ie.run_frombits
 have hm':(4503599627370496:Int)≤(M:Int):=by omega
 have e1:=bd_or hE2 hm hm2
 have hlt:E*4503599627370496+(M - 4503599627370496)<9223372036854775808:=by omega
 have e2:=sg_or hlt
 obtain⟨bd,hbd⟩:∃ bd:Nat,bd=E*4503599627370496+(M - 4503599627370496):=⟨_,rfl⟩
 rw[←hbd] at e1 e2
 obtain⟨b2,hb2⟩:∃ b2:Nat,b2=(E - 1)*4503599627370496+M:=⟨_,rfl⟩
 have hR:bd=b2:=by omega
 have HR:Hid (bd=b2):=hR
 rw[←hb2]
 clear hR hb2 hlt
 clear hbd
 have hE3:(E:Int) - 1075+1075=E:=by omega
 cases s
 ·go_enter Tryz.func132,Tryz.ntmps132
  go_wp2
  go_ret
  refine⟨congrArg Ending.returned (congrArg (Value.float .f64) ?_),rfl⟩
  try simp only[hE3,e1]
  try rw[Int.toNat_natCast]
  rw[HR.out];rfl
 ·go_enter Tryz.func132,Tryz.ntmps132
  go_wp2
  go_ret
  refine⟨congrArg Ending.returned (congrArg (Value.float .f64) ?_),rfl⟩
  try simp only[hE3,e1,e2]
  try rw[Int.toNat_natCast]
  try rw[HR.out]
  try rfl
theorem rbuild_0 (s:Bool) (M:Nat) (e:Int) (w:World) (hm2:M<4503599627370496):Calls Tryz.prog 132 #[.bool s,.int .u64 (M:Nat),.int .i64 e] w fun r w'=>r=.returned (.float .f64 (sig s M))∧w'=w:=by
 have hb:=Ie.run_frombits
 have hm3:¬ (4503599627370496:Int)≤(M:Int):=by omega
 have e2:=sg_or (b:=M) (by omega)
 cases s
 ·go_enter Tryz.func132,Tryz.ntmps132
  go_wp2
  go_ret
  exact⟨rfl,rfl⟩
 ·go_enter Tryz.func132,Tryz.ntmps132
  go_wp2
  go_ret
  refine⟨congrArg Ending.returned (congrArg (Value.float .f64) ?_),rfl⟩
  try simp only[e2]
  try rfl
theorem rbuild {s:Bool} {M:Nat} {e:Int} {w:World} (hM:M<9007199254740992) (he : -1074≤e) (he2:e≤971) (hge:e = -1074∨4503599627370496≤M):Calls Tryz.prog 132 #[.bool s,.int .u64 (M:Nat),.int .i64 e] w fun r w'=>r=.returned (.float .f64 (sig s ((e+1074).toNat*4503599627370496+M)))∧w'=w:=by
 by_cases h:4503599627370496≤M
 ·obtain⟨E,hE⟩:∃ E:Nat,e=(E:Int) - 1075:=⟨(e+1075).toNat,by omega⟩
  subst hE
  rw[show((E:Int) - 1075+1074).toNat=E - 1 by omega]
  exact rbuild_1 s M E w h hM (by omega) (by omega)
 ·obtain rfl:e = -1074:=by omega
  rw[show((-1074:Int)+1074).toNat*4503599627370496+M=M by omega]
  exact rbuild_0 s M _ w (by omega)
theorem sm_two {d d1:Nat} (h0:d<B) (h1:d1<B):bits BinOp.or IntKind.u64 (IntKind.u64.wrap (IntKind.u64.wrap (d1:Int)*4294967296)) (IntKind.u64.wrap (d:Int))=((d+d1*B:Nat):Int):=by
 have e:IntKind.u64.wrap (IntKind.u64.wrap (d1:Int)*4294967296)=((d1*B:Nat):Int):=by
  rw[wrap_d h1,IntKind.wrap_u64];unfold B at *; omega
 rw[wrap_d h0,e,u64_or_nat _ _ (by unfold B at *; omega) (by unfold B at *; omega),or_add (p:=32) (by rw[←B_two];exact Nat.mul_mod_left ..) h0,Nat.add_comm]
theorem rsmall {v:Value} {X:Nat} {w:World} (h:Ir w v X) (hX:X<9007199254740992):Calls Tryz.prog 133 #[v] w fun r w'=>r=.returned (.int .u64 (X:Nat))∧w'=w:=by
 obtain⟨ao,cap,rfl,hc,b,o,hb,hcell⟩:=h
 have hl:dlen X≤2:=(dlen_le 2 X).2 (by unfold B;omega)
 have hX2:X=dg X 0+dg X 1*B:=by
  unfold dg B;omega
 have h0:=dg_lt X 0
 have h1:=dg_lt X 1
 by_cases e0:dlen X=0
 ·obtain rfl:=dlen_eq_zero.1 e0
  rw[dlen_zero] at *
  clear hcell hb h0 h1 hX2 hl e0
  go_enter Tryz.func133,Tryz.ntmps133
  go_wp2
  go_ret
  exact⟨rfl,rfl⟩
 ·obtain rfl:=hb (by omega)
  have g0:=hcell 0 (by omega)
  rw[Nat.add_zero] at g0
  by_cases e1:dlen X=1
  ·have hz:dg X 1=0:=dg_past (by omega)
   have HE:Hid (dg X 0=X):=(by rw[hz] at hX2;omega:dg X 0=X)
   rw[e1] at *
   generalize dg X 0=d at *
   have HD:Hid (d<B):=h0
   clear hcell hb h0 h1 hX2 hl e0 e1 hz
   go_enter Tryz.func133,Tryz.ntmps133
   go_wp2
   go_ret
   refine⟨congrArg Ending.returned (congrArg (Value.int .u64) ?_),rfl⟩
   have hd:=HD.out
   have e:=u64_or_nat 0 d (by decide) (by unfold B at hd;omega)
   show bits BinOp.or IntKind.u64 0 (IntKind.u64.wrap (d:Int))=_
   rw[wrap_d hd]
   refine e.trans ?_
   rw[Nat.zero_or,HE.out]
  ·have e2:dlen X=2:=by omega
   have g1:=hcell 1 (by omega)
   have HE:Hid (X=dg X 0+dg X 1*B):=hX2
   rw[e2] at *
   generalize dg X 0=d at *
   generalize dg X 1=d1 at *
   have HD:Hid (d<B∧d1<B):=⟨h0,h1⟩
   clear hcell hb h0 h1 hX2 hl e0 e1 e2
   go_enter Tryz.func133,Tryz.ntmps133
   go_wp2
   go_ret
   refine⟨congrArg Ending.returned (congrArg (Value.int .u64) ?_),rfl⟩
   rw[HE.out]
   exact sm_two HD.out.1 HD.out.2
theorem below_drewN3 {g:Nat} {a b:World} (h:Below g a b) (n:Nat):Below g a (b.drewN n):=h.trans ⟨rfl,rfl,rfl,Nat.le_refl _,fun _ _=>rfl⟩
theorem and1_32 {d X:Nat} (h:d=X % B):(bits BinOp.and IntKind.u32 (d:Int) 1==1)=(X % 2==1):=by
 have hB:B=4294967296:=rfl
 have h2:=u32_and_nat d 1 (by rw[h,hB];omega) (by decide)
 rw[show((1:Nat):Int)=1 from rfl] at h2
 rw[h2,Nat.and_one_is_mod,h,show X % B % 2=X % 2 by rw[hB];omega]
 rcases Nat.mod_two_eq_zero_or_one X with h|h <;> rw[h] <;> rfl
theorem and1_64 {X:Nat} (h:X<9007199254740992):(bits BinOp.and IntKind.u64 (X:Int) 1==1)=(X % 2==1):=by
 have h2:=u64_and_nat X 1 (by omega) (by decide)
 rw[show((1:Nat):Int)=1 from rfl] at h2
 rw[h2,Nat.and_one_is_mod]
 rcases Nat.mod_two_eq_zero_or_one X with h|h <;> rw[h] <;> rfl
theorem q53 {e:Int} (h : -1074≤e):Hid ((e+1+1074).toNat*4503599627370496+4503599627370496=(e+1074).toNat*4503599627370496+(9007199254740991+1)):=by
 have h1:(e+1+1074).toNat=(e+1074).toNat+1:=by omega
 show _=_
 rw[h1];omega
theorem neq53 {n:Nat} (h:n≠9007199254740992):((n:Int)==9007199254740992)=false:=by
 have:((n:Nat):Int)≠9007199254740992:=by omega
 simpa using this
theorem tE_max (x:Nat) (E:Int):max ((bl x:Int)+E - 53) (-1074)=tE x E:=by unfold tE;split <;> omega
theorem kdn {w:World} {ua:Option Addr} {uc x:Nat} (h:At w ua (dlen x) x) (hc:dlen x≤uc) (hl:dlen x≤100000) {i:Int} {k:Nat} (hi:i=(k:Int)) (hk:k≤10000000) :
  ∀ W,Bw w W→Calls Tryz.prog 112 #[.slice ua (dlen x) uc,.int .i64 i] W fun r w'=>∃ ao n cap,r=.returned (.tuple #[.slice ao n cap,.bool (decide (x % 2^k=0))])∧Ir w' (.slice ao n cap) (x / 2^k)∧Bw W w':=by
 intro W hW
 subst hi
 refine(rdown (v:=.slice ua (dlen x) uc) (⟨ua,uc,rfl,hc,h.later hW⟩:Ir W _ x) k (by omega) (by omega)).mono ?_
 rintro r w' ⟨ao,cap',rfl,hA,hc',hB⟩
 exact⟨_,_,_,rfl,⟨ao,cap',rfl,hc',hA⟩,hB⟩
theorem rto {neg:Bool} {ua:Option Addr} {uc x:Nat} {ea m:Int} {w:World} (h:At w ua (dlen x) x) (hc:dlen x≤uc) (hodd:x % 2=1) (hl:dlen x≤100000) (he1 : -4000000≤ea) (he2:ea≤4000000) (hm:1≤m∧m≤3) :
  Calls Tryz.prog 94 #[.agg #[.bool neg,.slice ua (dlen x) uc,.int .i64 ea],.int .i64 m] w fun r w'=>r=.returned (.float .f64 (sig neg (bdy x ea (wyN neg m))))∧Bw w w':=by
 have h0:x≠0:=by omega
 have hn0:((dlen x:Int)==0)=false:=len_ne (n:=0) h0
 have hbl:bl x≤32*dlen x:=bl_le_dlen x
 have hb1:=bl_ne h0
 obtain⟨ow,how⟩:∃ ow:Bool,(m==3 && !neg||m==1&&neg)=ow:=⟨_,rfl⟩
 obtain⟨nr,hnr⟩:∃ nr:Bool,(m==2)=nr:=⟨_,rfl⟩
 obtain⟨wy,hwy⟩:∃ y,wyN neg m=y:=⟨_,rfl⟩
 have hm3:m=1∨m=2∨m=3:=by omega
 have hY:wy=0∧nr=false∧ow=false∨wy=1∧nr=true∧ow=false∨wy=2∧nr=false∧ow=true:=by
  rcases hm3 with rfl|rfl|rfl <;> cases neg <;> subst how hnr hwy <;> simp[wyN]
 rw[hwy]
 have hw:wy=0∨wy=1∨wy=2:=by omega
 obtain⟨F,hF⟩:∃ F,F=sig neg (bdy x ea wy):=⟨_,rfl⟩
 rw[←hF]
 obtain⟨t,ht⟩:∃ t:Int,t=(bl x:Int)+ea:=⟨_,rfl⟩
 have ht3 : -4000000≤t:=by omega
 have ht4:t≤7200000:=by omega
 have kH:∀ W,Bw w W→Calls Tryz.prog 101 #[.agg #[.bool neg,.slice ua (dlen x) uc,.int .i64 ea]] W fun r w'=>r=.returned (.int .i64 t)∧Bw W w':=fun W hW=>by rw[ht];exact rhigh (h.later hW) h0 (by omega) ⟨he1,he2⟩
 have HN:Hid (At w ua (dlen x) x∧dlen x≤uc∧dlen x≤100000):=⟨h,hc,hl⟩
 have HT:Hid (t=(bl x:Int)+ea∧x % 2=1∧F=sig neg (bdy x ea wy)∧(wy=0∨wy=1∨wy=2)):=⟨ht,hodd,hF,hw⟩
 have HY:Hid (wy=0∧nr=false∧ow=false∨wy=1∧nr=true∧ow=false∨wy=2∧nr=false∧ow=true):=hY
 have HO:Hid ((m==3 && !neg||m==1&&neg)=ow):=how
 have HM:Hid (m=1∨m=2∨m=3):=hm3
 clear h hc hodd hl hwy hm hm3 hbl hb1 hF ht hw hY how h0
 obtain⟨un,hun⟩:∃ n,n=dlen x:=⟨_,rfl⟩
 rw[←hun] at hn0 kH HN ⊢
 have HU:Hid (un=dlen x):=hun
 clear hun
 obtain⟨W,hW⟩:∃ W,W=w.alloc (.cells #[.bool neg,.slice ua un uc,.int .i64 ea] 39):=⟨_,rfl⟩
 have hBW:Bw w W:=by rw[hW];exact(Below.refl _ _).alloc (Nat.le_refl _) _
 have hA:W.heap[w.heap.size]?=some (.cells #[.bool neg,.slice ua un uc,.int .i64 ea] 39 (0,0)):=by rw[hW];exact heap_alloc_new _ _
 have hsz:W.heap.size=w.heap.size+1:=by rw[hW];simp
 have HX:Hid (Bw w W):=hBW
 have HK:Hid (∀ w',Bw W w'→w'.cell? ⟨w.heap.size,0,none⟩=some (.bool neg)∧w'.cell? ⟨w.heap.size,1,none⟩=some (.slice ua un uc)∧w'.cell? ⟨w.heap.size,2,none⟩=some (.int .i64 ea)):=fun w' hb=>(box_cells29 (box_later hA hb (by omega))).1
 have k:=kH W hBW
 obtain⟨a0,a1,a2⟩:=HK.out W (Below.refl _ _)
 clear kH hA hsz hBW
 go_enter Tryz.func94,Tryz.ntmps94
 go_upto_region 4 with fail
 rw[←hW]
 clear hW
 go_cut [6] from 22 to 36 (fun v wx=>v=.bool ow∧wx=W)
 case first =>
  have hO:=HO.out
  rcases HM.out with rfl|rfl|rfl <;> cases neg <;> go_wp2 <;> go_meet <;> exact⟨by rw[←hO];rfl,rfl⟩
 case rest =>
  obtain⟨rfl,rfl⟩:=hcut
  clear HO HM
  go_wp2_with fail
  refine k.mono ?_
  rintro r w1 ⟨rfl,hb1⟩
  have HB1:Hid (Bw wc w1):=hb1
  clear k a0 a1 a2
  obtain⟨a0,a1,a2⟩:=HK.out w1 hb1
  clear hb1
  have kS0:∀ W,Calls Tryz.prog 131 #[.bool false] W fun r w'=>r=.returned (.int .i64 0)∧w'=W:=fun W=>rsignb false W
  have kS1:∀ W,Calls Tryz.prog 131 #[.bool true] W fun r w'=>r=.returned (.int .i64 1)∧w'=W:=fun W=>rsignb true W
  have kI0:=c61
  have kI1:=cinf_m
  by_cases hbig:1024<t
  ·obtain⟨e1,e2,e3,e4⟩:=HT.out
   rw[bdy_big (by omega) (by omega) e4] at e3
   have HF:Hid (F=sig neg (if wy=0 then 9218868437227405311 else 9218868437227405312)):=e3
   have kB:∀ W,Calls Tryz.prog 132 #[.bool neg,.int .u64 9007199254740991,.int .i64 971] W fun r w'=>r=.returned (.float .f64 (sig neg 9218868437227405311))∧w'=W:=fun W=>rbuild (M:=9007199254740991) (e:=971) (by omega) (by omega) (by omega) (.inr (by omega))
   clear e1 e2 e3 e4 HT
   cases neg <;> rcases HY.out with ⟨rfl,rfl,rfl⟩|⟨rfl,rfl,rfl⟩|⟨rfl,rfl,rfl⟩
   all_goals go_wp2_with (first|(go_at_call 131;(first|(with_reducible refine(kS0 _).mono ?_)|(with_reducible refine(kS1 _).mono ?_));rintro r w2 ⟨rfl,rfl⟩)|(go_at_call 63;(first|(with_reducible refine(kI0 _).mono ?_)|(with_reducible refine(kI1 _).mono ?_));rintro r w2 ⟨rfl,rfl⟩)|(go_at_call 132;refine(kB _).mono ?_;rintro r w2 ⟨rfl,rfl⟩))
   all_goals go_ret
   all_goals exact⟨by rw[HF.out];rfl,HX.out.trans (HB1.out.mono HX.out.size)⟩
  ·obtain⟨e2,he⟩:∃ e2,e2=tE x ea:=⟨_,rfl⟩
   have hmx:max (t - 53) (-1074)=e2:=by rw[HT.out.1,he];exact tE_max x ea
   have htb:(bl x:Int)+ea≤1024:=by have:=HT.out.1;omega
   obtain⟨h21,h22⟩:=tE_bounds htb
   rw[←he] at h21 h22
   have HE:Hid (e2=tE x ea∧(bl x:Int)+ea≤1024):=⟨he,htb⟩
   clear he htb
   by_cases hge:e2≤ea
   ·obtain⟨k,hk⟩:∃ k:Nat,k=(ea - e2).toNat:=⟨_,rfl⟩
    obtain⟨hb,hlt,hg⟩:=bdy_up (by have:=HT.out.2.1;omega) HE.out.2 (by rw[←HE.out.1];exact hge) HT.out.2.2.2
    rw[←HE.out.1,←hk] at hb hlt hg
    obtain⟨X,hX⟩:∃ X,X=x*2^k:=⟨_,rfl⟩
    rw[←hX] at hb hlt hg
    have HF:Hid (F=sig neg ((e2+1074).toNat*4503599627370496+X)):=by have:=HT.out.2.2.1;rw[hb] at this;exact this
    have kU:Calls Tryz.prog 80 #[.slice ua un uc,.int .i64 (ea - e2)] w1 fun r w'=>∃ v,r=.returned v∧Ir w' v X∧Bw w1 w':=by
     rw[show ea - e2=(k:Int) by omega,hX]
     have hu:=HU.out
     obtain⟨q1,q2,q3⟩:=HN.out
     subst hu
     exact rup ⟨ua,uc,rfl,q2,q1.later (HX.out.trans (HB1.out.mono HX.out.size))⟩ k (by omega) (by omega)
    have kB:∀ W,Calls Tryz.prog 132 #[.bool neg,.int .u64 (X:Nat),.int .i64 e2] W fun r w'=>r=.returned (.float .f64 (sig neg ((e2+1074).toNat*4503599627370496+X)))∧w'=W:=fun W=>rbuild hlt h21 h22 hg
    have HL:Hid (X<9007199254740992):=hlt
    clear hb hlt hg hX hk HT
    go_wp2_with (first|(go_at_call 80;refine kU.mono ?_;rintro r w2 ⟨v,rfl,hv,hb2⟩))
    have HB2:Hid (Bw wc w2):=HB1.out.trans (hb2.mono HB1.out.size)
    obtain⟨a0,a1,a2⟩:=HK.out w2 HB2.out
    have kS:∀ d,Calls Tryz.prog 133 #[v] (w2.drewN d) fun r w'=>r=.returned (.int .u64 X)∧w'=w2.drewN d:=fun d=>rsmall (hv.later ⟨rfl,rfl,rfl,Nat.le_refl _,fun _ _=>rfl⟩) HL.out
    clear kU hb2 hv
    go_quiet (first|(go_at_call 133;refine Calls.quiet_of_same (kS _))|(go_at_call 132;refine Calls.quiet_of_same (kB _)))
    go_wp2
    go_ret
    exact⟨by rw[HF.out];rfl,HX.out.trans ((below_drewN3 HB2.out _).mono HX.out.size)⟩
   ·by_cases ht2:t < -1075
    ·obtain⟨e1,e2',e3,e4⟩:=HT.out
     rw[bdy_tiny (by omega) (by omega) e4] at e3
     have HF:Hid (F=sig neg (if wy=2 then 1 else 0)):=e3
     have kB0:∀ W,Calls Tryz.prog 132 #[.bool neg,.int .u64 0,.int .i64 (-1074)] W fun r w'=>r=.returned (.float .f64 (sig neg 0))∧w'=W:=fun W=>rbuild_0 neg 0 (-1074) W (by omega)
     have kB1:∀ W,Calls Tryz.prog 132 #[.bool neg,.int .u64 1,.int .i64 (-1074)] W fun r w'=>r=.returned (.float .f64 (sig neg 1))∧w'=W:=fun W=>rbuild_0 neg 1 (-1074) W (by omega)
     clear e1 e2' e3 e4 HT
     rcases HY.out with ⟨rfl,rfl,rfl⟩|⟨rfl,rfl,rfl⟩|⟨rfl,rfl,rfl⟩
     all_goals go_wp2_with (first|(go_at_call 132;(first|(with_reducible refine(kB0 _).mono ?_)|(with_reducible refine(kB1 _).mono ?_));rintro r w2 ⟨rfl,rfl⟩))
     all_goals go_ret
     all_goals exact⟨by rw[HF.out];rfl,HX.out.trans (HB1.out.mono HX.out.size)⟩
    ·obtain⟨k,hk⟩:∃ k:Nat,k=(e2 - ea).toNat:=⟨_,rfl⟩
     have hi:e2 - ea=(k:Int):=by omega
     have hi2:e2 - ea - 1=((k - 1:Nat):Int):=by omega
     have hkb:k≤10000000:=by omega
     obtain⟨N,hN⟩:∃ n,n=if dnU x (tE x ea - ea).toNat wy then x / 2^(tE x ea - ea).toNat+1 else x / 2^(tE x ea - ea).toNat:=⟨_,rfl⟩
     obtain⟨hn1,hn2,hb,hX⟩:=bdy_dn HT.out.2.1 HE.out.2 (by rw[←HE.out.1];omega) HT.out.2.2.2 hN
     rw[←HE.out.1,←hk] at hN hX
     rw[←HE.out.1] at hb hn2
     have HF:Hid (F=sig neg ((e2+1074).toNat*4503599627370496+N)):=by have:=HT.out.2.2.1;rw[hb] at this;exact this
     have hu:=HU.out
     obtain⟨q1,q2,q3⟩:=HN.out
     subst hu
     have q3':=q3
     have HD1:Hid (∀ V,Bw w V→Calls Tryz.prog 112 #[.slice ua (dlen x) uc,.int .i64 (e2 - ea)] V fun r w'=>∃ ao n cap,r=.returned (.tuple #[.slice ao n cap,.bool (decide (x % 2^k=0))])∧Ir w' (.slice ao n cap) (x / 2^k)∧Bw V w'):=kdn q1 q2 q3 hi hkb
     have HD2:Hid (∀ V,Bw w V→Calls Tryz.prog 112 #[.slice ua (dlen x) uc,.int .i64 (e2 - ea - 1)] V fun r w'=>∃ ao n cap,r=.returned (.tuple #[.slice ao n cap,.bool (decide (x % 2^(k - 1)=0))])∧Ir w' (.slice ao n cap) (x / 2^(k - 1))∧Bw V w'):=kdn q1 q2 q3 hi2 (by omega)
     have hod:=and1_64 hX
     have HG:Hid (N≤9007199254740992∧(e2 = -1074∨4503599627370496≤N)∧N=if dnU x k wy then x / 2^k+1 else x / 2^k):=⟨hn1,hn2,hN⟩
     clear HT HN HU q1 q2 q3 hi hi2 hn1 hn2 hb hN hk hkb
     unfold dnU at HG
     obtain⟨X,hXe⟩:∃ X,X=x / 2^k:=⟨_,rfl⟩
     obtain⟨Y,hYe⟩:∃ X,X=x / 2^(k - 1):=⟨_,rfl⟩
     obtain⟨hf,hfe⟩:∃ b:Bool,b=(Y % 2==1):=⟨_,rfl⟩
     obtain⟨od,hode⟩:∃ b:Bool,b=(X % 2==1):=⟨_,rfl⟩
     obtain⟨ex,hex⟩:∃ b:Bool,b=decide (x % 2^(k - 1)=0):=⟨_,rfl⟩
     rw[show(x % 2^(k - 1)==0)=decide (x % 2^(k - 1)=0)from rfl,←hex,←hXe,←hYe,←hfe,←hode] at HG
     rw[←hXe] at hX hod HD1
     rw[←hode] at hod
     rw[←hex,←hYe] at HD2
     have HFE:Hid (hf=(Y % 2==1)∧dlen Y≤100000):=⟨hfe,by rw[hYe];exact Nat.le_trans (dlen_mono (Nat.div_le_self _ _)) q3'⟩
     clear q3'
     generalize dlen x=un at *
     generalize decide (x % 2^k=0)=ex0 at HD1
     clear hXe hYe hfe hode hex
     have kD1:=HD1.out w1 (HX.out.trans (HB1.out.mono HX.out.size))
     go_wp2_with fail
     refine kD1.mono ?_
     rintro r w2 ⟨ao1,n1,c1,rfl,hv,hb2⟩
     have HB2:Hid (Bw wc w2):=HB1.out.trans (hb2.mono HB1.out.size)
     clear a0 a1 a2 kD1
     obtain⟨a0,a1,a2⟩:=HK.out w2 HB2.out
     have kS:=rsmall hv hX
     have kD2:=HD2.out w2 (HX.out.trans (HB2.out.mono HX.out.size))
     clear hv hb2 HD1 HD2 HB1
     go_wp2_with fail
     refine kS.mono ?_
     rintro r w3 ⟨rfl,rfl⟩
     clear kS
     go_wp2_with fail
     refine kD2.mono ?_
     rintro r w4 ⟨ao2,n2,c2,rfl,hv,hb4⟩
     have HB4:Hid (Bw wc w4):=HB2.out.trans (hb4.mono HB2.out.size)
     clear a0 a1 a2 kD2 hb4 HB2
     obtain⟨a0,a1,a2⟩:=HK.out w4 HB4.out
     have HV:Hid (Ir w4 (.slice ao2 n2 c2) Y):=hv
     clear hv
     go_upto_region 21 with fail
     go_cut [15] from 106 to 115 (fun v wx=>v=.bool hf∧wx=w4)
     case first =>
      obtain⟨ao,cap,hve,hcap,b,o,hb,hcell⟩:=HV.out
      injection hve with e1 e2 e3
      subst e1 e3
      obtain⟨hf',hly⟩:=HFE.out
      by_cases hz:0<dlen Y
      ·obtain rfl:=hb hz
       have c0:=hcell 0 hz
       rw[Nat.add_zero] at c0
       have hdd:=and1_32 (d:=dg Y 0) (X:=Y) (dg_zero _)
       have hpos:(0:Int)<(n2:Int):=by omega
       have hcp:n2≤1000000000:=by omega
       generalize dg Y 0=dd at *
       clear hcell HV HFE hb hz e2 hcap
       go_wp2
       go_meet
       exact⟨by rw[hf'],rfl⟩
      ·have hy:Y=0:=dlen_eq_zero.1 (by omega)
       have hneg:¬ (0:Int)<(n2:Int):=by omega
       have hf0:hf=false:=by rw[hf',hy];rfl
       subst hf0
       clear hcell HV HFE hb hz e2 hcap
       go_wp2
       go_meet
       exact⟨rfl,rfl⟩
     case rest =>
      obtain⟨rfl,rfl⟩:=hcut
      clear HV HFE
      obtain⟨up,hup⟩:∃ b:Bool,b=(wy==2||wy==1&&(hf&&(!ex||od))):=⟨_,rfl⟩
      rw[←hup] at HG
      have HU:Hid (up=(wy==2||wy==1&&(hf&&(!ex||od)))):=hup
      clear hup
      go_upto_region 22 with fail
      go_cut [131] from 116 to 131 (fun v wx=>v=.bool up∧wx=wc)
      case first =>
       have g3:=HU.out
       clear HG
       rcases HY.out with ⟨rfl,rfl,rfl⟩|⟨rfl,rfl,rfl⟩|⟨rfl,rfl,rfl⟩
       ·go_wp2
        go_meet
        exact⟨by rw[g3];rfl,rfl⟩
       ·cases hf <;> cases ex <;> cases od <;> go_wp2 <;> go_meet <;> exact⟨by rw[g3];rfl,rfl⟩
       ·go_wp2
        go_meet
        exact⟨by rw[g3];rfl,rfl⟩
      case rest =>
       obtain⟨rfl,rfl⟩:=hcut
       clear HU HY hod
       obtain⟨g1,g2,g3⟩:=HG.out
       clear HG
       cases up
       ·have hN:N=X:=g3
        rw[hN] at g2 HF
        have kB:∀ W,Calls Tryz.prog 132 #[.bool neg,.int .u64 (X:Nat),.int .i64 e2] W fun r w'=>r=.returned (.float .f64 (sig neg ((e2+1074).toNat*4503599627370496+X)))∧w'=W:=fun W=>rbuild hX h21 h22 g2
        have hne:=neq53 (n:=X) (by omega)
        clear g1 g2 g3 hN
        go_wp2_with (first|(go_at_call 132;refine(kB _).mono ?_;rintro r w5 ⟨rfl,rfl⟩))
        go_ret
        exact⟨by rw[HF.out];rfl,HX.out.trans (HB4.out.mono HX.out.size)⟩
       ·have hN:N=X+1:=g3
        rw[hN] at g1 g2 HF
        clear g3
        by_cases h53:X+1=9007199254740992
        ·obtain rfl:X=9007199254740991:=by omega
         by_cases h971:e2=971
         ·subst h971
          clear g1 g2 hN
          cases neg
          all_goals go_wp2_with (first|(go_at_call 131;(first|(with_reducible refine(kS0 _).mono ?_)|(with_reducible refine(kS1 _).mono ?_));rintro r w5 ⟨rfl,rfl⟩)|(go_at_call 63;(first|(with_reducible refine(kI0 _).mono ?_)|(with_reducible refine(kI1 _).mono ?_));rintro r w5 ⟨rfl,rfl⟩))
          all_goals go_ret
          all_goals exact⟨by rw[HF.out];rfl,HX.out.trans (HB4.out.mono HX.out.size)⟩
         ·have h970:e2+1≤971:=by omega
          have kB:∀ W,Calls Tryz.prog 132 #[.bool neg,.int .u64 4503599627370496,.int .i64 (e2+1)] W fun r w'=>r=.returned (.float .f64 (sig neg ((e2+1+1074).toNat*4503599627370496+4503599627370496)))∧w'=W:=fun W=>rbuild (M:=4503599627370496) (by omega) (by omega) h970 (.inr (Nat.le_refl _))
          have HQ:=q53 h21
          clear g1 g2 hN h971
          go_wp2_with (first|(go_at_call 132;refine(kB _).mono ?_;rintro r w5 ⟨rfl,rfl⟩))
          go_ret
          exact⟨by rw[HF.out,←HQ.out];rfl,HX.out.trans (HB4.out.mono HX.out.size)⟩
        ·have kB:∀ W,Calls Tryz.prog 132 #[.bool neg,.int .u64 ((X:Int)+1),.int .i64 e2] W fun r w'=>r=.returned (.float .f64 (sig neg ((e2+1074).toNat*4503599627370496+(X+1))))∧w'=W:=fun W=>rbuild (M:=X+1) (by omega) h21 h22 g2
         have hne:((X:Int)+1==9007199254740992)=false:=neq53 (n:=X+1) h53
         clear g1 g2 hN h53
         go_wp2_with (first|(go_at_call 132;refine(kB _).mono ?_;rintro r w5 ⟨rfl,rfl⟩))
         go_ret
         exact⟨by rw[HF.out];rfl,HX.out.trans (HB4.out.mono HX.out.size)⟩
end Go.Proofs.YtokklnjoalkjaaaGreatDoor
namespace Go.Proofs.YtokklnjoalkjaaaGreatDoor
end Go.Proofs.YtokklnjoalkjaaaGreatDoor
namespace Go.Proofs.YtokklnjoalkjaaaGreatDoor
open Go.RowKit Go.Fl64
open Ie
end Go.Proofs.YtokklnjoalkjaaaGreatDoor
namespace Go.Proofs.YtokklnjoalkjaaaGreatDoor
open Go.RowKit
end Go.Proofs.YtokklnjoalkjaaaGreatDoor
namespace Go.Proofs.YtokklnjoalkjaaaGreatDoor
open Go.RowKit Go.Fl64
open Ie
end Go.Proofs.YtokklnjoalkjaaaGreatDoor
namespace Go.Proofs.YtokklnjoalkjaaaGreatDoor
open Go.RowKit Go.Fl64
theorem dR_1 (s:Bool) (ao:Option Addr) (n cap:Nat) (e m sg:Int) (Z F:Nat) (w:World)
  (kS:∀ W,Bw w W→Calls Tryz.prog 64 #[.agg #[.bool s,.slice ao n cap,.int .i64 e]] W fun r w'=>r=.returned (.int .i64 sg)∧Bw W w')
  (kT:(sg==0)=false→∀ W,Bw w W→Calls Tryz.prog 94 #[.agg #[.bool s,.slice ao n cap,.int .i64 e],.int .i64 m] W fun r w'=>r=.returned (.float .f64 F)∧Bw W w') :
  Calls Tryz.prog 50 #[.agg #[.bool s,.slice ao n cap,.int .i64 e],.int .i64 m,.float .f64 Z] w fun r w'=>r=.returned (.float .f64 (if sg==0 then Z else F))∧Bw w w':=by
 obtain⟨W,hW⟩:∃ W,W=w.alloc (.cells #[.bool s,.slice ao n cap,.int .i64 e] 39):=⟨_,rfl⟩
 have hA:W.heap[w.heap.size]?=some (.cells #[.bool s,.slice ao n cap,.int .i64 e] 39 (0,0)):=by rw[hW];exact heap_alloc_new _ _
 have HX:Hid (Bw w W∧W.heap[w.heap.size]?=some (.cells #[.bool s,.slice ao n cap,.int .i64 e] 39 (0,0))):=⟨by rw[hW];exact(Below.refl _ _).alloc (Nat.le_refl _) _,hA⟩
 obtain⟨⟨a0,a1,a2⟩,-⟩:=box_cells29 hA
 have k1:=kS W HX.out.1
 have HT:Hid _:=kT
 clear kS kT hA
 rw[hW] at a0 a1 a2
 cases hs:(sg==0)
 ·have kt:=HT.out hs
  have HT2:Hid _:=kt
  clear HT kt
  go_enter Tryz.func50,Tryz.ntmps50
  go_wp2_with fail
  rw[←hW]
  clear hW a0 a1 a2
  refine k1.mono ?_
  rintro r w1 ⟨rfl,hb1⟩
  have HB1:Hid (Bw w w1):=HX.out.1.trans (hb1.mono HX.out.1.size)
  obtain⟨⟨a0,a1,a2⟩,-⟩:=box_cells29 (box_later HX.out.2 hb1 (lt_of_box HX.out.2))
  have k2:=HT2.out w1 HB1.out
  clear k1 hb1
  go_wp2_with fail
  refine k2.mono ?_
  rintro r w2 ⟨rfl,hb2⟩
  have HB2:Hid (Bw w w2):=HB1.out.trans (hb2.mono HB1.out.size)
  clear k2 hb2 a0 a1 a2
  go_wp2_with fail
  go_ret
  exact⟨rfl,HB2.out⟩
 ·go_enter Tryz.func50,Tryz.ntmps50
  go_wp2_with fail
  rw[←hW]
  clear hW a0 a1 a2
  refine k1.mono ?_
  rintro r w1 ⟨rfl,hb1⟩
  have HB1:Hid (Bw w w1):=HX.out.1.trans (hb1.mono HX.out.1.size)
  clear k1 hb1
  go_wp2_with fail
  go_ret
  exact⟨rfl,HB1.out⟩
theorem dR {t:Bool×Nat×Int} {A:Value} {m:Int} {Z:Nat} {w:World} (h:DN w A t) (ho:t.2.1≠0→t.2.1 % 2=1) (hl:dlen t.2.1≤30000) (he1 : -2000000≤t.2.2) (he2:t.2.2≤2000000) (hm:1≤m∧m≤3) :
  Calls Tryz.prog 50 #[A,.int .i64 m,.float .f64 Z] w fun r w'=>r=.returned (.float .f64 (if t.2.1=0 then Z else tfF t.1 true t.2.1 t.2.2 m))∧Bw w w':=by
 obtain⟨ao,cap,rfl,hA⟩:=h
 have k:=dR_1 t.1 ao (dlen t.2.1) cap t.2.2 m (if dlen t.2.1=0 then 0 else if t.1 then -1 else 1) Z (tfF t.1 true t.2.1 t.2.2 m) w (fun W hW=>rsgn (by omega)) (fun hs W hW=>by
  have h0:t.2.1≠0:=by
   intro e
   rw[if_pos (dlen_eq_zero.2 e)] at hs
   simp at hs
  rw[tf_bdy hm]
  exact rto ((hA.later hW).at_) hA.le (ho h0) (by omega) (by omega) (by omega) hm)
 refine k.mono ?_
 rintro r w' ⟨rfl,hb⟩
 refine⟨?_,hb⟩
 by_cases h0:t.2.1=0
 ·rw[if_pos h0,if_pos (dlen_eq_zero.2 h0)];rfl
 ·rw[if_neg h0,if_neg (fun e=>h0 (dlen_eq_zero.1 e))]
  cases t.1 <;> rfl
theorem dadd_fin (a b F:Nat) (m:Int) (ta tb t3:Bool×Nat×Int) (w:World) (hm:isM m=true) (ha:a<18446744073709551616) (hb:b<18446744073709551616)
  (hfa:mag a<9218868437227405312) (hfb:mag b<9218868437227405312)
  (kA:Calls Tryz.prog 32 #[.float .f64 a] w fun r w'=>∃ A,r=.returned A∧DN w' A ta∧Bw w w')
  (kB:∀ W,Bw w W→Calls Tryz.prog 32 #[.float .f64 b] W fun r w'=>∃ A,r=.returned A∧DN w' A tb∧Bw W w')
  (kC:∀ W X Y,Bw w W→DN W X ta→DN W Y tb→Calls Tryz.prog 34 #[X,Y] W fun r w'=>∃ A,r=.returned A∧DN w' A t3∧Bw W w')
  (kR:∀ W X,Bw w W→DN W X t3→Calls Tryz.prog 50 #[X,.int .i64 m,.float .f64 (sig (z0 (neg a) (neg b) m) 0)] W fun r w'=>r=.returned (.float .f64 F)∧Bw W w') :
  Calls Tryz.prog 11 #[.float .f64 a,.float .f64 b,.int .i64 m] w fun r w'=>r=.returned (.float .f64 F)∧Bw w w':=by
 have kV:∀ W,Calls Tryz.prog 15 #[.int .i64 m] W fun r w'=>r=.returned (.int .i64 0)∧w'=W:=fun W=>by
  have:=dvalid m W
  rw[hm] at this
  exact this
 have kna:=Ie.dnan a ha
 have knb:=Ie.dnan b hb
 have kia:=Ie.dinf a ha
 have kib:=Ie.dinf b hb
 rw[show isNaN a=false by unfold isNaN;simp;omega] at kna
 rw[show isNaN b=false by unfold isNaN;simp;omega] at knb
 rw[Ie.isInf_not.2 (by omega)] at kia
 rw[Ie.isInf_not.2 (by omega)] at kib
 have HS:Hid ((∀ W,Calls Tryz.prog 52 #[.float .f64 a] W fun r w'=>r=.returned (.bool (neg a))∧w'=W)∧(∀ W,Calls Tryz.prog 52 #[.float .f64 b] W fun r w'=>r=.returned (.bool (neg b))∧w'=W)):=⟨dsign a ha,dsign b hb⟩
 have HKB:Hid _:=kB
 have HKC:Hid _:=kC
 have HKR:Hid _:=kR
 clear ha hb kB kC kR hfa hfb
 go_enter Tryz.func11,Tryz.ntmps11
 go_wp2_with (first|(go_at_call 15;refine(kV _).mono ?_;rintro e w' ⟨rfl,hw⟩;rw[hw];clear hw w')|(go_at_call 46;first|(refine(kna _).mono ?_;rintro e w' ⟨rfl,hw⟩;rw[hw];clear hw w')|(refine(knb _).mono ?_;rintro e w' ⟨rfl,hw⟩;rw[hw];clear hw w'))|(go_at_call 48;first|(refine(kia _).mono ?_;rintro e w' ⟨rfl,hw⟩;rw[hw];clear hw w')|(refine(kib _).mono ?_;rintro e w' ⟨rfl,hw⟩;rw[hw];clear hw w')))
 clear kna knb kia kib kV
 refine kA.mono ?_
 rintro r w1 ⟨A1,rfl,hP1,hb1⟩
 have k2:=HKB.out w1 hb1
 clear kA
 go_wp2_with fail
 refine k2.mono ?_
 rintro r w2 ⟨A2,rfl,hP2,hb2⟩
 have HB2:Hid (Bw w w2):=hb1.trans (hb2.mono hb1.size)
 have k3:=HKC.out w2 _ _ HB2.out (hP1.later hb2) hP2
 clear k2 hP1 hP2 hb1 hb2
 go_wp2_with fail
 refine k3.mono ?_
 rintro r w3 ⟨A3,rfl,hP3,hb3⟩
 have HB3:Hid (Bw w w3):=HB2.out.trans (hb3.mono HB2.out.size)
 have k4:=HKR.out w3 _ HB3.out hP3
 have ks1:=HS.out.1 w3
 have ks2:=HS.out.2 w3
 have k5:=dsum0 (neg a) (neg b) m w3
 clear k3 hP3 hb3
 go_wp2_with fail
 refine ks1.mono ?_
 rintro r w6 ⟨rfl,hw⟩
 rw[hw]
 clear hw ks1
 go_wp2_with fail
 refine ks2.mono ?_
 rintro r w6 ⟨rfl,hw⟩
 rw[hw]
 clear hw ks2
 go_wp2_with fail
 refine k5.mono ?_
 rintro r w6 ⟨rfl,hw⟩
 rw[hw]
 clear hw k5
 go_wp2_with fail
 refine k4.mono ?_
 rintro r w6 ⟨rfl,hb6⟩
 have HB6:Hid (Bw w w6):=HB3.out.trans (hb6.mono HB3.out.size)
 clear k4 hb6
 go_wp2_with fail
 go_ret
 exact⟨rfl,HB6.out⟩
end Go.Proofs.YtokklnjoalkjaaaGreatDoor
