/- Own work: contracts of the program's functions, part 10: RW2 RW3 RW4 RW5 RW6 RW7 RW8 RW9 RX1 W49 RX2 RX3 W50 L16 L10 L17 L14 W51 W52 FM FM2 F1 F6 F7 FM3 L6 L8 FM4 FM5. -/
import Derived.Test.YtfkaogdmlcdceaaGreatDoorA8
import Derived.Test.YtfkaogdmlcdceaaGreatDoorA9
import Derived.Test.YtfkaogdmlcdceaaGreatDoorA3
import Derived.Test.YtfkaogdmlcdceaaGreatDoorA4
import Derived.Test.YtfkaogdmlcdceaaGreatDoorA7
import Derived.Test.YtfkaogdmlcdceaaGreatDoorA6
import Derived.Test.YtfkaogdmlcdceaaGreatDoorA1

set_option maxHeartbeats 16000000
set_option maxRecDepth 200000
set_option linter.unusedVariables false
set_option linter.unusedSimpArgs false
namespace Go.Proofs.YtfkaogdmlcdceaaGreatDoor
open Go.RowKit
theorem rlessN_1 (na nb:Bool) (ua va:Option Addr) (un uc vn vc:Nat) (ea eb:Int) (nc:Bool) (xa:Option Addr) (xn xc:Nat) (ec:Int) (s:Bool) (z:Nat) (e:Int) (w:World) (kM:∀ W,Calls Tryz.prog 111 #[.agg #[.bool nb,.slice va vn vc,.int .i64 eb]] W fun r w'=>r=.returned (.agg #[.bool nc,.slice xa xn xc,.int .i64 ec])∧Bw W w')
  (kA:∀ W,Bw w W→Calls Tryz.prog 83 #[.agg #[.bool na,.slice ua un uc,.int .i64 ea],.agg #[.bool nc,.slice xa xn xc,.int .i64 ec]] W fun r w'=>∃ a,r=.returned a∧NC w' W.heap.size a s z e∧Bw W w') :
  Calls Tryz.prog 45 #[.agg #[.bool na,.slice ua un uc,.int .i64 ea],.agg #[.bool nb,.slice va vn vc,.int .i64 eb]] w fun r w'=>∃ a,r=.returned a∧NC w' w.heap.size a s z e∧Bw w w':=by
 have HKM:Hid _:=kM
 have HKA:Hid _:=kA
 clear kM kA
 obtain⟨W,hW⟩:∃ W,W=((w.alloc (.cells #[.bool na,.slice ua un uc,.int .i64 ea] 54)).alloc (.cells #[.bool nb,.slice va vn vc,.int .i64 eb] 54)).alloc (.cells #[.bool false,.slice none 0 0,.int .i64 0] 54):=⟨_,rfl⟩
 obtain⟨hA,hBb,hC,hsz,hBW⟩:=boxes3 _ _ _ hW
 have HH:Hid ((W.heap[w.heap.size]?=some (.cells #[.bool na,.slice ua un uc,.int .i64 ea] 54 (0,0))∧W.heap[w.heap.size+1]?=some (.cells #[.bool nb,.slice va vn vc,.int .i64 eb] 54 (0,0))∧W.heap[w.heap.size+1+1]?=some (.cells #[.bool false,.slice none 0 0,.int .i64 0] 54 (0,0)))∧W.heap.size=w.heap.size+1+1+1∧Bw w W):=⟨⟨hA,hBb,hC⟩,hsz,hBW⟩
 obtain⟨⟨a0,a1,a2⟩,-⟩:=box_cells29 hA
 obtain⟨⟨b0,b1,b2⟩,-⟩:=box_cells29 hBb
 clear hA hBb hC hsz hBW
 have kM:∀ w4,Bw W w4→Calls Tryz.prog 111 #[.agg #[.bool nb,.slice va vn vc,.int .i64 eb]] w4 fun r w'=>r=.returned (.agg #[.bool nc,.slice xa xn xc,.int .i64 ec])∧Bw W w':=fun w4 hb=>(HKM.out w4).mono fun r w' ⟨e1,o2⟩=>⟨e1,hb.trans (o2.mono hb.size)⟩
 have kA:∀ w5,Bw W w5→Calls Tryz.prog 83 #[.agg #[.bool na,.slice ua un uc,.int .i64 ea],.agg #[.bool nc,.slice xa xn xc,.int .i64 ec]] w5 fun r w'=>∃ s' ao n cap ex,r=.returned (.agg #[.bool s',.slice ao n cap,.int .i64 ex])∧Hid (NC w' W.heap.size (.agg #[.bool s',.slice ao n cap,.int .i64 ex]) s z e)∧Bw W w'∧Hid (w'.heap[w.heap.size+1+1]?=some (.cells #[.bool false,.slice none 0 0,.int .i64 0] 54 (0,0))) ∧
   (w'.cell? ⟨w.heap.size+1+1,0,none⟩=some (.bool false)∧w'.cell? ⟨w.heap.size+1+1,1,none⟩=some (.slice none 0 0)∧w'.cell? ⟨w.heap.size+1+1,2,none⟩=some (.int .i64 0))∧(w'.frozen? ⟨w.heap.size+1+1,0,none⟩=false∧w'.frozen? ⟨w.heap.size+1+1,1,none⟩=false∧w'.frozen? ⟨w.heap.size+1+1,2,none⟩=false):=by
  intro w5 hb
  refine(HKA.out w5 (HH.out.2.2.trans (hb.mono HH.out.2.2.size))).mono ?_
  rintro r w6 ⟨A,rfl,hN,hb6⟩
  obtain⟨s',ao,n,cap,ex,rfl⟩:=hN.shape
  have hb16:Bw W w6:=hb.trans (hb6.mono hb.size)
  have hblk:=box_later HH.out.1.2.2 hb16 (by have:=HH.out.2.1;omega)
  obtain⟨f1,f2⟩:=box_cells29 hblk
  exact⟨s',ao,n,cap,ex,rfl,hN.mono hb.size,hb16,hblk,f1,f2⟩
 have HK:Hid (∀ w',Bw W w'→((w'.cell? ⟨w.heap.size,0,none⟩=some (.bool na)∧w'.cell? ⟨w.heap.size,1,none⟩=some (.slice ua un uc)∧w'.cell? ⟨w.heap.size,2,none⟩=some (.int .i64 ea))∧(w'.cell? ⟨w.heap.size+1,0,none⟩=some (.bool nb)∧w'.cell? ⟨w.heap.size+1,1,none⟩=some (.slice va vn vc)∧w'.cell? ⟨w.heap.size+1,2,none⟩=some (.int .i64 eb)))):=fun w' hb=>⟨(box_cells29 (box_later HH.out.1.1 hb (by have:=HH.out.2.1;omega))).1,(box_cells29 (box_later HH.out.1.2.1 hb (by have:=HH.out.2.1;omega))).1⟩
 have HK2:Hid (∀ w',Below (w.heap.size+1+1) W w'→((w'.cell? ⟨w.heap.size,0,none⟩=some (.bool na)∧w'.cell? ⟨w.heap.size,1,none⟩=some (.slice ua un uc)∧w'.cell? ⟨w.heap.size,2,none⟩=some (.int .i64 ea))∧(w'.cell? ⟨w.heap.size+1,0,none⟩=some (.bool nb)∧w'.cell? ⟨w.heap.size+1,1,none⟩=some (.slice va vn vc)∧w'.cell? ⟨w.heap.size+1,2,none⟩=some (.int .i64 eb)))):=fun w' hb=>⟨(box_cells29 (box_later HH.out.1.1 hb (by omega))).1,(box_cells29 (box_later HH.out.1.2.1 hb (by omega))).1⟩
 have HS2:Hid (w.heap.size+1+1≤W.heap.size):=(by have:=HH.out.2.1;omega:w.heap.size+1+1≤W.heap.size)
 have hBR:Bw W W.drew:=(Below.refl _ _).drew
 go_enter Tryz.func45,Tryz.ntmps45
 go_upto_region 1 with fail
 rw[←hW]
 clear hW
 go_region_held3 (fun w'=>((w'.cell? ⟨w.heap.size,0,none⟩=some (.bool na)∧w'.cell? ⟨w.heap.size,1,none⟩=some (.slice ua un uc)∧w'.cell? ⟨w.heap.size,2,none⟩=some (.int .i64 ea))∧(w'.cell? ⟨w.heap.size+1,0,none⟩=some (.bool nb)∧w'.cell? ⟨w.heap.size+1,1,none⟩=some (.slice va vn vc)∧w'.cell? ⟨w.heap.size+1,2,none⟩=some (.int .i64 eb)))) (first|(with_reducible assumption)|exact⟨⟨a0,a1,a2⟩,b0,b1,b2⟩|(refine HK.out _ ?_;with_reducible assumption)|(refine HK2.out _ (below_store3 (Below.mono hb6 HS2.out) (Nat.le_refl _) _ _ _))|go_keep)
  (first|(go_at_call 111;refine(kM _ (by first|(with_reducible assumption)|exact hBR)).mono ?_;rintro r w5 ⟨rfl,hb5⟩)|(go_at_call 83;refine(kA _ (by first|(with_reducible assumption)|exact hBR)).mono ?_;rintro r w6 ⟨s6,ao6,n6,cap6,ex6,rfl,hN6,hb6,hblk6,⟨x1,x2,x3⟩,x4,x5,x6⟩))
 all_goals (have HF:Hid (Bw W w6):=hb6;clear hb5 hb6 kM kA x1 x2 x3 x4 x5 x6 a0 a1 a2 b0 b1 b2 HK HK2 hBR;go_wp2;refine bodyPost_ret (results_cell_row rfl _ _ (w.heap.size+1+1) 54 #[.bool s6,.slice ao6 n6 cap6,.int .i64 ex6] (0,0) _ rfl (store3_29 _ _ _ hblk6.out) Tryz.underlying54 rfl Tryz.info54) rfl ?_;exact⟨_,rfl,(hN6.out.store (by have:=HH.out.2.1;omega) _ _ _).mono HH.out.2.2.size,below_store3 (HH.out.2.2.trans (HF.out.mono HH.out.2.2.size)) (by omega) _ _ _⟩)
theorem cn_odd {s:Bool} {x:Nat} {e:Int} (h:x % 2=1):cn s x e=(s,x,e):=by
 unfold cn
 rw[if_neg (by omega),tz_odd h,Nat.pow_zero,Nat.div_one]
 simp
theorem rone (place:Int) (w:World) (hp1 : -4000000≤place) (hp2:place≤4000000) :
  Calls Tryz.prog 113 #[.int .i64 place] w fun r w'=>∃ g,r=.returned (.agg #[.bool false,.slice (some ⟨g,0,none⟩) 1 1,.int .i64 (-place)])∧w.heap.size≤g∧At w' (some ⟨g,0,none⟩) 1 1∧Bw w w':=by
 go_enter Tryz.func113,Tryz.ntmps113
 go_wp2
 obtain⟨W,hW⟩:∃ W,W=(w.alloc (.cells #[.bool false,.slice (some ⟨w.heap.size+1,0,none⟩) 1 1,.int .i64 (-place)] 54)).alloc (.cells #[.int .u32 1] 96):=⟨_,rfl⟩
 have hA:W.heap[w.heap.size]?=some (.cells #[.bool false,.slice (some ⟨w.heap.size+1,0,none⟩) 1 1,.int .i64 (-place)] 54 (0,0)):=by
  rw[hW,Below.heap_alloc _ _ _ (by simp)];exact heap_alloc_new _ _
 have hC:W.cell? ⟨w.heap.size+1,0,none⟩=some (.int .u32 1):=by
  have h:=cell_new1 (w.alloc (.cells #[.bool false,.slice (some ⟨w.heap.size+1,0,none⟩) 1 1,.int .i64 (-place)] 54)) (.int .u32 1)
  rw[←hW,Nat.add_zero] at h
  have hs:(w.alloc (.cells #[.bool false,.slice (some ⟨w.heap.size+1,0,none⟩) 1 1,.int .i64 (-place)] 54)).heap.size=w.heap.size+1:=by simp
  rw[hs] at h
  exact h
 have hBW:Bw w W:=by rw[hW];exact((Below.refl _ _).alloc (Nat.le_refl _) _).alloc (by simp) _
 rw[←hW]
 refine bodyPost_ret (results_cell_row rfl _ _ w.heap.size 54 #[.bool false,.slice (some ⟨w.heap.size+1,0,none⟩) 1 1,.int .i64 (-place)] (0,0) _ rfl hA Tryz.underlying54 rfl Tryz.info54) rfl ?_
 refine⟨w.heap.size+1,rfl,by omega,⟨w.heap.size+1,0,fun _=>rfl,fun i hi=>?_⟩,hBW⟩
 obtain rfl:i=0:=by omega
 rw[dg_zero,show 1 % B=1 by rfl]
 exact hC
theorem rless_one {ao va:Option Addr} {cap vc q:Nat} {place:Int} {w:World} (ho:Arg w ao (dlen (cn true q (-place)).2.1) cap (cn true q (-place)).2.1) (h1:At w va 1 1) (hvc:1≤vc) (hp1 : -1000000≤place) (hp2:place≤1000000) (hq:dlen q≤30000) :
  Calls Tryz.prog 45 #[.agg #[.bool (cn true q (-place)).1,.slice ao (dlen (cn true q (-place)).2.1) cap,.int .i64 (cn true q (-place)).2.2],.agg #[.bool false,.slice va 1 vc,.int .i64 (-place)]] w fun r w'=>∃ a,r=.returned a∧NC w' w.heap.size a true (q+1) (-place)∧Bw w w':=by
 have d1:dlen 1=1:=by rw[dlen_pos (by omega),show 1 / B=0 by rfl,dlen_zero]
 have hA1:Arg w va (dlen 1) vc 1:=⟨fun h=>by rw[d1] at h;omega,by rw[d1];exact h1,by rw[d1];exact hvc,by rw[d1];omega⟩
 refine rlessN_1 _ false ao va _ cap 1 vc _ (-place) true va 1 vc (-place) true (q+1) (-place) w (fun W=>rminus_1 false va 1 vc (-place) W (by omega) rfl) (fun W hW=>?_)
 have htz:tz q≤32*30000:=by
  by_cases h0:q=0
  ·rw[h0];exact Nat.le_trans (Nat.le_of_eq (by rw[tz];rfl)) (Nat.zero_le _)
  ·have h2:=(tz_spec q q (Nat.le_refl _) h0).1
   have h3:2^tz q≤q:=by
    have h4:0<q / 2^tz q:=by
     rcases Nat.eq_zero_or_pos (q / 2^tz q)with h|h
     ·rw[h,Nat.mul_zero] at h2;omega
     ·exact h
    exact Nat.le_trans (Nat.le_mul_of_pos_right _ h4) (Nat.le_of_eq h2)
   have h5:=lt_bl q
   have h6:=bl_le_dlen q
   have h7:tz q<bl q:=(Nat.pow_lt_pow_iff_right (by omega)).1 (Nat.lt_of_le_of_lt h3 h5)
   omega
 have hcn:cn (cn true q (-place)).1 (cn true q (-place)).2.1 (cn true q (-place)).2.2=(cn true q (-place)):=by
  by_cases h0:q=0
  ·unfold cn;rw[if_pos h0,if_pos rfl]
  ·have h2:=(tz_spec q q (Nat.le_refl _) h0).2
   have:cn true q (-place)=(true,q / 2^tz q,-place+tz q):=by unfold cn;rw[if_neg h0]
   rw[this]
   exact cn_odd h2
 have he : -2000000≤(cn true q (-place)).2.2∧(cn true q (-place)).2.2≤2000000:=by
  by_cases h0:q=0
  ·unfold cn;rw[if_pos h0];exact⟨by decide,by decide⟩
  ·unfold cn;rw[if_neg h0];exact⟨by simp only;omega,by simp only;omega⟩
 have hl:dlen (cn true q (-place)).2.1≤300000:=by
  by_cases h0:q=0
  ·unfold cn;rw[if_pos h0,dlen_zero];omega
  ·unfold cn;rw[if_neg h0];exact Nat.le_trans (dlen_mono (Nat.div_le_self _ _)) (by omega)
 have:=rplusS (na:=(cn true q (-place)).1) (nb:=true) (ea:=(cn true q (-place)).2.2) (eb := -place) (ho.later hW) (hA1.later hW) hcn (cn_odd rfl) he.1 he.2 (by omega) (by omega) hl (by rw[d1];omega) (by unfold cn;by_cases h0:q=0 <;> simp[h0])
 have hs:sumN (cn true q (-place)).1 (cn true q (-place)).2.1 (cn true q (-place)).2.2 true 1 (-place)=(true,q+1,-place):=by
  by_cases h0:q=0
  ·subst h0
   unfold cn;rw[if_pos rfl];unfold sumN;rw[if_pos rfl]
  ·have h2:=tz_spec q q (Nat.le_refl _) h0
   have e1:cn true q (-place)=(true,q / 2^tz q,-place+tz q):=by unfold cn;rw[if_neg h0]
   have h3:q / 2^tz q≠0:=by omega
   rw[e1]
   unfold sumN
   simp only
   rw[if_neg h3,if_neg (by omega),if_pos trivial,show min (-place+(tz q:Int)) (-place) = -place by omega,show(-place+(tz q:Int) - -place).toNat=tz q by omega,show(-place - -place).toNat=0 by omega,Nat.pow_zero,Nat.mul_one,Nat.mul_comm,h2.1]
 rw[hs,d1] at this
 exact this
theorem rless_nc {va:Option Addr} {vc q base:Nat} {place:Int} {w:World} {s6:Bool} {ao6:Option Addr} {n6 cap6:Nat} {ex6:Int} (h:NC w base (.agg #[.bool s6,.slice ao6 n6 cap6,.int .i64 ex6]) true q (-place)) (h1:At w va 1 1) (hvc:1≤vc) (hp1 : -1000000≤place) (hp2:place≤1000000) (hq:dlen q≤30000) :
  Calls Tryz.prog 45 #[.agg #[.bool s6,.slice ao6 n6 cap6,.int .i64 ex6],.agg #[.bool false,.slice va 1 vc,.int .i64 (-place)]] w fun r w'=>∃ a,r=.returned a∧NC w' w.heap.size a true (q+1) (-place)∧Bw w w':=by
 obtain⟨ao,cap,e,hA,-⟩:=h
 rw[e]
 exact rless_one hA h1 hvc hp1 hp2 hq
theorem rover_a (na nb:Bool) (ua va:Option Addr) (uc vc x y k:Nat) (ea eb place:Int) (w:World) (sg ex:Bool) (NQ:Nat) (hNQ:Hid (NQ=if sg && !ex then(x*2^k) / (y)+1 else(x*2^k) / (y))) (hsg:(!(na==nb))=sg) (h1:At w ua (dlen x) x) (hu:dlen x≤uc) (h2:At w va (dlen y) y) (hv:dlen y≤vc) (hx0:x≠0) (hy0:y≠0) (hx:dlen x≤3000) (hy:dlen y≤3000)
  (he1 : -200000≤ea) (he2:ea≤200000) (he3 : -200000≤eb) (he4:eb≤200000) (hp1 : -200000≤place) (hp2:place≤200000) (hk:ea - eb+place=(k:Int)) (hk2:k≤600000) (hr:decide ((x*2^k) % (y)=0)=ex) :
  Calls Tryz.prog 146 #[.agg #[.bool na,.slice ua (dlen x) uc,.int .i64 ea],.agg #[.bool nb,.slice va (dlen y) vc,.int .i64 eb],.int .i64 place] w fun r w'=>∃ A,r=.returned (.tuple #[A,.bool ex])∧NC w' w.heap.size A sg NQ (-place)∧Bw w w':=by
 obtain⟨W,hW⟩:∃ W,W=((w.alloc (.cells #[.bool na,.slice ua (dlen x) uc,.int .i64 ea] 54)).alloc (.cells #[.bool nb,.slice va (dlen y) vc,.int .i64 eb] 54)).alloc (.cells #[.bool false,.slice none 0 0,.int .i64 0] 54):=⟨_,rfl⟩
 obtain⟨hA,hBb,hC,hsz,hBW⟩:=boxes3 _ _ _ hW
 have HH:Hid ((W.heap[w.heap.size]?=some (.cells #[.bool na,.slice ua (dlen x) uc,.int .i64 ea] 54 (0,0))∧W.heap[w.heap.size+1]?=some (.cells #[.bool nb,.slice va (dlen y) vc,.int .i64 eb] 54 (0,0))∧W.heap[w.heap.size+1+1]?=some (.cells #[.bool false,.slice none 0 0,.int .i64 0] 54 (0,0)))∧W.heap.size=w.heap.size+1+1+1∧Bw w W):=⟨⟨hA,hBb,hC⟩,hsz,hBW⟩
 obtain⟨⟨a0,a1,a2⟩,-⟩:=box_cells29 hA
 obtain⟨⟨b0,b1,b2⟩,-⟩:=box_cells29 hBb
 have HI:Hid (Ir w (.slice ua (dlen x) uc) x∧Ir w (.slice va (dlen y) vc) y):=⟨⟨ua,uc,rfl,hu,h1⟩,⟨va,vc,rfl,hv,h2⟩⟩
 have HN:Hid ((x≠0∧y≠0∧dlen x≤3000∧dlen y≤3000∧k≤600000)∧decide ((x*2^k) % (y)=0)=ex):=⟨⟨hx0,hy0,hx,hy,hk2⟩,hr⟩
 have hxz:((dlen x:Int)==0)=false:=len_ne (n:=0) hx0
 clear hA hBb hC hsz hBW h1 h2 hr
 generalize hdx:dlen x=lx at *
 generalize hdy:dlen y=ly at *
 rw[hW] at a0 a1 a2 b0 b1 b2
 go_enter Tryz.func146,Tryz.ntmps146
 go_wp2
 go_quiet (fail)
 rw[←hW]
 have HBW1:Hid (Below W.heap.size W (W.drewN nq)):=(⟨rfl,rfl,rfl,Nat.le_refl _,fun _ _=>rfl⟩:Below W.heap.size W (W.drewN nq))
 obtain⟨W1,hW1⟩:∃ W1,W1=W.drewN nq:=⟨_,rfl⟩
 rw[←hW1] at HBW1 ⊢
 clear hW hW1 a0 a1 a2 b0 b1 b2
 have HIW:Hid (Ir W1 (.slice ua lx uc) x∧Ir W1 (.slice va ly vc) y):=⟨HI.out.1.later (HH.out.2.2.trans (HBW1.out.mono HH.out.2.2.size)),HI.out.2.later (HH.out.2.2.trans (HBW1.out.mono HH.out.2.2.size))⟩
 have ku:=rup HIW.out.1 k (by have:=HN.out.1;omega) (by omega)
 go_wp2_with fail
 refine ku.mono ?_
 rintro r w4 ⟨vu,rfl,hIu,hb4⟩
 have HB4:Hid (Bw W w4):=HBW1.out.trans (hb4.mono HBW1.out.size)
 have hl:dlen (x*2^k)≤25000:=by
  have:=shl_len (x:=x) (k:=k) rfl
  have:=HN.out.1
  omega
 have kd:=rdivide hIu (HIW.out.2.later hb4) (Nat.mul_ne_zero HN.out.1.1 (by have:=Nat.two_pow_pos k;omega)) HN.out.1.2.1 (by omega) (by have:=HN.out.1;omega)
 have HO:Hid (Ir w4 vu (x*2^k)):=hIu
 clear ku hIu hb4
 go_wp2_with fail
 refine kd.mono ?_
 rintro r w5 ⟨vq,vr,rfl,hIq,hIr,hb5⟩
 have HB5:Hid (Bw W w5):=HB4.out.trans (hb5.mono HB4.out.size)
 obtain⟨⟨a0,a1,a2⟩,-⟩:=box_cells29 (box_later HH.out.1.1 HB5.out (by have:=HH.out.2.1;omega))
 obtain⟨⟨b0,b1,b2⟩,-⟩:=box_cells29 (box_later HH.out.1.2.1 HB5.out (by have:=HH.out.2.1;omega))
 obtain⟨rr,rcap,rfl,hrc,hrA⟩:=hIr
 have hql:dlen ((x*2^k) / (y))≤30000:=Nat.le_trans (dlen_mono (Nat.div_le_self _ _)) (by omega)
 have kn:=rnorm (neg:=sg) (e := -place) hIq (by omega) (by omega)
 have HQL:Hid (dlen ((x*2^k) / (y))≤30000):=hql
 have hrl:((dlen ((x*2^k) % (y)):Int)==0)=ex:=by
  rw[←HN.out.2]
  by_cases hz:(x*2^k) % (y)=0
  ·rw[hz,dlen_zero];rfl
  ·rw[len_ne (n:=0) hz,decide_eq_false hz]
 clear kd hIq hb5 hrA hql hl
 generalize hdr:dlen ((x*2^k) % (y))=lr at *
 go_wp2_with fail
 refine kn.mono ?_
 rintro r w6 ⟨A,rfl,hN6,hb6⟩
 obtain⟨s6,ao6,n6,cap6,ex6,rfl⟩:=hN6.shape
 have HB6:Hid (Bw W w6):=HB5.out.trans (hb6.mono HB5.out.size)
 have HN6:Hid (NC w6 w5.heap.size (.agg #[.bool s6,.slice ao6 n6 cap6,.int .i64 ex6]) sg ((x*2^k) / (y)) (-place)):=hN6
 obtain⟨w7,hw7⟩:∃ w7,w7=w6.alloc (.cells #[.bool s6,.slice ao6 n6 cap6,.int .i64 ex6] 54):=⟨_,rfl⟩
 have hB67:Bw w6 w7:=by rw[hw7];exact(Below.refl _ _).alloc (Nat.le_refl _) _
 have HB7:Hid (Bw W w7):=HB6.out.trans (hB67.mono HB6.out.size)
 have hbox:w7.heap[w6.heap.size]?=some (.cells #[.bool s6,.slice ao6 n6 cap6,.int .i64 ex6] 54 (0,0)):=by rw[hw7];exact heap_alloc_new _ _
 have HBX:Hid (w7.heap[w6.heap.size]?=some (.cells #[.bool s6,.slice ao6 n6 cap6,.int .i64 ex6] 54 (0,0))∧Bw w6 w7):=⟨hbox,hB67⟩
 have hres:=box_later HH.out.1.2.2 HB7.out (by have:=HH.out.2.1;omega)
 have HRES:Hid (w7.heap[w.heap.size+1+1]?=some (.cells #[.bool false,.slice none 0 0,.int .i64 0] 54 (0,0))):=hres
 obtain⟨⟨c0,c1,c2⟩,c3,c4,c5⟩:=box_cells29 hres
 obtain⟨⟨d0,d1,d2⟩,d3,d4,d5⟩:=box_cells29 hbox
 clear kn hN6 hb6 hbox hres hB67 a0 a1 a2 b0 b1 b2
 rw[hw7] at c0 c1 c2 c3 c4 c5 d0 d1 d2 d3 d4 d5
 cases ex
 ·cases sg
  ·obtain rfl:NQ=(x*2^k) / (y):=hNQ.out
   go_wp2
   rw[←hw7]
   refine bodyPost_ret (results_cell_tmp_row rfl _ _ (w.heap.size+1+1) 54 #[.bool s6,.slice ao6 n6 cap6,.int .i64 ex6] (0,0) _ rfl (store3_29 _ _ _ HRES.out) Tryz.underlying54 rfl Tryz.info54) rfl ?_
   have q1:=HH.out.2.1
   have q2:=HB5.out.size
   exact⟨_,rfl,((HN6.out.later HBX.out.2).store (by omega) _ _ _).mono (by omega),below_store3 (HH.out.2.2.trans (HB7.out.mono HH.out.2.2.size)) (by omega) _ _ _⟩
  ·obtain rfl:NQ=(x*2^k) / (y)+1:=hNQ.out
   have HK:Hid (∀ w',Bw w7 w'→(w'.cell? ⟨w6.heap.size,0,none⟩=some (.bool s6)∧w'.cell? ⟨w6.heap.size,1,none⟩=some (.slice ao6 n6 cap6)∧w'.cell? ⟨w6.heap.size,2,none⟩=some (.int .i64 ex6))):=fun w' hb=>(box_cells29 (box_later HBX.out.1 hb (by have:=HBX.out.1;exact(Array.getElem?_eq_some_iff.1 this).1))).1
   have kO:∀ w8,Bw w7 w8→Calls Tryz.prog 113 #[.int .i64 place] w8 fun r w'=>∃ g,r=.returned (.agg #[.bool false,.slice (some ⟨g,0,none⟩) 1 1,.int .i64 (-place)])∧Hid (At w' (some ⟨g,0,none⟩) 1 1)∧Bw w7 w'∧(w'.cell? ⟨w6.heap.size,0,none⟩=some (.bool s6)∧w'.cell? ⟨w6.heap.size,1,none⟩=some (.slice ao6 n6 cap6)∧w'.cell? ⟨w6.heap.size,2,none⟩=some (.int .i64 ex6)):=fun w8 hb=>(rone place w8 (by omega) (by omega)).mono fun r w' ⟨g,e1,e2,e3,e4⟩=>⟨g,e1,e3,hb.trans (e4.mono hb.size),HK.out w' (hb.trans (e4.mono hb.size))⟩
   have kL:∀ g w9,Hid (At w9 (some ⟨g,0,none⟩) 1 1)→Bw w7 w9→Calls Tryz.prog 45 #[.agg #[.bool s6,.slice ao6 n6 cap6,.int .i64 ex6],.agg #[.bool false,.slice (some ⟨g,0,none⟩) 1 1,.int .i64 (-place)]] w9 fun r w'=>∃ s ao n cap ex,r=.returned (.agg #[.bool s,.slice ao n cap,.int .i64 ex])∧Hid (NC w' w7.heap.size (.agg #[.bool s,.slice ao n cap,.int .i64 ex]) true ((x*2^k) / (y)+1) (-place))∧Bw w7 w'∧Hid (w'.heap[w6.heap.size]?=some (.cells #[.bool s6,.slice ao6 n6 cap6,.int .i64 ex6] 54 (0,0)))∧(w'.cell? ⟨w6.heap.size,0,none⟩=some (.bool s6)∧w'.cell? ⟨w6.heap.size,1,none⟩=some (.slice ao6 n6 cap6)∧w'.cell? ⟨w6.heap.size,2,none⟩=some (.int .i64 ex6))∧(w'.frozen? ⟨w6.heap.size,0,none⟩=false∧w'.frozen? ⟨w6.heap.size,1,none⟩=false∧w'.frozen? ⟨w6.heap.size,2,none⟩=false):=by
    intro g w9 hA hb
    refine(rless_nc ((HN6.out.later HBX.out.2).later hb) hA.out (Nat.le_refl _) (by omega) (by omega) HQL.out).mono ?_
    rintro r w10 ⟨A,rfl,hN,hb10⟩
    obtain⟨s,ao,n,cap,ex,rfl⟩:=hN.shape
    have hbb:=hb.trans (hb10.mono hb.size)
    have hblk:=box_later HBX.out.1 hbb (by have:=HBX.out.1;exact(Array.getElem?_eq_some_iff.1 this).1)
    obtain⟨f1,f2⟩:=box_cells29 hblk
    exact⟨s,ao,n,cap,ex,rfl,hN.mono hb.size,hbb,hblk,f1,f2⟩
   have hBR:Bw w7 w7.drew:=(Below.refl _ _).drew
   have e0:w7.cell? ⟨w6.heap.size,0,none⟩=some (.bool s6)∧w7.cell? ⟨w6.heap.size,1,none⟩=some (.slice ao6 n6 cap6)∧w7.cell? ⟨w6.heap.size,2,none⟩=some (.int .i64 ex6):=HK.out w7 (Below.refl _ _)
   go_upto_region 14 with fail
   rw[←hw7]
   clear hw7 c0 c1 c2 c3 c4 c5 d0 d1 d2 d3 d4 d5
   obtain⟨d0,d1,d2⟩:=e0
   go_cut [64] from 61 to 64 (fun v wx=>∃ s ao n cap ex,v=.agg #[.bool s,.slice ao n cap,.int .i64 ex]∧Hid (NC wx w7.heap.size (.agg #[.bool s,.slice ao n cap,.int .i64 ex]) true ((x*2^k) / (y)+1) (-place))∧Hid (wx.heap[w6.heap.size]?=some (.cells #[.bool s,.slice ao n cap,.int .i64 ex] 54 (0,0)))∧Hid (Below w6.heap.size w7 wx))
   case first =>
    go_region_with (first|(go_at_call 113;refine(kO _ (by first|(with_reducible assumption)|exact hBR|exact Below.refl _ _)).mono ?_;rintro r w8 ⟨g8,rfl,hA8,hb8,⟨y1,y2,y3⟩⟩)|(go_at_call 45;refine(kL _ _ hA8 (by with_reducible assumption)).mono ?_;rintro r w9 ⟨s9,ao9,n9,cap9,ex9,rfl,hN9,hb9,hblk9,⟨x1,x2,x3⟩,x4,x5,x6⟩))
    all_goals go_wp2_with fail
    all_goals go_meet
    all_goals exact⟨s9,ao9,n9,cap9,ex9,rfl,hN9.out.store (Array.getElem?_eq_some_iff.1 HBX.out.1).1 _ _ _,store3_29 _ _ _ hblk9.out,below_store3 (hb9.mono HBX.out.2.size) (Nat.le_refl _) _ _ _⟩
   case rest =>
    obtain⟨s9,ao9,n9,cap9,ex9,rfl,hN9,hB9,hL9⟩:=hcut
    obtain⟨wx,rfl⟩:∃ wx:World,wx=wc:=⟨_,rfl⟩
    have q1:=HH.out.2.1
    have q2:=HB6.out.size
    have q3:=HB7.out.size
    have HBx:Hid (Bw W wx):=HB7.out.trans (hL9.out.mono HB6.out.size)
    have hres:=box_later HH.out.1.2.2 HBx.out (by omega)
    have HRES2:Hid (wx.heap[w.heap.size+1+1]?=some (.cells #[.bool false,.slice none 0 0,.int .i64 0] 54 (0,0))):=hres
    obtain⟨⟨c0,c1,c2⟩,c3,c4,c5⟩:=box_cells29 hres
    clear d0 d1 d2
    obtain⟨⟨d0,d1,d2⟩,d3,d4,d5⟩:=box_cells29 hB9.out
    clear kO kL hBR hres
    go_wp2
    refine bodyPost_ret (results_cell_tmp_row rfl _ _ (w.heap.size+1+1) 54 #[.bool s9,.slice ao9 n9 cap9,.int .i64 ex9] (0,0) _ rfl (store3_29 _ _ _ HRES2.out) Tryz.underlying54 rfl Tryz.info54) rfl ?_
    exact⟨_,rfl,(hN9.out.store (by omega) _ _ _).mono (by omega),below_store3 (HH.out.2.2.trans (HBx.out.mono HH.out.2.2.size)) (by omega) _ _ _⟩
 ·obtain rfl:NQ=(x*2^k) / (y):=by have h:=hNQ.out;cases sg <;> exact h
  go_wp2
  rw[←hw7]
  refine bodyPost_ret (results_cell_tmp_row rfl _ _ (w.heap.size+1+1) 54 #[.bool s6,.slice ao6 n6 cap6,.int .i64 ex6] (0,0) _ rfl (store3_29 _ _ _ HRES.out) Tryz.underlying54 rfl Tryz.info54) rfl ?_
  have q1:=HH.out.2.1
  have q2:=HB5.out.size
  exact⟨_,rfl,((HN6.out.later HBX.out.2).store (by omega) _ _ _).mono (by omega),below_store3 (HH.out.2.2.trans (HB7.out.mono HH.out.2.2.size)) (by omega) _ _ _⟩
theorem rover_b (na nb:Bool) (ua va:Option Addr) (uc vc x y k:Nat) (ea eb place:Int) (w:World) (sg ex:Bool) (NQ:Nat) (hNQ:Hid (NQ=if sg && !ex then(x) / (y*2^k)+1 else(x) / (y*2^k))) (hsg:(!(na==nb))=sg) (h1:At w ua (dlen x) x) (hu:dlen x≤uc) (h2:At w va (dlen y) y) (hv:dlen y≤vc) (hx0:x≠0) (hy0:y≠0) (hx:dlen x≤3000) (hy:dlen y≤3000)
  (he1 : -200000≤ea) (he2:ea≤200000) (he3 : -200000≤eb) (he4:eb≤200000) (hp1 : -200000≤place) (hp2:place≤200000) (hk:ea - eb+place = -(k:Int)) (hk1:0<k) (hk2:k≤600000) (hr:decide ((x) % (y*2^k)=0)=ex) :
  Calls Tryz.prog 146 #[.agg #[.bool na,.slice ua (dlen x) uc,.int .i64 ea],.agg #[.bool nb,.slice va (dlen y) vc,.int .i64 eb],.int .i64 place] w fun r w'=>∃ A,r=.returned (.tuple #[A,.bool ex])∧NC w' w.heap.size A sg NQ (-place)∧Bw w w':=by
 obtain⟨W,hW⟩:∃ W,W=((w.alloc (.cells #[.bool na,.slice ua (dlen x) uc,.int .i64 ea] 54)).alloc (.cells #[.bool nb,.slice va (dlen y) vc,.int .i64 eb] 54)).alloc (.cells #[.bool false,.slice none 0 0,.int .i64 0] 54):=⟨_,rfl⟩
 obtain⟨hA,hBb,hC,hsz,hBW⟩:=boxes3 _ _ _ hW
 have HH:Hid ((W.heap[w.heap.size]?=some (.cells #[.bool na,.slice ua (dlen x) uc,.int .i64 ea] 54 (0,0))∧W.heap[w.heap.size+1]?=some (.cells #[.bool nb,.slice va (dlen y) vc,.int .i64 eb] 54 (0,0))∧W.heap[w.heap.size+1+1]?=some (.cells #[.bool false,.slice none 0 0,.int .i64 0] 54 (0,0)))∧W.heap.size=w.heap.size+1+1+1∧Bw w W):=⟨⟨hA,hBb,hC⟩,hsz,hBW⟩
 obtain⟨⟨a0,a1,a2⟩,-⟩:=box_cells29 hA
 obtain⟨⟨b0,b1,b2⟩,-⟩:=box_cells29 hBb
 have HI:Hid (Ir w (.slice ua (dlen x) uc) x∧Ir w (.slice va (dlen y) vc) y):=⟨⟨ua,uc,rfl,hu,h1⟩,⟨va,vc,rfl,hv,h2⟩⟩
 have HN:Hid ((x≠0∧y≠0∧dlen x≤3000∧dlen y≤3000∧k≤600000)∧decide ((x) % (y*2^k)=0)=ex):=⟨⟨hx0,hy0,hx,hy,hk2⟩,hr⟩
 have hxz:((dlen x:Int)==0)=false:=len_ne (n:=0) hx0
 clear hA hBb hC hsz hBW h1 h2 hr
 generalize hdx:dlen x=lx at *
 generalize hdy:dlen y=ly at *
 rw[hW] at a0 a1 a2 b0 b1 b2
 go_enter Tryz.func146,Tryz.ntmps146
 go_wp2
 go_quiet (fail)
 rw[←hW]
 have HBW1:Hid (Below W.heap.size W (W.drewN nq)):=(⟨rfl,rfl,rfl,Nat.le_refl _,fun _ _=>rfl⟩:Below W.heap.size W (W.drewN nq))
 obtain⟨W1,hW1⟩:∃ W1,W1=W.drewN nq:=⟨_,rfl⟩
 rw[←hW1] at HBW1 ⊢
 clear hW hW1 a0 a1 a2 b0 b1 b2
 have HIW:Hid (Ir W1 (.slice ua lx uc) x∧Ir W1 (.slice va ly vc) y):=⟨HI.out.1.later (HH.out.2.2.trans (HBW1.out.mono HH.out.2.2.size)),HI.out.2.later (HH.out.2.2.trans (HBW1.out.mono HH.out.2.2.size))⟩
 have ku:=rup HIW.out.2 k (by have:=HN.out.1;omega) (by omega)
 go_wp2_with fail
 refine ku.mono ?_
 rintro r w4 ⟨vu,rfl,hIu,hb4⟩
 have HB4:Hid (Bw W w4):=HBW1.out.trans (hb4.mono HBW1.out.size)
 have hl:dlen (y*2^k)≤25000:=by
  have:=shl_len (x:=y) (k:=k) rfl
  have:=HN.out.1
  omega
 have kd:=rdivide (HIW.out.1.later hb4) hIu HN.out.1.1 (Nat.mul_ne_zero HN.out.1.2.1 (by have:=Nat.two_pow_pos k;omega)) (by have:=HN.out.1;omega) (by omega)
 have HO:Hid (Ir w4 vu (y*2^k)):=hIu
 clear ku hIu hb4
 go_wp2_with fail
 refine kd.mono ?_
 rintro r w5 ⟨vq,vr,rfl,hIq,hIr,hb5⟩
 have HB5:Hid (Bw W w5):=HB4.out.trans (hb5.mono HB4.out.size)
 obtain⟨⟨a0,a1,a2⟩,-⟩:=box_cells29 (box_later HH.out.1.1 HB5.out (by have:=HH.out.2.1;omega))
 obtain⟨⟨b0,b1,b2⟩,-⟩:=box_cells29 (box_later HH.out.1.2.1 HB5.out (by have:=HH.out.2.1;omega))
 obtain⟨rr,rcap,rfl,hrc,hrA⟩:=hIr
 have hql:dlen ((x) / (y*2^k))≤30000:=Nat.le_trans (dlen_mono (Nat.div_le_self _ _)) (by have:=HN.out.1;omega)
 have kn:=rnorm (neg:=sg) (e := -place) hIq (by omega) (by omega)
 have HQL:Hid (dlen ((x) / (y*2^k))≤30000):=hql
 have hrl:((dlen ((x) % (y*2^k)):Int)==0)=ex:=by
  rw[←HN.out.2]
  by_cases hz:(x) % (y*2^k)=0
  ·rw[hz,dlen_zero];rfl
  ·rw[len_ne (n:=0) hz,decide_eq_false hz]
 clear kd hIq hb5 hrA hql hl
 generalize hdr:dlen ((x) % (y*2^k))=lr at *
 go_wp2_with fail
 refine kn.mono ?_
 rintro r w6 ⟨A,rfl,hN6,hb6⟩
 obtain⟨s6,ao6,n6,cap6,ex6,rfl⟩:=hN6.shape
 have HB6:Hid (Bw W w6):=HB5.out.trans (hb6.mono HB5.out.size)
 have HN6:Hid (NC w6 w5.heap.size (.agg #[.bool s6,.slice ao6 n6 cap6,.int .i64 ex6]) sg ((x) / (y*2^k)) (-place)):=hN6
 obtain⟨w7,hw7⟩:∃ w7,w7=w6.alloc (.cells #[.bool s6,.slice ao6 n6 cap6,.int .i64 ex6] 54):=⟨_,rfl⟩
 have hB67:Bw w6 w7:=by rw[hw7];exact(Below.refl _ _).alloc (Nat.le_refl _) _
 have HB7:Hid (Bw W w7):=HB6.out.trans (hB67.mono HB6.out.size)
 have hbox:w7.heap[w6.heap.size]?=some (.cells #[.bool s6,.slice ao6 n6 cap6,.int .i64 ex6] 54 (0,0)):=by rw[hw7];exact heap_alloc_new _ _
 have HBX:Hid (w7.heap[w6.heap.size]?=some (.cells #[.bool s6,.slice ao6 n6 cap6,.int .i64 ex6] 54 (0,0))∧Bw w6 w7):=⟨hbox,hB67⟩
 have hres:=box_later HH.out.1.2.2 HB7.out (by have:=HH.out.2.1;omega)
 have HRES:Hid (w7.heap[w.heap.size+1+1]?=some (.cells #[.bool false,.slice none 0 0,.int .i64 0] 54 (0,0))):=hres
 obtain⟨⟨c0,c1,c2⟩,c3,c4,c5⟩:=box_cells29 hres
 obtain⟨⟨d0,d1,d2⟩,d3,d4,d5⟩:=box_cells29 hbox
 clear kn hN6 hb6 hbox hres hB67 a0 a1 a2 b0 b1 b2
 rw[hw7] at c0 c1 c2 c3 c4 c5 d0 d1 d2 d3 d4 d5
 cases ex
 ·cases sg
  ·obtain rfl:NQ=(x) / (y*2^k):=hNQ.out
   go_wp2
   rw[←hw7]
   refine bodyPost_ret (results_cell_tmp_row rfl _ _ (w.heap.size+1+1) 54 #[.bool s6,.slice ao6 n6 cap6,.int .i64 ex6] (0,0) _ rfl (store3_29 _ _ _ HRES.out) Tryz.underlying54 rfl Tryz.info54) rfl ?_
   have q1:=HH.out.2.1
   have q2:=HB5.out.size
   exact⟨_,rfl,((HN6.out.later HBX.out.2).store (by omega) _ _ _).mono (by omega),below_store3 (HH.out.2.2.trans (HB7.out.mono HH.out.2.2.size)) (by omega) _ _ _⟩
  ·obtain rfl:NQ=(x) / (y*2^k)+1:=hNQ.out
   have HK:Hid (∀ w',Bw w7 w'→(w'.cell? ⟨w6.heap.size,0,none⟩=some (.bool s6)∧w'.cell? ⟨w6.heap.size,1,none⟩=some (.slice ao6 n6 cap6)∧w'.cell? ⟨w6.heap.size,2,none⟩=some (.int .i64 ex6))):=fun w' hb=>(box_cells29 (box_later HBX.out.1 hb (by have:=HBX.out.1;exact(Array.getElem?_eq_some_iff.1 this).1))).1
   have kO:∀ w8,Bw w7 w8→Calls Tryz.prog 113 #[.int .i64 place] w8 fun r w'=>∃ g,r=.returned (.agg #[.bool false,.slice (some ⟨g,0,none⟩) 1 1,.int .i64 (-place)])∧Hid (At w' (some ⟨g,0,none⟩) 1 1)∧Bw w7 w'∧(w'.cell? ⟨w6.heap.size,0,none⟩=some (.bool s6)∧w'.cell? ⟨w6.heap.size,1,none⟩=some (.slice ao6 n6 cap6)∧w'.cell? ⟨w6.heap.size,2,none⟩=some (.int .i64 ex6)):=fun w8 hb=>(rone place w8 (by omega) (by omega)).mono fun r w' ⟨g,e1,e2,e3,e4⟩=>⟨g,e1,e3,hb.trans (e4.mono hb.size),HK.out w' (hb.trans (e4.mono hb.size))⟩
   have kL:∀ g w9,Hid (At w9 (some ⟨g,0,none⟩) 1 1)→Bw w7 w9→Calls Tryz.prog 45 #[.agg #[.bool s6,.slice ao6 n6 cap6,.int .i64 ex6],.agg #[.bool false,.slice (some ⟨g,0,none⟩) 1 1,.int .i64 (-place)]] w9 fun r w'=>∃ s ao n cap ex,r=.returned (.agg #[.bool s,.slice ao n cap,.int .i64 ex])∧Hid (NC w' w7.heap.size (.agg #[.bool s,.slice ao n cap,.int .i64 ex]) true ((x) / (y*2^k)+1) (-place))∧Bw w7 w'∧Hid (w'.heap[w6.heap.size]?=some (.cells #[.bool s6,.slice ao6 n6 cap6,.int .i64 ex6] 54 (0,0)))∧(w'.cell? ⟨w6.heap.size,0,none⟩=some (.bool s6)∧w'.cell? ⟨w6.heap.size,1,none⟩=some (.slice ao6 n6 cap6)∧w'.cell? ⟨w6.heap.size,2,none⟩=some (.int .i64 ex6))∧(w'.frozen? ⟨w6.heap.size,0,none⟩=false∧w'.frozen? ⟨w6.heap.size,1,none⟩=false∧w'.frozen? ⟨w6.heap.size,2,none⟩=false):=by
    intro g w9 hA hb
    refine(rless_nc ((HN6.out.later HBX.out.2).later hb) hA.out (Nat.le_refl _) (by omega) (by omega) HQL.out).mono ?_
    rintro r w10 ⟨A,rfl,hN,hb10⟩
    obtain⟨s,ao,n,cap,ex,rfl⟩:=hN.shape
    have hbb:=hb.trans (hb10.mono hb.size)
    have hblk:=box_later HBX.out.1 hbb (by have:=HBX.out.1;exact(Array.getElem?_eq_some_iff.1 this).1)
    obtain⟨f1,f2⟩:=box_cells29 hblk
    exact⟨s,ao,n,cap,ex,rfl,hN.mono hb.size,hbb,hblk,f1,f2⟩
   have hBR:Bw w7 w7.drew:=(Below.refl _ _).drew
   have e0:w7.cell? ⟨w6.heap.size,0,none⟩=some (.bool s6)∧w7.cell? ⟨w6.heap.size,1,none⟩=some (.slice ao6 n6 cap6)∧w7.cell? ⟨w6.heap.size,2,none⟩=some (.int .i64 ex6):=HK.out w7 (Below.refl _ _)
   go_upto_region 14 with fail
   rw[←hw7]
   clear hw7 c0 c1 c2 c3 c4 c5 d0 d1 d2 d3 d4 d5
   obtain⟨d0,d1,d2⟩:=e0
   go_cut [64] from 61 to 64 (fun v wx=>∃ s ao n cap ex,v=.agg #[.bool s,.slice ao n cap,.int .i64 ex]∧Hid (NC wx w7.heap.size (.agg #[.bool s,.slice ao n cap,.int .i64 ex]) true ((x) / (y*2^k)+1) (-place))∧Hid (wx.heap[w6.heap.size]?=some (.cells #[.bool s,.slice ao n cap,.int .i64 ex] 54 (0,0)))∧Hid (Below w6.heap.size w7 wx))
   case first =>
    go_region_with (first|(go_at_call 113;refine(kO _ (by first|(with_reducible assumption)|exact hBR|exact Below.refl _ _)).mono ?_;rintro r w8 ⟨g8,rfl,hA8,hb8,⟨y1,y2,y3⟩⟩)|(go_at_call 45;refine(kL _ _ hA8 (by with_reducible assumption)).mono ?_;rintro r w9 ⟨s9,ao9,n9,cap9,ex9,rfl,hN9,hb9,hblk9,⟨x1,x2,x3⟩,x4,x5,x6⟩))
    all_goals go_wp2_with fail
    all_goals go_meet
    all_goals exact⟨s9,ao9,n9,cap9,ex9,rfl,hN9.out.store (Array.getElem?_eq_some_iff.1 HBX.out.1).1 _ _ _,store3_29 _ _ _ hblk9.out,below_store3 (hb9.mono HBX.out.2.size) (Nat.le_refl _) _ _ _⟩
   case rest =>
    obtain⟨s9,ao9,n9,cap9,ex9,rfl,hN9,hB9,hL9⟩:=hcut
    obtain⟨wx,rfl⟩:∃ wx:World,wx=wc:=⟨_,rfl⟩
    have q1:=HH.out.2.1
    have q2:=HB6.out.size
    have q3:=HB7.out.size
    have HBx:Hid (Bw W wx):=HB7.out.trans (hL9.out.mono HB6.out.size)
    have hres:=box_later HH.out.1.2.2 HBx.out (by omega)
    have HRES2:Hid (wx.heap[w.heap.size+1+1]?=some (.cells #[.bool false,.slice none 0 0,.int .i64 0] 54 (0,0))):=hres
    obtain⟨⟨c0,c1,c2⟩,c3,c4,c5⟩:=box_cells29 hres
    clear d0 d1 d2
    obtain⟨⟨d0,d1,d2⟩,d3,d4,d5⟩:=box_cells29 hB9.out
    clear kO kL hBR hres
    go_wp2
    refine bodyPost_ret (results_cell_tmp_row rfl _ _ (w.heap.size+1+1) 54 #[.bool s9,.slice ao9 n9 cap9,.int .i64 ex9] (0,0) _ rfl (store3_29 _ _ _ HRES2.out) Tryz.underlying54 rfl Tryz.info54) rfl ?_
    exact⟨_,rfl,(hN9.out.store (by omega) _ _ _).mono (by omega),below_store3 (HH.out.2.2.trans (HBx.out.mono HH.out.2.2.size)) (by omega) _ _ _⟩
 ·obtain rfl:NQ=(x) / (y*2^k):=by have h:=hNQ.out;cases sg <;> exact h
  go_wp2
  rw[←hw7]
  refine bodyPost_ret (results_cell_tmp_row rfl _ _ (w.heap.size+1+1) 54 #[.bool s6,.slice ao6 n6 cap6,.int .i64 ex6] (0,0) _ rfl (store3_29 _ _ _ HRES.out) Tryz.underlying54 rfl Tryz.info54) rfl ?_
  have q1:=HH.out.2.1
  have q2:=HB5.out.size
  exact⟨_,rfl,((HN6.out.later HBX.out.2).store (by omega) _ _ _).mono (by omega),below_store3 (HH.out.2.2.trans (HB7.out.mono HH.out.2.2.size)) (by omega) _ _ _⟩
theorem rover_0 (na nb:Bool) (ua va:Option Addr) (uc vn vc:Nat) (ea eb place:Int) (w:World) :
  Calls Tryz.prog 146 #[.agg #[.bool na,.slice ua 0 uc,.int .i64 ea],.agg #[.bool nb,.slice va vn vc,.int .i64 eb],.int .i64 place] w fun r w'=>r=.returned (.tuple #[.agg #[.bool false,.slice none 0 0,.int .i64 0],.bool true])∧Bw w w':=by
 obtain⟨W,hW⟩:∃ W,W=((w.alloc (.cells #[.bool na,.slice ua 0 uc,.int .i64 ea] 54)).alloc (.cells #[.bool nb,.slice va vn vc,.int .i64 eb] 54)).alloc (.cells #[.bool false,.slice none 0 0,.int .i64 0] 54):=⟨_,rfl⟩
 obtain⟨hA,hBb,hC,hsz,hBW⟩:=boxes3 _ _ _ hW
 have HH:Hid (W.heap[w.heap.size+1+1]?=some (.cells #[.bool false,.slice none 0 0,.int .i64 0] 54 (0,0))∧Bw w W):=⟨hC,hBW⟩
 obtain⟨⟨a0,a1,a2⟩,-⟩:=box_cells29 hA
 obtain⟨⟨c0,c1,c2⟩,c3,c4,c5⟩:=box_cells29 hC
 clear hA hBb hC hsz hBW
 rw[hW] at a0 a1 a2 c0 c1 c2 c3 c4 c5
 go_enter Tryz.func146,Tryz.ntmps146
 go_wp2
 rw[←hW]
 refine bodyPost_ret (results_cell_tmp_row rfl _ _ (w.heap.size+1+1) 54 #[.bool false,.slice none 0 0,.int .i64 0] (0,0) _ rfl HH.out.1 Tryz.underlying54 rfl Tryz.info54) rfl ?_
 exact⟨rfl,HH.out.2⟩
def ovX (x:Nat) (ea eb place:Int):Nat:=x*2^(ea+place - min (ea+place) eb).toNat
def ovY (y:Nat) (ea eb place:Int):Nat:=y*2^(eb - min (ea+place) eb).toNat
theorem rover {na nb:Bool} {ua va:Option Addr} {uc vc x y:Nat} {ea eb place:Int} {w:World} (h1:At w ua (dlen x) x) (hu:dlen x≤uc) (h2:At w va (dlen y) y) (hv:dlen y≤vc) (hy0:y≠0) (hx:dlen x≤3000) (hy:dlen y≤3000)
  (ha : -200000≤ea∧ea≤200000) (hb : -200000≤eb∧eb≤200000) (hp : -200000≤place∧place≤200000) {X Y:Nat} (hX:ovX x ea eb place=X) (hY:ovY y ea eb place=Y) :
  Calls Tryz.prog 146 #[.agg #[.bool na,.slice ua (dlen x) uc,.int .i64 ea],.agg #[.bool nb,.slice va (dlen y) vc,.int .i64 eb],.int .i64 place] w fun r w'=>∃ A,r=.returned (.tuple #[A,.bool (decide (X % Y=0))])∧NC w' w.heap.size A (na != nb) (if(na != nb) && !(decide (X % Y=0))then X / Y+1 else X / Y) (-place)∧Bw w w':=by
 by_cases hx0:x=0
 ·subst hx0
  have hX0:X=0:=by rw[←hX];unfold ovX;rw[Nat.zero_mul]
  rw[dlen_zero,hX0,Nat.zero_mod,Nat.zero_div]
  refine(rover_0 na nb ua va uc _ vc ea eb place w).mono ?_
  rintro r w' ⟨rfl,hb'⟩
  refine⟨_,rfl,⟨none,0,?_,?_,fun ad e=>by cases e⟩,hb'⟩
  ·simp[cn,dlen_zero]
  ·simp only[decide_true,Bool.not_true,Bool.and_false,Bool.false_eq_true,if_false]
   unfold cn;rw[if_pos rfl]
   exact⟨fun _=>.inr ⟨rfl,rfl⟩,⟨0,0,fun h=>by rw[dlen_zero] at h;omega,fun i hi=>by rw[dlen_zero] at hi;omega⟩,by rw[dlen_zero];exact Nat.le_refl _,by rw[dlen_zero];omega⟩
 ·by_cases hs:0≤ea - eb+place
  ·obtain⟨k,hk⟩:∃ k:Nat,ea - eb+place=(k:Int):=⟨(ea - eb+place).toNat,by omega⟩
   obtain rfl:x*2^k=X:=by rw[←hX];unfold ovX;rw[show(ea+place - min (ea+place) eb).toNat=k by omega]
   obtain rfl:y=Y:=by rw[←hY];unfold ovY;rw[show(eb - min (ea+place) eb).toNat=0 by omega,Nat.pow_zero,Nat.mul_one]
   exact rover_a na nb ua va uc vc x y k ea eb place w (na != nb) _ _ rfl rfl h1 hu h2 hv hx0 hy0 hx hy ha.1 ha.2 hb.1 hb.2 hp.1 hp.2 hk (by omega) rfl
  ·obtain⟨k,hk⟩:∃ k:Nat,ea - eb+place = -(k:Int):=⟨(-(ea - eb+place)).toNat,by omega⟩
   obtain rfl:x=X:=by rw[←hX];unfold ovX;rw[show(ea+place - min (ea+place) eb).toNat=0 by omega,Nat.pow_zero,Nat.mul_one]
   obtain rfl:y*2^k=Y:=by rw[←hY];unfold ovY;rw[show(eb - min (ea+place) eb).toNat=k by omega]
   exact rover_b na nb ua va uc vc x y k ea eb place w (na != nb) _ _ rfl rfl h1 hu h2 hv hx0 hy0 hx hy ha.1 ha.2 hb.1 hb.2 hp.1 hp.2 hk (by omega) (by omega) rfl
theorem rcut_z (na:Bool) (ua:Option Addr) (un uc:Nat) (ea place:Int) (w:World) (he1 : -200000≤ea) (he2:ea≤200000) (hp1 : -200000≤place) (hp2:place≤200000) :
  Calls Tryz.prog 48 #[.agg #[.bool na,.slice ua 0 uc,.int .i64 ea],.int .i64 place] w fun r w'=>r=.returned (.tuple #[.agg #[.bool na,.slice ua 0 uc,.int .i64 ea],.bool true])∧Bw w w':=by
 obtain⟨W,hW⟩:∃ W,W=(w.alloc (.cells #[.bool na,.slice ua (0) uc,.int .i64 ea] 54)).alloc (.cells #[.bool false,.slice none 0 0,.int .i64 0] 54):=⟨_,rfl⟩
 obtain⟨hA,hC,hsz,hBW⟩:=two29 _ _ hW
 have HH:Hid ((W.heap[w.heap.size]?=some (.cells #[.bool na,.slice ua (0) uc,.int .i64 ea] 54 (0,0))∧W.heap[w.heap.size+1]?=some (.cells #[.bool false,.slice none 0 0,.int .i64 0] 54 (0,0)))∧W.heap.size=w.heap.size+1+1∧Bw w W):=⟨⟨hA,hC⟩,hsz,hBW⟩
 obtain⟨⟨a0,a1,a2⟩,-⟩:=box_cells29 hA
 obtain⟨⟨c0,c1,c2⟩,c3,c4,c5⟩:=box_cells29 hC
 clear hA hC hsz hBW
 rw[hW] at a0 a1 a2 c0 c1 c2 c3 c4 c5
 go_enter Tryz.func48,Tryz.ntmps48
 go_wp2
 obtain⟨W2,hW2⟩:∃ W2,W2=(w.alloc (.cells #[.bool na,.slice ua 0 uc,.int .i64 ea] 54)).alloc (.cells #[.bool na,.slice ua 0 uc,.int .i64 ea] 54):=⟨_,rfl⟩
 obtain⟨-,hC2,-,hB2⟩:=two29 _ _ hW2
 rw[←hW2]
 refine bodyPost_ret (results_cell_tmp_row rfl _ _ (w.heap.size+1) 54 #[.bool na,.slice ua 0 uc,.int .i64 ea] (0,0) _ rfl hC2 Tryz.underlying54 rfl Tryz.info54) rfl ?_
 exact⟨rfl,hB2⟩
theorem rcut_w (na:Bool) (ua:Option Addr) (un uc:Nat) (ea place:Int) (w:World) (he1 : -200000≤ea) (he2:ea≤200000) (hp1 : -200000≤place) (hp2:place≤200000) (hn0:((un:Int)==0)=false) (hn:un≤35184372088832) (hk : -place - ea≤0) :
  Calls Tryz.prog 48 #[.agg #[.bool na,.slice ua un uc,.int .i64 ea],.int .i64 place] w fun r w'=>r=.returned (.tuple #[.agg #[.bool na,.slice ua un uc,.int .i64 ea],.bool true])∧Bw w w':=by
 obtain⟨W,hW⟩:∃ W,W=(w.alloc (.cells #[.bool na,.slice ua (un) uc,.int .i64 ea] 54)).alloc (.cells #[.bool false,.slice none 0 0,.int .i64 0] 54):=⟨_,rfl⟩
 obtain⟨hA,hC,hsz,hBW⟩:=two29 _ _ hW
 have HH:Hid ((W.heap[w.heap.size]?=some (.cells #[.bool na,.slice ua (un) uc,.int .i64 ea] 54 (0,0))∧W.heap[w.heap.size+1]?=some (.cells #[.bool false,.slice none 0 0,.int .i64 0] 54 (0,0)))∧W.heap.size=w.heap.size+1+1∧Bw w W):=⟨⟨hA,hC⟩,hsz,hBW⟩
 obtain⟨⟨a0,a1,a2⟩,-⟩:=box_cells29 hA
 obtain⟨⟨c0,c1,c2⟩,c3,c4,c5⟩:=box_cells29 hC
 clear hA hC hsz hBW
 rw[hW] at a0 a1 a2 c0 c1 c2 c3 c4 c5
 have hd1:decide (-place - ea≤0)=true:=decide_eq_true hk
 go_enter Tryz.func48,Tryz.ntmps48
 go_wp2
 obtain⟨W2,hW2⟩:∃ W2,W2=(w.alloc (.cells #[.bool na,.slice ua un uc,.int .i64 ea] 54)).alloc (.cells #[.bool na,.slice ua un uc,.int .i64 ea] 54):=⟨_,rfl⟩
 obtain⟨-,hC2,-,hB2⟩:=two29 _ _ hW2
 rw[←hW2]
 refine bodyPost_ret (results_cell_tmp_row rfl _ _ (w.heap.size+1) 54 #[.bool na,.slice ua un uc,.int .i64 ea] (0,0) _ rfl hC2 Tryz.underlying54 rfl Tryz.info54) rfl ?_
 exact⟨rfl,hB2⟩
theorem rcut_p (ua:Option Addr) (uc x k:Nat) (ea place:Int) (w:World) (h1:At w ua (dlen x) x) (hu:dlen x≤uc) (hx0:x≠0) (hx:dlen x≤3000) (he1 : -200000≤ea) (he2:ea≤200000) (hp1 : -200000≤place) (hp2:place≤200000) (hk : -place - ea=(k:Int)) (hk1:0<k) (hk2:k≤600000) :
  Calls Tryz.prog 48 #[.agg #[.bool false,.slice ua (dlen x) uc,.int .i64 ea],.int .i64 place] w fun r w'=>∃ A,r=.returned (.tuple #[A,.bool false])∧NC w' w.heap.size A false (x / 2^k) (-place)∧Bw w w':=by
 obtain⟨W,hW⟩:∃ W,W=(w.alloc (.cells #[.bool false,.slice ua (dlen x) uc,.int .i64 ea] 54)).alloc (.cells #[.bool false,.slice none 0 0,.int .i64 0] 54):=⟨_,rfl⟩
 obtain⟨hA,hC,hsz,hBW⟩:=two29 _ _ hW
 have HH:Hid ((W.heap[w.heap.size]?=some (.cells #[.bool false,.slice ua (dlen x) uc,.int .i64 ea] 54 (0,0))∧W.heap[w.heap.size+1]?=some (.cells #[.bool false,.slice none 0 0,.int .i64 0] 54 (0,0)))∧W.heap.size=w.heap.size+1+1∧Bw w W):=⟨⟨hA,hC⟩,hsz,hBW⟩
 obtain⟨⟨a0,a1,a2⟩,-⟩:=box_cells29 hA
 have HI:Hid (Ir W (.slice ua (dlen x) uc) x):=(⟨ua,uc,rfl,hu,h1.later hBW⟩:Ir W (.slice ua (dlen x) uc) x)
 have HN:Hid (x≠0∧dlen x≤3000∧k≤600000):=⟨hx0,hx,hk2⟩
 have hxz:((dlen x:Int)==0)=false:=len_ne (n:=0) hx0
 have hkp:¬ ((k:Int)≤0):=by omega
 have hkd:decide ((k:Int)≤0)=false:=decide_eq_false hkp
 clear hA hC hsz hBW h1
 have ku:=rdown HI.out k (by omega) (by omega)
 generalize hdx:dlen x=lx at *
 rw[hW] at a0 a1 a2
 go_enter Tryz.func48,Tryz.ntmps48
 go_wp2_with fail
 rw[←hW]
 clear hW a0 a1 a2
 refine ku.mono ?_
 rintro r w5 ⟨au,cu,rfl,hAu,hcu,hb5⟩
 have HB5:Hid (Bw W w5):=hb5
 obtain⟨⟨a0,a1,a2⟩,-⟩:=box_cells29 (box_later HH.out.1.1 HB5.out (by have:=HH.out.2.1;omega))
 have hql:dlen (x / 2^k)≤30000:=Nat.le_trans (dlen_mono (Nat.div_le_self _ _)) (by have:=HN.out;omega)
 have kn:=rnorm (neg:=false) (e := -place) (⟨au,cu,rfl,hcu,hAu⟩:Ir w5 _ (x / 2^k)) (by omega) (by omega)
 have HQL:Hid (dlen (x / 2^k)≤30000):=hql
 clear ku hAu hcu hb5 hql
 obtain⟨lq,hlq⟩:∃ lq,lq=dlen (x / 2^k):=⟨_,rfl⟩
 rw[←hlq]
 rw[←hlq] at kn
 clear hlq
 go_wp2_with fail
 refine kn.mono ?_
 rintro r w6 ⟨A,rfl,hN6,hb6⟩
 obtain⟨s6,ao6,n6,cap6,ex6,rfl⟩:=hN6.shape
 have HB6:Hid (Bw W w6):=HB5.out.trans (hb6.mono HB5.out.size)
 have HN6:Hid (NC w6 w5.heap.size (.agg #[.bool s6,.slice ao6 n6 cap6,.int .i64 ex6]) false (x / 2^k) (-place)):=hN6
 obtain⟨w7,hw7⟩:∃ w7,w7=w6.alloc (.cells #[.bool s6,.slice ao6 n6 cap6,.int .i64 ex6] 54):=⟨_,rfl⟩
 have hB67:Bw w6 w7:=by rw[hw7];exact(Below.refl _ _).alloc (Nat.le_refl _) _
 have HB7:Hid (Bw W w7):=HB6.out.trans (hB67.mono HB6.out.size)
 have hbox:w7.heap[w6.heap.size]?=some (.cells #[.bool s6,.slice ao6 n6 cap6,.int .i64 ex6] 54 (0,0)):=by rw[hw7];exact heap_alloc_new _ _
 have HBX:Hid (w7.heap[w6.heap.size]?=some (.cells #[.bool s6,.slice ao6 n6 cap6,.int .i64 ex6] 54 (0,0))∧Bw w6 w7):=⟨hbox,hB67⟩
 have hres:=box_later HH.out.1.2 HB7.out (by have:=HH.out.2.1;omega)
 have HRES:Hid (w7.heap[w.heap.size+1]?=some (.cells #[.bool false,.slice none 0 0,.int .i64 0] 54 (0,0))):=hres
 have hneg:=box_later HH.out.1.1 HB7.out (by have:=HH.out.2.1;omega)
 clear a0 a1 a2
 obtain⟨⟨c0,c1,c2⟩,c3,c4,c5⟩:=box_cells29 hres
 obtain⟨⟨d0,d1,d2⟩,d3,d4,d5⟩:=box_cells29 hbox
 obtain⟨⟨a0,a1,a2⟩,-⟩:=box_cells29 hneg
 clear kn hN6 hb6 hbox hres hB67 hneg
 rw[hw7] at c0 c1 c2 c3 c4 c5 d0 d1 d2 d3 d4 d5 a0 a1 a2
 go_wp2
 rw[←hw7]
 refine bodyPost_ret (results_cell_tmp_row rfl _ _ (w.heap.size+1) 54 #[.bool s6,.slice ao6 n6 cap6,.int .i64 ex6] (0,0) _ rfl (store3_29 _ _ _ HRES.out) Tryz.underlying54 rfl Tryz.info54) rfl ?_
 have q1:=HH.out.2.1
 have q2:=HB5.out.size
 exact⟨_,rfl,((HN6.out.later HBX.out.2).store (by omega) _ _ _).mono (by omega),below_store3 (HH.out.2.2.trans (HB7.out.mono HH.out.2.2.size)) (by omega) _ _ _⟩
theorem cn_dlen {s:Bool} {z:Nat} {e:Int}:dlen (cn s z e).2.1≤dlen z:=by
 unfold cn
 by_cases h:z=0
 ·rw[if_pos h,dlen_zero];exact Nat.zero_le _
 ·rw[if_neg h];exact dlen_mono (Nat.div_le_self _ _)
theorem pratio_1 (na nb:Bool) (ua va:Option Addr) (un uc vn vc x y k bx by':Nat) (ea eb mode:Int) (sg:Bool) (w:World) (hsg:Hid ((!(na==nb))=sg)) (hT:Tab32 w) (h1:Is w (.slice ua un uc) x) (h2:Is w (.slice va vn vc) y) (hx:dlen x≤3000) (hy:dlen y≤3000) (hy0:y≠0) (he1 : -65536≤ea) (he2:ea≤65536) (he3 : -65536≤eb) (he4:eb≤65536) (hm:mode=1∨mode=2∨mode=3)
  (hbx:bl x=bx) (hby:bl y=by') (hbx2:bx≤96000) (hby2:by'≤96000) (hk:max 0 (64+(by':Int) - (bx:Int))=(k:Int)) (hk2:k≤100000) (hn0:((un:Int)==0)=false) (hn1:((vn:Int)==0)=false)
  (k67:∀ W g,Bw w W→W.heap[g]?=some (.cells #[.bool na,.slice ua un uc,.int .i64 ea,.bool nb,.slice va vn vc,.int .i64 eb] 50 (0,0))→Calls Tryz.prog 128 #[.slice (some ⟨g,0,none⟩) 2 2] W fun r w'=>r=.returned (.bool true)∧Bw W w') :
  Calls Tryz.prog 125 #[.agg #[.bool na,.slice ua un uc,.int .i64 ea],.agg #[.bool nb,.slice va vn vc,.int .i64 eb],.int .i64 mode] w fun r w'=>r=.returned (.tuple #[.float .f64 (tfF sg (decide (x*2^k % y=0)) (x*2^k / y) (ea - eb - k) mode),.int .i64 0])∧Bw w w':=by
 obtain⟨W,hW⟩:∃ W,W=(w.alloc (.cells #[.bool na,.slice ua un uc,.int .i64 ea] 50)).alloc (.cells #[.bool nb,.slice va vn vc,.int .i64 eb] 50):=⟨_,rfl⟩
 have hBW:Bw w W:=by rw[hW];exact((Below.refl _ _).alloc (Nat.le_refl _) _).alloc (by simp) _
 have hbA:W.heap[w.heap.size]?=some (.cells #[.bool na,.slice ua un uc,.int .i64 ea] 50 (0,0)):=by
  rw[hW,Below.heap_alloc _ _ _ (by simp)];exact heap_alloc_new _ _
 have hbB:W.heap[w.heap.size+1]?=some (.cells #[.bool nb,.slice va vn vc,.int .i64 eb] 50 (0,0)):=by
  have:=heap_alloc_new (w.alloc (.cells #[.bool na,.slice ua un uc,.int .i64 ea] 50)) (.cells #[.bool nb,.slice va vn vc,.int .i64 eb] 50)
  rw[hW];simpa using this
 have hsz:W.heap.size=w.heap.size+1+1:=by rw[hW];simp
 have k1:=k67 (W.alloc (.cells #[.bool na,.slice ua un uc,.int .i64 ea,.bool nb,.slice va vn vc,.int .i64 eb] 50)) (w.heap.size+1+1) (hBW.alloc hBW.size _) (by rw[←hsz];exact heap_alloc_new _ _)
 have HX:Hid (Bw w W∧W.heap.size=w.heap.size+1+1∧W.heap[w.heap.size]?=some (.cells #[.bool na,.slice ua un uc,.int .i64 ea] 50 (0,0))∧W.heap[w.heap.size+1]?=some (.cells #[.bool nb,.slice va vn vc,.int .i64 eb] 50 (0,0))):=⟨hBW,hsz,hbA,hbB⟩
 have HT:Hid (Tab32 w∧Is w (.slice ua un uc) x∧dlen x≤3000∧Is w (.slice va vn vc) y∧dlen y≤3000∧y≠0):=⟨hT,h1,hx,h2,hy,hy0⟩
 have k48:=fun W=>c48 mode hm W
 clear hBW hsz hbA hbB k67 hT h1 hx h2 hy hy0
 go_enter Tryz.func125,Tryz.ntmps125
 go_wp2_with fail
 rw[←hW]
 clear hW
 refine k1.mono ?_
 rintro r w1 ⟨rfl,hb1⟩
 have HB1:Hid (Bw W w1):=((Below.refl W.heap.size W).alloc (Nat.le_refl _) _).trans (hb1.mono (by simp))
 have HW1:Hid (Bw w w1):=HX.out.1.trans (HB1.out.mono HX.out.1.size)
 obtain⟨⟨a0,a1,a2⟩,-⟩:=box_cells (box_later HX.out.2.2.1 HB1.out (by have:=HX.out.2.1;omega))
 obtain⟨⟨b0,b1,b2⟩,-⟩:=box_cells (box_later HX.out.2.2.2 HB1.out (by have:=HX.out.2.1;omega))
 clear k1 hb1
 go_wp2_with fail
 refine(k48 w1).mono ?_
 rintro r w1' ⟨rfl,hw⟩
 replace hw:=hw.symm
 subst hw
 clear k48
 have kla:∀ d,Calls Tryz.prog 181 #[.slice ua un uc] (w1.drewN d) fun e w'=>e=.returned (.int .i64 (bx:Nat))∧w'=w1.drewN d:=fun d=>by
  have:=c74 (w:=w1.drewN d) (HT.out.2.1.later (HW1.out.trans ⟨rfl,rfl,rfl,Nat.le_refl _,fun _ _=>rfl⟩)) (by have:=HT.out.2.2;omega)
  rw[hbx] at this;exact this
 have klb:∀ d,Calls Tryz.prog 181 #[.slice va vn vc] (w1.drewN d) fun e w'=>e=.returned (.int .i64 (by':Nat))∧w'=w1.drewN d:=fun d=>by
  have:=c74 (w:=w1.drewN d) (HT.out.2.2.2.1.later (HW1.out.trans ⟨rfl,rfl,rfl,Nat.le_refl _,fun _ _=>rfl⟩)) (by have:=HT.out.2.2;omega)
  rw[hby] at this;exact this
 go_wp2
 go_quiet (first|(go_at_call 181;first|(with_reducible refine Calls.quiet_of_same (klb _))|(with_reducible refine Calls.quiet_of_same (kla _))))
 have HB2:Hid (Below W.heap.size W (w1.drewN nq)):=HB1.out.trans ⟨rfl,rfl,rfl,Nat.le_refl _,fun _ _=>rfl⟩
 obtain⟨w2,hw2⟩:∃ w2,w2=w1.drewN nq:=⟨_,rfl⟩
 rw[←hw2] at HB2 ⊢
 clear hw2 kla klb a0 a1 a2 b0 b1 b2
 have HK:Hid (∀ w',Bw w2 w'→((w'.cell? ⟨w.heap.size,0,none⟩=some (.bool na)∧w'.cell? ⟨w.heap.size,1,none⟩=some (.slice ua un uc)∧w'.cell? ⟨w.heap.size,2,none⟩=some (.int .i64 ea))∧(w'.cell? ⟨w.heap.size+1,0,none⟩=some (.bool nb)∧w'.cell? ⟨w.heap.size+1,1,none⟩=some (.slice va vn vc)∧w'.cell? ⟨w.heap.size+1,2,none⟩=some (.int .i64 eb)))):=fun w' hb=>⟨(box_cells (box_later HX.out.2.2.1 (HB2.out.trans (hb.mono HB2.out.size)) (by have:=HX.out.2.1;omega))).1,(box_cells (box_later HX.out.2.2.2 (HB2.out.trans (hb.mono HB2.out.size)) (by have:=HX.out.2.1;omega))).1⟩
 obtain⟨⟨a0,a1,a2⟩,b0,b1,b2⟩:=HK.out w2 (Below.refl _ _)
 have hBR:Bw w2 w2.drew:=(Below.refl _ _).drew
 have hl:dlen (x*2^k)≤7000:=by have:=shl_len (x:=x) (k:=k) rfl;have:=HT.out.2.2;omega
 have HL:Hid (dlen (x*2^k)≤7000):=hl
 have kS:∀ w',Bw w2 w'→Calls Tryz.prog 182 #[.slice ua un uc,.int .i64 (k:Int)] w' fun e w''=>∃ v,e=.returned v∧Hid (Is w'' v (x*2^k))∧Bw w2 w'':=fun w' hb=>(c109 (HT.out.2.1.later (HX.out.1.trans ((HB2.out.trans (hb.mono HB2.out.size)).mono HX.out.1.size))) k (by have:=HT.out.2.2;omega) (by omega)).mono fun r w'' ⟨v,e1,e2,e3⟩=>⟨v,e1,e2.is,hb.trans (e3.mono hb.size)⟩
 have kD:∀ v w',Hid (Is w' v (x*2^k))→Bw w2 w'→Calls Tryz.prog 159 #[v,.slice va vn vc] w' fun e w''=>∃ q,e=.returned (.tuple #[q,.bool (decide (x*2^k % y=0))])∧Hid (Is w'' q (x*2^k / y))∧Bw w2 w'':=fun v w' hI hb=>(c100 hI.out (HT.out.2.2.2.1.later (HX.out.1.trans ((HB2.out.trans (hb.mono HB2.out.size)).mono HX.out.1.size))) (by have:=HL.out;omega) (by have:=HT.out.2.2.2.2;omega) HT.out.2.2.2.2.2).mono fun r w'' ⟨q,e1,e2,e3⟩=>⟨q,e1,e2.is,hb.trans (e3.mono hb.size)⟩
 obtain⟨xb,hxb⟩:∃ xb:Bool,xb=decide (x*2^k % y=0):=⟨_,rfl⟩
 rw[←hxb] at kD
 have HXB:Hid (xb=decide (x*2^k % y=0)):=hxb
 clear hxb hl
 go_upto_region 8 with fail
 go_cut [9,10] from 42 to 50 (fun q b wx=>b=.bool xb∧Hid (Is wx q (x*2^k / y))∧Hid (Bw w2 wx))
 case first =>
  go_region_held3 (fun w'=>((w'.cell? ⟨w.heap.size,0,none⟩=some (.bool na)∧w'.cell? ⟨w.heap.size,1,none⟩=some (.slice ua un uc)∧w'.cell? ⟨w.heap.size,2,none⟩=some (.int .i64 ea))∧(w'.cell? ⟨w.heap.size+1,0,none⟩=some (.bool nb)∧w'.cell? ⟨w.heap.size+1,1,none⟩=some (.slice va vn vc)∧w'.cell? ⟨w.heap.size+1,2,none⟩=some (.int .i64 eb)))) (first|(with_reducible assumption)|exact⟨⟨a0,a1,a2⟩,b0,b1,b2⟩|(refine HK.out _ ?_;with_reducible assumption)|go_keep)
   (first|(go_at_call 182;refine(kS _ (by first|(with_reducible assumption)|exact hBR)).mono ?_;rintro r w5 ⟨v5,rfl,hI5,hb5⟩)|(go_at_call 159;refine(kD _ _ hI5 (by with_reducible assumption)).mono ?_;rintro r w6 ⟨v6,rfl,hI6,hb6⟩))
  all_goals go_wp2_with fail
  all_goals go_meet
  all_goals exact⟨rfl,hI6,hb6⟩
 case rest =>
  obtain⟨rfl,hI,hB⟩:=hcut
  obtain⟨w3,rfl⟩:∃ w3:World,w3=wc:=⟨_,rfl⟩
  have HB3:Hid (Bw W w3):=HB2.out.trans (hB.out.mono HB2.out.size)
  clear a0 a1 a2 b0 b1 b2 kS kD hBR
  obtain⟨⟨a0,a1,a2⟩,b0,b1,b2⟩:=HK.out w3 hB.out
  have kt:=c110 (neg:=sg) (exact:=xb) (e:=ea - eb - k) (mode:=mode) (HT.out.1.later (HX.out.1.trans (HB3.out.mono HX.out.1.size))) hI.out (Nat.le_trans (dlen_mono (Nat.div_le_self _ _)) (by have:=HL.out;omega)) (by omega) (by omega)
  go_wp2_with fail
  rw[hsg.out]
  refine kt.mono ?_
  rintro r w4 ⟨rfl,hb4⟩
  have HB4:Hid (Bw W w4):=HB3.out.trans (hb4.mono HB3.out.size)
  clear kt hb4
  go_wp2
  refine bodyPost_ret (results_tmp2 rfl _ _ _) rfl ?_
  exact⟨congrArg (fun b=>Ending.returned (Value.tuple #[.float .f64 (tfF sg b (x*2^k / y) (ea - eb - k) mode),.int .i64 0])) HXB.out,HX.out.1.trans (HB4.out.mono HX.out.1.size)⟩
end Go.Proofs.YtfkaogdmlcdceaaGreatDoor
namespace Go.Proofs.YtfkaogdmlcdceaaGreatDoor
def bv (b:Nat):Nat:=if b<4503599627370496 then b else(4503599627370496+b % 4503599627370496)*2^(b / 4503599627370496 - 1)
theorem bv_at {j q:Nat} (h:(j=0∧q≤9007199254740992)∨(4503599627370496≤q∧q≤9007199254740992)):bv (j*4503599627370496+q)=q*2^j:=by
 unfold bv
 by_cases h1:j*4503599627370496+q<4503599627370496
 ·have hj:j=0:=by omega
  subst hj
  rw[if_pos h1];simp
 ·rw[if_neg h1]
  by_cases h2:q=9007199254740992
  ·subst h2
   rw[show(j*4503599627370496+9007199254740992) % 4503599627370496=0 by omega,show(j*4503599627370496+9007199254740992) / 4503599627370496 - 1=j+1 by omega,Nat.pow_succ]
   omega
  ·have h3:4503599627370496≤q:=by omega
   rw[show(j*4503599627370496+q) % 4503599627370496=q - 4503599627370496 by omega,show(j*4503599627370496+q) / 4503599627370496 - 1=j by omega]
   rw[show 4503599627370496+(q - 4503599627370496)=q by omega]
theorem bv_form (b:Nat):∃ j q,b=j*4503599627370496+q∧bv b=q*2^j∧bv (b+1)=(q+1)*2^j:=by
 by_cases h:b<4503599627370496
 ·refine⟨0,b,by omega,?_,?_⟩
  ·have:=bv_at (j:=0) (q:=b) (.inl ⟨rfl,by omega⟩);simpa using this
  ·have:=bv_at (j:=0) (q:=b+1) (.inl ⟨rfl,by omega⟩);simpa using this
 ·have e:b=(b / 4503599627370496 - 1)*4503599627370496+(4503599627370496+b % 4503599627370496):=by omega
  refine⟨_,_,e,?_,?_⟩
  ·have:=bv_at (j:=b / 4503599627370496 - 1) (q:=4503599627370496+b % 4503599627370496) (.inr ⟨by omega,by omega⟩)
   rw[←e] at this;exact this
  ·have:=bv_at (j:=b / 4503599627370496 - 1) (q:=4503599627370496+b % 4503599627370496+1) (.inr ⟨by omega,by omega⟩)
   rw[←Nat.add_assoc,←e] at this;exact this
theorem bv_succ (b:Nat):bv b<bv (b+1):=by
 obtain⟨j,q,-,h1,h2⟩:=bv_form b
 rw[h1,h2]
 exact Nat.mul_lt_mul_of_pos_right (by omega) (Nat.two_pow_pos j)
theorem bv_lt {a b:Nat} (h:a<b):bv a<bv b:=by
 induction b with
 | zero=>omega
 | succ b ih =>
  by_cases h1:a<b
  ·exact Nat.lt_trans (ih h1) (bv_succ b)
  ·obtain rfl:a=b:=by omega
   exact bv_succ a
theorem bv_le {a b:Nat} (h:a≤b):bv a≤bv b:=by
 by_cases h1:a=b
 ·rw[h1];exact Nat.le_refl _
 ·exact Nat.le_of_lt (bv_lt (by omega))
theorem bv_inj_lt {a b:Nat} (h:bv a<bv b):a<b:=by
 apply Decidable.byContradiction
 intro h1
 have:=bv_le (a:=b) (b:=a) (by omega)
 omega
structure IsR (x:Nat) (e:Int) (j X k:Nat):Prop where
 eq:∀ K:Nat,0≤e+K→0≤(j:Int) - 1074 - k+K→X*2^((j:Int) - 1074 - k+K).toNat=x*2^(e+K).toNat
 lt:X / 2^k<9007199254740992
 ge:j=0∨4503599627370496≤X / 2^k
structure Lies (A u b:Nat) (r m:Nat):Prop where
 lo:bv b*u≤A
 hi:A<bv (b+1)*u
 ex:r=0↔A=bv b*u
 half_lt:2*r<m↔2*A<(bv b+bv (b+1))*u
 half_eq:2*r=m↔2*A=(bv b+bv (b+1))*u
theorem IsR.lies {x:Nat} {e:Int} {j X k:Nat} (h:IsR x e j X k) {K:Nat} (hK:1074≤K) (h1:0≤e+K) (h2:0≤(j:Int) - 1074 - k+K) :
  Lies (x*2^(e+K).toNat) (2^(K - 1074)) (j*4503599627370496+X / 2^k) (X % 2^k) (2^k):=by
 have eq:=h.eq K h1 h2
 have hl:=h.lt
 have hg:=h.ge
 have b0:bv (j*4503599627370496+X / 2^k)=X / 2^k*2^j:=bv_at (j:=j) (q:=X / 2^k) (by
  generalize X / 2^k=q at *
  rcases hg with g|g
  ·exact .inl ⟨g,by omega⟩
  ·exact .inr ⟨g,by omega⟩)
 have b1:bv (j*4503599627370496+X / 2^k+1)=(X / 2^k+1)*2^j:=by
  have:=bv_at (j:=j) (q:=X / 2^k+1) (by
   generalize X / 2^k=q at *
   rcases hg with g|g
   ·exact .inl ⟨g,by omega⟩
   ·exact .inr ⟨by omega,by omega⟩)
  rw[←Nat.add_assoc] at this
  exact this
 have hu:2^j*2^(K - 1074)=2^k*2^((j:Int) - 1074 - k+K).toNat:=by
  rw[←Nat.pow_add,←Nat.pow_add,show j+(K - 1074)=k+((j:Int) - 1074 - k+K).toNat by omega]
 have hX:X=2^k*(X / 2^k)+X % 2^k:=(Nat.div_add_mod X (2^k)).symm
 have hr:X % 2^k<2^k:=Nat.mod_lt _ (Nat.two_pow_pos k)
 have hU:0<2^((j:Int) - 1074 - k+K).toNat:=Nat.two_pow_pos _
 rw[←eq]
 generalize 2^((j:Int) - 1074 - k+K).toNat=U at *
 generalize X / 2^k=q at *
 generalize X % 2^k=r at *
 generalize 2^k=M at *
 generalize 2^j=J at *
 generalize 2^(K - 1074)=u at *
 have e0:bv (j*4503599627370496+q)*u=q*(M*U):=by rw[b0,Nat.mul_assoc,hu]
 have e1:bv (j*4503599627370496+q+1)*u=(q+1)*(M*U):=by rw[b1,Nat.mul_assoc,hu]
 have eA:X*U=q*(M*U)+r*U:=by rw[hX,Nat.add_mul];congr 1;rw[←Nat.mul_assoc,Nat.mul_comm q M]
 have e1':(q+1)*(M*U)=q*(M*U)+M*U:=by rw[Nat.add_mul,Nat.one_mul]
 have hrU:r*U<M*U:=Nat.mul_lt_mul_of_pos_right hr hU
 have hr0:r=0↔r*U=0:=by
  constructor
  ·rintro rfl;simp
  ·intro h;rcases Nat.mul_eq_zero.1 h with h|h
   ·exact h
   ·omega
 have hh1:2*r<M↔2*(r*U)<M*U:=by
  rw[←Nat.mul_assoc]
  exact(Nat.mul_lt_mul_right hU).symm
 have hh2:2*r=M↔2*(r*U)=M*U:=by
  rw[←Nat.mul_assoc]
  exact(Nat.mul_left_inj (by omega)).symm
 refine⟨?_,?_,?_,?_,?_⟩
 ·rw[e0,eA];omega
 ·rw[e1,eA,e1'];omega
 ·rw[hr0,e0,eA];omega
 ·rw[hh1,Nat.add_mul,e0,e1,eA,e1'];omega
 ·rw[hh2,Nat.add_mul,e0,e1,eA,e1'];omega
structure Rounds (A u b way:Nat):Prop where
 fl:∃ b0,(bv b0*u≤A∧A<bv (b0+1)*u)∧(way=0→b=b0)∧(way=2→b=if A=bv b0*u then b0 else b0+1)∧(way=1→b=if 2*A<(bv b0+bv (b0+1))*u then b0 else if 2*A=(bv b0+bv (b0+1))*u then b0+b0 % 2 else b0+1)
theorem floor_mono {A A' u b b':Nat} (h:A≤A') (h1:bv b*u≤A) (h2:A'<bv (b'+1)*u):b≤b':=by
 have h3:bv b*u<bv (b'+1)*u:=by omega
 have h4:bv b<bv (b'+1):=Nat.lt_of_mul_lt_mul_right h3
 have:=bv_inj_lt h4
 omega
theorem Rounds.mono {A A' u b b' way:Nat} (hw:way=0∨way=1∨way=2) (h:Rounds A u b way) (h':Rounds A' u b' way) (hle:A≤A'):b≤b':=by
 obtain⟨b0,⟨l,g⟩,w0,w2,w1⟩:=h.fl
 obtain⟨b1,⟨l',g'⟩,w0',w2',w1'⟩:=h'.fl
 have hb:=floor_mono hle l g'
 rcases hw with hw|hw|hw
 ·rw[w0 hw,w0' hw];exact hb
 ·rw[w1 hw,w1' hw]
  by_cases he:b0=b1
  ·subst he
   split
   ·split
    ·exact Nat.le_refl _
    ·split <;> omega
   ·split
    ·split
     ·omega
     ·split
      ·exact Nat.le_refl _
      ·have:b0 % 2<2:=Nat.mod_lt _ (by omega)
       omega
    ·rw[if_neg (by omega),if_neg (by omega)];exact Nat.le_refl _
  ·have hlt:b0<b1:=by omega
   have h1:(if 2*A<(bv b0+bv (b0+1))*u then b0 else if 2*A=(bv b0+bv (b0+1))*u then b0+b0 % 2 else b0+1)≤b0+1:=by
    split
    ·omega
    ·split <;> omega
   have h2:b1≤(if 2*A'<(bv b1+bv (b1+1))*u then b1 else if 2*A'=(bv b1+bv (b1+1))*u then b1+b1 % 2 else b1+1):=by
    split
    ·omega
    ·split <;> omega
   omega
 ·rw[w2 hw,w2' hw]
  by_cases he:b0=b1
  ·subst he
   split
   ·split <;> omega
   ·rw[if_neg (by omega)];exact Nat.le_refl _
  ·split
   ·split <;> omega
   ·split <;> omega
end Go.Proofs.YtfkaogdmlcdceaaGreatDoor
namespace Go.Proofs.YtfkaogdmlcdceaaGreatDoor
open Go.RowKit Go.Fl64
open Ie
theorem or_one_half (y:Nat):(y ||| 1) / 2=y / 2:=by rw[Nat.or_div_two];simp
theorem or_one_odd (y:Nat):(y ||| 1) % 2=1:=Nat.or_mod_two_eq_one.2 (.inr rfl)
theorem or_one_eq (y:Nat):y ||| 1=2*(y / 2)+1:=by
 have h1:=or_one_half y
 have h2:=or_one_odd y
 omega
theorem rnd_sticky {x D k y m:Nat} {way:Int} (hk:2≤k) (hy:y=x / 2^D) (hm:(x % 2^D=0∧m=y)∨(x % 2^D≠0∧m=2*(y / 2)+1)):rnd m k way=rnd x (D+k) way:=by
 obtain⟨h,rfl⟩:∃ h,k=h+2:=⟨k - 2,by omega⟩
 have e2:(2:Nat)^(h+2)=2*(2*2^h):=by rw[Nat.pow_succ,Nat.pow_succ];omega
 have eD:(2:Nat)^(D+(h+2))=2^D*2^(h+2):=Nat.pow_add ..
 have hq:m / 2^(h+2)=x / 2^(D+(h+2)):=by
  rw[eD,←Nat.div_div_eq_div_mul,←hy]
  rcases hm with ⟨-,hm⟩|⟨-,hm⟩
  ·rw[hm]
  ·have hd:∀ z,z / (2*(2*2^h))=z / 2 / (2*2^h):=fun z=>(Nat.div_div_eq_div_mul ..).symm
   rw[e2,hd,hd,hm,show(2*(y / 2)+1) / 2=y / 2 by omega]
 have hR:x % 2^(D+(h+2))=(y % 2^(h+2))*2^D+x % 2^D:=by
  rw[eD,Nat.mod_mul,hy,Nat.mul_comm];omega
 have hM:(x % 2^D=0∧m % 2^(h+2)=y % 2^(h+2))∨(x % 2^D≠0∧m % 2^(h+2)=2*(y % 2^(h+2) / 2)+1):=by
  rcases hm with ⟨h1,hm⟩|⟨h1,hm⟩
  ·exact .inl ⟨h1,by rw[hm]⟩
  ·refine .inr ⟨h1,?_⟩
   rw[hm,e2]
   generalize 2^h=H
   rw[Nat.mod_mul,Nat.mod_mul (x:=y),show(2*(y / 2)+1) % 2=1 by omega,show(2*(y / 2)+1) / 2=y / 2 by omega]
   generalize y / 2 % (2*H)=t
   omega
 have hrx:x % 2^D<2^D:=Nat.mod_lt _ (Nat.two_pow_pos D)
 have hp:0<2^D:=Nat.two_pow_pos D
 have i0:m % 2^(h+2)=0↔x % 2^(D+(h+2))=0:=by
  rw[hR]
  rcases hM with ⟨h1,h2⟩|⟨h1,h2⟩
  ·rw[h1,h2,Nat.add_zero]
   constructor
   ·intro e;rw[e,Nat.zero_mul]
   ·intro e;rcases Nat.mul_eq_zero.1 e with e|e
    ·exact e
    ·omega
  ·rw[h2];omega
 have key:∀ c:Nat,c=2*2^h→(2^(h+2)<2*(m % 2^(h+2))↔2^(D+(h+2))<2*(x % 2^(D+(h+2))))∧(2*(m % 2^(h+2))=2^(h+2)↔2*(x % 2^(D+(h+2)))=2^(D+(h+2))):=by
  intro c hc
  rw[hR,eD]
  have e3:(2:Nat)^(h+2)=2*c:=by rw[e2,hc]
  rw[e3] at hM ⊢
  have hc2:c % 2=0:=by omega
  generalize y % (2*c)=ry at *
  generalize m % (2*c)=rm at *
  generalize x % 2^D=rx at *
  generalize 2^D=T at *
  have a1:T*(2*c)=2*(c*T):=by rw[Nat.mul_comm T,Nat.mul_assoc]
  rw[a1]
  rcases hM with ⟨h1,h2⟩|⟨h1,h2⟩
  ·subst h1
   rw[h2,Nat.add_zero]
   constructor
   ·constructor
    ·intro g;have:=Nat.mul_lt_mul_of_pos_right (show c<ry by omega) hp;omega
    ·intro g;have:c*T<ry*T:=by omega
     have:=Nat.lt_of_mul_lt_mul_right this;omega
   ·constructor
    ·intro g;rw[show ry=c by omega]
    ·intro g;have:=Nat.eq_of_mul_eq_mul_right hp (show ry*T=c*T by omega);omega
  ·have hlt:ry<c→ry*T+rx<c*T:=by
    intro g
    have:=Nat.mul_le_mul_right T (show ry+1≤c by omega)
    rw[Nat.add_mul,Nat.one_mul] at this
    omega
   have hge:c≤ry→c*T<ry*T+rx:=by
    intro g
    have:=Nat.mul_le_mul_right T g
    omega
   by_cases g:ry<c
   ·have a2:=hlt g
    have a3:rm<c:=by omega
    clear hlt hge
    refine⟨⟨fun g2=>?_,fun g2=>?_⟩,⟨fun g2=>?_,fun g2=>?_⟩⟩
    ·omega
    ·omega
    ·omega
    ·omega
   ·have a2:=hge (by omega)
    have a3:c<rm:=by omega
    clear hlt hge
    refine⟨⟨fun g2=>?_,fun g2=>?_⟩,⟨fun g2=>?_,fun g2=>?_⟩⟩
    ·omega
    ·omega
    ·omega
    ·omega
 have k1:=key _ rfl
 unfold rnd
 have hrup:Ie.rup m (h+2) way=Ie.rup x (D+(h+2)) way:=by
  unfold Ie.rup
  rw[hq]
  simp only[k1.1,k1.2,ne_eq,i0]
 rw[hrup,hq]
theorem tz_iff {x n:Nat} (h0:x≠0):tz x<n↔x % 2^n≠0:=by
 obtain⟨h1,h2⟩:=tz_spec x x (Nat.le_refl _) h0
 constructor
 ·intro hlt he
  have hd:2^(tz x+1) ∣ x:=Nat.dvd_trans (Nat.pow_dvd_pow 2 (by omega)) (Nat.dvd_of_mod_eq_zero he)
  obtain⟨c,hc⟩:=hd
  have h3:x / 2^tz x=2*c:=by
   rw[Nat.pow_succ,Nat.mul_assoc] at hc
   exact Nat.div_eq_of_eq_mul_right (Nat.two_pow_pos _) hc
  omega
 ·intro hne
  apply Decidable.byContradiction
  intro hge
  apply hne
  have:2^n ∣ x:=by rw[←h1];exact Nat.dvd_trans (Nat.pow_dvd_pow 2 (by omega)) (Nat.dvd_mul_right _ _)
  exact Nat.mod_eq_zero_of_dvd this
theorem raw_of {x:Nat} {e:Int} {X m j k k1:Nat} {s P:Int} {e':Int} (hs:s=e' - (nz m:Int)) (hP:P=pl m e') (hk1:(k1:Int)=P - s) (hj:(j:Int)=P+1074) (hr:∀ way,rnd (tp m) k1 way=rnd X k way) (way:Int):raw m e' way=((j*4503599627370496+rnd X k way:Nat):Int):=by
 unfold raw
 rw[←hP,←hs,show(P - s).toNat=k1 by omega,hr]
 omega
theorem raw_is {x:Nat} {e:Int} (h0:x≠0):∃ j X k,IsR x e j X k∧(∀ way,raw (tfM true x) (e+(tfD x:Int)) way=((j*4503599627370496+rnd X k way:Nat):Int))∧(k:Int)≤j+1074+(if e<0 then -e else 0)+64 ∧ -64+min e (-1074)≤(j:Int) - 1074 - k:=by
 by_cases hD:bl x≤64
 ·have eD:tfD x=0:=by unfold tfD;omega
  have eM:tfM true x=x:=by unfold tfM;rw[eD];simp
  rw[eM,eD]
  have hx64:x<18446744073709551616:=(bl_le x 64).1 hD
  obtain⟨n1,n2,n3⟩:=nz_facts x hx64 h0
  obtain⟨P,hP⟩:∃ P,P=pl x (e+((0:Nat):Int)):=⟨_,rfl⟩
  have hPl:=hP
  unfold pl at hPl
  have hPc:(P = -1074∧e - nz x+11 < -1074)∨(P=e - nz x+11 ∧ -1074≤P):=by
   split at hPl
   ·exact .inl ⟨hPl,by omega⟩
   ·exact .inr ⟨by omega,by omega⟩
  refine⟨(P+1074).toNat,tp x,(P - (e - nz x)).toNat,⟨?_,?_,?_⟩,fun way=>raw_of (x:=x) (e:=e) (m:=x) (s:=e - nz x) (P:=P) (k1:=(P - (e - nz x)).toNat) (by omega) hP (by omega) (by omega) (fun _=>rfl) way,?_,?_⟩
  ·intro K hK1 hK2
   unfold tp
   rw[Nat.mul_assoc,←Nat.pow_add]
   congr 2
   omega
  ·have:2^11≤2^(P - (e - nz x)).toNat:=Nat.pow_le_pow_right (by omega) (by omega)
   refine Nat.div_lt_of_lt_mul ?_
   have:2^11*9007199254740992≤2^(P - (e - nz x)).toNat*9007199254740992:=Nat.mul_le_mul_right _ this
   omega
  ·rcases hPc with h|h
   ·exact .inl (by omega)
   ·refine .inr ?_
    rw[show(P - (e - nz x)).toNat=11 by omega]
    omega
  ·split <;> omega
  ·omega
 ·have eD:bl x=tfD x+64:=by unfold tfD;omega
  obtain⟨D,hDD⟩:∃ D,D=tfD x:=⟨_,rfl⟩
  rw[←hDD] at eD ⊢
  have hx1:x<2^(D+64):=by rw[←eD];exact lt_bl x
  have hx2:2^(D+63)≤x:=by have:=le_bl h0;rw[eD] at this;exact this
  have hp:0<2^D:=Nat.two_pow_pos D
  obtain⟨y,hy⟩:∃ y,y=x / 2^D:=⟨_,rfl⟩
  have hy1:y<18446744073709551616:=by rw[hy];refine Nat.div_lt_of_lt_mul ?_;rw[Nat.pow_add] at hx1;exact hx1
  have hy2:9223372036854775808≤y:=by rw[hy,Nat.le_div_iff_mul_le hp,Nat.mul_comm];rw[Nat.pow_add] at hx2;exact hx2
  have hm:(x % 2^D=0∧tfM true x=y)∨(x % 2^D≠0∧tfM true x=2*(y / 2)+1):=by
   unfold tfM
   rw[←hDD,←hy]
   by_cases hz:tz x<D
   ·exact .inr ⟨(tz_iff h0).1 hz,by rw[decide_eq_true hz];exact or_one_eq y⟩
   ·refine .inl ⟨?_,by rw[decide_eq_false hz];rfl⟩
    apply Decidable.byContradiction
    intro h
    exact hz ((tz_iff h0).2 h)
  obtain⟨m,hmm⟩:∃ m,m=tfM true x:=⟨_,rfl⟩
  rw[←hmm] at hm ⊢
  have hm1:m<18446744073709551616:=by rcases hm with h|h <;> omega
  have hm2:9223372036854775808≤m:=by rcases hm with h|h <;> omega
  have hbm:bl m=64:=bl_eq (n:=64) hm1 (.inr hm2)
  have hnz:nz m=0:=by unfold nz;rw[←bl_bitLen,hbm]
  have htp:tp m=m:=by unfold tp;rw[hnz];simp
  obtain⟨P,hP⟩:∃ P,P=pl m (e+(D:Int)):=⟨_,rfl⟩
  have hPl:=hP
  unfold pl at hPl
  rw[hnz] at hPl
  have hPc:(P = -1074∧e+D+11 < -1074)∨(P=e+D+11 ∧ -1074≤P):=by
   split at hPl
   ·exact .inl ⟨hPl,by omega⟩
   ·exact .inr ⟨by omega,by omega⟩
  have hq:∀ k1,11≤k1→x / 2^(D+k1)=y / 2^k1:=fun k1 _=>by rw[Nat.pow_add,←Nat.div_div_eq_div_mul,hy]
  refine⟨(P+1074).toNat,x,D+(P - (e+D)).toNat,⟨?_,?_,?_⟩,fun way=>raw_of (x:=x) (e:=e) (m:=m) (s:=e+D) (P:=P) (k1:=(P - (e+D)).toNat) (by rw[hnz];omega) hP (by omega) (by omega) (fun way=>by rw[htp];exact rnd_sticky (by omega) hy hm) way,?_,?_⟩
  ·intro K hK1 hK2
   congr 2
   omega
  ·rw[hq _ (by omega)]
   have:2^11≤2^(P - (e+D)).toNat:=Nat.pow_le_pow_right (by omega) (by omega)
   refine Nat.div_lt_of_lt_mul ?_
   have:2^11*9007199254740992≤2^(P - (e+D)).toNat*9007199254740992:=Nat.mul_le_mul_right _ this
   omega
  ·rcases hPc with h|h
   ·exact .inl (by omega)
   ·refine .inr ?_
    rw[hq _ (by omega),show(P - (e+D)).toNat=11 by omega]
    omega
  ·split <;> omega
  ·omega
end Go.Proofs.YtfkaogdmlcdceaaGreatDoor
/- A float is made anew of its odd part and its exponent, whatever the way of rounding. -/
namespace Go.Proofs.YtfkaogdmlcdceaaGreatDoor.Ie
open Go.RowKit Go.Fl64
end Go.Proofs.YtfkaogdmlcdceaaGreatDoor.Ie
namespace Go.Proofs.YtfkaogdmlcdceaaGreatDoor
open Go.RowKit Go.Fl64
def nM (a:Nat):Nat:=(Ie.sM a).toNat
theorem val_mant (a:Nat) (hf:mag a<9218868437227405312):val (mag a)=Ie.mant a*2^(Ie.lp a+1074).toNat ∧ -1074≤Ie.lp a∧Ie.lp a≤972:=by
 unfold val Ie.mant Ie.lp
 by_cases h:mag a<4503599627370496
 ·rw[if_pos h,if_pos h]
  have:(-1075+max 1 ((mag a / 4503599627370496:Nat):Int)+1074).toNat=0:=by omega
  rw[this,Nat.pow_zero,Nat.mul_one]
  exact⟨rfl,by omega,by omega⟩
 ·rw[if_neg h,if_neg h]
  have:(-1075+max 1 ((mag a / 4503599627370496:Nat):Int)+1074).toNat=mag a / 4503599627370496 - 1:=by omega
  rw[this]
  exact⟨rfl,by omega,by omega⟩
theorem num_zero {a:Nat} (h0:mag a=0):nM a=0∧Ie.sE a=0:=by
 constructor
 ·unfold nM Ie.sM
  rw[if_neg (by omega),if_pos h0]
  rfl
 ·unfold Ie.sE
  rw[if_neg (by omega),if_pos h0]
theorem num_parts {a:Nat} (hf:mag a<9218868437227405312) (h0:mag a≠0) :
  nM a % 2=1∧nM a<9007199254740992 ∧ -1074≤Ie.sE a∧Ie.sE a≤1100∧nM a*2^(Ie.sE a+1074).toNat=val (mag a):=by
 obtain⟨v1,v2,v3⟩:=val_mant a hf
 have hb:=Ie.mant_bound a
 have hne:=Ie.mant_ne h0
 have hct:Lib.ctz 64 (Ie.mant a)=tz (Ie.mant a):=tz_ctz hne (by omega)
 obtain⟨h1,h2⟩:=tz_spec _ (Ie.mant a) (Nat.le_refl _) hne
 have e1:nM a=Ie.mant a / 2^tz (Ie.mant a):=by
  unfold nM Ie.sM
  rw[if_neg (by omega),if_neg h0,hct]
  have:(Ie.mant a:Int) / 2^tz (Ie.mant a)=((Ie.mant a / 2^tz (Ie.mant a):Nat):Int):=by simp
  rw[this,Int.toNat_natCast]
 have e2:Ie.sE a=Ie.lp a+(tz (Ie.mant a):Int):=by
  unfold Ie.sE
  rw[if_neg (by omega),if_neg h0,hct]
 rw[v1]
 generalize Ie.mant a=M at *
 generalize tz M=t at *
 generalize Ie.lp a=p at *
 have hq:M / 2^t≤M:=Nat.div_le_self ..
 have ht:t≤53:=by
  apply Nat.le_of_not_lt
  intro h
  have h3:1≤M / 2^t:=Nat.pos_of_ne_zero fun e0=>by rw[e0] at h2;simp at h2
  have h4:=Nat.mul_le_mul_left (2^t) h3
  have h5:2^53≤2^t:=Nat.pow_le_pow_right (by omega) (by omega)
  have h6:(2:Nat)^53=9007199254740992:=by decide
  omega
 refine⟨by rw[e1];exact h2,by rw[e1];omega,by omega,by omega,?_⟩
 rw[e1,e2,show(p+(t:Int)+1074).toNat=t+(p+1074).toNat by omega,Nat.pow_add,←Nat.mul_assoc,Nat.mul_comm (M / 2^t),h1]
end Go.Proofs.YtfkaogdmlcdceaaGreatDoor
namespace Go.Proofs.YtfkaogdmlcdceaaGreatDoor
open Go.RowKit Go.Fl64
open Ie
theorem rnd0 (X k:Nat):rnd X k ((0:Nat):Int)=X / 2^k:=by
 have h1:¬ (((0:Nat):Int)=1):=by decide
 have h2:¬ (((0:Nat):Int)=2):=by decide
 simp only[rnd,Ie.rup,if_neg h1,if_neg h2,Bool.false_eq_true,if_false]
theorem rnd2 (X k:Nat):rnd X k ((2:Nat):Int)=if X % 2^k=0 then X / 2^k else X / 2^k+1:=by
 have h1:¬ (((2:Nat):Int)=1):=by decide
 have h2:((2:Nat):Int)=2:=by decide
 simp only[rnd,Ie.rup,if_neg h1,if_pos h2]
 by_cases h:X % 2^k=0
 ·rw[if_pos h,decide_eq_false (by simpa using h)];rfl
 ·rw[if_neg h,decide_eq_true h];rfl
theorem rnd1 (X k:Nat):rnd X k ((1:Nat):Int)=if 2*(X % 2^k)<2^k then X / 2^k else if 2*(X % 2^k)=2^k then X / 2^k+X / 2^k % 2 else X / 2^k+1:=by
 have h0:((1:Nat):Int)=1:=by decide
 simp only[rnd,Ie.rup,if_pos h0]
 by_cases h1:2*(X % 2^k)<2^k
 ·rw[if_pos h1,decide_eq_false (show ¬ 2^k<2*(X % 2^k) by omega),decide_eq_false (show ¬ 2*(X % 2^k)=2^k by omega)];rfl
 ·rw[if_neg h1]
  by_cases h2:2*(X % 2^k)=2^k
  ·rw[if_pos h2,decide_eq_false (show ¬ 2^k<2*(X % 2^k) by omega),decide_eq_true h2]
   by_cases h3:X / 2^k % 2=1
   ·rw[decide_eq_true h3,h3];rfl
   ·rw[decide_eq_false h3,show X / 2^k % 2=0 by omega];rfl
  ·rw[if_neg h2,decide_eq_true (show 2^k<2*(X % 2^k) by omega)];rfl
def rwb (x:Nat) (e:Int) (way:Nat):Nat:=(raw (tfM true x) (e+(tfD x:Int)) (way:Int)).toNat
theorem rwb_rounds {x:Nat} {e:Int} (h0:x≠0) {K:Nat} (hK:1200≤K) (hK2:64 - e≤K) {way:Nat}:Rounds (x*2^(e+K).toNat) (2^(K - 1074)) (rwb x e way) way:=by
 obtain⟨j,X,k,hR,hr,-,hl⟩:=raw_is (e:=e) h0
 have L:=hR.lies (K:=K) (by omega) (by omega) (by omega)
 refine⟨⟨j*4503599627370496+X / 2^k,⟨L.lo,L.hi⟩,?_,?_,?_⟩⟩
 ·intro h;subst h
  unfold rwb
  rw[hr,Int.toNat_natCast,rnd0]
 ·intro h;subst h
  unfold rwb
  rw[hr,Int.toNat_natCast,rnd2]
  by_cases hx:X % 2^k=0
  ·rw[if_pos hx,if_pos (L.ex.1 hx)]
  ·rw[if_neg hx,if_neg (fun h=>hx (L.ex.2 h)),Nat.add_assoc]
 ·intro h;subst h
  unfold rwb
  rw[hr,Int.toNat_natCast,rnd1]
  have hpar:(j*4503599627370496+X / 2^k) % 2=X / 2^k % 2:=by omega
  by_cases h1:2*(X % 2^k)<2^k
  ·rw[if_pos h1,if_pos (L.half_lt.1 h1)]
  ·rw[if_neg h1,if_neg (fun h=>h1 (L.half_lt.2 h))]
   by_cases h2:2*(X % 2^k)=2^k
   ·rw[if_pos h2,if_pos (L.half_eq.1 h2),hpar,Nat.add_assoc]
   ·rw[if_neg h2,if_neg (fun h=>h2 (L.half_eq.2 h)),Nat.add_assoc]
def bdy (x:Nat) (e:Int) (way:Nat):Nat:=if x=0 then 0 else if rwb x e way<9218868437227405312 then rwb x e way else if way=0 then 9218868437227405311 else 9218868437227405312
theorem raw_nn {x:Nat} {e:Int} (h0:x≠0) (way:Nat):raw (tfM true x) (e+(tfD x:Int)) (way:Int)=(rwb x e way:Int):=by
 obtain⟨j,X,k,-,hr,-,-⟩:=raw_is (e:=e) h0
 unfold rwb
 rw[hr];rfl
theorem bod_eq {x:Nat} {e:Int} (h0:x≠0) (way:Nat):(bod (tfM true x) (e+(tfD x:Int)) (way:Int)).toNat=bdy x e way:=by
 unfold bod bdy
 rw[if_neg h0,raw_nn h0]
 by_cases h1:rwb x e way<9218868437227405312
 ·rw[if_pos (by omega),if_pos h1];rfl
 ·rw[if_neg (by omega),if_neg h1]
  by_cases h2:way=0
  ·subst h2;rfl
  ·rw[if_neg h2]
   have:((way:Int)==0)=false:=by simp;omega
   rw[this];rfl
end Go.Proofs.YtfkaogdmlcdceaaGreatDoor
namespace Go.Proofs.YtfkaogdmlcdceaaGreatDoor
open Go.RowKit Go.Fl64
theorem cmpI_mul {a b:Int} {c:Nat} (hc:0<c):cmpI (a*(c:Int)) (b*(c:Int))=cmpI a b:=by
 have hc':(0:Int)<(c:Int):=by omega
 unfold cmpI
 have h1:(a*(c:Int)<b*(c:Int))↔a<b:=⟨fun h=>Int.lt_of_mul_lt_mul_right h (Int.le_of_lt hc'),fun h=>Int.mul_lt_mul_of_pos_right h hc'⟩
 have h2:(b*(c:Int)<a*(c:Int))↔b<a:=⟨fun h=>Int.lt_of_mul_lt_mul_right h (Int.le_of_lt hc'),fun h=>Int.mul_lt_mul_of_pos_right h hc'⟩
 simp only[h1,h2]
theorem cmpI_neg (a b:Int):cmpI (-a) (-b) = - cmpI a b:=by
 unfold cmpI
 by_cases h1:a<b
 ·rw[if_neg (by omega),if_pos (by omega),if_pos h1];rfl
 ·by_cases h2:b<a
  ·rw[if_pos (by omega),if_neg h1,if_pos h2]
  ·rw[if_neg (by omega),if_neg (by omega),if_neg h1,if_neg h2];rfl
theorem sgI_eq (s:Bool) (x:Nat):sgI s (dlen x)=if x=0 then 0 else if s then -1 else 1:=by
 unfold sgI
 by_cases h:x=0
 ·subst h;simp[dlen_zero]
 ·rw[if_neg (fun e=>h (dlen_eq_zero.1 e)),if_neg h]
theorem ordN_vz {K:Nat} {na nb:Bool} {x y:Nat} {ea eb:Int} (h1:0≤ea+K) (h2:0≤eb+K):ordN na x ea nb y eb=cmpI (vz K na x ea) (vz K nb y eb):=by
 have hm:0≤min ea eb+(K:Int):=by omega
 have e1:vz K na x ea=vz K na (x*2^(ea - min ea eb).toNat) (min ea eb):=by
  rw[vz_shift hm,show min ea eb+((ea - min ea eb).toNat:Int)=ea by omega]
 have e2:vz K nb y eb=vz K nb (y*2^(eb - min ea eb).toNat) (min ea eb):=by
  rw[vz_shift hm,show min ea eb+((eb - min ea eb).toNat:Int)=eb by omega]
 have hx:x=0↔x*2^(ea - min ea eb).toNat=0:=by
  constructor
  ·rintro rfl;rw[Nat.zero_mul]
  ·intro h;rcases Nat.mul_eq_zero.1 h with h|h
   ·exact h
   ·have:=Nat.two_pow_pos (ea - min ea eb).toNat;omega
 have hy:y=0↔y*2^(eb - min ea eb).toNat=0:=by
  constructor
  ·rintro rfl;rw[Nat.zero_mul]
  ·intro h;rcases Nat.mul_eq_zero.1 h with h|h
   ·exact h
   ·have:=Nat.two_pow_pos (eb - min ea eb).toNat;omega
 rw[e1,e2]
 unfold ordN vz
 rw[cmpI_mul (Nat.two_pow_pos _),sgI_eq,sgI_eq]
 generalize x*2^(ea - min ea eb).toNat=X at *
 generalize y*2^(eb - min ea eb).toNat=Y at *
 by_cases x0:x=0
 ·have X0:=hx.1 x0
  rw[if_pos x0,X0]
  by_cases y0:y=0
  ·rw[if_pos y0,if_pos rfl,hy.1 y0,sv_zero,sv_zero]
   simp[cmpI]
  ·have Y0:Y≠0:=fun h=>y0 (hy.2 h)
   rw[if_neg y0,sv_zero]
   cases nb
   ·simp[sv,cmpI];omega
   ·simp[sv,cmpI];omega
 ·have X0:X≠0:=fun h=>x0 (hx.2 h)
  rw[if_neg x0]
  by_cases y0:y=0
  ·rw[if_pos y0,hy.1 y0,sv_zero]
   cases na
   ·simp[sv,cmpI];omega
   ·simp[sv,cmpI];omega
  ·have Y0:Y≠0:=fun h=>y0 (hy.2 h)
   rw[if_neg y0]
   cases na <;> cases nb
   ·simp[sv]
   ·simp[sv,cmpI];omega
   ·simp[sv,cmpI];omega
   ·simp only[if_true,sv]
    rw[cmpI_neg];omega
theorem cmp_gt {a b:Int} (h:b<a):0<cmpI a b:=by
 rcases cmpI_cases a b with ⟨h1,h2⟩|⟨h1,h2⟩|⟨h1,h2⟩ <;> omega
end Go.Proofs.YtfkaogdmlcdceaaGreatDoor
namespace Go.Proofs.YtfkaogdmlcdceaaGreatDoor
open Go.RowKit Go.Fl64
open Ie
def VA (K x:Nat) (e:Int):Nat:=x*2^(e+(K:Int)).toNat
def UU (K:Nat):Nat:=2^(K - 1074)
theorem UU_pos (K:Nat):0<UU K:=Nat.two_pow_pos _
theorem VA_rounds {K:Nat} (hK:70000≤K) {x:Nat} {e:Int} (h0:x≠0) (he : -65536≤e) {way:Nat}:Rounds (VA K x e) (UU K) (rwb x e way) way:=rwb_rounds h0 (by omega) (by omega)
theorem bv_zero:bv 0=0:=rfl
theorem bdy_le (x:Nat) (e:Int) (way:Nat):bdy x e way≤9218868437227405312:=by
 unfold bdy
 split
 ·omega
 ·split
  ·omega
  ·split <;> omega
def wyN (s:Bool) (m:Int):Nat:=if m=2 then 1 else if(s==(m==1))then 2 else 0
theorem wyN_eq (s:Bool) (m:Int):((wyN s m:Nat):Int)=wy s m:=by
 unfold wyN wy
 split
 ·rfl
 ·split <;> rfl
theorem wyN_ways (s:Bool) (m:Int):wyN s m=0∨wyN s m=1∨wyN s m=2:=by
 unfold wyN
 split
 ·exact .inr (.inl rfl)
 ·split
  ·exact .inr (.inr rfl)
  ·exact .inl rfl
theorem tfM_zero:tfM true 0=0:=by unfold tfM;rw[show tfD 0=0 from rfl];simp
theorem tfM_ne {x:Nat} (h0:x≠0):tfM true x≠0:=by
 unfold tfM
 split
 ·have h1:=le_bl h0
  have hp:2^tfD x≤x:=Nat.le_trans (Nat.pow_le_pow_right (by omega) (by unfold tfD;omega)) h1
  have:=(Nat.le_div_iff_mul_le (Nat.two_pow_pos (tfD x))).2 (show 1*2^tfD x≤x by omega)
  omega
 ·rw[or_one_eq];omega
theorem tf_bdy {s:Bool} {x:Nat} {e m:Int} (hm:1≤m∧m≤3):tfF s true x e m=sig s (bdy x e (wyN s m)):=by
 unfold tfF mk
 rw[if_pos (by omega)]
 congr 1
 by_cases h0:x=0
 ·subst h0
  rw[tfM_zero,if_pos rfl]
  unfold bdy;rw[if_pos rfl]
 ·rw[if_neg (tfM_ne h0),←wyN_eq,bod_eq h0]
theorem rnd_rounds {x:Nat} {e:Int} {j X k:Nat} (hR:IsR x e j X k) {K:Nat} (hK:1074≤K) (h1:0≤e+K) (h2:0≤(j:Int) - 1074 - k+K) (way:Nat):Rounds (x*2^(e+K).toNat) (2^(K - 1074)) (j*4503599627370496+rnd X k (way:Int)) way:=by
 have L:=hR.lies hK h1 h2
 refine⟨⟨j*4503599627370496+X / 2^k,⟨L.lo,L.hi⟩,?_,?_,?_⟩⟩
 ·intro h;subst h
  rw[rnd0]
 ·intro h;subst h
  rw[rnd2]
  by_cases hx:X % 2^k=0
  ·rw[if_pos hx,if_pos (L.ex.1 hx)]
  ·rw[if_neg hx,if_neg (fun h=>hx (L.ex.2 h)),Nat.add_assoc]
 ·intro h;subst h
  rw[rnd1]
  have hpar:(j*4503599627370496+X / 2^k) % 2=X / 2^k % 2:=by omega
  by_cases h1:2*(X % 2^k)<2^k
  ·rw[if_pos h1,if_pos (L.half_lt.1 h1)]
  ·rw[if_neg h1,if_neg (fun h=>h1 (L.half_lt.2 h))]
   by_cases h2:2*(X % 2^k)=2^k
   ·rw[if_pos h2,if_pos (L.half_eq.1 h2),hpar,Nat.add_assoc]
   ·rw[if_neg h2,if_neg (fun h=>h2 (L.half_eq.2 h)),Nat.add_assoc]
theorem IsR.rwb {x:Nat} {e:Int} {j X k:Nat} (hR:IsR x e j X k) (h0:x≠0) {way:Nat} (hw:way=0∨way=1∨way=2):rwb x e way=j*4503599627370496+rnd X k (way:Int):=by
 obtain⟨K,hK⟩:∃ K:Nat,K=1200+(64 - e).toNat+(1074+k):=⟨_,rfl⟩
 have a:=rwb_rounds (e:=e) h0 (K:=K) (by omega) (by omega) (way:=way)
 have b:=rnd_rounds hR (K:=K) (by omega) (by omega) (by omega) way
 have h1:=Rounds.mono hw a b (Nat.le_refl _)
 have h2:=Rounds.mono hw b a (Nat.le_refl _)
 omega
theorem rwb_big {x:Nat} {e:Int} (h0:x≠0) (ht:1024<(bl x:Int)+e) {way:Nat} (hw:way=0∨way=1∨way=2):9218868437227405312≤rwb x e way:=by
 obtain⟨K,hK⟩:∃ K:Nat,K=1200+(64 - e).toNat:=⟨_,rfl⟩
 have a:=rwb_rounds (e:=e) h0 (K:=K) (by omega) (by omega) (way:=way)
 obtain⟨b0,⟨l,g⟩,w0,w2,w1⟩:=a.fl
 have hv:bv 9218868437227405312*2^(K - 1074)≤x*2^(e+K).toNat:=by
  obtain⟨j,hj⟩:∃ j:Nat,j=2046:=⟨_,rfl⟩
  have e1:bv 9218868437227405312=4503599627370496*2^j:=by
   have:=bv_at (j:=j) (q:=4503599627370496) (.inr ⟨by omega,by omega⟩)
   rw[show j*4503599627370496+4503599627370496=9218868437227405312 by omega] at this
   exact this
  have e2:(4503599627370496:Nat)=2^52:=by rfl
  rw[e1,e2,←Nat.pow_add,←Nat.pow_add]
  have h1:=le_bl h0
  have hb:bl x≠0:=by unfold bl;rw[if_neg h0];omega
  refine Nat.le_trans (Nat.pow_le_pow_right (by omega) (show 52+j+(K - 1074)≤bl x - 1+(e+K).toNat by omega)) ?_
  rw[Nat.pow_add]
  exact Nat.mul_le_mul_right _ h1
 have hb:=floor_mono (Nat.le_refl (x*2^(e+K).toNat)) hv g
 rcases hw with hw|hw|hw
 ·rw[w0 hw];exact hb
 ·rw[w1 hw]
  split
  ·exact hb
  ·split <;> omega
 ·rw[w2 hw];split <;> omega
theorem isR_up {x:Nat} {E e':Int} (h1:e'≤E) (hj : -1074≤e') (hlt:x*2^(E - e').toNat<9007199254740992) (hge:e' = -1074∨4503599627370496≤x*2^(E - e').toNat):IsR x E (e'+1074).toNat (x*2^(E - e').toNat) 0:=by
 refine⟨fun K a b=>?_,by rw[Nat.pow_zero,Nat.div_one];exact hlt,?_⟩
 ·rw[Nat.mul_assoc,←Nat.pow_add,show(E - e').toNat+(((e'+1074).toNat:Int) - 1074 - ((0:Nat):Int)+K).toNat=(E+K).toNat by omega]
 ·rw[Nat.pow_zero,Nat.div_one]
  rcases hge with h|h
  ·exact .inl (by omega)
  ·exact .inr h
theorem isR_down {x:Nat} {E e':Int} (h1:E≤e') (hj : -1074≤e') (hlt:x / 2^(e' - E).toNat<9007199254740992) (hge:e' = -1074∨4503599627370496≤x / 2^(e' - E).toNat):IsR x E (e'+1074).toNat x (e' - E).toNat:=by
 refine⟨fun K a b=>?_,hlt,?_⟩
 ·rw[show(((e'+1074).toNat:Int) - 1074 - ((e' - E).toNat:Int)+K).toNat=(E+K).toNat by omega]
 ·rcases hge with h|h
  ·exact .inl (by omega)
  ·exact .inr h
end Go.Proofs.YtfkaogdmlcdceaaGreatDoor
