/- Own work: contracts of the program's functions, part 10: RW2 RW3 RW4 RW5 RW6 RW7 RW8 RW9 RX1 W49 RX2 RX3 W50 L16 L10 L17 L14 W51 W52 FM FM2 F1 F6 F7 FM3 L6 L8 FM4 FM5 RT0 RT1 RT3 RT7 RY1 RY2 RY3 RY4 FM6 FM7 FM8 RY5 SA7 SA8 SA9 UA1 UA2 UA3 UA4 UA5 UA6 UA7. -/
import Derived.Test.YtkcmhaknalomjaaGreatDoorA8
import Derived.Test.YtkcmhaknalomjaaGreatDoorA9
import Derived.Test.YtkcmhaknalomjaaGreatDoorA3
import Derived.Test.YtkcmhaknalomjaaGreatDoorA4
import Derived.Test.YtkcmhaknalomjaaGreatDoorA7
import Derived.Test.YtkcmhaknalomjaaGreatDoorA6
import Derived.Test.YtkcmhaknalomjaaGreatDoorA1
import Derived.Deep.CutBlock
import Derived.RangeFuncNested
import Derived.RangeFuncBound
import Derived.RangeFuncCalls
import Derived.RangeFuncLeaves
import Derived.Test.YtkcmhaknalomjaaGreatDoorA2
import Derived.Shelf.Abstract
import Derived.Shelf.RegionOpen
import Derived.WalkKit
import Derived.OwnWalkIn
import Derived.TacticsInMore
import Derived.LoopNIn
import Derived.LoopIn

set_option maxHeartbeats 16000000
set_option maxRecDepth 200000
set_option linter.unusedVariables false
set_option linter.unusedSimpArgs false
namespace Go.Proofs.YtkcmhaknalomjaaGreatDoor
open Go.RowKit
theorem qC4 (na nb:Bool) (ua va:Option Addr) (un uc vn vc:Nat) (ea eb:Int) (nc:Bool) (xa:Option Addr) (xn xc:Nat) (ec:Int) (s:Bool) (z:Nat) (e:Int) (w:World) (kM:∀ W,Calls Tryz.prog 120 #[.agg #[.bool nb,.slice va vn vc,.int .i64 eb]] W fun r w'=>r=.returned (.agg #[.bool nc,.slice xa xn xc,.int .i64 ec])∧Bw W w')
  (kA:∀ W,Bw w W→Calls Tryz.prog 94 #[.agg #[.bool na,.slice ua un uc,.int .i64 ea],.agg #[.bool nc,.slice xa xn xc,.int .i64 ec]] W fun r w'=>∃ a,r=.returned a∧NC w' W.heap.size a s z e∧Bw W w') :
  Calls Tryz.prog 56 #[.agg #[.bool na,.slice ua un uc,.int .i64 ea],.agg #[.bool nb,.slice va vn vc,.int .i64 eb]] w fun r w'=>∃ a,r=.returned a∧NC w' w.heap.size a s z e∧Bw w w':=by
 have HKM:Hid _:=kM;have HKA:Hid _:=kA;clear kM kA;obtain⟨W,hW⟩:∃ W,W=((w.alloc (.cells #[.bool na,.slice ua un uc,.int .i64 ea] 69)).alloc (.cells #[.bool nb,.slice va vn vc,.int .i64 eb] 69)).alloc (.cells #[.bool false,.slice none 0 0,.int .i64 0] 69):=⟨_,rfl⟩;obtain⟨hA,hBb,hC,hsz,hBW⟩:=qY9 _ _ _ hW;have HH:Hid ((W.heap[w.heap.size]?=some (.cells #[.bool na,.slice ua un uc,.int .i64 ea] 69 (0,0))∧W.heap[w.heap.size+1]?=some (.cells #[.bool nb,.slice va vn vc,.int .i64 eb] 69 (0,0))∧W.heap[w.heap.size+1+1]?=some (.cells #[.bool false,.slice none 0 0,.int .i64 0] 69 (0,0)))∧W.heap.size=w.heap.size+1+1+1∧Bw w W):=⟨⟨hA,hBb,hC⟩,hsz,hBW⟩;obtain⟨⟨a0,a1,a2⟩,-⟩:=qQ0 hA;obtain⟨⟨b0,b1,b2⟩,-⟩:=qQ0 hBb;clear hA hBb hC hsz hBW;have kM:∀ w4,Bw W w4→Calls Tryz.prog 120 #[.agg #[.bool nb,.slice va vn vc,.int .i64 eb]] w4 fun r w'=>r=.returned (.agg #[.bool nc,.slice xa xn xc,.int .i64 ec])∧Bw W w':=fun w4 hb=>(HKM.out w4).mono fun r w' ⟨e1,o2⟩=>⟨e1,hb.trans (o2.mono hb.size)⟩;have kA:∀ w5,Bw W w5→Calls Tryz.prog 94 #[.agg #[.bool na,.slice ua un uc,.int .i64 ea],.agg #[.bool nc,.slice xa xn xc,.int .i64 ec]] w5 fun r w'=>∃ s' ao n cap ex,r=.returned (.agg #[.bool s',.slice ao n cap,.int .i64 ex])∧Hid (NC w' W.heap.size (.agg #[.bool s',.slice ao n cap,.int .i64 ex]) s z e)∧Bw W w'∧Hid (w'.heap[w.heap.size+1+1]?=some (.cells #[.bool false,.slice none 0 0,.int .i64 0] 69 (0,0))) ∧
   (w'.cell? ⟨w.heap.size+1+1,0,none⟩=some (.bool false)∧w'.cell? ⟨w.heap.size+1+1,1,none⟩=some (.slice none 0 0)∧w'.cell? ⟨w.heap.size+1+1,2,none⟩=some (.int .i64 0))∧(w'.frozen? ⟨w.heap.size+1+1,0,none⟩=false∧w'.frozen? ⟨w.heap.size+1+1,1,none⟩=false∧w'.frozen? ⟨w.heap.size+1+1,2,none⟩=false):=by
  intro w5 hb;refine(HKA.out w5 (HH.out.2.2.trans (hb.mono HH.out.2.2.size))).mono ?_
  rintro r w6 ⟨A,rfl,hN,hb6⟩;obtain⟨s',ao,n,cap,ex,rfl⟩:=hN.shape;have hb16:Bw W w6:=hb.trans (hb6.mono hb.size);have hblk:=qQ HH.out.1.2.2 hb16 (by have:=HH.out.2.1;omega)
  obtain⟨f1,f2⟩:=qQ0 hblk;exact⟨s',ao,n,cap,ex,rfl,hN.mono hb.size,hb16,hblk,f1,f2⟩
 have HK:Hid (∀ w',Bw W w'→((w'.cell? ⟨w.heap.size,0,none⟩=some (.bool na)∧w'.cell? ⟨w.heap.size,1,none⟩=some (.slice ua un uc)∧w'.cell? ⟨w.heap.size,2,none⟩=some (.int .i64 ea))∧(w'.cell? ⟨w.heap.size+1,0,none⟩=some (.bool nb)∧w'.cell? ⟨w.heap.size+1,1,none⟩=some (.slice va vn vc)∧w'.cell? ⟨w.heap.size+1,2,none⟩=some (.int .i64 eb)))):=fun w' hb=>⟨(qQ0 (qQ HH.out.1.1 hb (by have:=HH.out.2.1;omega))).1,(qQ0 (qQ HH.out.1.2.1 hb (by have:=HH.out.2.1;omega))).1⟩
 have HK2:Hid (∀ w',Below (w.heap.size+1+1) W w'→((w'.cell? ⟨w.heap.size,0,none⟩=some (.bool na)∧w'.cell? ⟨w.heap.size,1,none⟩=some (.slice ua un uc)∧w'.cell? ⟨w.heap.size,2,none⟩=some (.int .i64 ea))∧(w'.cell? ⟨w.heap.size+1,0,none⟩=some (.bool nb)∧w'.cell? ⟨w.heap.size+1,1,none⟩=some (.slice va vn vc)∧w'.cell? ⟨w.heap.size+1,2,none⟩=some (.int .i64 eb)))):=fun w' hb=>⟨(qQ0 (qQ HH.out.1.1 hb (by omega))).1,(qQ0 (qQ HH.out.1.2.1 hb (by omega))).1⟩
 have HS2:Hid (w.heap.size+1+1≤W.heap.size):=(by have:=HH.out.2.1;omega:w.heap.size+1+1≤W.heap.size)
 have hBR:Bw W W.drew:=(xV9 _ _).drew
 go_enter Tryz.func56,Tryz.ntmps56
 go_upto_region 1 with fail;rw[←hW];clear hW
 go_region_held3 (fun w'=>((w'.cell? ⟨w.heap.size,0,none⟩=some (.bool na)∧w'.cell? ⟨w.heap.size,1,none⟩=some (.slice ua un uc)∧w'.cell? ⟨w.heap.size,2,none⟩=some (.int .i64 ea))∧(w'.cell? ⟨w.heap.size+1,0,none⟩=some (.bool nb)∧w'.cell? ⟨w.heap.size+1,1,none⟩=some (.slice va vn vc)∧w'.cell? ⟨w.heap.size+1,2,none⟩=some (.int .i64 eb)))) (first|(with_reducible assumption)|exact⟨⟨a0,a1,a2⟩,b0,b1,b2⟩|(refine HK.out _ ?_;with_reducible assumption)|(refine HK2.out _ (qQ2 (Below.mono hb6 HS2.out) (xV8 _) _ _ _))|go_keep)
  (first|(go_at_call 120;refine(kM _ (by first|(with_reducible assumption)|exact hBR)).mono ?_;rintro r w5 ⟨rfl,hb5⟩)|(go_at_call 94;refine(kA _ (by first|(with_reducible assumption)|exact hBR)).mono ?_;rintro r w6 ⟨s6,ao6,n6,cap6,ex6,rfl,hN6,hb6,hblk6,⟨x1,x2,x3⟩,x4,x5,x6⟩))
 all_goals (have HF:Hid (Bw W w6):=hb6;clear hb5 hb6 kM kA x1 x2 x3 x4 x5 x6 a0 a1 a2 b0 b1 b2 HK HK2 hBR;go_wp2;refine xG6 (xH9 rfl _ _ (w.heap.size+1+1) 69 #[.bool s6,.slice ao6 n6 cap6,.int .i64 ex6] (0,0) _ rfl (qZ2 _ _ _ hblk6.out) Tryz.underlying69 rfl Tryz.info69) rfl ?_;exact⟨_,rfl,(hN6.out.store (by have:=HH.out.2.1;omega) _ _ _).mono HH.out.2.2.size,qQ2 (HH.out.2.2.trans (HF.out.mono HH.out.2.2.size)) (by omega) _ _ _⟩)
theorem zW4 {s:Bool} {x:Nat} {e:Int} (h:x % 2=1):cn s x e=(s,x,e):=by
 unfold cn;rw[if_neg (by omega),qL1 h,xH4,Nat.div_one]
 simp
theorem rone (place:Int) (w:World) (hp1 : -4000000≤place) (hp2:place≤4000000) :
  Calls Tryz.prog 122 #[.int .i64 place] w fun r w'=>∃ g,r=.returned (.agg #[.bool false,.slice (some ⟨g,0,none⟩) 1 1,.int .i64 (-place)])∧w.heap.size≤g∧At w' (some ⟨g,0,none⟩) 1 1∧Bw w w':=by
 go_enter Tryz.func122,Tryz.ntmps122
 go_wp2;obtain⟨W,hW⟩:∃ W,W=(w.alloc (.cells #[.bool false,.slice (some ⟨w.heap.size+1,0,none⟩) 1 1,.int .i64 (-place)] 69)).alloc (.cells #[.int .u32 1] 125):=⟨_,rfl⟩;have hA:W.heap[w.heap.size]?=some (.cells #[.bool false,.slice (some ⟨w.heap.size+1,0,none⟩) 1 1,.int .i64 (-place)] 69 (0,0)):=by
  rw[hW,Below.heap_alloc _ _ _ (by simp)];exact xG5 _ _
 have hC:W.cell? ⟨w.heap.size+1,0,none⟩=some (.int .u32 1):=by
  have h:=qO8 (w.alloc (.cells #[.bool false,.slice (some ⟨w.heap.size+1,0,none⟩) 1 1,.int .i64 (-place)] 69)) (.int .u32 1);rw[←hW,Nat.add_zero] at h;have hs:(w.alloc (.cells #[.bool false,.slice (some ⟨w.heap.size+1,0,none⟩) 1 1,.int .i64 (-place)] 69)).heap.size=w.heap.size+1:=by simp
  rw[hs] at h;exact h
 have hBW:Bw w W:=by rw[hW];exact((xV9 _ _).alloc (xV8 _) _).alloc (by simp) _
 rw[←hW];refine xG6 (xH9 rfl _ _ w.heap.size 69 #[.bool false,.slice (some ⟨w.heap.size+1,0,none⟩) 1 1,.int .i64 (-place)] (0,0) _ rfl hA Tryz.underlying69 rfl Tryz.info69) rfl ?_;refine⟨w.heap.size+1,rfl,by omega,⟨w.heap.size+1,0,fun _=>rfl,fun i hi=>?_⟩,hBW⟩
 obtain rfl:i=0:=by omega
 rw[qE1,show 1 % B=1 by rfl]
 exact hC
theorem zD6 {ao va:Option Addr} {cap vc q:Nat} {place:Int} {w:World} (ho:Arg w ao (dlen (cn true q (-place)).2.1) cap (cn true q (-place)).2.1) (h1:At w va 1 1) (hvc:1≤vc) (hp1 : -1000000≤place) (hp2:place≤1000000) (hq:dlen q≤30000) :
  Calls Tryz.prog 56 #[.agg #[.bool (cn true q (-place)).1,.slice ao (dlen (cn true q (-place)).2.1) cap,.int .i64 (cn true q (-place)).2.2],.agg #[.bool false,.slice va 1 vc,.int .i64 (-place)]] w fun r w'=>∃ a,r=.returned a∧NC w' w.heap.size a true (q+1) (-place)∧Bw w w':=by
 have d1:dlen 1=1:=by rw[qK6 (by omega),show 1 / B=0 by rfl,qQ4]
 have hA1:Arg w va (dlen 1) vc 1:=⟨fun h=>by rw[d1] at h;omega,by rw[d1];exact h1,by rw[d1];exact hvc,by rw[d1];omega⟩
 refine qC4 _ false ao va _ cap 1 vc _ (-place) true va 1 vc (-place) true (q+1) (-place) w (fun W=>qC3 false va 1 vc (-place) W (by omega) rfl) (fun W hW=>?_)
 have htz:tz q≤32*30000:=by
  by_cases h0:q=0
  ·rw[h0];exact xU7 (Nat.le_of_eq (by rw[tz];rfl)) (xG2 _)
  ·have h2:=(qX9 q q (xV8 _) h0).1;have h3:2^tz q≤q:=by
    have h4:0<q / 2^tz q:=by
     rcases Nat.eq_zero_or_pos (q / 2^tz q)with h|h
     ·rw[h,Nat.mul_zero] at h2;omega
     ·exact h
    exact xU7 (Nat.le_mul_of_pos_right _ h4) (Nat.le_of_eq h2)
   have h5:=qD7 q;have h6:=qY8 q;have h7:tz q<bl q:=(Nat.pow_lt_pow_iff_right (by omega)).1 (xU6 h3 h5)
   omega
 have hcn:cn (cn true q (-place)).1 (cn true q (-place)).2.1 (cn true q (-place)).2.2=(cn true q (-place)):=by
  by_cases h0:q=0
  ·unfold cn;rw[if_pos h0,if_pos rfl]
  ·have h2:=(qX9 q q (xV8 _) h0).2;have:cn true q (-place)=(true,q / 2^tz q,-place+tz q):=by unfold cn;rw[if_neg h0]
   rw[this];exact zW4 h2
 have he : -2000000≤(cn true q (-place)).2.2∧(cn true q (-place)).2.2≤2000000:=by
  by_cases h0:q=0
  ·unfold cn;rw[if_pos h0];exact⟨by decide,by decide⟩
  ·unfold cn;rw[if_neg h0];exact⟨by simp only;omega,by simp only;omega⟩
 have hl:dlen (cn true q (-place)).2.1≤300000:=by
  by_cases h0:q=0
  ·unfold cn;rw[if_pos h0,qQ4];omega
  ·unfold cn;rw[if_neg h0];exact xU7 (qZ5 (xU8 _ _)) (by omega)
 have:=yV7 (na:=(cn true q (-place)).1) (nb:=true) (ea:=(cn true q (-place)).2.2) (eb := -place) (ho.later hW) (hA1.later hW) hcn (zW4 rfl) he.1 he.2 (by omega) (by omega) hl (by rw[d1];omega) (by unfold cn;by_cases h0:q=0 <;> simp[h0])
 have hs:sumN (cn true q (-place)).1 (cn true q (-place)).2.1 (cn true q (-place)).2.2 true 1 (-place)=(true,q+1,-place):=by
  by_cases h0:q=0
  ·subst h0;unfold cn;rw[if_pos rfl];unfold sumN;rw[if_pos rfl]
  ·have h2:=qX9 q q (xV8 _) h0;have e1:cn true q (-place)=(true,q / 2^tz q,-place+tz q):=by unfold cn;rw[if_neg h0]
   have h3:q / 2^tz q≠0:=by omega
   rw[e1];unfold sumN;simp only
   rw[if_neg h3,if_neg (by omega),if_pos trivial,show min (-place+(tz q:Int)) (-place) = -place by omega,show(-place+(tz q:Int) - -place).toNat=tz q by omega,show(-place - -place).toNat=0 by omega,xH4,xH8,xH1,h2.1]
 rw[hs,d1] at this;exact this
theorem zV4 {va:Option Addr} {vc q base:Nat} {place:Int} {w:World} {s6:Bool} {ao6:Option Addr} {n6 cap6:Nat} {ex6:Int} (h:NC w base (.agg #[.bool s6,.slice ao6 n6 cap6,.int .i64 ex6]) true q (-place)) (h1:At w va 1 1) (hvc:1≤vc) (hp1 : -1000000≤place) (hp2:place≤1000000) (hq:dlen q≤30000) :
  Calls Tryz.prog 56 #[.agg #[.bool s6,.slice ao6 n6 cap6,.int .i64 ex6],.agg #[.bool false,.slice va 1 vc,.int .i64 (-place)]] w fun r w'=>∃ a,r=.returned a∧NC w' w.heap.size a true (q+1) (-place)∧Bw w w':=by
 obtain⟨ao,cap,e,hA,-⟩:=h;rw[e];exact zD6 hA h1 hvc hp1 hp2 hq
theorem yB6 (na nb:Bool) (ua va:Option Addr) (uc vc x y k:Nat) (ea eb place:Int) (w:World) (sg ex:Bool) (NQ:Nat) (hNQ:Hid (NQ=if sg && !ex then(x*2^k) / (y)+1 else(x*2^k) / (y))) (hsg:(!(na==nb))=sg) (h1:At w ua (dlen x) x) (hu:dlen x≤uc) (h2:At w va (dlen y) y) (hv:dlen y≤vc) (hx0:x≠0) (hy0:y≠0) (hx:dlen x≤3000) (hy:dlen y≤3000)
  (he1 : -200000≤ea) (he2:ea≤200000) (he3 : -200000≤eb) (he4:eb≤200000) (hp1 : -200000≤place) (hp2:place≤200000) (hk:ea - eb+place=(k:Int)) (hk2:k≤600000) (hr:decide ((x*2^k) % (y)=0)=ex) :
  Calls Tryz.prog 158 #[.agg #[.bool na,.slice ua (dlen x) uc,.int .i64 ea],.agg #[.bool nb,.slice va (dlen y) vc,.int .i64 eb],.int .i64 place] w fun r w'=>∃ A,r=.returned (.tuple #[A,.bool ex])∧NC w' w.heap.size A sg NQ (-place)∧Bw w w':=by
 obtain⟨W,hW⟩:∃ W,W=((w.alloc (.cells #[.bool na,.slice ua (dlen x) uc,.int .i64 ea] 69)).alloc (.cells #[.bool nb,.slice va (dlen y) vc,.int .i64 eb] 69)).alloc (.cells #[.bool false,.slice none 0 0,.int .i64 0] 69):=⟨_,rfl⟩;obtain⟨hA,hBb,hC,hsz,hBW⟩:=qY9 _ _ _ hW;have HH:Hid ((W.heap[w.heap.size]?=some (.cells #[.bool na,.slice ua (dlen x) uc,.int .i64 ea] 69 (0,0))∧W.heap[w.heap.size+1]?=some (.cells #[.bool nb,.slice va (dlen y) vc,.int .i64 eb] 69 (0,0))∧W.heap[w.heap.size+1+1]?=some (.cells #[.bool false,.slice none 0 0,.int .i64 0] 69 (0,0)))∧W.heap.size=w.heap.size+1+1+1∧Bw w W):=⟨⟨hA,hBb,hC⟩,hsz,hBW⟩;obtain⟨⟨a0,a1,a2⟩,-⟩:=qQ0 hA;obtain⟨⟨b0,b1,b2⟩,-⟩:=qQ0 hBb;have HI:Hid (Ir w (.slice ua (dlen x) uc) x∧Ir w (.slice va (dlen y) vc) y):=⟨⟨ua,uc,rfl,hu,h1⟩,⟨va,vc,rfl,hv,h2⟩⟩;have HN:Hid ((x≠0∧y≠0∧dlen x≤3000∧dlen y≤3000∧k≤600000)∧decide ((x*2^k) % (y)=0)=ex):=⟨⟨hx0,hy0,hx,hy,hk2⟩,hr⟩;have hxz:((dlen x:Int)==0)=false:=qY2 (n:=0) hx0;clear hA hBb hC hsz hBW h1 h2 hr;generalize hdx:dlen x=lx at *;generalize hdy:dlen y=ly at *;rw[hW] at a0 a1 a2 b0 b1 b2
 go_enter Tryz.func158,Tryz.ntmps158
 go_wp2
 go_quiet (fail)
 rw[←hW];have HBW1:Hid (Below W.heap.size W (W.drewN nq)):=(⟨rfl,rfl,rfl,xV8 _,fun _ _=>rfl⟩:Below W.heap.size W (W.drewN nq));obtain⟨W1,hW1⟩:∃ W1,W1=W.drewN nq:=⟨_,rfl⟩;rw[←hW1] at HBW1 ⊢;clear hW hW1 a0 a1 a2 b0 b1 b2;have HIW:Hid (Ir W1 (.slice ua lx uc) x∧Ir W1 (.slice va ly vc) y):=⟨HI.out.1.later (HH.out.2.2.trans (HBW1.out.mono HH.out.2.2.size)),HI.out.2.later (HH.out.2.2.trans (HBW1.out.mono HH.out.2.2.size))⟩;have ku:=rup HIW.out.1 k (by have:=HN.out.1;omega) (by omega)
 go_wp2_with fail;refine ku.mono ?_;rintro r w4 ⟨vu,rfl,hIu,hb4⟩;have HB4:Hid (Bw W w4):=HBW1.out.trans (hb4.mono HBW1.out.size);have hl:dlen (x*2^k)≤25000:=by
  have:=qY4 (x:=x) (k:=k) rfl
  have:=HN.out.1
  omega
 have kd:=zD8 hIu (HIW.out.2.later hb4) (Nat.mul_ne_zero HN.out.1.1 (by have:=xU2 k;omega)) HN.out.1.2.1 (by omega) (by have:=HN.out.1;omega)
 have HO:Hid (Ir w4 vu (x*2^k)):=hIu;clear ku hIu hb4
 go_wp2_with fail;refine kd.mono ?_;rintro r w5 ⟨vq,vr,rfl,hIq,hIr,hb5⟩;have HB5:Hid (Bw W w5):=HB4.out.trans (hb5.mono HB4.out.size);obtain⟨⟨a0,a1,a2⟩,-⟩:=qQ0 (qQ HH.out.1.1 HB5.out (by have:=HH.out.2.1;omega))
 obtain⟨⟨b0,b1,b2⟩,-⟩:=qQ0 (qQ HH.out.1.2.1 HB5.out (by have:=HH.out.2.1;omega))
 obtain⟨rr,rcap,rfl,hrc,hrA⟩:=hIr;have hql:dlen ((x*2^k) / (y))≤30000:=xU7 (qZ5 (xU8 _ _)) (by omega)
 have kn:=zZ6 (neg:=sg) (e := -place) hIq (by omega) (by omega)
 have HQL:Hid (dlen ((x*2^k) / (y))≤30000):=hql;have hrl:((dlen ((x*2^k) % (y)):Int)==0)=ex:=by
  rw[←HN.out.2];by_cases hz:(x*2^k) % (y)=0
  ·rw[hz,qQ4];rfl
  ·rw[qY2 (n:=0) hz,xU0 hz]
 clear kd hIq hb5 hrA hql hl;generalize hdr:dlen ((x*2^k) % (y))=lr at *
 go_wp2_with fail;refine kn.mono ?_;rintro r w6 ⟨A,rfl,hN6,hb6⟩;obtain⟨s6,ao6,n6,cap6,ex6,rfl⟩:=hN6.shape;have HB6:Hid (Bw W w6):=HB5.out.trans (hb6.mono HB5.out.size);have HN6:Hid (NC w6 w5.heap.size (.agg #[.bool s6,.slice ao6 n6 cap6,.int .i64 ex6]) sg ((x*2^k) / (y)) (-place)):=hN6;obtain⟨w7,hw7⟩:∃ w7,w7=w6.alloc (.cells #[.bool s6,.slice ao6 n6 cap6,.int .i64 ex6] 69):=⟨_,rfl⟩;have hB67:Bw w6 w7:=by rw[hw7];exact(xV9 _ _).alloc (xV8 _) _
 have HB7:Hid (Bw W w7):=HB6.out.trans (hB67.mono HB6.out.size);have hbox:w7.heap[w6.heap.size]?=some (.cells #[.bool s6,.slice ao6 n6 cap6,.int .i64 ex6] 69 (0,0)):=by rw[hw7];exact xG5 _ _
 have HBX:Hid (w7.heap[w6.heap.size]?=some (.cells #[.bool s6,.slice ao6 n6 cap6,.int .i64 ex6] 69 (0,0))∧Bw w6 w7):=⟨hbox,hB67⟩;have hres:=qQ HH.out.1.2.2 HB7.out (by have:=HH.out.2.1;omega)
 have HRES:Hid (w7.heap[w.heap.size+1+1]?=some (.cells #[.bool false,.slice none 0 0,.int .i64 0] 69 (0,0))):=hres;obtain⟨⟨c0,c1,c2⟩,c3,c4,c5⟩:=qQ0 hres;obtain⟨⟨d0,d1,d2⟩,d3,d4,d5⟩:=qQ0 hbox;clear kn hN6 hb6 hbox hres hB67 a0 a1 a2 b0 b1 b2;rw[hw7] at c0 c1 c2 c3 c4 c5 d0 d1 d2 d3 d4 d5;cases ex
 ·cases sg
  ·obtain rfl:NQ=(x*2^k) / (y):=hNQ.out
   go_wp2;rw[←hw7];refine xG6 (qQ5 rfl _ _ (w.heap.size+1+1) 69 #[.bool s6,.slice ao6 n6 cap6,.int .i64 ex6] (0,0) _ rfl (qZ2 _ _ _ HRES.out) Tryz.underlying69 rfl Tryz.info69) rfl ?_;have q1:=HH.out.2.1;have q2:=HB5.out.size;exact⟨_,rfl,((HN6.out.later HBX.out.2).store (by omega) _ _ _).mono (by omega),qQ2 (HH.out.2.2.trans (HB7.out.mono HH.out.2.2.size)) (by omega) _ _ _⟩
  ·obtain rfl:NQ=(x*2^k) / (y)+1:=hNQ.out;have HK:Hid (∀ w',Bw w7 w'→(w'.cell? ⟨w6.heap.size,0,none⟩=some (.bool s6)∧w'.cell? ⟨w6.heap.size,1,none⟩=some (.slice ao6 n6 cap6)∧w'.cell? ⟨w6.heap.size,2,none⟩=some (.int .i64 ex6))):=fun w' hb=>(qQ0 (qQ HBX.out.1 hb (by have:=HBX.out.1;exact(Array.getElem?_eq_some_iff.1 this).1))).1
   have kO:∀ w8,Bw w7 w8→Calls Tryz.prog 122 #[.int .i64 place] w8 fun r w'=>∃ g,r=.returned (.agg #[.bool false,.slice (some ⟨g,0,none⟩) 1 1,.int .i64 (-place)])∧Hid (At w' (some ⟨g,0,none⟩) 1 1)∧Bw w7 w'∧(w'.cell? ⟨w6.heap.size,0,none⟩=some (.bool s6)∧w'.cell? ⟨w6.heap.size,1,none⟩=some (.slice ao6 n6 cap6)∧w'.cell? ⟨w6.heap.size,2,none⟩=some (.int .i64 ex6)):=fun w8 hb=>(rone place w8 (by omega) (by omega)).mono fun r w' ⟨g,e1,e2,e3,e4⟩=>⟨g,e1,e3,hb.trans (e4.mono hb.size),HK.out w' (hb.trans (e4.mono hb.size))⟩
   have kL:∀ g w9,Hid (At w9 (some ⟨g,0,none⟩) 1 1)→Bw w7 w9→Calls Tryz.prog 56 #[.agg #[.bool s6,.slice ao6 n6 cap6,.int .i64 ex6],.agg #[.bool false,.slice (some ⟨g,0,none⟩) 1 1,.int .i64 (-place)]] w9 fun r w'=>∃ s ao n cap ex,r=.returned (.agg #[.bool s,.slice ao n cap,.int .i64 ex])∧Hid (NC w' w7.heap.size (.agg #[.bool s,.slice ao n cap,.int .i64 ex]) true ((x*2^k) / (y)+1) (-place))∧Bw w7 w'∧Hid (w'.heap[w6.heap.size]?=some (.cells #[.bool s6,.slice ao6 n6 cap6,.int .i64 ex6] 69 (0,0)))∧(w'.cell? ⟨w6.heap.size,0,none⟩=some (.bool s6)∧w'.cell? ⟨w6.heap.size,1,none⟩=some (.slice ao6 n6 cap6)∧w'.cell? ⟨w6.heap.size,2,none⟩=some (.int .i64 ex6))∧(w'.frozen? ⟨w6.heap.size,0,none⟩=false∧w'.frozen? ⟨w6.heap.size,1,none⟩=false∧w'.frozen? ⟨w6.heap.size,2,none⟩=false):=by
    intro g w9 hA hb;refine(zV4 ((HN6.out.later HBX.out.2).later hb) hA.out (xV8 _) (by omega) (by omega) HQL.out).mono ?_
    rintro r w10 ⟨A,rfl,hN,hb10⟩;obtain⟨s,ao,n,cap,ex,rfl⟩:=hN.shape;have hbb:=hb.trans (hb10.mono hb.size);have hblk:=qQ HBX.out.1 hbb (by have:=HBX.out.1;exact(Array.getElem?_eq_some_iff.1 this).1)
    obtain⟨f1,f2⟩:=qQ0 hblk;exact⟨s,ao,n,cap,ex,rfl,hN.mono hb.size,hbb,hblk,f1,f2⟩
   have hBR:Bw w7 w7.drew:=(xV9 _ _).drew;have e0:w7.cell? ⟨w6.heap.size,0,none⟩=some (.bool s6)∧w7.cell? ⟨w6.heap.size,1,none⟩=some (.slice ao6 n6 cap6)∧w7.cell? ⟨w6.heap.size,2,none⟩=some (.int .i64 ex6):=HK.out w7 (xV9 _ _)
   go_upto_region 14 with fail;rw[←hw7];clear hw7 c0 c1 c2 c3 c4 c5 d0 d1 d2 d3 d4 d5;obtain⟨d0,d1,d2⟩:=e0
   go_cut [64] from 61 to 64 (fun v wx=>∃ s ao n cap ex,v=.agg #[.bool s,.slice ao n cap,.int .i64 ex]∧Hid (NC wx w7.heap.size (.agg #[.bool s,.slice ao n cap,.int .i64 ex]) true ((x*2^k) / (y)+1) (-place))∧Hid (wx.heap[w6.heap.size]?=some (.cells #[.bool s,.slice ao n cap,.int .i64 ex] 69 (0,0)))∧Hid (Below w6.heap.size w7 wx))
   case first =>
    go_region_with (first|(go_at_call 122;refine(kO _ (by first|(with_reducible assumption)|exact hBR|exact xV9 _ _)).mono ?_;rintro r w8 ⟨g8,rfl,hA8,hb8,⟨y1,y2,y3⟩⟩)|(go_at_call 56;refine(kL _ _ hA8 (by with_reducible assumption)).mono ?_;rintro r w9 ⟨s9,ao9,n9,cap9,ex9,rfl,hN9,hb9,hblk9,⟨x1,x2,x3⟩,x4,x5,x6⟩))
    all_goals go_wp2_with fail
    all_goals go_meet
    all_goals exact⟨s9,ao9,n9,cap9,ex9,rfl,hN9.out.store (Array.getElem?_eq_some_iff.1 HBX.out.1).1 _ _ _,qZ2 _ _ _ hblk9.out,qQ2 (hb9.mono HBX.out.2.size) (xV8 _) _ _ _⟩
   case rest =>
    obtain⟨s9,ao9,n9,cap9,ex9,rfl,hN9,hB9,hL9⟩:=hcut;obtain⟨wx,rfl⟩:∃ wx:World,wx=wc:=⟨_,rfl⟩;have q1:=HH.out.2.1;have q2:=HB6.out.size;have q3:=HB7.out.size;have HBx:Hid (Bw W wx):=HB7.out.trans (hL9.out.mono HB6.out.size);have hres:=qQ HH.out.1.2.2 HBx.out (by omega)
    have HRES2:Hid (wx.heap[w.heap.size+1+1]?=some (.cells #[.bool false,.slice none 0 0,.int .i64 0] 69 (0,0))):=hres;obtain⟨⟨c0,c1,c2⟩,c3,c4,c5⟩:=qQ0 hres;clear d0 d1 d2;obtain⟨⟨d0,d1,d2⟩,d3,d4,d5⟩:=qQ0 hB9.out;clear kO kL hBR hres
    go_wp2;refine xG6 (qQ5 rfl _ _ (w.heap.size+1+1) 69 #[.bool s9,.slice ao9 n9 cap9,.int .i64 ex9] (0,0) _ rfl (qZ2 _ _ _ HRES2.out) Tryz.underlying69 rfl Tryz.info69) rfl ?_;exact⟨_,rfl,(hN9.out.store (by omega) _ _ _).mono (by omega),qQ2 (HH.out.2.2.trans (HBx.out.mono HH.out.2.2.size)) (by omega) _ _ _⟩
 ·obtain rfl:NQ=(x*2^k) / (y):=by have h:=hNQ.out;cases sg <;> exact h
  go_wp2;rw[←hw7];refine xG6 (qQ5 rfl _ _ (w.heap.size+1+1) 69 #[.bool s6,.slice ao6 n6 cap6,.int .i64 ex6] (0,0) _ rfl (qZ2 _ _ _ HRES.out) Tryz.underlying69 rfl Tryz.info69) rfl ?_;have q1:=HH.out.2.1;have q2:=HB5.out.size;exact⟨_,rfl,((HN6.out.later HBX.out.2).store (by omega) _ _ _).mono (by omega),qQ2 (HH.out.2.2.trans (HB7.out.mono HH.out.2.2.size)) (by omega) _ _ _⟩
theorem yB5 (na nb:Bool) (ua va:Option Addr) (uc vc x y k:Nat) (ea eb place:Int) (w:World) (sg ex:Bool) (NQ:Nat) (hNQ:Hid (NQ=if sg && !ex then(x) / (y*2^k)+1 else(x) / (y*2^k))) (hsg:(!(na==nb))=sg) (h1:At w ua (dlen x) x) (hu:dlen x≤uc) (h2:At w va (dlen y) y) (hv:dlen y≤vc) (hx0:x≠0) (hy0:y≠0) (hx:dlen x≤3000) (hy:dlen y≤3000)
  (he1 : -200000≤ea) (he2:ea≤200000) (he3 : -200000≤eb) (he4:eb≤200000) (hp1 : -200000≤place) (hp2:place≤200000) (hk:ea - eb+place = -(k:Int)) (hk1:0<k) (hk2:k≤600000) (hr:decide ((x) % (y*2^k)=0)=ex) :
  Calls Tryz.prog 158 #[.agg #[.bool na,.slice ua (dlen x) uc,.int .i64 ea],.agg #[.bool nb,.slice va (dlen y) vc,.int .i64 eb],.int .i64 place] w fun r w'=>∃ A,r=.returned (.tuple #[A,.bool ex])∧NC w' w.heap.size A sg NQ (-place)∧Bw w w':=by
 obtain⟨W,hW⟩:∃ W,W=((w.alloc (.cells #[.bool na,.slice ua (dlen x) uc,.int .i64 ea] 69)).alloc (.cells #[.bool nb,.slice va (dlen y) vc,.int .i64 eb] 69)).alloc (.cells #[.bool false,.slice none 0 0,.int .i64 0] 69):=⟨_,rfl⟩;obtain⟨hA,hBb,hC,hsz,hBW⟩:=qY9 _ _ _ hW;have HH:Hid ((W.heap[w.heap.size]?=some (.cells #[.bool na,.slice ua (dlen x) uc,.int .i64 ea] 69 (0,0))∧W.heap[w.heap.size+1]?=some (.cells #[.bool nb,.slice va (dlen y) vc,.int .i64 eb] 69 (0,0))∧W.heap[w.heap.size+1+1]?=some (.cells #[.bool false,.slice none 0 0,.int .i64 0] 69 (0,0)))∧W.heap.size=w.heap.size+1+1+1∧Bw w W):=⟨⟨hA,hBb,hC⟩,hsz,hBW⟩;obtain⟨⟨a0,a1,a2⟩,-⟩:=qQ0 hA;obtain⟨⟨b0,b1,b2⟩,-⟩:=qQ0 hBb;have HI:Hid (Ir w (.slice ua (dlen x) uc) x∧Ir w (.slice va (dlen y) vc) y):=⟨⟨ua,uc,rfl,hu,h1⟩,⟨va,vc,rfl,hv,h2⟩⟩;have HN:Hid ((x≠0∧y≠0∧dlen x≤3000∧dlen y≤3000∧k≤600000)∧decide ((x) % (y*2^k)=0)=ex):=⟨⟨hx0,hy0,hx,hy,hk2⟩,hr⟩;have hxz:((dlen x:Int)==0)=false:=qY2 (n:=0) hx0;clear hA hBb hC hsz hBW h1 h2 hr;generalize hdx:dlen x=lx at *;generalize hdy:dlen y=ly at *;rw[hW] at a0 a1 a2 b0 b1 b2
 go_enter Tryz.func158,Tryz.ntmps158
 go_wp2
 go_quiet (fail)
 rw[←hW];have HBW1:Hid (Below W.heap.size W (W.drewN nq)):=(⟨rfl,rfl,rfl,xV8 _,fun _ _=>rfl⟩:Below W.heap.size W (W.drewN nq));obtain⟨W1,hW1⟩:∃ W1,W1=W.drewN nq:=⟨_,rfl⟩;rw[←hW1] at HBW1 ⊢;clear hW hW1 a0 a1 a2 b0 b1 b2;have HIW:Hid (Ir W1 (.slice ua lx uc) x∧Ir W1 (.slice va ly vc) y):=⟨HI.out.1.later (HH.out.2.2.trans (HBW1.out.mono HH.out.2.2.size)),HI.out.2.later (HH.out.2.2.trans (HBW1.out.mono HH.out.2.2.size))⟩;have ku:=rup HIW.out.2 k (by have:=HN.out.1;omega) (by omega)
 go_wp2_with fail;refine ku.mono ?_;rintro r w4 ⟨vu,rfl,hIu,hb4⟩;have HB4:Hid (Bw W w4):=HBW1.out.trans (hb4.mono HBW1.out.size);have hl:dlen (y*2^k)≤25000:=by
  have:=qY4 (x:=y) (k:=k) rfl
  have:=HN.out.1
  omega
 have kd:=zD8 (HIW.out.1.later hb4) hIu HN.out.1.1 (Nat.mul_ne_zero HN.out.1.2.1 (by have:=xU2 k;omega)) (by have:=HN.out.1;omega) (by omega)
 have HO:Hid (Ir w4 vu (y*2^k)):=hIu;clear ku hIu hb4
 go_wp2_with fail;refine kd.mono ?_;rintro r w5 ⟨vq,vr,rfl,hIq,hIr,hb5⟩;have HB5:Hid (Bw W w5):=HB4.out.trans (hb5.mono HB4.out.size);obtain⟨⟨a0,a1,a2⟩,-⟩:=qQ0 (qQ HH.out.1.1 HB5.out (by have:=HH.out.2.1;omega))
 obtain⟨⟨b0,b1,b2⟩,-⟩:=qQ0 (qQ HH.out.1.2.1 HB5.out (by have:=HH.out.2.1;omega))
 obtain⟨rr,rcap,rfl,hrc,hrA⟩:=hIr;have hql:dlen ((x) / (y*2^k))≤30000:=xU7 (qZ5 (xU8 _ _)) (by have:=HN.out.1;omega)
 have kn:=zZ6 (neg:=sg) (e := -place) hIq (by omega) (by omega)
 have HQL:Hid (dlen ((x) / (y*2^k))≤30000):=hql;have hrl:((dlen ((x) % (y*2^k)):Int)==0)=ex:=by
  rw[←HN.out.2];by_cases hz:(x) % (y*2^k)=0
  ·rw[hz,qQ4];rfl
  ·rw[qY2 (n:=0) hz,xU0 hz]
 clear kd hIq hb5 hrA hql hl;generalize hdr:dlen ((x) % (y*2^k))=lr at *
 go_wp2_with fail;refine kn.mono ?_;rintro r w6 ⟨A,rfl,hN6,hb6⟩;obtain⟨s6,ao6,n6,cap6,ex6,rfl⟩:=hN6.shape;have HB6:Hid (Bw W w6):=HB5.out.trans (hb6.mono HB5.out.size);have HN6:Hid (NC w6 w5.heap.size (.agg #[.bool s6,.slice ao6 n6 cap6,.int .i64 ex6]) sg ((x) / (y*2^k)) (-place)):=hN6;obtain⟨w7,hw7⟩:∃ w7,w7=w6.alloc (.cells #[.bool s6,.slice ao6 n6 cap6,.int .i64 ex6] 69):=⟨_,rfl⟩;have hB67:Bw w6 w7:=by rw[hw7];exact(xV9 _ _).alloc (xV8 _) _
 have HB7:Hid (Bw W w7):=HB6.out.trans (hB67.mono HB6.out.size);have hbox:w7.heap[w6.heap.size]?=some (.cells #[.bool s6,.slice ao6 n6 cap6,.int .i64 ex6] 69 (0,0)):=by rw[hw7];exact xG5 _ _
 have HBX:Hid (w7.heap[w6.heap.size]?=some (.cells #[.bool s6,.slice ao6 n6 cap6,.int .i64 ex6] 69 (0,0))∧Bw w6 w7):=⟨hbox,hB67⟩;have hres:=qQ HH.out.1.2.2 HB7.out (by have:=HH.out.2.1;omega)
 have HRES:Hid (w7.heap[w.heap.size+1+1]?=some (.cells #[.bool false,.slice none 0 0,.int .i64 0] 69 (0,0))):=hres;obtain⟨⟨c0,c1,c2⟩,c3,c4,c5⟩:=qQ0 hres;obtain⟨⟨d0,d1,d2⟩,d3,d4,d5⟩:=qQ0 hbox;clear kn hN6 hb6 hbox hres hB67 a0 a1 a2 b0 b1 b2;rw[hw7] at c0 c1 c2 c3 c4 c5 d0 d1 d2 d3 d4 d5;cases ex
 ·cases sg
  ·obtain rfl:NQ=(x) / (y*2^k):=hNQ.out
   go_wp2;rw[←hw7];refine xG6 (qQ5 rfl _ _ (w.heap.size+1+1) 69 #[.bool s6,.slice ao6 n6 cap6,.int .i64 ex6] (0,0) _ rfl (qZ2 _ _ _ HRES.out) Tryz.underlying69 rfl Tryz.info69) rfl ?_;have q1:=HH.out.2.1;have q2:=HB5.out.size;exact⟨_,rfl,((HN6.out.later HBX.out.2).store (by omega) _ _ _).mono (by omega),qQ2 (HH.out.2.2.trans (HB7.out.mono HH.out.2.2.size)) (by omega) _ _ _⟩
  ·obtain rfl:NQ=(x) / (y*2^k)+1:=hNQ.out;have HK:Hid (∀ w',Bw w7 w'→(w'.cell? ⟨w6.heap.size,0,none⟩=some (.bool s6)∧w'.cell? ⟨w6.heap.size,1,none⟩=some (.slice ao6 n6 cap6)∧w'.cell? ⟨w6.heap.size,2,none⟩=some (.int .i64 ex6))):=fun w' hb=>(qQ0 (qQ HBX.out.1 hb (by have:=HBX.out.1;exact(Array.getElem?_eq_some_iff.1 this).1))).1
   have kO:∀ w8,Bw w7 w8→Calls Tryz.prog 122 #[.int .i64 place] w8 fun r w'=>∃ g,r=.returned (.agg #[.bool false,.slice (some ⟨g,0,none⟩) 1 1,.int .i64 (-place)])∧Hid (At w' (some ⟨g,0,none⟩) 1 1)∧Bw w7 w'∧(w'.cell? ⟨w6.heap.size,0,none⟩=some (.bool s6)∧w'.cell? ⟨w6.heap.size,1,none⟩=some (.slice ao6 n6 cap6)∧w'.cell? ⟨w6.heap.size,2,none⟩=some (.int .i64 ex6)):=fun w8 hb=>(rone place w8 (by omega) (by omega)).mono fun r w' ⟨g,e1,e2,e3,e4⟩=>⟨g,e1,e3,hb.trans (e4.mono hb.size),HK.out w' (hb.trans (e4.mono hb.size))⟩
   have kL:∀ g w9,Hid (At w9 (some ⟨g,0,none⟩) 1 1)→Bw w7 w9→Calls Tryz.prog 56 #[.agg #[.bool s6,.slice ao6 n6 cap6,.int .i64 ex6],.agg #[.bool false,.slice (some ⟨g,0,none⟩) 1 1,.int .i64 (-place)]] w9 fun r w'=>∃ s ao n cap ex,r=.returned (.agg #[.bool s,.slice ao n cap,.int .i64 ex])∧Hid (NC w' w7.heap.size (.agg #[.bool s,.slice ao n cap,.int .i64 ex]) true ((x) / (y*2^k)+1) (-place))∧Bw w7 w'∧Hid (w'.heap[w6.heap.size]?=some (.cells #[.bool s6,.slice ao6 n6 cap6,.int .i64 ex6] 69 (0,0)))∧(w'.cell? ⟨w6.heap.size,0,none⟩=some (.bool s6)∧w'.cell? ⟨w6.heap.size,1,none⟩=some (.slice ao6 n6 cap6)∧w'.cell? ⟨w6.heap.size,2,none⟩=some (.int .i64 ex6))∧(w'.frozen? ⟨w6.heap.size,0,none⟩=false∧w'.frozen? ⟨w6.heap.size,1,none⟩=false∧w'.frozen? ⟨w6.heap.size,2,none⟩=false):=by
    intro g w9 hA hb;refine(zV4 ((HN6.out.later HBX.out.2).later hb) hA.out (xV8 _) (by omega) (by omega) HQL.out).mono ?_
    rintro r w10 ⟨A,rfl,hN,hb10⟩;obtain⟨s,ao,n,cap,ex,rfl⟩:=hN.shape;have hbb:=hb.trans (hb10.mono hb.size);have hblk:=qQ HBX.out.1 hbb (by have:=HBX.out.1;exact(Array.getElem?_eq_some_iff.1 this).1)
    obtain⟨f1,f2⟩:=qQ0 hblk;exact⟨s,ao,n,cap,ex,rfl,hN.mono hb.size,hbb,hblk,f1,f2⟩
   have hBR:Bw w7 w7.drew:=(xV9 _ _).drew;have e0:w7.cell? ⟨w6.heap.size,0,none⟩=some (.bool s6)∧w7.cell? ⟨w6.heap.size,1,none⟩=some (.slice ao6 n6 cap6)∧w7.cell? ⟨w6.heap.size,2,none⟩=some (.int .i64 ex6):=HK.out w7 (xV9 _ _)
   go_upto_region 14 with fail;rw[←hw7];clear hw7 c0 c1 c2 c3 c4 c5 d0 d1 d2 d3 d4 d5;obtain⟨d0,d1,d2⟩:=e0
   go_cut [64] from 61 to 64 (fun v wx=>∃ s ao n cap ex,v=.agg #[.bool s,.slice ao n cap,.int .i64 ex]∧Hid (NC wx w7.heap.size (.agg #[.bool s,.slice ao n cap,.int .i64 ex]) true ((x) / (y*2^k)+1) (-place))∧Hid (wx.heap[w6.heap.size]?=some (.cells #[.bool s,.slice ao n cap,.int .i64 ex] 69 (0,0)))∧Hid (Below w6.heap.size w7 wx))
   case first =>
    go_region_with (first|(go_at_call 122;refine(kO _ (by first|(with_reducible assumption)|exact hBR|exact xV9 _ _)).mono ?_;rintro r w8 ⟨g8,rfl,hA8,hb8,⟨y1,y2,y3⟩⟩)|(go_at_call 56;refine(kL _ _ hA8 (by with_reducible assumption)).mono ?_;rintro r w9 ⟨s9,ao9,n9,cap9,ex9,rfl,hN9,hb9,hblk9,⟨x1,x2,x3⟩,x4,x5,x6⟩))
    all_goals go_wp2_with fail
    all_goals go_meet
    all_goals exact⟨s9,ao9,n9,cap9,ex9,rfl,hN9.out.store (Array.getElem?_eq_some_iff.1 HBX.out.1).1 _ _ _,qZ2 _ _ _ hblk9.out,qQ2 (hb9.mono HBX.out.2.size) (xV8 _) _ _ _⟩
   case rest =>
    obtain⟨s9,ao9,n9,cap9,ex9,rfl,hN9,hB9,hL9⟩:=hcut;obtain⟨wx,rfl⟩:∃ wx:World,wx=wc:=⟨_,rfl⟩;have q1:=HH.out.2.1;have q2:=HB6.out.size;have q3:=HB7.out.size;have HBx:Hid (Bw W wx):=HB7.out.trans (hL9.out.mono HB6.out.size);have hres:=qQ HH.out.1.2.2 HBx.out (by omega)
    have HRES2:Hid (wx.heap[w.heap.size+1+1]?=some (.cells #[.bool false,.slice none 0 0,.int .i64 0] 69 (0,0))):=hres;obtain⟨⟨c0,c1,c2⟩,c3,c4,c5⟩:=qQ0 hres;clear d0 d1 d2;obtain⟨⟨d0,d1,d2⟩,d3,d4,d5⟩:=qQ0 hB9.out;clear kO kL hBR hres
    go_wp2;refine xG6 (qQ5 rfl _ _ (w.heap.size+1+1) 69 #[.bool s9,.slice ao9 n9 cap9,.int .i64 ex9] (0,0) _ rfl (qZ2 _ _ _ HRES2.out) Tryz.underlying69 rfl Tryz.info69) rfl ?_;exact⟨_,rfl,(hN9.out.store (by omega) _ _ _).mono (by omega),qQ2 (HH.out.2.2.trans (HBx.out.mono HH.out.2.2.size)) (by omega) _ _ _⟩
 ·obtain rfl:NQ=(x) / (y*2^k):=by have h:=hNQ.out;cases sg <;> exact h
  go_wp2;rw[←hw7];refine xG6 (qQ5 rfl _ _ (w.heap.size+1+1) 69 #[.bool s6,.slice ao6 n6 cap6,.int .i64 ex6] (0,0) _ rfl (qZ2 _ _ _ HRES.out) Tryz.underlying69 rfl Tryz.info69) rfl ?_;have q1:=HH.out.2.1;have q2:=HB5.out.size;exact⟨_,rfl,((HN6.out.later HBX.out.2).store (by omega) _ _ _).mono (by omega),qQ2 (HH.out.2.2.trans (HB7.out.mono HH.out.2.2.size)) (by omega) _ _ _⟩
theorem yB7 (na nb:Bool) (ua va:Option Addr) (uc vn vc:Nat) (ea eb place:Int) (w:World) :
  Calls Tryz.prog 158 #[.agg #[.bool na,.slice ua 0 uc,.int .i64 ea],.agg #[.bool nb,.slice va vn vc,.int .i64 eb],.int .i64 place] w fun r w'=>r=.returned (.tuple #[.agg #[.bool false,.slice none 0 0,.int .i64 0],.bool true])∧Bw w w':=by
 obtain⟨W,hW⟩:∃ W,W=((w.alloc (.cells #[.bool na,.slice ua 0 uc,.int .i64 ea] 69)).alloc (.cells #[.bool nb,.slice va vn vc,.int .i64 eb] 69)).alloc (.cells #[.bool false,.slice none 0 0,.int .i64 0] 69):=⟨_,rfl⟩;obtain⟨hA,hBb,hC,hsz,hBW⟩:=qY9 _ _ _ hW;have HH:Hid (W.heap[w.heap.size+1+1]?=some (.cells #[.bool false,.slice none 0 0,.int .i64 0] 69 (0,0))∧Bw w W):=⟨hC,hBW⟩;obtain⟨⟨a0,a1,a2⟩,-⟩:=qQ0 hA;obtain⟨⟨c0,c1,c2⟩,c3,c4,c5⟩:=qQ0 hC;clear hA hBb hC hsz hBW;rw[hW] at a0 a1 a2 c0 c1 c2 c3 c4 c5
 go_enter Tryz.func158,Tryz.ntmps158
 go_wp2;rw[←hW];refine xG6 (qQ5 rfl _ _ (w.heap.size+1+1) 69 #[.bool false,.slice none 0 0,.int .i64 0] (0,0) _ rfl HH.out.1 Tryz.underlying69 rfl Tryz.info69) rfl ?_;exact⟨rfl,HH.out.2⟩
def ovX (x:Nat) (ea eb place:Int):Nat:=x*2^(ea+place - min (ea+place) eb).toNat
def ovY (y:Nat) (ea eb place:Int):Nat:=y*2^(eb - min (ea+place) eb).toNat
theorem rover {na nb:Bool} {ua va:Option Addr} {uc vc x y:Nat} {ea eb place:Int} {w:World} (h1:At w ua (dlen x) x) (hu:dlen x≤uc) (h2:At w va (dlen y) y) (hv:dlen y≤vc) (hy0:y≠0) (hx:dlen x≤3000) (hy:dlen y≤3000)
  (ha : -200000≤ea∧ea≤200000) (hb : -200000≤eb∧eb≤200000) (hp : -200000≤place∧place≤200000) {X Y:Nat} (hX:ovX x ea eb place=X) (hY:ovY y ea eb place=Y) :
  Calls Tryz.prog 158 #[.agg #[.bool na,.slice ua (dlen x) uc,.int .i64 ea],.agg #[.bool nb,.slice va (dlen y) vc,.int .i64 eb],.int .i64 place] w fun r w'=>∃ A,r=.returned (.tuple #[A,.bool (decide (X % Y=0))])∧NC w' w.heap.size A (na != nb) (if(na != nb) && !(decide (X % Y=0))then X / Y+1 else X / Y) (-place)∧Bw w w':=by
 by_cases hx0:x=0
 ·subst hx0;have hX0:X=0:=by rw[←hX];unfold ovX;rw[Nat.zero_mul]
  rw[qQ4,hX0,Nat.zero_mod,Nat.zero_div];refine(yB7 na nb ua va uc _ vc ea eb place w).mono ?_
  rintro r w' ⟨rfl,hb'⟩;refine⟨_,rfl,⟨none,0,?_,?_,fun ad e=>by cases e⟩,hb'⟩
  ·simp[cn,qQ4]
  ·simp only[decide_true,Bool.not_true,Bool.and_false,Bool.false_eq_true,if_false];unfold cn;rw[if_pos rfl];exact⟨fun _=>.inr ⟨rfl,rfl⟩,⟨0,0,fun h=>by rw[qQ4] at h;omega,fun i hi=>by rw[qQ4] at hi;omega⟩,by rw[qQ4];exact xV8 _,by rw[qQ4];omega⟩
 ·by_cases hs:0≤ea - eb+place
  ·obtain⟨k,hk⟩:∃ k:Nat,ea - eb+place=(k:Int):=⟨(ea - eb+place).toNat,by omega⟩
   obtain rfl:x*2^k=X:=by rw[←hX];unfold ovX;rw[show(ea+place - min (ea+place) eb).toNat=k by omega]
   obtain rfl:y=Y:=by rw[←hY];unfold ovY;rw[show(eb - min (ea+place) eb).toNat=0 by omega,xH4,xH8]
   exact yB6 na nb ua va uc vc x y k ea eb place w (na != nb) _ _ rfl rfl h1 hu h2 hv hx0 hy0 hx hy ha.1 ha.2 hb.1 hb.2 hp.1 hp.2 hk (by omega) rfl
  ·obtain⟨k,hk⟩:∃ k:Nat,ea - eb+place = -(k:Int):=⟨(-(ea - eb+place)).toNat,by omega⟩
   obtain rfl:x=X:=by rw[←hX];unfold ovX;rw[show(ea+place - min (ea+place) eb).toNat=0 by omega,xH4,xH8]
   obtain rfl:y*2^k=Y:=by rw[←hY];unfold ovY;rw[show(eb - min (ea+place) eb).toNat=k by omega]
   exact yB5 na nb ua va uc vc x y k ea eb place w (na != nb) _ _ rfl rfl h1 hu h2 hv hx0 hy0 hx hy ha.1 ha.2 hb.1 hb.2 hp.1 hp.2 hk (by omega) (by omega) rfl
theorem yA0 (na:Bool) (ua:Option Addr) (un uc:Nat) (ea place:Int) (w:World) (he1 : -200000≤ea) (he2:ea≤200000) (hp1 : -200000≤place) (hp2:place≤200000) :
  Calls Tryz.prog 59 #[.agg #[.bool na,.slice ua 0 uc,.int .i64 ea],.int .i64 place] w fun r w'=>r=.returned (.tuple #[.agg #[.bool na,.slice ua 0 uc,.int .i64 ea],.bool true])∧Bw w w':=by
 obtain⟨W,hW⟩:∃ W,W=(w.alloc (.cells #[.bool na,.slice ua (0) uc,.int .i64 ea] 69)).alloc (.cells #[.bool false,.slice none 0 0,.int .i64 0] 69):=⟨_,rfl⟩;obtain⟨hA,hC,hsz,hBW⟩:=qH1 _ _ hW;have HH:Hid ((W.heap[w.heap.size]?=some (.cells #[.bool na,.slice ua (0) uc,.int .i64 ea] 69 (0,0))∧W.heap[w.heap.size+1]?=some (.cells #[.bool false,.slice none 0 0,.int .i64 0] 69 (0,0)))∧W.heap.size=w.heap.size+1+1∧Bw w W):=⟨⟨hA,hC⟩,hsz,hBW⟩;obtain⟨⟨a0,a1,a2⟩,-⟩:=qQ0 hA;obtain⟨⟨c0,c1,c2⟩,c3,c4,c5⟩:=qQ0 hC;clear hA hC hsz hBW;rw[hW] at a0 a1 a2 c0 c1 c2 c3 c4 c5
 go_enter Tryz.func59,Tryz.ntmps59
 go_wp2;obtain⟨W2,hW2⟩:∃ W2,W2=(w.alloc (.cells #[.bool na,.slice ua 0 uc,.int .i64 ea] 69)).alloc (.cells #[.bool na,.slice ua 0 uc,.int .i64 ea] 69):=⟨_,rfl⟩;obtain⟨-,hC2,-,hB2⟩:=qH1 _ _ hW2;rw[←hW2];refine xG6 (qQ5 rfl _ _ (w.heap.size+1) 69 #[.bool na,.slice ua 0 uc,.int .i64 ea] (0,0) _ rfl hC2 Tryz.underlying69 rfl Tryz.info69) rfl ?_;exact⟨rfl,hB2⟩
theorem yA1 (na:Bool) (ua:Option Addr) (un uc:Nat) (ea place:Int) (w:World) (he1 : -200000≤ea) (he2:ea≤200000) (hp1 : -200000≤place) (hp2:place≤200000) (hn0:((un:Int)==0)=false) (hn:un≤35184372088832) (hk : -place - ea≤0) :
  Calls Tryz.prog 59 #[.agg #[.bool na,.slice ua un uc,.int .i64 ea],.int .i64 place] w fun r w'=>r=.returned (.tuple #[.agg #[.bool na,.slice ua un uc,.int .i64 ea],.bool true])∧Bw w w':=by
 obtain⟨W,hW⟩:∃ W,W=(w.alloc (.cells #[.bool na,.slice ua (un) uc,.int .i64 ea] 69)).alloc (.cells #[.bool false,.slice none 0 0,.int .i64 0] 69):=⟨_,rfl⟩;obtain⟨hA,hC,hsz,hBW⟩:=qH1 _ _ hW;have HH:Hid ((W.heap[w.heap.size]?=some (.cells #[.bool na,.slice ua (un) uc,.int .i64 ea] 69 (0,0))∧W.heap[w.heap.size+1]?=some (.cells #[.bool false,.slice none 0 0,.int .i64 0] 69 (0,0)))∧W.heap.size=w.heap.size+1+1∧Bw w W):=⟨⟨hA,hC⟩,hsz,hBW⟩;obtain⟨⟨a0,a1,a2⟩,-⟩:=qQ0 hA;obtain⟨⟨c0,c1,c2⟩,c3,c4,c5⟩:=qQ0 hC;clear hA hC hsz hBW;rw[hW] at a0 a1 a2 c0 c1 c2 c3 c4 c5;have hd1:decide (-place - ea≤0)=true:=xU1 hk
 go_enter Tryz.func59,Tryz.ntmps59
 go_wp2;obtain⟨W2,hW2⟩:∃ W2,W2=(w.alloc (.cells #[.bool na,.slice ua un uc,.int .i64 ea] 69)).alloc (.cells #[.bool na,.slice ua un uc,.int .i64 ea] 69):=⟨_,rfl⟩;obtain⟨-,hC2,-,hB2⟩:=qH1 _ _ hW2;rw[←hW2];refine xG6 (qQ5 rfl _ _ (w.heap.size+1) 69 #[.bool na,.slice ua un uc,.int .i64 ea] (0,0) _ rfl hC2 Tryz.underlying69 rfl Tryz.info69) rfl ?_;exact⟨rfl,hB2⟩
theorem yA2 (ua:Option Addr) (uc x k:Nat) (ea place:Int) (w:World) (h1:At w ua (dlen x) x) (hu:dlen x≤uc) (hx0:x≠0) (hx:dlen x≤3000) (he1 : -200000≤ea) (he2:ea≤200000) (hp1 : -200000≤place) (hp2:place≤200000) (hk : -place - ea=(k:Int)) (hk1:0<k) (hk2:k≤600000) :
  Calls Tryz.prog 59 #[.agg #[.bool false,.slice ua (dlen x) uc,.int .i64 ea],.int .i64 place] w fun r w'=>∃ A,r=.returned (.tuple #[A,.bool false])∧NC w' w.heap.size A false (x / 2^k) (-place)∧Bw w w':=by
 obtain⟨W,hW⟩:∃ W,W=(w.alloc (.cells #[.bool false,.slice ua (dlen x) uc,.int .i64 ea] 69)).alloc (.cells #[.bool false,.slice none 0 0,.int .i64 0] 69):=⟨_,rfl⟩;obtain⟨hA,hC,hsz,hBW⟩:=qH1 _ _ hW;have HH:Hid ((W.heap[w.heap.size]?=some (.cells #[.bool false,.slice ua (dlen x) uc,.int .i64 ea] 69 (0,0))∧W.heap[w.heap.size+1]?=some (.cells #[.bool false,.slice none 0 0,.int .i64 0] 69 (0,0)))∧W.heap.size=w.heap.size+1+1∧Bw w W):=⟨⟨hA,hC⟩,hsz,hBW⟩;obtain⟨⟨a0,a1,a2⟩,-⟩:=qQ0 hA;have HI:Hid (Ir W (.slice ua (dlen x) uc) x):=(⟨ua,uc,rfl,hu,h1.later hBW⟩:Ir W (.slice ua (dlen x) uc) x);have HN:Hid (x≠0∧dlen x≤3000∧k≤600000):=⟨hx0,hx,hk2⟩;have hxz:((dlen x:Int)==0)=false:=qY2 (n:=0) hx0;have hkp:¬ ((k:Int)≤0):=by omega
 have hkd:decide ((k:Int)≤0)=false:=xU0 hkp;clear hA hC hsz hBW h1;have ku:=yE6 HI.out k (by omega) (by omega)
 generalize hdx:dlen x=lx at *;rw[hW] at a0 a1 a2
 go_enter Tryz.func59,Tryz.ntmps59
 go_wp2_with fail;rw[←hW];clear hW a0 a1 a2;refine ku.mono ?_;rintro r w5 ⟨au,cu,rfl,hAu,hcu,hb5⟩;have HB5:Hid (Bw W w5):=hb5;obtain⟨⟨a0,a1,a2⟩,-⟩:=qQ0 (qQ HH.out.1.1 HB5.out (by have:=HH.out.2.1;omega))
 have hql:dlen (x / 2^k)≤30000:=xU7 (qZ5 (xU8 _ _)) (by have:=HN.out;omega)
 have kn:=zZ6 (neg:=false) (e := -place) (⟨au,cu,rfl,hcu,hAu⟩:Ir w5 _ (x / 2^k)) (by omega) (by omega)
 have HQL:Hid (dlen (x / 2^k)≤30000):=hql;clear ku hAu hcu hb5 hql;obtain⟨lq,hlq⟩:∃ lq,lq=dlen (x / 2^k):=⟨_,rfl⟩;rw[←hlq];rw[←hlq] at kn;clear hlq
 go_wp2_with fail;refine kn.mono ?_;rintro r w6 ⟨A,rfl,hN6,hb6⟩;obtain⟨s6,ao6,n6,cap6,ex6,rfl⟩:=hN6.shape;have HB6:Hid (Bw W w6):=HB5.out.trans (hb6.mono HB5.out.size);have HN6:Hid (NC w6 w5.heap.size (.agg #[.bool s6,.slice ao6 n6 cap6,.int .i64 ex6]) false (x / 2^k) (-place)):=hN6;obtain⟨w7,hw7⟩:∃ w7,w7=w6.alloc (.cells #[.bool s6,.slice ao6 n6 cap6,.int .i64 ex6] 69):=⟨_,rfl⟩;have hB67:Bw w6 w7:=by rw[hw7];exact(xV9 _ _).alloc (xV8 _) _
 have HB7:Hid (Bw W w7):=HB6.out.trans (hB67.mono HB6.out.size);have hbox:w7.heap[w6.heap.size]?=some (.cells #[.bool s6,.slice ao6 n6 cap6,.int .i64 ex6] 69 (0,0)):=by rw[hw7];exact xG5 _ _
 have HBX:Hid (w7.heap[w6.heap.size]?=some (.cells #[.bool s6,.slice ao6 n6 cap6,.int .i64 ex6] 69 (0,0))∧Bw w6 w7):=⟨hbox,hB67⟩;have hres:=qQ HH.out.1.2 HB7.out (by have:=HH.out.2.1;omega)
 have HRES:Hid (w7.heap[w.heap.size+1]?=some (.cells #[.bool false,.slice none 0 0,.int .i64 0] 69 (0,0))):=hres;have hneg:=qQ HH.out.1.1 HB7.out (by have:=HH.out.2.1;omega)
 clear a0 a1 a2;obtain⟨⟨c0,c1,c2⟩,c3,c4,c5⟩:=qQ0 hres;obtain⟨⟨d0,d1,d2⟩,d3,d4,d5⟩:=qQ0 hbox;obtain⟨⟨a0,a1,a2⟩,-⟩:=qQ0 hneg;clear kn hN6 hb6 hbox hres hB67 hneg;rw[hw7] at c0 c1 c2 c3 c4 c5 d0 d1 d2 d3 d4 d5 a0 a1 a2
 go_wp2;rw[←hw7];refine xG6 (qQ5 rfl _ _ (w.heap.size+1) 69 #[.bool s6,.slice ao6 n6 cap6,.int .i64 ex6] (0,0) _ rfl (qZ2 _ _ _ HRES.out) Tryz.underlying69 rfl Tryz.info69) rfl ?_;have q1:=HH.out.2.1;have q2:=HB5.out.size;exact⟨_,rfl,((HN6.out.later HBX.out.2).store (by omega) _ _ _).mono (by omega),qQ2 (HH.out.2.2.trans (HB7.out.mono HH.out.2.2.size)) (by omega) _ _ _⟩
theorem zI9 (na nb:Bool) (ua va:Option Addr) (un uc vn vc x y k bx by':Nat) (ea eb mode:Int) (sg:Bool) (w:World) (hsg:Hid ((!(na==nb))=sg)) (hT:Tab32 w) (h1:Is w (.slice ua un uc) x) (h2:Is w (.slice va vn vc) y) (hx:dlen x≤3000) (hy:dlen y≤3000) (hy0:y≠0) (he1 : -65536≤ea) (he2:ea≤65536) (he3 : -65536≤eb) (he4:eb≤65536) (hm:mode=1∨mode=2∨mode=3)
  (hbx:bl x=bx) (hby:bl y=by') (hbx2:bx≤96000) (hby2:by'≤96000) (hk:max 0 (64+(by':Int) - (bx:Int))=(k:Int)) (hk2:k≤100000) (hn0:((un:Int)==0)=false) (hn1:((vn:Int)==0)=false)
  (k67:∀ W g,Bw w W→W.heap[g]?=some (.cells #[.bool na,.slice ua un uc,.int .i64 ea,.bool nb,.slice va vn vc,.int .i64 eb] 65 (0,0))→Calls Tryz.prog 126 #[.slice (some ⟨g,0,none⟩) 2 2] W fun r w'=>r=.returned (.bool true)∧Bw W w') :
  Calls Tryz.prog 80 #[.agg #[.bool na,.slice ua un uc,.int .i64 ea],.agg #[.bool nb,.slice va vn vc,.int .i64 eb],.int .i64 mode] w fun r w'=>r=.returned (.tuple #[.float .f64 (tfF sg (decide (x*2^k % y=0)) (x*2^k / y) (ea - eb - k) mode),.int .i64 0])∧Bw w w':=by
 obtain⟨W,hW⟩:∃ W,W=(w.alloc (.cells #[.bool na,.slice ua un uc,.int .i64 ea] 65)).alloc (.cells #[.bool nb,.slice va vn vc,.int .i64 eb] 65):=⟨_,rfl⟩;have hBW:Bw w W:=by rw[hW];exact((xV9 _ _).alloc (xV8 _) _).alloc (by simp) _
 have hbA:W.heap[w.heap.size]?=some (.cells #[.bool na,.slice ua un uc,.int .i64 ea] 65 (0,0)):=by
  rw[hW,Below.heap_alloc _ _ _ (by simp)];exact xG5 _ _
 have hbB:W.heap[w.heap.size+1]?=some (.cells #[.bool nb,.slice va vn vc,.int .i64 eb] 65 (0,0)):=by
  have:=xG5 (w.alloc (.cells #[.bool na,.slice ua un uc,.int .i64 ea] 65)) (.cells #[.bool nb,.slice va vn vc,.int .i64 eb] 65)
  rw[hW];simpa using this
 have hsz:W.heap.size=w.heap.size+1+1:=by rw[hW];simp
 have k1:=k67 (W.alloc (.cells #[.bool na,.slice ua un uc,.int .i64 ea,.bool nb,.slice va vn vc,.int .i64 eb] 65)) (w.heap.size+1+1) (hBW.alloc hBW.size _) (by rw[←hsz];exact xG5 _ _)
 have HX:Hid (Bw w W∧W.heap.size=w.heap.size+1+1∧W.heap[w.heap.size]?=some (.cells #[.bool na,.slice ua un uc,.int .i64 ea] 65 (0,0))∧W.heap[w.heap.size+1]?=some (.cells #[.bool nb,.slice va vn vc,.int .i64 eb] 65 (0,0))):=⟨hBW,hsz,hbA,hbB⟩;have HT:Hid (Tab32 w∧Is w (.slice ua un uc) x∧dlen x≤3000∧Is w (.slice va vn vc) y∧dlen y≤3000∧y≠0):=⟨hT,h1,hx,h2,hy,hy0⟩;have k48:=fun W=>c48 mode hm W;clear hBW hsz hbA hbB k67 hT h1 hx h2 hy hy0
 go_enter Tryz.func80,Tryz.ntmps80
 go_wp2_with fail;rw[←hW];clear hW;refine k1.mono ?_;rintro r w1 ⟨rfl,hb1⟩;have HB1:Hid (Bw W w1):=((xV9 W.heap.size W).alloc (xV8 _) _).trans (hb1.mono (by simp))
 have HW1:Hid (Bw w w1):=HX.out.1.trans (HB1.out.mono HX.out.1.size);obtain⟨⟨a0,a1,a2⟩,-⟩:=qQ1 (qQ HX.out.2.2.1 HB1.out (by have:=HX.out.2.1;omega))
 obtain⟨⟨b0,b1,b2⟩,-⟩:=qQ1 (qQ HX.out.2.2.2 HB1.out (by have:=HX.out.2.1;omega))
 clear k1 hb1
 go_wp2_with fail;refine(k48 w1).mono ?_
 rintro r w1' ⟨rfl,hw⟩;replace hw:=hw.symm;subst hw;clear k48;have kla:∀ d,Calls Tryz.prog 141 #[.slice ua un uc] (w1.drewN d) fun e w'=>e=.returned (.int .i64 (bx:Nat))∧w'=w1.drewN d:=fun d=>by
  have:=c74 (w:=w1.drewN d) (HT.out.2.1.later (HW1.out.trans ⟨rfl,rfl,rfl,xV8 _,fun _ _=>rfl⟩)) (by have:=HT.out.2.2;omega)
  rw[hbx] at this;exact this
 have klb:∀ d,Calls Tryz.prog 141 #[.slice va vn vc] (w1.drewN d) fun e w'=>e=.returned (.int .i64 (by':Nat))∧w'=w1.drewN d:=fun d=>by
  have:=c74 (w:=w1.drewN d) (HT.out.2.2.2.1.later (HW1.out.trans ⟨rfl,rfl,rfl,xV8 _,fun _ _=>rfl⟩)) (by have:=HT.out.2.2;omega)
  rw[hby] at this;exact this
 go_wp2
 go_quiet (first|(go_at_call 141;first|(with_reducible refine Calls.quiet_of_same (klb _))|(with_reducible refine Calls.quiet_of_same (kla _))))
 have HB2:Hid (Below W.heap.size W (w1.drewN nq)):=HB1.out.trans ⟨rfl,rfl,rfl,xV8 _,fun _ _=>rfl⟩;obtain⟨w2,hw2⟩:∃ w2,w2=w1.drewN nq:=⟨_,rfl⟩;rw[←hw2] at HB2 ⊢;clear hw2 kla klb a0 a1 a2 b0 b1 b2;have HK:Hid (∀ w',Bw w2 w'→((w'.cell? ⟨w.heap.size,0,none⟩=some (.bool na)∧w'.cell? ⟨w.heap.size,1,none⟩=some (.slice ua un uc)∧w'.cell? ⟨w.heap.size,2,none⟩=some (.int .i64 ea))∧(w'.cell? ⟨w.heap.size+1,0,none⟩=some (.bool nb)∧w'.cell? ⟨w.heap.size+1,1,none⟩=some (.slice va vn vc)∧w'.cell? ⟨w.heap.size+1,2,none⟩=some (.int .i64 eb)))):=fun w' hb=>⟨(qQ1 (qQ HX.out.2.2.1 (HB2.out.trans (hb.mono HB2.out.size)) (by have:=HX.out.2.1;omega))).1,(qQ1 (qQ HX.out.2.2.2 (HB2.out.trans (hb.mono HB2.out.size)) (by have:=HX.out.2.1;omega))).1⟩
 obtain⟨⟨a0,a1,a2⟩,b0,b1,b2⟩:=HK.out w2 (xV9 _ _);have hBR:Bw w2 w2.drew:=(xV9 _ _).drew;have hl:dlen (x*2^k)≤7000:=by have:=qY4 (x:=x) (k:=k) rfl;have:=HT.out.2.2;omega
 have HL:Hid (dlen (x*2^k)≤7000):=hl;have kS:∀ w',Bw w2 w'→Calls Tryz.prog 143 #[.slice ua un uc,.int .i64 (k:Int)] w' fun e w''=>∃ v,e=.returned v∧Hid (Is w'' v (x*2^k))∧Bw w2 w'':=fun w' hb=>(c109 (HT.out.2.1.later (HX.out.1.trans ((HB2.out.trans (hb.mono HB2.out.size)).mono HX.out.1.size))) k (by have:=HT.out.2.2;omega) (by omega)).mono fun r w'' ⟨v,e1,e2,e3⟩=>⟨v,e1,e2.is,hb.trans (e3.mono hb.size)⟩
 have kD:∀ v w',Hid (Is w' v (x*2^k))→Bw w2 w'→Calls Tryz.prog 142 #[v,.slice va vn vc] w' fun e w''=>∃ q,e=.returned (.tuple #[q,.bool (decide (x*2^k % y=0))])∧Hid (Is w'' q (x*2^k / y))∧Bw w2 w'':=fun v w' hI hb=>(c100 hI.out (HT.out.2.2.2.1.later (HX.out.1.trans ((HB2.out.trans (hb.mono HB2.out.size)).mono HX.out.1.size))) (by have:=HL.out;omega) (by have:=HT.out.2.2.2.2;omega) HT.out.2.2.2.2.2).mono fun r w'' ⟨q,e1,e2,e3⟩=>⟨q,e1,e2.is,hb.trans (e3.mono hb.size)⟩
 obtain⟨xb,hxb⟩:∃ xb:Bool,xb=decide (x*2^k % y=0):=⟨_,rfl⟩;rw[←hxb] at kD;have HXB:Hid (xb=decide (x*2^k % y=0)):=hxb;clear hxb hl
 go_upto_region 8 with fail
 go_cut [9,10] from 42 to 50 (fun q b wx=>b=.bool xb∧Hid (Is wx q (x*2^k / y))∧Hid (Bw w2 wx))
 case first =>
  go_region_held3 (fun w'=>((w'.cell? ⟨w.heap.size,0,none⟩=some (.bool na)∧w'.cell? ⟨w.heap.size,1,none⟩=some (.slice ua un uc)∧w'.cell? ⟨w.heap.size,2,none⟩=some (.int .i64 ea))∧(w'.cell? ⟨w.heap.size+1,0,none⟩=some (.bool nb)∧w'.cell? ⟨w.heap.size+1,1,none⟩=some (.slice va vn vc)∧w'.cell? ⟨w.heap.size+1,2,none⟩=some (.int .i64 eb)))) (first|(with_reducible assumption)|exact⟨⟨a0,a1,a2⟩,b0,b1,b2⟩|(refine HK.out _ ?_;with_reducible assumption)|go_keep)
   (first|(go_at_call 143;refine(kS _ (by first|(with_reducible assumption)|exact hBR)).mono ?_;rintro r w5 ⟨v5,rfl,hI5,hb5⟩)|(go_at_call 142;refine(kD _ _ hI5 (by with_reducible assumption)).mono ?_;rintro r w6 ⟨v6,rfl,hI6,hb6⟩))
  all_goals go_wp2_with fail
  all_goals go_meet
  all_goals exact⟨rfl,hI6,hb6⟩
 case rest =>
  obtain⟨rfl,hI,hB⟩:=hcut;obtain⟨w3,rfl⟩:∃ w3:World,w3=wc:=⟨_,rfl⟩;have HB3:Hid (Bw W w3):=HB2.out.trans (hB.out.mono HB2.out.size);clear a0 a1 a2 b0 b1 b2 kS kD hBR;obtain⟨⟨a0,a1,a2⟩,b0,b1,b2⟩:=HK.out w3 hB.out;have kt:=c110 (neg:=sg) (exact:=xb) (e:=ea - eb - k) (mode:=mode) (HT.out.1.later (HX.out.1.trans (HB3.out.mono HX.out.1.size))) hI.out (xU7 (qZ5 (xU8 _ _)) (by have:=HL.out;omega)) (by omega) (by omega)
  go_wp2_with fail;rw[hsg.out];refine kt.mono ?_;rintro r w4 ⟨rfl,hb4⟩;have HB4:Hid (Bw W w4):=HB3.out.trans (hb4.mono HB3.out.size);clear kt hb4
  go_wp2;refine xG6 (xF rfl _ _ _) rfl ?_;exact⟨congrArg (fun b=>Ending.returned (Value.tuple #[.float .f64 (tfF sg b (x*2^k / y) (ea - eb - k) mode),.int .i64 0])) HXB.out,HX.out.1.trans (HB4.out.mono HX.out.1.size)⟩
end Go.Proofs.YtkcmhaknalomjaaGreatDoor
namespace Go.Proofs.YtkcmhaknalomjaaGreatDoor
end Go.Proofs.YtkcmhaknalomjaaGreatDoor
namespace Go.Proofs.YtkcmhaknalomjaaGreatDoor
open Go.RowKit Go.Fl64
open Ie
end Go.Proofs.YtkcmhaknalomjaaGreatDoor
/- A float is made anew of its odd part and its exponent, whatever the way of rounding. -/
namespace Go.Proofs.YtkcmhaknalomjaaGreatDoor.Ie
open Go.RowKit Go.Fl64
end Go.Proofs.YtkcmhaknalomjaaGreatDoor.Ie
namespace Go.Proofs.YtkcmhaknalomjaaGreatDoor
open Go.RowKit Go.Fl64
theorem zJ1 (a:Nat) (hf:mag a<9218868437227405312):val (mag a)=Ie.mant a*2^(Ie.lp a+1074).toNat ∧ -1074≤Ie.lp a∧Ie.lp a≤972:=by
 unfold val Ie.mant Ie.lp;by_cases h:mag a<4503599627370496
 ·rw[if_pos h,if_pos h];have:(-1075+max 1 ((mag a / 4503599627370496:Nat):Int)+1074).toNat=0:=by omega
  rw[this,xH4,xH8];exact⟨rfl,by omega,by omega⟩
 ·rw[if_neg h,if_neg h];have:(-1075+max 1 ((mag a / 4503599627370496:Nat):Int)+1074).toNat=mag a / 4503599627370496 - 1:=by omega
  rw[this];exact⟨rfl,by omega,by omega⟩
end Go.Proofs.YtkcmhaknalomjaaGreatDoor
namespace Go.Proofs.YtkcmhaknalomjaaGreatDoor
open Go.RowKit Go.Fl64
open Ie
end Go.Proofs.YtkcmhaknalomjaaGreatDoor
namespace Go.Proofs.YtkcmhaknalomjaaGreatDoor
open Go.RowKit Go.Fl64
theorem yX2 {a b:Int} {c:Nat} (hc:0<c):cmpI (a*(c:Int)) (b*(c:Int))=cmpI a b:=by
 have hc':(0:Int)<(c:Int):=by omega
 unfold cmpI;have h1:(a*(c:Int)<b*(c:Int))↔a<b:=⟨fun h=>Int.lt_of_mul_lt_mul_right h (Int.le_of_lt hc'),fun h=>Int.mul_lt_mul_of_pos_right h hc'⟩;have h2:(b*(c:Int)<a*(c:Int))↔b<a:=⟨fun h=>Int.lt_of_mul_lt_mul_right h (Int.le_of_lt hc'),fun h=>Int.mul_lt_mul_of_pos_right h hc'⟩;simp only[h1,h2]
theorem yX1 (a b:Int):cmpI (-a) (-b) = - cmpI a b:=by
 unfold cmpI;by_cases h1:a<b
 ·rw[if_neg (by omega),if_pos (by omega),if_pos h1];rfl
 ·by_cases h2:b<a
  ·rw[if_pos (by omega),if_neg h1,if_pos h2]
  ·rw[if_neg (by omega),if_neg (by omega),if_neg h1,if_neg h2];rfl
theorem yV1 (s:Bool) (x:Nat):sgI s (dlen x)=if x=0 then 0 else if s then -1 else 1:=by
 unfold sgI;by_cases h:x=0
 ·subst h;simp[qQ4]
 ·rw[if_neg (fun e=>h (qQ7.1 e)),if_neg h]
theorem yM6 {K:Nat} {na nb:Bool} {x y:Nat} {ea eb:Int} (h1:0≤ea+K) (h2:0≤eb+K):ordN na x ea nb y eb=cmpI (vz K na x ea) (vz K nb y eb):=by
 have hm:0≤min ea eb+(K:Int):=by omega
 have e1:vz K na x ea=vz K na (x*2^(ea - min ea eb).toNat) (min ea eb):=by
  rw[qN9 hm,show min ea eb+((ea - min ea eb).toNat:Int)=ea by omega]
 have e2:vz K nb y eb=vz K nb (y*2^(eb - min ea eb).toNat) (min ea eb):=by
  rw[qN9 hm,show min ea eb+((eb - min ea eb).toNat:Int)=eb by omega]
 have hx:x=0↔x*2^(ea - min ea eb).toNat=0:=by
  constructor
  ·rintro rfl;rw[Nat.zero_mul]
  ·intro h;rcases Nat.mul_eq_zero.1 h with h|h
   ·exact h
   ·have:=xU2 (ea - min ea eb).toNat;omega
 have hy:y=0↔y*2^(eb - min ea eb).toNat=0:=by
  constructor
  ·rintro rfl;rw[Nat.zero_mul]
  ·intro h;rcases Nat.mul_eq_zero.1 h with h|h
   ·exact h
   ·have:=xU2 (eb - min ea eb).toNat;omega
 rw[e1,e2];unfold ordN vz;rw[yX2 (xU2 _),yV1,yV1];generalize x*2^(ea - min ea eb).toNat=X at *;generalize y*2^(eb - min ea eb).toNat=Y at *;by_cases x0:x=0
 ·have X0:=hx.1 x0;rw[if_pos x0,X0];by_cases y0:y=0
  ·rw[if_pos y0,if_pos rfl,hy.1 y0,qD3,qD3];simp[cmpI]
  ·have Y0:Y≠0:=fun h=>y0 (hy.2 h);rw[if_neg y0,qD3];cases nb
   ·simp[sv,cmpI];omega
   ·simp[sv,cmpI];omega
 ·have X0:X≠0:=fun h=>x0 (hx.2 h);rw[if_neg x0];by_cases y0:y=0
  ·rw[if_pos y0,hy.1 y0,qD3];cases na
   ·simp[sv,cmpI];omega
   ·simp[sv,cmpI];omega
  ·have Y0:Y≠0:=fun h=>y0 (hy.2 h);rw[if_neg y0];cases na <;> cases nb
   ·simp[sv]
   ·simp[sv,cmpI];omega
   ·simp[sv,cmpI];omega
   ·simp only[if_true,sv];rw[yX1];omega
theorem cmp_gt {a b:Int} (h:b<a):0<cmpI a b:=by
 rcases qX7 a b with ⟨h1,h2⟩|⟨h1,h2⟩|⟨h1,h2⟩ <;> omega
end Go.Proofs.YtkcmhaknalomjaaGreatDoor
namespace Go.Proofs.YtkcmhaknalomjaaGreatDoor
open Go.RowKit Go.Fl64
open Ie
theorem xX4 (w:World):Calls Tryz.prog 25 #[.int .i64 (-1)] w fun r w'=>r=.returned (.float .f64 18442240474082181120)∧w'=w:=by
 have hb:=Ie.run_frombits
 go_enter Tryz.func25,Tryz.ntmps25
 go_wp2
 go_ret;exact⟨rfl,rfl⟩
end Go.Proofs.YtkcmhaknalomjaaGreatDoor
namespace Go.Proofs.YtkcmhaknalomjaaGreatDoor
end Go.Proofs.YtkcmhaknalomjaaGreatDoor
namespace Go.Proofs.YtkcmhaknalomjaaGreatDoor
open Go.RowKit Go.Fl64
open Ie
end Go.Proofs.YtkcmhaknalomjaaGreatDoor
namespace Go.Proofs.YtkcmhaknalomjaaGreatDoor
open Go.RowKit
end Go.Proofs.YtkcmhaknalomjaaGreatDoor
namespace Go.Proofs.YtkcmhaknalomjaaGreatDoor
open Go.RowKit Go.Fl64
open Ie
end Go.Proofs.YtkcmhaknalomjaaGreatDoor
namespace Go.Proofs.YtkcmhaknalomjaaGreatDoor
open Go.RowKit Go.Fl64
theorem yX0 (a m:Nat) (ha:a<18446744073709551616) (hf:mag a<9218868437227405312) (hm:Ie.sM a=(m:Int)):cn (neg a) m (Ie.sE a)=tF a:=by
 unfold tF cn;rcases zO3 a m ha hf hm with ⟨h1,h2⟩|⟨h1,h2,-,h3,h4⟩
 ·rw[if_pos h1,if_pos h2]
 ·rw[if_neg h1,if_neg h2,h3,h4]
theorem psign {t:Bool×Nat×Int} {A:Value} {w:World} (ok:Ok t) (h:PN w A t):Calls Tryz.prog 76 #[A] w fun r w'=>r=.returned (.int .i64 (sgI t.1 (dlen t.2.1)))∧Bw w w':=by
 obtain⟨ao,cap,rfl,h1⟩:=h;obtain⟨f1,-,-,-,-⟩:=ok.facts;exact yF2 h1 (by omega) ok
end Go.Proofs.YtkcmhaknalomjaaGreatDoor
namespace Go.Proofs.YtkcmhaknalomjaaGreatDoor
open Go Go.RowKit
end Go.Proofs.YtkcmhaknalomjaaGreatDoor
namespace Go.Proofs.YtkcmhaknalomjaaGreatDoor
open Go.RowKit Go.Fl64
end Go.Proofs.YtkcmhaknalomjaaGreatDoor
namespace Go.Proofs.YtkcmhaknalomjaaGreatDoor
open Go Go.RowKit Go.Fl64 Go.Shelf
attribute [local go_sem] Oper.semAt_some
attribute [local go_sem] Oper.semAt_some
end Go.Proofs.YtkcmhaknalomjaaGreatDoor
namespace Go.Proofs.YtkcmhaknalomjaaGreatDoor
open Go.RowKit Go.Fl64
end Go.Proofs.YtkcmhaknalomjaaGreatDoor
