/- Own work: contracts of the program's functions, part 10: RW3 RW4 RW5 RW6 RW7 RW8 RW9 RX1 W49 RX2 RX3 W50 L16 L10 L17 L14 W51 W52 FM FM2 F1 F6 F7 FM3 L6 L8 FM4 FM5 RT0 RT1. -/
import Derived.Test.YtbanebginnakhaaGreatDoorA9
import Derived.Test.YtbanebginnakhaaGreatDoorA8
import Derived.Test.YtbanebginnakhaaGreatDoorA3
import Derived.Test.YtbanebginnakhaaGreatDoorA4
import Derived.Test.YtbanebginnakhaaGreatDoorA7
import Derived.Test.YtbanebginnakhaaGreatDoorA6
import Derived.Test.YtbanebginnakhaaGreatDoorA1

set_option maxHeartbeats 16000000
set_option maxRecDepth 200000
set_option linter.unusedVariables false
set_option linter.unusedSimpArgs false
namespace Go.Proofs.YtbanebginnakhaaGreatDoor
open Go.RowKit
theorem zH5 {va:Option Addr} {vc q base:Nat} {place:Int} {w:World} {s6:Bool} {ao6:Option Addr} {n6 cap6:Nat} {ex6:Int} (h:NC w base (.agg #[.bool s6,.slice ao6 n6 cap6,.int .i64 ex6]) true q (-place)) (h1:At w va 1 1) (hvc:1≤vc) (hp1 : -1000000≤place) (hp2:place≤1000000) (hq:dlen q≤30000) :
  Calls Tryz.prog 187 #[.agg #[.bool s6,.slice ao6 n6 cap6,.int .i64 ex6],.agg #[.bool false,.slice va 1 vc,.int .i64 (-place)]] w fun r w'=>∃ a,r=.returned a∧NC w' w.heap.size a true (q+1) (-place)∧Bw w w':=by
 obtain⟨ao,cap,e,hA,-⟩:=h;rw[e];exact zW8 hA h1 hvc hp1 hp2 hq
theorem yC5 (na nb:Bool) (ua va:Option Addr) (uc vc x y k:Nat) (ea eb place:Int) (w:World) (sg ex:Bool) (NQ:Nat) (hNQ:Hid (NQ=if sg && !ex then(x*2^k) / (y)+1 else(x*2^k) / (y))) (hsg:(!(na==nb))=sg) (h1:At w ua (dlen x) x) (hu:dlen x≤uc) (h2:At w va (dlen y) y) (hv:dlen y≤vc) (hx0:x≠0) (hy0:y≠0) (hx:dlen x≤3000) (hy:dlen y≤3000)
  (he1 : -200000≤ea) (he2:ea≤200000) (he3 : -200000≤eb) (he4:eb≤200000) (hp1 : -200000≤place) (hp2:place≤200000) (hk:ea - eb+place=(k:Int)) (hk2:k≤600000) (hr:decide ((x*2^k) % (y)=0)=ex) :
  Calls Tryz.prog 149 #[.agg #[.bool na,.slice ua (dlen x) uc,.int .i64 ea],.agg #[.bool nb,.slice va (dlen y) vc,.int .i64 eb],.int .i64 place] w fun r w'=>∃ A,r=.returned (.tuple #[A,.bool ex])∧NC w' w.heap.size A sg NQ (-place)∧Bw w w':=by
 obtain⟨W,hW⟩:∃ W,W=((w.alloc (.cells #[.bool na,.slice ua (dlen x) uc,.int .i64 ea] 132)).alloc (.cells #[.bool nb,.slice va (dlen y) vc,.int .i64 eb] 132)).alloc (.cells #[.bool false,.slice none 0 0,.int .i64 0] 132):=⟨_,rfl⟩;obtain⟨hA,hBb,hC,hsz,hBW⟩:=qK0 _ _ _ hW;have HH:Hid ((W.heap[w.heap.size]?=some (.cells #[.bool na,.slice ua (dlen x) uc,.int .i64 ea] 132 (0,0))∧W.heap[w.heap.size+1]?=some (.cells #[.bool nb,.slice va (dlen y) vc,.int .i64 eb] 132 (0,0))∧W.heap[w.heap.size+1+1]?=some (.cells #[.bool false,.slice none 0 0,.int .i64 0] 132 (0,0)))∧W.heap.size=w.heap.size+1+1+1∧Bw w W):=⟨⟨hA,hBb,hC⟩,hsz,hBW⟩;obtain⟨⟨a0,a1,a2⟩,-⟩:=qQ0 hA;obtain⟨⟨b0,b1,b2⟩,-⟩:=qQ0 hBb;have HI:Hid (Ir w (.slice ua (dlen x) uc) x∧Ir w (.slice va (dlen y) vc) y):=⟨⟨ua,uc,rfl,hu,h1⟩,⟨va,vc,rfl,hv,h2⟩⟩;have HN:Hid ((x≠0∧y≠0∧dlen x≤3000∧dlen y≤3000∧k≤600000)∧decide ((x*2^k) % (y)=0)=ex):=⟨⟨hx0,hy0,hx,hy,hk2⟩,hr⟩;have hxz:((dlen x:Int)==0)=false:=qY9 (n:=0) hx0;clear hA hBb hC hsz hBW h1 h2 hr;generalize hdx:dlen x=lx at *;generalize hdy:dlen y=ly at *;rw[hW] at a0 a1 a2 b0 b1 b2
 go_enter Tryz.func149,Tryz.ntmps149
 go_wp2
 go_quiet (fail)
 rw[←hW];have HBW1:Hid (Below W.heap.size W (W.drewN nq)):=(⟨rfl,rfl,rfl,xL0 _,fun _ _=>rfl⟩:Below W.heap.size W (W.drewN nq));obtain⟨W1,hW1⟩:∃ W1,W1=W.drewN nq:=⟨_,rfl⟩;rw[←hW1] at HBW1 ⊢;clear hW hW1 a0 a1 a2 b0 b1 b2;have HIW:Hid (Ir W1 (.slice ua lx uc) x∧Ir W1 (.slice va ly vc) y):=⟨HI.out.1.later (HH.out.2.2.trans (HBW1.out.mono HH.out.2.2.size)),HI.out.2.later (HH.out.2.2.trans (HBW1.out.mono HH.out.2.2.size))⟩;have ku:=rup HIW.out.1 k (by have:=HN.out.1;omega) (by omega)
 go_wp2_with fail;refine ku.mono ?_;rintro r w4 ⟨vu,rfl,hIu,hb4⟩;have HB4:Hid (Bw W w4):=HBW1.out.trans (hb4.mono HBW1.out.size);have hl:dlen (x*2^k)≤25000:=by
  have:=qK1 (x:=x) (k:=k) rfl
  have:=HN.out.1
  omega
 have kd:=zC hIu (HIW.out.2.later hb4) (Nat.mul_ne_zero HN.out.1.1 (by have:=xL5 k;omega)) HN.out.1.2.1 (by omega) (by have:=HN.out.1;omega)
 have HO:Hid (Ir w4 vu (x*2^k)):=hIu;clear ku hIu hb4
 go_wp2_with fail;refine kd.mono ?_;rintro r w5 ⟨vq,vr,rfl,hIq,hIr,hb5⟩;have HB5:Hid (Bw W w5):=HB4.out.trans (hb5.mono HB4.out.size);obtain⟨⟨a0,a1,a2⟩,-⟩:=qQ0 (qQ HH.out.1.1 HB5.out (by have:=HH.out.2.1;omega))
 obtain⟨⟨b0,b1,b2⟩,-⟩:=qQ0 (qQ HH.out.1.2.1 HB5.out (by have:=HH.out.2.1;omega))
 obtain⟨rr,rcap,rfl,hrc,hrA⟩:=hIr;have hql:dlen ((x*2^k) / (y))≤30000:=xW (qZ3 (xW0 _ _)) (by omega)
 have kn:=zY2 (neg:=sg) (e := -place) hIq (by omega) (by omega)
 have HQL:Hid (dlen ((x*2^k) / (y))≤30000):=hql;have hrl:((dlen ((x*2^k) % (y)):Int)==0)=ex:=by
  rw[←HN.out.2];by_cases hz:(x*2^k) % (y)=0
  ·rw[hz,qQ5];rfl
  ·rw[qY9 (n:=0) hz,xL3 hz]
 clear kd hIq hb5 hrA hql hl;generalize hdr:dlen ((x*2^k) % (y))=lr at *
 go_wp2_with fail;refine kn.mono ?_;rintro r w6 ⟨A,rfl,hN6,hb6⟩;obtain⟨s6,ao6,n6,cap6,ex6,rfl⟩:=hN6.shape;have HB6:Hid (Bw W w6):=HB5.out.trans (hb6.mono HB5.out.size);have HN6:Hid (NC w6 w5.heap.size (.agg #[.bool s6,.slice ao6 n6 cap6,.int .i64 ex6]) sg ((x*2^k) / (y)) (-place)):=hN6;obtain⟨w7,hw7⟩:∃ w7,w7=w6.alloc (.cells #[.bool s6,.slice ao6 n6 cap6,.int .i64 ex6] 132):=⟨_,rfl⟩;have hB67:Bw w6 w7:=by rw[hw7];exact(xL1 _ _).alloc (xL0 _) _
 have HB7:Hid (Bw W w7):=HB6.out.trans (hB67.mono HB6.out.size);have hbox:w7.heap[w6.heap.size]?=some (.cells #[.bool s6,.slice ao6 n6 cap6,.int .i64 ex6] 132 (0,0)):=by rw[hw7];exact xW8 _ _
 have HBX:Hid (w7.heap[w6.heap.size]?=some (.cells #[.bool s6,.slice ao6 n6 cap6,.int .i64 ex6] 132 (0,0))∧Bw w6 w7):=⟨hbox,hB67⟩;have hres:=qQ HH.out.1.2.2 HB7.out (by have:=HH.out.2.1;omega)
 have HRES:Hid (w7.heap[w.heap.size+1+1]?=some (.cells #[.bool false,.slice none 0 0,.int .i64 0] 132 (0,0))):=hres;obtain⟨⟨c0,c1,c2⟩,c3,c4,c5⟩:=qQ0 hres;obtain⟨⟨d0,d1,d2⟩,d3,d4,d5⟩:=qQ0 hbox;clear kn hN6 hb6 hbox hres hB67 a0 a1 a2 b0 b1 b2;rw[hw7] at c0 c1 c2 c3 c4 c5 d0 d1 d2 d3 d4 d5;cases ex
 ·cases sg
  ·obtain rfl:NQ=(x*2^k) / (y):=hNQ.out
   go_wp2;rw[←hw7];refine xW9 (qQ4 rfl _ _ (w.heap.size+1+1) 132 #[.bool s6,.slice ao6 n6 cap6,.int .i64 ex6] (0,0) _ rfl (qX1 _ _ _ HRES.out) Tryz.underlying132 rfl Tryz.info132) rfl ?_;have q1:=HH.out.2.1;have q2:=HB5.out.size;exact⟨_,rfl,((HN6.out.later HBX.out.2).store (by omega) _ _ _).mono (by omega),qQ3 (HH.out.2.2.trans (HB7.out.mono HH.out.2.2.size)) (by omega) _ _ _⟩
  ·obtain rfl:NQ=(x*2^k) / (y)+1:=hNQ.out;have HK:Hid (∀ w',Bw w7 w'→(w'.cell? ⟨w6.heap.size,0,none⟩=some (.bool s6)∧w'.cell? ⟨w6.heap.size,1,none⟩=some (.slice ao6 n6 cap6)∧w'.cell? ⟨w6.heap.size,2,none⟩=some (.int .i64 ex6))):=fun w' hb=>(qQ0 (qQ HBX.out.1 hb (by have:=HBX.out.1;exact(Array.getElem?_eq_some_iff.1 this).1))).1
   have kO:∀ w8,Bw w7 w8→Calls Tryz.prog 188 #[.int .i64 place] w8 fun r w'=>∃ g,r=.returned (.agg #[.bool false,.slice (some ⟨g,0,none⟩) 1 1,.int .i64 (-place)])∧Hid (At w' (some ⟨g,0,none⟩) 1 1)∧Bw w7 w'∧(w'.cell? ⟨w6.heap.size,0,none⟩=some (.bool s6)∧w'.cell? ⟨w6.heap.size,1,none⟩=some (.slice ao6 n6 cap6)∧w'.cell? ⟨w6.heap.size,2,none⟩=some (.int .i64 ex6)):=fun w8 hb=>(rone place w8 (by omega) (by omega)).mono fun r w' ⟨g,e1,e2,e3,e4⟩=>⟨g,e1,e3,hb.trans (e4.mono hb.size),HK.out w' (hb.trans (e4.mono hb.size))⟩
   have kL:∀ g w9,Hid (At w9 (some ⟨g,0,none⟩) 1 1)→Bw w7 w9→Calls Tryz.prog 187 #[.agg #[.bool s6,.slice ao6 n6 cap6,.int .i64 ex6],.agg #[.bool false,.slice (some ⟨g,0,none⟩) 1 1,.int .i64 (-place)]] w9 fun r w'=>∃ s ao n cap ex,r=.returned (.agg #[.bool s,.slice ao n cap,.int .i64 ex])∧Hid (NC w' w7.heap.size (.agg #[.bool s,.slice ao n cap,.int .i64 ex]) true ((x*2^k) / (y)+1) (-place))∧Bw w7 w'∧Hid (w'.heap[w6.heap.size]?=some (.cells #[.bool s6,.slice ao6 n6 cap6,.int .i64 ex6] 132 (0,0)))∧(w'.cell? ⟨w6.heap.size,0,none⟩=some (.bool s6)∧w'.cell? ⟨w6.heap.size,1,none⟩=some (.slice ao6 n6 cap6)∧w'.cell? ⟨w6.heap.size,2,none⟩=some (.int .i64 ex6))∧(w'.frozen? ⟨w6.heap.size,0,none⟩=false∧w'.frozen? ⟨w6.heap.size,1,none⟩=false∧w'.frozen? ⟨w6.heap.size,2,none⟩=false):=by
    intro g w9 hA hb;refine(zH5 ((HN6.out.later HBX.out.2).later hb) hA.out (xL0 _) (by omega) (by omega) HQL.out).mono ?_
    rintro r w10 ⟨A,rfl,hN,hb10⟩;obtain⟨s,ao,n,cap,ex,rfl⟩:=hN.shape;have hbb:=hb.trans (hb10.mono hb.size);have hblk:=qQ HBX.out.1 hbb (by have:=HBX.out.1;exact(Array.getElem?_eq_some_iff.1 this).1)
    obtain⟨f1,f2⟩:=qQ0 hblk;exact⟨s,ao,n,cap,ex,rfl,hN.mono hb.size,hbb,hblk,f1,f2⟩
   have hBR:Bw w7 w7.drew:=(xL1 _ _).drew;have e0:w7.cell? ⟨w6.heap.size,0,none⟩=some (.bool s6)∧w7.cell? ⟨w6.heap.size,1,none⟩=some (.slice ao6 n6 cap6)∧w7.cell? ⟨w6.heap.size,2,none⟩=some (.int .i64 ex6):=HK.out w7 (xL1 _ _)
   go_upto_region 14 with fail;rw[←hw7];clear hw7 c0 c1 c2 c3 c4 c5 d0 d1 d2 d3 d4 d5;obtain⟨d0,d1,d2⟩:=e0
   go_cut [64] from 61 to 64 (fun v wx=>∃ s ao n cap ex,v=.agg #[.bool s,.slice ao n cap,.int .i64 ex]∧Hid (NC wx w7.heap.size (.agg #[.bool s,.slice ao n cap,.int .i64 ex]) true ((x*2^k) / (y)+1) (-place))∧Hid (wx.heap[w6.heap.size]?=some (.cells #[.bool s,.slice ao n cap,.int .i64 ex] 132 (0,0)))∧Hid (Below w6.heap.size w7 wx))
   case first =>
    go_region_with (first|(go_at_call 188;refine(kO _ (by first|(with_reducible assumption)|exact hBR|exact xL1 _ _)).mono ?_;rintro r w8 ⟨g8,rfl,hA8,hb8,⟨y1,y2,y3⟩⟩)|(go_at_call 187;refine(kL _ _ hA8 (by with_reducible assumption)).mono ?_;rintro r w9 ⟨s9,ao9,n9,cap9,ex9,rfl,hN9,hb9,hblk9,⟨x1,x2,x3⟩,x4,x5,x6⟩))
    all_goals go_wp2_with fail
    all_goals go_meet
    all_goals exact⟨s9,ao9,n9,cap9,ex9,rfl,hN9.out.store (Array.getElem?_eq_some_iff.1 HBX.out.1).1 _ _ _,qX1 _ _ _ hblk9.out,qQ3 (hb9.mono HBX.out.2.size) (xL0 _) _ _ _⟩
   case rest =>
    obtain⟨s9,ao9,n9,cap9,ex9,rfl,hN9,hB9,hL9⟩:=hcut;obtain⟨wx,rfl⟩:∃ wx:World,wx=wc:=⟨_,rfl⟩;have q1:=HH.out.2.1;have q2:=HB6.out.size;have q3:=HB7.out.size;have HBx:Hid (Bw W wx):=HB7.out.trans (hL9.out.mono HB6.out.size);have hres:=qQ HH.out.1.2.2 HBx.out (by omega)
    have HRES2:Hid (wx.heap[w.heap.size+1+1]?=some (.cells #[.bool false,.slice none 0 0,.int .i64 0] 132 (0,0))):=hres;obtain⟨⟨c0,c1,c2⟩,c3,c4,c5⟩:=qQ0 hres;clear d0 d1 d2;obtain⟨⟨d0,d1,d2⟩,d3,d4,d5⟩:=qQ0 hB9.out;clear kO kL hBR hres
    go_wp2;refine xW9 (qQ4 rfl _ _ (w.heap.size+1+1) 132 #[.bool s9,.slice ao9 n9 cap9,.int .i64 ex9] (0,0) _ rfl (qX1 _ _ _ HRES2.out) Tryz.underlying132 rfl Tryz.info132) rfl ?_;exact⟨_,rfl,(hN9.out.store (by omega) _ _ _).mono (by omega),qQ3 (HH.out.2.2.trans (HBx.out.mono HH.out.2.2.size)) (by omega) _ _ _⟩
 ·obtain rfl:NQ=(x*2^k) / (y):=by have h:=hNQ.out;cases sg <;> exact h
  go_wp2;rw[←hw7];refine xW9 (qQ4 rfl _ _ (w.heap.size+1+1) 132 #[.bool s6,.slice ao6 n6 cap6,.int .i64 ex6] (0,0) _ rfl (qX1 _ _ _ HRES.out) Tryz.underlying132 rfl Tryz.info132) rfl ?_;have q1:=HH.out.2.1;have q2:=HB5.out.size;exact⟨_,rfl,((HN6.out.later HBX.out.2).store (by omega) _ _ _).mono (by omega),qQ3 (HH.out.2.2.trans (HB7.out.mono HH.out.2.2.size)) (by omega) _ _ _⟩
theorem yC4 (na nb:Bool) (ua va:Option Addr) (uc vc x y k:Nat) (ea eb place:Int) (w:World) (sg ex:Bool) (NQ:Nat) (hNQ:Hid (NQ=if sg && !ex then(x) / (y*2^k)+1 else(x) / (y*2^k))) (hsg:(!(na==nb))=sg) (h1:At w ua (dlen x) x) (hu:dlen x≤uc) (h2:At w va (dlen y) y) (hv:dlen y≤vc) (hx0:x≠0) (hy0:y≠0) (hx:dlen x≤3000) (hy:dlen y≤3000)
  (he1 : -200000≤ea) (he2:ea≤200000) (he3 : -200000≤eb) (he4:eb≤200000) (hp1 : -200000≤place) (hp2:place≤200000) (hk:ea - eb+place = -(k:Int)) (hk1:0<k) (hk2:k≤600000) (hr:decide ((x) % (y*2^k)=0)=ex) :
  Calls Tryz.prog 149 #[.agg #[.bool na,.slice ua (dlen x) uc,.int .i64 ea],.agg #[.bool nb,.slice va (dlen y) vc,.int .i64 eb],.int .i64 place] w fun r w'=>∃ A,r=.returned (.tuple #[A,.bool ex])∧NC w' w.heap.size A sg NQ (-place)∧Bw w w':=by
 obtain⟨W,hW⟩:∃ W,W=((w.alloc (.cells #[.bool na,.slice ua (dlen x) uc,.int .i64 ea] 132)).alloc (.cells #[.bool nb,.slice va (dlen y) vc,.int .i64 eb] 132)).alloc (.cells #[.bool false,.slice none 0 0,.int .i64 0] 132):=⟨_,rfl⟩;obtain⟨hA,hBb,hC,hsz,hBW⟩:=qK0 _ _ _ hW;have HH:Hid ((W.heap[w.heap.size]?=some (.cells #[.bool na,.slice ua (dlen x) uc,.int .i64 ea] 132 (0,0))∧W.heap[w.heap.size+1]?=some (.cells #[.bool nb,.slice va (dlen y) vc,.int .i64 eb] 132 (0,0))∧W.heap[w.heap.size+1+1]?=some (.cells #[.bool false,.slice none 0 0,.int .i64 0] 132 (0,0)))∧W.heap.size=w.heap.size+1+1+1∧Bw w W):=⟨⟨hA,hBb,hC⟩,hsz,hBW⟩;obtain⟨⟨a0,a1,a2⟩,-⟩:=qQ0 hA;obtain⟨⟨b0,b1,b2⟩,-⟩:=qQ0 hBb;have HI:Hid (Ir w (.slice ua (dlen x) uc) x∧Ir w (.slice va (dlen y) vc) y):=⟨⟨ua,uc,rfl,hu,h1⟩,⟨va,vc,rfl,hv,h2⟩⟩;have HN:Hid ((x≠0∧y≠0∧dlen x≤3000∧dlen y≤3000∧k≤600000)∧decide ((x) % (y*2^k)=0)=ex):=⟨⟨hx0,hy0,hx,hy,hk2⟩,hr⟩;have hxz:((dlen x:Int)==0)=false:=qY9 (n:=0) hx0;clear hA hBb hC hsz hBW h1 h2 hr;generalize hdx:dlen x=lx at *;generalize hdy:dlen y=ly at *;rw[hW] at a0 a1 a2 b0 b1 b2
 go_enter Tryz.func149,Tryz.ntmps149
 go_wp2
 go_quiet (fail)
 rw[←hW];have HBW1:Hid (Below W.heap.size W (W.drewN nq)):=(⟨rfl,rfl,rfl,xL0 _,fun _ _=>rfl⟩:Below W.heap.size W (W.drewN nq));obtain⟨W1,hW1⟩:∃ W1,W1=W.drewN nq:=⟨_,rfl⟩;rw[←hW1] at HBW1 ⊢;clear hW hW1 a0 a1 a2 b0 b1 b2;have HIW:Hid (Ir W1 (.slice ua lx uc) x∧Ir W1 (.slice va ly vc) y):=⟨HI.out.1.later (HH.out.2.2.trans (HBW1.out.mono HH.out.2.2.size)),HI.out.2.later (HH.out.2.2.trans (HBW1.out.mono HH.out.2.2.size))⟩;have ku:=rup HIW.out.2 k (by have:=HN.out.1;omega) (by omega)
 go_wp2_with fail;refine ku.mono ?_;rintro r w4 ⟨vu,rfl,hIu,hb4⟩;have HB4:Hid (Bw W w4):=HBW1.out.trans (hb4.mono HBW1.out.size);have hl:dlen (y*2^k)≤25000:=by
  have:=qK1 (x:=y) (k:=k) rfl
  have:=HN.out.1
  omega
 have kd:=zC (HIW.out.1.later hb4) hIu HN.out.1.1 (Nat.mul_ne_zero HN.out.1.2.1 (by have:=xL5 k;omega)) (by have:=HN.out.1;omega) (by omega)
 have HO:Hid (Ir w4 vu (y*2^k)):=hIu;clear ku hIu hb4
 go_wp2_with fail;refine kd.mono ?_;rintro r w5 ⟨vq,vr,rfl,hIq,hIr,hb5⟩;have HB5:Hid (Bw W w5):=HB4.out.trans (hb5.mono HB4.out.size);obtain⟨⟨a0,a1,a2⟩,-⟩:=qQ0 (qQ HH.out.1.1 HB5.out (by have:=HH.out.2.1;omega))
 obtain⟨⟨b0,b1,b2⟩,-⟩:=qQ0 (qQ HH.out.1.2.1 HB5.out (by have:=HH.out.2.1;omega))
 obtain⟨rr,rcap,rfl,hrc,hrA⟩:=hIr;have hql:dlen ((x) / (y*2^k))≤30000:=xW (qZ3 (xW0 _ _)) (by have:=HN.out.1;omega)
 have kn:=zY2 (neg:=sg) (e := -place) hIq (by omega) (by omega)
 have HQL:Hid (dlen ((x) / (y*2^k))≤30000):=hql;have hrl:((dlen ((x) % (y*2^k)):Int)==0)=ex:=by
  rw[←HN.out.2];by_cases hz:(x) % (y*2^k)=0
  ·rw[hz,qQ5];rfl
  ·rw[qY9 (n:=0) hz,xL3 hz]
 clear kd hIq hb5 hrA hql hl;generalize hdr:dlen ((x) % (y*2^k))=lr at *
 go_wp2_with fail;refine kn.mono ?_;rintro r w6 ⟨A,rfl,hN6,hb6⟩;obtain⟨s6,ao6,n6,cap6,ex6,rfl⟩:=hN6.shape;have HB6:Hid (Bw W w6):=HB5.out.trans (hb6.mono HB5.out.size);have HN6:Hid (NC w6 w5.heap.size (.agg #[.bool s6,.slice ao6 n6 cap6,.int .i64 ex6]) sg ((x) / (y*2^k)) (-place)):=hN6;obtain⟨w7,hw7⟩:∃ w7,w7=w6.alloc (.cells #[.bool s6,.slice ao6 n6 cap6,.int .i64 ex6] 132):=⟨_,rfl⟩;have hB67:Bw w6 w7:=by rw[hw7];exact(xL1 _ _).alloc (xL0 _) _
 have HB7:Hid (Bw W w7):=HB6.out.trans (hB67.mono HB6.out.size);have hbox:w7.heap[w6.heap.size]?=some (.cells #[.bool s6,.slice ao6 n6 cap6,.int .i64 ex6] 132 (0,0)):=by rw[hw7];exact xW8 _ _
 have HBX:Hid (w7.heap[w6.heap.size]?=some (.cells #[.bool s6,.slice ao6 n6 cap6,.int .i64 ex6] 132 (0,0))∧Bw w6 w7):=⟨hbox,hB67⟩;have hres:=qQ HH.out.1.2.2 HB7.out (by have:=HH.out.2.1;omega)
 have HRES:Hid (w7.heap[w.heap.size+1+1]?=some (.cells #[.bool false,.slice none 0 0,.int .i64 0] 132 (0,0))):=hres;obtain⟨⟨c0,c1,c2⟩,c3,c4,c5⟩:=qQ0 hres;obtain⟨⟨d0,d1,d2⟩,d3,d4,d5⟩:=qQ0 hbox;clear kn hN6 hb6 hbox hres hB67 a0 a1 a2 b0 b1 b2;rw[hw7] at c0 c1 c2 c3 c4 c5 d0 d1 d2 d3 d4 d5;cases ex
 ·cases sg
  ·obtain rfl:NQ=(x) / (y*2^k):=hNQ.out
   go_wp2;rw[←hw7];refine xW9 (qQ4 rfl _ _ (w.heap.size+1+1) 132 #[.bool s6,.slice ao6 n6 cap6,.int .i64 ex6] (0,0) _ rfl (qX1 _ _ _ HRES.out) Tryz.underlying132 rfl Tryz.info132) rfl ?_;have q1:=HH.out.2.1;have q2:=HB5.out.size;exact⟨_,rfl,((HN6.out.later HBX.out.2).store (by omega) _ _ _).mono (by omega),qQ3 (HH.out.2.2.trans (HB7.out.mono HH.out.2.2.size)) (by omega) _ _ _⟩
  ·obtain rfl:NQ=(x) / (y*2^k)+1:=hNQ.out;have HK:Hid (∀ w',Bw w7 w'→(w'.cell? ⟨w6.heap.size,0,none⟩=some (.bool s6)∧w'.cell? ⟨w6.heap.size,1,none⟩=some (.slice ao6 n6 cap6)∧w'.cell? ⟨w6.heap.size,2,none⟩=some (.int .i64 ex6))):=fun w' hb=>(qQ0 (qQ HBX.out.1 hb (by have:=HBX.out.1;exact(Array.getElem?_eq_some_iff.1 this).1))).1
   have kO:∀ w8,Bw w7 w8→Calls Tryz.prog 188 #[.int .i64 place] w8 fun r w'=>∃ g,r=.returned (.agg #[.bool false,.slice (some ⟨g,0,none⟩) 1 1,.int .i64 (-place)])∧Hid (At w' (some ⟨g,0,none⟩) 1 1)∧Bw w7 w'∧(w'.cell? ⟨w6.heap.size,0,none⟩=some (.bool s6)∧w'.cell? ⟨w6.heap.size,1,none⟩=some (.slice ao6 n6 cap6)∧w'.cell? ⟨w6.heap.size,2,none⟩=some (.int .i64 ex6)):=fun w8 hb=>(rone place w8 (by omega) (by omega)).mono fun r w' ⟨g,e1,e2,e3,e4⟩=>⟨g,e1,e3,hb.trans (e4.mono hb.size),HK.out w' (hb.trans (e4.mono hb.size))⟩
   have kL:∀ g w9,Hid (At w9 (some ⟨g,0,none⟩) 1 1)→Bw w7 w9→Calls Tryz.prog 187 #[.agg #[.bool s6,.slice ao6 n6 cap6,.int .i64 ex6],.agg #[.bool false,.slice (some ⟨g,0,none⟩) 1 1,.int .i64 (-place)]] w9 fun r w'=>∃ s ao n cap ex,r=.returned (.agg #[.bool s,.slice ao n cap,.int .i64 ex])∧Hid (NC w' w7.heap.size (.agg #[.bool s,.slice ao n cap,.int .i64 ex]) true ((x) / (y*2^k)+1) (-place))∧Bw w7 w'∧Hid (w'.heap[w6.heap.size]?=some (.cells #[.bool s6,.slice ao6 n6 cap6,.int .i64 ex6] 132 (0,0)))∧(w'.cell? ⟨w6.heap.size,0,none⟩=some (.bool s6)∧w'.cell? ⟨w6.heap.size,1,none⟩=some (.slice ao6 n6 cap6)∧w'.cell? ⟨w6.heap.size,2,none⟩=some (.int .i64 ex6))∧(w'.frozen? ⟨w6.heap.size,0,none⟩=false∧w'.frozen? ⟨w6.heap.size,1,none⟩=false∧w'.frozen? ⟨w6.heap.size,2,none⟩=false):=by
    intro g w9 hA hb;refine(zH5 ((HN6.out.later HBX.out.2).later hb) hA.out (xL0 _) (by omega) (by omega) HQL.out).mono ?_
    rintro r w10 ⟨A,rfl,hN,hb10⟩;obtain⟨s,ao,n,cap,ex,rfl⟩:=hN.shape;have hbb:=hb.trans (hb10.mono hb.size);have hblk:=qQ HBX.out.1 hbb (by have:=HBX.out.1;exact(Array.getElem?_eq_some_iff.1 this).1)
    obtain⟨f1,f2⟩:=qQ0 hblk;exact⟨s,ao,n,cap,ex,rfl,hN.mono hb.size,hbb,hblk,f1,f2⟩
   have hBR:Bw w7 w7.drew:=(xL1 _ _).drew;have e0:w7.cell? ⟨w6.heap.size,0,none⟩=some (.bool s6)∧w7.cell? ⟨w6.heap.size,1,none⟩=some (.slice ao6 n6 cap6)∧w7.cell? ⟨w6.heap.size,2,none⟩=some (.int .i64 ex6):=HK.out w7 (xL1 _ _)
   go_upto_region 14 with fail;rw[←hw7];clear hw7 c0 c1 c2 c3 c4 c5 d0 d1 d2 d3 d4 d5;obtain⟨d0,d1,d2⟩:=e0
   go_cut [64] from 61 to 64 (fun v wx=>∃ s ao n cap ex,v=.agg #[.bool s,.slice ao n cap,.int .i64 ex]∧Hid (NC wx w7.heap.size (.agg #[.bool s,.slice ao n cap,.int .i64 ex]) true ((x) / (y*2^k)+1) (-place))∧Hid (wx.heap[w6.heap.size]?=some (.cells #[.bool s,.slice ao n cap,.int .i64 ex] 132 (0,0)))∧Hid (Below w6.heap.size w7 wx))
   case first =>
    go_region_with (first|(go_at_call 188;refine(kO _ (by first|(with_reducible assumption)|exact hBR|exact xL1 _ _)).mono ?_;rintro r w8 ⟨g8,rfl,hA8,hb8,⟨y1,y2,y3⟩⟩)|(go_at_call 187;refine(kL _ _ hA8 (by with_reducible assumption)).mono ?_;rintro r w9 ⟨s9,ao9,n9,cap9,ex9,rfl,hN9,hb9,hblk9,⟨x1,x2,x3⟩,x4,x5,x6⟩))
    all_goals go_wp2_with fail
    all_goals go_meet
    all_goals exact⟨s9,ao9,n9,cap9,ex9,rfl,hN9.out.store (Array.getElem?_eq_some_iff.1 HBX.out.1).1 _ _ _,qX1 _ _ _ hblk9.out,qQ3 (hb9.mono HBX.out.2.size) (xL0 _) _ _ _⟩
   case rest =>
    obtain⟨s9,ao9,n9,cap9,ex9,rfl,hN9,hB9,hL9⟩:=hcut;obtain⟨wx,rfl⟩:∃ wx:World,wx=wc:=⟨_,rfl⟩;have q1:=HH.out.2.1;have q2:=HB6.out.size;have q3:=HB7.out.size;have HBx:Hid (Bw W wx):=HB7.out.trans (hL9.out.mono HB6.out.size);have hres:=qQ HH.out.1.2.2 HBx.out (by omega)
    have HRES2:Hid (wx.heap[w.heap.size+1+1]?=some (.cells #[.bool false,.slice none 0 0,.int .i64 0] 132 (0,0))):=hres;obtain⟨⟨c0,c1,c2⟩,c3,c4,c5⟩:=qQ0 hres;clear d0 d1 d2;obtain⟨⟨d0,d1,d2⟩,d3,d4,d5⟩:=qQ0 hB9.out;clear kO kL hBR hres
    go_wp2;refine xW9 (qQ4 rfl _ _ (w.heap.size+1+1) 132 #[.bool s9,.slice ao9 n9 cap9,.int .i64 ex9] (0,0) _ rfl (qX1 _ _ _ HRES2.out) Tryz.underlying132 rfl Tryz.info132) rfl ?_;exact⟨_,rfl,(hN9.out.store (by omega) _ _ _).mono (by omega),qQ3 (HH.out.2.2.trans (HBx.out.mono HH.out.2.2.size)) (by omega) _ _ _⟩
 ·obtain rfl:NQ=(x) / (y*2^k):=by have h:=hNQ.out;cases sg <;> exact h
  go_wp2;rw[←hw7];refine xW9 (qQ4 rfl _ _ (w.heap.size+1+1) 132 #[.bool s6,.slice ao6 n6 cap6,.int .i64 ex6] (0,0) _ rfl (qX1 _ _ _ HRES.out) Tryz.underlying132 rfl Tryz.info132) rfl ?_;have q1:=HH.out.2.1;have q2:=HB5.out.size;exact⟨_,rfl,((HN6.out.later HBX.out.2).store (by omega) _ _ _).mono (by omega),qQ3 (HH.out.2.2.trans (HB7.out.mono HH.out.2.2.size)) (by omega) _ _ _⟩
theorem yC6 (na nb:Bool) (ua va:Option Addr) (uc vn vc:Nat) (ea eb place:Int) (w:World) :
  Calls Tryz.prog 149 #[.agg #[.bool na,.slice ua 0 uc,.int .i64 ea],.agg #[.bool nb,.slice va vn vc,.int .i64 eb],.int .i64 place] w fun r w'=>r=.returned (.tuple #[.agg #[.bool false,.slice none 0 0,.int .i64 0],.bool true])∧Bw w w':=by
 obtain⟨W,hW⟩:∃ W,W=((w.alloc (.cells #[.bool na,.slice ua 0 uc,.int .i64 ea] 132)).alloc (.cells #[.bool nb,.slice va vn vc,.int .i64 eb] 132)).alloc (.cells #[.bool false,.slice none 0 0,.int .i64 0] 132):=⟨_,rfl⟩;obtain⟨hA,hBb,hC,hsz,hBW⟩:=qK0 _ _ _ hW;have HH:Hid (W.heap[w.heap.size+1+1]?=some (.cells #[.bool false,.slice none 0 0,.int .i64 0] 132 (0,0))∧Bw w W):=⟨hC,hBW⟩;obtain⟨⟨a0,a1,a2⟩,-⟩:=qQ0 hA;obtain⟨⟨c0,c1,c2⟩,c3,c4,c5⟩:=qQ0 hC;clear hA hBb hC hsz hBW;rw[hW] at a0 a1 a2 c0 c1 c2 c3 c4 c5
 go_enter Tryz.func149,Tryz.ntmps149
 go_wp2;rw[←hW];refine xW9 (qQ4 rfl _ _ (w.heap.size+1+1) 132 #[.bool false,.slice none 0 0,.int .i64 0] (0,0) _ rfl HH.out.1 Tryz.underlying132 rfl Tryz.info132) rfl ?_;exact⟨rfl,HH.out.2⟩
def ovX (x:Nat) (ea eb place:Int):Nat:=x*2^(ea+place - min (ea+place) eb).toNat
def ovY (y:Nat) (ea eb place:Int):Nat:=y*2^(eb - min (ea+place) eb).toNat
theorem rover {na nb:Bool} {ua va:Option Addr} {uc vc x y:Nat} {ea eb place:Int} {w:World} (h1:At w ua (dlen x) x) (hu:dlen x≤uc) (h2:At w va (dlen y) y) (hv:dlen y≤vc) (hy0:y≠0) (hx:dlen x≤3000) (hy:dlen y≤3000)
  (ha : -200000≤ea∧ea≤200000) (hb : -200000≤eb∧eb≤200000) (hp : -200000≤place∧place≤200000) {X Y:Nat} (hX:ovX x ea eb place=X) (hY:ovY y ea eb place=Y) :
  Calls Tryz.prog 149 #[.agg #[.bool na,.slice ua (dlen x) uc,.int .i64 ea],.agg #[.bool nb,.slice va (dlen y) vc,.int .i64 eb],.int .i64 place] w fun r w'=>∃ A,r=.returned (.tuple #[A,.bool (decide (X % Y=0))])∧NC w' w.heap.size A (na != nb) (if(na != nb) && !(decide (X % Y=0))then X / Y+1 else X / Y) (-place)∧Bw w w':=by
 by_cases hx0:x=0
 ·subst hx0;have hX0:X=0:=by rw[←hX];unfold ovX;rw[Nat.zero_mul]
  rw[qQ5,hX0,Nat.zero_mod,Nat.zero_div];refine(yC6 na nb ua va uc _ vc ea eb place w).mono ?_
  rintro r w' ⟨rfl,hb'⟩;refine⟨_,rfl,⟨none,0,?_,?_,fun ad e=>by cases e⟩,hb'⟩
  ·simp[cn,qQ5]
  ·simp only[decide_true,Bool.not_true,Bool.and_false,Bool.false_eq_true,if_false];unfold cn;rw[if_pos rfl];exact⟨fun _=>.inr ⟨rfl,rfl⟩,⟨0,0,fun h=>by rw[qQ5] at h;omega,fun i hi=>by rw[qQ5] at hi;omega⟩,by rw[qQ5];exact xL0 _,by rw[qQ5];omega⟩
 ·by_cases hs:0≤ea - eb+place
  ·obtain⟨k,hk⟩:∃ k:Nat,ea - eb+place=(k:Int):=⟨(ea - eb+place).toNat,by omega⟩
   obtain rfl:x*2^k=X:=by rw[←hX];unfold ovX;rw[show(ea+place - min (ea+place) eb).toNat=k by omega]
   obtain rfl:y=Y:=by rw[←hY];unfold ovY;rw[show(eb - min (ea+place) eb).toNat=0 by omega,xC7,xE1]
   exact yC5 na nb ua va uc vc x y k ea eb place w (na != nb) _ _ rfl rfl h1 hu h2 hv hx0 hy0 hx hy ha.1 ha.2 hb.1 hb.2 hp.1 hp.2 hk (by omega) rfl
  ·obtain⟨k,hk⟩:∃ k:Nat,ea - eb+place = -(k:Int):=⟨(-(ea - eb+place)).toNat,by omega⟩
   obtain rfl:x=X:=by rw[←hX];unfold ovX;rw[show(ea+place - min (ea+place) eb).toNat=0 by omega,xC7,xE1]
   obtain rfl:y*2^k=Y:=by rw[←hY];unfold ovY;rw[show(eb - min (ea+place) eb).toNat=k by omega]
   exact yC4 na nb ua va uc vc x y k ea eb place w (na != nb) _ _ rfl rfl h1 hu h2 hv hx0 hy0 hx hy ha.1 ha.2 hb.1 hb.2 hp.1 hp.2 hk (by omega) (by omega) rfl
theorem xQ4 {s:Bool} {z:Nat} {e:Int}:dlen (cn s z e).2.1≤dlen z:=by
 unfold cn;by_cases h:z=0
 ·rw[if_pos h,qQ5];exact xW5 _
 ·rw[if_neg h];exact qZ3 (xW0 _ _)
theorem yU9 (na nb:Bool) (ua va:Option Addr) (un uc vn vc x y k bx by':Nat) (ea eb mode:Int) (sg:Bool) (w:World) (hsg:Hid ((!(na==nb))=sg)) (hT:Tab32 w) (h1:Is w (.slice ua un uc) x) (h2:Is w (.slice va vn vc) y) (hx:dlen x≤3000) (hy:dlen y≤3000) (hy0:y≠0) (he1 : -65536≤ea) (he2:ea≤65536) (he3 : -65536≤eb) (he4:eb≤65536) (hm:mode=1∨mode=2∨mode=3)
  (hbx:bl x=bx) (hby:bl y=by') (hbx2:bx≤96000) (hby2:by'≤96000) (hk:max 0 (64+(by':Int) - (bx:Int))=(k:Int)) (hk2:k≤100000) (hn0:((un:Int)==0)=false) (hn1:((vn:Int)==0)=false)
  (k67:∀ W g,Bw w W→W.heap[g]?=some (.cells #[.bool na,.slice ua un uc,.int .i64 ea,.bool nb,.slice va vn vc,.int .i64 eb] 84 (0,0))→Calls Tryz.prog 78 #[.slice (some ⟨g,0,none⟩) 2 2] W fun r w'=>r=.returned (.bool true)∧Bw W w') :
  Calls Tryz.prog 51 #[.agg #[.bool na,.slice ua un uc,.int .i64 ea],.agg #[.bool nb,.slice va vn vc,.int .i64 eb],.int .i64 mode] w fun r w'=>r=.returned (.tuple #[.float .f64 (tfF sg (decide (x*2^k % y=0)) (x*2^k / y) (ea - eb - k) mode),.int .i64 0])∧Bw w w':=by
 obtain⟨W,hW⟩:∃ W,W=(w.alloc (.cells #[.bool na,.slice ua un uc,.int .i64 ea] 84)).alloc (.cells #[.bool nb,.slice va vn vc,.int .i64 eb] 84):=⟨_,rfl⟩;have hBW:Bw w W:=by rw[hW];exact((xL1 _ _).alloc (xL0 _) _).alloc (by simp) _
 have hbA:W.heap[w.heap.size]?=some (.cells #[.bool na,.slice ua un uc,.int .i64 ea] 84 (0,0)):=by
  rw[hW,Below.heap_alloc _ _ _ (by simp)];exact xW8 _ _
 have hbB:W.heap[w.heap.size+1]?=some (.cells #[.bool nb,.slice va vn vc,.int .i64 eb] 84 (0,0)):=by
  have:=xW8 (w.alloc (.cells #[.bool na,.slice ua un uc,.int .i64 ea] 84)) (.cells #[.bool nb,.slice va vn vc,.int .i64 eb] 84)
  rw[hW];simpa using this
 have hsz:W.heap.size=w.heap.size+1+1:=by rw[hW];simp
 have k1:=k67 (W.alloc (.cells #[.bool na,.slice ua un uc,.int .i64 ea,.bool nb,.slice va vn vc,.int .i64 eb] 84)) (w.heap.size+1+1) (hBW.alloc hBW.size _) (by rw[←hsz];exact xW8 _ _)
 have HX:Hid (Bw w W∧W.heap.size=w.heap.size+1+1∧W.heap[w.heap.size]?=some (.cells #[.bool na,.slice ua un uc,.int .i64 ea] 84 (0,0))∧W.heap[w.heap.size+1]?=some (.cells #[.bool nb,.slice va vn vc,.int .i64 eb] 84 (0,0))):=⟨hBW,hsz,hbA,hbB⟩;have HT:Hid (Tab32 w∧Is w (.slice ua un uc) x∧dlen x≤3000∧Is w (.slice va vn vc) y∧dlen y≤3000∧y≠0):=⟨hT,h1,hx,h2,hy,hy0⟩;have k48:=fun W=>c48 mode hm W;clear hBW hsz hbA hbB k67 hT h1 hx h2 hy hy0
 go_enter Tryz.func51,Tryz.ntmps51
 go_wp2_with fail;rw[←hW];clear hW;refine k1.mono ?_;rintro r w1 ⟨rfl,hb1⟩;have HB1:Hid (Bw W w1):=((xL1 W.heap.size W).alloc (xL0 _) _).trans (hb1.mono (by simp))
 have HW1:Hid (Bw w w1):=HX.out.1.trans (HB1.out.mono HX.out.1.size);obtain⟨⟨a0,a1,a2⟩,-⟩:=qQ1 (qQ HX.out.2.2.1 HB1.out (by have:=HX.out.2.1;omega))
 obtain⟨⟨b0,b1,b2⟩,-⟩:=qQ1 (qQ HX.out.2.2.2 HB1.out (by have:=HX.out.2.1;omega))
 clear k1 hb1
 go_wp2_with fail;refine(k48 w1).mono ?_
 rintro r w1' ⟨rfl,hw⟩;replace hw:=hw.symm;subst hw;clear k48;have kla:∀ d,Calls Tryz.prog 85 #[.slice ua un uc] (w1.drewN d) fun e w'=>e=.returned (.int .i64 (bx:Nat))∧w'=w1.drewN d:=fun d=>by
  have:=c74 (w:=w1.drewN d) (HT.out.2.1.later (HW1.out.trans ⟨rfl,rfl,rfl,xL0 _,fun _ _=>rfl⟩)) (by have:=HT.out.2.2;omega)
  rw[hbx] at this;exact this
 have klb:∀ d,Calls Tryz.prog 85 #[.slice va vn vc] (w1.drewN d) fun e w'=>e=.returned (.int .i64 (by':Nat))∧w'=w1.drewN d:=fun d=>by
  have:=c74 (w:=w1.drewN d) (HT.out.2.2.2.1.later (HW1.out.trans ⟨rfl,rfl,rfl,xL0 _,fun _ _=>rfl⟩)) (by have:=HT.out.2.2;omega)
  rw[hby] at this;exact this
 go_wp2
 go_quiet (first|(go_at_call 85;first|(with_reducible refine Calls.quiet_of_same (klb _))|(with_reducible refine Calls.quiet_of_same (kla _))))
 have HB2:Hid (Below W.heap.size W (w1.drewN nq)):=HB1.out.trans ⟨rfl,rfl,rfl,xL0 _,fun _ _=>rfl⟩;obtain⟨w2,hw2⟩:∃ w2,w2=w1.drewN nq:=⟨_,rfl⟩;rw[←hw2] at HB2 ⊢;clear hw2 kla klb a0 a1 a2 b0 b1 b2;have HK:Hid (∀ w',Bw w2 w'→((w'.cell? ⟨w.heap.size,0,none⟩=some (.bool na)∧w'.cell? ⟨w.heap.size,1,none⟩=some (.slice ua un uc)∧w'.cell? ⟨w.heap.size,2,none⟩=some (.int .i64 ea))∧(w'.cell? ⟨w.heap.size+1,0,none⟩=some (.bool nb)∧w'.cell? ⟨w.heap.size+1,1,none⟩=some (.slice va vn vc)∧w'.cell? ⟨w.heap.size+1,2,none⟩=some (.int .i64 eb)))):=fun w' hb=>⟨(qQ1 (qQ HX.out.2.2.1 (HB2.out.trans (hb.mono HB2.out.size)) (by have:=HX.out.2.1;omega))).1,(qQ1 (qQ HX.out.2.2.2 (HB2.out.trans (hb.mono HB2.out.size)) (by have:=HX.out.2.1;omega))).1⟩
 obtain⟨⟨a0,a1,a2⟩,b0,b1,b2⟩:=HK.out w2 (xL1 _ _);have hBR:Bw w2 w2.drew:=(xL1 _ _).drew;have hl:dlen (x*2^k)≤7000:=by have:=qK1 (x:=x) (k:=k) rfl;have:=HT.out.2.2;omega
 have HL:Hid (dlen (x*2^k)≤7000):=hl;have kS:∀ w',Bw w2 w'→Calls Tryz.prog 87 #[.slice ua un uc,.int .i64 (k:Int)] w' fun e w''=>∃ v,e=.returned v∧Hid (Is w'' v (x*2^k))∧Bw w2 w'':=fun w' hb=>(c109 (HT.out.2.1.later (HX.out.1.trans ((HB2.out.trans (hb.mono HB2.out.size)).mono HX.out.1.size))) k (by have:=HT.out.2.2;omega) (by omega)).mono fun r w'' ⟨v,e1,e2,e3⟩=>⟨v,e1,e2.is,hb.trans (e3.mono hb.size)⟩
 have kD:∀ v w',Hid (Is w' v (x*2^k))→Bw w2 w'→Calls Tryz.prog 86 #[v,.slice va vn vc] w' fun e w''=>∃ q,e=.returned (.tuple #[q,.bool (decide (x*2^k % y=0))])∧Hid (Is w'' q (x*2^k / y))∧Bw w2 w'':=fun v w' hI hb=>(c100 hI.out (HT.out.2.2.2.1.later (HX.out.1.trans ((HB2.out.trans (hb.mono HB2.out.size)).mono HX.out.1.size))) (by have:=HL.out;omega) (by have:=HT.out.2.2.2.2;omega) HT.out.2.2.2.2.2).mono fun r w'' ⟨q,e1,e2,e3⟩=>⟨q,e1,e2.is,hb.trans (e3.mono hb.size)⟩
 obtain⟨xb,hxb⟩:∃ xb:Bool,xb=decide (x*2^k % y=0):=⟨_,rfl⟩;rw[←hxb] at kD;have HXB:Hid (xb=decide (x*2^k % y=0)):=hxb;clear hxb hl
 go_upto_region 8 with fail
 go_cut [9,10] from 42 to 50 (fun q b wx=>b=.bool xb∧Hid (Is wx q (x*2^k / y))∧Hid (Bw w2 wx))
 case first =>
  go_region_held3 (fun w'=>((w'.cell? ⟨w.heap.size,0,none⟩=some (.bool na)∧w'.cell? ⟨w.heap.size,1,none⟩=some (.slice ua un uc)∧w'.cell? ⟨w.heap.size,2,none⟩=some (.int .i64 ea))∧(w'.cell? ⟨w.heap.size+1,0,none⟩=some (.bool nb)∧w'.cell? ⟨w.heap.size+1,1,none⟩=some (.slice va vn vc)∧w'.cell? ⟨w.heap.size+1,2,none⟩=some (.int .i64 eb)))) (first|(with_reducible assumption)|exact⟨⟨a0,a1,a2⟩,b0,b1,b2⟩|(refine HK.out _ ?_;with_reducible assumption)|go_keep)
   (first|(go_at_call 87;refine(kS _ (by first|(with_reducible assumption)|exact hBR)).mono ?_;rintro r w5 ⟨v5,rfl,hI5,hb5⟩)|(go_at_call 86;refine(kD _ _ hI5 (by with_reducible assumption)).mono ?_;rintro r w6 ⟨v6,rfl,hI6,hb6⟩))
  all_goals go_wp2_with fail
  all_goals go_meet
  all_goals exact⟨rfl,hI6,hb6⟩
 case rest =>
  obtain⟨rfl,hI,hB⟩:=hcut;obtain⟨w3,rfl⟩:∃ w3:World,w3=wc:=⟨_,rfl⟩;have HB3:Hid (Bw W w3):=HB2.out.trans (hB.out.mono HB2.out.size);clear a0 a1 a2 b0 b1 b2 kS kD hBR;obtain⟨⟨a0,a1,a2⟩,b0,b1,b2⟩:=HK.out w3 hB.out;have kt:=c110 (neg:=sg) (exact:=xb) (e:=ea - eb - k) (mode:=mode) (HT.out.1.later (HX.out.1.trans (HB3.out.mono HX.out.1.size))) hI.out (xW (qZ3 (xW0 _ _)) (by have:=HL.out;omega)) (by omega) (by omega)
  go_wp2_with fail;rw[hsg.out];refine kt.mono ?_;rintro r w4 ⟨rfl,hb4⟩;have HB4:Hid (Bw W w4):=HB3.out.trans (hb4.mono HB3.out.size);clear kt hb4
  go_wp2;refine xW9 (xE3 rfl _ _ _) rfl ?_;exact⟨congrArg (fun b=>Ending.returned (Value.tuple #[.float .f64 (tfF sg b (x*2^k / y) (ea - eb - k) mode),.int .i64 0])) HXB.out,HX.out.1.trans (HB4.out.mono HX.out.1.size)⟩
end Go.Proofs.YtbanebginnakhaaGreatDoor
namespace Go.Proofs.YtbanebginnakhaaGreatDoor
def bv (b:Nat):Nat:=if b<4503599627370496 then b else(4503599627370496+b % 4503599627370496)*2^(b / 4503599627370496 - 1)
theorem zV6 {j q:Nat} (h:(j=0∧q≤9007199254740992)∨(4503599627370496≤q∧q≤9007199254740992)):bv (j*4503599627370496+q)=q*2^j:=by
 unfold bv;by_cases h1:j*4503599627370496+q<4503599627370496
 ·have hj:j=0:=by omega
  subst hj;rw[if_pos h1];simp
 ·rw[if_neg h1];by_cases h2:q=9007199254740992
  ·subst h2;rw[show(j*4503599627370496+9007199254740992) % 4503599627370496=0 by omega,show(j*4503599627370496+9007199254740992) / 4503599627370496 - 1=j+1 by omega,xC5]
   omega
  ·have h3:4503599627370496≤q:=by omega
   rw[show(j*4503599627370496+q) % 4503599627370496=q - 4503599627370496 by omega,show(j*4503599627370496+q) / 4503599627370496 - 1=j by omega]
   rw[show 4503599627370496+(q - 4503599627370496)=q by omega]
theorem xQ7 (b:Nat):∃ j q,b=j*4503599627370496+q∧bv b=q*2^j∧bv (b+1)=(q+1)*2^j:=by
 by_cases h:b<4503599627370496
 ·refine⟨0,b,by omega,?_,?_⟩
  ·have:=zV6 (j:=0) (q:=b) (.inl ⟨rfl,by omega⟩);simpa using this
  ·have:=zV6 (j:=0) (q:=b+1) (.inl ⟨rfl,by omega⟩);simpa using this
 ·have e:b=(b / 4503599627370496 - 1)*4503599627370496+(4503599627370496+b % 4503599627370496):=by omega
  refine⟨_,_,e,?_,?_⟩
  ·have:=zV6 (j:=b / 4503599627370496 - 1) (q:=4503599627370496+b % 4503599627370496) (.inr ⟨by omega,by omega⟩)
   rw[←e] at this;exact this
  ·have:=zV6 (j:=b / 4503599627370496 - 1) (q:=4503599627370496+b % 4503599627370496+1) (.inr ⟨by omega,by omega⟩)
   rw[←Nat.add_assoc,←e] at this;exact this
theorem yX6 (b:Nat):bv b<bv (b+1):=by
 obtain⟨j,q,-,h1,h2⟩:=xQ7 b;rw[h1,h2];exact xE4 (by omega) (xL5 j)
theorem bv_lt {a b:Nat} (h:a<b):bv a<bv b:=by
 induction b with
 | zero=>omega
 | succ b ih =>
  by_cases h1:a<b
  ·exact Nat.lt_trans (ih h1) (yX6 b)
  ·obtain rfl:a=b:=by omega
   exact yX6 a
theorem bv_le {a b:Nat} (h:a≤b):bv a≤bv b:=by
 by_cases h1:a=b
 ·rw[h1];exact xL0 _
 ·exact xE8 (bv_lt (by omega))
theorem yX7 {a b:Nat} (h:bv a<bv b):a<b:=by
 apply Decidable.byContradiction
 intro h1;have:=bv_le (a:=b) (b:=a) (by omega)
 omega
structure IsR (x:Nat) (e:Int) (j X k:Nat):Prop where
 eq:∀ K:Nat,0≤e+K→0≤(j:Int) - 1074 - k+K→X*2^((j:Int) - 1074 - k+K).toNat=x*2^(e+K).toNat
 lt:X / 2^k<9007199254740992
 ge:j=0∨4503599627370496≤X / 2^k
structure Lies (A u b:Nat) (r m:Nat):Prop where
 lo:bv b*u≤A
 hi:A<bv (b+1)*u
 ex:r=0↔A=bv b*u
 half_lt:2*r<m↔2*A<(bv b+bv (b+1))*u
 half_eq:2*r=m↔2*A=(bv b+bv (b+1))*u
theorem IsR.lies {x:Nat} {e:Int} {j X k:Nat} (h:IsR x e j X k) {K:Nat} (hK:1074≤K) (h1:0≤e+K) (h2:0≤(j:Int) - 1074 - k+K) :
  Lies (x*2^(e+K).toNat) (2^(K - 1074)) (j*4503599627370496+X / 2^k) (X % 2^k) (2^k):=by
 have eq:=h.eq K h1 h2;have hl:=h.lt;have hg:=h.ge;have b0:bv (j*4503599627370496+X / 2^k)=X / 2^k*2^j:=zV6 (j:=j) (q:=X / 2^k) (by
  generalize X / 2^k=q at *;rcases hg with g|g
  ·exact .inl ⟨g,by omega⟩
  ·exact .inr ⟨g,by omega⟩)
 have b1:bv (j*4503599627370496+X / 2^k+1)=(X / 2^k+1)*2^j:=by
  have:=zV6 (j:=j) (q:=X / 2^k+1) (by
   generalize X / 2^k=q at *;rcases hg with g|g
   ·exact .inl ⟨g,by omega⟩
   ·exact .inr ⟨by omega,by omega⟩)
  rw[←Nat.add_assoc] at this;exact this
 have hu:2^j*2^(K - 1074)=2^k*2^((j:Int) - 1074 - k+K).toNat:=by
  rw[←xC3,←xC3,show j+(K - 1074)=k+((j:Int) - 1074 - k+K).toNat by omega]
 have hX:X=2^k*(X / 2^k)+X % 2^k:=(Nat.div_add_mod X (2^k)).symm;have hr:X % 2^k<2^k:=xW4 _ (xL5 k);have hU:0<2^((j:Int) - 1074 - k+K).toNat:=xL5 _;rw[←eq];generalize 2^((j:Int) - 1074 - k+K).toNat=U at *;generalize X / 2^k=q at *;generalize X % 2^k=r at *;generalize 2^k=M at *;generalize 2^j=J at *;generalize 2^(K - 1074)=u at *;have e0:bv (j*4503599627370496+q)*u=q*(M*U):=by rw[b0,xC6,hu]
 have e1:bv (j*4503599627370496+q+1)*u=(q+1)*(M*U):=by rw[b1,xC6,hu]
 have eA:X*U=q*(M*U)+r*U:=by rw[hX,Nat.add_mul];congr 1;rw[←xC6,xC4 q M]
 have e1':(q+1)*(M*U)=q*(M*U)+M*U:=by rw[Nat.add_mul,Nat.one_mul]
 have hrU:r*U<M*U:=xE4 hr hU;have hr0:r=0↔r*U=0:=by
  constructor
  ·rintro rfl;simp
  ·intro h;rcases Nat.mul_eq_zero.1 h with h|h
   ·exact h
   ·omega
 have hh1:2*r<M↔2*(r*U)<M*U:=by
  rw[←xC6];exact(Nat.mul_lt_mul_right hU).symm
 have hh2:2*r=M↔2*(r*U)=M*U:=by
  rw[←xC6];exact(Nat.mul_left_inj (by omega)).symm
 refine⟨?_,?_,?_,?_,?_⟩
 ·rw[e0,eA];omega
 ·rw[e1,eA,e1'];omega
 ·rw[hr0,e0,eA];omega
 ·rw[hh1,Nat.add_mul,e0,e1,eA,e1'];omega
 ·rw[hh2,Nat.add_mul,e0,e1,eA,e1'];omega
structure Rounds (A u b way:Nat):Prop where
 fl:∃ b0,(bv b0*u≤A∧A<bv (b0+1)*u)∧(way=0→b=b0)∧(way=2→b=if A=bv b0*u then b0 else b0+1)∧(way=1→b=if 2*A<(bv b0+bv (b0+1))*u then b0 else if 2*A=(bv b0+bv (b0+1))*u then b0+b0 % 2 else b0+1)
theorem qC7 {A A' u b b':Nat} (h:A≤A') (h1:bv b*u≤A) (h2:A'<bv (b'+1)*u):b≤b':=by
 have h3:bv b*u<bv (b'+1)*u:=by omega
 have h4:bv b<bv (b'+1):=Nat.lt_of_mul_lt_mul_right h3;have:=yX7 h4
 omega
theorem Rounds.mono {A A' u b b' way:Nat} (hw:way=0∨way=1∨way=2) (h:Rounds A u b way) (h':Rounds A' u b' way) (hle:A≤A'):b≤b':=by
 obtain⟨b0,⟨l,g⟩,w0,w2,w1⟩:=h.fl;obtain⟨b1,⟨l',g'⟩,w0',w2',w1'⟩:=h'.fl;have hb:=qC7 hle l g';rcases hw with hw|hw|hw
 ·rw[w0 hw,w0' hw];exact hb
 ·rw[w1 hw,w1' hw];by_cases he:b0=b1
  ·subst he;split
   ·split
    ·exact xL0 _
    ·split <;> omega
   ·split
    ·split
     ·omega
     ·split
      ·exact xL0 _
      ·have:b0 % 2<2:=xW4 _ (by omega)
       omega
    ·rw[if_neg (by omega),if_neg (by omega)];exact xL0 _
  ·have hlt:b0<b1:=by omega
   have h1:(if 2*A<(bv b0+bv (b0+1))*u then b0 else if 2*A=(bv b0+bv (b0+1))*u then b0+b0 % 2 else b0+1)≤b0+1:=by
    split
    ·omega
    ·split <;> omega
   have h2:b1≤(if 2*A'<(bv b1+bv (b1+1))*u then b1 else if 2*A'=(bv b1+bv (b1+1))*u then b1+b1 % 2 else b1+1):=by
    split
    ·omega
    ·split <;> omega
   omega
 ·rw[w2 hw,w2' hw];by_cases he:b0=b1
  ·subst he;split
   ·split <;> omega
   ·rw[if_neg (by omega)];exact xL0 _
  ·split
   ·split <;> omega
   ·split <;> omega
end Go.Proofs.YtbanebginnakhaaGreatDoor
namespace Go.Proofs.YtbanebginnakhaaGreatDoor
open Go.RowKit Go.Fl64
open Ie
theorem zK1 (y:Nat):(y ||| 1) / 2=y / 2:=by rw[Nat.or_div_two];simp
theorem zP6 (y:Nat):(y ||| 1) % 2=1:=Nat.or_mod_two_eq_one.2 (.inr rfl)
theorem zQ6 (y:Nat):y ||| 1=2*(y / 2)+1:=by
 have h1:=zK1 y;have h2:=zP6 y;omega
theorem zP1 {x D k y m:Nat} {way:Int} (hk:2≤k) (hy:y=x / 2^D) (hm:(x % 2^D=0∧m=y)∨(x % 2^D≠0∧m=2*(y / 2)+1)):rnd m k way=rnd x (D+k) way:=by
 obtain⟨h,rfl⟩:∃ h,k=h+2:=⟨k - 2,by omega⟩
 have e2:(2:Nat)^(h+2)=2*(2*2^h):=by rw[xC5,xC5];omega
 have eD:(2:Nat)^(D+(h+2))=2^D*2^(h+2):=xC3 ..;have hq:m / 2^(h+2)=x / 2^(D+(h+2)):=by
  rw[eD,←xC0,←hy];rcases hm with ⟨-,hm⟩|⟨-,hm⟩
  ·rw[hm]
  ·have hd:∀ z,z / (2*(2*2^h))=z / 2 / (2*2^h):=fun z=>(xC0 ..).symm;rw[e2,hd,hd,hm,show(2*(y / 2)+1) / 2=y / 2 by omega]
 have hR:x % 2^(D+(h+2))=(y % 2^(h+2))*2^D+x % 2^D:=by
  rw[eD,Nat.mod_mul,hy,xC4];omega
 have hM:(x % 2^D=0∧m % 2^(h+2)=y % 2^(h+2))∨(x % 2^D≠0∧m % 2^(h+2)=2*(y % 2^(h+2) / 2)+1):=by
  rcases hm with ⟨h1,hm⟩|⟨h1,hm⟩
  ·exact .inl ⟨h1,by rw[hm]⟩
  ·refine .inr ⟨h1,?_⟩;rw[hm,e2];generalize 2^h=H;rw[Nat.mod_mul,Nat.mod_mul (x:=y),show(2*(y / 2)+1) % 2=1 by omega,show(2*(y / 2)+1) / 2=y / 2 by omega]
   generalize y / 2 % (2*H)=t;omega
 have hrx:x % 2^D<2^D:=xW4 _ (xL5 D);have hp:0<2^D:=xL5 D;have i0:m % 2^(h+2)=0↔x % 2^(D+(h+2))=0:=by
  rw[hR];rcases hM with ⟨h1,h2⟩|⟨h1,h2⟩
  ·rw[h1,h2,Nat.add_zero];constructor
   ·intro e;rw[e,Nat.zero_mul]
   ·intro e;rcases Nat.mul_eq_zero.1 e with e|e
    ·exact e
    ·omega
  ·rw[h2];omega
 have key:∀ c:Nat,c=2*2^h→(2^(h+2)<2*(m % 2^(h+2))↔2^(D+(h+2))<2*(x % 2^(D+(h+2))))∧(2*(m % 2^(h+2))=2^(h+2)↔2*(x % 2^(D+(h+2)))=2^(D+(h+2))):=by
  intro c hc;rw[hR,eD];have e3:(2:Nat)^(h+2)=2*c:=by rw[e2,hc]
  rw[e3] at hM ⊢;have hc2:c % 2=0:=by omega
  generalize y % (2*c)=ry at *;generalize m % (2*c)=rm at *;generalize x % 2^D=rx at *;generalize 2^D=T at *;have a1:T*(2*c)=2*(c*T):=by rw[xC4 T,xC6]
  rw[a1];rcases hM with ⟨h1,h2⟩|⟨h1,h2⟩
  ·subst h1;rw[h2,Nat.add_zero];constructor
   ·constructor
    ·intro g;have:=xE4 (show c<ry by omega) hp;omega
    ·intro g;have:c*T<ry*T:=by omega
     have:=Nat.lt_of_mul_lt_mul_right this;omega
   ·constructor
    ·intro g;rw[show ry=c by omega]
    ·intro g;have:=Nat.eq_of_mul_eq_mul_right hp (show ry*T=c*T by omega);omega
  ·have hlt:ry<c→ry*T+rx<c*T:=by
    intro g;have:=xL7 T (show ry+1≤c by omega)
    rw[Nat.add_mul,Nat.one_mul] at this;omega
   have hge:c≤ry→c*T<ry*T+rx:=by
    intro g;have:=xL7 T g
    omega
   by_cases g:ry<c
   ·have a2:=hlt g;have a3:rm<c:=by omega
    clear hlt hge;refine⟨⟨fun g2=>?_,fun g2=>?_⟩,⟨fun g2=>?_,fun g2=>?_⟩⟩
    ·omega
    ·omega
    ·omega
    ·omega
   ·have a2:=hge (by omega)
    have a3:c<rm:=by omega
    clear hlt hge;refine⟨⟨fun g2=>?_,fun g2=>?_⟩,⟨fun g2=>?_,fun g2=>?_⟩⟩
    ·omega
    ·omega
    ·omega
    ·omega
 have k1:=key _ rfl;unfold rnd;have hrup:Ie.rup m (h+2) way=Ie.rup x (D+(h+2)) way:=by
  unfold Ie.rup;rw[hq];simp only[k1.1,k1.2,ne_eq,i0]
 rw[hrup,hq]
theorem zT2 {x n:Nat} (h0:x≠0):tz x<n↔x % 2^n≠0:=by
 obtain⟨h1,h2⟩:=qX0 x x (xL0 _) h0;constructor
 ·intro hlt he;have hd:2^(tz x+1) ∣ x:=Nat.dvd_trans (Nat.pow_dvd_pow 2 (by omega)) (Nat.dvd_of_mod_eq_zero he)
  obtain⟨c,hc⟩:=hd;have h3:x / 2^tz x=2*c:=by
   rw[xC5,xC6] at hc;exact Nat.div_eq_of_eq_mul_right (xL5 _) hc
  omega
 ·intro hne;apply Decidable.byContradiction
  intro hge;apply hne
  have:2^n ∣ x:=by rw[←h1];exact Nat.dvd_trans (Nat.pow_dvd_pow 2 (by omega)) (Nat.dvd_mul_right _ _)
  exact Nat.mod_eq_zero_of_dvd this
theorem yS0 {x:Nat} {e:Int} {X m j k k1:Nat} {s P:Int} {e':Int} (hs:s=e' - (nz m:Int)) (hP:P=pl m e') (hk1:(k1:Int)=P - s) (hj:(j:Int)=P+1074) (hr:∀ way,rnd (tp m) k1 way=rnd X k way) (way:Int):raw m e' way=((j*4503599627370496+rnd X k way:Nat):Int):=by
 unfold raw;rw[←hP,←hs,show(P - s).toNat=k1 by omega,hr]
 omega
theorem yS1 {x:Nat} {e:Int} (h0:x≠0):∃ j X k,IsR x e j X k∧(∀ way,raw (tfM true x) (e+(tfD x:Int)) way=((j*4503599627370496+rnd X k way:Nat):Int))∧(k:Int)≤j+1074+(if e<0 then -e else 0)+64 ∧ -64+min e (-1074)≤(j:Int) - 1074 - k:=by
 by_cases hD:bl x≤64
 ·have eD:tfD x=0:=by unfold tfD;omega
  have eM:tfM true x=x:=by unfold tfM;rw[eD];simp
  rw[eM,eD];have hx64:x<18446744073709551616:=(qJ8 x 64).1 hD;obtain⟨n1,n2,n3⟩:=qR7 x hx64 h0;obtain⟨P,hP⟩:∃ P,P=pl x (e+((0:Nat):Int)):=⟨_,rfl⟩;have hPl:=hP;unfold pl at hPl;have hPc:(P = -1074∧e - nz x+11 < -1074)∨(P=e - nz x+11 ∧ -1074≤P):=by
   split at hPl
   ·exact .inl ⟨hPl,by omega⟩
   ·exact .inr ⟨by omega,by omega⟩
  refine⟨(P+1074).toNat,tp x,(P - (e - nz x)).toNat,⟨?_,?_,?_⟩,fun way=>yS0 (x:=x) (e:=e) (m:=x) (s:=e - nz x) (P:=P) (k1:=(P - (e - nz x)).toNat) (by omega) hP (by omega) (by omega) (fun _=>rfl) way,?_,?_⟩
  ·intro K hK1 hK2;unfold tp;rw[xC6,←xC3];congr 2
   omega
  ·have:2^11≤2^(P - (e - nz x)).toNat:=xL6 (by omega) (by omega)
   refine Nat.div_lt_of_lt_mul ?_;have:2^11*9007199254740992≤2^(P - (e - nz x)).toNat*9007199254740992:=xL7 _ this
   omega
  ·rcases hPc with h|h
   ·exact .inl (by omega)
   ·refine .inr ?_;rw[show(P - (e - nz x)).toNat=11 by omega]
    omega
  ·split <;> omega
  ·omega
 ·have eD:bl x=tfD x+64:=by unfold tfD;omega
  obtain⟨D,hDD⟩:∃ D,D=tfD x:=⟨_,rfl⟩;rw[←hDD] at eD ⊢;have hx1:x<2^(D+64):=by rw[←eD];exact qV0 x
  have hx2:2^(D+63)≤x:=by have:=qP6 h0;rw[eD] at this;exact this
  have hp:0<2^D:=xL5 D;obtain⟨y,hy⟩:∃ y,y=x / 2^D:=⟨_,rfl⟩;have hy1:y<18446744073709551616:=by rw[hy];refine Nat.div_lt_of_lt_mul ?_;rw[xC3] at hx1;exact hx1
  have hy2:9223372036854775808≤y:=by rw[hy,Nat.le_div_iff_mul_le hp,xC4];rw[xC3] at hx2;exact hx2
  have hm:(x % 2^D=0∧tfM true x=y)∨(x % 2^D≠0∧tfM true x=2*(y / 2)+1):=by
   unfold tfM;rw[←hDD,←hy];by_cases hz:tz x<D
   ·exact .inr ⟨(zT2 h0).1 hz,by rw[xL4 hz];exact zQ6 y⟩
   ·refine .inl ⟨?_,by rw[xL3 hz];rfl⟩
    apply Decidable.byContradiction
    intro h;exact hz ((zT2 h0).2 h)
  obtain⟨m,hmm⟩:∃ m,m=tfM true x:=⟨_,rfl⟩;rw[←hmm] at hm ⊢;have hm1:m<18446744073709551616:=by rcases hm with h|h <;> omega
  have hm2:9223372036854775808≤m:=by rcases hm with h|h <;> omega
  have hbm:bl m=64:=xZ0 (n:=64) hm1 (.inr hm2);have hnz:nz m=0:=by unfold nz;rw[←qW,hbm]
  have htp:tp m=m:=by unfold tp;rw[hnz];simp
  obtain⟨P,hP⟩:∃ P,P=pl m (e+(D:Int)):=⟨_,rfl⟩;have hPl:=hP;unfold pl at hPl;rw[hnz] at hPl;have hPc:(P = -1074∧e+D+11 < -1074)∨(P=e+D+11 ∧ -1074≤P):=by
   split at hPl
   ·exact .inl ⟨hPl,by omega⟩
   ·exact .inr ⟨by omega,by omega⟩
  have hq:∀ k1,11≤k1→x / 2^(D+k1)=y / 2^k1:=fun k1 _=>by rw[xC3,←xC0,hy]
  refine⟨(P+1074).toNat,x,D+(P - (e+D)).toNat,⟨?_,?_,?_⟩,fun way=>yS0 (x:=x) (e:=e) (m:=m) (s:=e+D) (P:=P) (k1:=(P - (e+D)).toNat) (by rw[hnz];omega) hP (by omega) (by omega) (fun way=>by rw[htp];exact zP1 (by omega) hy hm) way,?_,?_⟩
  ·intro K hK1 hK2;congr 2
   omega
  ·rw[hq _ (by omega)]
   have:2^11≤2^(P - (e+D)).toNat:=xL6 (by omega) (by omega)
   refine Nat.div_lt_of_lt_mul ?_;have:2^11*9007199254740992≤2^(P - (e+D)).toNat*9007199254740992:=xL7 _ this
   omega
  ·rcases hPc with h|h
   ·exact .inl (by omega)
   ·refine .inr ?_;rw[hq _ (by omega),show(P - (e+D)).toNat=11 by omega]
    omega
  ·split <;> omega
  ·omega
end Go.Proofs.YtbanebginnakhaaGreatDoor
/- A float is made anew of its odd part and its exponent, whatever the way of rounding. -/
namespace Go.Proofs.YtbanebginnakhaaGreatDoor.Ie
open Go.RowKit Go.Fl64
end Go.Proofs.YtbanebginnakhaaGreatDoor.Ie
namespace Go.Proofs.YtbanebginnakhaaGreatDoor
open Go.RowKit Go.Fl64
theorem yV2 (a:Nat) (hf:mag a<9218868437227405312):val (mag a)=Ie.mant a*2^(Ie.lp a+1074).toNat ∧ -1074≤Ie.lp a∧Ie.lp a≤972:=by
 unfold val Ie.mant Ie.lp;by_cases h:mag a<4503599627370496
 ·rw[if_pos h,if_pos h];have:(-1075+max 1 ((mag a / 4503599627370496:Nat):Int)+1074).toNat=0:=by omega
  rw[this,xC7,xE1];exact⟨rfl,by omega,by omega⟩
 ·rw[if_neg h,if_neg h];have:(-1075+max 1 ((mag a / 4503599627370496:Nat):Int)+1074).toNat=mag a / 4503599627370496 - 1:=by omega
  rw[this];exact⟨rfl,by omega,by omega⟩
end Go.Proofs.YtbanebginnakhaaGreatDoor
namespace Go.Proofs.YtbanebginnakhaaGreatDoor
open Go.RowKit Go.Fl64
open Ie
theorem rnd0 (X k:Nat):rnd X k ((0:Nat):Int)=X / 2^k:=by
 have h1:¬ (((0:Nat):Int)=1):=by decide
 have h2:¬ (((0:Nat):Int)=2):=by decide
 simp only[rnd,Ie.rup,if_neg h1,if_neg h2,Bool.false_eq_true,if_false]
theorem rnd2 (X k:Nat):rnd X k ((2:Nat):Int)=if X % 2^k=0 then X / 2^k else X / 2^k+1:=by
 have h1:¬ (((2:Nat):Int)=1):=by decide
 have h2:((2:Nat):Int)=2:=by decide
 simp only[rnd,Ie.rup,if_neg h1,if_pos h2];by_cases h:X % 2^k=0
 ·rw[if_pos h,xL3 (by simpa using h)];rfl
 ·rw[if_neg h,xL4 h];rfl
theorem rnd1 (X k:Nat):rnd X k ((1:Nat):Int)=if 2*(X % 2^k)<2^k then X / 2^k else if 2*(X % 2^k)=2^k then X / 2^k+X / 2^k % 2 else X / 2^k+1:=by
 have h0:((1:Nat):Int)=1:=by decide
 simp only[rnd,Ie.rup,if_pos h0];by_cases h1:2*(X % 2^k)<2^k
 ·rw[if_pos h1,xL3 (show ¬ 2^k<2*(X % 2^k) by omega),xL3 (show ¬ 2*(X % 2^k)=2^k by omega)];rfl
 ·rw[if_neg h1];by_cases h2:2*(X % 2^k)=2^k
  ·rw[if_pos h2,xL3 (show ¬ 2^k<2*(X % 2^k) by omega),xL4 h2]
   by_cases h3:X / 2^k % 2=1
   ·rw[xL4 h3,h3];rfl
   ·rw[xL3 h3,show X / 2^k % 2=0 by omega];rfl
  ·rw[if_neg h2,xL4 (show 2^k<2*(X % 2^k) by omega)];rfl
def rwb (x:Nat) (e:Int) (way:Nat):Nat:=(raw (tfM true x) (e+(tfD x:Int)) (way:Int)).toNat
theorem qF7 {x:Nat} {e:Int} (h0:x≠0) {K:Nat} (hK:1200≤K) (hK2:64 - e≤K) {way:Nat}:Rounds (x*2^(e+K).toNat) (2^(K - 1074)) (rwb x e way) way:=by
 obtain⟨j,X,k,hR,hr,-,hl⟩:=yS1 (e:=e) h0;have L:=hR.lies (K:=K) (by omega) (by omega) (by omega)
 refine⟨⟨j*4503599627370496+X / 2^k,⟨L.lo,L.hi⟩,?_,?_,?_⟩⟩
 ·intro h;subst h;unfold rwb;rw[hr,xC9,rnd0]
 ·intro h;subst h;unfold rwb;rw[hr,xC9,rnd2];by_cases hx:X % 2^k=0
  ·rw[if_pos hx,if_pos (L.ex.1 hx)]
  ·rw[if_neg hx,if_neg (fun h=>hx (L.ex.2 h)),Nat.add_assoc]
 ·intro h;subst h;unfold rwb;rw[hr,xC9,rnd1];have hpar:(j*4503599627370496+X / 2^k) % 2=X / 2^k % 2:=by omega
  by_cases h1:2*(X % 2^k)<2^k
  ·rw[if_pos h1,if_pos (L.half_lt.1 h1)]
  ·rw[if_neg h1,if_neg (fun h=>h1 (L.half_lt.2 h))];by_cases h2:2*(X % 2^k)=2^k
   ·rw[if_pos h2,if_pos (L.half_eq.1 h2),hpar,Nat.add_assoc]
   ·rw[if_neg h2,if_neg (fun h=>h2 (L.half_eq.2 h)),Nat.add_assoc]
def bdy (x:Nat) (e:Int) (way:Nat):Nat:=if x=0 then 0 else if rwb x e way<9218868437227405312 then rwb x e way else if way=0 then 9218868437227405311 else 9218868437227405312
theorem xG1 {x:Nat} {e:Int} (h0:x≠0) (way:Nat):raw (tfM true x) (e+(tfD x:Int)) (way:Int)=(rwb x e way:Int):=by
 obtain⟨j,X,k,-,hr,-,-⟩:=yS1 (e:=e) h0;unfold rwb;rw[hr];rfl
theorem xS7 {x:Nat} {e:Int} (h0:x≠0) (way:Nat):(bod (tfM true x) (e+(tfD x:Int)) (way:Int)).toNat=bdy x e way:=by
 unfold bod bdy;rw[if_neg h0,xG1 h0];by_cases h1:rwb x e way<9218868437227405312
 ·rw[if_pos (by omega),if_pos h1];rfl
 ·rw[if_neg (by omega),if_neg h1]
  by_cases h2:way=0
  ·subst h2;rfl
  ·rw[if_neg h2];have:((way:Int)==0)=false:=by simp;omega
   rw[this];rfl
end Go.Proofs.YtbanebginnakhaaGreatDoor
namespace Go.Proofs.YtbanebginnakhaaGreatDoor
open Go.RowKit Go.Fl64
end Go.Proofs.YtbanebginnakhaaGreatDoor
namespace Go.Proofs.YtbanebginnakhaaGreatDoor
open Go.RowKit Go.Fl64
open Ie
theorem bv_zero:bv 0=0:=rfl
theorem yY2 (x:Nat) (e:Int) (way:Nat):bdy x e way≤9218868437227405312:=by
 unfold bdy;split
 ·omega
 ·split
  ·omega
  ·split <;> omega
def wyN (s:Bool) (m:Int):Nat:=if m=2 then 1 else if(s==(m==1))then 2 else 0
theorem xY5 (s:Bool) (m:Int):((wyN s m:Nat):Int)=wy s m:=by
 unfold wyN wy;split
 ·rfl
 ·split <;> rfl
theorem qE1 (s:Bool) (m:Int):wyN s m=0∨wyN s m=1∨wyN s m=2:=by
 unfold wyN;split
 ·exact .inr (.inl rfl)
 ·split
  ·exact .inr (.inr rfl)
  ·exact .inl rfl
theorem yV5:tfM true 0=0:=by unfold tfM;rw[show tfD 0=0 from rfl];simp
theorem xK6 {x:Nat} (h0:x≠0):tfM true x≠0:=by
 unfold tfM;split
 ·have h1:=qP6 h0;have hp:2^tfD x≤x:=xW (xL6 (by omega) (by unfold tfD;omega)) h1
  have:=(Nat.le_div_iff_mul_le (xL5 (tfD x))).2 (show 1*2^tfD x≤x by omega)
  omega
 ·rw[zQ6];omega
theorem qM3 {s:Bool} {x:Nat} {e m:Int} (hm:1≤m∧m≤3):tfF s true x e m=sig s (bdy x e (wyN s m)):=by
 unfold tfF mk;rw[if_pos (by omega)]
 congr 1
 by_cases h0:x=0
 ·subst h0;rw[yV5,if_pos rfl];unfold bdy;rw[if_pos rfl]
 ·rw[if_neg (xK6 h0),←xY5,xS7 h0]
theorem zE7 {s:Bool} {b:Nat} (h:b≤9218868437227405312):mag (sig s b)=b∧neg (sig s b)=s∧sig s b<18446744073709551616:=by
 unfold mag neg sig;cases s
 ·exact⟨by show b % _=b;omega,xL3 (by show ¬ _≤b;omega),by show b<_;omega⟩
 ·exact⟨by show(b+9223372036854775808) % _=b;omega,xL4 (by show _≤b+_;omega),by show b+9223372036854775808<_;omega⟩
theorem zP2 {x:Nat} {e:Int} {j X k:Nat} (hR:IsR x e j X k) {K:Nat} (hK:1074≤K) (h1:0≤e+K) (h2:0≤(j:Int) - 1074 - k+K) (way:Nat):Rounds (x*2^(e+K).toNat) (2^(K - 1074)) (j*4503599627370496+rnd X k (way:Int)) way:=by
 have L:=hR.lies hK h1 h2;refine⟨⟨j*4503599627370496+X / 2^k,⟨L.lo,L.hi⟩,?_,?_,?_⟩⟩
 ·intro h;subst h;rw[rnd0]
 ·intro h;subst h;rw[rnd2];by_cases hx:X % 2^k=0
  ·rw[if_pos hx,if_pos (L.ex.1 hx)]
  ·rw[if_neg hx,if_neg (fun h=>hx (L.ex.2 h)),Nat.add_assoc]
 ·intro h;subst h;rw[rnd1];have hpar:(j*4503599627370496+X / 2^k) % 2=X / 2^k % 2:=by omega
  by_cases h1:2*(X % 2^k)<2^k
  ·rw[if_pos h1,if_pos (L.half_lt.1 h1)]
  ·rw[if_neg h1,if_neg (fun h=>h1 (L.half_lt.2 h))];by_cases h2:2*(X % 2^k)=2^k
   ·rw[if_pos h2,if_pos (L.half_eq.1 h2),hpar,Nat.add_assoc]
   ·rw[if_neg h2,if_neg (fun h=>h2 (L.half_eq.2 h)),Nat.add_assoc]
theorem IsR.rwb {x:Nat} {e:Int} {j X k:Nat} (hR:IsR x e j X k) (h0:x≠0) {way:Nat} (hw:way=0∨way=1∨way=2):rwb x e way=j*4503599627370496+rnd X k (way:Int):=by
 obtain⟨K,hK⟩:∃ K:Nat,K=1200+(64 - e).toNat+(1074+k):=⟨_,rfl⟩;have a:=qF7 (e:=e) h0 (K:=K) (by omega) (by omega) (way:=way)
 have b:=zP2 hR (K:=K) (by omega) (by omega) (by omega) way
 have h1:=Rounds.mono hw a b (xL0 _);have h2:=Rounds.mono hw b a (xL0 _);omega
theorem yW1 {x:Nat} {e:Int} (h0:x≠0) (ht:1024<(bl x:Int)+e) {way:Nat} (hw:way=0∨way=1∨way=2):9218868437227405312≤rwb x e way:=by
 obtain⟨K,hK⟩:∃ K:Nat,K=1200+(64 - e).toNat:=⟨_,rfl⟩;have a:=qF7 (e:=e) h0 (K:=K) (by omega) (by omega) (way:=way)
 obtain⟨b0,⟨l,g⟩,w0,w2,w1⟩:=a.fl;have hv:bv 9218868437227405312*2^(K - 1074)≤x*2^(e+K).toNat:=by
  obtain⟨j,hj⟩:∃ j:Nat,j=2046:=⟨_,rfl⟩;have e1:bv 9218868437227405312=4503599627370496*2^j:=by
   have:=zV6 (j:=j) (q:=4503599627370496) (.inr ⟨by omega,by omega⟩)
   rw[show j*4503599627370496+4503599627370496=9218868437227405312 by omega] at this
   exact this
  have e2:(4503599627370496:Nat)=2^52:=by rfl
  rw[e1,e2,←xC3,←xC3];have h1:=qP6 h0;have hb:bl x≠0:=by unfold bl;rw[if_neg h0];omega
  refine xW (xL6 (by omega) (show 52+j+(K - 1074)≤bl x - 1+(e+K).toNat by omega)) ?_
  rw[xC3];exact xL7 _ h1
 have hb:=qC7 (xL0 (x*2^(e+K).toNat)) hv g;rcases hw with hw|hw|hw
 ·rw[w0 hw];exact hb
 ·rw[w1 hw];split
  ·exact hb
  ·split <;> omega
 ·rw[w2 hw];split <;> omega
theorem xB5 {x:Nat} {E e':Int} (h1:e'≤E) (hj : -1074≤e') (hlt:x*2^(E - e').toNat<9007199254740992) (hge:e' = -1074∨4503599627370496≤x*2^(E - e').toNat):IsR x E (e'+1074).toNat (x*2^(E - e').toNat) 0:=by
 refine⟨fun K a b=>?_,by rw[xC7,Nat.div_one];exact hlt,?_⟩
 ·rw[xC6,←xC3,show(E - e').toNat+(((e'+1074).toNat:Int) - 1074 - ((0:Nat):Int)+K).toNat=(E+K).toNat by omega]
 ·rw[xC7,Nat.div_one];rcases hge with h|h
  ·exact .inl (by omega)
  ·exact .inr h
theorem zF8 {x:Nat} {E e':Int} (h1:E≤e') (hj : -1074≤e') (hlt:x / 2^(e' - E).toNat<9007199254740992) (hge:e' = -1074∨4503599627370496≤x / 2^(e' - E).toNat):IsR x E (e'+1074).toNat x (e' - E).toNat:=by
 refine⟨fun K a b=>?_,hlt,?_⟩
 ·rw[show(((e'+1074).toNat:Int) - 1074 - ((e' - E).toNat:Int)+K).toNat=(E+K).toNat by omega]
 ·rcases hge with h|h
  ·exact .inl (by omega)
  ·exact .inr h
theorem xU2 (X way:Nat) (hw:way=0∨way=1∨way=2):rnd X 0 (way:Int)=X:=by
 rcases hw with rfl|rfl|rfl
 ·rw[rnd0,xC7,Nat.div_one]
 ·rw[rnd1,xC7,Nat.div_one,Nat.mod_one,if_pos (by omega)]
 ·rw[rnd2,xC7,Nat.div_one,Nat.mod_one,if_pos rfl]
def tE (x:Nat) (E:Int):Int:=if(bl x:Int)+E - 53 < -1074 then -1074 else(bl x:Int)+E - 53
theorem qW4 {x:Nat} (h0:x≠0):1≤bl x:=by unfold bl;rw[if_neg h0];omega
theorem yY3 {x:Nat} {E:Int} (h0:x≠0) (ht:1024<(bl x:Int)+E) {way:Nat} (hw:way=0∨way=1∨way=2):bdy x E way=if way=0 then 9218868437227405311 else 9218868437227405312:=by
 unfold bdy;rw[if_neg h0,if_neg (by have:=yW1 (e:=E) h0 ht hw;omega)]
theorem up_lt {x k:Nat} (h0:x≠0) (h:bl x+k≤53):x*2^k<9007199254740992:=by
 have h1:=qV0 x;have h2:x*2^k<2^bl x*2^k:=xE4 h1 (xL5 _);rw[←xC3] at h2;exact xL8 h2 (xL6 (by omega) h:_≤2^53)
theorem up_ge {x k:Nat} (h0:x≠0) (h:bl x+k=53):4503599627370496≤x*2^k:=by
 have h1:=qP6 h0;have hb:=qW4 h0;have h2:2^(bl x - 1)*2^k≤x*2^k:=xL7 _ h1;rw[←xC3,show bl x - 1+k=52 by omega] at h2
 exact h2
theorem dn_lt {x k:Nat} (h:bl x≤k+53):x / 2^k<9007199254740992:=by
 have h1:=qV0 x;refine(xE6 (xL5 _)).2 (xL8 h1 ?_)
 rw[show(9007199254740992:Nat)=2^53 by rfl,←xC3]
 exact xL6 (by omega) (by omega)
theorem dn_ge {x k:Nat} (h0:x≠0) (h:bl x=k+53):4503599627370496≤x / 2^k:=by
 have h1:=qP6 h0;refine(Nat.le_div_iff_mul_le (xL5 _)).2 (xW (Nat.le_of_eq ?_) h1)
 rw[show(4503599627370496:Nat)=2^52 by rfl,←xC3,show 52+k=bl x - 1 by omega]
theorem qT7 {x:Nat} {E:Int} (ht:(bl x:Int)+E≤1024) : -1074≤tE x E∧tE x E≤971:=by unfold tE;split <;> omega
theorem xQ8 {e':Int} {q n:Nat} (h1 : -1074≤e') (h2:e'≤971) (hq:q<9007199254740992) (hge:e' = -1074∨4503599627370496≤q):(e'+1074).toNat*4503599627370496+q<9218868437227405312:=by omega
theorem xR1 {x:Nat} {E:Int} (h0:x≠0) (ht:(bl x:Int)+E≤1024) (hE:tE x E≤E) {way:Nat} (hw:way=0∨way=1∨way=2) :
  bdy x E way=(tE x E+1074).toNat*4503599627370496+x*2^(E - tE x E).toNat∧x*2^(E - tE x E).toNat<9007199254740992∧(tE x E = -1074∨4503599627370496≤x*2^(E - tE x E).toNat):=by
 have hb:=qT7 ht;have hlt:x*2^(E - tE x E).toNat<9007199254740992:=up_lt h0 (by unfold tE at hE ⊢; split at hE <;> omega)
 have hge:tE x E = -1074∨4503599627370496≤x*2^(E - tE x E).toNat:=by
  by_cases h:tE x E = -1074
  ·exact .inl h
  ·exact .inr (up_ge h0 (by unfold tE at h hE ⊢; split at h <;> omega))
 refine⟨?_,hlt,hge⟩
 have hR:=xB5 (x:=x) hE hb.1 hlt hge;have hr:=hR.rwb h0 hw;rw[xU2 _ _ hw] at hr;unfold bdy;rw[if_neg h0,hr,if_pos (xQ8 hb.1 hb.2 hlt hge (n:=0))]
theorem zN8 {x:Nat} {E:Int} (h0:x≠0) (ht:(bl x:Int)+E < -1075) {way:Nat} (hw:way=0∨way=1∨way=2):bdy x E way=if way=2 then 1 else 0:=by
 have hb:=qW4 h0;have hx:=qV0 x;have hx2:2*x<2^(-1074 - E).toNat:=by
  have:2^(bl x+1)≤2^(-1074 - E).toNat:=xL6 (by omega) (by omega)
  rw[xC5] at this;omega
 have hq:x / 2^(-1074 - E).toNat=0:=Nat.div_eq_of_lt (by omega)
 have hm:x % 2^(-1074 - E).toNat=x:=xW3 (by omega)
 have hR:=zF8 (x:=x) (E:=E) (e' := -1074) (by omega) (by omega) (by rw[hq];omega) (.inl rfl)
 have hr:=hR.rwb h0 hw;have h2:rwb x E way=if way=2 then 1 else 0:=by
  rw[hr];rcases hw with rfl|rfl|rfl
  ·rw[rnd0,hq,if_neg (by decide)];rfl
  ·rw[rnd1,hq,hm,if_pos hx2,if_neg (by decide)];rfl
  ·rw[rnd2,hq,hm,if_neg h0,if_pos rfl];rfl
 unfold bdy;rw[if_neg h0,h2,if_pos (by split <;> omega)]
def dnU (x k way:Nat):Bool:=(way==2)||((way==1)&&((x / 2^(k - 1) % 2==1)&&(!(x % 2^(k - 1)==0)||(x / 2^k % 2==1))))
theorem xU3 {x k way:Nat} (hk:1≤k) (hx:x % 2=1) (hw:way=0∨way=1∨way=2):rnd x k (way:Int)=if dnU x k way then x / 2^k+1 else x / 2^k:=by
 obtain⟨n,rfl⟩:∃ n,k=n+1:=⟨k - 1,by omega⟩
 have hodd:x % 2^(n+1)≠0:=fun h=>by
  have:=Nat.dvd_of_mod_eq_zero h
  have h2:2 ∣ x:=Nat.dvd_trans ⟨2^n,by rw[xC5,xC4]⟩ this
  omega
 have hpos:0<2^n:=xL5 n;have hsplit:x % 2^(n+1)=x % 2^n+2^n*(x / 2^n % 2):=by rw[xC5,Nat.mod_mul]
 have hpw:2^(n+1)=2*2^n:=by rw[xC5,xC4]
 have hlt:x % 2^n<2^n:=xW4 _ hpos;have hb2:x / 2^n % 2=0∨x / 2^n % 2=1:=by omega
 unfold dnU;rw[xE5];rcases hw with rfl|rfl|rfl
 ·rw[rnd0];simp
 ·rw[rnd1];simp only[show((1:Nat)==2)=false by rfl,show((1:Nat)==1)=true by rfl,Bool.false_or,Bool.true_and]
  rw[hsplit,hpw];rcases hb2 with hb|hb
  ·rw[hb,Nat.mul_zero,Nat.add_zero,if_pos (by omega)];simp
  ·rw[hb,xE1,if_neg (by omega)]
   by_cases hz:x % 2^n=0
   ·rw[hz,if_pos (by omega)]
    rcases Nat.mod_two_eq_zero_or_one (x / (2*2^n))with h|h <;> rw[h] <;> simp
   ·rw[if_neg (by omega)]
    have:(x % 2^n==0)=false:=by simpa using hz
    rw[this];simp
 ·rw[rnd2,if_neg hodd];simp
theorem xR2 {x:Nat} {E:Int} (h0:x % 2=1) (ht:(bl x:Int)+E≤1024) (hE:E<tE x E) {way:Nat} (hw:way=0∨way=1∨way=2) {n:Nat}
  (hn:n=if dnU x (tE x E - E).toNat way then x / 2^(tE x E - E).toNat+1 else x / 2^(tE x E - E).toNat) :
  n≤9007199254740992∧(tE x E = -1074∨4503599627370496≤n)∧bdy x E way=(tE x E+1074).toNat*4503599627370496+n∧x / 2^(tE x E - E).toNat<9007199254740992:=by
 have hx0:x≠0:=by omega
 have hb:=qT7 ht;have hlt:x / 2^(tE x E - E).toNat<9007199254740992:=dn_lt (by unfold tE at hE ⊢; split at hE <;> omega)
 have hge:tE x E = -1074∨4503599627370496≤x / 2^(tE x E - E).toNat:=by
  by_cases h:tE x E = -1074
  ·exact .inl h
  ·exact .inr (dn_ge hx0 (by unfold tE at h hE ⊢; split at h <;> omega))
 have hR:=zF8 (x:=x) (E:=E) (by omega) hb.1 hlt hge
 have hr:=hR.rwb hx0 hw;rw[xU3 (by omega) h0 hw,←hn] at hr
 have hn1:n≤9007199254740992:=by rw[hn];split <;> omega
 have hn2:tE x E = -1074∨4503599627370496≤n:=by
  rcases hge with h|h
  ·exact .inl h
  ·right;rw[hn];split <;> omega
 refine⟨hn1,hn2,?_,hlt⟩
 unfold bdy;rw[if_neg hx0,hr];by_cases h1:(tE x E+1074).toNat*4503599627370496+n<9218868437227405312
 ·rw[if_pos h1]
 ·rw[if_neg h1];have h2:(tE x E+1074).toNat*4503599627370496+n=9218868437227405312:=by omega
  have h3:n≠x / 2^(tE x E - E).toNat:=by
   intro h;rw[←h] at hlt;omega
  have h4:way≠0:=by
   intro h;subst h;apply h3;rw[hn];simp[dnU]
  rw[if_neg h4,h2]
theorem yD5 (s:Bool) (w:World):Calls Tryz.prog 143 #[.bool s] w fun r w'=>r=.returned (.int .i64 (if s then 1 else 0))∧w'=w:=by
 cases s
 ·go_enter Tryz.func143,Tryz.ntmps143
  go_wp2
  go_ret;exact⟨rfl,rfl⟩
 ·go_enter Tryz.func143,Tryz.ntmps143
  go_wp2
  go_ret;exact⟨rfl,rfl⟩
theorem yX (w:World):Calls Tryz.prog 19 #[.int .i64 (-1)] w fun r w'=>r=.returned (.float .f64 18442240474082181120)∧w'=w:=by
 have hb:=Ie.run_frombits
 go_enter Tryz.func19,Tryz.ntmps19
 go_wp2
 go_ret;exact⟨rfl,rfl⟩
theorem bd_or {E M:Nat} (hE:E≤2046) (h1:4503599627370496≤M) (h2:M<9007199254740992):bits BinOp.or IntKind.u64 ((E:Int)*4503599627370496) (bits BinOp.and IntKind.u64 (M:Int) 4503599627370495)=((E*4503599627370496+(M - 4503599627370496):Nat):Int):=by
 have e:=Nat.two_pow_add_eq_or_of_lt (i:=52) (b:=M - 4503599627370496) (by rw[show(2^52:Nat)=4503599627370496 from rfl];omega) E
 rw[show(2^52:Nat)=4503599627370496 from rfl] at e;rw[qI4 M (by omega),show M % 4503599627370496=M - 4503599627370496 by omega,show(E:Int)*4503599627370496=((4503599627370496*E:Nat):Int) by omega,u64_or_nat _ _ (by omega) (by omega),←e,xC4]
theorem xV {b:Nat} (h:b<9223372036854775808):bits BinOp.or IntKind.u64 (b:Int) 9223372036854775808=((b+9223372036854775808:Nat):Int):=by
 have e:=u64_or_nat b 9223372036854775808 (by omega) (by decide)
 rw[show((9223372036854775808:Nat):Int)=9223372036854775808 from rfl] at e;rw[e,Nat.or_comm,Nat.add_comm];congr 1
 have:=Nat.two_pow_add_eq_or_of_lt (i:=63) (b:=b) (by rw[show(2^63:Nat)=9223372036854775808 from rfl];exact h) 1
 rw[←(show 2^63*1=9223372036854775808 from rfl),←this]
theorem yU4 (s:Bool) (M E:Nat) (w:World) (hm:4503599627370496≤M) (hm2:M<9007199254740992) (hE:1≤E) (hE2:E≤2046):Calls Tryz.prog 144 #[.bool s,.int .u64 (M:Nat),.int .i64 ((E:Int) - 1075)] w fun r w'=>r=.returned (.float .f64 (sig s ((E - 1)*4503599627370496+M)))∧w'=w:=by
 have hb:=Ie.run_frombits;have hm':(4503599627370496:Int)≤(M:Int):=by omega
 have e1:=bd_or hE2 hm hm2;have hlt:E*4503599627370496+(M - 4503599627370496)<9223372036854775808:=by omega
 have e2:=xV hlt;obtain⟨bd,hbd⟩:∃ bd:Nat,bd=E*4503599627370496+(M - 4503599627370496):=⟨_,rfl⟩;rw[←hbd] at e1 e2;obtain⟨b2,hb2⟩:∃ b2:Nat,b2=(E - 1)*4503599627370496+M:=⟨_,rfl⟩;have hR:bd=b2:=by omega
 have HR:Hid (bd=b2):=hR;rw[←hb2];clear hR hb2 hlt;clear hbd;have hE3:(E:Int) - 1075+1075=E:=by omega
 cases s
 ·go_enter Tryz.func144,Tryz.ntmps144
  go_wp2
  go_ret;refine⟨congrArg Ending.returned (congrArg (Value.float .f64) ?_),rfl⟩
  try simp only[hE3,e1]
  try rw[xC9]
  rw[HR.out];rfl
 ·go_enter Tryz.func144,Tryz.ntmps144
  go_wp2
  go_ret;refine⟨congrArg Ending.returned (congrArg (Value.float .f64) ?_),rfl⟩
  try simp only[hE3,e1,e2]
  try rw[xC9]
  try rw[HR.out]
  try rfl
theorem qE8 (s:Bool) (M:Nat) (e:Int) (w:World) (hm2:M<4503599627370496):Calls Tryz.prog 144 #[.bool s,.int .u64 (M:Nat),.int .i64 e] w fun r w'=>r=.returned (.float .f64 (sig s M))∧w'=w:=by
 have hb:=Ie.run_frombits;have hm3:¬ (4503599627370496:Int)≤(M:Int):=by omega
 have e2:=xV (b:=M) (by omega)
 cases s
 ·go_enter Tryz.func144,Tryz.ntmps144
  go_wp2
  go_ret;exact⟨rfl,rfl⟩
 ·go_enter Tryz.func144,Tryz.ntmps144
  go_wp2
  go_ret;refine⟨congrArg Ending.returned (congrArg (Value.float .f64) ?_),rfl⟩
  try simp only[e2]
  try rfl
theorem qO9 {s:Bool} {M:Nat} {e:Int} {w:World} (hM:M<9007199254740992) (he : -1074≤e) (he2:e≤971) (hge:e = -1074∨4503599627370496≤M):Calls Tryz.prog 144 #[.bool s,.int .u64 (M:Nat),.int .i64 e] w fun r w'=>r=.returned (.float .f64 (sig s ((e+1074).toNat*4503599627370496+M)))∧w'=w:=by
 by_cases h:4503599627370496≤M
 ·obtain⟨E,hE⟩:∃ E:Nat,e=(E:Int) - 1075:=⟨(e+1075).toNat,by omega⟩
  subst hE;rw[show((E:Int) - 1075+1074).toNat=E - 1 by omega]
  exact yU4 s M E w h hM (by omega) (by omega)
 ·obtain rfl:e = -1074:=by omega
  rw[show((-1074:Int)+1074).toNat*4503599627370496+M=M by omega]
  exact qE8 s M _ w (by omega)
theorem xJ2 {d d1:Nat} (h0:d<B) (h1:d1<B):bits BinOp.or IntKind.u64 (IntKind.u64.wrap (IntKind.u64.wrap (d1:Int)*4294967296)) (IntKind.u64.wrap (d:Int))=((d+d1*B:Nat):Int):=by
 have e:IntKind.u64.wrap (IntKind.u64.wrap (d1:Int)*4294967296)=((d1*B:Nat):Int):=by
  rw[qZ6 h1,xW7];unfold B at *; omega
 rw[qZ6 h0,e,u64_or_nat _ _ (by unfold B at *; omega) (by unfold B at *; omega),qC3 (p:=32) (by rw[←yJ7];exact Nat.mul_mod_left ..) h0,Nat.add_comm]
theorem yD4 {v:Value} {X:Nat} {w:World} (h:Ir w v X) (hX:X<9007199254740992):Calls Tryz.prog 145 #[v] w fun r w'=>r=.returned (.int .u64 (X:Nat))∧w'=w:=by
 obtain⟨ao,cap,rfl,hc,b,o,hb,hcell⟩:=h;have hl:dlen X≤2:=(qQ9 2 X).2 (by unfold B;omega)
 have hX2:X=dg X 0+dg X 1*B:=by
  unfold dg B;omega
 have h0:=qZ4 X 0;have h1:=qZ4 X 1;by_cases e0:dlen X=0
 ·obtain rfl:=qQ7.1 e0;rw[qQ5] at *;clear hcell hb h0 h1 hX2 hl e0
  go_enter Tryz.func145,Tryz.ntmps145
  go_wp2
  go_ret;exact⟨rfl,rfl⟩
 ·obtain rfl:=hb (by omega)
  have g0:=hcell 0 (by omega)
  rw[Nat.add_zero] at g0;by_cases e1:dlen X=1
  ·have hz:dg X 1=0:=qY6 (by omega)
   have HE:Hid (dg X 0=X):=(by rw[hz] at hX2;omega:dg X 0=X)
   rw[e1] at *;generalize dg X 0=d at *;have HD:Hid (d<B):=h0;clear hcell hb h0 h1 hX2 hl e0 e1 hz
   go_enter Tryz.func145,Tryz.ntmps145
   go_wp2
   go_ret;refine⟨congrArg Ending.returned (congrArg (Value.int .u64) ?_),rfl⟩
   have hd:=HD.out;have e:=u64_or_nat 0 d (by decide) (by unfold B at hd;omega)
   show bits BinOp.or IntKind.u64 0 (IntKind.u64.wrap (d:Int))=_
   rw[qZ6 hd];refine e.trans ?_;rw[Nat.zero_or,HE.out]
  ·have e2:dlen X=2:=by omega
   have g1:=hcell 1 (by omega)
   have HE:Hid (X=dg X 0+dg X 1*B):=hX2;rw[e2] at *;generalize dg X 0=d at *;generalize dg X 1=d1 at *;have HD:Hid (d<B∧d1<B):=⟨h0,h1⟩;clear hcell hb h0 h1 hX2 hl e0 e1 e2
   go_enter Tryz.func145,Tryz.ntmps145
   go_wp2
   go_ret;refine⟨congrArg Ending.returned (congrArg (Value.int .u64) ?_),rfl⟩
   rw[HE.out];exact xJ2 HD.out.1 HD.out.2
end Go.Proofs.YtbanebginnakhaaGreatDoor
