/- Own work: contracts of the program's functions, part 7: Shelf S1 S2 T1 Q2 RB4 RB5 RB6 R8 RB7 RB8 RB9 W33 RC1 RW1 SA3 RC2 RC3 RT2 DV1 RV1 DV2. -/
import Derived.Shelf.Strings.Builder1
import Derived.Shelf.LaysM
import Derived.Shelf.Strconv.Itoa3
import Derived.Test.YtapooodfgcjoaaaGreatProg
import Derived.Test.YtapooodfgcjoaaaGreatA6
import Derived.Test.YtapooodfgcjoaaaGreatA5
import Derived.Laws.AppendOwnNone
import Derived.Test.YtapooodfgcjoaaaGreatA2

set_option maxHeartbeats 16000000
set_option maxRecDepth 200000
set_option linter.unusedVariables false
set_option linter.unusedSimpArgs false
/- The library's contracts at this program that are used: the builder's text, a whole number's decimal digits. -/
namespace Go.Proofs
open Go.Shelf
end Go.Proofs
namespace Go.Proofs.YtapooodfgcjoaaaGreat
open Go.RowKit
end Go.Proofs.YtapooodfgcjoaaaGreat
namespace Go.Proofs.YtapooodfgcjoaaaGreat
open Go.RowKit Go.Fl64
end Go.Proofs.YtapooodfgcjoaaaGreat
namespace Go.Proofs.YtapooodfgcjoaaaGreat
open Go.RowKit
theorem rminus_1 (na:Bool) (ua:Option Addr) (un uc:Nat) (ea:Int) (w:World) (hn:un≤35184372088832) (hn0:((un:Int)==0)=false) :
  Calls Tryz.prog 50 #[.agg #[.bool na,.slice ua un uc,.int .i64 ea]] w fun r w'=>r=.returned (.agg #[.bool (!na),.slice ua un uc,.int .i64 ea])∧Bw w w':=by
 obtain⟨W,hW⟩:∃ W,W=(w.alloc (.cells #[.bool na,.slice ua un uc,.int .i64 ea] 45)).alloc (.cells #[.bool false,.slice none 0 0,.int .i64 0] 45):=⟨_,rfl⟩
 obtain⟨hA,hB,hsz,hBW⟩:=two29 _ _ hW
 obtain⟨⟨a0,a1,a2⟩,-⟩:=box_cells29 hA
 obtain⟨⟨b0,b1,b2⟩,b3,b4,b5⟩:=box_cells29 hB
 have HX:Hid (Bw w W∧W.heap[w.heap.size+1]?=some (.cells #[.bool false,.slice none 0 0,.int .i64 0] 45 (0,0))):=⟨hBW,hB⟩
 clear hA hB hsz hBW
 have HE:Hid (W=(w.alloc (.cells #[.bool na,.slice ua un uc,.int .i64 ea] 45)).alloc (.cells #[.bool false,.slice none 0 0,.int .i64 0] 45)):=hW
 rw[hW] at a0 a1 a2 b0 b1 b2 b3 b4 b5
 clear hW
 go_enter Tryz.func50,Tryz.ntmps50
 go_wp2
 refine bodyPost_ret (results_cell_row rfl _ _ (w.heap.size+1) 45 #[.bool (!na),.slice ua un uc,.int .i64 ea] (0,0) _ rfl (two29 _ _ rfl).2.1 Tryz.underlying45 rfl Tryz.info45) rfl ?_
 exact⟨rfl,(two29 _ _ rfl).2.2.2⟩
theorem rminus_0 (na:Bool) (ua:Option Addr) (uc:Nat) (ea:Int) (w:World) :
  Calls Tryz.prog 50 #[.agg #[.bool na,.slice ua 0 uc,.int .i64 ea]] w fun r w'=>r=.returned (.agg #[.bool false,.slice none 0 0,.int .i64 0])∧Bw w w':=by
 obtain⟨W,hW⟩:∃ W,W=(w.alloc (.cells #[.bool na,.slice ua 0 uc,.int .i64 ea] 45)).alloc (.cells #[.bool false,.slice none 0 0,.int .i64 0] 45):=⟨_,rfl⟩
 obtain⟨hA,hB,hsz,hBW⟩:=two29 _ _ hW
 obtain⟨⟨a0,a1,a2⟩,-⟩:=box_cells29 hA
 obtain⟨⟨b0,b1,b2⟩,b3,b4,b5⟩:=box_cells29 hB
 have HX:Hid (Bw w W∧W.heap[w.heap.size+1]?=some (.cells #[.bool false,.slice none 0 0,.int .i64 0] 45 (0,0))):=⟨hBW,hB⟩
 clear hA hB hsz hBW
 have HE:Hid (W=(w.alloc (.cells #[.bool na,.slice ua 0 uc,.int .i64 ea] 45)).alloc (.cells #[.bool false,.slice none 0 0,.int .i64 0] 45)):=hW
 rw[hW] at a0 a1 a2 b0 b1 b2 b3 b4 b5
 clear hW
 go_enter Tryz.func50,Tryz.ntmps50
 go_wp2
 refine bodyPost_ret (results_cell_row rfl _ _ (w.heap.size+1) 45 #[.bool false,.slice none 0 0,.int .i64 0] (0,0) _ rfl (two29 _ _ rfl).2.1 Tryz.underlying45 rfl Tryz.info45) rfl ?_
 exact⟨rfl,(two29 _ _ rfl).2.2.2⟩
theorem dn_of_row {w:World} {base n z:Nat} {v:Value} (h:w.ownsRow base 99 1 v n (cells z n)) (hn0:0<n):Dn w base v n z:=by
 obtain⟨g2,cap2,cur2,rfl,hg2,hc2,hc3,hc4,hc5,hc6⟩:=(h.2.resolve_left fun h=>by omega)
 refine .inr ⟨g2,cap2,cur2,rfl,hg2,⟨hc3,by unfold maxLen at hc4;omega⟩,hc2,by omega,fun i hi=>?_⟩
 have h7:(cells z n)[i]?=cur2[i]?:=by
  rw[←hc6,Nat.mul_one,List.getElem?_take,if_pos hi,Array.getElem?_toList]
 rw[←h7,cells_get hi]
theorem wpList_append_copy {w:World} {ops:Array Oper} {rest:List Oper} {o:Oper} {a:Act} {Q:Exit→Act→World→Prop} (hgd:o.guard=none) (s x:Operand)
  (ho:o.op=.call { callee:=.builtin .append,args:=#[s,x],argTypes:=#[43,43] }) (hs:a.eval s=.slice none 0 0) {ao:Option Addr} {n cap z:Nat} (hx:a.eval x=.slice ao n cap) (hA:Arg w ao n cap z)
  (h:∀ ao' cap' w',Dn w' w.heap.size (.slice ao' n cap') n z→Bw w w'→wpList Tryz.prog ops Q rest (a.put o.dst (.slice ao' n cap')) w'):wpList Tryz.prog ops Q (o :: rest) a w:=by
 obtain⟨i0,hi0,hz0,hz1,hz2⟩:=info_parts Tryz.info99
 by_cases h0:n=0
 ·subst h0
  rcases hA.nil rfl with ⟨ad,rfl⟩|⟨rfl,rfl⟩
  ·refine wpList_append_own _ hgd s x 43 ho w.heap.size 99 i0 (.int .u32 0) 1 4 Tryz.underlying43 hi0 hz0 hz1 hz2 rfl (by decide) (.slice none 0 0) 0 [] hs (World.ownsRow_nil w _ _ _) ad 0 cap [] hx (by simp) (by intro j u hj;simp at hj) (by intro u hu;simp at hu) (by unfold maxLen;omega) (by omega) (Nat.le_refl _) ?_
   intro v' w' _ r2 r3
   obtain rfl:v'=.slice none 0 0:=r3.2 ⟨rfl,rfl⟩
   exact h none 0 w' (.inl ⟨rfl,rfl⟩) (Below.grown (Below.refl _ _) r2 (Nat.le_refl _) (fun k hk=>by simp[Value.ownBlock] at hk))
  ·exact wpList_append_own_none hgd s x 43 ho w.heap.size 99 i0 1 Tryz.underlying43 hi0 (.slice none 0 0) 0 [] hs (World.ownsRow_nil w _ _ _) hx (h none 0 w (.inl ⟨rfl,rfl⟩) (Below.refl _ _))
 ·obtain⟨b,o',h1,h2⟩:=hA.at_
  obtain rfl:=h1 (by omega)
  have hsm:=hA.small
  refine wpList_append_own _ hgd s x 43 ho w.heap.size 99 i0 (.int .u32 0) 1 4 Tryz.underlying43 hi0 hz0 hz1 hz2 rfl (by decide) (.slice none 0 0) 0 [] hs (World.ownsRow_nil w _ _ _) ⟨b,o',none⟩ n cap (cells z n) hx (by rw[cells_length,Nat.mul_one]) (fun j u hj=>by
   have hjl:j<n:=by
    have:=(List.getElem?_eq_some_iff.1 hj).1
    rwa [cells_length] at this
   rw[cells_get hjl] at hj
   rw[show(⟨b,o',none⟩:Addr).add j=⟨b,o'+j,none⟩ by simp[Addr.add],←hj]
   exact h2 j hjl) (by intro u hu;simp[cells] at hu;obtain⟨j,-,rfl⟩:=hu;rfl) (by unfold maxLen;omega) (by omega) (Nat.le_refl _) ?_
  intro v' w' r1 r2 _
  rw[Nat.zero_add,List.nil_append] at r1
  have hd:=dn_of_row r1 (by omega)
  have hb:Bw w w':=Below.grown (Below.refl _ _) r2 (Nat.le_refl _) (fun k hk=>by simp[Value.ownBlock] at hk)
  rcases hd with ⟨-,h⟩|⟨g,cap',c,rfl,h3⟩
  ·omega
  ·exact h _ _ w' (.inr ⟨g,cap',c,rfl,h3⟩) hb
theorem Dn.store {w:World} {base n z:Nat} {v:Value} (h:Dn w base v n z) {g:Nat} (hg:g<base) (i:Nat) (u:Value):Dn (w.setCell ⟨g,i,none⟩ u) base v n z:=by
 rcases h with h|⟨g2,cap2,c,rfl,h1,h2,h3,h4⟩
 ·exact .inl h
 ·exact .inr ⟨g2,cap2,c,rfl,h1,h2,by rw[setCell_block _ _ (by omega)];exact h3,h4⟩
theorem rtwin {ng:Bool} {ao:Option Addr} {n cap z:Nat} {e:Int} {w:World} (h:Arg w ao n cap z) :
  Calls Tryz.prog 98 #[.agg #[.bool ng,.slice ao n cap,.int .i64 e]] w fun r w'=>∃ ao' cap',r=.returned (.agg #[.bool ng,.slice ao' n cap',.int .i64 e])∧Dn w' w.heap.size (.slice ao' n cap') n z∧Bw w w':=by
 obtain⟨W,hW⟩:∃ W,W=(w.alloc (.cells #[.bool ng,.slice ao n cap,.int .i64 e] 45)).alloc (.cells #[.bool false,.slice none 0 0,.int .i64 0] 45):=⟨_,rfl⟩
 obtain⟨hA,hB,hsz,hBW⟩:=two29 _ _ hW
 obtain⟨⟨a0,a1,a2⟩,-⟩:=box_cells29 hA
 have HX:Hid (Bw w W∧W.heap.size=w.heap.size+1+1∧W.heap[w.heap.size]?=some (.cells #[.bool ng,.slice ao n cap,.int .i64 e] 45 (0,0))∧W.heap[w.heap.size+1]?=some (.cells #[.bool false,.slice none 0 0,.int .i64 0] 45 (0,0))):=⟨hBW,hsz,hA,hB⟩
 have hAr:=h.later hBW
 rw[hW] at a0 a1 a2
 have HW:Hid (W=(w.alloc (.cells #[.bool ng,.slice ao n cap,.int .i64 e] 45)).alloc (.cells #[.bool false,.slice none 0 0,.int .i64 0] 45)):=hW
 clear hA hB hsz hBW h hW
 go_enter Tryz.func98,Tryz.ntmps98
 go_wp2_with (at_builtin;rw[←HW.out];refine wpList_append_copy rfl _ _ rfl rfl rfl hAr ?_)
 intro ao2 cap2 w2 hd hb
 have hb1:=box_later HX.out.2.2.1 hb (by have:=HX.out.2.1;omega)
 have hb2:=box_later HX.out.2.2.2 hb (by have:=HX.out.2.1;omega)
 obtain⟨⟨x1,x2,x3⟩,x4,x5,x6⟩:=box_cells29 hb1
 obtain⟨⟨y1,y2,y3⟩,y4,y5,y6⟩:=box_cells29 hb2
 have HR:Hid (Dn w2 W.heap.size (.slice ao2 n cap2) n z∧Bw W w2∧w2.heap[w.heap.size+1]?=some (.cells #[.bool false,.slice none 0 0,.int .i64 0] 45 (0,0))):=⟨hd,hb,hb2⟩
 clear hd hb hb1 hb2 a0 a1 a2 hAr
 go_wp2
 have HQ:(w2.setCell ⟨w.heap.size,1,none⟩ (.slice ao2 n cap2)).heap[w.heap.size+1]?=some (.cells #[.bool false,.slice none 0 0,.int .i64 0] 45 (0,0)):=by
  rw[setCell_block _ _ (by omega)];exact HR.out.2.2
 refine bodyPost_ret (results_cell_row rfl _ _ (w.heap.size+1) 45 #[.bool ng,.slice ao2 n cap2,.int .i64 e] (0,0) _ rfl (store3_29 _ _ _ HQ) Tryz.underlying45 rfl Tryz.info45) rfl ?_
 obtain⟨q1,q2,-,-⟩:=HX.out
 obtain⟨r1,r2,-⟩:=HR.out
 exact⟨_,_,rfl,((((r1.store (by omega) _ _).store (by omega) _ _).store (by omega) _ _).store (by omega) _ _).mono (by omega),below_store3 ((q1.trans (r2.mono q1.size)).setCell (Nat.le_refl _) _) (by omega) _ _ _⟩
theorem r34c_1 (neg:Bool) (ao:Option Addr) (n cap x:Nat) (e:Int) (w:World) (h:At w ao n x) (hxn:dlen x≤n) (hn:n≤cap) (hc:n≤1000000000) (hx0:x≠0) (he : -4611686018427387904≤e∧e≤4611686018427387904) :
  Calls Tryz.prog 67 #[.bool neg,.slice ao n cap,.int .i64 e] w fun r w'=>∃ g cap',r=.returned (.agg #[.bool neg,.slice (some ⟨g,0,none⟩) (dlen (x / 2^tz x)) cap',.int .i64 (e+tz x)])∧w.heap.size≤g∧dlen (x / 2^tz x)≤cap'∧At w' (some ⟨g,0,none⟩) (dlen (x / 2^tz x)) (x / 2^tz x)∧Bw w w':=by
 obtain⟨w0,hw0⟩:∃ w0,w0=w.alloc (.cells #[.bool false,.slice none 0 0,.int .i64 0] 45):=⟨_,rfl⟩
 have hB0:Bw w w0:=by rw[hw0];exact(Below.refl _ _).alloc (Nat.le_refl _) _
 have h0:=h.later hB0
 have k40:=r40 ao n cap x w0 hxn hn (by omega) h0
 have htz:tz x / 32<dlen x:=by
  have h1:=(tz_spec _ x (Nat.le_refl _) hx0)
  have h2:2^tz x≤x:=by
   have h3:1≤x / 2^tz x:=Nat.pos_of_ne_zero fun e0=>by have:=h1.2;rw[e0] at this;simp at this
   have:=Nat.mul_le_mul_left (2^tz x) h3
   omega
  have h4:=lt_bl x
  have h5:tz x<bl x:=Nat.lt_of_not_le fun h6=>by
   have:=Nat.pow_le_pow_right (n:=2) (by omega) h6
   omega
  have hd0:dlen x≠0:=fun e=>hx0 (dlen_eq_zero.1 e)
  have:=bl_top hx0
  have:=bl_le32 (dg_lt x (dlen x - 1))
  omega
 have hs:=at_short h0 hxn
 have k64:=r64 rfl (by omega:dlen x≤cap) hs (tz x) (by omega) htz (by omega)
 have hl0:0<dlen x:=by omega
 have hn0:((dlen x:Int)==0)=false:=by simp;omega
 have HS:Hid (At w0 ao (dlen x) x):=hs
 have HH:Hid (w0.heap[w.heap.size]?=some (.cells #[.bool false,.slice none 0 0,.int .i64 0] 45 (0,0))):=(by rw[hw0];exact heap_alloc_new _ _:w0.heap[w.heap.size]?=some (.cells #[.bool false,.slice none 0 0,.int .i64 0] 45 (0,0)))
 have HB0:Hid (Bw w w0):=hB0
 have HX:Hid (w0.heap.size=w.heap.size+1):=(by rw[hw0];simp:w0.heap.size=w.heap.size+1)
 have HT:Hid (tz x / 32<dlen x∧x≠0):=⟨htz,hx0⟩
 obtain⟨he1,he2⟩:=he
 have hlb:dlen x≤1000000000:=by omega
 clear h h0 hB0 hs hxn hn hx0
 generalize hL:dlen x=L at *
 generalize htzx:tz x=T at *
 have HTZ:Hid (tz x=T∧dlen x=L):=⟨htzx,hL⟩
 clear htzx hL
 have hTb:T≤40000000000:=by omega
 go_enter Tryz.func67,Tryz.ntmps67
 go_wp2_with fail
 rw[←hw0]
 clear hw0
 refine k40.mono ?_
 rintro r w1 ⟨rfl,rfl⟩
 clear k40
 go_wp2_with fail
 go_loop [7] (fun v=>∃ t:Nat,t≤T∧v=.int .i64 (t:Int)) (fun v=>T - (intOf v).toNat)
 case atStart=>exact⟨0,Nat.zero_le _,rfl⟩
 case round =>
  obtain⟨t,ht,rfl⟩:=hrel
  obtain⟨b,o,hb,hcell⟩:=HS.out
  obtain rfl:=hb (by omega)
  have hq:(t:Int).tdiv 32=((t / 32:Nat):Int):=by rw[Int.tdiv_eq_ediv_of_nonneg (by omega)];rfl
  have hr:(t:Int).tmod 32=((t % 32:Nat):Int):=by rw[Int.tmod_eq_emod_of_nonneg (by omega)];rfl
  have htl:t / 32<L:=by omega
  have g1:=hcell (t / 32) htl
  have hpb:t % 32<32:=by omega
  generalize hi:t / 32=i at *
  generalize hp:t % 32=p at *
  generalize hd:dg x i=d at *
  have HI:Hid (t / 32=i∧t % 32=p∧dg x i=d):=⟨hi,hp,hd⟩
  have hbit:=bit_tz HTZ.out.1 HT.out.2 ht HI.out
  clear hi hp hd hcell hb
  by_cases htt:t<T
  ·rw[decide_eq_true htt] at hbit
   go_wp2_with fail
   exact⟨⟨t+1,by omega,by simp⟩,by simp[intOf];omega⟩
  ·rw[decide_eq_false htt] at hbit
   obtain rfl:t=T:=by omega
   clear htt ht
   go_wp2_with fail
   refine k64.mono ?_
   rintro r w3 ⟨ao3,cap3,bb,rfl,hA3,hc3,hB3⟩
   clear k64 hq hr hbit g1
   have HH3:Hid (w3.heap[w.heap.size]?=some (.cells #[.bool false,.slice none 0 0,.int .i64 0] 45 (0,0))):=box_later HH.out hB3 (by have:=HX.out;omega)
   obtain⟨⟨a1,a2,a3⟩,a4,a5,a6⟩:=box_cells29 HH3.out
   have HA3:Hid (At w3 ao3 (dlen (x / 2^t)) (x / 2^t)∧Bw w1 w3):=⟨hA3,hB3⟩
   clear hA3 hB3
   have hyo:x / 2^t % 2=1:=by rw[←HTZ.out.1];exact(tz_spec _ x (Nat.le_refl _) HT.out.2).2
   have hy0:0<dlen (x / 2^t):=Nat.pos_of_ne_zero fun e=>by rw[dlen_eq_zero.1 e] at hyo;simp at hyo
   have hyl:dlen (x / 2^t)≤1000000000:=by
    have h1:dlen (x / 2^t)≤dlen x:=dlen_mono (Nat.div_le_self ..)
    rw[HTZ.out.2] at h1;omega
   obtain⟨b3,o3,hb3,hc3'⟩:=HA3.out.1
   obtain rfl:=hb3 hy0
   have HN:Hid (∀ j u,(cells (x / 2^t) (dlen (x / 2^t)))[j]?=some u→(w3.alloc (Obj.cells (madeCells #[Value.int IntKind.u32 0] 0) 99)).cell? ((⟨b3,o3,none⟩:Addr).add j)=some u):=fun j u hj=>by
    have hjl:j<dlen (x / 2^t):=by
     have:=(List.getElem?_eq_some_iff.1 hj).1
     rwa [cells_length] at this
    rw[cells_get hjl] at hj
    have hcl:=hc3' j hjl
    rw[show(⟨b3,o3,none⟩:Addr).add j=⟨b3,o3+j,none⟩ by simp[Addr.add]]
    rw[World.cell?_alloc_old _ _ _ (by have:=World.block_lt_of_cell? _ _ hcl;show b3≠w3.heap.size;simp at this;omega)]
    rw[←hj];exact hcl
   have hOM:(w3.alloc (Obj.cells (madeCells #[Value.int IntKind.u32 0] 0) 99)).ownsRow w3.heap.size 99 1 (.slice (some ⟨w3.heap.size,0,none⟩) 0 0) 0 []:=World.ownsRow_made w3 _ 0 (Nat.le_refl _) (by unfold maxLen;omega) (by simp[madeCells])
   have hmk:=run_make_row' (P:=Tryz.prog) 43 99 (.int .u32 0) 4 Tryz.underlying43 Tryz.info99 rfl .i64 .i64 0 (by omega) (by omega) w3
   rw[show((0:Nat):Int)=0 from rfl] at hmk
   clear hc3' hb3 hyo
   generalize hy:x / 2^t=y at *
   have HY:Hid (x / 2^t=y):=hy
   clear hy
   generalize hM:dlen y=M at *
   have HM:Hid (dlen y=M):=hM
   clear hM
   have hM0:M≠0:=by omega
   obtain⟨i0,hi0,hz0,hz1,hz2⟩:=info_parts Tryz.info99
   go_wp2_with (at_builtin;refine wpList_append_own _ rfl _ _ 43 rfl w3.heap.size 99 i0 (.int .u32 0) 1 4 Tryz.underlying43 hi0 hz0 hz1 hz2 rfl (by decide) _ 0 [] rfl hOM ⟨b3,o3,none⟩ M cap3 (cells y M) rfl (by rw[cells_length,Nat.mul_one]) HN.out (by intro u hu;simp[cells] at hu;obtain⟨j,-,rfl⟩:=hu;rfl) (by unfold maxLen;omega) (by omega) (by simp) ?_)
   intro v' w4 hown4 hgrow _
   have hsz:=HX.out
   have hs3:=HA3.out.2.size
   have hh4:w4.heap[w.heap.size]?=some (.cells #[.bool false,.slice none 0 0,.int .i64 0] 45 (0,0)):=by
    rw[hgrow.block _ (by simp;omega) (fun e=>by simp[Value.ownBlock] at e;omega),Lib.alloc_old w3 _ _ (by omega)]
    exact HH3.out
   obtain⟨⟨a1,a2,a3⟩,a4,a5,a6⟩:=box_cells29 hh4
   have HR:Hid (w4.ownsRow w3.heap.size 99 1 v' M (cells y M)∧w4.heap[w.heap.size]?=some (.cells #[.bool false,.slice none 0 0,.int .i64 0] 45 (0,0))):=⟨hown4,hh4⟩
   have HG:Hid (Bw w3 w4):=Below.grown ((Below.refl w3.heap.size w3).alloc (Nat.le_refl _) _) hgrow (by simp) (fun k hk=>by simp[Value.ownBlock] at hk;omega)
   obtain⟨g4,cap4,cur4,rfl,hg4,-⟩:=(hown4.2.resolve_left fun h=>hM0 h.2)
   clear hown4 hh4 hgrow HN hOM
   go_wp2
   refine bodyPost_ret (results_cell_row rfl _ _ w.heap.size 45 #[.bool neg,.slice (some ⟨g4,0,none⟩) M cap4,.int .i64 (e+t)] (0,0) _ rfl (store3_29 _ _ _ HR.out.2) Tryz.underlying45 rfl Tryz.info45) rfl ?_
   obtain⟨ao5,cap5,hv5,hcc5,hA5⟩:=at_of_row HR.out.1
   simp only[Value.slice.injEq] at hv5
   obtain⟨rfl,-,rfl⟩:=hv5
   obtain⟨b5,o5,hb5,hc5⟩:=hA5
   have hb5':=hb5 (by omega)
   simp only[Option.some.injEq,Addr.mk.injEq] at hb5'
   obtain⟨rfl,rfl,-⟩:=hb5'
   rw[HY.out,HM.out]
   refine⟨_,_,rfl,by omega,hcc5,⟨g4,0,fun _=>rfl,fun j hj=>?_⟩,below_store3 (HB0.out.trans ((HA3.out.2.trans (HG.out.mono hs3)).mono (by omega))) (Nat.le_refl _) _ _ _⟩
   rw[World.cell?_setCell_other _ _ _ _ (by intro e;simp at e),World.cell?_setCell_other _ _ _ _ (by intro e;simp at e),World.cell?_setCell_other _ _ _ _ (by intro e;simp at e)]
   exact hc5 j hj
def NC (w':World) (base:Nat) (a:Value) (neg:Bool) (x:Nat) (e:Int):Prop:=∃ ao cap,a=.agg #[.bool (cn neg x e).1,.slice ao (dlen (cn neg x e).2.1) cap,.int .i64 (cn neg x e).2.2]∧Arg w' ao (dlen (cn neg x e).2.1) cap (cn neg x e).2.1∧(∀ ad:Addr,ao=some ad→0<dlen (cn neg x e).2.1→base≤ad.block)
theorem NC.later {w w':World} {base:Nat} {a:Value} {neg:Bool} {x:Nat} {e:Int} (h:NC w base a neg x e) (hb:Bw w w'):NC w' base a neg x e:=by
 obtain⟨ao,cap,h1,h2,h3⟩:=h
 exact⟨ao,cap,h1,h2.later hb,h3⟩
theorem NC.mono {w:World} {base base':Nat} {a:Value} {neg:Bool} {x:Nat} {e:Int} (h:NC w base a neg x e) (hb:base'≤base):NC w base' a neg x e:=by
 obtain⟨ao,cap,h1,h2,h3⟩:=h
 exact⟨ao,cap,h1,h2,fun ad e hl=>Nat.le_trans hb (h3 ad e hl)⟩
theorem rnorm {neg:Bool} {v:Value} {x:Nat} {e:Int} {w:World} (h:Ir w v x) (hc:dlen x≤1000000000) (he : -4611686018427387904≤e∧e≤4611686018427387904) :
  Calls Tryz.prog 67 #[.bool neg,v,.int .i64 e] w fun r w'=>∃ a,r=.returned a∧NC w' w.heap.size a neg x e∧Bw w w':=by
 obtain⟨ao,cap,rfl,h1,h2⟩:=h
 by_cases h0:x=0
 ·subst h0
  refine(r34_0 neg ao _ cap e w h2 h1 (by omega)).mono ?_
  rintro r w' ⟨rfl,hb⟩
  refine⟨_,rfl,⟨none,0,?_,?_,fun ad e=>by cases e⟩,hb⟩
  ·unfold cn;rw[if_pos rfl,dlen_zero]
  ·unfold cn;rw[if_pos rfl]
   exact⟨fun _=>.inr ⟨rfl,rfl⟩,⟨0,0,fun h=>by rw[dlen_zero] at h;omega,fun i hi=>by rw[dlen_zero] at hi;omega⟩,by rw[dlen_zero];exact Nat.le_refl _,by rw[dlen_zero];omega⟩
 ·refine(r34c_1 neg ao _ cap x e w h2 (Nat.le_refl _) h1 hc h0 he).mono ?_
  rintro r w' ⟨g,cap',rfl,hg,hcc,ho,hb⟩
  have hle:dlen (x / 2^tz x)≤dlen x:=dlen_mono (Nat.div_le_self _ _)
  refine⟨_,rfl,⟨some ⟨g,0,none⟩,cap',?_,?_,fun ad e _=>?_⟩,hb⟩
  ·unfold cn;rw[if_neg h0]
  ·unfold cn;rw[if_neg h0]
   exact⟨fun _=>.inl ⟨_,rfl⟩,ho,hcc,(by omega:dlen (x / 2^tz x)≤35184372088832)⟩
  ·injection e with e;rw[←e];exact hg
theorem rhigh_1 (neg:Bool) (ao:Option Addr) (n cap b:Nat) (e:Int) (w:World) (hn0:((n:Int)==0)=false) (hb:b≤64000000000) (he1 : -4000000≤e) (he2:e≤4000000)
  (k74:∀ W,Bw w W→Calls Tryz.prog 130 #[.slice ao n cap] W fun r w'=>r=.returned (.int .i64 b)∧w'=W) :
  Calls Tryz.prog 95 #[.agg #[.bool neg,.slice ao n cap,.int .i64 e]] w fun r w'=>r=.returned (.int .i64 (b+e))∧Bw w w':=by
 obtain⟨W,hW⟩:∃ W,W=w.alloc (.cells #[.bool neg,.slice ao n cap,.int .i64 e] 45):=⟨_,rfl⟩
 have hBW:Bw w W:=by rw[hW];exact(Below.refl _ _).alloc (Nat.le_refl _) _
 have hbA:W.heap[w.heap.size]?=some (.cells #[.bool neg,.slice ao n cap,.int .i64 e] 45 (0,0)):=by rw[hW];exact heap_alloc_new _ _
 obtain⟨⟨a0,a1,a2⟩,-⟩:=box_cells29 hbA
 have k:=fun d=>k74 (W.drewN d) (hBW.trans ⟨rfl,rfl,rfl,Nat.le_refl _,fun _ _=>rfl⟩)
 have HB:Hid (Bw w W):=hBW
 clear k74 hBW hbA
 go_enter Tryz.func95,Tryz.ntmps95
 go_upto_region 3 with fail
 rw[←hW]
 clear hW
 go_quiet ((go_at_call 130;exact Calls.quiet_of_same (k _)))
 go_wp2
 go_ret
 refine⟨congrArg Ending.returned (congrArg (Value.int IntKind.i64) ?_),HB.out.trans ⟨rfl,rfl,rfl,Nat.le_refl _,fun _ _=>rfl⟩⟩
 first|rfl|omega|(rw[IntKind.wrap_i64];omega)|(unfold wrap64;omega)
theorem rhigh {neg:Bool} {ao:Option Addr} {cap x:Nat} {e:Int} {w:World} (h:At w ao (dlen x) x) (h0:x≠0) (hx:dlen x≤1000000000) (he : -4000000≤e∧e≤4000000) :
  Calls Tryz.prog 95 #[.agg #[.bool neg,.slice ao (dlen x) cap,.int .i64 e]] w fun r w'=>r=.returned (.int .i64 (bl x+e))∧Bw w w':=by
 have hl:0<dlen x:=Nat.pos_of_ne_zero fun e=>h0 (dlen_eq_zero.1 e)
 refine rhigh_1 neg ao (dlen x) cap (bl x) e w (len_ne (n:=0) h0) ?_ he.1 he.2 (fun W hW=>?_)
 ·have:=bl_le_dlen x
  omega
 ·obtain⟨b,o,h1,h2⟩:=h.later hW
  obtain rfl:=h1 hl
  exact r42 b o (dlen x) cap x W hl hx rfl h2
theorem rplus_a (na nb:Bool) (ua va:Option Addr) (uc vn vc:Nat) (ea eb:Int) (w:World) (z:Nat) (hAr:Arg w va vn vc z) :
  Calls Tryz.prog 45 #[.agg #[.bool na,.slice ua 0 uc,.int .i64 ea],.agg #[.bool nb,.slice va vn vc,.int .i64 eb]] w fun r w'=>∃ ao' cap',r=.returned (.agg #[.bool nb,.slice ao' vn cap',.int .i64 eb])∧Dn w' w.heap.size (.slice ao' vn cap') vn z∧Bw w w':=by
 obtain⟨W,hW⟩:∃ W,W=((w.alloc (.cells #[.bool na,.slice ua 0 uc,.int .i64 ea] 45)).alloc (.cells #[.bool nb,.slice va vn vc,.int .i64 eb] 45)).alloc (.cells #[.bool false,.slice none 0 0,.int .i64 0] 45):=⟨_,rfl⟩
 obtain⟨hA,hBb,hC,hsz,hBW⟩:=boxes3 _ _ _ hW
 have hn:=hAr.small
 have k1:=rtwin (ng:=nb) (e:=eb) (hAr.later hBW)
 have HH:Hid (W.heap[w.heap.size+1+1]?=some (.cells #[.bool false,.slice none 0 0,.int .i64 0] 45 (0,0))∧W.heap.size=w.heap.size+1+1+1∧Bw w W):=⟨hC,hsz,hBW⟩
 clear hA hBb hC hsz hBW hAr
 go_enter Tryz.func45,Tryz.ntmps45
 go_wp2_with fail
 rw[←hW]
 clear hW
 refine k1.mono ?_
 rintro r w4 ⟨ao4,cap4,rfl,hd,hB4⟩
 have HC4:Hid (w4.heap[w.heap.size+1+1]?=some (.cells #[.bool false,.slice none 0 0,.int .i64 0] 45 (0,0))):=box_later HH.out.1 hB4 (by have:=HH.out.2.1;omega)
 obtain⟨⟨x1,x2,x3⟩,x4,x5,x6⟩:=box_cells29 HC4.out
 have HD4:Hid (Dn w4 W.heap.size (.slice ao4 vn cap4) vn z∧Bw W w4):=⟨hd,hB4⟩
 clear hd hB4 k1
 go_wp2
 refine bodyPost_ret (results_cell_row rfl _ _ (w.heap.size+1+1) 45 #[.bool nb,.slice ao4 vn cap4,.int .i64 eb] (0,0) _ rfl (store3_29 _ _ _ HC4.out) Tryz.underlying45 rfl Tryz.info45) rfl ?_
 obtain⟨-,hs,hBW⟩:=HH.out
 obtain⟨hd,hb⟩:=HD4.out
 exact⟨_,_,rfl,(((hd.store (by omega) _ _).store (by omega) _ _).store (by omega) _ _).mono (by omega),below_store3 (hBW.trans (hb.mono hBW.size)) (by omega) _ _ _⟩
theorem rplus_b (na nb:Bool) (ua va:Option Addr) (un uc vc:Nat) (ea eb:Int) (w:World) (z:Nat) (hAr:Arg w ua un uc z) (hn0:((un:Int)==0)=false) :
  Calls Tryz.prog 45 #[.agg #[.bool na,.slice ua un uc,.int .i64 ea],.agg #[.bool nb,.slice va 0 vc,.int .i64 eb]] w fun r w'=>∃ ao' cap',r=.returned (.agg #[.bool na,.slice ao' un cap',.int .i64 ea])∧Dn w' w.heap.size (.slice ao' un cap') un z∧Bw w w':=by
 obtain⟨W,hW⟩:∃ W,W=((w.alloc (.cells #[.bool na,.slice ua un uc,.int .i64 ea] 45)).alloc (.cells #[.bool nb,.slice va 0 vc,.int .i64 eb] 45)).alloc (.cells #[.bool false,.slice none 0 0,.int .i64 0] 45):=⟨_,rfl⟩
 obtain⟨hA,hBb,hC,hsz,hBW⟩:=boxes3 _ _ _ hW
 have hn:=hAr.small
 have k1:=rtwin (ng:=na) (e:=ea) (hAr.later hBW)
 have HH:Hid (W.heap[w.heap.size+1+1]?=some (.cells #[.bool false,.slice none 0 0,.int .i64 0] 45 (0,0))∧W.heap.size=w.heap.size+1+1+1∧Bw w W):=⟨hC,hsz,hBW⟩
 clear hA hBb hC hsz hBW hAr
 go_enter Tryz.func45,Tryz.ntmps45
 go_wp2_with fail
 rw[←hW]
 clear hW
 refine k1.mono ?_
 rintro r w4 ⟨ao4,cap4,rfl,hd,hB4⟩
 have HC4:Hid (w4.heap[w.heap.size+1+1]?=some (.cells #[.bool false,.slice none 0 0,.int .i64 0] 45 (0,0))):=box_later HH.out.1 hB4 (by have:=HH.out.2.1;omega)
 obtain⟨⟨x1,x2,x3⟩,x4,x5,x6⟩:=box_cells29 HC4.out
 have HD4:Hid (Dn w4 W.heap.size (.slice ao4 un cap4) un z∧Bw W w4):=⟨hd,hB4⟩
 clear hd hB4 k1
 go_wp2
 refine bodyPost_ret (results_cell_row rfl _ _ (w.heap.size+1+1) 45 #[.bool na,.slice ao4 un cap4,.int .i64 ea] (0,0) _ rfl (store3_29 _ _ _ HC4.out) Tryz.underlying45 rfl Tryz.info45) rfl ?_
 obtain⟨-,hs,hBW⟩:=HH.out
 obtain⟨hd,hb⟩:=HD4.out
 exact⟨_,_,rfl,(((hd.store (by omega) _ _).store (by omega) _ _).store (by omega) _ _).mono (by omega),below_store3 (hBW.trans (hb.mono hBW.size)) (by omega) _ _ _⟩
theorem NC.shape {w:World} {base:Nat} {a:Value} {s:Bool} {z:Nat} {e:Int} (h:NC w base a s z e):∃ s ao n cap ex,a=.agg #[.bool s,.slice ao n cap,.int .i64 ex]:=by
 obtain⟨ao,cap,h1,-⟩:=h
 exact⟨_,_,_,_,_,h1⟩
theorem NC.store {w:World} {base g:Nat} {A:Value} {s:Bool} {z:Nat} {e:Int} (h:NC w base A s z e) (hg:g<base) (a b c:Value):NC (((w.setCell ⟨g,0,none⟩ a).setCell ⟨g,1,none⟩ b).setCell ⟨g,2,none⟩ c) base A s z e:=by
 obtain⟨ao,cap,h1,h2,h3⟩:=h
 refine⟨ao,cap,h1,⟨h2.nil,?_,h2.le,h2.small⟩,h3⟩
 obtain⟨bb,oo,hb,hc⟩:=h2.at_
 refine⟨bb,oo,hb,fun i hi=>?_⟩
 have hbb:base≤bb:=h3 _ (hb (by omega)) (by omega)
 rw[World.cell?_setCell_other _ _ _ _ (by intro e;simp at e <;> omega),World.cell?_setCell_other _ _ _ _ (by intro e;simp at e <;> omega),World.cell?_setCell_other _ _ _ _ (by intro e;simp at e <;> omega)]
 exact hc i hi
theorem Dn.nc {w:World} {base:Nat} {ao:Option Addr} {cap z:Nat} {s:Bool} {e:Int} (h:Dn w base (.slice ao (dlen z) cap) (dlen z) z) (hc:cn s z e=(s,z,e)) (hz:dlen z≤35184372088832):NC w base (.agg #[.bool s,.slice ao (dlen z) cap,.int .i64 e]) s z e:=by
 refine⟨ao,cap,by rw[hc],?_,?_⟩
 ·rw[hc]
  rcases h with ⟨h1,h2⟩|⟨g,cap',c,h1,h2,h3,h4,h5,h6⟩
  ·simp only[Value.slice.injEq] at h1
   obtain⟨rfl,-,rfl⟩:=h1
   exact⟨fun _=>.inr ⟨rfl,rfl⟩,⟨0,0,fun h=>by simp only at h;omega,fun i hi=>by simp only at hi;omega⟩,by simp only;omega,hz⟩
  ·simp only[Value.slice.injEq] at h1
   obtain⟨rfl,-,rfl⟩:=h1
   refine⟨fun _=>.inl ⟨_,rfl⟩,⟨g,0,fun _=>rfl,fun i hi=>?_⟩,h3.1,hz⟩
   rw[Nat.zero_add]
   simp[World.cell?,h4,h6 i hi]
 ·rw[hc]
  rcases h with ⟨h1,h2⟩|⟨g,cap',c,h1,h2,h3,h4,h5,h6⟩
  ·intro ad e hl;simp only at hl;omega
  ·simp only[Value.slice.injEq] at h1
   obtain⟨rfl,-,rfl⟩:=h1
   intro ad e _
   injection e with e;rw[←e];exact h2
theorem rplusN_c (na nb:Bool) (ua va:Option Addr) (un uc vn vc X Y:Nat) (ea eb:Int) (w:World) (hne:(na==nb)=true) (hX:dlen (X+Y)≤1000000) (hX1:dlen X≤1000000) (hX2:dlen Y≤1000000) (he1 : -4000000≤ea) (he2:ea≤4000000) (he3 : -4000000≤eb) (he4:eb≤4000000) (hn0:((un:Int)==0)=false) (hn1:((vn:Int)==0)=false)
  (ku:∀ W i,Bw w W→i=ea - min ea eb→Calls Tryz.prog 82 #[.slice ua un uc,.int .i64 i] W fun r w'=>∃ v,r=.returned v∧Ir w' v X∧Bw W w')
  (kv:∀ W i,Bw w W→i=eb - min ea eb→Calls Tryz.prog 82 #[.slice va vn vc,.int .i64 i] W fun r w'=>∃ v,r=.returned v∧Ir w' v Y∧Bw W w') :
  Calls Tryz.prog 45 #[.agg #[.bool na,.slice ua un uc,.int .i64 ea],.agg #[.bool nb,.slice va vn vc,.int .i64 eb]] w fun r w'=>∃ a,r=.returned a∧NC w' w.heap.size a na (X+Y) (min ea eb)∧Bw w w':=by
 obtain⟨W,hW⟩:∃ W,W=((w.alloc (.cells #[.bool na,.slice ua un uc,.int .i64 ea] 45)).alloc (.cells #[.bool nb,.slice va vn vc,.int .i64 eb] 45)).alloc (.cells #[.bool false,.slice none 0 0,.int .i64 0] 45):=⟨_,rfl⟩
 obtain⟨hA,hBb,hC,hsz,hBW⟩:=boxes3 _ _ _ hW
 have k1:=fun i hi=>ku W i hBW hi
 have HKV:Hid _:=kv
 have HH:Hid ((W.heap[w.heap.size]?=some (.cells #[.bool na,.slice ua un uc,.int .i64 ea] 45 (0,0))∧W.heap[w.heap.size+1]?=some (.cells #[.bool nb,.slice va vn vc,.int .i64 eb] 45 (0,0))∧W.heap[w.heap.size+1+1]?=some (.cells #[.bool false,.slice none 0 0,.int .i64 0] 45 (0,0)))∧W.heap.size=w.heap.size+1+1+1∧Bw w W):=⟨⟨hA,hBb,hC⟩,hsz,hBW⟩
 clear hA hBb hC hsz hBW ku kv
 go_enter Tryz.func45,Tryz.ntmps45
 go_wp2_with fail
 rw[←hW]
 clear hW
 refine(k1 _ (by first|rfl|(rw[IntKind.wrap_i64];omega)|omega)).mono ?_
 rintro r w4 ⟨p,rfl,hp,hB4⟩
 clear k1
 obtain⟨⟨a0,a1,a2⟩,-⟩:=box_cells29 (box_later HH.out.1.1 hB4 (by have:=HH.out.2.1;omega))
 obtain⟨⟨b0,b1,b2⟩,-⟩:=box_cells29 (box_later HH.out.1.2.1 hB4 (by have:=HH.out.2.1;omega))
 have HB4:Hid (Bw W w4):=hB4
 have HP4:Hid (Ir w4 p X):=hp
 clear hB4 hp
 go_wp2_with fail
 refine(HKV.out w4 _ (HH.out.2.2.trans (HB4.out.mono HH.out.2.2.size)) (by first|rfl|(rw[IntKind.wrap_i64];omega)|omega)).mono ?_
 rintro r w5 ⟨q,rfl,hq,hB5⟩
 have hB5':Bw W w5:=HB4.out.trans (hB5.mono HB4.out.size)
 have hp:=HP4.out.later hB5
 clear a0 a1 a2 b0 b1 b2 hB5
 obtain⟨⟨h1,h2,h3⟩,hs,hBW⟩:=HH.out
 obtain⟨⟨a0,a1,a2⟩,-⟩:=box_cells29 (box_later h1 hB5' (by omega))
 obtain⟨⟨b0,b1,b2⟩,-⟩:=box_cells29 (box_later h2 hB5' (by omega))
 have HC5:Hid (w5.heap[w.heap.size+1+1]?=some (.cells #[.bool false,.slice none 0 0,.int .i64 0] 45 (0,0))∧Bw W w5):=⟨box_later h3 hB5' (by omega),hB5'⟩
 have hp6:=hp
 have hq6:=hq
 have kS:∀ W6,Bw w5 W6→Calls Tryz.prog 99 #[p,q] W6 fun r w'=>∃ v,r=.returned v∧Ir w' v (X+Y)∧Bw w5 w':=fun W6 hb =>
  (rsum (w:=W6) (hp6.later hb) (hq6.later hb) (by omega) (by omega)).mono fun r w' ⟨v,e1,o1,o2⟩=>⟨v,e1,o1,hb.trans (o2.mono hb.size)⟩
 have hKeep:∀ w',Bw w5 w'→w'.cell? ⟨w.heap.size,0,none⟩=some (.bool na):=fun w' hb=>(hb.cell (World.block_lt_of_cell? _ _ a0)).trans a0
 have HK:Hid (∀ w',Bw w5 w'→w'.cell? ⟨w.heap.size,0,none⟩=some (.bool na)):=hKeep
 have HR5:Hid (∀ dd,Below w5.heap.size w5 (w5.drewN dd).drew):=(fun dd=>⟨rfl,rfl,rfl,Nat.le_refl _,fun _ _=>rfl⟩:∀ dd,Below w5.heap.size w5 (w5.drewN dd).drew)
 have hR5:Bw w5 w5.drew:=(Below.refl _ _).drew
 have k56:∀ v7 w7,Ir w7 v7 (X+Y)→Bw w5 w7→Calls Tryz.prog 67 #[.bool na,v7,.int .i64 (min ea eb)] w7 fun r w'=>∃ s ao n cap ex,r=.returned (.agg #[.bool s,.slice ao n cap,.int .i64 ex]) ∧
   Hid (NC w' w7.heap.size (.agg #[.bool s,.slice ao n cap,.int .i64 ex]) na (X+Y) (min ea eb)∧w5.heap.size≤w7.heap.size)∧Bw w5 w'∧Hid (w'.heap[w.heap.size+1+1]?=some (.cells #[.bool false,.slice none 0 0,.int .i64 0] 45 (0,0))) ∧
   (w'.cell? ⟨w.heap.size+1+1,0,none⟩=some (.bool false)∧w'.cell? ⟨w.heap.size+1+1,1,none⟩=some (.slice none 0 0)∧w'.cell? ⟨w.heap.size+1+1,2,none⟩=some (.int .i64 0))∧(w'.frozen? ⟨w.heap.size+1+1,0,none⟩=false∧w'.frozen? ⟨w.heap.size+1+1,1,none⟩=false∧w'.frozen? ⟨w.heap.size+1+1,2,none⟩=false):=by
  intro v7 w7 ho hb
  obtain⟨ao0,cap0,rfl,hl0,hat0⟩:=ho
  refine(rnorm ⟨ao0,cap0,rfl,hl0,hat0⟩ (by omega) (by omega)).mono ?_
  rintro r w8 ⟨a,rfl,hN,hb8⟩
  obtain⟨s,ao,n,cap,ex,rfl⟩:=hN.shape
  have hb58:Bw w5 w8:=hb.trans (hb8.mono hb.size)
  have hblk:=box_later HC5.out.1 hb58 (by have:=HC5.out.2.size;omega)
  obtain⟨f1,f2⟩:=box_cells29 hblk
  exact⟨s,ao,n,cap,ex,rfl,⟨hN,hb.size⟩,hb58,hblk,f1,f2⟩
 clear h1 h2 h3 hp hq hp6 hq6 hB5' hs hBW hKeep hX hX1 hX2 HR5
 go_wp2
 go_region_held3 (fun w'=>w'.cell? ⟨w.heap.size,0,none⟩=some (.bool na)) (first|(with_reducible assumption)|(refine HK.out _ ?_;with_reducible assumption)|(rw[World.cell?_setCell_other _ _ _ _ (by simp),World.cell?_setCell_other _ _ _ _ (by simp),World.cell?_setCell_other _ _ _ _ (by simp)];refine HK.out _ ?_;with_reducible assumption)|go_keep)
  (first|(go_at_call 99;refine(kS _ (by first|(with_reducible assumption)|exact hR5)).mono ?_;rintro r w7 ⟨v7,rfl,ho7,hb7⟩)|(go_at_call 67;refine(k56 _ _ ho7 hb7).mono ?_;rintro r w8 ⟨s8,ao8,n8,cap8,ex8,rfl,hN8,hb8,hblk8,⟨x1,x2,x3⟩,x4,x5,x6⟩))
 have HF:Hid (Bw w5 w8):=hb8
 clear ho7 hb7 hb8 k56 kS x1 x2 x3 x4 x5 x6 a0 a1 a2 b0 b1 b2 HK
 go_wp2
 refine bodyPost_ret (results_cell_row rfl _ _ (w.heap.size+1+1) 45 #[.bool s8,.slice ao8 n8 cap8,.int .i64 ex8] (0,0) _ rfl (store3_29 _ _ _ hblk8.out) Tryz.underlying45 rfl Tryz.info45) rfl ?_
 obtain⟨-,hs,hBW⟩:=HH.out
 have hs4:=HC5.out.2.size
 have hs5:=hN8.out.2
 exact⟨_,rfl,(hN8.out.1.store (by omega) _ _ _).mono (by omega),below_store3 (hBW.trans ((HC5.out.2.trans (HF.out.mono hs4)).mono hBW.size)) (by omega) _ _ _⟩
theorem rplusN_d (na nb:Bool) (ua va:Option Addr) (un uc vn vc X Y:Nat) (ea eb:Int) (w:World) (hlt:X<Y) (hne:(na==nb)=false) (hX:dlen (Y - X)≤1000000) (hX1:dlen X≤1000000) (hX2:dlen Y≤1000000) (he1 : -4000000≤ea) (he2:ea≤4000000) (he3 : -4000000≤eb) (he4:eb≤4000000) (hn0:((un:Int)==0)=false) (hn1:((vn:Int)==0)=false)
  (ku:∀ W i,Bw w W→i=ea - min ea eb→Calls Tryz.prog 82 #[.slice ua un uc,.int .i64 i] W fun r w'=>∃ v,r=.returned v∧Ir w' v X∧Bw W w')
  (kv:∀ W i,Bw w W→i=eb - min ea eb→Calls Tryz.prog 82 #[.slice va vn vc,.int .i64 i] W fun r w'=>∃ v,r=.returned v∧Ir w' v Y∧Bw W w') :
  Calls Tryz.prog 45 #[.agg #[.bool na,.slice ua un uc,.int .i64 ea],.agg #[.bool nb,.slice va vn vc,.int .i64 eb]] w fun r w'=>∃ a,r=.returned a∧NC w' w.heap.size a nb (Y - X) (min ea eb)∧Bw w w':=by
 obtain⟨W,hW⟩:∃ W,W=((w.alloc (.cells #[.bool na,.slice ua un uc,.int .i64 ea] 45)).alloc (.cells #[.bool nb,.slice va vn vc,.int .i64 eb] 45)).alloc (.cells #[.bool false,.slice none 0 0,.int .i64 0] 45):=⟨_,rfl⟩
 obtain⟨hA,hBb,hC,hsz,hBW⟩:=boxes3 _ _ _ hW
 have k1:=fun i hi=>ku W i hBW hi
 have HKV:Hid _:=kv
 have HH:Hid ((W.heap[w.heap.size]?=some (.cells #[.bool na,.slice ua un uc,.int .i64 ea] 45 (0,0))∧W.heap[w.heap.size+1]?=some (.cells #[.bool nb,.slice va vn vc,.int .i64 eb] 45 (0,0))∧W.heap[w.heap.size+1+1]?=some (.cells #[.bool false,.slice none 0 0,.int .i64 0] 45 (0,0)))∧W.heap.size=w.heap.size+1+1+1∧Bw w W):=⟨⟨hA,hBb,hC⟩,hsz,hBW⟩
 clear hA hBb hC hsz hBW ku kv
 go_enter Tryz.func45,Tryz.ntmps45
 go_wp2_with fail
 rw[←hW]
 clear hW
 refine(k1 _ (by first|rfl|(rw[IntKind.wrap_i64];omega)|omega)).mono ?_
 rintro r w4 ⟨p,rfl,hp,hB4⟩
 clear k1
 obtain⟨⟨a0,a1,a2⟩,-⟩:=box_cells29 (box_later HH.out.1.1 hB4 (by have:=HH.out.2.1;omega))
 obtain⟨⟨b0,b1,b2⟩,-⟩:=box_cells29 (box_later HH.out.1.2.1 hB4 (by have:=HH.out.2.1;omega))
 have HB4:Hid (Bw W w4):=hB4
 have HP4:Hid (Ir w4 p X):=hp
 clear hB4 hp
 go_wp2_with fail
 refine(HKV.out w4 _ (HH.out.2.2.trans (HB4.out.mono HH.out.2.2.size)) (by first|rfl|(rw[IntKind.wrap_i64];omega)|omega)).mono ?_
 rintro r w5 ⟨q,rfl,hq,hB5⟩
 have hB5':Bw W w5:=HB4.out.trans (hB5.mono HB4.out.size)
 have hp:=HP4.out.later hB5
 clear a0 a1 a2 b0 b1 b2 hB5
 obtain⟨⟨h1,h2,h3⟩,hs,hBW⟩:=HH.out
 obtain⟨⟨a0,a1,a2⟩,-⟩:=box_cells29 (box_later h1 hB5' (by omega))
 obtain⟨⟨b0,b1,b2⟩,-⟩:=box_cells29 (box_later h2 hB5' (by omega))
 have HC5:Hid (w5.heap[w.heap.size+1+1]?=some (.cells #[.bool false,.slice none 0 0,.int .i64 0] 45 (0,0))∧Bw W w5):=⟨box_later h3 hB5' (by omega),hB5'⟩
 have hp6:=hp
 have hq6:=hq
 have kS:∀ W6,Bw w5 W6→Calls Tryz.prog 101 #[q,p] W6 fun r w'=>∃ v,r=.returned v∧Ir w' v (Y - X)∧Bw w5 w':=fun W6 hb =>
  (rless (w:=W6) (hq6.later hb) (hp6.later hb) (by omega) (by omega)).mono fun r w' ⟨v,e1,o1,o2⟩=>⟨v,e1,o1,hb.trans (o2.mono hb.size)⟩
 have hKeep:∀ w',Bw w5 w'→w'.cell? ⟨w.heap.size+1,0,none⟩=some (.bool nb):=fun w' hb=>(hb.cell (World.block_lt_of_cell? _ _ b0)).trans b0
 have HK:Hid (∀ w',Bw w5 w'→w'.cell? ⟨w.heap.size+1,0,none⟩=some (.bool nb)):=hKeep
 have HR5:Hid (∀ dd,Below w5.heap.size w5 (w5.drewN dd).drew):=(fun dd=>⟨rfl,rfl,rfl,Nat.le_refl _,fun _ _=>rfl⟩:∀ dd,Below w5.heap.size w5 (w5.drewN dd).drew)
 have hR5:Bw w5 w5.drew:=(Below.refl _ _).drew
 have k56:∀ v7 w7,Ir w7 v7 (Y - X)→Bw w5 w7→Calls Tryz.prog 67 #[.bool nb,v7,.int .i64 (min ea eb)] w7 fun r w'=>∃ s ao n cap ex,r=.returned (.agg #[.bool s,.slice ao n cap,.int .i64 ex]) ∧
   Hid (NC w' w7.heap.size (.agg #[.bool s,.slice ao n cap,.int .i64 ex]) nb (Y - X) (min ea eb)∧w5.heap.size≤w7.heap.size)∧Bw w5 w'∧Hid (w'.heap[w.heap.size+1+1]?=some (.cells #[.bool false,.slice none 0 0,.int .i64 0] 45 (0,0))) ∧
   (w'.cell? ⟨w.heap.size+1+1,0,none⟩=some (.bool false)∧w'.cell? ⟨w.heap.size+1+1,1,none⟩=some (.slice none 0 0)∧w'.cell? ⟨w.heap.size+1+1,2,none⟩=some (.int .i64 0))∧(w'.frozen? ⟨w.heap.size+1+1,0,none⟩=false∧w'.frozen? ⟨w.heap.size+1+1,1,none⟩=false∧w'.frozen? ⟨w.heap.size+1+1,2,none⟩=false):=by
  intro v7 w7 ho hb
  obtain⟨ao0,cap0,rfl,hl0,hat0⟩:=ho
  refine(rnorm ⟨ao0,cap0,rfl,hl0,hat0⟩ (by omega) (by omega)).mono ?_
  rintro r w8 ⟨a,rfl,hN,hb8⟩
  obtain⟨s,ao,n,cap,ex,rfl⟩:=hN.shape
  have hb58:Bw w5 w8:=hb.trans (hb8.mono hb.size)
  have hblk:=box_later HC5.out.1 hb58 (by have:=HC5.out.2.size;omega)
  obtain⟨f1,f2⟩:=box_cells29 hblk
  exact⟨s,ao,n,cap,ex,rfl,⟨hN,hb.size⟩,hb58,hblk,f1,f2⟩
 have k129:=rord hp hq (by omega) (by omega)
 have hcm:cmpI (X:Int) (Y:Int)<0:=by unfold cmpI;rw[if_pos (by omega)];omega
 generalize cmpI (X:Int) (Y:Int)=cv at *
 clear h1 h2 h3 hp hq hp6 hq6 hB5' hs hBW hKeep hX hX1 hX2 hlt
 go_wp2_with fail
 refine k129.mono ?_
 rintro r w7 ⟨rfl,dd,rfl⟩
 have hR5:=HR5.out dd
 clear k129
 have z0:(w5.drewN dd).cell? ⟨w.heap.size+1,0,none⟩=some (.bool nb):=b0
 go_wp2
 go_region_held3 (fun w'=>w'.cell? ⟨w.heap.size+1,0,none⟩=some (.bool nb)) (first|(with_reducible assumption)|(refine HK.out _ ?_;with_reducible assumption)|(rw[World.cell?_setCell_other _ _ _ _ (by simp),World.cell?_setCell_other _ _ _ _ (by simp),World.cell?_setCell_other _ _ _ _ (by simp)];refine HK.out _ ?_;with_reducible assumption)|go_keep)
  (first|(go_at_call 101;refine(kS _ (by first|(with_reducible assumption)|exact hR5)).mono ?_;rintro r w7 ⟨v7,rfl,ho7,hb7⟩)|(go_at_call 67;refine(k56 _ _ ho7 hb7).mono ?_;rintro r w8 ⟨s8,ao8,n8,cap8,ex8,rfl,hN8,hb8,hblk8,⟨x1,x2,x3⟩,x4,x5,x6⟩))
 have HF:Hid (Bw w5 w8):=hb8
 clear ho7 hb7 hb8 k56 kS x1 x2 x3 x4 x5 x6 a0 a1 a2 b0 b1 b2 HK
 go_wp2
 refine bodyPost_ret (results_cell_row rfl _ _ (w.heap.size+1+1) 45 #[.bool s8,.slice ao8 n8 cap8,.int .i64 ex8] (0,0) _ rfl (store3_29 _ _ _ hblk8.out) Tryz.underlying45 rfl Tryz.info45) rfl ?_
 obtain⟨-,hs,hBW⟩:=HH.out
 have hs4:=HC5.out.2.size
 have hs5:=hN8.out.2
 exact⟨_,rfl,(hN8.out.1.store (by omega) _ _ _).mono (by omega),below_store3 (hBW.trans ((HC5.out.2.trans (HF.out.mono hs4)).mono hBW.size)) (by omega) _ _ _⟩
theorem rplusN_e (na nb:Bool) (ua va:Option Addr) (un uc vn vc X Y:Nat) (ea eb:Int) (w:World) (hlt:Y≤X) (hne:(na==nb)=false) (hX:dlen (X - Y)≤1000000) (hX1:dlen X≤1000000) (hX2:dlen Y≤1000000) (he1 : -4000000≤ea) (he2:ea≤4000000) (he3 : -4000000≤eb) (he4:eb≤4000000) (hn0:((un:Int)==0)=false) (hn1:((vn:Int)==0)=false)
  (ku:∀ W i,Bw w W→i=ea - min ea eb→Calls Tryz.prog 82 #[.slice ua un uc,.int .i64 i] W fun r w'=>∃ v,r=.returned v∧Ir w' v X∧Bw W w')
  (kv:∀ W i,Bw w W→i=eb - min ea eb→Calls Tryz.prog 82 #[.slice va vn vc,.int .i64 i] W fun r w'=>∃ v,r=.returned v∧Ir w' v Y∧Bw W w') :
  Calls Tryz.prog 45 #[.agg #[.bool na,.slice ua un uc,.int .i64 ea],.agg #[.bool nb,.slice va vn vc,.int .i64 eb]] w fun r w'=>∃ a,r=.returned a∧NC w' w.heap.size a na (X - Y) (min ea eb)∧Bw w w':=by
 obtain⟨W,hW⟩:∃ W,W=((w.alloc (.cells #[.bool na,.slice ua un uc,.int .i64 ea] 45)).alloc (.cells #[.bool nb,.slice va vn vc,.int .i64 eb] 45)).alloc (.cells #[.bool false,.slice none 0 0,.int .i64 0] 45):=⟨_,rfl⟩
 obtain⟨hA,hBb,hC,hsz,hBW⟩:=boxes3 _ _ _ hW
 have k1:=fun i hi=>ku W i hBW hi
 have HKV:Hid _:=kv
 have HH:Hid ((W.heap[w.heap.size]?=some (.cells #[.bool na,.slice ua un uc,.int .i64 ea] 45 (0,0))∧W.heap[w.heap.size+1]?=some (.cells #[.bool nb,.slice va vn vc,.int .i64 eb] 45 (0,0))∧W.heap[w.heap.size+1+1]?=some (.cells #[.bool false,.slice none 0 0,.int .i64 0] 45 (0,0)))∧W.heap.size=w.heap.size+1+1+1∧Bw w W):=⟨⟨hA,hBb,hC⟩,hsz,hBW⟩
 clear hA hBb hC hsz hBW ku kv
 go_enter Tryz.func45,Tryz.ntmps45
 go_wp2_with fail
 rw[←hW]
 clear hW
 refine(k1 _ (by first|rfl|(rw[IntKind.wrap_i64];omega)|omega)).mono ?_
 rintro r w4 ⟨p,rfl,hp,hB4⟩
 clear k1
 obtain⟨⟨a0,a1,a2⟩,-⟩:=box_cells29 (box_later HH.out.1.1 hB4 (by have:=HH.out.2.1;omega))
 obtain⟨⟨b0,b1,b2⟩,-⟩:=box_cells29 (box_later HH.out.1.2.1 hB4 (by have:=HH.out.2.1;omega))
 have HB4:Hid (Bw W w4):=hB4
 have HP4:Hid (Ir w4 p X):=hp
 clear hB4 hp
 go_wp2_with fail
 refine(HKV.out w4 _ (HH.out.2.2.trans (HB4.out.mono HH.out.2.2.size)) (by first|rfl|(rw[IntKind.wrap_i64];omega)|omega)).mono ?_
 rintro r w5 ⟨q,rfl,hq,hB5⟩
 have hB5':Bw W w5:=HB4.out.trans (hB5.mono HB4.out.size)
 have hp:=HP4.out.later hB5
 clear a0 a1 a2 b0 b1 b2 hB5
 obtain⟨⟨h1,h2,h3⟩,hs,hBW⟩:=HH.out
 obtain⟨⟨a0,a1,a2⟩,-⟩:=box_cells29 (box_later h1 hB5' (by omega))
 obtain⟨⟨b0,b1,b2⟩,-⟩:=box_cells29 (box_later h2 hB5' (by omega))
 have HC5:Hid (w5.heap[w.heap.size+1+1]?=some (.cells #[.bool false,.slice none 0 0,.int .i64 0] 45 (0,0))∧Bw W w5):=⟨box_later h3 hB5' (by omega),hB5'⟩
 have hp6:=hp
 have hq6:=hq
 have kS:∀ W6,Bw w5 W6→Calls Tryz.prog 101 #[p,q] W6 fun r w'=>∃ v,r=.returned v∧Ir w' v (X - Y)∧Bw w5 w':=fun W6 hb =>
  (rless (w:=W6) (hp6.later hb) (hq6.later hb) (by omega) (by omega)).mono fun r w' ⟨v,e1,o1,o2⟩=>⟨v,e1,o1,hb.trans (o2.mono hb.size)⟩
 have hKeep:∀ w',Bw w5 w'→w'.cell? ⟨w.heap.size,0,none⟩=some (.bool na):=fun w' hb=>(hb.cell (World.block_lt_of_cell? _ _ a0)).trans a0
 have HK:Hid (∀ w',Bw w5 w'→w'.cell? ⟨w.heap.size,0,none⟩=some (.bool na)):=hKeep
 have HR5:Hid (∀ dd,Below w5.heap.size w5 (w5.drewN dd).drew):=(fun dd=>⟨rfl,rfl,rfl,Nat.le_refl _,fun _ _=>rfl⟩:∀ dd,Below w5.heap.size w5 (w5.drewN dd).drew)
 have hR5:Bw w5 w5.drew:=(Below.refl _ _).drew
 have k56:∀ v7 w7,Ir w7 v7 (X - Y)→Bw w5 w7→Calls Tryz.prog 67 #[.bool na,v7,.int .i64 (min ea eb)] w7 fun r w'=>∃ s ao n cap ex,r=.returned (.agg #[.bool s,.slice ao n cap,.int .i64 ex]) ∧
   Hid (NC w' w7.heap.size (.agg #[.bool s,.slice ao n cap,.int .i64 ex]) na (X - Y) (min ea eb)∧w5.heap.size≤w7.heap.size)∧Bw w5 w'∧Hid (w'.heap[w.heap.size+1+1]?=some (.cells #[.bool false,.slice none 0 0,.int .i64 0] 45 (0,0))) ∧
   (w'.cell? ⟨w.heap.size+1+1,0,none⟩=some (.bool false)∧w'.cell? ⟨w.heap.size+1+1,1,none⟩=some (.slice none 0 0)∧w'.cell? ⟨w.heap.size+1+1,2,none⟩=some (.int .i64 0))∧(w'.frozen? ⟨w.heap.size+1+1,0,none⟩=false∧w'.frozen? ⟨w.heap.size+1+1,1,none⟩=false∧w'.frozen? ⟨w.heap.size+1+1,2,none⟩=false):=by
  intro v7 w7 ho hb
  obtain⟨ao0,cap0,rfl,hl0,hat0⟩:=ho
  refine(rnorm ⟨ao0,cap0,rfl,hl0,hat0⟩ (by omega) (by omega)).mono ?_
  rintro r w8 ⟨a,rfl,hN,hb8⟩
  obtain⟨s,ao,n,cap,ex,rfl⟩:=hN.shape
  have hb58:Bw w5 w8:=hb.trans (hb8.mono hb.size)
  have hblk:=box_later HC5.out.1 hb58 (by have:=HC5.out.2.size;omega)
  obtain⟨f1,f2⟩:=box_cells29 hblk
  exact⟨s,ao,n,cap,ex,rfl,⟨hN,hb.size⟩,hb58,hblk,f1,f2⟩
 have k129:=rord hp hq (by omega) (by omega)
 have hcm:¬ cmpI (X:Int) (Y:Int)<0:=by unfold cmpI;rw[if_neg (by omega)];split <;> omega
 generalize cmpI (X:Int) (Y:Int)=cv at *
 clear h1 h2 h3 hp hq hp6 hq6 hB5' hs hBW hKeep hX hX1 hX2 hlt
 go_wp2_with fail
 refine k129.mono ?_
 rintro r w7 ⟨rfl,dd,rfl⟩
 have hR5:=HR5.out dd
 clear k129
 have z0:(w5.drewN dd).cell? ⟨w.heap.size,0,none⟩=some (.bool na):=a0
 go_wp2
 go_region_held3 (fun w'=>w'.cell? ⟨w.heap.size,0,none⟩=some (.bool na)) (first|(with_reducible assumption)|(refine HK.out _ ?_;with_reducible assumption)|(rw[World.cell?_setCell_other _ _ _ _ (by simp),World.cell?_setCell_other _ _ _ _ (by simp),World.cell?_setCell_other _ _ _ _ (by simp)];refine HK.out _ ?_;with_reducible assumption)|go_keep)
  (first|(go_at_call 101;refine(kS _ (by first|(with_reducible assumption)|exact hR5)).mono ?_;rintro r w7 ⟨v7,rfl,ho7,hb7⟩)|(go_at_call 67;refine(k56 _ _ ho7 hb7).mono ?_;rintro r w8 ⟨s8,ao8,n8,cap8,ex8,rfl,hN8,hb8,hblk8,⟨x1,x2,x3⟩,x4,x5,x6⟩))
 have HF:Hid (Bw w5 w8):=hb8
 clear ho7 hb7 hb8 k56 kS x1 x2 x3 x4 x5 x6 a0 a1 a2 b0 b1 b2 HK
 go_wp2
 refine bodyPost_ret (results_cell_row rfl _ _ (w.heap.size+1+1) 45 #[.bool s8,.slice ao8 n8 cap8,.int .i64 ex8] (0,0) _ rfl (store3_29 _ _ _ hblk8.out) Tryz.underlying45 rfl Tryz.info45) rfl ?_
 obtain⟨-,hs,hBW⟩:=HH.out
 have hs4:=HC5.out.2.size
 have hs5:=hN8.out.2
 exact⟨_,rfl,(hN8.out.1.store (by omega) _ _ _).mono (by omega),below_store3 (hBW.trans ((HC5.out.2.trans (HF.out.mono hs4)).mono hBW.size)) (by omega) _ _ _⟩
theorem rplusS {na nb:Bool} {ua va:Option Addr} {uc vc x y:Nat} {ea eb:Int} {w:World} (h1:Arg w ua (dlen x) uc x) (h2:Arg w va (dlen y) vc y) (c1:cn na x ea=(na,x,ea)) (c2:cn nb y eb=(nb,y,eb)) (he1 : -2000000≤ea) (he2:ea≤2000000) (he3 : -2000000≤eb) (he4:eb≤2000000) (hl1:dlen x≤300000) (hl2:dlen y≤300000) (hsm:na=nb∨x=0) :
  Calls Tryz.prog 45 #[.agg #[.bool na,.slice ua (dlen x) uc,.int .i64 ea],.agg #[.bool nb,.slice va (dlen y) vc,.int .i64 eb]] w fun r w'=>∃ a,r=.returned a∧NC w' w.heap.size a (sumN na x ea nb y eb).1 (sumN na x ea nb y eb).2.1 (sumN na x ea nb y eb).2.2∧Bw w w':=by
 unfold sumN
 by_cases x0:x=0
 ·rw[if_pos x0]
  show Calls _ _ _ _ fun r w'=>∃ a,r=.returned a∧NC w' w.heap.size a nb y eb∧_
  subst x0
  rw[dlen_zero]
  refine(rplus_a na nb ua va uc _ vc ea eb w y h2).mono ?_
  rintro r w' ⟨ao',cap',rfl,hd,hb⟩
  exact⟨_,rfl,hd.nc (by first|exact c2|exact c1) (by omega),hb⟩
 ·rw[if_neg x0]
  by_cases y0:y=0
  ·rw[if_pos y0]
   show Calls _ _ _ _ fun r w'=>∃ a,r=.returned a∧NC w' w.heap.size a na x ea∧_
   subst y0
   rw[dlen_zero]
   refine(rplus_b na nb ua va _ uc vc ea eb w x h1 (len_ne (n:=0) x0)).mono ?_
   rintro r w' ⟨ao',cap',rfl,hd,hb⟩
   exact⟨_,rfl,hd.nc (by first|exact c2|exact c1) (by omega),hb⟩
  ·rw[if_neg y0]
   have l1:dlen (x*2^(ea - min ea eb).toNat)≤760000:=by have:=shl_len (x:=x) (k:=(ea - min ea eb).toNat) rfl;omega
   have l2:dlen (y*2^(eb - min ea eb).toNat)≤760000:=by have:=shl_len (x:=y) (k:=(eb - min ea eb).toNat) rfl;omega
   have ku:∀ W i,Bw w W→i=ea - min ea eb→Calls Tryz.prog 82 #[.slice ua (dlen x) uc,.int .i64 i] W fun r w'=>∃ v,r=.returned v∧Ir w' v (x*2^(ea - min ea eb).toNat)∧Bw W w':=by
    intro W i hW hi
    have hik:i=(((ea - min ea eb).toNat:Nat):Int):=by omega
    rw[hik]
    exact rup ⟨ua,uc,rfl,h1.le,(h1.later hW).at_⟩ _ (by omega) (by omega)
   have kv:∀ W i,Bw w W→i=eb - min ea eb→Calls Tryz.prog 82 #[.slice va (dlen y) vc,.int .i64 i] W fun r w'=>∃ v,r=.returned v∧Ir w' v (y*2^(eb - min ea eb).toNat)∧Bw W w':=by
    intro W i hW hi
    have hik:i=(((eb - min ea eb).toNat:Nat):Int):=by omega
    rw[hik]
    exact rup ⟨va,vc,rfl,h2.le,(h2.later hW).at_⟩ _ (by omega) (by omega)
   have hs:na=nb:=hsm.resolve_right x0
   rw[if_pos hs]
   have hne:(na==nb)=true:=by simp[hs]
   refine(rplusN_c na nb ua va _ uc _ vc _ _ ea eb w hne (by have:=dlen_add_le (x*2^(ea - min ea eb).toNat) (y*2^(eb - min ea eb).toNat);omega) (by omega) (by omega) (by omega) (by omega) (by omega) (by omega) (len_ne (n:=0) x0) (len_ne (n:=0) y0) ku kv).mono ?_
   rintro r w' ⟨a,rfl,hn,hb⟩
   exact⟨a,rfl,hn,hb⟩
theorem rplusG {na nb:Bool} {ua va:Option Addr} {uc vc x y:Nat} {ea eb:Int} {w:World} (h1:Arg w ua (dlen x) uc x) (h2:Arg w va (dlen y) vc y) (c1:cn na x ea=(na,x,ea)) (c2:cn nb y eb=(nb,y,eb)) (he1 : -2000000≤ea) (he2:ea≤2000000) (he3 : -2000000≤eb) (he4:eb≤2000000) (hl1:dlen x≤300000) (hl2:dlen y≤300000) :
  Calls Tryz.prog 45 #[.agg #[.bool na,.slice ua (dlen x) uc,.int .i64 ea],.agg #[.bool nb,.slice va (dlen y) vc,.int .i64 eb]] w fun r w'=>∃ a,r=.returned a∧NC w' w.heap.size a (sumN na x ea nb y eb).1 (sumN na x ea nb y eb).2.1 (sumN na x ea nb y eb).2.2∧Bw w w':=by
 unfold sumN
 by_cases x0:x=0
 ·rw[if_pos x0]
  show Calls _ _ _ _ fun r w'=>∃ a,r=.returned a∧NC w' w.heap.size a nb y eb∧_
  subst x0
  rw[dlen_zero]
  refine(rplus_a na nb ua va uc _ vc ea eb w y h2).mono ?_
  rintro r w' ⟨ao',cap',rfl,hd,hb⟩
  exact⟨_,rfl,hd.nc (by first|exact c2|exact c1) (by omega),hb⟩
 ·rw[if_neg x0]
  by_cases y0:y=0
  ·rw[if_pos y0]
   show Calls _ _ _ _ fun r w'=>∃ a,r=.returned a∧NC w' w.heap.size a na x ea∧_
   subst y0
   rw[dlen_zero]
   refine(rplus_b na nb ua va _ uc vc ea eb w x h1 (len_ne (n:=0) x0)).mono ?_
   rintro r w' ⟨ao',cap',rfl,hd,hb⟩
   exact⟨_,rfl,hd.nc (by first|exact c2|exact c1) (by omega),hb⟩
  ·rw[if_neg y0]
   have l1:dlen (x*2^(ea - min ea eb).toNat)≤760000:=by have:=shl_len (x:=x) (k:=(ea - min ea eb).toNat) rfl;omega
   have l2:dlen (y*2^(eb - min ea eb).toNat)≤760000:=by have:=shl_len (x:=y) (k:=(eb - min ea eb).toNat) rfl;omega
   have ku:∀ W i,Bw w W→i=ea - min ea eb→Calls Tryz.prog 82 #[.slice ua (dlen x) uc,.int .i64 i] W fun r w'=>∃ v,r=.returned v∧Ir w' v (x*2^(ea - min ea eb).toNat)∧Bw W w':=by
    intro W i hW hi
    have hik:i=(((ea - min ea eb).toNat:Nat):Int):=by omega
    rw[hik]
    exact rup ⟨ua,uc,rfl,h1.le,(h1.later hW).at_⟩ _ (by omega) (by omega)
   have kv:∀ W i,Bw w W→i=eb - min ea eb→Calls Tryz.prog 82 #[.slice va (dlen y) vc,.int .i64 i] W fun r w'=>∃ v,r=.returned v∧Ir w' v (y*2^(eb - min ea eb).toNat)∧Bw W w':=by
    intro W i hW hi
    have hik:i=(((eb - min ea eb).toNat:Nat):Int):=by omega
    rw[hik]
    exact rup ⟨va,vc,rfl,h2.le,(h2.later hW).at_⟩ _ (by omega) (by omega)
   by_cases hs:na=nb
   ·rw[if_pos hs]
    have hne:(na==nb)=true:=by simp[hs]
    refine(rplusN_c na nb ua va _ uc _ vc _ _ ea eb w hne (by have:=dlen_add_le (x*2^(ea - min ea eb).toNat) (y*2^(eb - min ea eb).toNat);omega) (by omega) (by omega) (by omega) (by omega) (by omega) (by omega) (len_ne (n:=0) x0) (len_ne (n:=0) y0) ku kv).mono ?_
    rintro r w' ⟨a,rfl,hn,hb⟩
    exact⟨a,rfl,hn,hb⟩
   ·rw[if_neg hs]
    have hne:(na==nb)=false:=by simp[hs]
    by_cases hlt:x*2^(ea - min ea eb).toNat<y*2^(eb - min ea eb).toNat
    ·rw[if_pos hlt]
     refine(rplusN_d na nb ua va _ uc _ vc _ _ ea eb w hlt hne (Nat.le_trans (dlen_mono (Nat.sub_le ..)) (by omega)) (by omega) (by omega) (by omega) (by omega) (by omega) (by omega) (len_ne (n:=0) x0) (len_ne (n:=0) y0) ku kv).mono ?_
     rintro r w' ⟨a,rfl,hn,hb⟩
     exact⟨a,rfl,hn,hb⟩
    ·rw[if_neg hlt]
     refine(rplusN_e na nb ua va _ uc _ vc _ _ ea eb w (by omega) hne (Nat.le_trans (dlen_mono (Nat.sub_le ..)) (by omega)) (by omega) (by omega) (by omega) (by omega) (by omega) (by omega) (len_ne (n:=0) x0) (len_ne (n:=0) y0) ku kv).mono ?_
     rintro r w' ⟨a,rfl,hn,hb⟩
     exact⟨a,rfl,hn,hb⟩
end Go.Proofs.YtapooodfgcjoaaaGreat
namespace Go.Proofs.YtapooodfgcjoaaaGreat
open Go.RowKit Go.Fl64
theorem rnormN {neg:Bool} {ao:Option Addr} {n cap x:Nat} {e:Int} {w:World} (h2:At w ao n x) (hn:dlen x≤n) (h1:n≤cap) (hc:n≤1000000000) (he : -4611686018427387904≤e∧e≤4611686018427387904) :
  Calls Tryz.prog 67 #[.bool neg,.slice ao n cap,.int .i64 e] w fun r w'=>∃ a,r=.returned a∧NC w' w.heap.size a neg x e∧Bw w w':=by
 by_cases h0:x=0
 ·subst h0
  refine(r34_0 neg ao _ cap e w h2 h1 (by omega)).mono ?_
  rintro r w' ⟨rfl,hb⟩
  refine⟨_,rfl,⟨none,0,?_,?_,fun ad e=>by cases e⟩,hb⟩
  ·unfold cn;rw[if_pos rfl,dlen_zero]
  ·unfold cn;rw[if_pos rfl]
   exact⟨fun _=>.inr ⟨rfl,rfl⟩,⟨0,0,fun h=>by rw[dlen_zero] at h;omega,fun i hi=>by rw[dlen_zero] at hi;omega⟩,by rw[dlen_zero];exact Nat.le_refl _,by rw[dlen_zero];omega⟩
 ·refine(r34c_1 neg ao _ cap x e w h2 hn h1 hc h0 he).mono ?_
  rintro r w' ⟨g,cap',rfl,hg,hcc,ho,hb⟩
  have hle:dlen (x / 2^tz x)≤dlen x:=dlen_mono (Nat.div_le_self _ _)
  refine⟨_,rfl,⟨some ⟨g,0,none⟩,cap',?_,?_,fun ad e _=>?_⟩,hb⟩
  ·unfold cn;rw[if_neg h0]
  ·unfold cn;rw[if_neg h0]
   exact⟨fun _=>.inl ⟨_,rfl⟩,ho,hcc,(by omega:dlen (x / 2^tz x)≤35184372088832)⟩
  ·injection e with e;rw[←e];exact hg
theorem xnorm_two {ng:Bool} {m:Nat} {e:Int} {W:World} (hm:m<18446744073709551616) (he : -4611686018427387904≤e∧e≤4611686018427387904) :
  Calls Tryz.prog 67 #[.bool ng,.slice (some ⟨W.heap.size,0,none⟩) 2 2,.int .i64 e] (W.alloc (Obj.cells #[Value.int IntKind.u32 ((m:Int) % 4294967296),Value.int IntKind.u32 ((m:Int) / 4294967296)] 99)) fun r w'=>∃ s ao n cap ex,r=.returned (.agg #[.bool s,.slice ao n cap,.int .i64 ex])∧NC w' (W.heap.size+1) (.agg #[.bool s,.slice ao n cap,.int .i64 ex]) ng m e∧Bw W w':=by
 have hL:dlen m≤2:=(dlen_le 2 m).2 (by unfold B;omega)
 refine(rnormN (two_at m W hm) hL (Nat.le_refl _) (by omega) he).mono ?_
 rintro r w' ⟨a,rfl,hn,hb⟩
 obtain⟨s,ao,n,cap,ex,rfl⟩:=hn.shape
 refine⟨_,_,_,_,_,rfl,hn.mono (by simp),?_⟩
 exact((Below.refl W.heap.size W).alloc (Nat.le_refl _) _).trans (hb.mono (by simp))
def DN (w:World) (A:Value) (t:Bool×Nat×Int):Prop:=∃ ao cap,A=.agg #[.bool t.1,.slice ao (dlen t.2.1) cap,.int .i64 t.2.2]∧Arg w ao (dlen t.2.1) cap t.2.1
theorem DN.later {w w':World} {A:Value} {t:Bool×Nat×Int} (h:DN w A t) (hb:Bw w w'):DN w' A t:=by
 obtain⟨ao,cap,h1,h2⟩:=h
 exact⟨ao,cap,h1,h2.later hb⟩
theorem DN.shape {w:World} {A:Value} {t:Bool×Nat×Int} (h:DN w A t):∃ s ao n cap e,A=.agg #[.bool s,.slice ao n cap,.int .i64 e]:=by
 obtain⟨ao,cap,h1,-⟩:=h
 exact⟨_,_,_,_,_,h1⟩
theorem NC.dn {w:World} {base:Nat} {a:Value} {neg:Bool} {x:Nat} {e:Int} (h:NC w base a neg x e):DN w a (cn neg x e):=by
 obtain⟨ao,cap,h1,h2,-⟩:=h
 exact⟨ao,cap,h1,h2⟩
end Go.Proofs.YtapooodfgcjoaaaGreat
namespace Go.Proofs.YtapooodfgcjoaaaGreat
open Go.RowKit
theorem ex_step {x i d:Nat} (hd:dg x i=d):x % B^(i+1)=0↔(x % B^i=0∧d=0):=by
 have h:=Nat.mod_pow_succ (x:=x) (b:=B) (k:=i)
 have hp:0<B^i:=Nat.pow_pos B_pos
 unfold dg at hd
 rw[h,hd]
 constructor
 ·intro h1
  obtain⟨h1,h2⟩:=Nat.add_eq_zero_iff.1 h1
  rcases Nat.mul_eq_zero.1 h2 with h3|h3
  ·omega
  ·exact⟨h1,h3⟩
 ·rintro⟨h1,h2⟩
  rw[h1,h2];rfl
theorem ex_last {x k whole part d:Nat} (hw:k / 32=whole) (hp:k % 32=part) (hd:dg x whole=d):x % 2^k=0↔(x % B^whole=0∧d % 2^part=0):=by
 have hB:B^whole=2^(32*whole):=by rw[show B=2^32 by rfl,←Nat.pow_mul]
 have hk:2^k=B^whole*2^part:=by rw[hB,←Nat.pow_add];congr 1;omega
 have hpos:0<B^whole:=Nat.pow_pos B_pos
 have hdd:d % 2^part=x / B^whole % 2^part:=by
  rw[←hd];unfold dg
  exact Nat.mod_mod_of_dvd _ (by rw[show B=2^32 by rfl];exact Nat.pow_dvd_pow 2 (by omega))
 rw[hk,Nat.mod_mul,hdd]
 constructor
 ·intro h1
  obtain⟨h1,h2⟩:=Nat.add_eq_zero_iff.1 h1
  rcases Nat.mul_eq_zero.1 h2 with h3|h3
  ·omega
  ·exact⟨h1,h3⟩
 ·rintro⟨h1,h2⟩
  rw[h1,h2];rfl
theorem ex_past {x k n:Nat} (hn:dlen x≤n) (hk:n≤k / 32):(x % B^n=0↔x % 2^k=0)∧x / 2^k=0:=by
 have h1:x<B^n:=Nat.lt_of_lt_of_le (lt_dlen x) (Nat.pow_le_pow_right B_pos hn)
 have h2:B^n≤2^k:=by rw[show B=2^32 by rfl,←Nat.pow_mul];exact Nat.pow_le_pow_right (by omega) (by omega)
 rw[Nat.mod_eq_of_lt h1,Nat.mod_eq_of_lt (by omega)]
 exact⟨Iff.rfl,Nat.div_eq_of_lt (by omega)⟩
theorem ex_bits {d part:Nat} (hd:d<B) (hp:part<32):(bits BinOp.and IntKind.u32 (d:Int) ((2^part - 1) % 4294967296)==0)=decide (d % 2^part=0):=by
 have h2:2^part<2^32:=Nat.pow_lt_pow_right (by omega) hp
 have hpos:=Nat.two_pow_pos part
 have e1:(((2:Int)^part - 1) % 4294967296)=((2^part - 1:Nat):Int):=by
  have:((2:Int)^part)=((2^part:Nat):Int):=by simp
  rw[this];omega
 rw[e1,u32_and_nat d (2^part - 1) (by unfold B at hd;omega) (by omega),Nat.and_two_pow_sub_one_eq_mod]
 generalize d % 2^part=r
 by_cases h:r=0
 ·rw[h];simp
 ·rw[decide_eq_false h]
  have:((r:Nat):Int)≠0:=by omega
  simpa using this
theorem ex_ret {a:Value} {b c:Bool} (h:b=c):Ending.returned (Value.tuple #[a,.bool b])=.returned (.tuple #[a,.bool c]):=by rw[h]
theorem ex_false {x k i d part:Nat} (he:false=true↔x % B^i=0) (hx:x % 2^k=0↔(x % B^i=0∧d % 2^part=0)):false=decide (x % 2^k=0):=by
 rw[decide_eq_false]
 intro h
 exact absurd (he.2 (hx.1 h).1) (by decide)
theorem ex_true {x k i d part:Nat} (he:True↔x % B^i=0) (hx:x % 2^k=0↔(x % B^i=0∧d % 2^part=0)) (h0:d=dg x i) (hd:d<B) (hp:part<32):(bits BinOp.and IntKind.u32 ((dg x i:Nat):Int) ((2^part - 1) % 4294967296)==0)=decide (x % 2^k=0):=by
 rw[←h0,ex_bits hd hp]
 refine decide_eq_decide.2 ?_
 rw[hx]
 exact⟨fun h=>⟨he.1 trivial,h⟩,fun h=>h.2⟩
theorem ex_next {x i d:Nat} {bb:Bool} (h:bb=true↔x % B^i=0) (hs:x % B^(i+1)=0↔(x % B^i=0∧d=0)):((bb&&((d:Int)==0))=true)↔x % B^(i+1)=0:=by
 rw[hs,←h];simp
theorem r64b_1 (b o cap m whole part x k:Nat) (w:World) (hm0:0<m) (hm:m≤17592186044416) (hk:k≤1099511627776) (hcap:whole+m≤cap) (hwh:k / 32=whole) (hpa:k % 32=part)
  (hn:dlen x=whole+m) (hcell:∀ i,i<whole+m→w.cell? ⟨b,o+i,none⟩=some (.int .u32 (dg x i:Nat))) :
  Calls Tryz.prog 97 #[.slice (some ⟨b,o,none⟩) (whole+m:Nat) cap,.int .i64 k] w fun e w'=>∃ ao cap',e=.returned (.tuple #[.slice ao (dlen (x / 2^k)) cap',.bool (decide (x % 2^k=0))])∧At w' ao (dlen (x / 2^k)) (x / 2^k)∧dlen (x / 2^k)≤cap'∧Bw w w':=by
 have hq:(k:Int).tdiv 32=((k / 32:Nat):Int):=by rw[Int.tdiv_eq_ediv_of_nonneg (by omega)];rfl
 have hr:(k:Int).tmod 32=((k % 32:Nat):Int):=by rw[Int.tmod_eq_emod_of_nonneg (by omega)];rfl
 have hwb:whole≤1099511627776:=by omega
 have hpb:part<32:=by omega
 rw[hwh] at hq
 rw[hpa] at hr
 have HN:Hid (dlen x=whole+m):=hn
 have HW:Hid (k / 32=whole):=hwh
 have HP:Hid (k % 32=part):=hpa
 clear hn hwh hpa
 have hmi:(whole:Int)<((whole+m:Nat):Int):=by omega
 go_enter Tryz.func97,Tryz.ntmps97
 go_wp2
 go_loop [6,7] (fun a v=>∃ (bb:Bool) (i:Nat),a=.bool bb∧v=.int .i64 (i:Int)∧i≤whole∧Hid (bb=true↔x % B^i=0)) (fun _ v=>whole - (intOf v).toNat)
 case atStart=>exact⟨true,0,rfl,rfl,Nat.zero_le _,(by rw[Nat.pow_zero,Nat.mod_one];simp:true=true↔x % B^0=0)⟩
 case round =>
  obtain⟨bb,i,rfl,rfl,hi,HE⟩:=hrel
  by_cases hiw:i<whole
  ·have g1:=hcell i (by omega)
   have HS:Hid (x % B^(i+1)=0↔(x % B^i=0∧dg x i=0)):=ex_step rfl
   generalize dg x i=d at *
   have hii:(i:Int)<(whole:Int):=by omega
   clear hcell
   cases bb
   ·go_wp2
    exact⟨⟨_,i+1,rfl,by simp,by omega,ex_next HE.out HS.out⟩,by simp[intOf];omega⟩
   ·go_wp2
    exact⟨⟨_,i+1,rfl,by simp,by omega,ex_next HE.out HS.out⟩,by simp[intOf];omega⟩
  ·obtain rfl:i=whole:=by omega
   clear hiw hi
   have HX:Hid (x % 2^k=0↔(x % B^i=0∧dg x i % 2^part=0)):=ex_last HW.out HP.out rfl
   have g0:=hcell i (by omega)
   have HDL:Hid (dg x i<B):=dg_lt _ _
   have HQ:Hid (dg x i=dg x i):=rfl
   obtain⟨d0,hd0⟩:∃ d0,d0=dg x i:=⟨_,rfl⟩
   rw[←hd0] at g0 HX HDL
   clear HQ
   have HD0:Hid (d0=dg x i):=hd0
   clear hd0
   have HC:Hid (∀ i_1:Nat,i_1<i+m→w.cell? { block:=b,off:=o+i_1 }=some (Value.int IntKind.u32 ↑(dg x i_1))):=hcell
   cases bb
   all_goals
    go_wp2_with fail
    clear hq hmi hr hcell g0
    go_loopw [9,10] (fun v c wr=>∃ j:Nat,j≤m∧c=.int .i64 ((i:Int)+j)∧wr.ownsRow w.heap.size 99 1 v j (cells (x / 2^k) j)∧Bw w wr) (fun _ c _=>m - (intOf c - i).toNat)
    case atStart=>exact⟨0,Nat.zero_le _,by simp,World.ownsRow_nil ..,Below.refl _ _⟩
    case round =>
     obtain⟨j,hj,rfl,ho,hB⟩:=hrel
     have HO:Hid (wr.ownsRow w.heap.size 99 1 u9 j (cells (x / 2^k) j)):=ho
     have HB:Hid (Bw w wr):=hB
     have hbs:w.heap.size≤wr.heap.size:=hB.size
     by_cases hjn:j+1<m
     ·have g1:=(hB.cell (World.block_lt_of_cell? _ _ (HC.out (i+j) (by omega)))).trans (HC.out (i+j) (by omega))
      have g4:=(hB.cell (World.block_lt_of_cell? _ _ (HC.out (i+j+1) (by omega)))).trans (HC.out (i+j+1) (by omega))
      have hji:(j:Int)+1<(m:Int):=by omega
      generalize hd:dg x (i+j)=d at *
      generalize hd1:dg x (i+j+1)=d1 at *
      have HD:Hid (dg x (i+j)=d):=hd
      have HD1:Hid (dg x (i+(j+1))=d1):=hd1
      have HL:Hid (d<B∧d1<B):=⟨hd ▸ dg_lt _ _,hd1 ▸ dg_lt _ _⟩
      clear hd hd1 hB
      obtain⟨i0,hi0,hz0,hz1,hz2⟩:=info_parts Tryz.info99
      go_wp2_with (at_builtin;refine wpList_append_own _ rfl _ _ 43 rfl w.heap.size 99 i0 (.int .u32 0) 1 4 Tryz.underlying43 hi0 hz0 hz1 hz2 rfl (by decide) _ _ _ rfl (ho.alloc _) ⟨wr.heap.size,0,none⟩ 1 1 [.int .u32 (bits BinOp.or IntKind.u64 (IntKind.u64.wrap (d:Int)) (IntKind.u64.wrap (IntKind.u64.wrap (d1:Int)*4294967296)) / 2^part % 4294967296)] rfl rfl (cell_one_new _ _ _) (by intro u hu;simp at hu;subst hu;rfl) (by unfold maxLen;omega) (by omega) (by simp;omega) ?_)
      intro v' w4 hown4 hgrow _
      go_wp2
      exact r64_round (by rw[shr_word2 HL.out.1 HL.out.2,shr_digit HW.out HP.out,HD.out,HD1.out]) (by omega) HB.out HO.out hown4 hgrow
     ·by_cases hjm:j<m
      ·have g1:=(hB.cell (World.block_lt_of_cell? _ _ (HC.out (i+j) (by omega)))).trans (HC.out (i+j) (by omega))
       have hji:¬ (j:Int)+1<(m:Int):=by omega
       have hji2:(j:Int)<(m:Int):=by omega
       generalize hd:dg x (i+j)=d at *
       have HD:Hid (dg x (i+j)=d):=hd
       have HL:Hid (d<B):=hd ▸ dg_lt _ _
       have HZ:Hid (dg x (i+(j+1))=0):=dg_past (by rw[HN.out];omega)
       clear hd hB
       obtain⟨i0,hi0,hz0,hz1,hz2⟩:=info_parts Tryz.info99
       go_wp2_with (at_builtin;refine wpList_append_own _ rfl _ _ 43 rfl w.heap.size 99 i0 (.int .u32 0) 1 4 Tryz.underlying43 hi0 hz0 hz1 hz2 rfl (by decide) _ _ _ rfl (ho.alloc _) ⟨wr.heap.size,0,none⟩ 1 1 [.int .u32 (IntKind.u64.wrap (d:Int) / 2^part % 4294967296)] rfl rfl (cell_one_new _ _ _) (by intro u hu;simp at hu;subst hu;rfl) (by unfold maxLen;omega) (by omega) (by simp;omega) ?_)
       intro v' w4 hown4 hgrow _
       go_wp2
       exact r64_round (by rw[shr_word1 HL.out,shr_digit HW.out HP.out,HD.out,HZ.out,Nat.zero_mul,Nat.add_zero]) (by omega) HB.out HO.out hown4 hgrow
      ·obtain rfl:j=m:=by omega
       have hL:=shr_len (k:=k) (m:=j) (by rw[HW.out];exact HN.out)
       obtain⟨ao',cap',rfl,hc',hA⟩:=at_of_row ho
       have HA:Hid (At wr ao' (dlen (x / 2^k)) (x / 2^k)∧dlen (x / 2^k)≤cap'):=⟨at_short hA hL,by omega⟩
       have k40:=r40 ao' j cap' (x / 2^k) wr hL hc' (by omega) hA
       clear hB ho hA
       go_wp2_with (first|(go_at_call 114;refine k40.mono ?_;rintro e w' ⟨rfl,rfl⟩))
       refine bodyPost_ret (results_tmp2 rfl _ _ _) rfl ?_
       first|exact⟨_,_,ex_ret (ex_false HE.out HX.out),HA.out.1,HA.out.2,HB.out⟩|exact⟨_,_,ex_ret (ex_true HE.out HX.out HD0.out HDL.out hpb),HA.out.1,HA.out.2,HB.out⟩
theorem r64n_1 (bo:Option Addr) (b o n cap whole x k:Nat) (w:World) (hn:n≤17592186044416) (hk:k≤1099511627776) (hcap:n≤cap) (hwh:k / 32=whole) (hwn:n≤whole) (hbo:0<n→bo=some ⟨b,o,none⟩) (hd:dlen x=n)
  (hcell:∀ i,i<n→w.cell? ⟨b,o+i,none⟩=some (.int .u32 (dg x i:Nat))) :
  Calls Tryz.prog 97 #[.slice bo n cap,.int .i64 k] w fun e w'=>e=.returned (.tuple #[.slice none 0 0,.bool (decide (x % 2^k=0))])∧w'=w:=by
 have hq:(k:Int).tdiv 32=((k / 32:Nat):Int):=by rw[Int.tdiv_eq_ediv_of_nonneg (by omega)];rfl
 rw[hwh] at hq
 have HP:Hid ((x % B^n=0↔x % 2^k=0)∧x / 2^k=0):=ex_past (Nat.le_of_eq hd) (by omega)
 have hwb:whole≤1099511627776:=by omega
 clear hwh hd
 go_enter Tryz.func97,Tryz.ntmps97
 go_wp2
 go_loop [6,7] (fun a v=>∃ (bb:Bool) (i:Nat),a=.bool bb∧v=.int .i64 (i:Int)∧i≤n∧Hid (bb=true↔x % B^i=0)) (fun _ v=>n - (intOf v).toNat)
 case atStart=>exact⟨true,0,rfl,rfl,Nat.zero_le _,(by rw[Nat.pow_zero,Nat.mod_one];simp:true=true↔x % B^0=0)⟩
 case round =>
  obtain⟨bb,i,rfl,rfl,hi,HE⟩:=hrel
  by_cases hiw:i<n
  ·obtain rfl:=hbo (by omega)
   have g1:=hcell i (by omega)
   have HS:Hid (x % B^(i+1)=0↔(x % B^i=0∧dg x i=0)):=ex_step rfl
   generalize dg x i=d at *
   have hii:(i:Int)<(whole:Int):=by omega
   have hin:(i:Int)<(n:Int):=by omega
   clear hcell hbo
   cases bb
   ·go_wp2
    exact⟨⟨_,i+1,rfl,by simp,by omega,ex_next HE.out HS.out⟩,by simp[intOf];omega⟩
   ·go_wp2
    exact⟨⟨_,i+1,rfl,by simp,by omega,ex_next HE.out HS.out⟩,by simp[intOf];omega⟩
  ·obtain rfl:i=n:=by omega
   have hwi:(i:Int)≤(whole:Int):=by omega
   have hii:¬ (i:Int)<(i:Int):=by omega
   obtain⟨b2,hb2⟩:∃ b2:Bool,b2=bb:=⟨_,rfl⟩
   have HE2:Hid (bb=decide (x % 2^k=0)):=(by
    have h1:=HE.out;have h2:=HP.out.1
    cases bb
    ·rw[decide_eq_false];intro h;exact absurd (h1.2 (h2.2 h)) (by decide)
    ·rw[decide_eq_true (h2.1 (h1.1 rfl))]:bb=decide (x % 2^k=0))
   clear hcell hbo hiw hi HE hb2 b2
   go_wp2
   refine bodyPost_ret (results_tmp2 rfl _ _ _) rfl ?_
   exact⟨ex_ret HE2.out,rfl⟩
theorem rdown {v:Value} {x:Nat} {w:World} (h:Ir w v x) (k:Nat) (hx:dlen x≤17592186044416) (hk:k≤1099511627776) :
  Calls Tryz.prog 97 #[v,.int .i64 k] w fun e w'=>∃ ao cap',e=.returned (.tuple #[.slice ao (dlen (x / 2^k)) cap',.bool (decide (x % 2^k=0))])∧At w' ao (dlen (x / 2^k)) (x / 2^k)∧dlen (x / 2^k)≤cap'∧Bw w w':=by
 obtain⟨ao,cap,rfl,hc,b,o,hb,hcell⟩:=h
 by_cases hlt:k / 32<dlen x
 ·obtain rfl:=hb (by omega)
  obtain⟨m,hm⟩:∃ m,dlen x=k / 32+m:=⟨dlen x - k / 32,by omega⟩
  rw[hm] at hcell hc ⊢
  exact r64b_1 b o cap m _ _ x k w (by omega) (by omega) hk hc rfl rfl hm hcell
 ·have hp:=ex_past (x:=x) (k:=k) (Nat.le_refl _) (by omega)
  refine(r64n_1 ao b o (dlen x) cap (k / 32) x k w hx hk hc rfl (by omega) hb rfl hcell).mono ?_
  rintro e w' ⟨rfl,rfl⟩
  rw[hp.2,dlen_zero]
  exact⟨none,0,rfl,⟨0,0,fun h=>by omega,fun i hi=>by omega⟩,Nat.le_refl _,Below.refl _ _⟩
end Go.Proofs.YtapooodfgcjoaaaGreat
namespace Go.Proofs.YtapooodfgcjoaaaGreat
theorem kn_low {R V v1 v2 t r3 d r n:Nat} (hn:2≤n) (hV:(v1*B+v2)*B^(n - 2)≤V) (hR:R<(t*B+r3+1)*B^(n - 2)) (ht:d*v1+r=t) (h:r*B+r3<d*v2):R<d*V:=by
 have h1:(t*B+r3+1)≤d*(v1*B+v2):=by
  have e1:d*(v1*B+v2)=(d*v1)*B+d*v2:=by grind
  have e2:t*B=d*v1*B+r*B:=by rw[←ht,Nat.add_mul]
  omega
 calc R<(t*B+r3+1)*B^(n - 2):=hR
  _≤d*(v1*B+v2)*B^(n - 2):=Nat.mul_le_mul_right _ h1
  _=d*((v1*B+v2)*B^(n - 2)):=Nat.mul_assoc _ _ _
  _≤d*V:=Nat.mul_le_mul_left _ hV
theorem kn_high {R V v1 v2 t r3 d r n:Nat} (hn:2≤n) (hV:V<(v1*B+v2+1)*B^(n - 2)) (hR:(t*B+r3)*B^(n - 2)≤R) (ht:d*v1+r=t) (hd:d≤B) (hv:1≤v1) (h:d*v2≤r*B+r3):(d - 1)*V≤R:=by
 rcases Nat.eq_zero_or_pos d with h0|h0
 ·subst h0;simp
 obtain⟨c,rfl⟩:∃ c,d=c+1:=⟨d - 1,by omega⟩
 rw[Nat.add_sub_cancel]
 have hb:c≤v1*B+v2:=by
  have:B≤v1*B:=Nat.le_mul_of_pos_left _ hv
  omega
 have h1:c*(v1*B+v2+1)≤t*B+r3:=by
  have e1:(c+1)*(v1*B+v2)=((c+1)*v1)*B+(c+1)*v2:=by grind
  have e2:t*B=(c+1)*v1*B+r*B:=by rw[←ht,Nat.add_mul]
  have e3:(c+1)*(v1*B+v2)=c*(v1*B+v2)+(v1*B+v2):=by grind
  have e4:c*(v1*B+v2+1)=c*(v1*B+v2)+c:=by grind
  omega
 calc c*V≤c*((v1*B+v2+1)*B^(n - 2)):=Nat.mul_le_mul_left _ (Nat.le_of_lt hV)
  _=c*(v1*B+v2+1)*B^(n - 2):=(Nat.mul_assoc _ _ _).symm
  _≤(t*B+r3)*B^(n - 2):=Nat.mul_le_mul_right _ h1
  _≤R:=hR
structure Kn (R V v1 t d r:Nat):Prop where
 sum:d*v1+r=t
 ge:R<(d+1)*V
 le:d≤B+1
theorem kn_start {R V v1 v2 t n:Nat} (hn:1≤n) (hv:1≤v1) (hh:B≤2*v1) (hv2:v2<B) (hV1:v1*B^(n - 1)≤V) (hR:R<(t+1)*B^(n - 1)) (ht:t≤v1*B+v2):Kn R V v1 t (t / v1) (t % v1):=by
 have h0:=Nat.div_add_mod t v1
 have h1:=Nat.mod_lt t (show 0<v1 by omega)
 refine⟨by rw[Nat.mul_comm];exact h0,?_,?_⟩
 ·have h2:t+1≤(t / v1+1)*v1:=by rw[Nat.add_mul,Nat.one_mul,Nat.mul_comm];omega
  calc R<(t+1)*B^(n - 1):=hR
   _≤(t / v1+1)*v1*B^(n - 1):=Nat.mul_le_mul_right _ h2
   _=(t / v1+1)*(v1*B^(n - 1)):=Nat.mul_assoc _ _ _
   _≤(t / v1+1)*V:=Nat.mul_le_mul_left _ hV1
 ·refine Nat.le_of_lt_succ ((Nat.div_lt_iff_lt_mul (by omega)).2 ?_)
  have:(B+1).succ*v1=v1*B+2*v1:=by rw[Nat.succ_eq_add_one];grind
  rw[this];omega
theorem Kn.less {R V v1 v2 t d r r3 n:Nat} (h:Kn R V v1 t d r) (hn:2≤n) (hV:(v1*B+v2)*B^(n - 2)≤V) (hR:R<(t*B+r3+1)*B^(n - 2)) (hq:R<V*B) (hc:B≤d∨r*B+r3<d*v2):Kn R V v1 t (d - 1) (r+v1)∧1≤d:=by
 have hd:1≤d:=by
  rcases hc with h|h
  ·have:=B_pos;omega
  ·rcases Nat.eq_zero_or_pos d with h0|h0
   ·rw[h0] at h;omega
   ·exact h0
 refine⟨⟨?_,?_,?_⟩,hd⟩
 ·have:=h.sum
  have e:d*v1=(d - 1)*v1+v1:=by
   obtain⟨c,rfl⟩:∃ c,d=c+1:=⟨d - 1,by omega⟩
   rw[Nat.add_sub_cancel,Nat.add_mul,Nat.one_mul]
  omega
 ·rw[show d - 1+1=d by omega]
  rcases hc with h1|h1
  ·exact Nat.lt_of_lt_of_le hq (by rw[Nat.mul_comm];exact Nat.mul_le_mul_right _ h1)
  ·exact kn_low hn hV hR h.sum h1
 ·have:=h.le;omega
theorem Kn.done {R V v1 v2 t d r r3 n:Nat} (h:Kn R V v1 t d r) (hn:2≤n) (hv:1≤v1) (hv2:v2<B) (hV0:0<V) (hV:V<(v1*B+v2+1)*B^(n - 2)) (hR:(t*B+r3)*B^(n - 2)≤R) (hd:d<B) (hc:d*v2≤r*B+r3∨B≤r):R / V≤d∧d≤R / V+1:=by
 have hc':d*v2≤r*B+r3:=by
  rcases hc with h|h
  ·exact h
  ·have h1:d*v2≤B*B:=Nat.mul_le_mul (Nat.le_of_lt hd) (Nat.le_of_lt hv2)
   have h2:B*B≤r*B:=Nat.mul_le_mul_right _ h
   omega
 constructor
 ·exact Nat.le_of_lt_succ ((Nat.div_lt_iff_lt_mul hV0).2 h.ge)
 ·have h1:=kn_high hn hV hR h.sum (Nat.le_of_lt hd) hv hc'
  have:=(Nat.le_div_iff_mul_le hV0).2 h1
  omega
theorem Kn.brk {R V v1 v2 t d r:Nat} (h:Kn R V v1 t d r) (hh:B≤2*v1) (hv2:v2<B) (hr:r<B) (ht:t≤v1*B+v2) (hc:B≤r+v1):d - 1<B:=by
 have h1:=h.sum
 have h2:=h.le
 have hB:=B_pos
 rcases Nat.lt_or_ge d (B+1)with h3|h3
 ·omega
 ·obtain rfl:d=B+1:=by omega
  have:(B+1)*v1=v1*B+v1:=by grind
  omega
end Go.Proofs.YtapooodfgcjoaaaGreat
namespace Go.Proofs.YtapooodfgcjoaaaGreat
open Go.RowKit
theorem div_next (x i:Nat):x / B^i=x / B^(i+1)*B+dg x i:=by
 unfold dg
 rw[Nat.pow_succ,←Nat.div_div_eq_div_mul]
 have:=Nat.div_add_mod (x / B^i) B
 rw[Nat.mul_comm];omega
theorem sg_step {x b i r d t:Nat} (hb:0<b) (hbB:b<B) (hr:x / B^(i+1) % b=r) (hd:dg x i=d) (ht:r*B+d=t):t / b=dg (x / b) i∧t % b=x / B^i % b∧t<18446744073709551616∧t / b<B:=by
 have hdB:d<B:=hd ▸ dg_lt _ _
 have hrb:r<b:=hr ▸ Nat.mod_lt _ hb
 have h1:=div_next x i
 have h2:=Nat.div_add_mod (x / B^(i+1)) b
 rw[hr] at h2
 rw[hd] at h1
 have h3:x / B^i=t+b*(x / B^(i+1) / b*B):=by
  rw[h1,←ht]
  have e:x / B^(i+1)*B=b*(x / B^(i+1) / b*B)+r*B:=by
   conv=>lhs;rw[←h2]
   grind
  omega
 have h4:t<B*b:=by
  have:(r+1)*B≤b*B:=Nat.mul_le_mul_right _ hrb
  rw[Nat.add_mul,Nat.mul_comm b B] at this
  omega
 have h5:t / b<B:=(Nat.div_lt_iff_lt_mul hb).2 h4
 refine⟨?_,?_,?_,h5⟩
 ·unfold dg
  rw[Nat.div_div_eq_div_mul,Nat.mul_comm b,←Nat.div_div_eq_div_mul,h3,Nat.add_mul_div_left _ _ hb,Nat.add_mul_mod_self_right,Nat.mod_eq_of_lt h5]
 ·rw[h3,Nat.add_mul_mod_self_left]
 ·have:B*b≤B*B:=Nat.mul_le_mul_left _ (Nat.le_of_lt hbB)
  have hBB:B*B=18446744073709551616:=by unfold B;rfl
  omega
theorem sg_word {r d:Nat} (hr:r<B) (hd:d<B):bits BinOp.or IntKind.u64 (IntKind.u64.wrap ((r:Int)*4294967296)) (IntKind.u64.wrap (d:Int))=((r*B+d:Nat):Int):=by
 have e:IntKind.u64.wrap ((r:Int)*4294967296)=((r*B:Nat):Int):=by
  rw[IntKind.wrap_u64];unfold B at *; omega
 rw[wrap_d hd,e,u64_or_nat _ _ (by unfold B at *; omega) (by unfold B at *; omega),or_add (p:=32) (by rw[←B_two];exact Nat.mul_mod_left ..) hd]
theorem sg_ret {a:Value} {r y:Nat} (h:r=y) (hr:r<B):Ending.returned (Value.tuple #[a,.int .u32 ((r:Int) % 4294967296)])=.returned (.tuple #[a,.int .u32 (y:Nat)]):=by
 rw[show((r:Int) % 4294967296)=(y:Int) by unfold B at hr;omega]
theorem sg_set {w wr:World} {n j t b y:Nat} (h:Mk w wr n (fun t=>if j+1≤t then dg y t else 0)) (h1:t / b=dg y j) (h2:t / b<B) (h3:t<18446744073709551616) :
  Mk w (wr.setCell ⟨w.heap.size,j,none⟩ (.int .u32 (IntKind.u64.wrap ((t:Int) / (b:Int)) % 4294967296))) n (fun t=>if j≤t then dg y t else 0):=by
 have e:IntKind.u64.wrap ((t:Int) / (b:Int)) % 4294967296=((dg y j:Nat):Int):=by
  rw[show(t:Int) / (b:Int)=((t / b:Nat):Int)from rfl,IntKind.wrap_u64,←h1]
  generalize t / b=q at *
  unfold B at h2;omega
 rw[e]
 refine(h.set j _).congr fun s hs=>?_
 by_cases h5:s=j
 ·subst h5;simp
 ·by_cases h6:j+1≤s
  ·simp[h5,h6,show j≤s by omega]
  ·simp[h5,h6,show ¬ j≤s by omega]
theorem rsingle_1 (ao:Option Addr) (ba oa n ca x b:Nat) (w:World) (ha:ao=some ⟨ba,oa,none⟩) (hn0:0<n) (hn:n≤1000000000) (hx:dlen x=n) (hb:0<b) (hbB:b<B)
  (hca:∀ i,i<n→w.cell? ⟨ba,oa+i,none⟩=some (.int .u32 (dg x i:Nat))) :
  Calls Tryz.prog 83 #[.slice ao n ca,.int .u32 (b:Nat)] w fun e w'=>∃ v,e=.returned (.tuple #[v,.int .u32 (x % b:Nat)])∧Own w' w.heap.size v (x / b)∧Bw w w':=by
 subst ha
 have hmk:=run_make_row' (P:=Tryz.prog) 43 99 (.int .u32 0) 4 Tryz.underlying43 Tryz.info99 rfl .i64 .i64 n (by omega) (by omega)
 have HX:Hid (dlen x=n):=hx
 have HB:Hid (0<b∧b<B):=⟨hb,hbB⟩
 have hbw:=wrap_d hbB
 have hb0:((b:Int)==0)=false:=by simp;omega
 have hb1:(b:Int)≠0:=by omega
 have hb2:(0:Int)<b:=by omega
 clear hx hb hbB
 go_enter Tryz.func83,Tryz.ntmps83
 go_wp2
 clear hmk
 go_loopw [7,8] (fun r c wr=>∃ i:Nat,i≤n∧r=.int .u64 (x / B^i % b:Nat)∧c=.int .i64 ((i:Int) - 1)∧Mk w wr n (fun t=>if i≤t then dg (x / b) t else 0)) (fun _ c _=>(intOf c+1).toNat)
 case atStart=>exact⟨n,Nat.le_refl _,by rw[Nat.div_eq_of_lt (by rw[←HX.out];exact lt_dlen x),Nat.zero_mod];rfl,rfl,(Mk.start w _).congr fun t ht=>by rw[if_neg (by omega)]⟩
 case round =>
  obtain⟨i,hi,rfl,rfl,hO⟩:=hrel
  by_cases hi0:0<i
  ·obtain⟨j,rfl⟩:∃ j,i=j+1:=⟨i - 1,by omega⟩
   have g1:=hO.old (hca j (by omega))
   have g3:=hO.frozen j
   have g2:=hO.cell (i:=j) (by omega)
   rw[if_neg (by omega)] at g2
   have HO:Hid (Mk w wr n (fun t=>if j+1≤t then dg (x / b) t else 0)):=hO
   obtain⟨d,hd⟩:∃ d,dg x j=d:=⟨_,rfl⟩
   obtain⟨r,hr⟩:∃ r,x / B^(j+1) % b=r:=⟨_,rfl⟩
   obtain⟨t,ht⟩:∃ t,r*B+d=t:=⟨_,rfl⟩
   have hs:=sg_step HB.out.1 HB.out.2 hr hd ht
   have htw:=sg_word (r:=r) (d:=d) (by have:=Nat.mod_lt (x / B^(j+1)) HB.out.1;have:=HB.out.2;omega) (hd ▸ dg_lt _ _)
   rw[ht] at htw
   rw[hd] at g1
   rw[hr]
   have HS:Hid (t / b=dg (x / b) j∧t % b=x / B^j % b∧t<18446744073709551616∧t / b<B):=hs
   have e1:((j+1:Nat):Int) - 1=(j:Int):=by omega
   have hj0:(0:Int)≤(j:Int):=by omega
   have htl:(t:Int)<18446744073709551616:=by omega
   clear hs ht hr hd hO hca
   go_wp2
   exact⟨⟨j,by omega,congrArg (Value.int .u64) (by rw[←HS.out.2.1];rfl),rfl,sg_set HO.out HS.out.1 HS.out.2.2.2 HS.out.2.2.1⟩,by simp[intOf]⟩
  ·obtain rfl:i=0:=by omega
   have hE:Mk w wr n (dg (x / b)):=hO.congr fun t ht=>if_pos (Nat.zero_le _)
   have hA:=hE.at
   have hL:dlen (x / b)≤n:=by rw[←HX.out];exact dlen_mono (Nat.div_le_self _ _)
   have HC:Hid (Mk w wr n (dg (x / b))):=hE
   have k40:=r40 (some ⟨w.heap.size,0,none⟩) n n (x / b) wr hL (Nat.le_refl _) (by omega) hA
   have HL:Hid (dlen (x / b)≤n):=hL
   obtain⟨r,hr⟩:∃ r,x / B^0 % b=r:=⟨_,rfl⟩
   rw[hr]
   have HR:Hid (r=x % b∧r<B):=⟨by rw[←hr,Nat.pow_zero,Nat.div_one],by have:=Nat.mod_lt (x / B^0) HB.out.1;have:=HB.out.2;omega⟩
   clear hO hca hE hA hL hr hi0
   go_wp2_with (first|(go_at_call 114;refine k40.mono ?_;rintro e w' ⟨rfl,rfl⟩))
   refine bodyPost_ret (results_tmp2 rfl _ _ _) rfl ?_
   exact⟨_,sg_ret HR.out.1 HR.out.2,HC.out.own HL.out (by omega),HC.out.below⟩
theorem rsingle {v:Value} {x b:Nat} {w:World} (h:Ir w v x) (hx0:x≠0) (hx:dlen x≤1000000000) (hb:0<b) (hbB:b<B) :
  Calls Tryz.prog 83 #[v,.int .u32 (b:Nat)] w fun e w'=>∃ v,e=.returned (.tuple #[v,.int .u32 (x % b:Nat)])∧Own w' w.heap.size v (x / b)∧Bw w w':=by
 obtain⟨ao,ca,rfl,a1,ba,oa,a3,a4⟩:=h
 have hp:0<dlen x:=Nat.pos_of_ne_zero fun e=>hx0 (dlen_eq_zero.1 e)
 exact rsingle_1 ao ba oa _ ca x b w (a3 hp) hp hx rfl hb hbB a4
structure Two (g h:Nat) (w wr:World) (L M:Nat) (f q:Nat→Nat):Prop where
 os:wr.os=w.os
 tape:wr.tape=w.tape
 output:wr.output=w.output
 size:wr.heap.size=w.heap.size
 block:∀ k,k≠g→k≠h→wr.heap[k]?=w.heap[k]?
 ru:RowGe wr g L (fun i=>.int .u32 (f i:Nat))
 rq:RowGe wr h M (fun i=>.int .u32 (q i:Nat))
theorem Two.congr {g h:Nat} {w wr:World} {L M:Nat} {f q f' q':Nat→Nat} (t:Two g h w wr L M f q) (e:∀ i,i<L→f i=f' i) (e':∀ i,i<M→q i=q' i):Two g h w wr L M f' q' :=
 ⟨t.os,t.tape,t.output,t.size,t.block,t.ru.congr (fun i hi=>by rw[e i hi]),t.rq.congr (fun i hi=>by rw[e' i hi])⟩
theorem Two.drewN {g h:Nat} {w wr:World} {L M:Nat} {f q:Nat→Nat} (t:Two g h w wr L M f q) (n:Nat):Two g h w (wr.drewN n) L M f q :=
 ⟨t.os,t.tape,t.output,t.size,t.block,t.ru,t.rq⟩
theorem Two.cellU {g h:Nat} {w wr:World} {L M:Nat} {f q:Nat→Nat} (t:Two g h w wr L M f q) {i:Nat} (hi:i<L):wr.cell? ⟨g,i,none⟩=some (.int .u32 (f i:Nat)):=t.ru.cell hi
theorem Two.cellQ {g h:Nat} {w wr:World} {L M:Nat} {f q:Nat→Nat} (t:Two g h w wr L M f q) {i:Nat} (hi:i<M):wr.cell? ⟨h,i,none⟩=some (.int .u32 (q i:Nat)):=t.rq.cell hi
theorem Two.frozenU {g h:Nat} {w wr:World} {L M:Nat} {f q:Nat→Nat} (t:Two g h w wr L M f q) (i:Nat):wr.frozen? ⟨g,i,none⟩=false:=t.ru.frozen i
theorem Two.frozenQ {g h:Nat} {w wr:World} {L M:Nat} {f q:Nat→Nat} (t:Two g h w wr L M f q) (i:Nat):wr.frozen? ⟨h,i,none⟩=false:=t.rq.frozen i
theorem Two.old {g h:Nat} {w wr:World} {L M:Nat} {f q:Nat→Nat} (t:Two g h w wr L M f q) {p:Addr} {u:Value} (h1:p.block≠g) (h2:p.block≠h) (hc:w.cell? p=some u):wr.cell? p=some u:=(World.cell?_of_block (w:=w) (t.block p.block h1 h2)).trans hc
theorem Two.below {g h b:Nat} {w wr:World} {L M:Nat} {f q:Nat→Nat} (t:Two g h w wr L M f q) (h1:b≤g) (h2:b≤h):Below b w wr:=⟨t.os,t.tape,t.output,by rw[t.size];exact Nat.le_refl _,fun k hk=>t.block k (by omega) (by omega)⟩
theorem Two.setU {g h:Nat} {w wr:World} {L M:Nat} {f q:Nat→Nat} (t:Two g h w wr L M f q) (hgh:g≠h) (i d:Nat):Two g h w (wr.setCell ⟨g,i,none⟩ (.int .u32 (d:Nat))) L M (fun j=>if j=i then d else f j) q :=
 ⟨t.os,t.tape,t.output,by rw[←t.size];simp[World.setCell],fun k h1 h2=>(Below.heap_setCell _ _ _ _ h1).trans (t.block k h1 h2),(t.ru.set i _).congr (fun j _=>by split <;> rfl),t.rq.of_block (Below.heap_setCell _ _ _ _ (Ne.symm hgh))⟩
theorem Two.setQ {g h:Nat} {w wr:World} {L M:Nat} {f q:Nat→Nat} (t:Two g h w wr L M f q) (hgh:g≠h) (i d:Nat):Two g h w (wr.setCell ⟨h,i,none⟩ (.int .u32 (d:Nat))) L M f (fun j=>if j=i then d else q j) :=
 ⟨t.os,t.tape,t.output,by rw[←t.size];simp[World.setCell],fun k h1 h2=>(Below.heap_setCell _ _ _ _ h2).trans (t.block k h1 h2),t.ru.of_block (Below.heap_setCell _ _ _ _ hgh),(t.rq.set i _).congr (fun j _=>by split <;> rfl)⟩
theorem Two.putU {g h:Nat} {w wr:World} {L M off j z:Nat} {f q:Nat→Nat} (t:Two g h w wr L M (put off j z f) q) (hgh:g≠h) {d:Int} (hd:d=(dg z j:Nat)):Two g h w (wr.setCell ⟨g,off+j,none⟩ (.int .u32 d)) L M (put off (j+1) z f) q:=by
 subst hd
 refine(t.setU hgh (off+j) _).congr (fun s hs=>?_) (fun _ _=>rfl)
 unfold put
 by_cases e:s=off+j
 ·subst e
  rw[if_pos rfl,if_pos (by omega),Nat.add_sub_cancel_left]
 ·rw[if_neg e]
  by_cases e2:off≤s∧s<off+j
  ·rw[if_pos e2,if_pos (by omega)]
  ·rw[if_neg e2,if_neg (by omega)]
theorem win_dig {Y V j t:Nat}:dg (Y % (V*B^(j+1))) (j+t)=dg (Y / B^j % (V*B)) t:=by
 have e:V*B^(j+1)=B^j*(V*B):=by rw[Nat.pow_succ];grind
 rw[←dg_div,e,Nat.mod_mul_right_div_self]
theorem win_low {Y V V' j t:Nat} (h:t<j) (hV:0<V):dg (Y % (V*B^j)) t=dg Y t:=by
 have h1:dg (Y % (V*B^j) % B^j) t=dg (Y % (V*B^j)) t:=dg_mod h
 rw[←h1,Nat.mod_mul_left_mod,dg_mod h]
theorem win_new {Y V j t:Nat}:dg (Y % (V*B^j)) (j+t)=dg (Y / B^j % V) t:=by
 have e:V*B^j=B^j*V:=Nat.mul_comm _ _
 rw[←dg_div,e,Nat.mod_mul_right_div_self]
theorem win_quo {Y V j:Nat}:Y / B^j % (V*B) / V=dg (Y / V) j:=by
 unfold dg
 rw[Nat.mod_mul_right_div_self,Nat.div_div_eq_div_mul,Nat.div_div_eq_div_mul,Nat.mul_comm]
theorem win_rest {Y V j:Nat}:Y / B^j % (V*B) % V=Y / B^j % V:=Nat.mod_mul_right_mod _ _ _
theorem top_two {X n:Nat} (hn:1≤n) (h:X<B^(n+1)):dg X n*B+dg X (n - 1)=X / B^(n - 1):=by
 obtain⟨m,rfl⟩:∃ m,n=m+1:=⟨n - 1,by omega⟩
 rw[Nat.add_sub_cancel]
 unfold dg
 rw[Nat.pow_succ,←Nat.div_div_eq_div_mul]
 have h1:X / B^m / B<B:=by
  rw[Nat.div_div_eq_div_mul,←Nat.pow_succ]
  refine(Nat.div_lt_iff_lt_mul (Nat.pow_pos B_pos)).2 ?_
  rw[Nat.mul_comm,←Nat.pow_succ];exact h
 rw[Nat.mod_eq_of_lt h1]
 have:=Nat.div_add_mod (X / B^m) B
 rw[Nat.mul_comm];omega
structure Gs (R V v1 v2 t r3 n:Nat):Prop where
 n2:2≤n
 v1p:1≤v1
 v1h:B≤2*v1
 v1B:v1<B
 v2B:v2<B
 r3B:r3<B
 V0:0<V
 Vlo:(v1*B+v2)*B^(n - 2)≤V
 Vhi:V<(v1*B+v2+1)*B^(n - 2)
 Rlo:(t*B+r3)*B^(n - 2)≤R
 Rhi:R<(t*B+r3+1)*B^(n - 2)
 V1:v1*B^(n - 1)≤V
 R1:R<(t+1)*B^(n - 1)
 tle:t≤v1*B+v2
 RV:R<V*B
 tB:t<B*B
theorem div_bounds {X m k:Nat} (h:X / B^k=m):m*B^k≤X∧X<(m+1)*B^k:=by
 have hp:0<B^k:=Nat.pow_pos B_pos
 subst h
 exact⟨Nat.div_mul_le_self _ _,Nat.lt_mul_of_div_lt (Nat.lt_succ_self _) hp⟩
theorem gs_of {R V n:Nat} (hn:2≤n) (hV:dlen V=n) (hh:B≤2*dg V (n - 1)) (hR:R<V*B):Gs R V (dg V (n - 1)) (dg V (n - 2)) (R / B^(n - 1)) (dg R (n - 2)) n:=by
 have hB:=B_pos
 have hVlt:V<B^n:=hV ▸ lt_dlen V
 have hV0:0<V:=Nat.pos_of_ne_zero fun e=>by rw[e,dlen_zero] at hV;omega
 have e1:V / B^(n - 2)=dg V (n - 1)*B+dg V (n - 2):=by
  have:=top_two (X:=V) (n:=n - 1) (by omega) (by rw[show n - 1+1=n by omega];exact hVlt)
  rw[show n - 1 - 1=n - 2 by omega] at this
  exact this.symm
 have e2:V / B^(n - 1)=dg V (n - 1):=by
  unfold dg
  rw[Nat.mod_eq_of_lt]
  refine(Nat.div_lt_iff_lt_mul (Nat.pow_pos hB)).2 ?_
  rw[Nat.mul_comm,←Nat.pow_succ,show(n - 1).succ=n by omega];exact hVlt
 have e3:R / B^(n - 2)=R / B^(n - 1)*B+dg R (n - 2):=by
  unfold dg
  have h1:=Nat.div_add_mod (R / B^(n - 2)) B
  rw[Nat.div_div_eq_div_mul,←Nat.pow_succ,show(n - 2).succ=n - 1 by omega] at h1
  rw[Nat.mul_comm];omega
 obtain⟨a1,a2⟩:=div_bounds e1
 obtain⟨b1,b2⟩:=div_bounds e2
 obtain⟨c1,c2⟩:=div_bounds e3
 obtain⟨d1,d2⟩:=div_bounds (X:=R) (k:=n - 1) rfl
 have hn1:B^(n - 1)=B*B^(n - 2):=by rw[←Nat.pow_succ'];congr 1;omega
 have ht:R / B^(n - 1)≤dg V (n - 1)*B+dg V (n - 2):=by
  refine Nat.le_of_lt_succ ((Nat.div_lt_iff_lt_mul (Nat.pow_pos hB)).2 (Nat.lt_of_lt_of_le hR ?_))
  rw[hn1,Nat.mul_comm V B,Nat.mul_left_comm]
  exact Nat.mul_le_mul_left _ (Nat.le_of_lt a2)
 have hv1:=dg_lt V (n - 1)
 have hv2:=dg_lt V (n - 2)
 refine⟨hn,by omega,hh,hv1,hv2,dg_lt _ _,hV0,a1,a2,c1,c2,b1,d2,ht,hR,?_⟩
 have:dg V (n - 1)*B+B≤B*B:=by
  have:=Nat.mul_le_mul_right B (show dg V (n - 1)+1≤B by omega)
  rw[Nat.add_mul,Nat.one_mul] at this
  exact this
 omega
theorem Gs.start {R V v1 v2 t r3 n:Nat} (h:Gs R V v1 v2 t r3 n):Kn R V v1 t (t / v1) (t % v1):=kn_start (by have:=h.n2;omega) h.v1p h.v1h h.v2B h.V1 h.R1 h.tle
theorem Gs.less {R V v1 v2 t r3 n d r:Nat} (h:Gs R V v1 v2 t r3 n) (k:Kn R V v1 t d r) (hc:B≤d∨r*B+r3<d*v2):Kn R V v1 t (d - 1) (r+v1)∧1≤d:=k.less h.n2 h.Vlo h.Rhi h.RV hc
theorem Gs.done {R V v1 v2 t r3 n d r:Nat} (h:Gs R V v1 v2 t r3 n) (k:Kn R V v1 t d r) (hd:d<B) (hc:d*v2≤r*B+r3∨B≤r):R / V≤d∧d≤R / V+1:=k.done h.n2 h.v1p h.v2B h.V0 h.Vhi h.Rlo hd hc
theorem Gs.brk {R V v1 v2 t r3 n d r:Nat} (h:Gs R V v1 v2 t r3 n) (k:Kn R V v1 t d r) (hr:r<B) (hc:B≤r+v1):d - 1<B:=k.brk h.v1h h.v2B hr h.tle hc
end Go.Proofs.YtapooodfgcjoaaaGreat
