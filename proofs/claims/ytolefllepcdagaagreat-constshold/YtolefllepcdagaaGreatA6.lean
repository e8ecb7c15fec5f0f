/- Own work: contracts of the program's functions, part 6: R1 R2 R3 RB1 RB2 RB3 R4 R6 R7 W25 W26 W27 W31 W32 W36 W37 PR G1 Q3 Q1 W38 W39 W40 W34 W28 W29 W35 W41 G2. -/
import Derived.Test.YtolefllepcdagaaGreatA2
import Derived.Test.YtolefllepcdagaaGreatA1
import Derived.Test.YtolefllepcdagaaGreatA5
import Derived.Deep.CutRange
import Derived.Orders
import Derived.Laws.Tables
import Derived.Deep.RegionLawGrows
import Derived.Deep.RegionHeld3
import Derived.Laws.AppendOwnNone
import Derived.Lib.SliceRun
import Derived.Laws.IdiomStrings

set_option maxHeartbeats 16000000
set_option maxRecDepth 200000
set_option linter.unusedVariables false
set_option linter.unusedSimpArgs false
namespace Go.Proofs.YtolefllepcdagaaGreat
open Go.RowKit
theorem r40 (ao:Option Addr) (n cap x:Nat) (w:World) (hx:dlen x≤n) (hn:n≤cap) (hc:n≤70368744177664) (h:At w ao n x) :
  Calls Tryz.prog 35 #[.slice ao n cap] w fun e w'=>e=.returned (.slice ao (dlen x) cap)∧w'=w:=by
 obtain⟨b,o,hb,hcell⟩:=h
 go_enter Tryz.func35,Tryz.ntmps35
 go_wp2
 go_loop [3] (fun v=>∃ k:Nat,k≤n∧v=.int .i64 (k:Int)∧dlen x≤k) (fun v=>(intOf v).toNat)
 case atStart=>exact⟨n,Nat.le_refl _,rfl,hx⟩
 case round =>
  obtain⟨k,hk,rfl,hd⟩:=hrel
  by_cases h0:k=0
  ·subst h0
   have e:dlen x=0:=by omega
   clear hd hx
   go_wp2
   go_ret
   exact⟨rfl,rfl⟩
  ·obtain⟨j,rfl⟩:∃ j,k=j+1:=⟨k - 1,by omega⟩
   have hj:j<n:=by omega
   obtain rfl:=hb (by omega)
   have g:=hcell j hj
   have HD:Hid (dlen x≤j+1):=hd
   clear hd hcell hx
   generalize hq:dg x j=q at g
   have HQ:Hid (dg x j=q):=hq
   clear hq
   by_cases hq0:q=0
   ·subst hq0
    go_wp2
    exact⟨⟨j,by omega,by simp,dlen_down HD.out (by omega) HQ.out⟩,by simp[intOf]⟩
   ·have hq1:((q:Int)==0)=false:=by simp;exact hq0
    go_wp2
    go_ret
    rw[dlen_here HD.out (.inr (by rw[Nat.add_sub_cancel,HQ.out];exact hq0))]
    exact⟨rfl,rfl⟩
theorem cells_succ (x n:Nat):cells x (n+1)=cells x n ++ [.int .u32 (dg x n:Nat)]:=by
 simp[cells,List.range_succ]
theorem at_of_row {w:World} {base:Nat} {v:Value} {y n:Nat} (h:w.ownsRow base 44 1 v n (cells y n)) :
  ∃ ao cap,v=.slice ao n cap∧n≤cap∧At w ao n y:=by
 rcases h.2 with ⟨hv,h0⟩|⟨g,cap,c,hv,hb,hc,h1,h2,h3,h4⟩
 ·exact⟨none,0,by rw[hv,h0],by omega,0,0,fun h=>by omega,fun i hi=>by omega⟩
 ·refine⟨_,cap,hv,h1,g,0,fun _=>rfl,fun i hi=>?_⟩
  have h5:(cells y n)[i]?=c[i]?:=by
   rw[←h4,Nat.mul_one,List.getElem?_take,if_pos hi,Array.getElem?_toList]
  rw[cells_get hi] at h5
  rw[Nat.zero_add]
  simp[World.cell?,hc,←h5]
theorem at_short {w:World} {ao:Option Addr} {n m y:Nat} (h:At w ao n y) (hm:m≤n):At w ao m y:=by
 obtain⟨b,o,h1,h2⟩:=h
 exact⟨b,o,fun h=>h1 (by omega),fun i hi=>h2 i (by omega)⟩
theorem r64_round {x k whole j m:Nat} {w wr w':World} {q:Int} {v v':Value} (hq:q=(dg (x / 2^k) j:Nat)) (hj:j<m) (hB:Bw w wr) (ho:wr.ownsRow w.heap.size 44 1 v j (cells (x / 2^k) j))
  (ho':w'.ownsRow w.heap.size 44 1 v' (j+1) (cells (x / 2^k) j ++ [.int .u32 q])) (hg:(wr.alloc (.cells #[.int .u32 q] 44)).grownBy w' v.ownBlock) :
  (∃ j_1:Nat,j_1≤m∧Value.int .i64 ((whole:Int)+j+1)=Value.int .i64 ((whole:Int)+j_1)∧w'.ownsRow w.heap.size 44 1 v' j_1 (cells (x / 2^k) j_1)∧Bw w w') ∧
  m - (intOf (Value.int .i64 ((whole:Int)+j+1)) - whole).toNat<m - (intOf (Value.int .i64 ((whole:Int)+j)) - whole).toNat:=by
 refine⟨⟨j+1,by omega,by simp[Int.add_assoc],by rw[cells_succ,←hq];exact ho',?_⟩,by simp[intOf];omega⟩
 exact(hB.alloc hB.size _).grown hg (by simp;have:=hB.size;omega) (fun k hk=>(ho.lt k hk).1)
theorem r64_1 (b o cap m whole part x k:Nat) (w:World) (hm0:0<m) (hm:m≤17592186044416) (hk:k≤1099511627776) (hcap:whole+m≤cap) (hwh:k / 32=whole) (hpa:k % 32=part)
  (hn:dlen x=whole+m) (hcell:∀ i,i<whole+m→w.cell? ⟨b,o+i,none⟩=some (.int .u32 (dg x i:Nat))) :
  Calls Tryz.prog 36 #[.slice (some ⟨b,o,none⟩) (whole+m:Nat) cap,.int .i64 k] w fun e w'=>∃ ao cap' bb,e=.returned (.tuple #[.slice ao (dlen (x / 2^k)) cap',.bool bb])∧At w' ao (dlen (x / 2^k)) (x / 2^k)∧dlen (x / 2^k)≤cap'∧Bw w w':=by
 have hq:(k:Int).tdiv 32=((k / 32:Nat):Int):=by rw[Int.tdiv_eq_ediv_of_nonneg (by omega)];rfl
 have hr:(k:Int).tmod 32=((k % 32:Nat):Int):=by rw[Int.tmod_eq_emod_of_nonneg (by omega)];rfl
 have hwb:whole≤1099511627776:=by omega
 have hpb:part<32:=by omega
 rw[hwh] at hq
 rw[hpa] at hr
 have HN:Hid (dlen x=whole+m):=hn
 have HW:Hid (k / 32=whole):=hwh
 have HP:Hid (k % 32=part):=hpa
 clear hn hwh hpa
 have hmi:(whole:Int)<((whole+m:Nat):Int):=by omega
 go_enter Tryz.func36,Tryz.ntmps36
 go_wp2
 go_loop [6,7] (fun a v=>∃ (bb:Bool) (i:Nat),a=.bool bb∧v=.int .i64 (i:Int)∧i≤whole) (fun _ v=>whole - (intOf v).toNat)
 case atStart=>exact⟨true,0,rfl,rfl,Nat.zero_le _⟩
 case round =>
  obtain⟨bb,i,rfl,rfl,hi⟩:=hrel
  by_cases hiw:i<whole
  ·have g1:=hcell i (by omega)
   generalize dg x i=d at *
   have hii:(i:Int)<(whole:Int):=by omega
   clear hcell
   cases bb
   ·go_wp2
    exact⟨⟨_,i+1,rfl,by simp,by omega⟩,by simp[intOf];omega⟩
   ·go_wp2
    exact⟨⟨_,i+1,rfl,by simp,by omega⟩,by simp[intOf];omega⟩
  ·obtain rfl:i=whole:=by omega
   clear hiw hi
   have HC:Hid (∀ i_1:Nat,i_1<i+m→w.cell? { block:=b,off:=o+i_1 }=some (Value.int IntKind.u32 ↑(dg x i_1))):=hcell
   go_wp2_with fail
   all_goals
    clear hq hmi hr hcell
    go_loopw [9,10] (fun v c wr=>∃ j:Nat,j≤m∧c=.int .i64 ((i:Int)+j)∧wr.ownsRow w.heap.size 44 1 v j (cells (x / 2^k) j)∧Bw w wr) (fun _ c _=>m - (intOf c - i).toNat)
    case atStart=>exact⟨0,Nat.zero_le _,by simp,World.ownsRow_nil ..,Below.refl _ _⟩
    case round =>
     obtain⟨j,hj,rfl,ho,hB⟩:=hrel
     have HO:Hid (wr.ownsRow w.heap.size 44 1 u9 j (cells (x / 2^k) j)):=ho
     have HB:Hid (Bw w wr):=hB
     have hbs:w.heap.size≤wr.heap.size:=hB.size
     by_cases hjn:j+1<m
     ·have g1:=(hB.cell (World.block_lt_of_cell? _ _ (HC.out (i+j) (by omega)))).trans (HC.out (i+j) (by omega))
      have g4:=(hB.cell (World.block_lt_of_cell? _ _ (HC.out (i+j+1) (by omega)))).trans (HC.out (i+j+1) (by omega))
      have hji:(j:Int)+1<(m:Int):=by omega
      generalize hd:dg x (i+j)=d at *
      generalize hd1:dg x (i+j+1)=d1 at *
      have HD:Hid (dg x (i+j)=d):=hd
      have HD1:Hid (dg x (i+(j+1))=d1):=hd1
      have HL:Hid (d<B∧d1<B):=⟨hd ▸ dg_lt _ _,hd1 ▸ dg_lt _ _⟩
      clear hd hd1 hB
      obtain⟨i0,hi0,hz0,hz1,hz2⟩:=info_parts Tryz.info44
      go_wp2_with (at_builtin;refine wpList_append_own _ rfl _ _ 28 rfl w.heap.size 44 i0 (.int .u32 0) 1 4 Tryz.underlying28 hi0 hz0 hz1 hz2 rfl (by decide) _ _ _ rfl (ho.alloc _) ⟨wr.heap.size,0,none⟩ 1 1 [.int .u32 (bits BinOp.or IntKind.u64 (IntKind.u64.wrap (d:Int)) (IntKind.u64.wrap (IntKind.u64.wrap (d1:Int)*4294967296)) / 2^part % 4294967296)] rfl rfl (cell_one_new _ _ _) (by intro u hu;simp at hu;subst hu;rfl) (by unfold maxLen;omega) (by omega) (by simp;omega) ?_)
      intro v' w4 hown4 hgrow _
      go_wp2
      exact r64_round (by rw[shr_word2 HL.out.1 HL.out.2,shr_digit HW.out HP.out,HD.out,HD1.out]) (by omega) HB.out HO.out hown4 hgrow
     ·by_cases hjm:j<m
      ·have g1:=(hB.cell (World.block_lt_of_cell? _ _ (HC.out (i+j) (by omega)))).trans (HC.out (i+j) (by omega))
       have hji:¬ (j:Int)+1<(m:Int):=by omega
       have hji2:(j:Int)<(m:Int):=by omega
       generalize hd:dg x (i+j)=d at *
       have HD:Hid (dg x (i+j)=d):=hd
       have HL:Hid (d<B):=hd ▸ dg_lt _ _
       have HZ:Hid (dg x (i+(j+1))=0):=dg_past (by rw[HN.out];omega)
       clear hd hB
       obtain⟨i0,hi0,hz0,hz1,hz2⟩:=info_parts Tryz.info44
       go_wp2_with (at_builtin;refine wpList_append_own _ rfl _ _ 28 rfl w.heap.size 44 i0 (.int .u32 0) 1 4 Tryz.underlying28 hi0 hz0 hz1 hz2 rfl (by decide) _ _ _ rfl (ho.alloc _) ⟨wr.heap.size,0,none⟩ 1 1 [.int .u32 (IntKind.u64.wrap (d:Int) / 2^part % 4294967296)] rfl rfl (cell_one_new _ _ _) (by intro u hu;simp at hu;subst hu;rfl) (by unfold maxLen;omega) (by omega) (by simp;omega) ?_)
       intro v' w4 hown4 hgrow _
       go_wp2
       exact r64_round (by rw[shr_word1 HL.out,shr_digit HW.out HP.out,HD.out,HZ.out,Nat.zero_mul,Nat.add_zero]) (by omega) HB.out HO.out hown4 hgrow
      ·obtain rfl:j=m:=by omega
       have hL:=shr_len (k:=k) (m:=j) (by rw[HW.out];exact HN.out)
       obtain⟨ao',cap',rfl,hc',hA⟩:=at_of_row ho
       have HA:Hid (At wr ao' (dlen (x / 2^k)) (x / 2^k)∧dlen (x / 2^k)≤cap'):=⟨at_short hA hL,by omega⟩
       have k40:=r40 ao' j cap' (x / 2^k) wr hL hc' (by omega) hA
       clear hB ho hA
       go_wp2_with (first|(go_at_call 35;refine k40.mono ?_;rintro e w' ⟨rfl,rfl⟩))
       refine bodyPost_ret (results_tmp2 rfl _ _ _) rfl ?_
       exact⟨_,_,_,rfl,HA.out.1,HA.out.2,HB.out⟩
theorem Tryz.info30:(Tryz.prog.info? 30).map (·.size)=some 3:=by kernel_rfl
theorem r64 {ao:Option Addr} {n cap x:Nat} {w:World} (hn:dlen x=n) (hc:n≤cap) (h:At w ao n x) (k:Nat) (hx:dlen x≤17592186044416) (hk:k / 32<dlen x) (hk2:k≤1099511627776) :
  Calls Tryz.prog 36 #[.slice ao n cap,.int .i64 k] w fun e w'=>∃ ao cap' bb,e=.returned (.tuple #[.slice ao (dlen (x / 2^k)) cap',.bool bb])∧At w' ao (dlen (x / 2^k)) (x / 2^k)∧dlen (x / 2^k)≤cap'∧Bw w w':=by
 obtain⟨b,o,hb,hcell⟩:=h
 subst hn
 obtain rfl:=hb (by omega)
 obtain⟨m,hm⟩:∃ m,dlen x=k / 32+m:=⟨dlen x - k / 32,by omega⟩
 rw[hm] at hcell hc ⊢
 exact r64_1 b o cap m _ _ x k w (by omega) (by omega) hk2 hc rfl rfl hm hcell
theorem store3_29 {w:World} {g:Nat} {a b c:Value} (a' b' c':Value) (h:w.heap[g]?=some (.cells #[a,b,c] 30 (0,0))) :
  (((w.setCell ⟨g,0,none⟩ a').setCell ⟨g,1,none⟩ b').setCell ⟨g,2,none⟩ c').heap[g]?=some (.cells #[a',b',c'] 30 (0,0)):=by
 simp[World.setCell,Array.getElem?_modify,h]
theorem box_cells29 {w:World} {g:Nat} {a b c:Value} (h:w.heap[g]?=some (.cells #[a,b,c] 30 (0,0))) :
  (w.cell? ⟨g,0,none⟩=some a∧w.cell? ⟨g,1,none⟩=some b∧w.cell? ⟨g,2,none⟩=some c)∧(w.frozen? ⟨g,0,none⟩=false∧w.frozen? ⟨g,1,none⟩=false∧w.frozen? ⟨g,2,none⟩=false):=by
 simp[World.cell?,World.frozen?,h]
theorem r34_0 (neg:Bool) (ao:Option Addr) (n cap:Nat) (e:Int) (w:World) (h:At w ao n 0) (hn:n≤cap) (hc:n≤70368744177664) :
  Calls Tryz.prog 17 #[.bool neg,.slice ao n cap,.int .i64 e] w fun e w'=>e=.returned (.agg #[.bool false,.slice none 0 0,.int .i64 0])∧Bw w w':=by
 have HB:Hid (Below w.heap.size w (w.alloc (.cells #[.bool false,.slice none 0 0,.int .i64 0] 30))):=(Below.refl _ _).alloc (Nat.le_refl _) _
 have k:=r40 ao n cap 0 (w.alloc (.cells #[.bool false,.slice none 0 0,.int .i64 0] 30)) (by rw[dlen_zero];omega) hn hc (h.later HB.out)
 rw[dlen_zero] at k
 clear h
 go_enter Tryz.func17,Tryz.ntmps17
 go_wp2_with fail
 refine k.mono ?_
 rintro e w1 ⟨rfl,rfl⟩
 go_wp2
 refine bodyPost_ret (results_cell_row rfl _ _ w.heap.size 30 #[.bool false,.slice none 0 0,.int .i64 0] (0,0) _ rfl (heap_alloc_new _ _) Tryz.underlying30 rfl Tryz.info30) rfl ?_
 exact⟨rfl,HB.out⟩
theorem and_one32 (a:Nat) (h:a<4294967296):bits .and .u32 (a:Int) 1=((a % 2:Nat):Int):=by
 have e:=u32_and_nat a 1 h (by decide)
 rw[show((1:Nat):Int)=1 from rfl] at e
 rw[e,Nat.and_one_is_mod]
theorem bit_tz {x t i p d T : Nat} (hT : tz x = T) (hx : x ≠ 0) (ht : t ≤ T) (h : t / 32 = i ∧ t % 32 = p ∧ dg x i = d) : (bits BinOp.and IntKind.u32 ((d : Int) / 2 ^ p) 1 == 0) = decide (t < T) := by
  obtain ⟨rfl, rfl, rfl⟩ := h
  subst hT
  have hl := dg_lt x (t / 32)
  have e1 : ((dg x (t / 32) : Nat) : Int) / 2 ^ (t % 32) = ((dg x (t / 32) / 2 ^ (t % 32) : Nat) : Int) := by simp
  have hl2 : dg x (t / 32) / 2 ^ (t % 32) < 4294967296 := Nat.lt_of_le_of_lt (Nat.div_le_self ..) hl
  rw [e1, and_one32 _ hl2]
  have e2 : dg x (t / 32) / 2 ^ (t % 32) % 2 = x / 2 ^ t % 2 := by
    unfold dg
    rw [two_split (k := t), ← Nat.div_div_eq_div_mul]
    generalize x / B ^ (t / 32) = y
    have hp : t % 32 < 32 := Nat.mod_lt _ (by omega)
    generalize t % 32 = p at *
    have e3 : B = 2 ^ p * 2 ^ (32 - p) := by rw [← Nat.pow_add]; unfold B; have : p + (32 - p) = 32 := by omega
                                             rw [this]
    have e4 : 2 ^ (32 - p) = 2 * 2 ^ (31 - p) := by have : 32 - p = (31 - p) + 1 := by omega
                                                    rw [this, Nat.pow_succ, Nat.mul_comm]
    rw [e3, Nat.mod_mul_right_div_self, e4, Nat.mod_mul_right_mod]
  rw [e2]
  obtain ⟨h1, h2⟩ := tz_spec _ x (Nat.le_refl _) hx
  by_cases ht2 : t < tz x
  · have e5 : x / 2 ^ t % 2 = 0 := by
      obtain ⟨k, hk⟩ : ∃ k, tz x = t + (k + 1) := ⟨tz x - t - 1, by omega⟩
      rw [← h1]
      generalize x / 2 ^ tz x = y
      rw [hk, Nat.pow_add, Nat.mul_assoc, Nat.mul_div_cancel_left _ (Nat.two_pow_pos t), Nat.pow_succ, Nat.mul_comm (2 ^ k) 2, Nat.mul_assoc, Nat.mul_mod_right]
    rw [e5]; simp [ht2]
  · have : t = tz x := by omega
    subst this
    rw [h2]; simp
def Ir (w:World) (v:Value) (x:Nat):Prop:=∃ ao cap,v=.slice ao (dlen x) cap∧dlen x≤cap∧At w ao (dlen x) x
theorem Ir.later {w w':World} {v:Value} {x:Nat} (h:Ir w v x) (hb:Bw w w'):Ir w' v x:=by
 obtain⟨ao,cap,h1,h2,h3⟩:=h
 exact⟨ao,cap,h1,h2,h3.later hb⟩
theorem Ir.nil (w:World) (ao:Option Addr) (cap:Nat):Ir w (.slice ao 0 cap) 0:=⟨ao,cap,by rw[dlen_zero],by rw[dlen_zero];omega,0,0,fun h=>by rw[dlen_zero] at h;omega,fun i hi=>by rw[dlen_zero] at hi;omega⟩
theorem Mk.drewN {w wr:World} {n:Nat} {f:Nat→Nat} (h:Mk w wr n f) (d:Nat):Mk w (wr.drewN d) n f :=
 ⟨⟨h.below.os,h.below.tape,h.below.output,h.below.size,h.below.block⟩,h.size,h.row⟩
theorem mul_word2 {c f d e:Nat} (hc:c<B) (hf:f<B) (hd:d<B) (he:e<B) :
  IntKind.u64.wrap (IntKind.u64.wrap (IntKind.u64.wrap (IntKind.u64.wrap (d:Int)*IntKind.u64.wrap (e:Int))+IntKind.u64.wrap (f:Int))+(c:Int))=((c+f+e*d:Nat):Int):=by
 obtain⟨h1,h2,h3⟩:=mac_fits hc hf hd he
 rw[wrap_d hd,wrap_d he,wrap_d hf,←Int.natCast_mul,Nat.mul_comm d e]
 generalize e*d=m at *
 rw[IntKind.wrap_u64,IntKind.wrap_u64,IntKind.wrap_u64]
 omega
theorem rprod_1 (ao bo:Option Addr) (ba oa bb ob na nb ca cb x y:Nat) (w:World) (ha:ao=some ⟨ba,oa,none⟩) (hb:bo=some ⟨bb,ob,none⟩) (hna0:0<na) (hnb0:0<nb) (hna:na≤1000000000) (hnb:nb≤1000000000) (hx:dlen x=na) (hy:dlen y=nb)
  (hca:∀ i,i<na→w.cell? ⟨ba,oa+i,none⟩=some (.int .u32 (dg x i:Nat))) (hcb:∀ i,i<nb→w.cell? ⟨bb,ob+i,none⟩=some (.int .u32 (dg y i:Nat))) :
  Calls Tryz.prog 25 #[.slice ao na ca,.slice bo nb cb] w fun e w'=>∃ v,e=.returned v∧Own w' w.heap.size v (x*y)∧Bw w w':=by
 subst ha hb
 have hmk:=run_make_row' (P:=Tryz.prog) 28 44 (.int .u32 0) 4 Tryz.underlying28 Tryz.info44 rfl .i64 .i64 (na+nb) (by omega) (by omega)
 rw[show((na+nb:Nat):Int)=(na:Int)+nb by omega] at hmk
 have HX:Hid (dlen x=na):=hx
 have HY:Hid (dlen y=nb):=hy
 have z1:((na:Int)==0)=false:=by simp;omega
 have z2:((nb:Int)==0)=false:=by simp;omega
 clear hx hy
 go_enter Tryz.func25,Tryz.ntmps25
 go_wp2
 clear hmk z1 z2
 go_loopw [6] (fun c wr=>∃ i:Nat,i≤na∧c=.int .i64 i∧Mk w wr (na+nb) (dg (x % B^i*y))) (fun c _=>na - (intOf c).toNat)
 case atStart=>exact⟨0,Nat.zero_le _,rfl,(Mk.start w _).congr fun t ht=>by simp[Nat.mod_one,dg]⟩
 case round =>
  obtain⟨i,hi,rfl,hO⟩:=hrel
  by_cases hia:i<na
  ·have g1:=hO.old (hca i hia)
   have hii:(i:Int)<(na:Int):=by omega
   have HO:Hid (Mk w wr (na+nb) (dg (x % B^i*y))):=hO
   generalize hd:dg x i=d at *
   have HD:Hid (dg x i=d):=hd
   have HDL:Hid (d<B):=hd ▸ dg_lt _ _
   clear hd hO
   go_wp2
   go_loopw [7,8] (fun c s wi=>∃ j:Nat,j≤nb∧c=.int .u64 (macc (x % B^i*y / B^i) y d j:Nat)∧s=.int .i64 j∧Mk w wi (na+nb) (mid x y i j)) (fun _ s _=>nb - (intOf s).toNat)
   case atStart=>exact⟨0,Nat.zero_le _,by rw[macc_zero];rfl,rfl,HO.out.congr fun t ht=>by
     unfold mid
     by_cases e:t<i+0
     ·rw[if_pos e,prod_low (by omega)]
     ·rw[if_neg e]⟩
   case round =>
    obtain⟨j,hj,rfl,rfl,hM⟩:=hrel
    by_cases hjb:j<nb
    ·have g4:=hM.old (hcb j hjb)
     have g1':=hM.old (hca i hia)
     rw[HD.out] at g1'
     have hji:(j:Int)<(nb:Int):=by omega
     have g2:=hM.cell (i:=i+j) (by omega)
     have g3:=hM.frozen (i+j)
     have hcl:=macc_le (x % B^i*y / B^i) y d j
     have ef:mid x y i j (i+j)=dg (x % B^i*y) (i+j):=if_neg (by omega)
     rw[ef] at g2
     generalize hf:dg (x % B^i*y) (i+j)=f at *
     generalize he:dg y j=e at *
     generalize hc:macc (x % B^i*y / B^i) y d j=c at *
     have HE:Hid (dg (x % B^i*y) (i+j)=f∧dg y j=e∧macc (x % B^i*y / B^i) y d j=c):=⟨hf,he,hc⟩
     have HL:Hid (c<B∧f<B∧e<B):=⟨by have:=HDL.out;omega,hf ▸ dg_lt _ _,he ▸ dg_lt _ _⟩
     have HM:Hid (Mk w wr (na+nb) (mid x y i j)):=hM
     clear hf he hc hcl hM hca hcb ef g1
     go_wp2
     go_quiet (fail)
     have g2':(wr.drewN nq).cell? ⟨w.heap.size,i+j,none⟩=some (.int .u32 (f:Nat)):=g2
     have g3':(wr.drewN nq).frozen? ⟨w.heap.size,i+j,none⟩=false:=g3
     have HM2:Hid (Mk w (wr.drewN nq) (na+nb) (mid x y i j)):=HM.out.drewN nq
     generalize wr.drewN nq=wq at *
     clear g1' g2 g3 g4
     go_wp2
     exact mul_round HM2.out (mul_word2 HL.out.1 HL.out.2.1 HDL.out HL.out.2.2) HD.out HE.out hjb
    ·obtain rfl:j=nb:=by omega
     have g2:=hM.cell (i:=i+j) (by omega)
     have g3:=hM.frozen (i+j)
     have HM:Hid (Mk w wr (na+j) (mid x y i j)):=hM
     generalize hf:mid x y i j (i+j)=f at *
     generalize hc:macc (x % B^i*y / B^i) y d j=c at *
     have HC:Hid (macc (x % B^i*y / B^i) y d j=c):=hc
     clear hf hc hM hca hcb g1
     go_wp2
     exact mul_row HM.out HY.out HD.out HDL.out (by rw[HC.out]) hia
  ·obtain rfl:i=na:=by omega
   have hE:Mk w wr (i+nb) (dg (x*y)):=by
    have e:x % B^i=x:=Nat.mod_eq_of_lt (by rw[←HX.out];exact lt_dlen x)
    rw[e] at hO
    exact hO
   have hA:=hE.at
   have hL:dlen (x*y)≤i+nb:=by
    have h1:=prod_lt x y i
    rw[Nat.mod_eq_of_lt (by rw[←HX.out];exact lt_dlen x),HY.out] at h1
    exact(dlen_le _ _).2 h1
   have HC:Hid (Mk w wr (i+nb) (dg (x*y))):=hE
   have k40:=r40 (some ⟨w.heap.size,0,none⟩) (i+nb) (i+nb) (x*y) wr hL (Nat.le_refl _) (by omega) hA
   clear hO hca hcb hE hA
   go_wp2_with (first|(go_at_call 35;refine k40.mono ?_;rintro e w' ⟨rfl,rfl⟩))
   go_ret
   exact⟨_,rfl,HC.out.own hL (by omega),HC.out.below⟩
theorem rprod_0 (ao bo:Option Addr) (na nb ca cb:Nat) (w:World) (h:na=0∨nb=0) :
  Calls Tryz.prog 25 #[.slice ao na ca,.slice bo nb cb] w fun e w'=>e=.returned (.slice none 0 0)∧w'=w:=by
 by_cases h1:na=0
 ·subst h1
  go_enter Tryz.func25,Tryz.ntmps25
  go_wp2
  go_ret
  exact⟨rfl,rfl⟩
 ·obtain rfl:nb=0:=h.resolve_left h1
  have z1:((na:Int)==0)=false:=by simp;omega
  go_enter Tryz.func25,Tryz.ntmps25
  go_wp2
  go_ret
  exact⟨rfl,rfl⟩
theorem rprod {u v:Value} {x y:Nat} {w:World} (h1:Ir w u x) (h2:Ir w v y) (hx:dlen x≤1000000000) (hy:dlen y≤1000000000) :
  Calls Tryz.prog 25 #[u,v] w fun e w'=>∃ v,e=.returned v∧Own w' w.heap.size v (x*y)∧Bw w w':=by
 obtain⟨ao,ca,rfl,a1,ba,oa,a3,a4⟩:=h1
 obtain⟨bo,cb,rfl,b1,bb,ob,b3,b4⟩:=h2
 by_cases h:x=0∨y=0
 ·refine(rprod_0 ao bo _ _ ca cb w (h.imp (fun e=>by rw[e,dlen_zero]) (fun e=>by rw[e,dlen_zero]))).mono ?_
  rintro e w' ⟨rfl,rfl⟩
  refine⟨_,rfl,.inl ⟨rfl,?_⟩,Below.refl _ _⟩
  rcases h with h|h <;> rw[h] <;> simp
 ·have hx0:0<dlen x:=Nat.pos_of_ne_zero fun e=>h (.inl (dlen_eq_zero.1 e))
  have hy0:0<dlen y:=Nat.pos_of_ne_zero fun e=>h (.inr (dlen_eq_zero.1 e))
  exact rprod_1 ao bo ba oa bb ob _ _ ca cb x y w (a3 hx0) (b3 hy0) hx0 hy0 hx hy rfl rfl a4 b4
theorem rord_1 (ao bo:Option Addr) (na nb ca cb:Nat) (w:World) (h:na≠nb) (hna:na≤1000000000) (hnb:nb≤1000000000) :
  Calls Tryz.prog 39 #[.slice ao na ca,.slice bo nb cb] w fun e w'=>e=.returned (.int .i64 (cmpI na nb))∧w'=w:=by
 have h'':((na:Int) != (nb:Int))=true:=by simp;omega
 unfold cmpI
 by_cases hlt:(na:Int)<(nb:Int)
 ·rw[if_pos hlt]
  go_enter Tryz.func39,Tryz.ntmps39
  go_wp2
  go_ret
  exact⟨rfl,rfl⟩
 ·rw[if_neg hlt,if_pos (by omega)]
  go_enter Tryz.func39,Tryz.ntmps39
  go_wp2
  go_ret
  exact⟨rfl,rfl⟩
theorem rord_2 (ao bo:Option Addr) (ba oa bb ob n ca cb x y:Nat) (w:World) (ha:0<n→ao=some ⟨ba,oa,none⟩) (hb:0<n→bo=some ⟨bb,ob,none⟩) (hn:n≤1000000000) (hx:dlen x=n) (hy:dlen y=n)
  (hca:∀ i,i<n→w.cell? ⟨ba,oa+i,none⟩=some (.int .u32 (dg x i:Nat))) (hcb:∀ i,i<n→w.cell? ⟨bb,ob+i,none⟩=some (.int .u32 (dg y i:Nat))) :
  Calls Tryz.prog 39 #[.slice ao n ca,.slice bo n cb] w fun e w'=>e=.returned (.int .i64 (cmpI x y))∧∃ d,w'=w.drewN d:=by
 have h'':((n:Int) != (n:Int))=false:=by simp
 have HXY:Hid (dlen x=n∧dlen y=n):=⟨hx,hy⟩
 clear hx hy
 go_enter Tryz.func39,Tryz.ntmps39
 go_wp2
 go_loopw [5] (fun i wr=>∃ (j d:Nat),j≤n∧i=.int .i64 ((j:Int) - 1)∧wr=w.drewN d∧Hid (x / B^j=y / B^j)) (fun i _=>(intOf i+1).toNat)
 case atStart=>exact⟨n,0,Nat.le_refl _,rfl,rfl,(by rw[Nat.div_eq_of_lt ((dlen_le n x).1 (by rw[HXY.out.1];omega)),Nat.div_eq_of_lt ((dlen_le n y).1 (by rw[HXY.out.2];omega))]:x / B^n=y / B^n)⟩
 case round =>
  obtain⟨j,d,hj,rfl,rfl,hh⟩:=hrel
  by_cases hj0:j=0
  ·subst hj0
   have e:x=y:=by have:=hh.out;simpa using this
   have HE:Hid (cmpI x y=0):=(by subst e;unfold cmpI;simp:cmpI x y=0)
   clear hh e hca hcb
   go_wp2
   go_ret
   rw[HE.out]
   exact⟨rfl,d,rfl⟩
  ·obtain⟨i,rfl⟩:∃ i,j=i+1:=⟨j - 1,by omega⟩
   have hi:i<n:=by omega
   obtain rfl:=ha (by omega)
   obtain rfl:=hb (by omega)
   have g1:(w.drewN d).cell? ⟨ba,oa+i,none⟩=some (.int .u32 (dg x i:Nat)):=hca i hi
   have g2:(w.drewN d).cell? ⟨bb,ob+i,none⟩=some (.int .u32 (dg y i:Nat)):=hcb i hi
   have hii:(i:Int)<(n:Int):=by omega
   have ei:((i+1:Nat):Int) - 1=(i:Int):=by omega
   rw[ei]
   generalize hdx:dg x i=dx at *
   generalize hdy:dg y i=dy at *
   have HD:Hid (dg x i=dx∧dg y i=dy):=⟨hdx,hdy⟩
   clear hca hcb hdx hdy ei
   have HW:Hid (∃ d',w.drewN d=w.drewN d'):=⟨d,rfl⟩
   generalize w.drewN d=wd at *
   by_cases hne:dx=dy
   ·subst hne
    have t1:((dx:Int) != (dx:Int))=false:=by simp
    go_wp2
    go_quiet (fail)
    go_wp2
    obtain⟨d',rfl⟩:=HW.out
    exact⟨⟨i,_,by omega,rfl,World.drewN_drewN ..,(top_step hh.out (HD.out.1.trans HD.out.2.symm):x / B^i=y / B^i)⟩,by simp[intOf]⟩
   ·have t1:((dx:Int) != (dy:Int))=true:=by simp;omega
    by_cases hlt:dx<dy
    ·have t2:(dx:Int)<(dy:Int):=by omega
     have HC:Hid (cmpI x y = -1):=by
      have h1:=HD.out
      have:=lt_of_top (i:=i) hh.out (by omega)
      show cmpI x y = -1
      unfold cmpI
      rw[if_pos (by omega)]
     go_wp2
     go_quiet (fail)
     go_wp2
     have HV:Hid (∃ d',wd.drewN nq=w.drewN d'):=by
      obtain⟨d',e⟩:=HW.out
      exact⟨_,by rw[e];exact World.drewN_drewN ..⟩
     have g1':(wd.drewN nq).cell? ⟨ba,oa+i,none⟩=some (.int .u32 (dx:Nat)):=g1
     have g2':(wd.drewN nq).cell? ⟨bb,ob+i,none⟩=some (.int .u32 (dy:Nat)):=g2
     generalize wd.drewN nq=wq at *
     go_quiet (fail)
     go_wp2
     go_ret
     obtain⟨d',e⟩:=HV.out
     rw[HC.out,e]
     exact⟨rfl,_,World.drewN_drewN ..⟩
    ·have t2:¬ (dx:Int)<(dy:Int):=by omega
     have HC:Hid (cmpI x y=1):=by
      have h1:=HD.out
      have:=lt_of_top (i:=i) hh.out.symm (by omega)
      show cmpI x y=1
      unfold cmpI
      rw[if_neg (by omega),if_pos (by omega)]
     go_wp2
     go_quiet (fail)
     go_wp2
     have HV:Hid (∃ d',wd.drewN nq=w.drewN d'):=by
      obtain⟨d',e⟩:=HW.out
      exact⟨_,by rw[e];exact World.drewN_drewN ..⟩
     have g1':(wd.drewN nq).cell? ⟨ba,oa+i,none⟩=some (.int .u32 (dx:Nat)):=g1
     have g2':(wd.drewN nq).cell? ⟨bb,ob+i,none⟩=some (.int .u32 (dy:Nat)):=g2
     generalize wd.drewN nq=wq at *
     go_quiet (fail)
     go_wp2
     go_ret
     obtain⟨d',e⟩:=HV.out
     rw[HC.out,e]
     exact⟨rfl,_,World.drewN_drewN ..⟩
theorem rord {u v:Value} {x y:Nat} {w:World} (h1:Ir w u x) (h2:Ir w v y) (hx:dlen x≤1000000000) (hy:dlen y≤1000000000) :
  Calls Tryz.prog 39 #[u,v] w fun e w'=>e=.returned (.int .i64 (cmpI x y))∧∃ d,w'=w.drewN d:=by
 obtain⟨ao,ca,rfl,a1,ba,oa,a3,a4⟩:=h1
 obtain⟨bo,cb,rfl,b1,bb,ob,b3,b4⟩:=h2
 by_cases h:dlen x=dlen y
 ·rw[←h] at b3 b4 ⊢
  exact rord_2 ao bo ba oa bb ob _ ca cb x y w a3 b3 hx rfl h.symm a4 b4
 ·refine(rord_1 ao bo _ _ ca cb w h hx hy).mono ?_
  rintro e w' ⟨rfl,rfl⟩
  refine⟨congrArg Ending.returned (congrArg (Value.int IntKind.i64) ?_),0,rfl⟩
  unfold cmpI
  rcases Nat.lt_or_gt_of_ne h with h2|h2
  ·have:=lt_of_dlen h2
   rw[if_pos (by omega),if_pos (by omega)]
  ·have:=lt_of_dlen h2
   rw[if_neg (by omega),if_pos (by omega),if_neg (by omega),if_pos (by omega)]
theorem row_step {w wr w':World} {j z:Nat} {q:Int} {v v':Value} (hq:q=(dg z j:Nat)) (hB:Bw w wr) (ho:wr.ownsRow w.heap.size 44 1 v j (cells z j))
  (ho':w'.ownsRow w.heap.size 44 1 v' (j+1) (cells z j ++ [.int .u32 q])) (hg:(wr.alloc (.cells #[.int .u32 q] 44)).grownBy w' v.ownBlock) :
  w'.ownsRow w.heap.size 44 1 v' (j+1) (cells z (j+1))∧Bw w w' :=
 ⟨by rw[cells_succ,←hq];exact ho',(hB.alloc hB.size _).grown hg (by simp;have:=hB.size;omega) (fun k hk=>(ho.lt k hk).1)⟩
theorem addc_top {x y n:Nat} (hx:x<B^n) (hy:y<B^n):addc x y n=(x+y) / B^n:=by
 unfold addc
 rw[Nat.mod_eq_of_lt hx,Nat.mod_eq_of_lt hy]
theorem rsum_1 (ao bo:Option Addr) (ba oa bb ob na nb ca cb x y N:Nat) (w:World) (ha:0<na→ao=some ⟨ba,oa,none⟩) (hb:0<nb→bo=some ⟨bb,ob,none⟩) (hN:N=max na nb) (hNb:N≤1000000000) (hx:dlen x=na) (hy:dlen y=nb)
  (hca:∀ i,i<na→w.cell? ⟨ba,oa+i,none⟩=some (.int .u32 (dg x i:Nat))) (hcb:∀ i,i<nb→w.cell? ⟨bb,ob+i,none⟩=some (.int .u32 (dg y i:Nat))) :
  Calls Tryz.prog 42 #[.slice ao na ca,.slice bo nb cb] w fun e w'=>∃ v,e=.returned v∧Ir w' v (x+y)∧Bw w w':=by
 have HXY:Hid (dlen x=na∧dlen y=nb∧N=max na nb):=⟨hx,hy,hN⟩
 have HCA:Hid (∀ i,i<na→w.cell? ⟨ba,oa+i,none⟩=some (.int .u32 (dg x i:Nat))):=hca
 have HCB:Hid (∀ i,i<nb→w.cell? ⟨bb,ob+i,none⟩=some (.int .u32 (dg y i:Nat))):=hcb
 have hNa:na≤N:=by omega
 have hNb2:nb≤N:=by omega
 clear hx hy hca hcb hN
 go_enter Tryz.func42,Tryz.ntmps42
 go_wp2
 go_loopw [5,6,7] (fun v c i wr=>∃ j:Nat,j≤N∧c=.int .u64 (addc x y j:Nat)∧i=.int .i64 j∧wr.ownsRow w.heap.size 44 1 v j (cells (x+y) j)∧Bw w wr) (fun _ _ i _=>N - (intOf i).toNat)
 case atStart=>exact⟨0,Nat.zero_le _,by rw[addc_zero];rfl,rfl,World.ownsRow_nil ..,Below.refl _ _⟩
 case round =>
  obtain⟨j,hj,rfl,rfl,ho,hB⟩:=hrel
  have HO:Hid (wr.ownsRow w.heap.size 44 1 u5 j (cells (x+y) j)):=ho
  have HB:Hid (Bw w wr):=hB
  have hbs:w.heap.size≤wr.heap.size:=hB.size
  have HL:Hid (dg x j<B∧dg y j<B∧addc x y j≤1):=⟨dg_lt _ _,dg_lt _ _,addc_le _ _ _⟩
  by_cases hjN:j<N
  ·-- what comes to the carry, from both
   have hkey:∀ (dx dy c Q:Nat),dg x j=dx→dg y j=dy→addc x y j=c→Q=c+dx+dy→((Q:Int) % 4294967296=(dg (x+y) j:Nat))∧((Q:Int) / 4294967296=(addc x y (j+1):Nat)):=by
    rintro dx dy c Q rfl rfl rfl rfl
    rw[dg_add,addc_succ]
    unfold B
    omega
   have HKY:Hid (∀ (dx dy c Q:Nat),dg x j=dx→dg y j=dy→addc x y j=c→Q=c+dx+dy→((Q:Int) % 4294967296=(dg (x+y) j:Nat))∧((Q:Int) / 4294967296=(addc x y (j+1):Nat))):=hkey
   obtain⟨i0,hi0,hz0,hz1,hz2⟩:=info_parts Tryz.info44
   have e64:∀ q:Int,0≤q→q<18446744073709551616→IntKind.u64.wrap q=q:=fun q h1 h2=>by rw[IntKind.wrap_u64];omega
   by_cases hja:j<na
   ·obtain rfl:=ha (by omega)
    have g1:=(hB.cell (World.block_lt_of_cell? _ _ (HCA.out j hja))).trans (HCA.out j hja)
    have hji:(j:Int)<(na:Int):=by omega
    by_cases hjb:j<nb
    ·obtain rfl:=hb (by omega)
     have g4:=(hB.cell (World.block_lt_of_cell? _ _ (HCB.out j hjb))).trans (HCB.out j hjb)
     have hji2:(j:Int)<(nb:Int):=by omega
     generalize hd:dg x j=d at *
     generalize hd1:dg y j=d1 at *
     generalize hc:addc x y j=c at *
     obtain⟨K,hK⟩:∃ K:Nat,K=c+d:=⟨_,rfl⟩
     obtain⟨Q,hQ⟩:∃ Q:Nat,Q=c+d+d1:=⟨_,rfl⟩
     have w1:IntKind.u64.wrap (d:Int)=(d:Int):=wrap_d HL.out.1
     have w2:IntKind.u64.wrap (d1:Int)=(d1:Int):=wrap_d HL.out.2.1
     have hl:=HL.out
     unfold B at hl
     have w3:IntKind.u64.wrap ((c:Int)+(d:Int))=(K:Int):=by rw[e64 _ (by omega) (by omega)];omega
     have w4:IntKind.u64.wrap ((K:Int)+(d1:Int))=(Q:Int):=by rw[e64 _ (by omega) (by omega)];omega
     have HD:Hid ((Q:Int) % 4294967296=(dg (x+y) j:Nat)∧(Q:Int) / 4294967296=(addc x y (j+1):Nat)):=HKY.out d d1 c Q rfl rfl rfl hQ
     clear hd hd1 hc hB hl hkey e64 hK hQ
     go_wp2_with (at_builtin;refine wpList_append_own _ rfl _ _ 28 rfl w.heap.size 44 i0 (.int .u32 0) 1 4 Tryz.underlying28 hi0 hz0 hz1 hz2 rfl (by decide) _ _ _ rfl (ho.alloc _) ⟨wr.heap.size,0,none⟩ 1 1 [.int .u32 ((Q:Int) % 4294967296)] rfl rfl (cell_one_new _ _ _) (by intro u hu;simp at hu;subst hu;rfl) (by unfold maxLen;omega) (by omega) (by simp;omega) ?_)
     intro v' w5 hown5 hgrow _
     obtain⟨r1,r2⟩:=row_step HD.out.1 HB.out HO.out hown5 hgrow
     have HR:Hid (w5.ownsRow w.heap.size 44 1 v' (j+1) (cells (x+y) (j+1))∧Bw w w5):=⟨r1,r2⟩
     clear hown5 hgrow r1 r2 ho
     go_wp2
     exact⟨⟨j+1,by omega,by rw[HD.out.2],by simp,HR.out⟩,by simp[intOf];omega⟩
    ·have hji2:¬ (j:Int)<(nb:Int):=by omega
     have hd1:dg y j=0:=dg_past (by rw[HXY.out.2.1];omega)
     generalize hd:dg x j=d at *
     generalize hc:addc x y j=c at *
     obtain⟨Q,hQ⟩:∃ Q:Nat,Q=c+d+0:=⟨_,rfl⟩
     have w1:IntKind.u64.wrap (d:Int)=(d:Int):=wrap_d HL.out.1
     have hl:=HL.out
     unfold B at hl
     have w3:IntKind.u64.wrap ((c:Int)+(d:Int))=(Q:Int):=by rw[e64 _ (by omega) (by omega)];omega
     have HD:Hid ((Q:Int) % 4294967296=(dg (x+y) j:Nat)∧(Q:Int) / 4294967296=(addc x y (j+1):Nat)):=HKY.out d 0 c Q rfl hd1 rfl hQ
     clear hd hd1 hc hB hl hkey e64 hQ
     go_wp2_with (at_builtin;refine wpList_append_own _ rfl _ _ 28 rfl w.heap.size 44 i0 (.int .u32 0) 1 4 Tryz.underlying28 hi0 hz0 hz1 hz2 rfl (by decide) _ _ _ rfl (ho.alloc _) ⟨wr.heap.size,0,none⟩ 1 1 [.int .u32 ((Q:Int) % 4294967296)] rfl rfl (cell_one_new _ _ _) (by intro u hu;simp at hu;subst hu;rfl) (by unfold maxLen;omega) (by omega) (by simp;omega) ?_)
     intro v' w5 hown5 hgrow _
     obtain⟨r1,r2⟩:=row_step HD.out.1 HB.out HO.out hown5 hgrow
     have HR:Hid (w5.ownsRow w.heap.size 44 1 v' (j+1) (cells (x+y) (j+1))∧Bw w w5):=⟨r1,r2⟩
     clear hown5 hgrow r1 r2 ho
     go_wp2
     exact⟨⟨j+1,by omega,by rw[HD.out.2],by simp,HR.out⟩,by simp[intOf];omega⟩
   ·have hji:¬ (j:Int)<(na:Int):=by omega
    have hjb:j<nb:=by have:=HXY.out.2.2;omega
    obtain rfl:=hb (by omega)
    have g4:=(hB.cell (World.block_lt_of_cell? _ _ (HCB.out j hjb))).trans (HCB.out j hjb)
    have hji2:(j:Int)<(nb:Int):=by omega
    have hd:dg x j=0:=dg_past (by rw[HXY.out.1];omega)
    generalize hd1:dg y j=d1 at *
    generalize hc:addc x y j=c at *
    obtain⟨Q,hQ⟩:∃ Q:Nat,Q=c+0+d1:=⟨_,rfl⟩
    have w2:IntKind.u64.wrap (d1:Int)=(d1:Int):=wrap_d HL.out.2.1
    have hl:=HL.out
    unfold B at hl
    have w4:IntKind.u64.wrap ((c:Int)+(d1:Int))=(Q:Int):=by rw[e64 _ (by omega) (by omega)];omega
    have HD:Hid ((Q:Int) % 4294967296=(dg (x+y) j:Nat)∧(Q:Int) / 4294967296=(addc x y (j+1):Nat)):=HKY.out 0 d1 c Q hd rfl rfl hQ
    clear hd hd1 hc hB hl hkey e64 hQ
    go_wp2_with (at_builtin;refine wpList_append_own _ rfl _ _ 28 rfl w.heap.size 44 i0 (.int .u32 0) 1 4 Tryz.underlying28 hi0 hz0 hz1 hz2 rfl (by decide) _ _ _ rfl (ho.alloc _) ⟨wr.heap.size,0,none⟩ 1 1 [.int .u32 ((Q:Int) % 4294967296)] rfl rfl (cell_one_new _ _ _) (by intro u hu;simp at hu;subst hu;rfl) (by unfold maxLen;omega) (by omega) (by simp;omega) ?_)
    intro v' w5 hown5 hgrow _
    obtain⟨r1,r2⟩:=row_step HD.out.1 HB.out HO.out hown5 hgrow
    have HR:Hid (w5.ownsRow w.heap.size 44 1 v' (j+1) (cells (x+y) (j+1))∧Bw w w5):=⟨r1,r2⟩
    clear hown5 hgrow r1 r2 ho
    go_wp2
    exact⟨⟨j+1,by omega,by rw[HD.out.2],by simp,HR.out⟩,by simp[intOf];omega⟩
  ·obtain rfl:j=N:=by omega
   have hjna:¬ (j:Int)<(na:Int):=by omega
   have hjnb:¬ (j:Int)<(nb:Int):=by omega
   obtain⟨l1,l2,l3⟩:=HXY.out
   have hxl:x<B^j:=(dlen_le j x).1 (by omega)
   have hyl:y<B^j:=(dlen_le j y).1 (by omega)
   have htop:=addc_top hxl hyl
   have hc1:=HL.out.2.2
   by_cases hc0:addc x y j=0
   ·have hlen:dlen (x+y)=j:=by
     have h1:x+y<B^j:=by
      rw[hc0] at htop
      exact(Nat.div_eq_zero_iff.1 htop.symm).resolve_left (by have:=Bpow_pos j;omega)
     have h2:dlen (x+y)≤j:=(dlen_le _ _).2 h1
     have h3:dlen x≤dlen (x+y):=dlen_mono (by omega)
     have h4:dlen y≤dlen (x+y):=dlen_mono (by omega)
     omega
    rw[hc0]
    obtain⟨ao',cap',rfl,hcp,hA⟩:=at_of_row ho
    have HR:Hid (Ir wr (.slice ao' j cap') (x+y)):=⟨ao',cap',by rw[hlen],by omega,by rw[hlen];exact hA⟩
    clear ho hB hlen htop hxl hyl l1 l2 l3 hA hc0 hc1
    go_wp2
    go_ret
    exact⟨_,rfl,HR.out,HB.out⟩
   ·have hc:addc x y j=1:=by omega
    have hlen:dlen (x+y)=j+1:=by
     have h1:B^j≤x+y:=by
      rw[hc] at htop
      refine Nat.le_of_not_lt fun h=>?_
      rw[Nat.div_eq_of_lt h] at htop;omega
     have h2:¬ dlen (x+y)≤j:=fun h=>by have:=(dlen_le _ _).1 h;omega
     have h3:=dlen_add_le x y
     omega
    have hdg:dg (x+y) j=1:=by
     rw[dg_add,dg_past (x:=x) (by omega),dg_past (x:=y) (by omega),hc]
     decide
    have HD:Hid ((1:Int)=(dg (x+y) j:Nat)):=(by rw[hdg];rfl:(1:Int)=(dg (x+y) j:Nat))
    have HLN:Hid (dlen (x+y)=j+1):=hlen
    rw[hc]
    obtain⟨i0,hi0,hz0,hz1,hz2⟩:=info_parts Tryz.info44
    clear hB hlen htop hxl hyl l1 l2 l3 hc0 hc1 hc hdg
    go_wp2_with (at_builtin;refine wpList_append_own _ rfl _ _ 28 rfl w.heap.size 44 i0 (.int .u32 0) 1 4 Tryz.underlying28 hi0 hz0 hz1 hz2 rfl (by decide) _ _ _ rfl (ho.alloc _) ⟨wr.heap.size,0,none⟩ 1 1 [.int .u32 1] rfl rfl (cell_one_new _ _ _) (by intro u hu;simp at hu;subst hu;rfl) (by unfold maxLen;omega) (by omega) (by simp;omega) ?_)
    intro v' w5 hown5 hgrow _
    obtain⟨r1,r2⟩:=row_step HD.out HB.out HO.out hown5 hgrow
    obtain⟨ao',cap',rfl,hcp,hA⟩:=at_of_row r1
    have HR:Hid (Ir w5 (.slice ao' (j+1) cap') (x+y)∧Bw w w5):=⟨⟨ao',cap',by rw[HLN.out],by rw[HLN.out];omega,by rw[HLN.out];exact hA⟩,r2⟩
    clear hown5 hgrow r1 r2 ho hA hcp
    go_wp2
    go_ret
    exact⟨_,rfl,HR.out⟩
theorem rsum {u v:Value} {x y:Nat} {w:World} (h1:Ir w u x) (h2:Ir w v y) (hx:dlen x≤1000000000) (hy:dlen y≤1000000000) :
  Calls Tryz.prog 42 #[u,v] w fun e w'=>∃ v,e=.returned v∧Ir w' v (x+y)∧Bw w w':=by
 obtain⟨ao,ca,rfl,a1,ba,oa,a3,a4⟩:=h1
 obtain⟨bo,cb,rfl,b1,bb,ob,b3,b4⟩:=h2
 exact rsum_1 ao bo ba oa bb ob _ _ ca cb x y _ w a3 b3 rfl (by omega) rfl rfl a4 b4
theorem rless_1 (ao bo:Option Addr) (ba oa bb ob na nb ca cb x y:Nat) (w:World) (ha:0<na→ao=some ⟨ba,oa,none⟩) (hb:0<nb→bo=some ⟨bb,ob,none⟩) (hna:na≤1000000000) (hx:dlen x=na) (hy:dlen y=nb) (hle:y≤x)
  (hca:∀ i,i<na→w.cell? ⟨ba,oa+i,none⟩=some (.int .u32 (dg x i:Nat))) (hcb:∀ i,i<nb→w.cell? ⟨bb,ob+i,none⟩=some (.int .u32 (dg y i:Nat))) :
  Calls Tryz.prog 43 #[.slice ao na ca,.slice bo nb cb] w fun e w'=>∃ v,e=.returned v∧Ir w' v (x - y)∧Bw w w':=by
 have hnb:nb≤na:=by have:=dlen_mono hle;omega
 have HXY:Hid (dlen x=na∧dlen y=nb):=⟨hx,hy⟩
 have HWS:Hid (wsub x y na=x - y):=wsub_of_le (by rw[←hx];exact lt_dlen x) hle
 have HCA:Hid (∀ i,i<na→w.cell? ⟨ba,oa+i,none⟩=some (.int .u32 (dg x i:Nat))):=hca
 have HCB:Hid (∀ i,i<nb→w.cell? ⟨bb,ob+i,none⟩=some (.int .u32 (dg y i:Nat))):=hcb
 clear hx hy hca hcb hle
 go_enter Tryz.func43,Tryz.ntmps43
 go_wp2
 go_loopw [5,6,7] (fun v c i wr=>∃ j:Nat,j≤na∧c=.int .u64 (subb x y j:Nat)∧i=.int .i64 j∧wr.ownsRow w.heap.size 44 1 v j (cells (x - y) j)∧Bw w wr) (fun _ _ i _=>na - (intOf i).toNat)
 case atStart=>exact⟨0,Nat.zero_le _,by rw[subb_zero];rfl,rfl,World.ownsRow_nil ..,Below.refl _ _⟩
 case round =>
  obtain⟨j,hj,rfl,rfl,ho,hB⟩:=hrel
  have HO:Hid (wr.ownsRow w.heap.size 44 1 u5 j (cells (x - y) j)):=ho
  have HB:Hid (Bw w wr):=hB
  have hbs:w.heap.size≤wr.heap.size:=hB.size
  by_cases hja:j<na
  ·have HL:Hid (dg x j<B∧dg y j<B∧subb x y j≤1):=⟨dg_lt _ _,dg_lt _ _,subb_le _ _ _⟩
   have HKY:Hid (∀ (dx dy c:Nat) (Q:Int),dg x j=dx→dg y j=dy→subb x y j=c→Q=((dx:Int) - c - dy) % 18446744073709551616→(Q % 4294967296=(dg (x - y) j:Nat))∧(Q / 9223372036854775808=(subb x y (j+1):Nat))):=by
    intro dx dy c Q e1 e2 e3 e4
    have h1:dg (x - y) j=(dg x j+B+B - dg y j - subb x y j) % B:=by rw[←HWS.out,dg_wsub hja]
    have h2:=subb_succ x y j
    obtain⟨l1,l2,l3⟩:=HL.out
    rw[e1,e2,e3] at h1 h2
    rw[e1] at l1
    rw[e2] at l2
    rw[e3] at l3
    unfold B at *
    rw[h1,h2]
    by_cases hlt:dx<dy+c
    ·rw[if_pos hlt];omega
    ·rw[if_neg hlt];omega
   obtain rfl:=ha (by omega)
   have g1:=(hB.cell (World.block_lt_of_cell? _ _ (HCA.out j hja))).trans (HCA.out j hja)
   have hji:(j:Int)<(na:Int):=by omega
   obtain⟨i0,hi0,hz0,hz1,hz2⟩:=info_parts Tryz.info44
   by_cases hjb:j<nb
   ·obtain rfl:=hb (by omega)
    have g4:=(hB.cell (World.block_lt_of_cell? _ _ (HCB.out j hjb))).trans (HCB.out j hjb)
    have hji2:(j:Int)<(nb:Int):=by omega
    generalize hd:dg x j=d at *
    generalize hd1:dg y j=d1 at *
    generalize hc:subb x y j=c at *
    obtain⟨K,hK⟩:∃ K:Int,K=((d:Int) - c) % 18446744073709551616:=⟨_,rfl⟩
    obtain⟨Q,hQ⟩:∃ Q:Int,Q=((d:Int) - c - d1) % 18446744073709551616:=⟨_,rfl⟩
    have w1:IntKind.u64.wrap (d:Int)=(d:Int):=wrap_d HL.out.1
    have w2:IntKind.u64.wrap (d1:Int)=(d1:Int):=wrap_d HL.out.2.1
    have w3:IntKind.u64.wrap ((d:Int) - (c:Int))=K:=by rw[IntKind.wrap_u64];omega
    have w4:IntKind.u64.wrap (K - (d1:Int))=Q:=by rw[IntKind.wrap_u64];omega
    have HD:Hid (Q % 4294967296=(dg (x - y) j:Nat)∧Q / 9223372036854775808=(subb x y (j+1):Nat)):=HKY.out d d1 c Q rfl rfl rfl hQ
    clear hd hd1 hc hB hK hQ
    go_wp2_with (at_builtin;refine wpList_append_own _ rfl _ _ 28 rfl w.heap.size 44 i0 (.int .u32 0) 1 4 Tryz.underlying28 hi0 hz0 hz1 hz2 rfl (by decide) _ _ _ rfl (ho.alloc _) ⟨wr.heap.size,0,none⟩ 1 1 [.int .u32 (Q % 4294967296)] rfl rfl (cell_one_new _ _ _) (by intro u hu;simp at hu;subst hu;rfl) (by unfold maxLen;omega) (by omega) (by simp;omega) ?_)
    intro v' w5 hown5 hgrow _
    obtain⟨r1,r2⟩:=row_step HD.out.1 HB.out HO.out hown5 hgrow
    have HR:Hid (w5.ownsRow w.heap.size 44 1 v' (j+1) (cells (x - y) (j+1))∧Bw w w5):=⟨r1,r2⟩
    clear hown5 hgrow r1 r2 ho
    go_wp2
    exact⟨⟨j+1,by omega,by rw[HD.out.2],by simp,HR.out⟩,by simp[intOf];omega⟩
   ·have hji2:¬ (j:Int)<(nb:Int):=by omega
    have hd1:dg y j=0:=dg_past (by rw[HXY.out.2];omega)
    generalize hd:dg x j=d at *
    generalize hc:subb x y j=c at *
    obtain⟨Q,hQ⟩:∃ Q:Int,Q=((d:Int) - c - ((0:Nat):Int)) % 18446744073709551616:=⟨_,rfl⟩
    have w1:IntKind.u64.wrap (d:Int)=(d:Int):=wrap_d HL.out.1
    have w3:IntKind.u64.wrap ((d:Int) - (c:Int))=Q:=by rw[IntKind.wrap_u64];omega
    have HD:Hid (Q % 4294967296=(dg (x - y) j:Nat)∧Q / 9223372036854775808=(subb x y (j+1):Nat)):=HKY.out d 0 c Q rfl hd1 rfl hQ
    clear hd hd1 hc hB hQ
    go_wp2_with (at_builtin;refine wpList_append_own _ rfl _ _ 28 rfl w.heap.size 44 i0 (.int .u32 0) 1 4 Tryz.underlying28 hi0 hz0 hz1 hz2 rfl (by decide) _ _ _ rfl (ho.alloc _) ⟨wr.heap.size,0,none⟩ 1 1 [.int .u32 (Q % 4294967296)] rfl rfl (cell_one_new _ _ _) (by intro u hu;simp at hu;subst hu;rfl) (by unfold maxLen;omega) (by omega) (by simp;omega) ?_)
    intro v' w5 hown5 hgrow _
    obtain⟨r1,r2⟩:=row_step HD.out.1 HB.out HO.out hown5 hgrow
    have HR:Hid (w5.ownsRow w.heap.size 44 1 v' (j+1) (cells (x - y) (j+1))∧Bw w w5):=⟨r1,r2⟩
    clear hown5 hgrow r1 r2 ho
    go_wp2
    exact⟨⟨j+1,by omega,by rw[HD.out.2],by simp,HR.out⟩,by simp[intOf];omega⟩
  ·obtain rfl:j=na:=by omega
   obtain⟨ao',cap',rfl,hcp,hA⟩:=at_of_row ho
   have hL:dlen (x - y)≤j:=by have:=HXY.out.1;rw[←this];exact dlen_mono (Nat.sub_le ..)
   have HR:Hid (Ir wr (.slice ao' (dlen (x - y)) cap') (x - y)):=⟨ao',cap',rfl,by omega,at_short hA hL⟩
   have k40:=r40 ao' j cap' (x - y) wr hL hcp (by omega) hA
   generalize subb x y j=c at *
   clear ho hB hA
   go_wp2_with (first|(go_at_call 35;refine k40.mono ?_;rintro e w' ⟨rfl,rfl⟩))
   go_ret
   exact⟨_,rfl,HR.out,HB.out⟩
theorem rless {u v:Value} {x y:Nat} {w:World} (h1:Ir w u x) (h2:Ir w v y) (hx:dlen x≤1000000000) (hle:y≤x) :
  Calls Tryz.prog 43 #[u,v] w fun e w'=>∃ v,e=.returned v∧Ir w' v (x - y)∧Bw w w':=by
 obtain⟨ao,ca,rfl,a1,ba,oa,a3,a4⟩:=h1
 obtain⟨bo,cb,rfl,b1,bb,ob,b3,b4⟩:=h2
 exact rless_1 ao bo ba oa bb ob _ _ ca cb x y w a3 b3 hx rfl rfl hle a4 b4
theorem made_row {w:World} {z n:Nat} (hn:n≤maxLen) (h:∀ i,i<n→dg z i=0):(w.alloc (.cells (madeCells #[.int .u32 0] n) 44)).ownsRow w.heap.size 44 1 (.slice (some ⟨w.heap.size,0,none⟩) n n) n (cells z n):=by
 obtain⟨c,hc,hs,hf⟩:=World.rowIs_made w (.int .u32 0) n 44
 refine⟨by rw[cells_length,Nat.mul_one],.inr ⟨w.heap.size,n,c,rfl,Nat.le_refl _,hc,Nat.le_refl _,hn,by omega,?_⟩⟩
 apply List.ext_getElem?
 intro i
 rw[Nat.mul_one,List.getElem?_take]
 by_cases hi:i<n
 ·rw[if_pos hi,Array.getElem?_toList,hf i hi,cells_get hi,h i hi];rfl
 ·rw[if_neg hi,List.getElem?_eq_none (by rw[cells_length];omega)]
theorem up_word {d c p:Nat} (hd:d<B) (hp:p<32) (hc:c<2^p):bits .or .u64 (IntKind.u64.wrap (IntKind.u64.wrap (d:Int)*2^p)) (IntKind.u64.wrap (c:Int))=((c+d*2^p:Nat):Int):=by
 have h1:=shl_word hd hp
 have h2:=two_small hp
 have h3:=mul_small hd h2
 have hcB:c<B:=by unfold B;omega
 rw[h1,wrap_d hcB,u64_or_nat _ _ (by omega) (by unfold B at hcB;omega),or_add (p:=p) (Nat.mul_mod_left ..) hc,Nat.add_comm]
theorem rup_1 (b o cap n x k whole part:Nat) (w:World) (hn0:0<n) (hn:n≤1000000000) (hk:k≤1000000000) (hwh:k / 32=whole) (hpa:k % 32=part) (hx:dlen x=n) (hcell:∀ i,i<n→w.cell? ⟨b,o+i,none⟩=some (.int .u32 (dg x i:Nat))) :
  Calls Tryz.prog 40 #[.slice (some ⟨b,o,none⟩) n cap,.int .i64 k] w fun e w'=>∃ v,e=.returned v∧Ir w' v (x*2^k)∧Bw w w':=by
 have hq:(k:Int).tdiv 32=((k / 32:Nat):Int):=by rw[Int.tdiv_eq_ediv_of_nonneg (by omega)];rfl
 have hr:(k:Int).tmod 32=((k % 32:Nat):Int):=by rw[Int.tmod_eq_emod_of_nonneg (by omega)];rfl
 rw[hwh] at hq
 rw[hpa] at hr
 have hwb:whole≤1000000000:=by omega
 have hpb:part<32:=by omega
 have hmk:=run_make_row' (P:=Tryz.prog) 28 44 (.int .u32 0) 4 Tryz.underlying28 Tryz.info44 rfl .i64 .i64 whole (by omega) (by omega)
 have hn0':((n:Int)==0)=false:=by simp;omega
 have HN:Hid (dlen x=n∧k / 32=whole∧k % 32=part):=⟨hx,hwh,hpa⟩
 have HZ:Hid (∀ i,i<whole→dg (x*2^k) i=0):=fun i hi=>by rw[shl_split,hwh,dg_shl_low hi]
 have HCA:Hid (∀ i,i<n→w.cell? ⟨b,o+i,none⟩=some (.int .u32 (dg x i:Nat))):=hcell
 have HST:Hid (∀ j,dg (x*2^k) (whole+j)=(mulc x (2^part) j+dg x j*2^part) % B):=fun j=>by rw[shl_split,hwh,hpa,dg_shl,dg_mul]
 clear hx hwh hpa hcell
 go_enter Tryz.func40,Tryz.ntmps40
 go_wp2
 clear hmk
 go_loopw [5,7,8] (fun v c i wr=>∃ j:Nat,j≤n∧c=.int .u32 (mulc x (2^part) j:Nat)∧i=.int .i64 j∧wr.ownsRow w.heap.size 44 1 v (whole+j) (cells (x*2^k) (whole+j))∧Bw w wr) (fun _ _ i _=>n - (intOf i).toNat)
 case atStart=>exact⟨0,Nat.zero_le _,by rw[mulc_zero];rfl,rfl,made_row (by unfold maxLen;omega) HZ.out,(Below.refl _ _).alloc (Nat.le_refl _) _⟩
 case round =>
  obtain⟨j,hj,rfl,rfl,ho,hB⟩:=hrel
  have HO:Hid (wr.ownsRow w.heap.size 44 1 u5 (whole+j) (cells (x*2^k) (whole+j))):=ho
  have HB:Hid (Bw w wr):=hB
  have hbs:w.heap.size≤wr.heap.size:=hB.size
  obtain⟨i0,hi0,hz0,hz1,hz2⟩:=info_parts Tryz.info44
  by_cases hja:j<n
  ·have g1:=(hB.cell (World.block_lt_of_cell? _ _ (HCA.out j hja))).trans (HCA.out j hja)
   have hji:(j:Int)<(n:Int):=by omega
   have hcl:=mulc_lt (x:=x) (i:=j) (Nat.two_pow_pos part)
   have hdl:=dg_lt x j
   have hst:=HST.out j
   have hsc:=mulc_succ x (2^part) j
   have h2:=two_small hpb
   generalize hd:dg x j=d at *
   generalize hc:mulc x (2^part) j=c at *
   have h3:=mul_small hdl h2
   obtain⟨T,hT⟩:∃ T:Nat,T=c+d*2^part:=⟨_,rfl⟩
   have w1:bits .or .u64 (IntKind.u64.wrap (IntKind.u64.wrap (d:Int)*2^part)) (IntKind.u64.wrap (c:Int))=(T:Int):=by rw[hT];exact up_word hdl hpb hcl
   have HD:Hid ((T:Int) % 4294967296=(dg (x*2^k) (whole+j):Nat)∧(T:Int) / 4294967296 % 4294967296=(mulc x (2^part) (j+1):Nat)):=by
    refine⟨?_,?_⟩
    ·rw[hst,←hT];unfold B;omega
    ·rw[hsc,←hT];unfold B;omega
   clear hd hc hB hcl hdl hst hsc h2 h3 hT
   go_wp2_with (at_builtin;refine wpList_append_own _ rfl _ _ 28 rfl w.heap.size 44 i0 (.int .u32 0) 1 4 Tryz.underlying28 hi0 hz0 hz1 hz2 rfl (by decide) _ _ _ rfl (ho.alloc _) ⟨wr.heap.size,0,none⟩ 1 1 [.int .u32 ((T:Int) % 4294967296)] rfl rfl (cell_one_new _ _ _) (by intro u hu;simp at hu;subst hu;rfl) (by unfold maxLen;omega) (by omega) (by simp;omega) ?_)
   intro v' w5 hown5 hgrow _
   obtain⟨r1,r2⟩:=row_step HD.out.1 HB.out HO.out hown5 hgrow
   have HR:Hid (w5.ownsRow w.heap.size 44 1 v' (whole+(j+1)) (cells (x*2^k) (whole+(j+1)))∧Bw w w5):=⟨r1,r2⟩
   clear hown5 hgrow r1 r2 ho
   go_wp2
   exact⟨⟨j+1,by omega,by rw[HD.out.2],by simp,HR.out⟩,by simp[intOf];omega⟩
  ·obtain rfl:j=n:=by omega
   have hcl:=mulc_lt (x:=x) (i:=j) (Nat.two_pow_pos part)
   have hst:=HST.out j
   rw[dg_past (x:=x) (i:=j) (by rw[HN.out.1];omega),Nat.zero_mul,Nat.add_zero] at hst
   have h2:=two_small hpb
   have hL:dlen (x*2^k)≤whole+j+1:=by have:=shl_len (k:=k) HN.out.1;rw[HN.out.2.1] at this;exact this
   generalize hc:mulc x (2^part) j=c at *
   have HD:Hid ((c:Int)=(dg (x*2^k) (whole+j):Nat)):=(by rw[hst];unfold B;omega:(c:Int)=(dg (x*2^k) (whole+j):Nat))
   have HL:Hid (dlen (x*2^k)≤whole+j+1):=hL
   clear hc hB hcl hst h2 hL
   go_wp2_with (at_builtin;refine wpList_append_own _ rfl _ _ 28 rfl w.heap.size 44 i0 (.int .u32 0) 1 4 Tryz.underlying28 hi0 hz0 hz1 hz2 rfl (by decide) _ _ _ rfl (ho.alloc _) ⟨wr.heap.size,0,none⟩ 1 1 [.int .u32 (c:Int)] rfl rfl (cell_one_new _ _ _) (by intro u hu;simp at hu;subst hu;rfl) (by unfold maxLen;omega) (by omega) (by simp;omega) ?_)
   intro v' w5 hown5 hgrow _
   obtain⟨r1,r2⟩:=row_step HD.out HB.out HO.out hown5 hgrow
   obtain⟨ao',cap',rfl,hcp,hA⟩:=at_of_row r1
   have HR:Hid (Ir w5 (.slice ao' (dlen (x*2^k)) cap') (x*2^k)∧Bw w w5):=⟨⟨ao',cap',rfl,by have:=HL.out;omega,at_short hA HL.out⟩,r2⟩
   have k40:=r40 ao' (whole+j+1) cap' (x*2^k) w5 HL.out hcp (by omega) hA
   clear hown5 hgrow r1 r2 ho hA hcp
   go_wp2_with (first|(go_at_call 35;refine k40.mono ?_;rintro e w' ⟨rfl,rfl⟩))
   go_ret
   exact⟨_,rfl,HR.out⟩
theorem rup_0 (ao:Option Addr) (cap:Nat) (k:Int) (w:World) :
  Calls Tryz.prog 40 #[.slice ao 0 cap,.int .i64 k] w fun e w'=>e=.returned (.slice none 0 0)∧w'=w:=by
 go_enter Tryz.func40,Tryz.ntmps40
 go_wp2
 go_ret
 exact⟨rfl,rfl⟩
theorem rup {v:Value} {x:Nat} {w:World} (h:Ir w v x) (k:Nat) (hx:dlen x≤1000000000) (hk:k≤1000000000) :
  Calls Tryz.prog 40 #[v,.int .i64 k] w fun e w'=>∃ v,e=.returned v∧Ir w' v (x*2^k)∧Bw w w':=by
 obtain⟨ao,cap,rfl,h1,b,o,h3,h4⟩:=h
 by_cases h0:x=0
 ·subst h0
  rw[dlen_zero]
  refine(rup_0 ao cap k w).mono ?_
  rintro e w' ⟨rfl,rfl⟩
  exact⟨_,rfl,by rw[Nat.zero_mul];exact Ir.nil _ _ _,Below.refl _ _⟩
 ·have hl:0<dlen x:=Nat.pos_of_ne_zero fun e=>h0 (dlen_eq_zero.1 e)
  obtain rfl:=h3 hl
  exact rup_1 b o cap _ x k _ _ w hl hx hk rfl rfl rfl h4
end Go.Proofs.YtolefllepcdagaaGreat
namespace Go.Proofs.YtolefllepcdagaaGreat
open Go.RowKit Go.Fl64
theorem two_at (m:Nat) (w:World) (hm:m<18446744073709551616):At (w.alloc (Obj.cells #[Value.int IntKind.u32 ((m:Int) % 4294967296),Value.int IntKind.u32 ((m:Int) / 4294967296)] 44)) (some ⟨w.heap.size,0,none⟩) 2 m:=by
 have hM:Mk w (w.alloc (Obj.cells #[Value.int IntKind.u32 ((m:Int) % 4294967296),Value.int IntKind.u32 ((m:Int) / 4294967296)] 44)) 2 (dg m):=by
  refine⟨(Below.refl _ _).alloc (Nat.le_refl _) _,by simp,World.rowIs_alloc w _ _ _ fun i hi=>?_⟩
  match i,hi with
  | 0,_=>simp[dg,B]
  | 1,_=>simp[dg,B];omega
 exact hM.at
theorem and_2047 (x:Nat) (h:x<18446744073709551616):bits .and .u64 (x:Int) 2047=((x % 2048:Nat):Int):=by
 have e:=u64_and_nat x 2047 h (by decide)
 rw[show((2047:Nat):Int)=2047 from rfl] at e
 rw[e]
 congr 1
 have:=Nat.and_two_pow_sub_one_eq_mod x 11
 simpa using this
theorem bl_half {x:Nat} (h:x≠0):bl x=bl (x / 2)+1:=by
 have h1:=lt_bl (x / 2)
 apply bl_eq
 ·rw[Nat.pow_succ];omega
 ·refine .inr ?_
  rw[Nat.add_sub_cancel]
  by_cases h2:x / 2=0
  ·rw[h2]
   have:bl 0=0:=by unfold bl;simp
   rw[this];omega
  ·have h3:=le_bl h2
   have h4:bl (x / 2)≠0:=by unfold bl;rw[if_neg h2];omega
   obtain⟨k,hk⟩:∃ k,bl (x / 2)=k+1:=⟨bl (x / 2) - 1,by omega⟩
   rw[hk] at h3 ⊢
   rw[Nat.add_sub_cancel] at h3
   rw[Nat.pow_succ];omega
theorem r42 (b o n cap x:Nat) (w:World) (hn0:0<n) (hn:n≤1000000000) (hx:dlen x=n) (hcell:∀ i,i<n→w.cell? ⟨b,o+i,none⟩=some (.int .u32 (dg x i:Nat))) :
  Calls Tryz.prog 60 #[.slice (some ⟨b,o,none⟩) n cap] w fun e w'=>e=.returned (.int .i64 (bl x:Nat))∧w'=w:=by
 have hx0:x≠0:=by intro e;subst e;rw[dlen_zero] at hx;omega
 have hbt:=bl_top hx0
 have hlt:=dg_lt x (n - 1)
 have g:=hcell (n - 1) (by omega)
 rw[hx] at hbt
 obtain⟨k,rfl⟩:∃ k,n=k+1:=⟨n - 1,by omega⟩
 rw[Nat.add_sub_cancel] at hbt hlt g
 generalize hd:dg x k=d at *
 have HB:Hid (bl x=32*k+bl d∧d<4294967296):=⟨hbt,hlt⟩
 have hn0':(((k+1:Nat):Int)==0)=false:=by simp;omega
 clear hcell hbt hlt hx hx0 hd
 go_enter Tryz.func60,Tryz.ntmps60
 go_wp2
 go_loop [3,4] (fun c t=>∃ (j u:Nat),c=.int .i64 (32*(k:Int)+j)∧t=.int .u32 (u:Int)∧Hid (bl d=j+bl u∧u<4294967296)∧j≤32) (fun _ t=>(intOf t).toNat)
 case atStart=>exact⟨0,d,by simp,rfl,⟨by omega,HB.out.2⟩,by omega⟩
 case round =>
  obtain⟨j,u,rfl,rfl,HU,hj⟩:=hrel
  by_cases hu:u=0
  ·subst hu
   have e:bl x=32*k+j:=by
    have h1:=HU.out.1
    have:bl 0=0:=by unfold bl;simp
    rw[this] at h1
    have:=HB.out.1
    omega
   have HE:Hid (((bl x:Nat):Int)=32*(k:Int)+j):=(by rw[e];simp:((bl x:Nat):Int)=32*(k:Int)+j)
   clear e
   go_wp2
   go_ret
   rw[HE.out]
   exact⟨rfl,rfl⟩
  ·have hu0:0<(u:Int):=by omega
   have hb:=bl_half hu
   have hj':j+1≤32:=by
    have h1:=HU.out.1
    have:=bl_le32 (x:=d) HB.out.2
    omega
   have HN:Hid (bl d=(j+1)+bl (u / 2)∧u / 2<4294967296):=⟨by have:=HU.out.1;omega,by have:=HU.out.2;omega⟩
   clear hb
   go_wp2
   exact⟨⟨j+1,u / 2,by congr 1,by simp,HN,hj'⟩,by simp[intOf];omega⟩
theorem two29 {w W:World} (a b:Obj) (hW:W=(w.alloc a).alloc b):W.heap[w.heap.size]?=some a∧W.heap[w.heap.size+1]?=some b∧W.heap.size=w.heap.size+1+1∧Bw w W:=by
 subst hW
 refine⟨?_,?_,by simp,((Below.refl _ _).alloc (Nat.le_refl _) _).alloc (by simp) _⟩
 ·rw[Below.heap_alloc _ _ _ (by simp)];exact heap_alloc_new _ _
 ·have:=heap_alloc_new (w.alloc a) b
  simpa using this
def sgI (neg:Bool) (n:Nat):Int:=if n=0 then 0 else if neg then -1 else 1
end Go.Proofs.YtolefllepcdagaaGreat
namespace Go.Proofs.YtolefllepcdagaaGreat
open Go.RowKit Go.Fl64
theorem bl_le_dlen (x:Nat):bl x≤32*dlen x:=by
 have h:=(dlen_le (dlen x) x).1 (Nat.le_refl _)
 refine(bl_le x _).2 ?_
 rw[Nat.pow_mul]
 exact h
end Go.Proofs.YtolefllepcdagaaGreat
namespace Go.Proofs.YtolefllepcdagaaGreat
open Go.RowKit
theorem wpAny_inv {P:Program} {ops:Array Oper} {Q:Exit→Act→World→Prop} {md:Region.Mode} (I:Array Bool→Act→World→Prop)
  (hs:∀ listed a w i,listed.size=ops.size→I listed a w→i ∈ Region.ready md ops listed→wpOp P ops Q i (fun a' w'=>I (listed.setIfInBounds i true) a' w') a w)
  (he:∀ listed a w,listed.size=ops.size→I listed a w→Region.ready md ops listed = []→Q .normal a w) :
  ∀ (fuel:Nat) (listed:Array Bool) (a:Act) (w:World),listed.size=ops.size→I listed a w→listed.toList.count false≤fuel→wpAny P md ops Q fuel listed a w:=by
 have hcount:∀ (listed:Array Bool) i,listed.getD i true=false→i<listed.toList.length∧listed.toList[i]?=some false:=by
  intro listed i h
  by_cases hl:i<listed.size
  ·refine⟨by simpa using hl,?_⟩
   simp only[Array.getD_eq_getD_getElem?,Array.getElem?_eq_getElem hl,Option.getD_some] at h
   simp[Array.getElem?_toList,Array.getElem?_eq_getElem hl,h]
  ·simp[Array.getD_eq_getD_getElem?,Array.getElem?_eq_none (Nat.le_of_not_lt hl)] at h
 intro fuel
 induction fuel with
 | zero =>
  intro listed a w hl hI hc
  have h0:Region.ready md ops listed = []:=by
   cases hr:Region.ready md ops listed with
   | nil=>rfl
   | cons x xs =>
    have hx:=(mem_ready.1 (show x ∈ Region.ready md ops listed by rw[hr];exact List.mem_cons_self ..)).1
    have h1:=(hcount listed x hx).2
    have h2:false ∈ listed.toList:=List.mem_of_getElem? h1
    have:=List.count_pos_iff.2 h2
    omega
  exact⟨h0,he listed a w hl hI h0⟩
 | succ fuel ih =>
  intro listed a w hl hI hc
  refine⟨fun h=>he listed a w hl hI h,fun i hi=>?_⟩
  refine wpOp_mono (fun a' w' hI'=>ih _ a' w' (by simpa using hl) hI' ?_) (hs listed a w i hl hI hi)
  obtain⟨h1,h2⟩:=hcount listed i (mem_ready.1 hi).1
  have h3:listed.toList[i]=false:=by
   have:=List.getElem?_eq_getElem h1
   rw[this] at h2
   exact Option.some.inj h2
  have h4:=List.count_set (l:=listed.toList) (i:=i) (a:=true) (b:=false) h1
  have h5:0<listed.toList.count false:=List.count_pos_iff.2 (List.mem_of_getElem? h2)
  rw[Array.toList_setIfInBounds,h4,h3]
  have e1:(if(false==false)=true then 1 else 0)=1:=rfl
  have e2:(if(true==false)=true then 1 else 0)=0:=rfl
  rw[e1,e2]
  omega
theorem not_listed {listed:Array Bool} {i:Nat} (h:listed.getD i true=false):listed.getD i false=false:=by
 by_cases hl:i<listed.size
 ·simp only[Array.getD_eq_getD_getElem?,Array.getElem?_eq_getElem hl,Option.getD_some] at h ⊢
  exact h
 ·simp[Array.getD_eq_getD_getElem?,Array.getElem?_eq_none (Nat.le_of_not_lt hl)]
theorem listed_set {listed:Array Bool} {i:Nat} (h:i<listed.size):(listed.setIfInBounds i true).getD i false=true:=by
 simp[Array.getD_eq_getD_getElem?,h]
theorem put_get_ne {a:Act} {d s:Tmp} {v:Value} (h:s≠d):(a.put (some d) v).tmps[s]?=a.tmps[s]?:=by
 simp[Act.put,Array.getElem?_setIfInBounds,Ne.symm h]
theorem put_get {a:Act} {d:Tmp} {v:Value} (h:d<a.tmps.size):(a.put (some d) v).tmps[d]?=some v:=by
 simp[Act.put,Array.getElem?_setIfInBounds,h]
theorem put_size {a:Act} {d:Option Tmp} {v:Value}:(a.put d v).tmps.size=a.tmps.size:=by
 cases d <;> simp[Act.put]
theorem put_defers {a:Act} {d:Option Tmp} {v:Value}:(a.put d v).defers=a.defers:=by
 cases d <;> simp[Act.put]
theorem eval_get {a:Act} {s:Tmp} {v:Value} (h:a.tmps[s]?=some v):a.eval (.tmp s)=v:=by
 simp[Act.eval,Array.getD_eq_getD_getElem?,h]
theorem step_wanted {P:Program} {ops:Array Oper} {Q:Exit→Act→World→Prop} {i:Nat} {o:Oper} {K:Act→World→Prop} {a:Act} {w:World}
  (hi:ops[i]?=some o) (hg:o.guard=none) (h:o.wp P a w K Q):wpOp P ops Q i K a w:=by
 unfold wpOp
 simp only[hi]
 rw[if_pos (by simp[Region.wanted,hg])]
 exact .inl h
theorem step_call {P:Program} {ops:Array Oper} {Q:Exit→Act→World→Prop} {i:Nat} {o:Oper} {K:Act→World→Prop} {a:Act} {w:World}
  (hi:ops[i]?=some o) (hg:o.guard=none) {f:FuncId} {args:Array Operand} {ts:Array TypeId} (hop:o.op=.call { callee:=.value (.func f),args:=args,argTypes:=ts }) {vs:Array Value}
  (hc:∀ vs w,(callFunc f vs).run P w=.ok (.enter f vs) w) (hv:args.map a.eval=vs) (h:Calls P f vs w fun r w'=>∃ v,r=.returned v∧K (a.put o.dst v) w'):wpOp P ops Q i K a w:=by
 refine step_wanted hi hg ?_
 unfold Oper.wp
 have e:(execOp a.eval o).run P w=.ok (.enter f vs) w:=by
  simp[execOp,hop,resolve,Deferred.ofValue,Act.eval,invoke,hv,hc]
 rw[e,Oper.upon_enter]
 refine h.mono ?_
 rintro r w' ⟨v,rfl,hk⟩
 exact hk
theorem enters {P : Program} {f : FuncId} {fn : Func} (hf : P.funcs[f]? = some fn) (hname : (fn.name == "runtime.NumGoroutine") = false) (hb : fn.body.isNone = false) (vs : Array Value) (w : World) :
  (callFunc f vs).run P w=.ok (.enter f vs) w:=by
 have h1 : ¬ fn.name = "runtime.NumGoroutine" := by simpa using hname
 have h2:¬ fn.body=none:=by intro e;rw[e] at hb;simp at hb
 simp[callFunc,hf,h1,h2]
theorem step_alloc {P:Program} {ops:Array Oper} {Q:Exit→Act→World→Prop} {i:Nat} {o:Oper} {K:Act→World→Prop} {a:Act} {w:World}
  (hi:ops[i]?=some o) (hg:o.guard=none) {ty:TypeId} (hop:o.op=.alloc ty) {zs:Array Value} (hz:∀ w,(zeroValue ty).run P w=.ok (.agg zs) w)
  (h:K (a.put o.dst (.pointer (some ⟨w.heap.size,0,none⟩))) (w.alloc (.cells zs ty))):wpOp P ops Q i K a w:=by
 refine step_wanted hi hg ?_
 unfold Oper.wp
 simp[execOp,hop,Instr.alloc,hz,newVar,newRow,newObj,Value.cells,Result.andThen,Oper.upon]
 exact h
theorem step_store {P:Program} {ops:Array Oper} {Q:Exit→Act→World→Prop} {i:Nat} {o:Oper} {K:Act→World→Prop} {a:Act} {w:World}
  (hi:ops[i]?=some o) (hg:o.guard=none) {ty:TypeId} {s v:Tmp} (hop:o.op=.store ty (.tmp s) (.tmp v)) {g:Nat} {old cs:Array Value}
  (hs:a.tmps[s]?=some (.pointer (some ⟨g,0,none⟩))) (hv:a.tmps[v]?=some (.agg cs)) (hb:w.heap[g]?=some (.cells old ty (0,0))) (hn:(P.info? ty).map (·.size)=some cs.size) (ho:old.size=cs.size) (h1:cs.all (·.oneCell')=true)
  (h:K (a.put o.dst undef) (w.setRow g cs)):wpOp P ops Q i K a w:=by
 refine step_wanted hi hg ?_
 unfold Oper.wp
 simp[execOp,hop,eval_get hs,eval_get hv,Instr.storeAt,Instr.sureAddr,run_storeVar_row w g ty ty old cs hb hn ho h1,Result.andThen,Oper.upon,h]
theorem one3 {a b:Value} {ao:Option Addr} {n cap:Nat} (ha:a.oneCell'=true) (hb:b.oneCell'=true):(#[a,.slice ao n cap,b]:Array Value).all (·.oneCell')=true:=by
 have hc:(Value.slice ao n cap).oneCell'=true:=rfl
 simp only[List.all_toArray,List.all_cons,List.all_nil,ha,hb,hc,Bool.and_self]
theorem below_row {B:Nat} {w w':World} (h:Below B w w') {g:Nat} (hg:B≤g) (cs:Array Value):Below B w (w'.setRow g cs) :=
 ⟨h.os,h.tape,h.output,by simpa using h.size,fun j hj=>(setRow_other w' g j cs (by omega)).trans (h.block j hj)⟩
theorem setCell_block {w:World} {g k:Nat} (i:Nat) (v:Value) (h:k≠g):(w.setCell ⟨g,i,none⟩ v).heap[k]?=w.heap[k]?:=by
 simp[World.setCell,Array.getElem?_modify,Ne.symm h]
def Dn (w:World) (base:Nat) (v:Value) (n z:Nat):Prop :=
 (v=.slice none 0 0∧n=0)∨∃ g cap c,v=.slice (some ⟨g,0,none⟩) n cap∧base≤g∧(n≤cap∧cap≤9223372036854775807)∧w.heap[g]?=some (.cells c 44 (0,0))∧c.size=cap∧∀ i,i<n→c[i]?=some (.int .u32 (dg z i:Nat))
structure Arg (w:World) (ao:Option Addr) (n cap z:Nat):Prop where
 nil:n=0→(∃ ad,ao=some ad)∨(ao=none∧cap=0)
 at_:At w ao n z
 le:n≤cap
 small:n≤35184372088832
theorem Arg.later {w w':World} {ao:Option Addr} {n cap z:Nat} (h:Arg w ao n cap z) (hb:Bw w w'):Arg w' ao n cap z:=⟨h.nil,h.at_.later hb,h.le,h.small⟩
theorem Dn.mono {w:World} {base base':Nat} {v:Value} {n z:Nat} (h:Dn w base v n z) (hb:base'≤base):Dn w base' v n z:=by
 rcases h with h|⟨g,cap,c,h0,h1,h2⟩
 ·exact .inl h
 ·exact .inr ⟨g,cap,c,h0,by omega,h2⟩
end Go.Proofs.YtolefllepcdagaaGreat
namespace Go.Proofs.YtolefllepcdagaaGreat
open Go.RowKit Go.Fl64
end Go.Proofs.YtolefllepcdagaaGreat
namespace Go.Proofs.YtolefllepcdagaaGreat
open Go.RowKit
def cn (s:Bool) (z:Nat) (e:Int):Bool×Nat×Int:=if z=0 then(false,0,0) else(s,z / 2^tz z,e+tz z)
end Go.Proofs.YtolefllepcdagaaGreat
namespace Go.Proofs.YtolefllepcdagaaGreat
open Go.RowKit Go.Fl64
end Go.Proofs.YtolefllepcdagaaGreat
namespace Go.Proofs.YtolefllepcdagaaGreat
open Go.RowKit
def putL (a:Act) (l:List (Tmp×Value)):Act:=l.foldl (fun a p=>a.put (some p.1) p.2) a
theorem putL_defers (l:List (Tmp×Value)):∀ a:Act,(putL a l).defers=a.defers:=by
 induction l with
 | nil=>intro a;rfl
 | cons p r ih=>intro a;show(putL (a.put (some p.1) p.2) r).defers=_;rw[ih,put_defers]
theorem putL_other {s:Tmp} (l:List (Tmp×Value)):∀ a:Act,s ∉ l.map (·.1)→(putL a l).tmps[s]?=a.tmps[s]?:=by
 induction l with
 | nil=>intro a _;rfl
 | cons p r ih =>
  intro a h
  simp only[List.map_cons,List.mem_cons,not_or] at h
  show(putL (a.put (some p.1) p.2) r).tmps[s]?=_
  rw[ih _ h.2,put_get_ne h.1]
theorem putL_mem {s:Tmp} {v:Value} (l:List (Tmp×Value)):∀ a:Act,(s,v) ∈ l→(l.map (·.1)).Nodup→s<a.tmps.size→(putL a l).tmps[s]?=some v:=by
 induction l with
 | nil=>intro a h;cases h
 | cons p r ih =>
  intro a h hn hs
  simp only[List.map_cons,List.nodup_cons] at hn
  show(putL (a.put (some p.1) p.2) r).tmps[s]?=_
  rcases List.mem_cons.1 h with h|h
  ·subst h
   rw[putL_other _ _ hn.1,put_get hs]
  ·exact ih _ h hn.2 (by rw[put_size];exact hs)
theorem act_putL {a a0:Act} {l:List (Tmp×Value)} (hn:(l.map (·.1)).Nodup) (hs:a.tmps.size=a0.tmps.size) (hd:a.defers=a0.defers) (hl:∀ p ∈ l,a.tmps[p.1]?=some p.2) (ho:∀ s,s ∉ l.map (·.1)→a.tmps[s]?=a0.tmps[s]?):a=putL a0 l:=by
 have ht:a.tmps=(putL a0 l).tmps:=by
  refine Array.ext_getElem? fun s=>?_
  by_cases h:s ∈ l.map (·.1)
  ·obtain⟨p,hp,rfl⟩:=List.mem_map.1 h
   have h1:=hl p hp
   rw[h1,putL_mem l a0 hp hn (by rw[←hs];exact(Array.getElem?_eq_some_iff.1 h1).1)]
  ·rw[putL_other l a0 h];exact ho s h
 have hd':a.defers=(putL a0 l).defers:=by rw[putL_defers];exact hd
 cases a with
 | mk t d =>
  cases hp:putL a0 l with
  | mk t' d' =>
   rw[hp] at ht hd'
   simp only at ht hd'
   rw[ht,hd']
theorem follows_mixed:Tryz.prog.follows .mixedOrders=true:=by kernel_rfl
end Go.Proofs.YtolefllepcdagaaGreat
