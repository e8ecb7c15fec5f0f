/- Own work: contracts of the program's functions, part 5: R2 R3 W38 W39 W40 W34 W28 W29 W35 W41. -/
import Derived.Test.YtgdhdailchonmabGreatDoorA4
import Derived.Deep.RegionHeld3
import Derived.Laws.AppendOwnNone
import Derived.Lib.SliceRun
import Derived.Laws.IdiomStrings
import Derived.Deep.CutRange

set_option maxHeartbeats 16000000
set_option maxRecDepth 200000
set_option linter.unusedVariables false
set_option linter.unusedSimpArgs false
namespace Go.Proofs.YtgdhdailchonmabGreatDoor
open Go.RowKit
theorem cells_succ (x n:Nat):cells x (n+1)=cells x n ++ [.int .u32 (dg x n:Nat)]:=by
 simp[cells,List.range_succ]
theorem at_of_row {w:World} {base:Nat} {v:Value} {y n:Nat} (h:w.ownsRow base 56 1 v n (cells y n)) :
  ∃ ao cap,v=.slice ao n cap∧n≤cap∧At w ao n y:=by
 rcases h.2 with ⟨hv,h0⟩|⟨g,cap,c,hv,hb,hc,h1,h2,h3,h4⟩
 ·exact⟨none,0,by rw[hv,h0],by omega,0,0,fun h=>by omega,fun i hi=>by omega⟩
 ·refine⟨_,cap,hv,h1,g,0,fun _=>rfl,fun i hi=>?_⟩
  have h5:(cells y n)[i]?=c[i]?:=by
   rw[←h4,Nat.mul_one,List.getElem?_take,if_pos hi,Array.getElem?_toList]
  rw[cells_get hi] at h5
  rw[Nat.zero_add]
  simp[World.cell?,hc,←h5]
theorem at_short {w:World} {ao:Option Addr} {n m y:Nat} (h:At w ao n y) (hm:m≤n):At w ao m y:=by
 obtain⟨b,o,h1,h2⟩:=h
 exact⟨b,o,fun h=>h1 (by omega),fun i hi=>h2 i (by omega)⟩
theorem r64_round {x k whole j m:Nat} {w wr w':World} {q:Int} {v v':Value} (hq:q=(dg (x / 2^k) j:Nat)) (hj:j<m) (hB:Bw w wr) (ho:wr.ownsRow w.heap.size 56 1 v j (cells (x / 2^k) j))
  (ho':w'.ownsRow w.heap.size 56 1 v' (j+1) (cells (x / 2^k) j ++ [.int .u32 q])) (hg:(wr.alloc (.cells #[.int .u32 q] 56)).grownBy w' v.ownBlock) :
  (∃ j_1:Nat,j_1≤m∧Value.int .i64 ((whole:Int)+j+1)=Value.int .i64 ((whole:Int)+j_1)∧w'.ownsRow w.heap.size 56 1 v' j_1 (cells (x / 2^k) j_1)∧Bw w w') ∧
  m - (intOf (Value.int .i64 ((whole:Int)+j+1)) - whole).toNat<m - (intOf (Value.int .i64 ((whole:Int)+j)) - whole).toNat:=by
 refine⟨⟨j+1,by omega,by simp[Int.add_assoc],by rw[cells_succ,←hq];exact ho',?_⟩,by simp[intOf];omega⟩
 exact(hB.alloc hB.size _).grown hg (by simp;have:=hB.size;omega) (fun k hk=>(ho.lt k hk).1)
theorem r64_1 (b o cap m whole part x k:Nat) (w:World) (hm0:0<m) (hm:m≤17592186044416) (hk:k≤1099511627776) (hcap:whole+m≤cap) (hwh:k / 32=whole) (hpa:k % 32=part)
  (hn:dlen x=whole+m) (hcell:∀ i,i<whole+m→w.cell? ⟨b,o+i,none⟩=some (.int .u32 (dg x i:Nat))) :
  Calls Tryz.prog 54 #[.slice (some ⟨b,o,none⟩) (whole+m:Nat) cap,.int .i64 k] w fun e w'=>∃ ao cap' bb,e=.returned (.tuple #[.slice ao (dlen (x / 2^k)) cap',.bool bb])∧At w' ao (dlen (x / 2^k)) (x / 2^k)∧dlen (x / 2^k)≤cap'∧Bw w w':=by
 have hq:(k:Int).tdiv 32=((k / 32:Nat):Int):=by rw[Int.tdiv_eq_ediv_of_nonneg (by omega)];rfl
 have hr:(k:Int).tmod 32=((k % 32:Nat):Int):=by rw[Int.tmod_eq_emod_of_nonneg (by omega)];rfl
 have hwb:whole≤1099511627776:=by omega
 have hpb:part<32:=by omega
 rw[hwh] at hq
 rw[hpa] at hr
 have HN:Hid (dlen x=whole+m):=hn
 have HW:Hid (k / 32=whole):=hwh
 have HP:Hid (k % 32=part):=hpa
 clear hn hwh hpa
 have hmi:(whole:Int)<((whole+m:Nat):Int):=by omega
 go_enter Tryz.func54,Tryz.ntmps54
 go_wp2
 go_loop [6,7] (fun a v=>∃ (bb:Bool) (i:Nat),a=.bool bb∧v=.int .i64 (i:Int)∧i≤whole) (fun _ v=>whole - (intOf v).toNat)
 case atStart=>exact⟨true,0,rfl,rfl,Nat.zero_le _⟩
 case round =>
  obtain⟨bb,i,rfl,rfl,hi⟩:=hrel
  by_cases hiw:i<whole
  ·have g1:=hcell i (by omega)
   generalize dg x i=d at *
   have hii:(i:Int)<(whole:Int):=by omega
   clear hcell
   cases bb
   ·go_wp2
    exact⟨⟨_,i+1,rfl,by simp,by omega⟩,by simp[intOf];omega⟩
   ·go_wp2
    exact⟨⟨_,i+1,rfl,by simp,by omega⟩,by simp[intOf];omega⟩
  ·obtain rfl:i=whole:=by omega
   clear hiw hi
   have HC:Hid (∀ i_1:Nat,i_1<i+m→w.cell? { block:=b,off:=o+i_1 }=some (Value.int IntKind.u32 ↑(dg x i_1))):=hcell
   go_wp2_with fail
   all_goals
    clear hq hmi hr hcell
    go_loopw [9,10] (fun v c wr=>∃ j:Nat,j≤m∧c=.int .i64 ((i:Int)+j)∧wr.ownsRow w.heap.size 56 1 v j (cells (x / 2^k) j)∧Bw w wr) (fun _ c _=>m - (intOf c - i).toNat)
    case atStart=>exact⟨0,Nat.zero_le _,by simp,World.ownsRow_nil ..,Below.refl _ _⟩
    case round =>
     obtain⟨j,hj,rfl,ho,hB⟩:=hrel
     have HO:Hid (wr.ownsRow w.heap.size 56 1 u9 j (cells (x / 2^k) j)):=ho
     have HB:Hid (Bw w wr):=hB
     have hbs:w.heap.size≤wr.heap.size:=hB.size
     by_cases hjn:j+1<m
     ·have g1:=(hB.cell (World.block_lt_of_cell? _ _ (HC.out (i+j) (by omega)))).trans (HC.out (i+j) (by omega))
      have g4:=(hB.cell (World.block_lt_of_cell? _ _ (HC.out (i+j+1) (by omega)))).trans (HC.out (i+j+1) (by omega))
      have hji:(j:Int)+1<(m:Int):=by omega
      generalize hd:dg x (i+j)=d at *
      generalize hd1:dg x (i+j+1)=d1 at *
      have HD:Hid (dg x (i+j)=d):=hd
      have HD1:Hid (dg x (i+(j+1))=d1):=hd1
      have HL:Hid (d<B∧d1<B):=⟨hd ▸ dg_lt _ _,hd1 ▸ dg_lt _ _⟩
      clear hd hd1 hB
      obtain⟨i0,hi0,hz0,hz1,hz2⟩:=info_parts Tryz.info56
      go_wp2_with (at_builtin;refine wpList_append_own _ rfl _ _ 28 rfl w.heap.size 56 i0 (.int .u32 0) 1 4 Tryz.underlying28 hi0 hz0 hz1 hz2 rfl (by decide) _ _ _ rfl (ho.alloc _) ⟨wr.heap.size,0,none⟩ 1 1 [.int .u32 (bits BinOp.or IntKind.u64 (IntKind.u64.wrap (d:Int)) (IntKind.u64.wrap (IntKind.u64.wrap (d1:Int)*4294967296)) / 2^part % 4294967296)] rfl rfl (cell_one_new _ _ _) (by intro u hu;simp at hu;subst hu;rfl) (by unfold maxLen;omega) (by omega) (by simp;omega) ?_)
      intro v' w4 hown4 hgrow _
      go_wp2
      exact r64_round (by rw[shr_word2 HL.out.1 HL.out.2,shr_digit HW.out HP.out,HD.out,HD1.out]) (by omega) HB.out HO.out hown4 hgrow
     ·by_cases hjm:j<m
      ·have g1:=(hB.cell (World.block_lt_of_cell? _ _ (HC.out (i+j) (by omega)))).trans (HC.out (i+j) (by omega))
       have hji:¬ (j:Int)+1<(m:Int):=by omega
       have hji2:(j:Int)<(m:Int):=by omega
       generalize hd:dg x (i+j)=d at *
       have HD:Hid (dg x (i+j)=d):=hd
       have HL:Hid (d<B):=hd ▸ dg_lt _ _
       have HZ:Hid (dg x (i+(j+1))=0):=dg_past (by rw[HN.out];omega)
       clear hd hB
       obtain⟨i0,hi0,hz0,hz1,hz2⟩:=info_parts Tryz.info56
       go_wp2_with (at_builtin;refine wpList_append_own _ rfl _ _ 28 rfl w.heap.size 56 i0 (.int .u32 0) 1 4 Tryz.underlying28 hi0 hz0 hz1 hz2 rfl (by decide) _ _ _ rfl (ho.alloc _) ⟨wr.heap.size,0,none⟩ 1 1 [.int .u32 (IntKind.u64.wrap (d:Int) / 2^part % 4294967296)] rfl rfl (cell_one_new _ _ _) (by intro u hu;simp at hu;subst hu;rfl) (by unfold maxLen;omega) (by omega) (by simp;omega) ?_)
       intro v' w4 hown4 hgrow _
       go_wp2
       exact r64_round (by rw[shr_word1 HL.out,shr_digit HW.out HP.out,HD.out,HZ.out,Nat.zero_mul,Nat.add_zero]) (by omega) HB.out HO.out hown4 hgrow
      ·obtain rfl:j=m:=by omega
       have hL:=shr_len (k:=k) (m:=j) (by rw[HW.out];exact HN.out)
       obtain⟨ao',cap',rfl,hc',hA⟩:=at_of_row ho
       have HA:Hid (At wr ao' (dlen (x / 2^k)) (x / 2^k)∧dlen (x / 2^k)≤cap'):=⟨at_short hA hL,by omega⟩
       have k40:=r40 ao' j cap' (x / 2^k) wr hL hc' (by omega) hA
       clear hB ho hA
       go_wp2_with (first|(go_at_call 53;refine k40.mono ?_;rintro e w' ⟨rfl,rfl⟩))
       refine bodyPost_ret (results_tmp2 rfl _ _ _) rfl ?_
       exact⟨_,_,_,rfl,HA.out.1,HA.out.2,HB.out⟩
theorem Tryz.info30:(Tryz.prog.info? 30).map (·.size)=some 3:=by kernel_rfl
theorem r64 {ao:Option Addr} {n cap x:Nat} {w:World} (hn:dlen x=n) (hc:n≤cap) (h:At w ao n x) (k:Nat) (hx:dlen x≤17592186044416) (hk:k / 32<dlen x) (hk2:k≤1099511627776) :
  Calls Tryz.prog 54 #[.slice ao n cap,.int .i64 k] w fun e w'=>∃ ao cap' bb,e=.returned (.tuple #[.slice ao (dlen (x / 2^k)) cap',.bool bb])∧At w' ao (dlen (x / 2^k)) (x / 2^k)∧dlen (x / 2^k)≤cap'∧Bw w w':=by
 obtain⟨b,o,hb,hcell⟩:=h
 subst hn
 obtain rfl:=hb (by omega)
 obtain⟨m,hm⟩:∃ m,dlen x=k / 32+m:=⟨dlen x - k / 32,by omega⟩
 rw[hm] at hcell hc ⊢
 exact r64_1 b o cap m _ _ x k w (by omega) (by omega) hk2 hc rfl rfl hm hcell
theorem store3_29 {w:World} {g:Nat} {a b c:Value} (a' b' c':Value) (h:w.heap[g]?=some (.cells #[a,b,c] 30 (0,0))) :
  (((w.setCell ⟨g,0,none⟩ a').setCell ⟨g,1,none⟩ b').setCell ⟨g,2,none⟩ c').heap[g]?=some (.cells #[a',b',c'] 30 (0,0)):=by
 simp[World.setCell,Array.getElem?_modify,h]
theorem box_cells29 {w:World} {g:Nat} {a b c:Value} (h:w.heap[g]?=some (.cells #[a,b,c] 30 (0,0))) :
  (w.cell? ⟨g,0,none⟩=some a∧w.cell? ⟨g,1,none⟩=some b∧w.cell? ⟨g,2,none⟩=some c)∧(w.frozen? ⟨g,0,none⟩=false∧w.frozen? ⟨g,1,none⟩=false∧w.frozen? ⟨g,2,none⟩=false):=by
 simp[World.cell?,World.frozen?,h]
theorem r34_0 (neg:Bool) (ao:Option Addr) (n cap:Nat) (e:Int) (w:World) (h:At w ao n 0) (hn:n≤cap) (hc:n≤70368744177664) :
  Calls Tryz.prog 22 #[.bool neg,.slice ao n cap,.int .i64 e] w fun e w'=>e=.returned (.agg #[.bool false,.slice none 0 0,.int .i64 0])∧Bw w w':=by
 have HB:Hid (Below w.heap.size w (w.alloc (.cells #[.bool false,.slice none 0 0,.int .i64 0] 30))):=(Below.refl _ _).alloc (Nat.le_refl _) _
 have k:=r40 ao n cap 0 (w.alloc (.cells #[.bool false,.slice none 0 0,.int .i64 0] 30)) (by rw[dlen_zero];omega) hn hc (h.later HB.out)
 rw[dlen_zero] at k
 clear h
 go_enter Tryz.func22,Tryz.ntmps22
 go_wp2_with fail
 refine k.mono ?_
 rintro e w1 ⟨rfl,rfl⟩
 go_wp2
 refine bodyPost_ret (results_cell_row rfl _ _ w.heap.size 30 #[.bool false,.slice none 0 0,.int .i64 0] (0,0) _ rfl (heap_alloc_new _ _) Tryz.underlying30 rfl Tryz.info30) rfl ?_
 exact⟨rfl,HB.out⟩
theorem and_one32 (a:Nat) (h:a<4294967296):bits .and .u32 (a:Int) 1=((a % 2:Nat):Int):=by
 have e:=u32_and_nat a 1 h (by decide)
 rw[show((1:Nat):Int)=1 from rfl] at e
 rw[e,Nat.and_one_is_mod]
theorem bit_tz {x t i p d T : Nat} (hT : tz x = T) (hx : x ≠ 0) (ht : t ≤ T) (h : t / 32 = i ∧ t % 32 = p ∧ dg x i = d) : (bits BinOp.and IntKind.u32 ((d : Int) / 2 ^ p) 1 == 0) = decide (t < T) := by
  obtain ⟨rfl, rfl, rfl⟩ := h
  subst hT
  have hl := dg_lt x (t / 32)
  have e1 : ((dg x (t / 32) : Nat) : Int) / 2 ^ (t % 32) = ((dg x (t / 32) / 2 ^ (t % 32) : Nat) : Int) := by simp
  have hl2 : dg x (t / 32) / 2 ^ (t % 32) < 4294967296 := Nat.lt_of_le_of_lt (Nat.div_le_self ..) hl
  rw [e1, and_one32 _ hl2]
  have e2 : dg x (t / 32) / 2 ^ (t % 32) % 2 = x / 2 ^ t % 2 := by
    unfold dg
    rw [two_split (k := t), ← Nat.div_div_eq_div_mul]
    generalize x / B ^ (t / 32) = y
    have hp : t % 32 < 32 := Nat.mod_lt _ (by omega)
    generalize t % 32 = p at *
    have e3 : B = 2 ^ p * 2 ^ (32 - p) := by rw [← Nat.pow_add]; unfold B; have : p + (32 - p) = 32 := by omega
                                             rw [this]
    have e4 : 2 ^ (32 - p) = 2 * 2 ^ (31 - p) := by have : 32 - p = (31 - p) + 1 := by omega
                                                    rw [this, Nat.pow_succ, Nat.mul_comm]
    rw [e3, Nat.mod_mul_right_div_self, e4, Nat.mod_mul_right_mod]
  rw [e2]
  obtain ⟨h1, h2⟩ := tz_spec _ x (Nat.le_refl _) hx
  by_cases ht2 : t < tz x
  · have e5 : x / 2 ^ t % 2 = 0 := by
      obtain ⟨k, hk⟩ : ∃ k, tz x = t + (k + 1) := ⟨tz x - t - 1, by omega⟩
      rw [← h1]
      generalize x / 2 ^ tz x = y
      rw [hk, Nat.pow_add, Nat.mul_assoc, Nat.mul_div_cancel_left _ (Nat.two_pow_pos t), Nat.pow_succ, Nat.mul_comm (2 ^ k) 2, Nat.mul_assoc, Nat.mul_mod_right]
    rw [e5]; simp [ht2]
  · have : t = tz x := by omega
    subst this
    rw [h2]; simp
theorem own_of_row {w:World} {base n x:Nat} {v:Value} (h:w.ownsRow base 56 1 v n (cells x n)) (hn:dlen x=n):Own w base v x:=by
 rcases h.2 with ⟨rfl,h0⟩|⟨g,cap,c,rfl,hb,hc,h1,h2,h3,h4⟩
 ·exact .inl ⟨rfl,dlen_eq_zero.1 (by omega)⟩
 ·refine .inr ⟨g,cap,fun i=>c.getD i undef,by rw[hn],hb,by omega,by unfold maxLen at h2;omega,⟨c,hc,by omega,fun i hi=>?_⟩,fun i hi=>?_⟩
  ·have:i<c.size:=by omega
   simp[Array.getD_eq_getD_getElem?,Array.getElem?_eq_getElem this]
  ·have h5:(cells x n)[i]?=c[i]?:=by
    rw[←h4,Nat.mul_one,List.getElem?_take,if_pos (by omega),Array.getElem?_toList]
   rw[cells_get (by omega)] at h5
   simp[Array.getD_eq_getD_getElem?,←h5]
theorem own_row {w:World} {base g x:Nat} {v:Value} (h:Own w base v x) (hg:g<base) (cs:Array Value):Own (w.setRow g cs) base v x:=by
 rcases h with h|⟨g',cap,f,h0,h1,h2,h3,h4,h5⟩
 ·exact .inl h
 ·exact .inr ⟨g',cap,f,h0,h1,h2,h3,h4.of_block (setRow_other w g g' cs (by omega)),h5⟩
theorem clone_1 (b o n cap x:Nat) (w:World) (hn0:0<n) (hn:n≤1000000000) (hx:dlen x=n) (hcell:∀ i,i<n→w.cell? ⟨b,o+i,none⟩=some (.int .u32 (dg x i:Nat))) :
  Calls Tryz.prog 102 #[.slice (some ⟨b,o,none⟩) n cap] w fun r w'=>∃ v,r=.returned v∧Own w' w.heap.size v x∧Bw w w':=by
 have HX:Hid (dlen x=n):=hx
 have hnil:=Lib.run_eql_slice_nil (P:=Tryz.prog) w 28 56 (some ⟨b,o,none⟩) n cap 0 0 Tryz.underlying28
 have HN:Hid (∀ j u,(cells x n)[j]?=some u→(w.alloc (Obj.cells #[] 56)).cell? ((⟨b,o,none⟩:Addr).add j)=some u):=fun j u hj=>by
  have hjl:j<n:=by
   have:=(List.getElem?_eq_some_iff.1 hj).1
   rwa [cells_length] at this
  rw[cells_get hjl] at hj
  have hcl:=hcell j hjl
  rw[show(⟨b,o,none⟩:Addr).add j=⟨b,o+j,none⟩ by simp[Addr.add]]
  rw[World.cell?_alloc_old _ _ _ (by have:=World.block_lt_of_cell? _ _ hcl;show b≠w.heap.size;simp at this;omega)]
  rw[←hj];exact hcl
 have hOM:(w.alloc (Obj.cells #[] 56)).ownsRow w.heap.size 56 1 (.slice (some ⟨w.heap.size,0,none⟩) 0 0) 0 []:=⟨rfl,.inr ⟨w.heap.size,0,#[],rfl,Nat.le_refl _,heap_alloc_new _ _,Nat.le_refl _,by unfold maxLen;omega,rfl,rfl⟩⟩
 obtain⟨i0,hi0,hz0,hz1,hz2⟩:=info_parts Tryz.info56
 clear hx hcell
 go_enter Tryz.func102,Tryz.ntmps102
 go_wp2_with (at_builtin;refine wpList_append_own _ rfl _ _ 28 rfl w.heap.size 56 i0 (.int .u32 0) 1 4 Tryz.underlying28 hi0 hz0 hz1 hz2 rfl (by decide) _ 0 [] rfl hOM ⟨b,o,none⟩ n cap (cells x n) rfl (by rw[cells_length,Nat.mul_one]) HN.out (by intro u hu;simp[cells] at hu;obtain⟨j,-,rfl⟩:=hu;rfl) (by unfold maxLen;omega) (by omega) (by simp) ?_)
 intro v' w2 hown hgrow _
 have HG:Hid (Bw w w2∧w2.ownsRow w.heap.size 56 1 v' n (cells x n)):=⟨Below.grown ((Below.refl w.heap.size w).alloc (Nat.le_refl _) _) hgrow (by simp) (fun k hk=>by simp[Value.ownBlock] at hk;omega),hown⟩
 clear hown hgrow hnil HN hOM hi0 hz0 hz1 hz2
 go_wp2
 go_ret
 exact⟨v',rfl,own_of_row HG.out.2 HX.out,HG.out.1⟩
theorem clone_nil (cap:Nat) (w:World) :
  Calls Tryz.prog 102 #[.slice none 0 cap] w fun r w'=>r=.returned (.slice none 0 0)∧w'=w:=by
 have hnil:=Lib.run_eql_slice_nil (P:=Tryz.prog) w 28 56 none 0 cap 0 0 Tryz.underlying28
 go_enter Tryz.func102,Tryz.ntmps102
 go_wp2
 go_ret
 exact⟨rfl,rfl⟩
theorem clone_0 (ad:Addr) (cap:Nat) (w:World) :
  Calls Tryz.prog 102 #[.slice (some ad) 0 cap] w fun r w'=>∃ v,r=.returned v∧Own w' w.heap.size v 0∧Bw w w':=by
 have hnil:=Lib.run_eql_slice_nil (P:=Tryz.prog) w 28 56 (some ad) 0 cap 0 0 Tryz.underlying28
 have HG:Hid (Below w.heap.size w (w.alloc (Obj.cells #[] 56))∧(w.alloc (Obj.cells #[] 56)).heap[w.heap.size]?=some (.cells #[] 56 (0,0))):=⟨(Below.refl _ _).alloc (Nat.le_refl _) _,heap_alloc_new _ _⟩
 go_enter Tryz.func102,Tryz.ntmps102
 go_wp2
 go_ret
 refine⟨.slice (some ⟨w.heap.size,0,none⟩) 0 0,rfl,.inr ⟨w.heap.size,0,fun _=>undef,by rw[dlen_zero],Nat.le_refl _,by rw[dlen_zero];omega,by omega,⟨#[],HG.out.2,rfl,fun i hi=>by omega⟩,fun i hi=>by rw[dlen_zero] at hi;omega⟩,HG.out.1⟩
theorem clone_ok {v:Value} {x:Nat} {w:World} (h:Is w v x) (hx:dlen x≤1000000000) :
  Calls Tryz.prog 102 #[v] w fun r w'=>∃ v,r=.returned v∧Own w' w.heap.size v x∧Bw w w':=by
 obtain⟨ao,cap,rfl,h1,h2,h3⟩:=h
 by_cases h0:x=0
 ·subst h0
  rw[dlen_zero]
  cases ao with
  | none =>
   refine(clone_nil cap w).mono ?_
   rintro r w' ⟨rfl,rfl⟩
   exact⟨_,rfl,.inl ⟨rfl,rfl⟩,Below.refl _ _⟩
  | some ad=>exact clone_0 ad cap w
 ·have hl:0<dlen x:=Nat.pos_of_ne_zero fun e=>h0 (dlen_eq_zero.1 e)
  obtain⟨b,o,g1,g2⟩:=h3
  obtain rfl:=g1 hl
  exact clone_1 b o _ cap x w hl hx rfl g2
theorem neg_t (ua:Option Addr) (un uc x:Nat) (ea:Int) (w:World) (h1:Is w (.slice ua un uc) x) (hx:dlen x≤1000000) :
  Calls Tryz.prog 77 #[.agg #[.bool true,.slice ua un uc,.int .i64 ea]] w fun r w'=>∃ v,r=.returned (.agg #[.bool false,v,.int .i64 ea])∧Own w' w.heap.size v x∧Bw w w':=by
 obtain⟨W,hW⟩:∃ W,W=(w.alloc (.cells #[.bool true,.slice ua un uc,.int .i64 ea] 47)).alloc (.cells #[.bool false,.slice none 0 0,.int .i64 0] 47):=⟨_,rfl⟩
 have hBW:Bw w W:=by rw[hW];exact((Below.refl _ _).alloc (Nat.le_refl _) _).alloc (by simp) _
 have hbA:W.heap[w.heap.size]?=some (.cells #[.bool true,.slice ua un uc,.int .i64 ea] 47 (0,0)):=by
  rw[hW,Below.heap_alloc _ _ _ (by simp)];exact heap_alloc_new _ _
 have hbB:W.heap[w.heap.size+1]?=some (.cells #[.bool false,.slice none 0 0,.int .i64 0] 47 (0,0)):=by
  have:=heap_alloc_new (w.alloc (.cells #[.bool true,.slice ua un uc,.int .i64 ea] 47)) (.cells #[.bool false,.slice none 0 0,.int .i64 0] 47)
  rw[hW];simpa using this
 have hsz:W.heap.size=w.heap.size+1+1:=by rw[hW];simp
 have HX:Hid (Bw w W∧W.heap.size=w.heap.size+1+1∧W.heap[w.heap.size+1]?=some (.cells #[.bool false,.slice none 0 0,.int .i64 0] 47 (0,0))):=⟨hBW,hsz,hbB⟩
 have HK:Hid (∀ w',Below (w.heap.size+1) W w'→(w'.cell? ⟨w.heap.size,0,none⟩=some (.bool true)∧w'.cell? ⟨w.heap.size,1,none⟩=some (.slice ua un uc)∧w'.cell? ⟨w.heap.size,2,none⟩=some (.int .i64 ea))):=fun w' hb=>(box_cells (box_later hbA hb (by omega))).1
 have kC:∀ w4,Bw W w4→Calls Tryz.prog 102 #[.slice ua un uc] w4 fun r w'=>∃ ao n cap,r=.returned (.slice ao n cap)∧Own w' W.heap.size (.slice ao n cap) x∧Bw W w':=fun w4 hb =>
  (clone_ok ((h1.later hBW).later hb) (by omega)).mono fun r w' ⟨v,e1,o1,o2⟩=>by
   obtain⟨ao,cap,rfl,-,-,-⟩:=o1.is
   exact⟨_,_,_,e1,o1.mono hb.size,hb.trans (o2.mono hb.size)⟩
 have hBR:Bw W W.drew:=(Below.refl _ _).drew
 have hBR1:Below (w.heap.size+1) W W.drew:=(Below.refl _ _).drew
 have hun:un=dlen x:=by obtain⟨_,_,e,-⟩:=h1;simp only[Value.slice.injEq] at e;exact e.2.1
 have hunb:un≤1000000:=by omega
 have H1:Hid (w.heap.size+1≤W.heap.size):=(by omega:w.heap.size+1≤W.heap.size)
 clear hbA hbB hsz hBW h1 hx hun
 go_enter Tryz.func77,Tryz.ntmps77
 go_upto_region 1 with fail
 rw[←hW]
 clear hW
 have hS0:=HK.out W.drew hBR1
 refine wp_region_held (S:=fun w'=>w'.cell? ⟨w.heap.size,0,none⟩=some (.bool true)∧w'.cell? ⟨w.heap.size,1,none⟩=some (.slice ua un uc)∧w'.cell? ⟨w.heap.size,2,none⟩=some (.int .i64 ea)) (by kernel_rfl) ?_
 change wpAnyH _ _ _ _ _ _ _ _ W.drew
 refine wpAnyH_take (i := 0) (oi := { dst := some 3, op := Op.fieldAddr 47 (Operand.tmp 1) 0, type := 0, pos := "number.go:42", after := #[], guard := none }) (v := .pointer (some ⟨w.heap.size, 0, none⟩)) rfl (by kernel_rfl) (by kernel_rfl) (by kernel_rfl) (fun _ _ _ h => h) (.inl ⟨by rfl, (by intro w1 hSw; obtain ⟨s0, s1, s2⟩ := hSw; go_simp)⟩) (by assumption) ?_
 try simp only[Act.put,List.setIfInBounds_toArray,List.set_cons_zero,List.set_cons_succ]
 refine wpAnyH_take (i := 1) (oi := { dst := some 4, op := Op.load 4 (Operand.tmp 3), type := 4, pos := "number.go:42", after := #[{ on := 0, ground := Ground.data }], guard := none }) (v := .bool true) rfl (by kernel_rfl) (by kernel_rfl) (by kernel_rfl) (fun _ _ _ h => h) (.inl ⟨by rfl, (by intro w1 hSw; obtain ⟨s0, s1, s2⟩ := hSw; go_simp)⟩) (by assumption) ?_
 try simp only[Act.put,List.setIfInBounds_toArray,List.set_cons_zero,List.set_cons_succ]
 refine wpAnyH_take (i := 2) (oi := { dst := some 5, op := Op.unOp UnOp.not 4 (Operand.tmp 4), type := 4, pos := "number.go:42", after := #[{ on := 1, ground := Ground.data }], guard := none }) (v := .bool false) rfl (by kernel_rfl) (by kernel_rfl) (by kernel_rfl) (fun _ _ _ h => h) (.inl ⟨by rfl, (by intro w1 hSw; obtain ⟨s0, s1, s2⟩ := hSw; go_simp)⟩) (by assumption) ?_
 try simp only[Act.put,List.setIfInBounds_toArray,List.set_cons_zero,List.set_cons_succ]
 refine wpAnyH_take (i := 3) (oi := { dst := some 6, op := Op.move (Operand.tmp 5), type := 4, pos := "number.go:42", after := #[{ on := 2, ground := Ground.data }], guard := none }) (v := .bool false) rfl (by kernel_rfl) (by kernel_rfl) (by kernel_rfl) (fun _ _ _ h => h) (.inl ⟨by rfl, (by intro w1 hSw; obtain ⟨s0, s1, s2⟩ := hSw; go_simp)⟩) (by assumption) ?_
 try simp only[Act.put,List.setIfInBounds_toArray,List.set_cons_zero,List.set_cons_succ]
 refine wpAnyH_take (i := 4) (oi := { dst := some 7, op := Op.fieldAddr 47 (Operand.tmp 1) 1, type := 0, pos := "number.go:42", after := #[{ on := 3, ground := Ground.guard }], guard := some (3, true) }) (v := undef) rfl (by kernel_rfl) (by kernel_rfl) (by kernel_rfl) (fun _ _ _ h => h) (.inr ⟨by rfl, rfl⟩) (by assumption) ?_
 try simp only[Act.put,List.setIfInBounds_toArray,List.set_cons_zero,List.set_cons_succ]
 refine wpAnyH_take (i := 5) (oi := { dst := some 8, op := Op.load 28 (Operand.tmp 7), type := 28, pos := "number.go:42", after := #[{ on := 4, ground := Ground.data }, { on := 3, ground := Ground.guard }], guard := some (3, true) }) (v := undef) rfl (by kernel_rfl) (by kernel_rfl) (by kernel_rfl) (fun _ _ _ h => h) (.inr ⟨by rfl, rfl⟩) (by assumption) ?_
 try simp only[Act.put,List.setIfInBounds_toArray,List.set_cons_zero,List.set_cons_succ]
 refine wpAnyH_take (i := 6) (oi := { dst := some 9, op := Op.call { callee := Callee.builtin Builtin.len, args := #[Operand.tmp 8], argTypes := #[28] }, type := 3, pos := "number.go:42", after := #[{ on := 5, ground := Ground.data }, { on := 3, ground := Ground.guard }], guard := some (3, true) }) (v := undef) rfl (by kernel_rfl) (by kernel_rfl) (by kernel_rfl) (fun _ _ _ h => h) (.inr ⟨by rfl, rfl⟩) (by assumption) ?_
 try simp only[Act.put,List.setIfInBounds_toArray,List.set_cons_zero,List.set_cons_succ]
 refine wpAnyH_take (i := 7) (oi := { dst := some 10, op := Op.binOp BinOp.gtr 3 (Operand.tmp 9) (Operand.const (Value.int IntKind.i64 0)) 3, type := 4, pos := "number.go:42", after := #[{ on := 6, ground := Ground.data }, { on := 3, ground := Ground.guard }], guard := some (3, true) }) (v := undef) rfl (by kernel_rfl) (by kernel_rfl) (by kernel_rfl) (fun _ _ _ h => h) (.inr ⟨by rfl, rfl⟩) (by assumption) ?_
 try simp only[Act.put,List.setIfInBounds_toArray,List.set_cons_zero,List.set_cons_succ]
 refine wpAnyH_take (i := 8) (oi := { dst := some 11, op := Op.pick (Operand.tmp 6) (Operand.tmp 10) (Operand.const (Value.bool false)), type := 4, pos := "number.go:42", after := #[{ on := 3, ground := Ground.data }, { on := 7, ground := Ground.data }], guard := none }) (v := .bool false) rfl (by kernel_rfl) (by kernel_rfl) (by kernel_rfl) (fun _ _ _ h => h) (.inl ⟨by rfl, (by intro w1 hSw; obtain ⟨s0, s1, s2⟩ := hSw; go_simp)⟩) (by assumption) ?_
 try simp only[Act.put,List.setIfInBounds_toArray,List.set_cons_zero,List.set_cons_succ]
 refine wpAnyH_take (i := 9) (oi := { dst := some 12, op := Op.fieldAddr 47 (Operand.tmp 1) 1, type := 0, pos := "number.go:42", after := #[], guard := none }) (v := .pointer (some ⟨w.heap.size, 1, none⟩)) rfl (by kernel_rfl) (by kernel_rfl) (by kernel_rfl) (fun _ _ _ h => h) (.inl ⟨by rfl, (by intro w1 hSw; obtain ⟨s0, s1, s2⟩ := hSw; go_simp)⟩) (by assumption) ?_
 try simp only[Act.put,List.setIfInBounds_toArray,List.set_cons_zero,List.set_cons_succ]
 refine wpAnyH_take (i := 10) (oi := { dst := some 13, op := Op.load 28 (Operand.tmp 12), type := 28, pos := "number.go:42", after := #[{ on := 9, ground := Ground.data }], guard := none }) (v := .slice ua un uc) rfl (by kernel_rfl) (by kernel_rfl) (by kernel_rfl) (fun _ _ _ h => h) (.inl ⟨by rfl, (by intro w1 hSw; obtain ⟨s0, s1, s2⟩ := hSw; go_simp)⟩) (by assumption) ?_
 try simp only[Act.put,List.setIfInBounds_toArray,List.set_cons_zero,List.set_cons_succ]
 refine wpAnyH_take (i := 12) (oi := { dst := some 15, op := Op.fieldAddr 47 (Operand.tmp 1) 2, type := 0, pos := "number.go:42", after := #[], guard := none }) (v := .pointer (some ⟨w.heap.size, 2, none⟩)) rfl (by kernel_rfl) (by kernel_rfl) (by kernel_rfl) (fun _ _ _ h => h) (.inl ⟨by rfl, (by intro w1 hSw; obtain ⟨s0, s1, s2⟩ := hSw; go_simp)⟩) (by assumption) ?_
 try simp only[Act.put,List.setIfInBounds_toArray,List.set_cons_zero,List.set_cons_succ]
 refine wpAnyH_take (i := 13) (oi := { dst := some 16, op := Op.load 3 (Operand.tmp 15), type := 3, pos := "number.go:42", after := #[{ on := 12, ground := Ground.data }], guard := none }) (v := .int .i64 ea) rfl (by kernel_rfl) (by kernel_rfl) (by kernel_rfl) (fun _ _ _ h => h) (.inl ⟨by rfl, (by intro w1 hSw; obtain ⟨s0, s1, s2⟩ := hSw; go_simp)⟩) (by assumption) ?_
 try simp only[Act.put,List.setIfInBounds_toArray,List.set_cons_zero,List.set_cons_succ]
 refine wpAnyH_ready (rs := [11]) (by kernel_rfl) (by simp) ?_
 intro i hi
 obtain rfl:i=11:=by simpa using hi
 refine step_call (o := { dst := some 14, op := Op.call { callee := Callee.value (Operand.func 102), args := #[Operand.tmp 13], argTypes := #[28] }, type := 28, pos := "number.go:42", after := #[{ on := 10, ground := Ground.data }, { on := 3, ground := Ground.chain }], guard := none }) rfl rfl rfl (enters Tryz.func102 (by kernel_rfl) (by kernel_rfl)) (vs := #[.slice ua un uc]) (by simp [Act.eval]) ?_
 refine(kC _ hBR).mono ?_
 rintro r w5 ⟨ao5,n5,cap5,rfl,ho5,hb5⟩
 have hblk5:=box_later HX.out.2.2 hb5 (by have:=HX.out.2.1;omega)
 have hS5:=HK.out _ (Below.mono hb5 H1.out)
 refine⟨_,rfl,hS5,?_⟩
 try simp only[Act.put,List.setIfInBounds_toArray,List.set_cons_zero,List.set_cons_succ]
 refine wpAnyH_take (i := 14) (oi := { dst := some 17, op := Op.build 47 #[(0, Operand.tmp 11), (1, Operand.tmp 14), (2, Operand.tmp 16)], type := 47, pos := "number.go:42", after := #[{ on := 8, ground := Ground.data }, { on := 11, ground := Ground.data }, { on := 13, ground := Ground.data }], guard := none }) (v := .agg #[.bool false, .slice ao5 n5 cap5, .int .i64 ea]) rfl (by kernel_rfl) (by kernel_rfl) (by kernel_rfl) (fun _ _ _ h => h) (.inl ⟨by rfl, (by intro w1 hSw; go_simp)⟩) (by assumption) ?_
 try simp only[Act.put,List.setIfInBounds_toArray,List.set_cons_zero,List.set_cons_succ]
 refine wpAnyH_ready (rs := [15]) (by kernel_rfl) (by simp) ?_
 intro i hi
 obtain rfl:i=15:=by simpa using hi
 refine step_store (o := { dst := none, op := Op.store 47 (Operand.tmp 2) (Operand.tmp 17), type := 0, pos := "number.go:42", after := #[{ on := 14, ground := Ground.data }, { on := 11, ground := Ground.chain }, { on := 0, ground := Ground.phase }, { on := 1, ground := Ground.phase }, { on := 2, ground := Ground.phase }, { on := 3, ground := Ground.phase }, { on := 4, ground := Ground.phase }, { on := 5, ground := Ground.phase }, { on := 6, ground := Ground.phase }, { on := 7, ground := Ground.phase }, { on := 8, ground := Ground.phase }, { on := 9, ground := Ground.phase }, { on := 10, ground := Ground.phase }, { on := 11, ground := Ground.phase }, { on := 12, ground := Ground.phase }, { on := 13, ground := Ground.phase }, { on := 14, ground := Ground.phase }], guard := none }) rfl rfl rfl rfl rfl hblk5 Tryz.info47 rfl (one3 rfl rfl) ?_
 refine⟨HK.out _ (below_row (Below.mono hb5 H1.out) (Nat.le_refl _) _),?_⟩
 refine wpAnyH_done (by kernel_rfl) ?_ _
 have HF:Hid (Bw W w5∧Own w5 W.heap.size (.slice ao5 n5 cap5) x∧w5.heap[w.heap.size+1]?=some (.cells #[.bool false,.slice none 0 0,.int .i64 0] 47 (0,0))):=⟨hb5,ho5,hblk5⟩
 clear ho5 hb5 hblk5 kC HK hBR hBR1 hS0 hS5
 go_wp2
 refine bodyPost_ret (results_cell_row rfl _ _ (w.heap.size+1) 47 #[.bool false,.slice ao5 n5 cap5,.int .i64 ea] (0,0) _ rfl (setRow_heap _ _ _ _ _ _ HF.out.2.2) Tryz.underlying47 rfl Tryz.info47) rfl ?_
 obtain⟨q1,q2,-⟩:=HX.out
 exact⟨_,rfl,(own_row HF.out.2.1 (by omega) _).mono (by omega),below_row (q1.trans (HF.out.1.mono q1.size)) (by omega) _⟩
theorem neg_f (ua:Option Addr) (un uc x:Nat) (ea:Int) (w:World) (h1:Is w (.slice ua un uc) x) (hx:dlen x≤1000000) :
  Calls Tryz.prog 77 #[.agg #[.bool false,.slice ua un uc,.int .i64 ea]] w fun r w'=>∃ v,r=.returned (.agg #[.bool (decide (0<un)),v,.int .i64 ea])∧Own w' w.heap.size v x∧Bw w w':=by
 obtain⟨W,hW⟩:∃ W,W=(w.alloc (.cells #[.bool false,.slice ua un uc,.int .i64 ea] 47)).alloc (.cells #[.bool false,.slice none 0 0,.int .i64 0] 47):=⟨_,rfl⟩
 have hBW:Bw w W:=by rw[hW];exact((Below.refl _ _).alloc (Nat.le_refl _) _).alloc (by simp) _
 have hbA:W.heap[w.heap.size]?=some (.cells #[.bool false,.slice ua un uc,.int .i64 ea] 47 (0,0)):=by
  rw[hW,Below.heap_alloc _ _ _ (by simp)];exact heap_alloc_new _ _
 have hbB:W.heap[w.heap.size+1]?=some (.cells #[.bool false,.slice none 0 0,.int .i64 0] 47 (0,0)):=by
  have:=heap_alloc_new (w.alloc (.cells #[.bool false,.slice ua un uc,.int .i64 ea] 47)) (.cells #[.bool false,.slice none 0 0,.int .i64 0] 47)
  rw[hW];simpa using this
 have hsz:W.heap.size=w.heap.size+1+1:=by rw[hW];simp
 have HX:Hid (Bw w W∧W.heap.size=w.heap.size+1+1∧W.heap[w.heap.size+1]?=some (.cells #[.bool false,.slice none 0 0,.int .i64 0] 47 (0,0))):=⟨hBW,hsz,hbB⟩
 have HK:Hid (∀ w',Below (w.heap.size+1) W w'→(w'.cell? ⟨w.heap.size,0,none⟩=some (.bool false)∧w'.cell? ⟨w.heap.size,1,none⟩=some (.slice ua un uc)∧w'.cell? ⟨w.heap.size,2,none⟩=some (.int .i64 ea))):=fun w' hb=>(box_cells (box_later hbA hb (by omega))).1
 have kC:∀ w4,Bw W w4→Calls Tryz.prog 102 #[.slice ua un uc] w4 fun r w'=>∃ ao n cap,r=.returned (.slice ao n cap)∧Own w' W.heap.size (.slice ao n cap) x∧Bw W w':=fun w4 hb =>
  (clone_ok ((h1.later hBW).later hb) (by omega)).mono fun r w' ⟨v,e1,o1,o2⟩=>by
   obtain⟨ao,cap,rfl,-,-,-⟩:=o1.is
   exact⟨_,_,_,e1,o1.mono hb.size,hb.trans (o2.mono hb.size)⟩
 have hBR:Bw W W.drew:=(Below.refl _ _).drew
 have hBR1:Below (w.heap.size+1) W W.drew:=(Below.refl _ _).drew
 have hun:un=dlen x:=by obtain⟨_,_,e,-⟩:=h1;simp only[Value.slice.injEq] at e;exact e.2.1
 have hunb:un≤1000000:=by omega
 have H1:Hid (w.heap.size+1≤W.heap.size):=(by omega:w.heap.size+1≤W.heap.size)
 clear hbA hbB hsz hBW h1 hx hun
 go_enter Tryz.func77,Tryz.ntmps77
 go_upto_region 1 with fail
 rw[←hW]
 clear hW
 go_region_held3 (fun w'=>w'.cell? ⟨w.heap.size,0,none⟩=some (.bool false)∧w'.cell? ⟨w.heap.size,1,none⟩=some (.slice ua un uc)∧w'.cell? ⟨w.heap.size,2,none⟩=some (.int .i64 ea)) (first|(with_reducible assumption)|exact HK.out _ hBR1|(refine HK.out _ (Below.mono ?_ H1.out);with_reducible assumption)|(refine HK.out _ (below_store3 (Below.mono hb5 H1.out) (Nat.le_refl _) _ _ _))|go_keep)
  (first|(go_at_call 102;refine(kC _ (by first|(with_reducible assumption)|exact hBR)).mono ?_;rintro r w5 ⟨ao5,n5,cap5,rfl,ho5,hb5⟩;have hblk5:=box_later HX.out.2.2 hb5 (by have:=HX.out.2.1;omega);obtain⟨⟨x1,x2,x3⟩,x4,x5,x6⟩:=box_cells hblk5))
 have HF:Hid (Bw W w5∧Own w5 W.heap.size (.slice ao5 n5 cap5) x∧w5.heap[w.heap.size+1]?=some (.cells #[.bool false,.slice none 0 0,.int .i64 0] 47 (0,0))):=⟨hb5,ho5,hblk5⟩
 clear ho5 hb5 hblk5 x1 x2 x3 x4 x5 x6 kC HK hBR hBR1
 go_wp2
 refine bodyPost_ret (results_cell_row rfl _ _ (w.heap.size+1) 47 #[.bool (decide (0<un)),.slice ao5 n5 cap5,.int .i64 ea] (0,0) _ rfl (store3 _ _ _ HF.out.2.2) Tryz.underlying47 rfl Tryz.info47) rfl ?_
 obtain⟨q1,q2,-⟩:=HX.out
 exact⟨_,rfl,(own_store3 HF.out.2.1 (by omega) _ _ _).mono (by omega),below_store3 (q1.trans (HF.out.1.mono q1.size)) (by omega) _ _ _⟩
theorem neg_ok {na:Bool} {ua:Option Addr} {un uc x:Nat} {ea:Int} {w:World} (h1:Is w (.slice ua un uc) x) (hx:dlen x≤1000000) :
  Calls Tryz.prog 77 #[.agg #[.bool na,.slice ua un uc,.int .i64 ea]] w fun r w'=>∃ v,r=.returned (.agg #[.bool (!na&&decide (0<un)),v,.int .i64 ea])∧Own w' w.heap.size v x∧Bw w w':=by
 cases na
 ·exact neg_f ua un uc x ea w h1 hx
 ·exact neg_t ua un uc x ea w h1 hx
end Go.Proofs.YtgdhdailchonmabGreatDoor
namespace Go.Proofs.YtgdhdailchonmabGreatDoor
open Go.RowKit Go.Fl64
theorem c159 (a:Nat) (ha:a<18446744073709551616) (w:World) :
  Calls Tryz.prog 43 #[.float .f64 a] w fun e w'=>e=.returned (.float .f64 (mag a))∧w'=w:=by
 have hb:=Ie.run_bits
 have hf:=Ie.run_frombits
 go_enter Tryz.func43,Tryz.ntmps43
 go_wp2
 go_ret
 refine⟨?_,rfl⟩
 show Ending.returned (.float .f64 (bits .andNot .u64 a 9223372036854775808).toNat)=_
 rw[andNot_sign a ha]
 simp
theorem mag_lt' (a:Nat) (ha:a<18446744073709551616):mag a<18446744073709551616:=by unfold mag;omega
theorem c123 (a:Nat) (ha:a<18446744073709551616) (w:World) :
  Calls Tryz.prog 139 #[.float .f64 a,.int .i64 0] w fun e w'=>e=.returned (.bool (lt 9218868437227405311 (mag a)))∧w'=w:=by
 have k:=c159 a ha
 have h:=ord_gt (mag a) 9218868437227405311 (mag_lt' a ha) (by omega)
 generalize mag a=m at *
 have H:Hid ((FloatKind.f64.format.order m 9218868437227405311==some Ordering.gt)=lt 9218868437227405311 m):=h
 clear h
 go_enter Tryz.func139,Tryz.ntmps139
 go_wp2_with (first|(go_at_call 43;refine(k _).mono ?_;rintro e w' ⟨rfl,rfl⟩))
 go_ret
 exact⟨congrArg Ending.returned (congrArg Value.bool H.out),rfl⟩
theorem hidOf {p:Prop} (h:p):Hid p:=h
theorem Nrm.later {w w':World} {base:Nat} {a:Value} {neg:Bool} {x:Nat} {e:Int} (h:Nrm w base a neg x e) (hb:Bw w w'):Nrm w' base a neg x e:=by
 rcases h with h|⟨h0,v,h1,ho⟩
 ·exact .inl h
 ·exact .inr ⟨h0,v,h1,ho.later hb⟩
def Bx (w3 wc:World) (g:Nat) (s:Bool) (ao:Option Addr) (n cap:Nat) (ex:Int) (sL:Bool) (zL:Nat) (eL:Int):Prop :=
 wc.heap[g]?=some (.cells #[.bool s,.slice ao n cap,.int .i64 ex] 47 (0,0))∧w3.heap.size≤g∧Bw w3 wc∧Nrm wc w3.heap.size (.agg #[.bool s,.slice ao n cap,.int .i64 ex]) sL zL eL
theorem Bx.new {w3 w7:World} {base:Nat} {s:Bool} {ao:Option Addr} {n cap:Nat} {ex:Int} {sL:Bool} {zL:Nat} {eL:Int} (hn:Nrm w7 base (.agg #[.bool s,.slice ao n cap,.int .i64 ex]) sL zL eL) (hb:Bw w3 w7) (hs:w3.heap.size≤base) :
  Bx w3 (w7.alloc (.cells #[.bool s,.slice ao n cap,.int .i64 ex] 47)) w7.heap.size s ao n cap ex sL zL eL :=
 ⟨heap_alloc_new _ _,hb.size,hb.alloc hb.size _,(hn.later ((Below.refl _ _).alloc (Nat.le_refl _) _)).mono hs⟩
theorem lt_of_box {w:World} {g:Nat} {o:Obj} (h:w.heap[g]?=some o):g<w.heap.size:=(Array.getElem?_eq_some_iff.1 h).1
theorem Bx.put {w3 w7:World} {base g:Nat} {s:Bool} {ao:Option Addr} {n cap:Nat} {ex:Int} {sL:Bool} {zL:Nat} {eL:Int} {p q r:Value} (hn:Nrm w7 base (.agg #[.bool s,.slice ao n cap,.int .i64 ex]) sL zL eL) (hb:Bw w3 w7) (hs:w3.heap.size≤base) (hg:w3.heap.size≤g) (hlt:g<base) (hbx:w7.heap[g]?=some (.cells #[p,q,r] 47 (0,0))) :
  Bx w3 (((w7.setCell ⟨g,0,none⟩ (.bool s)).setCell ⟨g,1,none⟩ (.slice ao n cap)).setCell ⟨g,2,none⟩ (.int .i64 ex)) g s ao n cap ex sL zL eL :=
 ⟨store3 _ _ _ hbx,hg,below_store3 hb hg _ _ _,(hn.store hlt _ _ _).mono hs⟩
theorem same_self (a:Nat):same a a=true:=by simp[same]
end Go.Proofs.YtgdhdailchonmabGreatDoor
namespace Go.Proofs.YtgdhdailchonmabGreatDoor
open Go.RowKit
theorem c21_t (na nb:Bool) (ua va:Option Addr) (un uc vn vc z:Nat) (ea eb e:Int) (s nn:Bool) (y:Nat) (w:World) (hz:dlen z≤35184372088832) (hok:okR s z e=true)
  (k67:∀ W g,Bw w W→W.heap[g]?=some (.cells #[.bool na,.slice ua un uc,.int .i64 ea,.bool nb,.slice va vn vc,.int .i64 eb] 47 (0,0))→Calls Tryz.prog 76 #[.slice (some ⟨g,0,none⟩) 2 2] W fun r w'=>r=.returned (.bool true)∧Bw W w')
  (kN:∀ W,Bw w W→Calls Tryz.prog 77 #[.agg #[.bool nb,.slice va vn vc,.int .i64 eb]] W fun r w'=>∃ v,r=.returned (.agg #[.bool nn,v,.int .i64 eb])∧Own w' W.heap.size v y∧Bw W w')
  (kS:∀ W v base,Bw w W→Own W base v y→Calls Tryz.prog 100 #[.agg #[.bool na,.slice ua un uc,.int .i64 ea],.agg #[.bool nn,v,.int .i64 eb]] W fun r w'=>∃ a,r=.returned a∧Nrm w' W.heap.size a s z e∧Bw W w') :
  Calls Tryz.prog 116 #[.agg #[.bool na,.slice ua un uc,.int .i64 ea],.agg #[.bool nb,.slice va vn vc,.int .i64 eb]] w fun r w'=>Held w s z e r w':=by
 obtain⟨W,hW⟩:∃ W,W=((w.alloc (.cells #[.bool na,.slice ua un uc,.int .i64 ea] 47)).alloc (.cells #[.bool nb,.slice va vn vc,.int .i64 eb] 47)).alloc (.cells #[.bool false,.slice none 0 0,.int .i64 0] 47):=⟨_,rfl⟩
 obtain⟨hA,hBb,hC,hsz,hBW⟩:=boxes3 _ _ _ hW
 have hB4:Below w.heap.size w (W.alloc (.cells #[.bool na,.slice ua un uc,.int .i64 ea,.bool nb,.slice va vn vc,.int .i64 eb] 47)):=hBW.alloc hBW.size _
 have k1:=k67 (W.alloc (.cells #[.bool na,.slice ua un uc,.int .i64 ea,.bool nb,.slice va vn vc,.int .i64 eb] 47)) (w.heap.size+1+1+1) hB4 (by rw[←hsz];exact heap_alloc_new _ _)
 have HH:Hid ((W.heap[w.heap.size]?=some (.cells #[.bool na,.slice ua un uc,.int .i64 ea] 47 (0,0))∧W.heap[w.heap.size+1]?=some (.cells #[.bool nb,.slice va vn vc,.int .i64 eb] 47 (0,0))∧W.heap[w.heap.size+1+1]?=some (.cells #[.bool false,.slice none 0 0,.int .i64 0] 47 (0,0)))∧W.heap.size=w.heap.size+1+1+1∧Bw w W∧Below W.heap.size W (W.alloc (.cells #[.bool na,.slice ua un uc,.int .i64 ea,.bool nb,.slice va vn vc,.int .i64 eb] 47))):=⟨⟨hA,hBb,hC⟩,hsz,hBW,(Below.refl _ _).alloc (Nat.le_refl _) _⟩
 have HZ:Hid (dlen z≤35184372088832∧okR s z e=true):=⟨hz,hok⟩
 have HKN:Hid _:=kN
 have HKS:Hid _:=kS
 clear hA hBb hC hsz hBW hB4 k67 kN kS hz hok
 go_enter Tryz.func116,Tryz.ntmps116
 go_wp2_with fail
 rw[←hW]
 clear hW
 refine k1.mono ?_
 rintro r w1 ⟨rfl,hB1⟩
 clear k1
 have hBW1:Bw W w1:=HH.out.2.2.2.trans (hB1.mono HH.out.2.2.2.size)
 have H3:Hid (w1.heap[w.heap.size]?=some (.cells #[.bool na,.slice ua un uc,.int .i64 ea] 47 (0,0))∧w1.heap[w.heap.size+1]?=some (.cells #[.bool nb,.slice va vn vc,.int .i64 eb] 47 (0,0))∧w1.heap[w.heap.size+1+1]?=some (.cells #[.bool false,.slice none 0 0,.int .i64 0] 47 (0,0))∧w.heap.size+1+1+1≤w1.heap.size∧Bw w w1):=⟨box_later HH.out.1.1 hBW1 (by have:=HH.out.2.1;omega),box_later HH.out.1.2.1 hBW1 (by have:=HH.out.2.1;omega),box_later HH.out.1.2.2 hBW1 (by have:=HH.out.2.1;omega),by have:=hBW1.size;have:=HH.out.2.1;omega,HH.out.2.2.1.trans (hBW1.mono HH.out.2.2.1.size)⟩
 clear hB1 hBW1
 have HK:Hid (∀ w',Below (w.heap.size+1+1) w1 w'→((w'.cell? ⟨w.heap.size,0,none⟩=some (.bool na)∧w'.cell? ⟨w.heap.size,1,none⟩=some (.slice ua un uc)∧w'.cell? ⟨w.heap.size,2,none⟩=some (.int .i64 ea))∧(w'.cell? ⟨w.heap.size+1,0,none⟩=some (.bool nb)∧w'.cell? ⟨w.heap.size+1,1,none⟩=some (.slice va vn vc)∧w'.cell? ⟨w.heap.size+1,2,none⟩=some (.int .i64 eb)))):=fun w' hb=>⟨(box_cells (box_later H3.out.1 hb (by omega))).1,(box_cells (box_later H3.out.2.1 hb (by omega))).1⟩
 have H1:Hid (w.heap.size+1+1≤w1.heap.size):=(by have:=H3.out.2.2.2.1;omega:w.heap.size+1+1≤w1.heap.size)
 have hBR:Bw w1 w1.drew:=(Below.refl _ _).drew
 have hBR1:Below (w.heap.size+1+1) w1 w1.drew:=(Below.refl _ _).drew
 have kn:∀ w4,Bw w1 w4→Calls Tryz.prog 77 #[.agg #[.bool nb,.slice va vn vc,.int .i64 eb]] w4 fun r w'=>∃ ao n cap,r=.returned (.agg #[.bool nn,.slice ao n cap,.int .i64 eb])∧Own w' w1.heap.size (.slice ao n cap) y∧Bw w1 w':=fun w4 hb =>
  (HKN.out w4 (H3.out.2.2.2.2.trans (hb.mono H3.out.2.2.2.2.size))).mono fun r w' ⟨v,e1,o1,o2⟩=>by
   obtain⟨ao,cap,rfl,-,-,-⟩:=o1.is
   exact⟨_,_,_,e1,o1.mono hb.size,hb.trans (o2.mono hb.size)⟩
 have ks:∀ ao n cap w5,Own w5 w1.heap.size (.slice ao n cap) y→Bw w1 w5→Calls Tryz.prog 100 #[.agg #[.bool na,.slice ua un uc,.int .i64 ea],.agg #[.bool nn,.slice ao n cap,.int .i64 eb]] w5 fun r w'=>∃ s' ao n cap ex,r=.returned (.agg #[.bool s',.slice ao n cap,.int .i64 ex])∧Nrm w' w1.heap.size (.agg #[.bool s',.slice ao n cap,.int .i64 ex]) s z e∧Bw w1 w':=fun ao n cap w5 ho hb =>
  (HKS.out w5 _ _ (H3.out.2.2.2.2.trans (hb.mono H3.out.2.2.2.2.size)) ho).mono fun r w' ⟨v,e1,o1,o2⟩=>by
   obtain⟨s',ao,n,cap,ex,rfl⟩:=o1.shape
   exact⟨_,_,_,_,_,e1,o1.mono hb.size,hb.trans (o2.mono hb.size)⟩
 have kb:∀ s6 ao6 n6 cap6 ex6 w6,Nrm w6 w1.heap.size (.agg #[.bool s6,.slice ao6 n6 cap6,.int .i64 ex6]) s z e→Bw w1 w6→Calls Tryz.prog 99 #[.agg #[.bool s6,.slice ao6 n6 cap6,.int .i64 ex6]] w6 fun r w'=>r=.returned (.tuple #[.agg #[.bool s6,.slice ao6 n6 cap6,.int .i64 ex6],.int .i64 0])∧Hid (Nrm w' w1.heap.size (.agg #[.bool s6,.slice ao6 n6 cap6,.int .i64 ex6]) s z e)∧Bw w1 w'∧Hid (w'.heap[w.heap.size+1+1]?=some (.cells #[.bool false,.slice none 0 0,.int .i64 0] 47 (0,0))) ∧
   (w'.cell? ⟨w.heap.size+1+1,0,none⟩=some (.bool false)∧w'.cell? ⟨w.heap.size+1+1,1,none⟩=some (.slice none 0 0)∧w'.cell? ⟨w.heap.size+1+1,2,none⟩=some (.int .i64 0))∧(w'.frozen? ⟨w.heap.size+1+1,0,none⟩=false∧w'.frozen? ⟨w.heap.size+1+1,1,none⟩=false∧w'.frozen? ⟨w.heap.size+1+1,2,none⟩=false):=fun s6 ao6 n6 cap6 ex6 w6 hN hb=>by
  have k:=c63n hN HZ.out.1
  rw[HZ.out.2] at k
  refine k.mono ?_
  rintro r w' ⟨rfl,hb2⟩
  have hb3:Bw w1 w':=hb.trans (hb2.mono hb.size)
  have hblk:=box_later H3.out.2.2.1 hb3 (by have:=H3.out.2.2.2.1;omega)
  obtain⟨f1,f2⟩:=box_cells hblk
  exact⟨rfl,hN.later hb2,hb3,hblk,f1,f2⟩
 obtain⟨⟨a0,a1,a2⟩,b0,b1,b2⟩:=HK.out w1 (Below.refl _ _)
 go_upto_region 3 with fail
 go_region_held3 (fun w'=>((w'.cell? ⟨w.heap.size,0,none⟩=some (.bool na)∧w'.cell? ⟨w.heap.size,1,none⟩=some (.slice ua un uc)∧w'.cell? ⟨w.heap.size,2,none⟩=some (.int .i64 ea))∧(w'.cell? ⟨w.heap.size+1,0,none⟩=some (.bool nb)∧w'.cell? ⟨w.heap.size+1,1,none⟩=some (.slice va vn vc)∧w'.cell? ⟨w.heap.size+1,2,none⟩=some (.int .i64 eb)))) (first|(with_reducible assumption)|exact⟨⟨a0,a1,a2⟩,b0,b1,b2⟩|(refine HK.out _ (Below.mono ?_ H1.out);with_reducible assumption)|(refine HK.out _ (below_store3 (Below.mono hb7 H1.out) (Nat.le_refl _) _ _ _))|go_keep)
  (first|(go_at_call 77;refine(kn _ (by first|(with_reducible assumption)|exact hBR)).mono ?_;rintro r w5 ⟨ao5,n5,cap5,rfl,ho5,hb5⟩)|(go_at_call 100;refine(ks _ _ _ _ ho5 hb5).mono ?_;rintro r w6 ⟨s6,ao6,n6,cap6,ex6,rfl,hn6,hb6⟩)|(go_at_call 99;refine(kb _ _ _ _ _ _ hn6 hb6).mono ?_;rintro r w7 ⟨rfl,hN7,hb7,hblk7,⟨x1,x2,x3⟩,x4,x5,x6⟩))
 have HF:Hid (Bw w1 w7):=hb7
 clear ho5 hb5 hn6 hb6 hb7 kn ks kb x1 x2 x3 x4 x5 x6 a0 a1 a2 b0 b1 b2 HK
 go_wp2
 refine bodyPost_ret (results_cell_tmp_row rfl _ _ (w.heap.size+1+1) 47 #[.bool s6,.slice ao6 n6 cap6,.int .i64 ex6] (0,0) _ rfl (store3 _ _ _ hblk7.out) Tryz.underlying47 rfl Tryz.info47) rfl ?_
 have hs:=H3.out.2.2.2.1
 exact⟨.agg #[.bool s6,.slice ao6 n6 cap6,.int .i64 ex6],by rw[HZ.out.2];rfl,(hN7.out.store (by omega) _ _ _).mono (by omega),below_store3 (H3.out.2.2.2.2.trans (HF.out.mono H3.out.2.2.2.2.size)) (by omega) _ _ _⟩
theorem c21_f (na nb:Bool) (ua va:Option Addr) (un uc vn vc z:Nat) (ea eb e:Int) (s nn:Bool) (y:Nat) (w:World) (hz:dlen z≤35184372088832) (hok:okR s z e=false)
  (k67:∀ W g,Bw w W→W.heap[g]?=some (.cells #[.bool na,.slice ua un uc,.int .i64 ea,.bool nb,.slice va vn vc,.int .i64 eb] 47 (0,0))→Calls Tryz.prog 76 #[.slice (some ⟨g,0,none⟩) 2 2] W fun r w'=>r=.returned (.bool true)∧Bw W w')
  (kN:∀ W,Bw w W→Calls Tryz.prog 77 #[.agg #[.bool nb,.slice va vn vc,.int .i64 eb]] W fun r w'=>∃ v,r=.returned (.agg #[.bool nn,v,.int .i64 eb])∧Own w' W.heap.size v y∧Bw W w')
  (kS:∀ W v base,Bw w W→Own W base v y→Calls Tryz.prog 100 #[.agg #[.bool na,.slice ua un uc,.int .i64 ea],.agg #[.bool nn,v,.int .i64 eb]] W fun r w'=>∃ a,r=.returned a∧Nrm w' W.heap.size a s z e∧Bw W w') :
  Calls Tryz.prog 116 #[.agg #[.bool na,.slice ua un uc,.int .i64 ea],.agg #[.bool nb,.slice va vn vc,.int .i64 eb]] w fun r w'=>Held w s z e r w':=by
 obtain⟨W,hW⟩:∃ W,W=((w.alloc (.cells #[.bool na,.slice ua un uc,.int .i64 ea] 47)).alloc (.cells #[.bool nb,.slice va vn vc,.int .i64 eb] 47)).alloc (.cells #[.bool false,.slice none 0 0,.int .i64 0] 47):=⟨_,rfl⟩
 obtain⟨hA,hBb,hC,hsz,hBW⟩:=boxes3 _ _ _ hW
 have hB4:Below w.heap.size w (W.alloc (.cells #[.bool na,.slice ua un uc,.int .i64 ea,.bool nb,.slice va vn vc,.int .i64 eb] 47)):=hBW.alloc hBW.size _
 have k1:=k67 (W.alloc (.cells #[.bool na,.slice ua un uc,.int .i64 ea,.bool nb,.slice va vn vc,.int .i64 eb] 47)) (w.heap.size+1+1+1) hB4 (by rw[←hsz];exact heap_alloc_new _ _)
 have HH:Hid ((W.heap[w.heap.size]?=some (.cells #[.bool na,.slice ua un uc,.int .i64 ea] 47 (0,0))∧W.heap[w.heap.size+1]?=some (.cells #[.bool nb,.slice va vn vc,.int .i64 eb] 47 (0,0))∧W.heap[w.heap.size+1+1]?=some (.cells #[.bool false,.slice none 0 0,.int .i64 0] 47 (0,0)))∧W.heap.size=w.heap.size+1+1+1∧Bw w W∧Below W.heap.size W (W.alloc (.cells #[.bool na,.slice ua un uc,.int .i64 ea,.bool nb,.slice va vn vc,.int .i64 eb] 47))):=⟨⟨hA,hBb,hC⟩,hsz,hBW,(Below.refl _ _).alloc (Nat.le_refl _) _⟩
 have HZ:Hid (dlen z≤35184372088832∧okR s z e=false):=⟨hz,hok⟩
 have HKN:Hid _:=kN
 have HKS:Hid _:=kS
 clear hA hBb hC hsz hBW hB4 k67 kN kS hz hok
 go_enter Tryz.func116,Tryz.ntmps116
 go_wp2_with fail
 rw[←hW]
 clear hW
 refine k1.mono ?_
 rintro r w1 ⟨rfl,hB1⟩
 clear k1
 have hBW1:Bw W w1:=HH.out.2.2.2.trans (hB1.mono HH.out.2.2.2.size)
 have H3:Hid (w1.heap[w.heap.size]?=some (.cells #[.bool na,.slice ua un uc,.int .i64 ea] 47 (0,0))∧w1.heap[w.heap.size+1]?=some (.cells #[.bool nb,.slice va vn vc,.int .i64 eb] 47 (0,0))∧w1.heap[w.heap.size+1+1]?=some (.cells #[.bool false,.slice none 0 0,.int .i64 0] 47 (0,0))∧w.heap.size+1+1+1≤w1.heap.size∧Bw w w1):=⟨box_later HH.out.1.1 hBW1 (by have:=HH.out.2.1;omega),box_later HH.out.1.2.1 hBW1 (by have:=HH.out.2.1;omega),box_later HH.out.1.2.2 hBW1 (by have:=HH.out.2.1;omega),by have:=hBW1.size;have:=HH.out.2.1;omega,HH.out.2.2.1.trans (hBW1.mono HH.out.2.2.1.size)⟩
 clear hB1 hBW1
 have HK:Hid (∀ w',Below (w.heap.size+1+1) w1 w'→((w'.cell? ⟨w.heap.size,0,none⟩=some (.bool na)∧w'.cell? ⟨w.heap.size,1,none⟩=some (.slice ua un uc)∧w'.cell? ⟨w.heap.size,2,none⟩=some (.int .i64 ea))∧(w'.cell? ⟨w.heap.size+1,0,none⟩=some (.bool nb)∧w'.cell? ⟨w.heap.size+1,1,none⟩=some (.slice va vn vc)∧w'.cell? ⟨w.heap.size+1,2,none⟩=some (.int .i64 eb)))):=fun w' hb=>⟨(box_cells (box_later H3.out.1 hb (by omega))).1,(box_cells (box_later H3.out.2.1 hb (by omega))).1⟩
 have H1:Hid (w.heap.size+1+1≤w1.heap.size):=(by have:=H3.out.2.2.2.1;omega:w.heap.size+1+1≤w1.heap.size)
 have hBR:Bw w1 w1.drew:=(Below.refl _ _).drew
 have hBR1:Below (w.heap.size+1+1) w1 w1.drew:=(Below.refl _ _).drew
 have kn:∀ w4,Bw w1 w4→Calls Tryz.prog 77 #[.agg #[.bool nb,.slice va vn vc,.int .i64 eb]] w4 fun r w'=>∃ ao n cap,r=.returned (.agg #[.bool nn,.slice ao n cap,.int .i64 eb])∧Own w' w1.heap.size (.slice ao n cap) y∧Bw w1 w':=fun w4 hb =>
  (HKN.out w4 (H3.out.2.2.2.2.trans (hb.mono H3.out.2.2.2.2.size))).mono fun r w' ⟨v,e1,o1,o2⟩=>by
   obtain⟨ao,cap,rfl,-,-,-⟩:=o1.is
   exact⟨_,_,_,e1,o1.mono hb.size,hb.trans (o2.mono hb.size)⟩
 have ks:∀ ao n cap w5,Own w5 w1.heap.size (.slice ao n cap) y→Bw w1 w5→Calls Tryz.prog 100 #[.agg #[.bool na,.slice ua un uc,.int .i64 ea],.agg #[.bool nn,.slice ao n cap,.int .i64 eb]] w5 fun r w'=>∃ s' ao n cap ex,r=.returned (.agg #[.bool s',.slice ao n cap,.int .i64 ex])∧Nrm w' w1.heap.size (.agg #[.bool s',.slice ao n cap,.int .i64 ex]) s z e∧Bw w1 w':=fun ao n cap w5 ho hb =>
  (HKS.out w5 _ _ (H3.out.2.2.2.2.trans (hb.mono H3.out.2.2.2.2.size)) ho).mono fun r w' ⟨v,e1,o1,o2⟩=>by
   obtain⟨s',ao,n,cap,ex,rfl⟩:=o1.shape
   exact⟨_,_,_,_,_,e1,o1.mono hb.size,hb.trans (o2.mono hb.size)⟩
 have kb:∀ s6 ao6 n6 cap6 ex6 w6,Nrm w6 w1.heap.size (.agg #[.bool s6,.slice ao6 n6 cap6,.int .i64 ex6]) s z e→Bw w1 w6→Calls Tryz.prog 99 #[.agg #[.bool s6,.slice ao6 n6 cap6,.int .i64 ex6]] w6 fun r w'=>r=.returned (.tuple #[.agg #[.bool false,.slice none 0 0,.int .i64 0],.int .i64 2])∧Hid (Nrm w' w1.heap.size (.agg #[.bool s6,.slice ao6 n6 cap6,.int .i64 ex6]) s z e)∧Bw w1 w'∧Hid (w'.heap[w.heap.size+1+1]?=some (.cells #[.bool false,.slice none 0 0,.int .i64 0] 47 (0,0))) ∧
   (w'.cell? ⟨w.heap.size+1+1,0,none⟩=some (.bool false)∧w'.cell? ⟨w.heap.size+1+1,1,none⟩=some (.slice none 0 0)∧w'.cell? ⟨w.heap.size+1+1,2,none⟩=some (.int .i64 0))∧(w'.frozen? ⟨w.heap.size+1+1,0,none⟩=false∧w'.frozen? ⟨w.heap.size+1+1,1,none⟩=false∧w'.frozen? ⟨w.heap.size+1+1,2,none⟩=false):=fun s6 ao6 n6 cap6 ex6 w6 hN hb=>by
  have k:=c63n hN HZ.out.1
  rw[HZ.out.2] at k
  refine k.mono ?_
  rintro r w' ⟨rfl,hb2⟩
  have hb3:Bw w1 w':=hb.trans (hb2.mono hb.size)
  have hblk:=box_later H3.out.2.2.1 hb3 (by have:=H3.out.2.2.2.1;omega)
  obtain⟨f1,f2⟩:=box_cells hblk
  exact⟨rfl,hN.later hb2,hb3,hblk,f1,f2⟩
 obtain⟨⟨a0,a1,a2⟩,b0,b1,b2⟩:=HK.out w1 (Below.refl _ _)
 go_upto_region 3 with fail
 go_region_held3 (fun w'=>((w'.cell? ⟨w.heap.size,0,none⟩=some (.bool na)∧w'.cell? ⟨w.heap.size,1,none⟩=some (.slice ua un uc)∧w'.cell? ⟨w.heap.size,2,none⟩=some (.int .i64 ea))∧(w'.cell? ⟨w.heap.size+1,0,none⟩=some (.bool nb)∧w'.cell? ⟨w.heap.size+1,1,none⟩=some (.slice va vn vc)∧w'.cell? ⟨w.heap.size+1,2,none⟩=some (.int .i64 eb)))) (first|(with_reducible assumption)|exact⟨⟨a0,a1,a2⟩,b0,b1,b2⟩|(refine HK.out _ (Below.mono ?_ H1.out);with_reducible assumption)|(refine HK.out _ (below_store3 (Below.mono hb7 H1.out) (Nat.le_refl _) _ _ _))|go_keep)
  (first|(go_at_call 77;refine(kn _ (by first|(with_reducible assumption)|exact hBR)).mono ?_;rintro r w5 ⟨ao5,n5,cap5,rfl,ho5,hb5⟩)|(go_at_call 100;refine(ks _ _ _ _ ho5 hb5).mono ?_;rintro r w6 ⟨s6,ao6,n6,cap6,ex6,rfl,hn6,hb6⟩)|(go_at_call 99;refine(kb _ _ _ _ _ _ hn6 hb6).mono ?_;rintro r w7 ⟨rfl,hN7,hb7,hblk7,⟨x1,x2,x3⟩,x4,x5,x6⟩))
 have HF:Hid (Bw w1 w7):=hb7
 clear ho5 hb5 hn6 hb6 hb7 kn ks kb x1 x2 x3 x4 x5 x6 a0 a1 a2 b0 b1 b2 HK
 go_wp2
 refine bodyPost_ret (results_cell_tmp_row rfl _ _ (w.heap.size+1+1) 47 #[.bool false,.slice none 0 0,.int .i64 0] (0,0) _ rfl (store3 _ _ _ hblk7.out) Tryz.underlying47 rfl Tryz.info47) rfl ?_
 have hs:=H3.out.2.2.2.1
 exact⟨.agg #[.bool s6,.slice ao6 n6 cap6,.int .i64 ex6],by rw[HZ.out.2];rfl,(hN7.out.store (by omega) _ _ _).mono (by omega),below_store3 (H3.out.2.2.2.2.trans (HF.out.mono H3.out.2.2.2.2.size)) (by omega) _ _ _⟩
theorem dlen_sumN (na:Bool) (x:Nat) (ea:Int) (nb:Bool) (y:Nat) (eb:Int) (hx:dlen x≤500000) (hy:dlen y≤500000) (ha : -4000000≤ea∧ea≤4000000) (hb : -4000000≤eb∧eb≤4000000):dlen (sumN na x ea nb y eb).2.1≤1000000:=by
 unfold sumN
 have l1:dlen (x*2^(ea - min ea eb).toNat)≤760000:=by have:=shl_len (x:=x) (k:=(ea - min ea eb).toNat) rfl;omega
 have l2:dlen (y*2^(eb - min ea eb).toNat)≤760000:=by have:=shl_len (x:=y) (k:=(eb - min ea eb).toNat) rfl;omega
 have l3:=dlen_add_le (x*2^(ea - min ea eb).toNat) (y*2^(eb - min ea eb).toNat)
 split
 ·show dlen y≤_;omega
 ·split
  ·show dlen x≤_;omega
  ·split
   ·show dlen (_+_)≤_;omega
   ·split
    ·have:=dlen_mono (Nat.sub_le (y*2^(eb - min ea eb).toNat) (x*2^(ea - min ea eb).toNat));show dlen (_ - _)≤_;omega
    ·have:=dlen_mono (Nat.sub_le (x*2^(ea - min ea eb).toNat) (y*2^(eb - min ea eb).toNat));show dlen (_ - _)≤_;omega
theorem sub_ok {na nb:Bool} {ua va:Option Addr} {uc vc x y:Nat} {ea eb:Int} {w:World} (h1:Is w (.slice ua (dlen x) uc) x) (h2:Is w (.slice va (dlen y) vc) y) (hx:dlen x≤400000) (hy:dlen y≤400000) (ha : -4000000≤ea∧ea≤4000000) (hb : -4000000≤eb∧eb≤4000000)
  (hoka:okN na (dlen x) x ea=true) (hokb:okN nb (dlen y) y eb=true) (hT:Tab32 w) :
  Calls Tryz.prog 116 #[.agg #[.bool na,.slice ua (dlen x) uc,.int .i64 ea],.agg #[.bool nb,.slice va (dlen y) vc,.int .i64 eb]] w fun r w'=>Held w (sumN na x ea (!nb&&decide (0<dlen y)) y eb).1 (sumN na x ea (!nb&&decide (0<dlen y)) y eb).2.1 (sumN na x ea (!nb&&decide (0<dlen y)) y eb).2.2 r w':=by
 have k67:∀ W g,Bw w W→W.heap[g]?=some (.cells #[.bool na,.slice ua (dlen x) uc,.int .i64 ea,.bool nb,.slice va (dlen y) vc,.int .i64 eb] 47 (0,0))→Calls Tryz.prog 76 #[.slice (some ⟨g,0,none⟩) 2 2] W fun r w'=>r=.returned (.bool true)∧Bw W w':=fun W g hW hg=>by
  have:=maybe2 hg (h1.later hW) (h2.later hW) (by omega) (by omega)
  rw[hoka,hokb] at this
  exact this
 have kN:∀ W,Bw w W→Calls Tryz.prog 77 #[.agg #[.bool nb,.slice va (dlen y) vc,.int .i64 eb]] W fun r w'=>∃ v,r=.returned (.agg #[.bool (!nb&&decide (0<dlen y)),v,.int .i64 eb])∧Own w' W.heap.size v y∧Bw W w':=fun W hW=>neg_ok (h2.later hW) (by omega)
 have hz:dlen (sumN na x ea (!nb&&decide (0<dlen y)) y eb).2.1≤35184372088832:=by
  have:=dlen_sumN na x ea (!nb&&decide (0<dlen y)) y eb (by omega:dlen x≤500000) (by omega:dlen y≤500000) ha hb
  omega
 cases hok:okR (sumN na x ea (!nb&&decide (0<dlen y)) y eb).1 (sumN na x ea (!nb&&decide (0<dlen y)) y eb).2.1 (sumN na x ea (!nb&&decide (0<dlen y)) y eb).2.2
 ·exact c21_f na nb ua va _ uc _ vc _ ea eb _ _ _ y w hz hok k67 kN (fun W v base hW ho=>c87 (h1.later hW) ho.is (by omega) (by omega) ha hb (hT.later hW))
 ·exact c21_t na nb ua va _ uc _ vc _ ea eb _ _ _ y w hz hok k67 kN (fun W v base hW ho=>c87 (h1.later hW) ho.is (by omega) (by omega) ha hb (hT.later hW))
end Go.Proofs.YtgdhdailchonmabGreatDoor
