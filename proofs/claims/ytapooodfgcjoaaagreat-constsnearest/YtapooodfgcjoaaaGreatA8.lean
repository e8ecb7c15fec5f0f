/- Own work: contracts of the program's functions, part 8: DV3 RV2 DV4 RV3 RV4 RW2 V1 V2 R5 E1 T2 T3 T4 E2 V3 E3 V4 RC4 W42 W44 RC5 RD1 L5 L6 G3 W43 F3 F4 L7 L8. -/
import Derived.Test.YtapooodfgcjoaaaGreatA7
import Derived.Deep.CutBlock
import Derived.Test.YtapooodfgcjoaaaGreatA5
import Derived.Test.YtapooodfgcjoaaaGreatA6
import Derived.Laws.AppendOwnNone
import Derived.Deep.CutRange

set_option maxHeartbeats 16000000
set_option maxRecDepth 200000
set_option linter.unusedVariables false
set_option linter.unusedSimpArgs false
namespace Go.Proofs.YtapooodfgcjoaaaGreat
open Go.RowKit
theorem sub_word {u y b:Nat} (hu:u<B) (hy:y<B) (hb:b≤1):∃ W:Nat,IntKind.u64.wrap (IntKind.u64.wrap ((u:Int) - (y:Int)) - (b:Int))=(W:Int)∧(W:Int) % 4294967296=(((u+B+B - y - b) % B:Nat):Int)∧(W:Int) / 9223372036854775808=((if u<y+b then 1 else 0:Nat):Int):=by
 unfold B at *
 rw[IntKind.wrap_u64,IntKind.wrap_u64]
 by_cases h:u<y+b
 ·refine⟨18446744073709551616+u - y - b,by omega,by omega,?_⟩
  rw[if_pos h];omega
 ·refine⟨u - y - b,by omega,by omega,?_⟩
  rw[if_neg h];omega
theorem ms_step {R V D s n:Nat} (hD:D<B) (hs:s<n+1):∃ P W c' y b' sd:Nat,
  IntKind.u64.wrap (IntKind.u64.wrap ((D:Int)*((dg V s:Nat):Int))+((mulc V D s:Nat):Int))=(P:Int)∧(P:Int) / 4294967296=(c':Int)∧(P:Int) % 4294967296=(y:Int)∧IntKind.u64.wrap (y:Int)=(y:Int) ∧
  IntKind.u64.wrap (IntKind.u64.wrap (((dg R s:Nat):Int) - (y:Int)) - ((subb R (V*D) s:Nat):Int))=(W:Int)∧(W:Int) % 4294967296=(sd:Int)∧(W:Int) / 9223372036854775808=(b':Int) ∧
  c'=mulc V D (s+1)∧b'=subb R (V*D) (s+1)∧sd=dg (wsub R (V*D) (n+1)) s:=by
 have hd:=dg_lt V s
 have hc:=mulc_le V D s
 have hy:=dg_lt (V*D) s
 have hf:=mac_fits (c:=mulc V D s) (f:=0) (d:=D) (e:=dg V s) (by omega) (by unfold B;omega) hD hd
 have e1:dg (V*D) s=(mulc V D s+dg V s*D) % B:=dg_mul V D s
 have e2:=mulc_succ V D s
 obtain⟨W,w1,w2,w3⟩:=sub_word (dg_lt R s) hy (subb_le R (V*D) s)
 refine⟨mulc V D s+dg V s*D,W,_,_,_,_,?_,?_,?_,wrap_d hy,w1,w2,w3,rfl,(subb_succ R (V*D) s).symm,(dg_wsub hs).symm⟩
 ·rw[←Int.natCast_mul,Nat.mul_comm D]
  generalize dg V s*D=m at *
  rw[IntKind.wrap_u64,IntKind.wrap_u64];omega
 ·rw[e2];generalize mulc V D s+dg V s*D=m;unfold B;omega
 ·rw[e1];generalize mulc V D s+dg V s*D=m;unfold B;omega
theorem ms_top {R V D n:Nat} (hD:D<B) (hV:V<B^n) (hR:R<B^(n+1)):∃ W sd:Nat,
  IntKind.u64.wrap (IntKind.u64.wrap (((dg R n:Nat):Int) - ((mulc V D n:Nat):Int)) - ((subb R (V*D) n:Nat):Int))=(W:Int)∧(W:Int) % 4294967296=(sd:Int)∧((W:Int) / 9223372036854775808 != 0)=decide (R<V*D)∧sd=dg (wsub R (V*D) (n+1)) n:=by
 have hc:=mulc_le V D n
 have e1:dg (V*D) n=mulc V D n:=by
  rw[dg_mul,dg_of_lt hV,Nat.zero_mul,Nat.add_zero,Nat.mod_eq_of_lt (by omega)]
 obtain⟨W,w1,w2,w3⟩:=sub_word (dg_lt R n) (dg_lt (V*D) n) (subb_le R (V*D) n)
 rw[e1] at w1
 refine⟨W,_,w1,w2,?_,(dg_wsub (by omega)).symm⟩
 rw[w3,←subb_succ]
 have hfin:subb R (V*D) (n+1)=if R<V*D then 1 else 0:=by
  unfold subb
  have hm:V*D<B^(n+1):=by rw[Bpow_succ];exact Nat.mul_lt_mul_of_lt_of_le hV (Nat.le_of_lt hD) B_pos
  rw[Nat.mod_eq_of_lt hR,Nat.mod_eq_of_lt hm]
 rw[hfin]
 by_cases h:R<V*D <;> simp[h]
theorem ad_step (z V s:Nat):∃ T c' sd:Nat,IntKind.u64.wrap (IntKind.u64.wrap (((addc z V s:Nat):Int)+((dg z s:Nat):Int))+((dg V s:Nat):Int))=(T:Int)∧(T:Int) % 4294967296=(sd:Int)∧(T:Int) / 4294967296=(c':Int)∧c'=addc z V (s+1)∧sd=dg (z+V) s:=by
 have h1:=dg_lt z s
 have h2:=dg_lt V s
 have h3:=addc_le z V s
 refine⟨addc z V s+dg z s+dg V s,_,_,?_,?_,?_,rfl,rfl⟩
 ·rw[IntKind.wrap_u64,IntKind.wrap_u64];unfold B at *; omega
 ·rw[dg_add];generalize addc z V s+dg z s+dg V s=m;unfold B;omega
 ·rw[addc_succ];generalize addc z V s+dg z s+dg V s=m;unfold B;omega
theorem ad_top {z V n:Nat} (hV:V<B^n):∃ sd:Nat,IntKind.u32.wrap (((dg z n:Nat):Int)+((addc z V n:Nat):Int) % 4294967296)=(sd:Int)∧sd=dg (z+V) n:=by
 have h1:=dg_lt z n
 have h3:=addc_le z V n
 refine⟨_,?_,rfl⟩
 rw[dg_add,dg_of_lt hV,IntKind.wrap_u32]
 unfold B at *; omega
theorem fin_le {R V D n:Nat} (hR:R<B^(n+1)) (h:¬ R<V*D) (h1:R / V≤D) (hV:0<V):D=R / V∧wsub R (V*D) (n+1)=R % V:=by
 have h2:D≤R / V:=(Nat.le_div_iff_mul_le hV).2 (by rw[Nat.mul_comm];omega)
 have h3:D=R / V:=by omega
 refine⟨h3,?_⟩
 rw[wsub_of_le hR (by omega),h3]
 have:=Nat.div_add_mod R V
 omega
theorem fin_gt {R V D n:Nat} (hR:R<B^(n+1)) (hm:V*D<B^(n+1)) (h:R<V*D) (h1:D≤R / V+1) (hV:0<V):D=R / V+1∧wsub R (V*D) (n+1)+V=R % V+B^(n+1):=by
 have h2:R / V<D:=(Nat.div_lt_iff_lt_mul hV).2 (by rw[Nat.mul_comm];exact h)
 have h3:D=R / V+1:=by omega
 refine⟨h3,?_⟩
 unfold wsub
 rw[Nat.mod_eq_of_lt hm,Nat.mod_eq_of_lt (by omega)]
 have:=Nat.div_add_mod R V
 have e:V*D=V*(R / V)+V:=by rw[h3,Nat.mul_add,Nat.mul_one]
 have hp:=Nat.mod_lt R hV
 omega
theorem dg_plus {x n t:Nat} (h:t<n):dg (x+B^n) t=dg x t:=by
 rw[←dg_mod h,Nat.add_mod_right,dg_mod h]
theorem fin_row {Y V R j n z:Nat} {f:Nat→Nat} (hV0:0<V) (hV:V<B^n) (hR:R=Y / B^j % (V*B)) (hRB:R<B^(n+1)) (hz:∀ t,t<n+1→dg z t=dg (R % V) t) (hf:∀ i,f i=if j≤i∧i<j+(n+1)then dg z (i - j)else dg (Y % (V*B^(j+1))) i) (i:Nat):f i=dg (Y % (V*B^j)) i:=by
 rw[hf]
 by_cases h1:i<j
 ·rw[if_neg (by omega),win_low (V':=0) (by omega) hV0,win_low (V':=0) h1 hV0]
 ·obtain⟨t,rfl⟩:∃ t,i=j+t:=⟨i - j,by omega⟩
  rw[Nat.add_sub_cancel_left,win_new,win_dig,←hR]
  by_cases h2:t<n+1
  ·rw[if_pos (by omega),hz t h2,hR,win_rest]
  ·rw[if_neg (by omega),dg_of_lt (Nat.lt_of_lt_of_le hRB (Nat.pow_le_pow_right B_pos (by omega)))]
   refine(dg_of_lt (Nat.lt_of_lt_of_le (Nat.mod_lt _ hV0) (Nat.le_of_lt (Nat.lt_of_lt_of_le hV (Nat.pow_le_pow_right B_pos (by omega)))))).symm
theorem news_cells {w2 wc:World} {b o n y:Nat} (hcell:∀ i,i<n→w2.cell? ⟨b,o+i,none⟩=some (.int .u32 (dg y i:Nat))) (hb:Bw w2 wc) :
  ∀ j u,(cells y n)[j]?=some u→wc.cell? ((⟨b,o,none⟩:Addr).add j)=some u:=fun j u hj=>by
 have hjl:j<n:=by
  have:=(List.getElem?_eq_some_iff.1 hj).1
  rwa [cells_length] at this
 rw[cells_get hjl] at hj
 rw[show(⟨b,o,none⟩:Addr).add j=⟨b,o+j,none⟩ by simp[Addr.add],←hj]
 exact(hb.cell (World.block_lt_of_cell? _ _ (hcell j hjl))).trans (hcell j hjl)
theorem cells_one {y n:Nat}:∀ u ∈ cells y n,u.oneCell'=true:=by
 intro u hu;simp[cells] at hu;obtain⟨j,-,rfl⟩:=hu;rfl
theorem owns_lower {w:World} {b b' n:Nat} {v:Value} {xs:List Value} (h:w.ownsRow b 99 1 v n xs) (hb:b'≤b):w.ownsRow b' 99 1 v n xs:=by
 refine⟨h.1,?_⟩
 rcases h.2 with h|⟨g,cap,c,h1,h2,h3⟩
 ·exact .inl h
 ·exact .inr ⟨g,cap,c,h1,Nat.le_trans hb h2,h3⟩
theorem app_done {w3 w4 w5:World} {n Y:Nat} {v:Value} (h4:Bw w3 w4) (ho:w5.ownsRow w4.heap.size 99 1 v (0+n) ([]++cells Y n)) (hg:w4.grownBy w5 none):w5.ownsRow w3.heap.size 99 1 v n (cells Y n)∧Bw w3 w5:=by
 rw[Nat.zero_add,List.nil_append] at ho
 exact⟨owns_lower ho h4.size,h4.grown hg h4.size (fun k hk=>by cases hk)⟩
def slen:Value→Nat
 | .slice _ n _=>n
 | _=>0
theorem own_rowg {w:World} {base n y cap:Nat} {ao:Option Addr} (h:w.ownsRow base 99 1 (.slice ao n cap) n (cells y n)) (hn:0<n):∃ g,ao=some ⟨g,0,none⟩∧base≤g∧RowGe w g n (fun i=>.int .u32 (dg y i:Nat)):=by
 rcases h.2 with ⟨hv,h0⟩|⟨g,cap',c,hv,hb,hc,h1,h2,h3,h4⟩
 ·omega
 ·simp only[Value.slice.injEq] at hv
  refine⟨g,hv.1,hb,c,hc,by omega,fun i hi=>?_⟩
  have h5:(cells y n)[i]?=c[i]?:=by
   rw[←h4,Nat.mul_one,List.getElem?_take,if_pos hi,Array.getElem?_toList]
  rw[cells_get hi] at h5
  exact h5.symm
theorem two_start {w3 wr w8:World} {g na Y V M bv:Nat} (hB:Bw w3 wr) (hr:RowGe wr g (na+1) (fun i=>.int .u32 (dg Y i:Nat))) (hg:w3.heap.size≤g) (hw:w8=wr.alloc (.cells (madeCells #[.int .u32 0] (M+1)) 99)) (hYV:Y<V*B^(M+1)) (hbv:bv<w3.heap.size) :
  Two g wr.heap.size w8 w8 (na+1) (M+1) (dg (Y % (V*B^(M+1)))) (fun t=>if M+1≤t then dg (Y / V) t else 0)∧Bw w3 w8∧g≠wr.heap.size∧bv≠g∧bv≠wr.heap.size:=by
 have hgl:=hr.lt
 have hs:=hB.size
 rw[Nat.mod_eq_of_lt hYV]
 refine⟨⟨rfl,rfl,rfl,rfl,fun _ _ _=>rfl,?_,?_⟩,?_,by omega,by omega,by omega⟩
 ·exact hr.of_block (by rw[hw];exact Lib.alloc_old wr _ _ (by omega))
 ·have:=(Mk.start wr (M+1)).row
  rw[←hw] at this
  exact(RowGe.of this (Nat.le_refl _)).congr fun i hi=>by rw[if_neg (by omega)]
 ·rw[hw];exact hB.alloc hs _
theorem dv_dec {D:Nat} (h:1≤D):Value.int .u64 ((D:Int) - 1)=.int .u64 ((D - 1:Nat):Int):=congrArg (Value.int .u64) (by omega)
theorem dv_done {a b D:Nat} (h:a≤D∧D≤b) (h2:D<B):a≤D∧D≤b∧D<B:=⟨h.1,h.2,h2⟩
theorem put_in {off j z s:Nat} {f:Nat→Nat} (h:s<j):put off j z f (off+s)=dg z s:=by
 unfold put
 rw[if_pos (by omega),Nat.add_sub_cancel_left]
theorem close_neg {g h:Nat} {w8 wi:World} {na M j q z V R D Y sd:Nat} (HM:Two g h w8 wi (na+1) (M+1) (put j q (z+V) (put j (q+1) z (dg (Y % (V*B^(j+1)))))) (fun t=>if j+1≤t then dg (Y / V) t else 0)) (hgh:g≠h) (hsd:sd=dg (z+V) q) (hz:z=wsub R (V*D) (q+1)) (hneg:R<V*D) (hD:R / V≤D∧D≤R / V+1∧D<B) (hN:V<B^q∧0<V) (hR:R=Y / B^j % (V*B)∧R<B^(q+1)) (hj:j≤M) :
  (∃ jj:Nat,jj≤M+1∧Value.int .i64 ((j:Int) - 1)=.int .i64 ((jj:Int) - 1)∧Two g h w8 ((wi.setCell ⟨g,j+q,none⟩ (.int .u32 (sd:Nat))).setCell ⟨h,j,none⟩ (.int .u32 ((D:Int) - 1))) (na+1) (M+1) (dg (Y % (V*B^jj))) (fun t=>if jj≤t then dg (Y / V) t else 0))∧(intOf (Value.int .i64 ((j:Int) - 1))+1).toNat<(intOf (Value.int .i64 (((j+1:Nat):Int) - 1))+1).toNat:=by
 have hm:V*D<B^(q+1):=by rw[Bpow_succ];exact Nat.mul_lt_mul_of_lt_of_le hN.1 (Nat.le_of_lt hD.2.2) B_pos
 obtain⟨f1,f2⟩:=fin_gt hR.2 hm hneg hD.2.1 hN.2
 rw[←hz] at f2
 refine⟨⟨j,by omega,rfl,?_⟩,by simp[intOf]⟩
 have t1:=HM.putU hgh (d:=(sd:Int)) (by rw[hsd])
 have t2:=t1.setQ hgh j (D - 1)
 have hD1:1≤D:=by rw[f1];exact Nat.le_add_left _ _
 have hDe:D - 1=R / V:=by rw[f1,Nat.add_sub_cancel]
 rw[show((D:Int) - 1)=((D - 1:Nat):Int) by omega]
 refine t2.congr (fun i hi=>?_) (fun i hi=>?_)
 ·refine fin_row (z:=z+V) hN.2 hN.1 hR.1 hR.2 (fun t ht=>by rw[f2,dg_plus ht]) (fun i=>?_) i
  unfold put
  by_cases h1:j≤i∧i<j+(q+1)
  ·rw[if_pos h1,if_pos h1]
  ·rw[if_neg h1,if_neg h1,if_neg h1]
 ·show(if i=j then D - 1 else if j+1≤i then dg (Y / V) i else 0)=if j≤i then dg (Y / V) i else 0
  by_cases h1:i=j
  ·rw[if_pos h1,if_pos (by omega),h1,←win_quo,←hR.1];exact hDe
  ·rw[if_neg h1]
   by_cases h2:j+1≤i
   ·rw[if_pos h2,if_pos (by omega)]
   ·rw[if_neg h2,if_neg (by omega)]
theorem close_pos {g h:Nat} {w8 wk:World} {na M j q V R D Y:Nat} (HM:Two g h w8 wk (na+1) (M+1) (put j (q+1) (wsub R (V*D) (q+1)) (dg (Y % (V*B^(j+1))))) (fun t=>if j+1≤t then dg (Y / V) t else 0)) (hgh:g≠h) (hF:D=R / V∧wsub R (V*D) (q+1)=R % V) (hN:V<B^q∧0<V) (hR:R=Y / B^j % (V*B)∧R<B^(q+1)) (hj:j≤M) :
  (∃ jj:Nat,jj≤M+1∧Value.int .i64 ((j:Int) - 1)=.int .i64 ((jj:Int) - 1)∧Two g h w8 (wk.setCell ⟨h,j,none⟩ (.int .u32 (D:Int))) (na+1) (M+1) (dg (Y % (V*B^jj))) (fun t=>if jj≤t then dg (Y / V) t else 0))∧(intOf (Value.int .i64 ((j:Int) - 1))+1).toNat<(intOf (Value.int .i64 (((j+1:Nat):Int) - 1))+1).toNat:=by
 refine⟨⟨j,by omega,rfl,?_⟩,by simp[intOf]⟩
 have t2:=HM.setQ hgh j D
 refine t2.congr (fun i hi=>?_) (fun i hi=>?_)
 ·refine fin_row (z:=wsub R (V*D) (q+1)) hN.2 hN.1 hR.1 hR.2 (fun t ht=>by rw[hF.2]) (fun i=>?_) i
  rfl
 ·show(if i=j then D else if j+1≤i then dg (Y / V) i else 0)=if j≤i then dg (Y / V) i else 0
  by_cases h1:i=j
  ·rw[if_pos h1,if_pos (by omega),h1,←win_quo,←hR.1];exact hF.1
  ·rw[if_neg h1]
   by_cases h2:j+1≤i
   ·rw[if_pos h2,if_pos (by omega)]
   ·rw[if_neg h2,if_neg (by omega)]
theorem pad_round {w3 wr w4:World} {Y j na:Nat} {v':Value} {au:Option Addr} {cu:Nat} (ho:wr.ownsRow w3.heap.size 99 1 (.slice au j cu) j (cells Y j)) (hB:Bw w3 wr) (h1:dlen Y≤j) (h2:j<na+1)
  (hown:w4.ownsRow w3.heap.size 99 1 v' (j+1) (cells Y j ++ [.int .u32 0])) (hg:(wr.alloc (.cells #[.int .u32 0] 99)).grownBy w4 (Value.slice au j cu).ownBlock) :
  (∃ j_1:Nat,dlen Y≤j_1∧j_1≤na+1∧w4.ownsRow w3.heap.size 99 1 v' j_1 (cells Y j_1)∧Bw w3 w4)∧na+1 - slen v'<na+1 - slen (.slice au j cu):=by
 have e:cells Y (j+1)=cells Y j ++ [.int .u32 0]:=by rw[cells_succ,dg_past h1];rfl
 rw[←e] at hown
 obtain⟨ao',cap',rfl,-,-⟩:=at_of_row hown
 refine⟨⟨j+1,by omega,by omega,hown,?_⟩,by simp[slen];omega⟩
 exact(hB.alloc hB.size _).grown hg (by simp;have:=hB.size;omega) (fun k hk=>(ho.lt k hk).1)
theorem rdiv_2 (ao bo:Option Addr) (na nb ca cb x y p S bly Y V M:Nat) (w:World) (hna:na≤100000000) (hnb:nb≤100000000) (hb1:2≤nb) (hab:nb+M=na) (hS:S<32) (hb:bly≤3200000000)
  (hp:((bly:Int) - 1).tmod 32=(p:Int)) (hpS:32 - (p:Int) - 1=(S:Int)) (hbp:1≤bly) (hYn:0<dlen Y) (hYl:dlen Y≤na+1) (hVn:dlen V=nb) (hVt:B≤2*dg V (nb - 1)) (hYV:Y<V*B^(M+1))
  (kO:∀ W,Bw w W→Calls Tryz.prog 100 #[.slice ao na ca,.slice bo nb cb] W fun e w'=>e=.returned (.int .i64 (cmpI x y))∧Bw W w') (hc:¬ cmpI x y<0)
  (kZ:∀ W,Bw w W→Calls Tryz.prog 130 #[.slice bo nb cb] W fun e w'=>e=.returned (.int .i64 bly)∧w'=W)
  (kU:∀ W,Bw w W→Calls Tryz.prog 82 #[.slice bo nb cb,.int .i64 (S:Int)] W fun e w'=>∃ v,e=.returned v∧Ir w' v V∧Bw W w')
  (kX:∀ W,Bw w W→Calls Tryz.prog 82 #[.slice ao na ca,.int .i64 (S:Int)] W fun e w'=>∃ v,e=.returned v∧Ir w' v Y∧Bw W w') :
  Calls Tryz.prog 131 #[.slice ao na ca,.slice bo nb cb] w fun e w'=>∃ q r,e=.returned (.tuple #[q,r])∧Ir w' q (Y / V)∧Ir w' r (Y % V / 2^S)∧Bw w w':=by
 have hn1:((nb:Int)==1)=false:=by simp;omega
 have k0:=kO w (Below.refl _ _)
 have HKZ:Hid _:=kZ
 have HKU:Hid _:=kU
 have HKX:Hid _:=kX
 have HY:Hid (0<dlen Y∧dlen Y≤na+1):=⟨hYn,hYl⟩
 have HVV:Hid (dlen V=nb∧B≤2*dg V (nb - 1)∧Y<V*B^(M+1)):=⟨hVn,hVt,hYV⟩
 clear kO kZ kU kX hYn hYl hVn hVt hYV
 go_enter Tryz.func131,Tryz.ntmps131
 go_wp2_with fail
 refine k0.mono ?_
 rintro r w1 ⟨rfl,hb1'⟩
 have HB1:Hid (Bw w w1):=hb1'
 have kz:=HKZ.out w1 hb1'
 have ku:=HKU.out w1 hb1'
 clear k0 hb1' HKZ HKU
 go_wp2_with fail
 refine kz.mono ?_
 rintro r w2 ⟨rfl,rfl⟩
 clear kz
 go_wp2_with fail
 refine ku.mono ?_
 rintro r w3 ⟨vv,rfl,hIv,hb3⟩
 have HB3:Hid (Bw w w3):=HB1.out.trans (hb3.mono HB1.out.size)
 have HV:Hid (Ir w3 vv V):=hIv
 have HB33:Hid (Bw w3 w3.drew):=(⟨rfl,rfl,rfl,Nat.le_refl _,fun _ _=>rfl⟩:Bw w3 w3.drew)
 clear ku hIv hb3
 go_upto_region 8 with fail
 have hmk:=run_make_row' (P:=Tryz.prog) 43 99 (.int .u32 0) 4 Tryz.underlying43 Tryz.info99 rfl .i64 .i64 0 (by omega) (by omega)
 rw[show((0:Nat):Int)=0 from rfl] at hmk
 obtain⟨i0,hi0,hz0,hz1,hz2⟩:=info_parts Tryz.info99
 go_cut [10] from 60 to 64 (fun v wx=>Hid (wx.ownsRow w3.heap.size 99 1 v (dlen Y) (cells Y (dlen Y))∧Bw w3 wx))
 case first =>
  have hP1:Bw w w3.drew:=HB3.out.trans (HB33.out.mono HB3.out.size)
  have hP2:∀ o,Below w.heap.size w (w3.drew.alloc o):=fun o=>hP1.alloc hP1.size o
  have hQ2:∀ o,Below w3.heap.size w3 (w3.drew.alloc o):=fun o=>HB33.out.alloc HB33.out.size o
  have kx:=HKX.out
  have hYp:=HY.out.1
  have hYq:=HY.out.2
  go_region_held3 (fun _=>True) (trivial)
   (first|(go_at_call 82;refine(kx _ (by first|exact hP1|exact hP2 _)).mono ?_;rintro r w4 ⟨vx,rfl,⟨ax,cx,rfl,hcx,bx,ox,hbx,hcellx⟩,hb4⟩;obtain rfl:=hbx hYp)|(refine step_append_grows rfl (.tmp 60) (.tmp 63) 43 rfl 99 i0 (.int .u32 0) 1 4 Tryz.underlying43 hi0 hz0 hz1 hz2 rfl (by decide) (some ⟨_,0,none⟩) 0 0 [] (by simp[Act.eval,Act.put];rfl) (fun h=>by cases h) rfl (fun _ _ j u h=>by simp at h) ⟨bx,ox,none⟩ (dlen Y) cx (cells Y (dlen Y)) (by simp[Act.eval,Act.put]) (by rw[cells_length,Nat.mul_one]) (news_cells hcellx (by first|exact Below.refl _ _|exact(Below.refl _ _).alloc (Nat.le_refl _) _)) cells_one (by omega) (by unfold maxLen;omega) (by omega) ?_;intro v5 w5 hown hgrow))
  all_goals go_wp2_with fail
  all_goals go_meet
  ·exact app_done ((hQ2 _).trans (hb4.mono (hQ2 _).size)) hown hgrow
  ·exact app_done ((HB33.out.trans (hb4.mono HB33.out.size)).alloc (HB33.out.trans (hb4.mono HB33.out.size)).size _) hown hgrow
 case rest =>
  obtain⟨w6,hw6⟩:∃ W2:World,W2=wc:=⟨_,rfl⟩
  rw[←hw6] at hcut ⊢
  clear hw6 wc hmk HKX
  go_wp2_with fail
  go_loopw [10] (fun v wr=>∃ j:Nat,dlen Y≤j∧j≤na+1∧wr.ownsRow w3.heap.size 99 1 v j (cells Y j)∧Bw w3 wr) (fun v _=>na+1 - slen v)
  case atStart=>exact⟨dlen Y,Nat.le_refl _,HY.out.2,hcut.out.1,hcut.out.2⟩
  case round =>
   obtain⟨j,hj1,hj2,ho,hB⟩:=hrel
   obtain⟨au,cu,rfl,hcu,hAu⟩:=at_of_row ho
   by_cases hjn:j<na+1
   ·have hji:(j:Int)≤(na:Int):=by omega
    have HO:Hid (wr.ownsRow w3.heap.size 99 1 (.slice au j cu) j (cells Y j)∧Bw w3 wr):=⟨ho,hB⟩
    have hbs:w3.heap.size≤wr.heap.size:=hB.size
    clear hB hcut hAu
    go_wp2_with (at_builtin;refine wpList_append_own _ rfl _ _ 43 rfl w3.heap.size 99 i0 (.int .u32 0) 1 4 Tryz.underlying43 hi0 hz0 hz1 hz2 rfl (by decide) _ _ _ rfl (ho.alloc _) ⟨wr.heap.size,0,none⟩ 1 1 [.int .u32 0] rfl rfl (cell_one_new _ _ _) (by intro u hu;simp at hu;subst hu;rfl) (by unfold maxLen;omega) (by omega) (by simp;omega) ?_)
    intro v' w4 hown4 hgrow _
    go_wp2
    exact pad_round HO.out.1 HO.out.2 hj1 hjn hown4 hgrow
   ·obtain rfl:j=na+1:=by omega
    obtain⟨g,hg⟩:=own_rowg ho (by omega)
    obtain⟨rfl,hg3,hgrow⟩:=hg
    obtain⟨av,cv,rfl,hcv,bv,ov,hbv,hcellv⟩:=HV.out
    have hdv:=HVV.out.1
    rw[hdv] at hcv hbv hcellv ⊢
    obtain rfl:=hbv (by omega)
    have hmk:=run_make_row' (P:=Tryz.prog) 43 99 (.int .u32 0) 4 Tryz.underlying43 Tryz.info99 rfl .i64 .i64 (M+1) (by omega) (by omega) wr
    have eM:(na:Int)+1 - (nb:Int) - 1=(M:Int):=by omega
    have eM2:(na:Int)+1 - (nb:Int)=(M:Int)+1:=by omega
    rw[show((M+1:Nat):Int)=(M:Int)+1 by omega] at hmk
    have HW:Hid (Bw w3 wr∧RowGe wr g (na+1) (fun i=>.int .u32 (dg Y i:Nat))∧w3.heap.size≤g∧na+1≤cu):=⟨hB,hgrow,hg3,hcu⟩
    have HCV:Hid (∀ i,i<nb→w3.cell? ⟨bv,ov+i,none⟩=some (.int .u32 (dg V i:Nat))):=hcellv
    clear ho hB hcut hAu hcellv hbv hgrow hi0 hz0 hz1 hz2 hjn HV hdv
    go_wp2_with fail
    obtain⟨w8,hw8⟩:∃ w8,w8=wr.alloc (.cells (madeCells #[.int .u32 0] (M+1)) 99):=⟨_,rfl⟩
    obtain⟨hT,hBw8,hgh,hbg,hbh⟩:=two_start HW.out.1 HW.out.2.1 HW.out.2.2.1 hw8 HVV.out.2.2 (World.block_lt_of_cell? _ _ (HCV.out 0 (by omega)))
    rw[←hw8]
    have HT:Hid (Two g wr.heap.size w8 w8 (na+1) (M+1) (dg (Y % (V*B^(M+1)))) (fun t=>if M+1≤t then dg (Y / V) t else 0)):=hT
    obtain⟨h,hh⟩:∃ h,h=wr.heap.size:=⟨_,rfl⟩
    rw[←hh] at hgh hbh HT ⊢
    have HW8:Hid (Bw w3 w8∧w3.heap.size≤g∧w3.heap.size≤h):=⟨hBw8,HW.out.2.2.1,by rw[hh];exact HW.out.1.size⟩
    clear hw8 hT hBw8 hh hmk HW
    go_loopw [14] (fun c wr=>∃ jj:Nat,jj≤M+1∧c=.int .i64 ((jj:Int) - 1)∧Two g h w8 wr (na+1) (M+1) (dg (Y % (V*B^jj))) (fun t=>if jj≤t then dg (Y / V) t else 0)) (fun c _=>(intOf c+1).toNat)
    case atStart=>exact⟨M+1,Nat.le_refl _,by rw[show((M+1:Nat):Int) - 1=(M:Int) by omega],HT.out⟩
    case round =>
     obtain⟨jj,hjj,rfl,hTw⟩:=hrel
     by_cases hj0:0<jj
     ·obtain⟨j,rfl⟩:∃ j,jj=j+1:=⟨jj - 1,by omega⟩
      obtain⟨R,hR⟩:∃ R,R=Y / B^j % (V*B):=⟨_,rfl⟩
      have hV0:0<V:=Nat.pos_of_ne_zero fun e=>by have:=HVV.out.1;rw[e,dlen_zero] at this;omega
      have hRV:R<V*B:=by rw[hR];exact Nat.mod_lt _ (Nat.mul_pos hV0 B_pos)
      have hRB:R<B^(nb+1):=by
       rw[Nat.pow_succ]
       exact Nat.lt_of_lt_of_le hRV (Nat.mul_le_mul_right _ (Nat.le_of_lt (by have:=lt_dlen V;rw[HVV.out.1] at this;exact this)))
      have gs:=gs_of hb1 HVV.out.1 HVV.out.2.1 hRV
      have htt:=top_two (X:=R) (n:=nb) (by omega) hRB
      obtain⟨i1,e1⟩:∃ i1:Nat,(j:Int)+(nb:Int) - 1=(i1:Int):=⟨j+nb - 1,by omega⟩
      obtain⟨i2,e2⟩:∃ i2:Nat,(j:Int)+(nb:Int) - 2=(i2:Int):=⟨j+nb - 2,by omega⟩
      obtain⟨k1,f1⟩:∃ k1:Nat,(nb:Int) - 1=(k1:Int):=⟨nb - 1,by omega⟩
      obtain⟨k2,f2⟩:∃ k2:Nat,(nb:Int) - 2=(k2:Int):=⟨nb - 2,by omega⟩
      have hcells:∀ wi,Two g h w8 wi (na+1) (M+1) (dg (Y % (V*B^(j+1)))) (fun t=>if j+1≤t then dg (Y / V) t else 0)→wi.cell? ⟨g,j+nb,none⟩=some (.int .u32 (dg R nb:Nat))∧wi.cell? ⟨g,i1,none⟩=some (.int .u32 (dg R k1:Nat))∧wi.cell? ⟨g,i2,none⟩=some (.int .u32 (dg R k2:Nat))∧wi.cell? ⟨bv,ov+k1,none⟩=some (.int .u32 (dg V k1:Nat))∧wi.cell? ⟨bv,ov+k2,none⟩=some (.int .u32 (dg V k2:Nat)):=fun wi hTw=>by
       have c1:=hTw.cellU (i:=j+nb) (by omega)
       have c2:=hTw.cellU (i:=j+k1) (by omega)
       have c3:=hTw.cellU (i:=j+k2) (by omega)
       rw[win_dig,←hR] at c1 c2 c3
       rw[show i1=j+k1 by omega,show i2=j+k2 by omega]
       exact⟨c1,c2,c3,hTw.old (p:=⟨bv,ov+k1,none⟩) hbg hbh ((HW8.out.1.cell (World.block_lt_of_cell? _ _ (HCV.out k1 (by omega)))).trans (HCV.out k1 (by omega))),hTw.old (p:=⟨bv,ov+k2,none⟩) hbg hbh ((HW8.out.1.cell (World.block_lt_of_cell? _ _ (HCV.out k2 (by omega)))).trans (HCV.out k2 (by omega)))⟩
      have gs2:Gs R V (dg V k1) (dg V k2) (R / B^k1) (dg R k2) nb:=by
       have:=gs
       rw[show nb - 1=k1 by omega,show nb - 2=k2 by omega] at this
       exact this
      rw[show nb - 1=k1 by omega] at htt
      clear gs
      generalize hv1:dg V k1=v1 at *
      generalize hv2:dg V k2=v2 at *
      generalize ha:dg R nb=ra at *
      generalize hb':dg R k1=rb at *
      generalize hr3:dg R k2=r3 at *
      have hraB:ra<B:=ha ▸ dg_lt _ _
      have hrbB:rb<B:=hb' ▸ dg_lt _ _
      generalize ht:R / B^k1=t at *
      have htw:bits BinOp.or IntKind.u64 (IntKind.u64.wrap (IntKind.u64.wrap (ra:Int)*4294967296)) (IntKind.u64.wrap (rb:Int))=(t:Int):=by
       rw[←htt,Nat.add_comm];exact two_digits' hrbB hraB
      have GS:Hid (Gs R V v1 v2 t r3 nb):=gs2
      have HTw:Hid (Two g h w8 wr (na+1) (M+1) (dg (Y % (V*B^(j+1)))) (fun t=>if j+1≤t then dg (Y / V) t else 0)):=hTw
      have HR:Hid (R=Y / B^j % (V*B)∧R<B^(nb+1)):=⟨hR,hRB⟩
      have hv1w:=wrap_d gs2.v1B
      have hv2w:=wrap_d gs2.v2B
      have hr3w:=wrap_d gs2.r3B
      have hv1z:((v1:Int)==0)=false:=by have:=gs2.v1p;simp;omega
      have hv1n:(v1:Int)≠0:=by have:=gs2.v1p;omega
      have hq1:IntKind.u64.wrap ((t:Int) / (v1:Int))=((t / v1:Nat):Int):=by
       have h1:=gs2.tB
       have h2:t / v1≤t:=Nat.div_le_self _ _
       rw[show(t:Int) / (v1:Int)=((t / v1:Nat):Int)from rfl,IntKind.wrap_u64]
       have h3:B*B=18446744073709551616:=by unfold B;rfl
       generalize t / v1=q at *
       omega
      have hj1:((j+1:Nat):Int) - 1=(j:Int):=by omega
      have HCL:Hid (∀ wi,Two g h w8 wi (na+1) (M+1) (dg (Y % (V*B^(j+1)))) (fun t=>if j+1≤t then dg (Y / V) t else 0)→wi.cell? ⟨g,j+nb,none⟩=some (.int .u32 (ra:Nat))∧wi.cell? ⟨g,i1,none⟩=some (.int .u32 (rb:Nat))∧wi.cell? ⟨g,i2,none⟩=some (.int .u32 (r3:Nat))∧wi.cell? ⟨bv,ov+k1,none⟩=some (.int .u32 (v1:Nat))∧wi.cell? ⟨bv,ov+k2,none⟩=some (.int .u32 (v2:Nat))):=hcells
      obtain⟨c1,c2,c3,d1,d2⟩:=hcells wr hTw
      clear hTw hR hRV hRB gs2 htt hv1 hv2 ha hb' hr3 hraB hrbB ht hV0 hcells
      go_wp2
      go_quiet (fail)
      have HTq:Hid (Two g h w8 (wr.drewN nq) (na+1) (M+1) (dg (Y % (V*B^(j+1)))) (fun t=>if j+1≤t then dg (Y / V) t else 0)):=HTw.out.drewN nq
      obtain⟨wq,hwq⟩:∃ wq,wq=wr.drewN nq:=⟨_,rfl⟩
      rw[←hwq] at HTq ⊢
      clear hwq c1 c2 c3 d1 d2 HTw
      obtain⟨c1,c2,c3,d1,d2⟩:=HCL.out wq HTq.out
      go_upto_block 4 with fail
      go_cut [16,17] from 121 to 156 (fun d r wx=>∃ D:Nat,d=.int .u64 (D:Nat)∧Hid (R / V≤D∧D≤R / V+1∧D<B)∧Hid (Two g h w8 wx (na+1) (M+1) (dg (Y % (V*B^(j+1)))) (fun t=>if j+1≤t then dg (Y / V) t else 0)))
      case first =>
       clear c1 c2 c3 d1 d2
       go_wp2_with fail
       go_loopw [16,17] (fun d r wi=>∃ D r':Nat,d=.int .u64 (D:Nat)∧r=.int .u64 (r':Nat)∧r'<B∧Hid (Kn R V v1 t D r')∧Hid (Two g h w8 wi (na+1) (M+1) (dg (Y % (V*B^(j+1)))) (fun t=>if j+1≤t then dg (Y / V) t else 0))) (fun d _ _=>(intOf d).toNat)
       case atStart=>exact⟨t / v1,t % v1,by first|rfl|rw[hq1],rfl,Nat.lt_trans (Nat.mod_lt _ (by have:=GS.out.v1p;omega)) GS.out.v1B,GS.out.start,HTq.out⟩
       case round =>
        obtain⟨D,r,rfl,rfl,hrB,HK,HTi⟩:=hrel
        obtain⟨wi,rfl⟩:∃ wi:World,wi=wr:=⟨_,rfl⟩
        obtain⟨c1,c2,c3,d1,d2⟩:=HCL.out wi HTi.out
        have hDl:D≤B+1:=HK.out.le
        have hr1:(r:Int)<4294967296:=by unfold B at hrB;omega
        by_cases hdB:B≤D
        ·have hdi:(4294967296:Int)≤(D:Int):=by unfold B at hdB;omega
         have hls:=GS.out.less HK.out (.inl hdB)
         have HL:Hid (Kn R V v1 t (D - 1) (r+v1)∧1≤D):=hls
         have hbr:=fun hc=>GS.out.brk HK.out hrB hc
         have HBR:Hid (B≤r+v1→D - 1<B):=hbr
         have hD1:(1:Int)≤(D:Int):=by omega
         have hDu:(D:Int)≤4294967297:=by unfold B at hDl;omega
         have hv1u:(v1:Int)<4294967296:=by have:=GS.out.v1B;unfold B at this;omega
         clear hls hbr
         go_wp2
         go_quiet (fail)
         have HTj:Hid (Two g h w8 (wi.drewN nq) (na+1) (M+1) (dg (Y % (V*B^(j+1)))) (fun t=>if j+1≤t then dg (Y / V) t else 0)):=HTi.out.drewN nq
         obtain⟨wj,hwj⟩:∃ wj,wj=wi.drewN nq:=⟨_,rfl⟩
         rw[←hwj] at HTj ⊢
         clear hwj c1 c2 c3 d1 d2 HTi
         obtain⟨c1,c2,c3,d1,d2⟩:=HCL.out wj HTj.out
         by_cases hbk:B≤r+v1
         ·have hbk1:(4294967296:Int)≤(r:Int)+(v1:Int):=by unfold B at hbk;omega
          go_wp2
          go_meet
          exact⟨D - 1,dv_dec HL.out.2,dv_done (GS.out.done HL.out.1 (HBR.out hbk) (.inr hbk)) (HBR.out hbk),HTj.out⟩
         ·have hbk1:¬ (4294967296:Int)≤(r:Int)+(v1:Int):=by unfold B at hbk;omega
          go_wp2
          exact⟨⟨D - 1,r+v1,dv_dec HL.out.2,rfl,by omega,HL.out.1,HTj.out⟩,by simp[intOf];omega⟩
        ·have hdi:¬ (4294967296:Int)≤(D:Int):=by unfold B at hdB;omega
         have hv2B:=GS.out.v2B
         have hr3B:=GS.out.r3B
         have hk2n:(k2:Int)<(nb:Int):=by omega
         have hi2n:(i2:Int)<(na:Int)+1:=by omega
         have hk2m:k2<nb:=by omega
         have hjnw:IntKind.i64.wrap ((j:Int)+(nb:Int))=(j:Int)+(nb:Int):=by rw[IntKind.wrap_i64];omega
         have hk2w:IntKind.i64.wrap (k2:Int)=(k2:Int):=by rw[IntKind.wrap_i64];omega
         have hi2w:IntKind.i64.wrap (i2:Int)=(i2:Int):=by rw[IntKind.wrap_i64];omega
         have hi2m:i2<na+1:=by omega
         obtain⟨P,hP⟩:∃ P:Nat,P=D*v2:=⟨_,rfl⟩
         obtain⟨Q1,hQ1⟩:∃ Q1:Nat,Q1=r*B:=⟨_,rfl⟩
         obtain⟨Q2,hQ2⟩:∃ Q2:Nat,Q2=r*B+r3:=⟨_,rfl⟩
         have hm1:IntKind.u64.wrap ((D:Int)*(v2:Int))=(P:Int):=by
          have:D*v2<B*B:=Nat.mul_lt_mul'' (by omega) hv2B
          have hBB:B*B=18446744073709551616:=by unfold B;rfl
          rw[←Int.natCast_mul,IntKind.wrap_u64,hP]
          generalize D*v2=m at *
          omega
         have hm2:IntKind.u64.wrap ((r:Int)*4294967296)=(Q1:Int):=by
          rw[hQ1,IntKind.wrap_u64];unfold B at *; omega
         have hm3:IntKind.u64.wrap ((Q1:Int)+(r3:Int))=(Q2:Int):=by
          rw[hQ2,hQ1,IntKind.wrap_u64];unfold B at *; omega
         by_cases hgt:Q2<P
         ·have hgi:(Q2:Int)<(P:Int):=by omega
          have hls:=GS.out.less HK.out (.inr (by rw[←hQ2,←hP];exact hgt))
          have HL:Hid (Kn R V v1 t (D - 1) (r+v1)∧1≤D):=hls
          have hbr:=fun hc=>GS.out.brk HK.out hrB hc
          have HBR:Hid (B≤r+v1→D - 1<B):=hbr
          have hD1:(1:Int)≤(D:Int):=by omega
          have hDu:(D:Int)≤4294967297:=by unfold B at hDl;omega
          have hv1u:(v1:Int)<4294967296:=by have:=GS.out.v1B;unfold B at this;omega
          clear hls hbr hP hQ1 hQ2
          go_wp2
          go_quiet (fail)
          have HTj:Hid (Two g h w8 (wi.drewN nq) (na+1) (M+1) (dg (Y % (V*B^(j+1)))) (fun t=>if j+1≤t then dg (Y / V) t else 0)):=HTi.out.drewN nq
          obtain⟨wj,hwj⟩:∃ wj,wj=wi.drewN nq:=⟨_,rfl⟩
          rw[←hwj] at HTj ⊢
          clear hwj c1 c2 c3 d1 d2 HTi
          obtain⟨c1,c2,c3,d1,d2⟩:=HCL.out wj HTj.out
          by_cases hbk:B≤r+v1
          ·have hbk1:(4294967296:Int)≤(r:Int)+(v1:Int):=by unfold B at hbk;omega
           go_wp2
           go_meet
           exact⟨D - 1,dv_dec HL.out.2,dv_done (GS.out.done HL.out.1 (HBR.out hbk) (.inr hbk)) (HBR.out hbk),HTj.out⟩
          ·have hbk1:¬ (4294967296:Int)≤(r:Int)+(v1:Int):=by unfold B at hbk;omega
           go_wp2
           exact⟨⟨D - 1,r+v1,dv_dec HL.out.2,rfl,by omega,HL.out.1,HTj.out⟩,by simp[intOf];omega⟩
         ·have hgi:¬ (Q2:Int)<(P:Int):=by omega
          have hdn:=GS.out.done HK.out (by omega) (.inl (by rw[←hQ2,←hP];omega))
          have HDN:Hid (R / V≤D∧D≤R / V+1∧D<B):=⟨hdn.1,hdn.2,by omega⟩
          clear hdn hP hQ1 hQ2
          have hd1:decide ((4294967296:Int)≤(D:Int))=false:=decide_eq_false (by omega)
          go_wp2
          go_quiet (fail)
          have HTj:Hid (Two g h w8 (wi.drewN nq) (na+1) (M+1) (dg (Y % (V*B^(j+1)))) (fun t=>if j+1≤t then dg (Y / V) t else 0)):=HTi.out.drewN nq
          obtain⟨wj,hwj⟩:∃ wj,wj=wi.drewN nq:=⟨_,rfl⟩
          rw[←hwj] at HTj ⊢
          clear hwj c1 c2 c3 d1 d2 HTi hm1 hm2 hm3 hk2w hi2w hjnw
          clear e1 e2 f1 f2 hv1w hv2w hr3w htw hq1 hk2n hi2n hk2m hi2m hv1z hv1n hDl hr1 hgt hdB hrB hv2B hr3B HK GS HCL HTq
          try simp only[hd1]
          go_wp2_with fail
          go_meet
          exact⟨D,rfl,HDN.out,HTj.out⟩
      case rest =>
       obtain⟨D,rfl,HD,HTx⟩:=hcut
       obtain⟨wx,rfl⟩:∃ wx:World,wx=wc:=⟨_,rfl⟩
       clear c1 c2 c3 d1 d2 HCL GS hv1w hv2w hr3w hv1z hv1n hq1 htw HTq e1 e2 f1 f2
       have HN:Hid (V<B^nb∧0<V):=⟨by have:=lt_dlen V;rw[HVV.out.1] at this;exact this,Nat.pos_of_ne_zero fun e=>by have:=HVV.out.1;rw[e,dlen_zero] at this;omega⟩
       go_wp2_with fail
       go_loopw [18,19,20] (fun b c i wi=>∃ s:Nat,s≤nb∧b=.int .u64 (subb R (V*D) s:Nat)∧c=.int .u64 (mulc V D s:Nat)∧i=.int .i64 (s:Int)∧Two g h w8 wi (na+1) (M+1) (put j s (wsub R (V*D) (nb+1)) (dg (Y % (V*B^(j+1))))) (fun t=>if j+1≤t then dg (Y / V) t else 0)) (fun _ _ i _=>nb - (intOf i).toNat)
       case atStart=>exact⟨0,Nat.zero_le _,by rw[subb_zero];rfl,by rw[mulc_zero];rfl,rfl,HTx.out.congr (fun s _=>(put_zero ..).symm) (fun _ _=>rfl)⟩
       case round =>
        obtain⟨s,hs,rfl,rfl,rfl,hM⟩:=hrel
        obtain⟨wi,rfl⟩:∃ wi:World,wi=wr:=⟨_,rfl⟩
        have HM:Hid (Two g h w8 wi (na+1) (M+1) (put j s (wsub R (V*D) (nb+1)) (dg (Y % (V*B^(j+1))))) (fun t=>if j+1≤t then dg (Y / V) t else 0)):=hM
        have c1:=hM.cellU (i:=j+s) (by omega)
        rw[put_past (by omega),win_dig,←HR.out.1] at c1
        have c2:=hM.frozenU (j+s)
        by_cases hsn:s<nb
        ·have d1:=hM.old (p:=⟨bv,ov+s,none⟩) hbg hbh ((HW8.out.1.cell (World.block_lt_of_cell? _ _ (HCV.out s hsn))).trans (HCV.out s hsn))
         have hsi:(s:Int)<(nb:Int):=by omega
         obtain⟨P,W,c',yy,b',sd,p1,p2,p3,p4,p5,p6,p7,q1,q2,q3⟩:=ms_step (R:=R) (V:=V) (D:=D) (s:=s) (n:=nb) HD.out.2.2 (by omega)
         have hw1:=wrap_d (dg_lt V s)
         have hw2:=wrap_d (dg_lt R s)
         rw[Nat.add_comm j s] at c1 c2
         have HQ:Hid (c'=mulc V D (s+1)∧b'=subb R (V*D) (s+1)∧sd=dg (wsub R (V*D) (nb+1)) s):=⟨q1,q2,q3⟩
         generalize dg V s=vs at *
         generalize dg R s=us at *
         generalize mulc V D s=mc at *
         generalize subb R (V*D) s=sb at *
         clear hM q1 q2 q3
         go_wp2
         exact⟨⟨s+1,by omega,by rw[HQ.out.2.1],by rw[HQ.out.1],rfl,by rw[Nat.add_comm s j];exact HM.out.putU hgh (by rw[HQ.out.2.2])⟩,by simp[intOf];omega⟩
        ·obtain rfl:s=nb:=by omega
         have hsi:¬ (s:Int)<(s:Int):=by omega
         obtain⟨W,sd,p5,p6,p7,q3⟩:=ms_top (R:=R) (V:=V) (D:=D) (n:=s) HD.out.2.2 HN.out.1 HR.out.2
         have hw2:=wrap_d (dg_lt R s)
         obtain⟨wk,hwk⟩:∃ wk,wk=wi.setCell ⟨g,j+s,none⟩ (.int .u32 (sd:Nat)):=⟨_,rfl⟩
         have HK2:Hid (Two g h w8 wk (na+1) (M+1) (put j (s+1) (wsub R (V*D) (s+1)) (dg (Y % (V*B^(j+1))))) (fun t=>if j+1≤t then dg (Y / V) t else 0)):=by rw[hwk];exact HM.out.putU hgh (by rw[q3])
         by_cases hneg:R<V*D
         ·rw[decide_eq_true hneg] at p7
          generalize dg R s=us at *
          generalize mulc V D s=mc at *
          generalize subb R (V*D) s=sb at *
          have hmj:(j:Int)<(M:Int)+1:=by omega
          clear hM q3
          have hD0:D≠0:=fun h=>by rw[h,Nat.mul_zero] at hneg;omega
          have hD1:(1:Int)≤(D:Int):=by omega
          have hDu:(D:Int)<4294967296:=by have:=HD.out.2.2;unfold B at this;omega
          have hDm:((D:Int) - 1) % 4294967296=(D:Int) - 1:=by omega
          go_upto_region 36 with fail
          rw[←hwk]
          clear hwk c1 c2 p5 p6 p7 hw2 HM HTx
          obtain⟨z,hz⟩:∃ z,z=wsub R (V*D) (s+1):=⟨_,rfl⟩
          rw[←hz] at HK2
          have HZ:Hid (z=wsub R (V*D) (s+1)∧R<V*D):=⟨hz,hneg⟩
          clear hz hneg
          go_wp2_with fail
          go_loopw [24,25] (fun c i wi=>∃ q:Nat,q≤s∧c=.int .u64 (addc z V q:Nat)∧i=.int .i64 (q:Int)∧Two g h w8 wi (na+1) (M+1) (put j q (z+V) (put j (s+1) z (dg (Y % (V*B^(j+1)))))) (fun t=>if j+1≤t then dg (Y / V) t else 0)) (fun _ i _=>s - (intOf i).toNat)
          case atStart=>exact⟨0,Nat.zero_le _,by rw[addc_zero];rfl,rfl,HK2.out.congr (fun s _=>(put_zero ..).symm) (fun _ _=>rfl)⟩
          case round =>
           obtain⟨q,hq,rfl,rfl,hM⟩:=hrel
           obtain⟨wi,rfl⟩:∃ wi:World,wi=wr:=⟨_,rfl⟩
           have HM:Hid (Two g h w8 wi (na+1) (M+1) (put j q (z+V) (put j (s+1) z (dg (Y % (V*B^(j+1)))))) (fun t=>if j+1≤t then dg (Y / V) t else 0)):=hM
           have c1:=hM.cellU (i:=j+q) (by omega)
           rw[put_past (by omega),put_in (by omega)] at c1
           have c2:=hM.frozenU (j+q)
           by_cases hqs:q<s
           ·have d1:=hM.old (p:=⟨bv,ov+q,none⟩) hbg hbh ((HW8.out.1.cell (World.block_lt_of_cell? _ _ (HCV.out q hqs))).trans (HCV.out q hqs))
            have hsi:(q:Int)<(s:Int):=by omega
            obtain⟨T,c',sd2,p1,p2,p3,q1,q2⟩:=ad_step z V q
            have hw1:=wrap_d (dg_lt V q)
            have hw2:=wrap_d (dg_lt z q)
            rw[Nat.add_comm j q] at c1 c2
            have HQ:Hid (c'=addc z V (q+1)∧sd2=dg (z+V) q):=⟨q1,q2⟩
            generalize dg V q=vs at *
            generalize dg z q=us at *
            generalize addc z V q=mc at *
            have hjq:(q:Int)+(j:Int)<(na:Int)+1:=by omega
            clear hM q1 q2
            go_wp2
            go_quiet (fail)
            have HMq:Hid (Two g h w8 (wi.drewN nq) (na+1) (M+1) (put j q (z+V) (put j (s+1) z (dg (Y % (V*B^(j+1)))))) (fun t=>if j+1≤t then dg (Y / V) t else 0)):=HM.out.drewN nq
            have c1':(wi.drewN nq).cell? ⟨g,q+j,none⟩=some (.int .u32 (us:Nat)):=c1
            have c2':(wi.drewN nq).frozen? ⟨g,q+j,none⟩=false:=c2
            generalize wi.drewN nq=wj at *
            go_wp2
            exact⟨⟨q+1,by omega,by rw[HQ.out.1],rfl,by rw[Nat.add_comm q j];exact HMq.out.putU hgh (by rw[HQ.out.2])⟩,by simp[intOf];omega⟩
           ·obtain rfl:q=s:=by omega
            have hsi:¬ (q:Int)<(q:Int):=by omega
            obtain⟨sd2,p1,q2⟩:=ad_top (z:=z) HN.out.1
            have HQ:Hid (sd2=dg (z+V) q):=q2
            have hqc:=hM.frozenQ j
            have hqd:=hM.cellQ (i:=j) (by omega)
            generalize dg z q=us at *
            generalize addc z V q=mc at *
            clear hM q2
            go_wp2
            exact close_neg HM.out hgh HQ.out HZ.out.1 HZ.out.2 HD.out HN.out HR.out (by omega)
         ·rw[decide_eq_false hneg] at p7
          have hfl:=fin_le HR.out.2 hneg HD.out.1 HN.out.2
          have HF:Hid (D=R / V∧wsub R (V*D) (s+1)=R % V):=hfl
          have hqc:=HK2.out.frozenQ j
          have hqd:=HK2.out.cellQ (i:=j) (by omega)
          have hDm:(D:Int) % 4294967296=(D:Int):=by have:=HD.out.2.2;unfold B at this;omega
          generalize dg R s=us at *
          generalize mulc V D s=mc at *
          generalize subb R (V*D) s=sb at *
          have hmj:(j:Int)<(M:Int)+1:=by omega
          clear hM q3 hfl
          go_upto_region 45 with fail
          rw[←hwk]
          clear hwk
          go_wp2
          exact close_pos HK2.out hgh HF.out HN.out HR.out (by omega)
     ·obtain rfl:jj=0:=by omega
      have hTF:Two g h w8 wr (na+1) (M+1) (dg (Y % V)) (dg (Y / V)):=hTw.congr (fun i _=>by rw[Nat.pow_zero,Nat.mul_one]) (fun i _=>if_pos (Nat.zero_le _))
      have hV0:0<V:=Nat.pos_of_ne_zero fun e=>by have:=HVV.out.1;rw[e,dlen_zero] at this;omega
      have hAu:At wr (some ⟨g,0,none⟩) (na+1) (Y % V):=⟨g,0,fun _=>rfl,fun i hi=>by rw[Nat.zero_add];exact hTF.cellU hi⟩
      have hAq:At wr (some ⟨h,0,none⟩) (M+1) (Y / V):=⟨h,0,fun _=>rfl,fun i hi=>by rw[Nat.zero_add];exact hTF.cellQ hi⟩
      have hLu:dlen (Y % V)≤na+1:=by
       have:dlen (Y % V)≤dlen V:=dlen_mono (Nat.le_of_lt (Nat.mod_lt _ hV0))
       rw[HVV.out.1] at this;omega
      have hLq:dlen (Y / V)≤M+1:=(dlen_le _ _).2 ((Nat.div_lt_iff_lt_mul hV0).2 (by rw[Nat.mul_comm];exact HVV.out.2.2))
      have k40:=r40 (some ⟨g,0,none⟩) (na+1) cu (Y % V) wr hLu hcu (by omega) hAu
      have kd:=rdown (v:=.slice (some ⟨g,0,none⟩) (dlen (Y % V)) cu) (⟨_,_,rfl,by omega,at_short hAu hLu⟩:Ir wr _ (Y % V)) S (by omega) (by omega)
      have HE:Hid (At wr (some ⟨h,0,none⟩) (M+1) (Y / V)∧dlen (Y / V)≤M+1∧Bw w wr):=⟨hAq,hLq,HB3.out.trans ((HW8.out.1.trans (hTF.below (by have:=HW8.out.2.1;exact this) (by have:=HW8.out.2.2;exact this))).mono HB3.out.size)⟩
      clear hTw hTF hAu hAq hLu hLq hV0
      go_wp2_with fail
      refine k40.mono ?_
      rintro r w9 ⟨rfl,rfl⟩
      clear k40
      go_wp2_with fail
      refine kd.mono ?_
      rintro r w9 ⟨ar,cr,rfl,hAr,hcr,hBr⟩
      have HR9:Hid (At w9 ar (dlen (Y % V / 2^S)) (Y % V / 2^S)∧dlen (Y % V / 2^S)≤cr):=⟨hAr,hcr⟩
      have HQ9:Hid (At w9 (some ⟨h,0,none⟩) (M+1) (Y / V)∧Bw w w9):=⟨HE.out.1.later hBr,HE.out.2.2.trans (hBr.mono HE.out.2.2.size)⟩
      have k40:=r40 (some ⟨h,0,none⟩) (M+1) (M+1) (Y / V) w9 HE.out.2.1 (Nat.le_refl _) (by omega) HQ9.out.1
      clear kd hAr hcr hBr
      go_wp2_with fail
      refine k40.mono ?_
      rintro r w10 ⟨rfl,rfl⟩
      clear k40
      go_wp2
      refine bodyPost_ret (results_tmp2 rfl _ _ _) rfl ?_
      exact⟨_,_,rfl,⟨_,_,rfl,HE.out.2.1,at_short HQ9.out.1 HE.out.2.1⟩,⟨_,_,rfl,HR9.out.2,HR9.out.1⟩,HQ9.out.2⟩
end Go.Proofs.YtapooodfgcjoaaaGreat
namespace Go.Proofs.YtapooodfgcjoaaaGreat
theorem bl_lt_iff {x n:Nat}:bl x≤n↔x<2^n:=bl_le x n
theorem B_pow (n:Nat):B^n=2^(32*n):=by rw[show B=2^32 by rfl,←Nat.pow_mul]
theorem shift_of {y n p S:Nat} (hy:y≠0) (hn:dlen y=n) (hp:p=(bl y - 1) % 32) (hS:S+p+1=32):bl y+S=32*n∧1≤bl y∧2^(32*n - 1)≤y*2^S∧y*2^S<2^(32*n)∧S<32:=by
 have ht:=bl_top hy
 have hd:=dg_top hy
 have hlt:=dg_lt y (dlen y - 1)
 have hn1:1≤n:=by
  rcases Nat.eq_zero_or_pos n with h|h
  ·rw[h] at hn;exact absurd (dlen_eq_zero.1 hn) hy
  ·exact h
 rw[hn] at ht hd hlt
 have h32:bl (dg y (n - 1))≤32:=bl_lt_iff.2 (by rw[←show B=2^32 by rfl];exact hlt)
 have h1:1≤bl (dg y (n - 1)):=by
  rcases Nat.eq_zero_or_pos (bl (dg y (n - 1)))with h|h
  ·have:=bl_lt_iff.1 (Nat.le_of_eq h)
   rw[Nat.pow_zero] at this
   omega
  ·exact h
 have e:bl y+S=32*n:=by omega
 have hle:=le_bl hy
 have hlb:=lt_bl y
 refine⟨e,by omega,?_,?_,by omega⟩
 ·have:2^(bl y - 1)*2^S≤y*2^S:=Nat.mul_le_mul_right _ hle
  rw[←Nat.pow_add,show bl y - 1+S=32*n - 1 by omega] at this
  exact this
 ·have:y*2^S<2^bl y*2^S:=Nat.mul_lt_mul_of_pos_right hlb (Nat.two_pow_pos _)
  rw[←Nat.pow_add,e] at this
  exact this
theorem div_facts {x y na nb M p S:Nat} (hy:y≠0) (hx:x≠0) (hnb:dlen y=nb) (hna:dlen x=na) (hab:nb+M=na) (hn2:2≤nb) (hp:p=(bl y - 1) % 32) (hS:S+p+1=32) :
  dlen (y*2^S)=nb∧B≤2*dg (y*2^S) (nb - 1)∧x*2^S<y*2^S*B^(M+1)∧0<dlen (x*2^S)∧dlen (x*2^S)≤na+1:=by
 obtain⟨e,h1,hlo,hhi,hS32⟩:=shift_of hy hnb hp hS
 have hx2:=lt_dlen x
 rw[hna] at hx2
 have hlen:dlen (y*2^S)=nb:=by
  have a:dlen (y*2^S)≤nb:=(dlen_le _ _).2 (by rw[B_pow];exact hhi)
  have b:¬ dlen (y*2^S)≤nb - 1:=fun h=>by
   have:=(dlen_le _ _).1 h
   rw[B_pow] at this
   have h2:2^(32*(nb - 1))≤2^(32*nb - 1):=Nat.pow_le_pow_right (by omega) (by omega)
   omega
  omega
 have h2S:2^S≤2^31:=Nat.pow_le_pow_right (by omega) (by omega)
 have hY:x*2^S<B^na*2^31:=Nat.lt_of_lt_of_le (Nat.mul_lt_mul_of_pos_right hx2 (Nat.two_pow_pos _)) (Nat.mul_le_mul_left _ h2S)
 refine⟨hlen,?_,?_,?_,?_⟩
 ·have h3:dg (y*2^S) (nb - 1)=y*2^S / B^(nb - 1):=by
   unfold dg
   rw[Nat.mod_eq_of_lt]
   refine(Nat.div_lt_iff_lt_mul (Nat.pow_pos B_pos)).2 ?_
   rw[Nat.mul_comm B,←Nat.pow_succ,show(nb - 1).succ=nb by omega,B_pow]
   exact hhi
  have h4:2^31≤y*2^S / B^(nb - 1):=by
   refine(Nat.le_div_iff_mul_le (Nat.pow_pos B_pos)).2 ?_
   rw[B_pow,←Nat.pow_add,show 31+32*(nb - 1)=32*nb - 1 by omega]
   exact hlo
  rw[h3]
  have:B=2*2^31:=by rfl
  omega
 ·refine Nat.lt_of_lt_of_le hY ?_
  have:2^(32*nb - 1)*B^(M+1)≤y*2^S*B^(M+1):=Nat.mul_le_mul_right _ hlo
  refine Nat.le_trans (Nat.le_of_eq ?_) this
  rw[B_pow,B_pow,←Nat.pow_add,←Nat.pow_add]
  congr 1;omega
 ·refine Nat.pos_of_ne_zero fun h=>?_
  have:=dlen_eq_zero.1 h
  rcases Nat.mul_eq_zero.1 this with h|h
  ·exact hx h
  ·have:=Nat.two_pow_pos S;omega
 ·refine(dlen_le _ _).2 (Nat.lt_of_lt_of_le hY ?_)
  rw[Nat.pow_succ]
  exact Nat.mul_le_mul_left _ (by unfold B;omega)
theorem quo_shift {x y S:Nat}:x*2^S / (y*2^S)=x / y:=Nat.mul_div_mul_right _ _ (Nat.two_pow_pos S)
theorem rem_shift {x y S:Nat}:x*2^S % (y*2^S) / 2^S=x % y:=by
 rw[Nat.mul_mod_mul_right,Nat.mul_div_cancel _ (Nat.two_pow_pos S)]
end Go.Proofs.YtapooodfgcjoaaaGreat
namespace Go.Proofs.YtapooodfgcjoaaaGreat
open Go.RowKit
theorem cell_new1 (w:World) (u:Value):(w.alloc (.cells #[u] 99)).cell? ⟨w.heap.size,0+0,none⟩=some u:=by
 have h:=heap_alloc_new w (.cells #[u] 99)
 unfold World.cell?
 simp only[h,Nat.add_zero]
 rfl
theorem rdiv_0 (ba oa na ca:Nat) (vb:Value) (x y:Nat) (w:World) (hna0:0<na) (hna:na≤100000000) (hx:dlen x=na) (hlt:x<y) (hca:∀ i,i<na→w.cell? ⟨ba,oa+i,none⟩=some (.int .u32 (dg x i:Nat)))
  (kO:Calls Tryz.prog 100 #[.slice (some ⟨ba,oa,none⟩) na ca,vb] w fun e w'=>e=.returned (.int .i64 (cmpI x y))∧∃ d,w'=w.drewN d) :
  Calls Tryz.prog 131 #[.slice (some ⟨ba,oa,none⟩) na ca,vb] w fun e w'=>∃ q r,e=.returned (.tuple #[q,r])∧Ir w' q 0∧Ir w' r x∧Bw w w':=by
 have hc:cmpI x y = -1:=by unfold cmpI;rw[if_pos (by omega)]
 rw[hc] at kO
 have HX:Hid (dlen x=na):=hx
 have HCA:Hid (∀ i,i<na→w.cell? ⟨ba,oa+i,none⟩=some (.int .u32 (dg x i:Nat))):=hca
 clear hx hc hlt hca
 go_enter Tryz.func131,Tryz.ntmps131
 go_wp2_with fail
 refine kO.mono ?_
 rintro r w1 ⟨rfl,d,hd⟩
 have HB1:Hid (Bw w w1):=(hd ▸ ⟨rfl,rfl,rfl,Nat.le_refl _,fun _ _=>rfl⟩:Bw w w1)
 have HN:Hid (∀ j u,(cells x na)[j]?=some u→(w1.alloc (Obj.cells (madeCells #[Value.int IntKind.u32 0] 0) 99)).cell? ((⟨ba,oa,none⟩:Addr).add j)=some u):=news_cells HCA.out (HB1.out.alloc HB1.out.size _)
 have hOM:(w1.alloc (Obj.cells (madeCells #[Value.int IntKind.u32 0] 0) 99)).ownsRow w1.heap.size 99 1 (.slice (some ⟨w1.heap.size,0,none⟩) 0 0) 0 []:=World.ownsRow_made w1 _ 0 (Nat.le_refl _) (by unfold maxLen;omega) (by simp[madeCells])
 have hmk:=run_make_row' (P:=Tryz.prog) 43 99 (.int .u32 0) 4 Tryz.underlying43 Tryz.info99 rfl .i64 .i64 0 (by omega) (by omega) w1
 rw[show((0:Nat):Int)=0 from rfl] at hmk
 obtain⟨i0,hi0,hz0,hz1,hz2⟩:=info_parts Tryz.info99
 clear kO hd
 go_wp2_with (at_builtin;refine wpList_append_own _ rfl _ _ 43 rfl w1.heap.size 99 i0 (.int .u32 0) 1 4 Tryz.underlying43 hi0 hz0 hz1 hz2 rfl (by decide) _ 0 [] rfl hOM ⟨ba,oa,none⟩ na ca (cells x na) rfl (by rw[cells_length,Nat.mul_one]) HN.out cells_one (by unfold maxLen;omega) (by omega) (by simp) ?_)
 intro v' w4 hown hgrow _
 obtain⟨ao',cap',rfl,hc',hA⟩:=at_of_row hown
 have HR:Hid (At w4 ao' na x∧na≤cap'∧Bw w w4):=⟨hA,hc',HB1.out.trans ((Below.grown ((Below.refl w1.heap.size w1).alloc (Nat.le_refl _) _) hgrow (by simp) (fun k hk=>by simp[Value.ownBlock] at hk;omega)).mono HB1.out.size)⟩
 have k40:=r40 ao' na cap' x w4 (by rw[HX.out];exact Nat.le_refl _) hc' (by omega) hA
 clear hown hgrow hA HN hOM hmk hi0 hz0 hz1 hz2
 go_wp2_with fail
 refine k40.mono ?_
 rintro r w5 ⟨rfl,rfl⟩
 clear k40
 go_wp2
 refine bodyPost_ret (results_tmp2 rfl _ _ _) rfl ?_
 exact⟨_,_,rfl,Ir.nil _ _ _,⟨ao',cap',rfl,by rw[HX.out];exact HR.out.2.1,by rw[HX.out];exact HR.out.1⟩,HR.out.2.2⟩
theorem rdiv_1 (va:Value) (bb ob cb:Nat) (x y:Nat) (w:World) (hge:¬ x<y) (hyB:y<B) (hcb:w.cell? ⟨bb,ob,none⟩=some (.int .u32 (y:Nat)))
  (kO:Calls Tryz.prog 100 #[va,.slice (some ⟨bb,ob,none⟩) 1 cb] w fun e w'=>e=.returned (.int .i64 (cmpI x y))∧∃ d,w'=w.drewN d)
  (kS:∀ d,Calls Tryz.prog 83 #[va,.int .u32 (y:Nat)] (w.drewN d) fun e w'=>∃ v,e=.returned (.tuple #[v,.int .u32 (x % y:Nat)])∧Own w' (w.drewN d).heap.size v (x / y)∧Below (w.drewN d).heap.size (w.drewN d) w') (hy0:0<y) :
  Calls Tryz.prog 131 #[va,.slice (some ⟨bb,ob,none⟩) 1 cb] w fun e w'=>∃ q r,e=.returned (.tuple #[q,r])∧Ir w' q (x / y)∧Ir w' r (x % y)∧Bw w w':=by
 have hc:¬ cmpI x y<0:=by unfold cmpI;rw[if_neg (by omega)];split <;> omega
 have HR:Hid (x % y<B):=(Nat.lt_trans (Nat.mod_lt _ hy0) hyB:x % y<B)
 generalize cmpI (x:Int) (y:Int)=c at *
 go_enter Tryz.func131,Tryz.ntmps131
 go_wp2_with fail
 refine kO.mono ?_
 rintro r w1 ⟨rfl,d,rfl⟩
 have k:=kS d
 have hcb':(w.drewN d).cell? ⟨bb,ob,none⟩=some (.int .u32 (y:Nat)):=hcb
 have HBd:Hid (Below w.heap.size w (w.drewN d)):=(⟨rfl,rfl,rfl,Nat.le_refl _,fun _ _=>rfl⟩:Below w.heap.size w (w.drewN d))
 generalize w.drewN d=w1 at *
 clear kO kS hcb
 go_wp2_with fail
 refine k.mono ?_
 rintro r w2 ⟨v,rfl,hO,hB2⟩
 have HB2:Hid (Bw w w2∧Own w2 w1.heap.size v (x / y)):=⟨HBd.out.trans (hB2.mono HBd.out.size),hO⟩
 obtain⟨q,hq⟩:∃ q,q=x % y:=⟨_,rfl⟩
 rw[←hq] at HR ⊢
 have HQ:Hid (q=x % y):=hq
 obtain⟨W,hW⟩:∃ W,W=w2.alloc (.cells #[.int .u32 (q:Nat)] 99):=⟨_,rfl⟩
 have hBW:Bw w2 W:=by rw[hW];exact(Below.refl _ _).alloc (Nat.le_refl _) _
 have hA:At W (some ⟨w2.heap.size,0,none⟩) 1 q:=⟨w2.heap.size,0,fun _=>rfl,fun i hi=>by
  obtain rfl:i=0:=by omega
  rw[hW,dg_zero,Nat.mod_eq_of_lt HR.out]
  exact cell_new1 w2 _⟩
 have hL:dlen q≤1:=(dlen_le 1 q).2 (by rw[Nat.pow_one];exact HR.out)
 have k40:=r40 (some ⟨w2.heap.size,0,none⟩) 1 1 q W hL (Nat.le_refl _) (by omega) hA
 have HE:Hid (At W (some ⟨w2.heap.size,0,none⟩) (dlen q) q∧dlen q≤1∧Bw w2 W):=⟨at_short hA hL,hL,hBW⟩
 clear k hO hB2 hA hL hBW hq
 go_wp2_with fail
 rw[←hW]
 clear hW
 refine k40.mono ?_
 rintro r w5 ⟨rfl,rfl⟩
 clear k40
 go_wp2
 refine bodyPost_ret (results_tmp2 rfl _ _ _) rfl ?_
 have hB:=HB2.out.1.trans (HE.out.2.2.mono HB2.out.1.size)
 exact⟨_,_,rfl,(HB2.out.2.is.ir).later HE.out.2.2,by rw[←HQ.out];exact⟨_,_,rfl,HE.out.2.1,HE.out.1⟩,hB⟩
theorem rdivide {u v:Value} {x y:Nat} {w:World} (hu:Ir w u x) (hv:Ir w v y) (hx0:x≠0) (hy0:y≠0) (hx:dlen x≤100000000) (hy:dlen y≤100000000) :
  Calls Tryz.prog 131 #[u,v] w fun e w'=>∃ q r,e=.returned (.tuple #[q,r])∧Ir w' q (x / y)∧Ir w' r (x % y)∧Bw w w':=by
 have kO:=rord hu hv (by omega) (by omega)
 have hxp:0<dlen x:=Nat.pos_of_ne_zero fun e=>hx0 (dlen_eq_zero.1 e)
 have hyp:0<dlen y:=Nat.pos_of_ne_zero fun e=>hy0 (dlen_eq_zero.1 e)
 obtain⟨ao,ca,rfl,a1,ba,oa,a3,a4⟩:=id hu
 obtain⟨bo,cb,rfl,b1,bb,ob,b3,b4⟩:=id hv
 obtain rfl:=a3 hxp
 obtain rfl:=b3 hyp
 by_cases hlt:x<y
 ·rw[Nat.div_eq_of_lt hlt,Nat.mod_eq_of_lt hlt]
  exact rdiv_0 ba oa (dlen x) ca _ x y w hxp hx rfl hlt a4 kO
 ·by_cases h1:dlen y=1
  ·have hyB:y<B:=by have:=lt_dlen y;rw[h1,Nat.pow_one] at this;exact this
   have c0:=b4 0 hyp
   rw[dg_zero,Nat.mod_eq_of_lt hyB,Nat.add_zero] at c0
   rw[h1] at kO ⊢
   exact rdiv_1 _ bb ob cb x y w hlt hyB c0 kO (fun d=>rsingle (hu.later ⟨rfl,rfl,rfl,Nat.le_refl _,fun _ _=>rfl⟩) hx0 (by omega) (by omega) hyB) (by omega)
  ·obtain⟨M,hM⟩:∃ M,dlen y+M=dlen x:=⟨dlen x - dlen y,by have:=dlen_mono (show y≤x by omega);omega⟩
   obtain⟨p,hp⟩:∃ p,p=(bl y - 1) % 32:=⟨_,rfl⟩
   obtain⟨S,hS⟩:∃ S,S+p+1=32:=⟨31 - p,by omega⟩
   obtain⟨f1,f2,f3,f4,f5⟩:=div_facts hy0 hx0 rfl rfl hM (by omega) hp hS
   obtain⟨-,hb1,-,-,hS32⟩:=shift_of hy0 rfl hp hS
   have hbl:=bl_le_dlen y
   have hc:¬ cmpI x y<0:=by unfold cmpI;rw[if_neg (by omega)];split <;> omega
   have hpm:((bl y:Int) - 1).tmod 32=(p:Int):=by
    rw[Int.tmod_eq_emod_of_nonneg (by omega)];omega
   have:=rdiv_2 (some ⟨ba,oa,none⟩) (some ⟨bb,ob,none⟩) (dlen x) (dlen y) ca cb x y p S (bl y) (x*2^S) (y*2^S) M w hx hy (by omega) hM hS32 (by omega) hpm (by omega) hb1 f4 f5 f1 f2 f3
    (fun W hW=>(rord (hu.later hW) (hv.later hW) (by omega) (by omega)).mono fun r w' ⟨e1,d,e2⟩=>⟨e1,by rw[e2];exact⟨rfl,rfl,rfl,Nat.le_refl _,fun _ _=>rfl⟩⟩) hc
    (fun W hW=>by
     obtain⟨_,_,e,_,b',o',h5,h6⟩:=hv.later hW
     simp only[Value.slice.injEq] at e
     obtain⟨e,-,-⟩:=e
     subst e
     have:=h5 hyp
     simp only[Option.some.injEq,Addr.mk.injEq] at this
     obtain⟨rfl,rfl,-⟩:=this
     exact r42 bb ob (dlen y) cb y W hyp (by omega) rfl h6)
    (fun W hW=>rup (hv.later hW) S (by omega) (by omega)) (fun W hW=>rup (hu.later hW) S (by omega) (by omega))
   rw[quo_shift,rem_shift] at this
   exact this
theorem nw_lt {a X q Y:Nat} (hX:0<X) (hq:q=a / X) (hY:Y=(X+q) / 2):a<(Y+1)*(Y+1):=by
 have h1:a<X*(q+1):=by rw[hq];exact Nat.lt_mul_div_succ a hX
 have h2:X+(q+1)≤2*(Y+1):=by omega
 have h3:4*(X*(q+1))≤(X+(q+1))*(X+(q+1)):=by
  rcases Nat.le_total X (q+1)with h|h
  ·obtain⟨d,hd⟩:=Nat.exists_eq_add_of_le h
   rw[hd];grind
  ·obtain⟨d,hd⟩:=Nat.exists_eq_add_of_le h
   rw[hd];grind
 have h4:(X+(q+1))*(X+(q+1))≤2*(Y+1)*(2*(Y+1)):=Nat.mul_le_mul h2 h2
 have h5:2*(Y+1)*(2*(Y+1))=4*((Y+1)*(Y+1)):=by grind
 omega
theorem nw_le {a X q Y:Nat} (hX:0<X) (hq:q=a / X) (hY:Y=(X+q) / 2) (h:X≤Y):X*X≤a:=by
 have h1:X≤a / X:=by omega
 have h2:=(Nat.le_div_iff_mul_le hX).1 h1
 exact h2
theorem nw_ne {a Y:Nat} (ha:a≠0) (h:a<(Y+1)*(Y+1)):Y≠0:=fun e=>by rw[e] at h;omega
theorem nw_start {a k:Nat} (hk:k=(bl a+1) / 2):a<(2^k+1)*(2^k+1):=by
 have h1:=lt_bl a
 have h2:2^bl a≤2^k*2^k:=by rw[←Nat.pow_add];exact Nat.pow_le_pow_right (by omega) (by omega)
 have h3:2^k*2^k≤(2^k+1)*(2^k+1):=Nat.mul_le_mul (Nat.le_succ _) (Nat.le_succ _)
 omega
theorem nw_len {a k:Nat} (hk:k=(bl a+1) / 2) (ha:a≠0):dlen (2^k)≤dlen a+1:=by
 have h1:=bl_le_dlen a
 have h0:1≤bl a:=by
  rcases Nat.eq_zero_or_pos (bl a)with h|h
  ·have:=bl_lt_iff.1 (Nat.le_of_eq h)
   rw[Nat.pow_zero] at this;omega
  ·exact h
 refine(dlen_le _ _).2 ?_
 rw[B_pow]
 exact Nat.pow_lt_pow_right (by omega) (by omega)
theorem nw_sum {x y n:Nat} (hx:dlen x≤n+1) (hy:dlen y≤n):dlen (x+y)≤n+2:=by
 have h3:x<B^(n+1):=(dlen_le _ _).1 hx
 have h4:y<B^(n+1):=(dlen_le _ _).1 (by omega)
 refine(dlen_le _ _).2 ?_
 have h5:B^(n+1)+B^(n+1)≤B^(n+2):=by
  rw[Nat.pow_succ B (n+1)]
  have h2:2≤B:=by unfold B;omega
  have:=Nat.mul_le_mul_left (B^(n+1)) h2
  omega
 omega
theorem cmp_eq {x y:Nat}:(cmpI (x:Int) (y:Int)==0)=decide (x=y):=by
 unfold cmpI
 by_cases h:x=y
 ·subst h;simp
 ·rw[decide_eq_false h]
  by_cases h2:(x:Int)<(y:Int)
  ·rw[if_pos h2];rfl
  ·rw[if_neg h2,if_pos (by omega)];rfl
theorem rrooted_1 (ba oa n ca a k:Nat) (w:World) (hn0:0<n) (hn:n≤10000000) (hna:dlen a=n) (hk:k=(bl a+1) / 2) (hca:∀ i,i<n→w.cell? ⟨ba,oa+i,none⟩=some (.int .u32 (dg a i:Nat))) (hcn:n≤ca) :
  Calls Tryz.prog 96 #[.slice (some ⟨ba,oa,none⟩) n ca] w fun e w'=>∃ v s,e=.returned (.tuple #[v,.bool (decide (s*s=a))])∧Ir w' v s∧s*s≤a∧a<(s+1)*(s+1)∧Bw w w':=by
 have ha0:a≠0:=fun e=>by rw[e,dlen_zero] at hna;omega
 have hIa:Ir w (.slice (some ⟨ba,oa,none⟩) n ca) a:=⟨_,ca,by rw[hna],by omega,ba,oa,fun _=>rfl,by rw[hna];exact hca⟩
 have hbl:=bl_le_dlen a
 have hz:((n:Int)==0)=false:=by simp;omega
 have htd:((bl a:Int)+1).tdiv 2=(k:Int):=by rw[Int.tdiv_eq_ediv_of_nonneg (by omega)];omega
 obtain⟨W,hW⟩:∃ W,W=w.alloc (.cells #[.int .u32 1] 99):=⟨_,rfl⟩
 have hBW:Bw w W:=by rw[hW];exact(Below.refl _ _).alloc (Nat.le_refl _) _
 have d1:dlen 1=1:=by rw[dlen_pos (by omega),show 1 / B=0 by rfl,dlen_zero]
 have hI1:Ir W (.slice (some ⟨w.heap.size,0,none⟩) 1 1) 1:=⟨_,1,by rw[d1],by rw[d1];exact Nat.le_refl _,w.heap.size,0,fun _=>rfl,fun i hi=>by
  rw[d1] at hi
  obtain rfl:i=0:=by omega
  rw[hW,dg_zero,show 1 % B=1 by rfl]
  exact cell_new1 w _⟩
 have kz:=r42 ba oa n ca a W hn0 (by omega) hna (fun i hi=>(hBW.cell (World.block_lt_of_cell? _ _ (hca i hi))).trans (hca i hi))
 have hbl2:bl a≤3200000000:=by omega
 have hkb:k≤200000000:=by omega
 have ku:=rup hI1 k (by rw[d1];omega) (by omega)
 rw[Nat.one_mul] at ku
 have HA:Hid (Ir w (.slice (some ⟨ba,oa,none⟩) n ca) a∧dlen a=n∧a≠0):=⟨hIa,hna,ha0⟩
 have HX0:Hid (a<(2^k+1)*(2^k+1)∧dlen (2^k)≤n+1):=⟨nw_start hk,hna ▸ nw_len hk ha0⟩
 have HB:Hid (Bw w W):=hBW
 generalize bl a=bla at *
 clear hIa hca hI1 hbl hk hna ha0 hBW d1
 go_enter Tryz.func96,Tryz.ntmps96
 go_wp2_with fail
 rw[←hW]
 refine kz.mono ?_
 rintro r w1 ⟨rfl,rfl⟩
 clear kz hW
 go_wp2_with fail
 refine ku.mono ?_
 rintro r w1 ⟨v1,rfl,hI,hb1⟩
 have HB1:Hid (Bw w w1∧Ir w1 v1 (2^k)):=⟨HB.out.trans (hb1.mono HB.out.size),hI⟩
 clear ku hI hb1
 go_wp2_with fail
 go_loopg [4] (2^k) (fun x v wr=>x≠0∧a<(x+1)*(x+1)∧Ir wr v x∧dlen x≤n+1∧Bw w wr)
 case atStart=>exact⟨by have:=Nat.two_pow_pos k;omega,HX0.out.1,HB1.out.2,HX0.out.2,HB1.out.1⟩
 case round =>
  obtain⟨hx0,hax,hI,hxl,hBr⟩:=hrel
  have kd:=rdivide (HA.out.1.later hBr) hI HA.out.2.2 hx0 (by rw[HA.out.2.1];omega) (by omega)
  have HH:Hid (gk≠0∧a<(gk+1)*(gk+1)∧Ir wr u4 gk∧dlen gk≤n+1∧Bw w wr):=⟨hx0,hax,hI,hxl,hBr⟩
  clear hx0 hax hI hxl hBr
  go_wp2_with fail
  refine kd.mono ?_
  rintro r w2 ⟨vq,vr,rfl,hIq,-,hb2⟩
  have ks:=rsum (HH.out.2.2.1.later hb2) hIq (by have:=HH.out.2.2.2.1;omega) (by have:=dlen_mono (Nat.div_le_self a gk);rw[HA.out.2.1] at this;omega)
  have HB2:Hid (Bw wr w2):=hb2
  clear kd hIq hb2
  go_wp2_with fail
  refine ks.mono ?_
  rintro r w3 ⟨vs,rfl,hIs,hb3⟩
  have hsl:dlen (gk+a / gk)≤n+2:=nw_sum HH.out.2.2.2.1 (HA.out.2.1 ▸ dlen_mono (Nat.div_le_self a gk))
  have kw:=rdown hIs 1 (by omega) (by omega)
  have HB3:Hid (Bw wr w3):=HB2.out.trans (hb3.mono HB2.out.size)
  rw[show((1:Nat):Int)=1 from rfl] at kw
  clear ks hIs hb3 hsl
  go_wp2_with fail
  refine kw.mono ?_
  rintro r w4 ⟨ay,cy,rfl,hAy,hcy,hb4⟩
  have HB4:Hid (Bw wr w4):=HB3.out.trans (hb4.mono HB3.out.size)
  obtain⟨Y,hY⟩:∃ Y,Y=(gk+a / gk) / 2^1:=⟨_,rfl⟩
  rw[←hY] at hAy hcy ⊢
  have hY2:Y=(gk+a / gk) / 2:=by rw[hY,Nat.pow_one]
  have HY:Hid (Y=(gk+a / gk) / 2∧Ir w4 (.slice ay (dlen Y) cy) Y):=⟨hY2,ay,cy,rfl,hcy,hAy⟩
  have hYl:dlen Y≤n+2:=Nat.le_trans (dlen_mono (by omega:Y≤gk+a / gk)) (nw_sum HH.out.2.2.2.1 (HA.out.2.1 ▸ dlen_mono (Nat.div_le_self a gk)))
  have ko:=rord HY.out.2 (HH.out.2.2.1.later HB4.out) (by omega) (by have:=HH.out.2.2.2.1;omega)
  clear kw hY hY2 hAy hcy hb4 hYl
  go_wp2_with fail
  refine ko.mono ?_
  rintro r w5 ⟨rfl,d,rfl⟩
  have HB5:Hid (Below wr.heap.size wr (w4.drewN d)):=HB4.out.trans ⟨rfl,rfl,rfl,Nat.le_refl _,fun _ _=>rfl⟩
  have HI5:Hid (Ir (w4.drewN d) (.slice ay (dlen Y) cy) Y):=HY.out.2.later ⟨rfl,rfl,rfl,Nat.le_refl _,fun _ _=>rfl⟩
  generalize w4.drewN d=w5 at *
  clear ko
  by_cases hlt:Y<gk
  ·have hc:cmpI (Y:Int) (gk:Int) = -1:=by unfold cmpI;rw[if_pos (by omega)]
   have hc2:¬ (0:Int)≤cmpI (Y:Int) (gk:Int):=by rw[hc];omega
   have hc3:decide ((0:Int)≤cmpI (Y:Int) (gk:Int))=false:=decide_eq_false hc2
   generalize cmpI (Y:Int) (gk:Int)=cc at *
   go_wp2_with fail
   go_roundg Y
   case measure=>exact hlt
   case rel =>
    have hnl:=nw_lt (by have:=HH.out.1;omega) rfl HY.out.1
    exact⟨nw_ne HA.out.2.2 hnl,hnl,HI5.out,Nat.le_trans (dlen_mono (Nat.le_of_lt hlt)) HH.out.2.2.2.1,HH.out.2.2.2.2.trans (HB5.out.mono HH.out.2.2.2.2.size)⟩
  ·have hge:(0:Int)≤cmpI (Y:Int) (gk:Int):=by unfold cmpI;rw[if_neg (by omega)];split <;> omega
   have hc3:decide ((0:Int)≤cmpI (Y:Int) (gk:Int))=true:=decide_eq_true hge
   generalize cmpI (Y:Int) (gk:Int)=cc at *
   have kp:=rprod (HH.out.2.2.1.later HB5.out) (HH.out.2.2.1.later HB5.out) (by have:=HH.out.2.2.2.1;omega) (by have:=HH.out.2.2.2.1;omega)
   go_wp2_with fail
   refine kp.mono ?_
   rintro r w6 ⟨vp,rfl,hOp,hb6⟩
   have HB6:Hid (Bw wr w6):=HB5.out.trans (hb6.mono HB5.out.size)
   have hsq:gk*gk≤a:=nw_le (by have:=HH.out.1;omega) rfl HY.out.1 (by omega)
   have ko:=rord hOp.is.ir (HA.out.1.later (HH.out.2.2.2.2.trans (HB6.out.mono HH.out.2.2.2.2.size))) (by have:=dlen_mono hsq;rw[HA.out.2.1] at this;omega) (by rw[HA.out.2.1];omega)
   have HSQ:Hid (gk*gk≤a):=hsq
   have HC:Hid ((cmpI ((gk*gk:Nat):Int) (a:Int)==0)=decide (gk*gk=a)):=(cmp_eq:(cmpI ((gk*gk:Nat):Int) (a:Int)==0)=decide (gk*gk=a))
   generalize cmpI ((gk*gk:Nat):Int) (a:Int)=c2 at *
   clear kp hOp hb6 hsq
   go_wp2_with fail
   refine ko.mono ?_
   rintro r w7 ⟨rfl,d,rfl⟩
   have HB7:Hid (Below wr.heap.size wr (w6.drewN d)):=HB6.out.trans ⟨rfl,rfl,rfl,Nat.le_refl _,fun _ _=>rfl⟩
   generalize w6.drewN d=w7 at *
   clear ko
   go_wp2
   refine bodyPost_ret (results_tmp2 rfl _ _ _) rfl ?_
   exact⟨u4,gk,congrArg (fun bb=>Ending.returned (Value.tuple #[u4,.bool bb])) HC.out,HH.out.2.2.1.later HB7.out,HSQ.out,HH.out.2.1,HH.out.2.2.2.2.trans (HB7.out.mono HH.out.2.2.2.2.size)⟩
theorem rrooted {v:Value} {a:Nat} {w:World} (h:Ir w v a) (ha:dlen a≤10000000) :
  Calls Tryz.prog 96 #[v] w fun e w'=>∃ v s,e=.returned (.tuple #[v,.bool (decide (s*s=a))])∧Ir w' v s∧s*s≤a∧a<(s+1)*(s+1)∧Bw w w':=by
 obtain⟨ao,ca,rfl,a1,ba,oa,a3,a4⟩:=h
 by_cases h0:a=0
 ·subst h0
  rw[dlen_zero]
  have:Calls Tryz.prog 96 #[.slice ao 0 ca] w fun e w'=>e=.returned (.tuple #[.slice none 0 0,.bool true])∧w'=w:=by
   go_enter Tryz.func96,Tryz.ntmps96
   go_wp2
   refine bodyPost_ret (results_tmp2 rfl _ _ _) rfl ?_
   exact⟨rfl,rfl⟩
  refine this.mono ?_
  rintro e w' ⟨rfl,rfl⟩
  exact⟨_,0,rfl,Ir.nil _ _ _,Nat.le_refl _,by omega,Below.refl _ _⟩
 ·have hp:0<dlen a:=Nat.pos_of_ne_zero fun e=>h0 (dlen_eq_zero.1 e)
  obtain rfl:=a3 hp
  exact rrooted_1 ba oa _ ca a _ w hp ha rfl rfl a4 a1
theorem rlessN_1 (na nb:Bool) (ua va:Option Addr) (un uc vn vc:Nat) (ea eb:Int) (nc:Bool) (xa:Option Addr) (xn xc:Nat) (ec:Int) (s:Bool) (z:Nat) (e:Int) (w:World) (kM:∀ W,Calls Tryz.prog 50 #[.agg #[.bool nb,.slice va vn vc,.int .i64 eb]] W fun r w'=>r=.returned (.agg #[.bool nc,.slice xa xn xc,.int .i64 ec])∧Bw W w')
  (kA:∀ W,Bw w W→Calls Tryz.prog 45 #[.agg #[.bool na,.slice ua un uc,.int .i64 ea],.agg #[.bool nc,.slice xa xn xc,.int .i64 ec]] W fun r w'=>∃ a,r=.returned a∧NC w' W.heap.size a s z e∧Bw W w') :
  Calls Tryz.prog 57 #[.agg #[.bool na,.slice ua un uc,.int .i64 ea],.agg #[.bool nb,.slice va vn vc,.int .i64 eb]] w fun r w'=>∃ a,r=.returned a∧NC w' w.heap.size a s z e∧Bw w w':=by
 have HKM:Hid _:=kM
 have HKA:Hid _:=kA
 clear kM kA
 obtain⟨W,hW⟩:∃ W,W=((w.alloc (.cells #[.bool na,.slice ua un uc,.int .i64 ea] 45)).alloc (.cells #[.bool nb,.slice va vn vc,.int .i64 eb] 45)).alloc (.cells #[.bool false,.slice none 0 0,.int .i64 0] 45):=⟨_,rfl⟩
 obtain⟨hA,hBb,hC,hsz,hBW⟩:=boxes3 _ _ _ hW
 have HH:Hid ((W.heap[w.heap.size]?=some (.cells #[.bool na,.slice ua un uc,.int .i64 ea] 45 (0,0))∧W.heap[w.heap.size+1]?=some (.cells #[.bool nb,.slice va vn vc,.int .i64 eb] 45 (0,0))∧W.heap[w.heap.size+1+1]?=some (.cells #[.bool false,.slice none 0 0,.int .i64 0] 45 (0,0)))∧W.heap.size=w.heap.size+1+1+1∧Bw w W):=⟨⟨hA,hBb,hC⟩,hsz,hBW⟩
 obtain⟨⟨a0,a1,a2⟩,-⟩:=box_cells29 hA
 obtain⟨⟨b0,b1,b2⟩,-⟩:=box_cells29 hBb
 clear hA hBb hC hsz hBW
 have kM:∀ w4,Bw W w4→Calls Tryz.prog 50 #[.agg #[.bool nb,.slice va vn vc,.int .i64 eb]] w4 fun r w'=>r=.returned (.agg #[.bool nc,.slice xa xn xc,.int .i64 ec])∧Bw W w':=fun w4 hb=>(HKM.out w4).mono fun r w' ⟨e1,o2⟩=>⟨e1,hb.trans (o2.mono hb.size)⟩
 have kA:∀ w5,Bw W w5→Calls Tryz.prog 45 #[.agg #[.bool na,.slice ua un uc,.int .i64 ea],.agg #[.bool nc,.slice xa xn xc,.int .i64 ec]] w5 fun r w'=>∃ s' ao n cap ex,r=.returned (.agg #[.bool s',.slice ao n cap,.int .i64 ex])∧Hid (NC w' W.heap.size (.agg #[.bool s',.slice ao n cap,.int .i64 ex]) s z e)∧Bw W w'∧Hid (w'.heap[w.heap.size+1+1]?=some (.cells #[.bool false,.slice none 0 0,.int .i64 0] 45 (0,0))) ∧
   (w'.cell? ⟨w.heap.size+1+1,0,none⟩=some (.bool false)∧w'.cell? ⟨w.heap.size+1+1,1,none⟩=some (.slice none 0 0)∧w'.cell? ⟨w.heap.size+1+1,2,none⟩=some (.int .i64 0))∧(w'.frozen? ⟨w.heap.size+1+1,0,none⟩=false∧w'.frozen? ⟨w.heap.size+1+1,1,none⟩=false∧w'.frozen? ⟨w.heap.size+1+1,2,none⟩=false):=by
  intro w5 hb
  refine(HKA.out w5 (HH.out.2.2.trans (hb.mono HH.out.2.2.size))).mono ?_
  rintro r w6 ⟨A,rfl,hN,hb6⟩
  obtain⟨s',ao,n,cap,ex,rfl⟩:=hN.shape
  have hb16:Bw W w6:=hb.trans (hb6.mono hb.size)
  have hblk:=box_later HH.out.1.2.2 hb16 (by have:=HH.out.2.1;omega)
  obtain⟨f1,f2⟩:=box_cells29 hblk
  exact⟨s',ao,n,cap,ex,rfl,hN.mono hb.size,hb16,hblk,f1,f2⟩
 have HK:Hid (∀ w',Bw W w'→((w'.cell? ⟨w.heap.size,0,none⟩=some (.bool na)∧w'.cell? ⟨w.heap.size,1,none⟩=some (.slice ua un uc)∧w'.cell? ⟨w.heap.size,2,none⟩=some (.int .i64 ea))∧(w'.cell? ⟨w.heap.size+1,0,none⟩=some (.bool nb)∧w'.cell? ⟨w.heap.size+1,1,none⟩=some (.slice va vn vc)∧w'.cell? ⟨w.heap.size+1,2,none⟩=some (.int .i64 eb)))):=fun w' hb=>⟨(box_cells29 (box_later HH.out.1.1 hb (by have:=HH.out.2.1;omega))).1,(box_cells29 (box_later HH.out.1.2.1 hb (by have:=HH.out.2.1;omega))).1⟩
 have HK2:Hid (∀ w',Below (w.heap.size+1+1) W w'→((w'.cell? ⟨w.heap.size,0,none⟩=some (.bool na)∧w'.cell? ⟨w.heap.size,1,none⟩=some (.slice ua un uc)∧w'.cell? ⟨w.heap.size,2,none⟩=some (.int .i64 ea))∧(w'.cell? ⟨w.heap.size+1,0,none⟩=some (.bool nb)∧w'.cell? ⟨w.heap.size+1,1,none⟩=some (.slice va vn vc)∧w'.cell? ⟨w.heap.size+1,2,none⟩=some (.int .i64 eb)))):=fun w' hb=>⟨(box_cells29 (box_later HH.out.1.1 hb (by omega))).1,(box_cells29 (box_later HH.out.1.2.1 hb (by omega))).1⟩
 have HS2:Hid (w.heap.size+1+1≤W.heap.size):=(by have:=HH.out.2.1;omega:w.heap.size+1+1≤W.heap.size)
 have hBR:Bw W W.drew:=(Below.refl _ _).drew
 go_enter Tryz.func57,Tryz.ntmps57
 go_upto_region 1 with fail
 rw[←hW]
 clear hW
 go_region_held3 (fun w'=>((w'.cell? ⟨w.heap.size,0,none⟩=some (.bool na)∧w'.cell? ⟨w.heap.size,1,none⟩=some (.slice ua un uc)∧w'.cell? ⟨w.heap.size,2,none⟩=some (.int .i64 ea))∧(w'.cell? ⟨w.heap.size+1,0,none⟩=some (.bool nb)∧w'.cell? ⟨w.heap.size+1,1,none⟩=some (.slice va vn vc)∧w'.cell? ⟨w.heap.size+1,2,none⟩=some (.int .i64 eb)))) (first|(with_reducible assumption)|exact⟨⟨a0,a1,a2⟩,b0,b1,b2⟩|(refine HK.out _ ?_;with_reducible assumption)|(refine HK2.out _ (below_store3 (Below.mono hb6 HS2.out) (Nat.le_refl _) _ _ _))|go_keep)
  (first|(go_at_call 50;refine(kM _ (by first|(with_reducible assumption)|exact hBR)).mono ?_;rintro r w5 ⟨rfl,hb5⟩)|(go_at_call 45;refine(kA _ (by first|(with_reducible assumption)|exact hBR)).mono ?_;rintro r w6 ⟨s6,ao6,n6,cap6,ex6,rfl,hN6,hb6,hblk6,⟨x1,x2,x3⟩,x4,x5,x6⟩))
 all_goals (have HF:Hid (Bw W w6):=hb6;clear hb5 hb6 kM kA x1 x2 x3 x4 x5 x6 a0 a1 a2 b0 b1 b2 HK HK2 hBR;go_wp2;refine bodyPost_ret (results_cell_row rfl _ _ (w.heap.size+1+1) 45 #[.bool s6,.slice ao6 n6 cap6,.int .i64 ex6] (0,0) _ rfl (store3_29 _ _ _ hblk6.out) Tryz.underlying45 rfl Tryz.info45) rfl ?_;exact⟨_,rfl,(hN6.out.store (by have:=HH.out.2.1;omega) _ _ _).mono HH.out.2.2.size,below_store3 (HH.out.2.2.trans (HF.out.mono HH.out.2.2.size)) (by omega) _ _ _⟩)
theorem cn_odd {s:Bool} {x:Nat} {e:Int} (h:x % 2=1):cn s x e=(s,x,e):=by
 unfold cn
 rw[if_neg (by omega),tz_odd h,Nat.pow_zero,Nat.div_one]
 simp
theorem rone (place:Int) (w:World) (hp1 : -4000000≤place) (hp2:place≤4000000) :
  Calls Tryz.prog 128 #[.int .i64 place] w fun r w'=>∃ g,r=.returned (.agg #[.bool false,.slice (some ⟨g,0,none⟩) 1 1,.int .i64 (-place)])∧w.heap.size≤g∧At w' (some ⟨g,0,none⟩) 1 1∧Bw w w':=by
 go_enter Tryz.func128,Tryz.ntmps128
 go_wp2
 obtain⟨W,hW⟩:∃ W,W=(w.alloc (.cells #[.bool false,.slice (some ⟨w.heap.size+1,0,none⟩) 1 1,.int .i64 (-place)] 45)).alloc (.cells #[.int .u32 1] 99):=⟨_,rfl⟩
 have hA:W.heap[w.heap.size]?=some (.cells #[.bool false,.slice (some ⟨w.heap.size+1,0,none⟩) 1 1,.int .i64 (-place)] 45 (0,0)):=by
  rw[hW,Below.heap_alloc _ _ _ (by simp)];exact heap_alloc_new _ _
 have hC:W.cell? ⟨w.heap.size+1,0,none⟩=some (.int .u32 1):=by
  have h:=cell_new1 (w.alloc (.cells #[.bool false,.slice (some ⟨w.heap.size+1,0,none⟩) 1 1,.int .i64 (-place)] 45)) (.int .u32 1)
  rw[←hW,Nat.add_zero] at h
  have hs:(w.alloc (.cells #[.bool false,.slice (some ⟨w.heap.size+1,0,none⟩) 1 1,.int .i64 (-place)] 45)).heap.size=w.heap.size+1:=by simp
  rw[hs] at h
  exact h
 have hBW:Bw w W:=by rw[hW];exact((Below.refl _ _).alloc (Nat.le_refl _) _).alloc (by simp) _
 rw[←hW]
 refine bodyPost_ret (results_cell_row rfl _ _ w.heap.size 45 #[.bool false,.slice (some ⟨w.heap.size+1,0,none⟩) 1 1,.int .i64 (-place)] (0,0) _ rfl hA Tryz.underlying45 rfl Tryz.info45) rfl ?_
 refine⟨w.heap.size+1,rfl,by omega,⟨w.heap.size+1,0,fun _=>rfl,fun i hi=>?_⟩,hBW⟩
 obtain rfl:i=0:=by omega
 rw[dg_zero,show 1 % B=1 by rfl]
 exact hC
theorem rless_one {ao va:Option Addr} {cap vc q:Nat} {place:Int} {w:World} (ho:Arg w ao (dlen (cn true q (-place)).2.1) cap (cn true q (-place)).2.1) (h1:At w va 1 1) (hvc:1≤vc) (hp1 : -1000000≤place) (hp2:place≤1000000) (hq:dlen q≤30000) :
  Calls Tryz.prog 57 #[.agg #[.bool (cn true q (-place)).1,.slice ao (dlen (cn true q (-place)).2.1) cap,.int .i64 (cn true q (-place)).2.2],.agg #[.bool false,.slice va 1 vc,.int .i64 (-place)]] w fun r w'=>∃ a,r=.returned a∧NC w' w.heap.size a true (q+1) (-place)∧Bw w w':=by
 have d1:dlen 1=1:=by rw[dlen_pos (by omega),show 1 / B=0 by rfl,dlen_zero]
 have hA1:Arg w va (dlen 1) vc 1:=⟨fun h=>by rw[d1] at h;omega,by rw[d1];exact h1,by rw[d1];exact hvc,by rw[d1];omega⟩
 refine rlessN_1 _ false ao va _ cap 1 vc _ (-place) true va 1 vc (-place) true (q+1) (-place) w (fun W=>rminus_1 false va 1 vc (-place) W (by omega) rfl) (fun W hW=>?_)
 have htz:tz q≤32*30000:=by
  by_cases h0:q=0
  ·rw[h0];exact Nat.le_trans (Nat.le_of_eq (by rw[tz];rfl)) (Nat.zero_le _)
  ·have h2:=(tz_spec q q (Nat.le_refl _) h0).1
   have h3:2^tz q≤q:=by
    have h4:0<q / 2^tz q:=by
     rcases Nat.eq_zero_or_pos (q / 2^tz q)with h|h
     ·rw[h,Nat.mul_zero] at h2;omega
     ·exact h
    exact Nat.le_trans (Nat.le_mul_of_pos_right _ h4) (Nat.le_of_eq h2)
   have h5:=lt_bl q
   have h6:=bl_le_dlen q
   have h7:tz q<bl q:=(Nat.pow_lt_pow_iff_right (by omega)).1 (Nat.lt_of_le_of_lt h3 h5)
   omega
 have hcn:cn (cn true q (-place)).1 (cn true q (-place)).2.1 (cn true q (-place)).2.2=(cn true q (-place)):=by
  by_cases h0:q=0
  ·unfold cn;rw[if_pos h0,if_pos rfl]
  ·have h2:=(tz_spec q q (Nat.le_refl _) h0).2
   have:cn true q (-place)=(true,q / 2^tz q,-place+tz q):=by unfold cn;rw[if_neg h0]
   rw[this]
   exact cn_odd h2
 have he : -2000000≤(cn true q (-place)).2.2∧(cn true q (-place)).2.2≤2000000:=by
  by_cases h0:q=0
  ·unfold cn;rw[if_pos h0];exact⟨by decide,by decide⟩
  ·unfold cn;rw[if_neg h0];exact⟨by simp only;omega,by simp only;omega⟩
 have hl:dlen (cn true q (-place)).2.1≤300000:=by
  by_cases h0:q=0
  ·unfold cn;rw[if_pos h0,dlen_zero];omega
  ·unfold cn;rw[if_neg h0];exact Nat.le_trans (dlen_mono (Nat.div_le_self _ _)) (by omega)
 have:=rplusS (na:=(cn true q (-place)).1) (nb:=true) (ea:=(cn true q (-place)).2.2) (eb := -place) (ho.later hW) (hA1.later hW) hcn (cn_odd rfl) he.1 he.2 (by omega) (by omega) hl (by rw[d1];omega) (by unfold cn;by_cases h0:q=0 <;> simp[h0])
 have hs:sumN (cn true q (-place)).1 (cn true q (-place)).2.1 (cn true q (-place)).2.2 true 1 (-place)=(true,q+1,-place):=by
  by_cases h0:q=0
  ·subst h0
   unfold cn;rw[if_pos rfl];unfold sumN;rw[if_pos rfl]
  ·have h2:=tz_spec q q (Nat.le_refl _) h0
   have e1:cn true q (-place)=(true,q / 2^tz q,-place+tz q):=by unfold cn;rw[if_neg h0]
   have h3:q / 2^tz q≠0:=by omega
   rw[e1]
   unfold sumN
   simp only
   rw[if_neg h3,if_neg (by omega),if_pos trivial,show min (-place+(tz q:Int)) (-place) = -place by omega,show(-place+(tz q:Int) - -place).toNat=tz q by omega,show(-place - -place).toNat=0 by omega,Nat.pow_zero,Nat.mul_one,Nat.mul_comm,h2.1]
 rw[hs,d1] at this
 exact this
end Go.Proofs.YtapooodfgcjoaaaGreat
namespace Go.Proofs.YtapooodfgcjoaaaGreat
open Go.RowKit Go.Fl64
end Go.Proofs.YtapooodfgcjoaaaGreat
namespace Go.Proofs.YtapooodfgcjoaaaGreat
open Go.RowKit
theorem rsgn {na:Bool} {ua:Option Addr} {un uc:Nat} {ea:Int} {w:World} (hn:un≤35184372088832) :
  Calls Tryz.prog 58 #[.agg #[.bool na,.slice ua un uc,.int .i64 ea]] w fun r w'=>r=.returned (.int .i64 (if un=0 then 0 else if na then -1 else 1))∧Bw w w':=by
 obtain⟨W,hW⟩:∃ W,W=w.alloc (.cells #[.bool na,.slice ua un uc,.int .i64 ea] 45):=⟨_,rfl⟩
 have HB:Hid (Bw w W):=(by rw[hW];exact(Below.refl _ _).alloc (Nat.le_refl _) _:Bw w W)
 by_cases h0:un=0
 ·subst h0
  rw[if_pos rfl]
  go_enter Tryz.func58,Tryz.ntmps58
  go_wp2
  go_ret
  exact⟨rfl,hW ▸ HB.out⟩
 ·have hn0:((un:Int)==0)=false:=by simp;omega
  rw[if_neg h0]
  clear h0
  cases na
  ·go_enter Tryz.func58,Tryz.ntmps58
   go_wp2
   go_ret
   exact⟨rfl,hW ▸ HB.out⟩
  ·go_enter Tryz.func58,Tryz.ntmps58
   go_wp2
   go_ret
   exact⟨rfl,hW ▸ HB.out⟩
end Go.Proofs.YtapooodfgcjoaaaGreat
namespace Go.Proofs.YtapooodfgcjoaaaGreat
open Go.RowKit Go.Fl64
end Go.Proofs.YtapooodfgcjoaaaGreat
namespace Go.Proofs.YtapooodfgcjoaaaGreat
open Go.RowKit
end Go.Proofs.YtapooodfgcjoaaaGreat
namespace Go.Proofs.YtapooodfgcjoaaaGreat
open Go.RowKit Go.Fl64
def ordN (na:Bool) (x:Nat) (ea:Int) (nb:Bool) (y:Nat) (eb:Int):Int :=
 if sgI na (dlen x)=sgI nb (dlen y)then sgI na (dlen x)*cmpI (x*2^(ea - min ea eb).toNat:Nat) (y*2^(eb - min ea eb).toNat:Nat)else cmpI (sgI na (dlen x)) (sgI nb (dlen y))
theorem cmpI_cases (x y:Int):(x<y∧cmpI x y = -1)∨(y<x∧cmpI x y=1)∨(x=y∧cmpI x y=0):=by
 unfold cmpI
 by_cases h1:x<y
 ·rw[if_pos h1];exact .inl ⟨h1,rfl⟩
 ·rw[if_neg h1]
  by_cases h2:y<x
  ·rw[if_pos h2];exact .inr (.inl ⟨h2,rfl⟩)
  ·rw[if_neg h2];exact .inr (.inr ⟨by omega,rfl⟩)
theorem sgI_pos {na:Bool} {n:Nat} (h:n≠0):sgI na n=if na then -1 else 1:=by unfold sgI;rw[if_neg h]
theorem top_lt {x y k l:Nat} (hy:y≠0) (h:bl x+k<bl y+l):x*2^k<y*2^l:=by
 have h1:=lt_bl x
 have h2:=le_bl hy
 have hb:bl y≠0:=by unfold bl;rw[if_neg hy];omega
 have h3:x*2^k<2^(bl x+k):=by rw[Nat.pow_add];exact Nat.mul_lt_mul_of_pos_right h1 (Nat.two_pow_pos k)
 have h4:2^(bl x+k)≤2^(bl y - 1+l):=Nat.pow_le_pow_right (by omega) (by omega)
 have h5:2^(bl y - 1+l)≤y*2^l:=by rw[Nat.pow_add];exact Nat.mul_le_mul_right _ h2
 omega
theorem cmpI_mul {a b:Int} {c:Nat} (hc:0<c):cmpI (a*(c:Int)) (b*(c:Int))=cmpI a b:=by
 have hc':(0:Int)<(c:Int):=by omega
 unfold cmpI
 have h1:(a*(c:Int)<b*(c:Int))↔a<b:=⟨fun h=>Int.lt_of_mul_lt_mul_right h (Int.le_of_lt hc'),fun h=>Int.mul_lt_mul_of_pos_right h hc'⟩
 have h2:(b*(c:Int)<a*(c:Int))↔b<a:=⟨fun h=>Int.lt_of_mul_lt_mul_right h (Int.le_of_lt hc'),fun h=>Int.mul_lt_mul_of_pos_right h hc'⟩
 simp only[h1,h2]
theorem cmpI_neg (a b:Int):cmpI (-a) (-b) = - cmpI a b:=by
 unfold cmpI
 by_cases h1:a<b
 ·rw[if_neg (by omega),if_pos (by omega),if_pos h1];rfl
 ·by_cases h2:b<a
  ·rw[if_pos (by omega),if_neg h1,if_pos h2]
  ·rw[if_neg (by omega),if_neg (by omega),if_neg h1,if_neg h2];rfl
theorem sgI_eq (s:Bool) (x:Nat):sgI s (dlen x)=if x=0 then 0 else if s then -1 else 1:=by
 unfold sgI
 by_cases h:x=0
 ·subst h;simp[dlen_zero]
 ·rw[if_neg (fun e=>h (dlen_eq_zero.1 e)),if_neg h]
theorem ordN_vz {K:Nat} {na nb:Bool} {x y:Nat} {ea eb:Int} (h1:0≤ea+K) (h2:0≤eb+K):ordN na x ea nb y eb=cmpI (vz K na x ea) (vz K nb y eb):=by
 have hm:0≤min ea eb+(K:Int):=by omega
 have e1:vz K na x ea=vz K na (x*2^(ea - min ea eb).toNat) (min ea eb):=by
  rw[vz_shift hm,show min ea eb+((ea - min ea eb).toNat:Int)=ea by omega]
 have e2:vz K nb y eb=vz K nb (y*2^(eb - min ea eb).toNat) (min ea eb):=by
  rw[vz_shift hm,show min ea eb+((eb - min ea eb).toNat:Int)=eb by omega]
 have hx:x=0↔x*2^(ea - min ea eb).toNat=0:=by
  constructor
  ·rintro rfl;rw[Nat.zero_mul]
  ·intro h;rcases Nat.mul_eq_zero.1 h with h|h
   ·exact h
   ·have:=Nat.two_pow_pos (ea - min ea eb).toNat;omega
 have hy:y=0↔y*2^(eb - min ea eb).toNat=0:=by
  constructor
  ·rintro rfl;rw[Nat.zero_mul]
  ·intro h;rcases Nat.mul_eq_zero.1 h with h|h
   ·exact h
   ·have:=Nat.two_pow_pos (eb - min ea eb).toNat;omega
 rw[e1,e2]
 unfold ordN vz
 rw[cmpI_mul (Nat.two_pow_pos _),sgI_eq,sgI_eq]
 generalize x*2^(ea - min ea eb).toNat=X at *
 generalize y*2^(eb - min ea eb).toNat=Y at *
 by_cases x0:x=0
 ·have X0:=hx.1 x0
  rw[if_pos x0,X0]
  by_cases y0:y=0
  ·rw[if_pos y0,if_pos rfl,hy.1 y0,sv_zero,sv_zero]
   simp[cmpI]
  ·have Y0:Y≠0:=fun h=>y0 (hy.2 h)
   rw[if_neg y0,sv_zero]
   cases nb
   ·simp[sv,cmpI];omega
   ·simp[sv,cmpI];omega
 ·have X0:X≠0:=fun h=>x0 (hx.2 h)
  rw[if_neg x0]
  by_cases y0:y=0
  ·rw[if_pos y0,hy.1 y0,sv_zero]
   cases na
   ·simp[sv,cmpI];omega
   ·simp[sv,cmpI];omega
  ·have Y0:Y≠0:=fun h=>y0 (hy.2 h)
   rw[if_neg y0]
   cases na <;> cases nb
   ·simp[sv]
   ·simp[sv,cmpI];omega
   ·simp[sv,cmpI];omega
   ·simp only[if_true,sv]
    rw[cmpI_neg];omega
end Go.Proofs.YtapooodfgcjoaaaGreat
