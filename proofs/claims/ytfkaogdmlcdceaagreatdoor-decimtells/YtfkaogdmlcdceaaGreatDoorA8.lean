/- Own work: contracts of the program's functions, part 8: RV2 DV4 RV3 RV4 RW2 RW3 RW4 RW5 RW6 RW7 RW8 RW9 RX1 W49 RX2 RX3 W50 L16 L10 L17 L14 W51 W52. -/
import Derived.Test.YtfkaogdmlcdceaaGreatDoorA7
import Derived.Deep.CutBlock
import Derived.Test.YtfkaogdmlcdceaaGreatDoorA5
import Derived.Test.YtfkaogdmlcdceaaGreatDoorA6
import Derived.Test.YtfkaogdmlcdceaaGreatDoorA3
import Derived.Test.YtfkaogdmlcdceaaGreatDoorA4

set_option maxHeartbeats 16000000
set_option maxRecDepth 200000
set_option linter.unusedVariables false
set_option linter.unusedSimpArgs false
namespace Go.Proofs.YtfkaogdmlcdceaaGreatDoor
open Go.RowKit
attribute [local go_sem] iV Nu
theorem qO8 {H wc:World} {b o n y:Nat} (Y:∀ i,i<n→H.cell? ⟨b,o+i,none⟩=some (.int .u32 (dg y i:Nat))) (F:Bw H wc) :
  ∀ j u,(cells y n)[j]?=some u→wc.cell? ((⟨b,o,none⟩:Addr).add j)=some u:=fun j u V=>by
 have J:j<n:=by
  have:=(List.getElem?_eq_some_iff.1 V).1
  rwa [qX6] at this
 rw[qJ8 J] at V;rw[show(⟨b,o,none⟩:Addr).add j=⟨b,o+j,none⟩ by simp[Addr.add],←V]
 exact(F.cell (World.block_lt_of_cell? _ _ (Y j J))).trans (Y j J)
theorem zG6 {y n:Nat}:∀ u ∈ cells y n,u.oneCell'=true:=by
 intro u Y;simp[cells] at Y;obtain⟨j,-,rfl⟩:=Y;rfl
theorem zW9 {w:World} {b Y n:Nat} {v:Value} {u:List Value} (h:w.ownsRow b 96 1 v n u) (J:Y≤b):w.ownsRow Y 96 1 v n u:=by
 refine⟨h.1,?_⟩
 rcases h.2 with h|⟨g,cap,c,F,H,V⟩
 ·exact .inl h
 ·exact .inr ⟨g,cap,c,F,kF8 J H,V⟩
theorem zT9 {V J u:World} {n Y:Nat} {v:Value} (H:Bw V J) (F:u.ownsRow J.heap.size 96 1 v (0+n) ([]++cells Y n)) (T:J.grownBy u none):u.ownsRow V.heap.size 96 1 v n (cells Y n)∧Bw V u:=by
 rw[kH6,kG9] at F;exact⟨zW9 F H.size,H.grown T H.size (fun k D=>by cases D)⟩
def slen:Value→Nat
 | .slice _ n _=>n
 | _=>0
theorem yP7 {w:World} {u n y cap:Nat} {ao:Option Addr} (h:w.ownsRow u 96 1 (.slice ao n cap) n (cells y n)) (T:0<n):∃ g,ao=some ⟨g,0,none⟩∧u≤g∧RowGe w g n (fun i=>.int .u32 (dg y i:Nat)):=by
 rcases h.2 with ⟨Y,I⟩|⟨g,V,c,Y,F,H,C,W,L,D⟩
 ·omega
 ·simp only[Value.slice.injEq] at Y;refine⟨g,Y.1,F,c,H,ω,fun i hi=>?_⟩
  have J:(cells y n)[i]?=c[i]?:=by
   rw[←D,kM1,List.getElem?_take,kU6 hi,Array.getElem?_toList]
  rw[qJ8 hi] at J;exact J.symm
theorem zO0 {J wr u:World} {g na Y V M bv:Nat} (T:Bw J wr) (D:RowGe wr g (na+1) (fun i=>.int .u32 (dg Y i:Nat))) (I:J.heap.size≤g) (H:u=wr.alloc (.cells (madeCells #[.int .u32 0] (M+1)) 96)) (F:Y<V*B^(M+1)) (C:bv<J.heap.size) :
  Two g wr.heap.size u u (na+1) (M+1) (dg (Y % (V*B^(M+1)))) (fun t=>if M+1≤t then dg (Y / V) t else 0)∧Bw J u∧g≠wr.heap.size∧bv≠g∧bv≠wr.heap.size:=by
 have W:=D.lt;have L:=T.size;rw[kB2 F];refine⟨⟨rfl,rfl,rfl,rfl,fun _ _ _=>rfl,?_,?_⟩,?_,ω,ω,ω⟩
 ·exact D.of_block (by rw[H];exact Lib.alloc_old wr _ _ ω)
 ·have:=(Mk.start wr (M+1)).row
  rw[←H] at this;exact(RowGe.of this lR).congr fun i hi=>by rw[kU5 ω]
 ·rw[H];exact T.alloc L _
theorem zT2 {D:Nat} (h:1≤D):Value.int .u64 ((D:Int) - 1)=.int .u64 ((D - 1:Nat):Int):=kU7 (Value.int .u64) ω
theorem yV4 {a b D:Nat} (h:a≤D∧D≤b) (u:D<B):a≤D∧D≤b∧D<B:=⟨h.1,h.2,u⟩
theorem xC0 {off j z s:Nat} {f:Nat→Nat} (h:s<j):put off j z f (off+s)=dg z s:=by
 unfold put;rw[kU6 ω,Nat.add_sub_cancel_left]
theorem yG3 {g h:Nat} {w8 wi:World} {na M j q z V R D Y W:Nat} (HM:Two g h w8 wi (na+1) (M+1) (put j q (z+V) (put j (q+1) z (dg (Y % (V*B^(j+1)))))) (fun t=>if j+1≤t then dg (Y / V) t else 0)) (H:g≠h) (C:W=dg (z+V) q) (hz:z=wsub R (V*D) (q+1)) (J:R<V*D) (hD:R / V≤D∧D≤R / V+1∧D<B) (L:V<B^q∧0<V) (T:R=Y / B^j % (V*B)∧R<B^(q+1)) (hj:j≤M) :
  (∃ F:Nat,F≤M+1∧iV ((j:Int) - 1)=iV ((F:Int) - 1)∧Two g h w8 ((wi.setCell ⟨g,j+q,none⟩ (.int .u32 (W:Nat))).setCell ⟨h,j,none⟩ (.int .u32 ((D:Int) - 1))) (na+1) (M+1) (dg (Y % (V*B^F))) (fun t=>if F≤t then dg (Y / V) t else 0))∧(intOf (iV ((j:Int) - 1))+1).toNat<(intOf (iV (((j+1:Nat):Int) - 1))+1).toNat:=by
 have hm:V*D<B^(q+1):=by rw[qY0];exact Nat.mul_lt_mul_of_lt_of_le L.1 (kM8 hD.2.2) qG6
 obtain⟨f1,f2⟩:=xO5 T.2 hm J hD.2.1 L.2;rw[←hz] at f2;refine⟨⟨j,ω,rfl,?_⟩,by simp[intOf]⟩
 have t1:=HM.putU H (d:=(W:Int)) (by rw[C])
 have t2:=t1.setQ H j (D - 1);have qQ:1≤D:=by rw[f1];exact Nat.le_add_left _ _
 have I:D - 1=R / V:=by rw[f1,kM5]
 rw[show((D:Int) - 1)=((D - 1:Nat):Int) by omega]
 refine t2.congr (fun i hi=>?_) (fun i hi=>?_)
 ·refine yJ8 (z:=z+V) L.2 L.1 T.1 T.2 (fun t ht=>by rw[f2,xF4 ht]) (fun i=>?_) i
  unfold put;by_cases u:j≤i∧i<j+(q+1)
  ·rw[kU6 u,kU6 u]
  ·rw[kU5 u,kU5 u,kU5 u]
 ·show(if i=j then D - 1 else if j+1≤i then dg (Y / V) i else 0)=if j≤i then dg (Y / V) i else 0
  by_cases u:i=j
  ·rw[kU6 u,kU6 ω,u,←zI2,←T.1];exact I
  ·rw[kU5 u];by_cases h2:j+1≤i
   ·rw[kU6 h2,kU6 ω]
   ·rw[kU5 h2,kU5 ω]
theorem yG2 {g h:Nat} {L T:World} {na M j q V R D Y:Nat} (HM:Two g h L T (na+1) (M+1) (put j (q+1) (wsub R (V*D) (q+1)) (dg (Y % (V*B^(j+1))))) (fun t=>if j+1≤t then dg (Y / V) t else 0)) (J:g≠h) (C:D=R / V∧wsub R (V*D) (q+1)=R % V) (W:V<B^q∧0<V) (H:R=Y / B^j % (V*B)∧R<B^(q+1)) (hj:j≤M) :
  (∃ u:Nat,u≤M+1∧iV ((j:Int) - 1)=iV ((u:Int) - 1)∧Two g h L (T.setCell ⟨h,j,none⟩ (.int .u32 (D:Int))) (na+1) (M+1) (dg (Y % (V*B^u))) (fun t=>if u≤t then dg (Y / V) t else 0))∧(intOf (iV ((j:Int) - 1))+1).toNat<(intOf (iV (((j+1:Nat):Int) - 1))+1).toNat:=by
 refine⟨⟨j,ω,rfl,?_⟩,by simp[intOf]⟩
 have t2:=HM.setQ J j D;refine t2.congr (fun i hi=>?_) (fun i hi=>?_)
 ·refine yJ8 (z:=wsub R (V*D) (q+1)) W.2 W.1 H.1 H.2 (fun t ht=>by rw[C.2]) (fun i=>?_) i
  rfl
 ·show(if i=j then D else if j+1≤i then dg (Y / V) i else 0)=if j≤i then dg (Y / V) i else 0
  by_cases F:i=j
  ·rw[kU6 F,kU6 ω,F,←zI2,←H.1];exact C.1
  ·rw[kU5 F];by_cases I:j+1≤i
   ·rw[kU6 I,kU6 ω]
   ·rw[kU5 I,kU5 ω]
theorem yY0 {V wr H:World} {Y j na:Nat} {F:Value} {L:Option Addr} {T:Nat} (C:wr.ownsRow V.heap.size 96 1 (.slice L j T) j (cells Y j)) (D:Bw V wr) (h1:dlen Y≤j) (h2:j<na+1)
  (u:H.ownsRow V.heap.size 96 1 F (j+1) (cells Y j ++ [.int .u32 0])) (hg:(wr.alloc (.cells #[.int .u32 0] 96)).grownBy H (Value.slice L j T).ownBlock) :
  (∃ J:Nat,dlen Y≤J∧J≤na+1∧H.ownsRow V.heap.size 96 1 F J (cells Y J)∧Bw V H)∧na+1 - slen F<na+1 - slen (.slice L j T):=by
 have e:cells Y (j+1)=cells Y j ++ [.int .u32 0]:=by rw[qL8,qK7 h1];rfl
 rw[←e] at u;obtain⟨qQ,W,rfl,-,-⟩:=qV4 u;refine⟨⟨j+1,ω,ω,u,?_⟩,by simp[slen];omega⟩
 exact(D.alloc D.size _).grown hg (by simp;have:=D.size;omega) (fun k I=>(C.lt k I).1)
theorem xL9 (ao bo:Option Addr) (na nb ca cb x y p S bly Y V M:Nat) (w:World) (hna:na≤100000000) (hnb:nb≤100000000) (hb1:2≤nb) (hab:nb+M=na) (hS:S<32) (hb:bly≤3200000000)
  (hp:((bly:Int) - 1).tmod 32=(p:Int)) (hpS:32 - (p:Int) - 1=(S:Int)) (hbp:1≤bly) (hYn:0<dlen Y) (hYl:dlen Y≤na+1) (hVn:dlen V=nb) (hVt:B≤2*dg V (nb - 1)) (hYV:Y<V*B^(M+1))
  (kO:∀ W,Bw w W→Ca 149 #[.slice ao na ca,.slice bo nb cb] W fun e w'=>e=.returned (iV (cmpI x y))∧Bw W w') (hc:¬ cmpI x y<0)
  (kZ:∀ W,Bw w W→Ca 110 #[.slice bo nb cb] W fun e w'=>e=.returned (iV bly)∧w'=W)
  (kU:∀ W,Bw w W→Ca 101 #[.slice bo nb cb,iV (S:Int)] W fun e w'=>∃ v,e=.returned v∧Ir w' v V∧Bw W w')
  (kX:∀ W,Bw w W→Ca 101 #[.slice ao na ca,iV (S:Int)] W fun e w'=>∃ v,e=.returned v∧Ir w' v Y∧Bw W w') :
  Ca 208 #[.slice ao na ca,.slice bo nb cb] w fun e w'=>∃ q r,e=.returned (.tuple #[q,r])∧Ir w' q (Y / V)∧Ir w' r (Y % V / 2^S)∧Bw w w':=by
 have hn1:((nb:Int)==1)=false:=by simp;omega
 have k0:=kO w bR;have HKZ:Hid _:=kZ;have HKU:Hid _:=kU;have HKX:Hid _:=kX;have HY:Hid _:=And.intro hYn hYl;have HVV:Hid _:=aI3 hVn hVt hYV;clear kO kZ kU kX hYn hYl hVn hVt hYV
 go_enter Tryz.func208,Tryz.ntmps208
 go_wp2_with fail;refine k0.mono ?_;rintro r w1 ⟨rfl,hb1'⟩;have HB1:Hid _:=hb1';have kz:=HKZ.out w1 hb1';have ku:=HKU.out w1 hb1';clear k0 hb1' HKZ HKU
 go_wp2_with fail;refine kz.mono ?_;rintro r w2 ⟨rfl,rfl⟩;clear kz
 go_wp2_with fail;refine ku.mono ?_;rintro r w3 ⟨vv,rfl,hIv,hb3⟩;have HB3:Hid _:=HB1.out.trans (hb3.mono HB1.out.size);have HV:Hid _:=hIv;have HB33:Hid (Bw w3 w3.drew):=(⟨rfl,rfl,rfl,kH8 _,fun _ _=>rfl⟩:Bw w3 w3.drew);clear ku hIv hb3
 go_upto_region 8 with fail;have hmk:=run_make_row' (P:=Tryz.prog) 48 96 (.int .u32 0) 4 Tryz.underlying48 Tryz.info96 rfl .i64 .i64 0 ω ω;rw[show((0:Nat):Int)=0 from rfl] at hmk;obtain⟨i0,hi0,hz0,hz1,hz2⟩:=info_parts Tryz.info96
 go_cut [10] from 60 to 64 (fun v wx=>Hid (wx.ownsRow w3.heap.size 96 1 v (dlen Y) (cells Y (dlen Y))∧Bw w3 wx))
 case first =>
  have hP1:Bw w w3.drew:=HB3.out.trans (HB33.out.mono HB3.out.size);have hP2:∀ o,Below w.heap.size w (w3.drew.alloc o):=fun o=>hP1.alloc hP1.size o;have hQ2:∀ o,Below w3.heap.size w3 (w3.drew.alloc o):=fun o=>HB33.out.alloc HB33.out.size o;have kx:=HKX.out;have hYp:=HY.out.1;have hYq:=HY.out.2
  go_region_held3 (fun _=>True) (trivial)
   (first|(go_at_call 101;refine(kx _ (by first|exact hP1|exact hP2 _)).mono ?_;rintro r w4 ⟨vx,rfl,⟨ax,cx,rfl,hcx,bx,ox,hbx,hcellx⟩,hb4⟩;obtain rfl:=hbx hYp)|(refine step_append_grows rfl (.tmp 60) (.tmp 63) 48 rfl 96 i0 (.int .u32 0) 1 4 Tryz.underlying48 hi0 hz0 hz1 hz2 rfl δ (some ⟨_,0,none⟩) 0 0 [] (by simp[Act.eval,Act.put];rfl) (fun h=>by cases h) rfl (fun _ _ j u h=>by simp at h) ⟨bx,ox,none⟩ (dlen Y) cx (cells Y (dlen Y)) (by simp[Act.eval,Act.put]) (by rw[qX6,kM1]) (qO8 hcellx (by first|exact kH9 _ _|exact bR.alloc lR _)) zG6 ω (by unfold maxLen;omega) ω ?_;intro v5 w5 hown hgrow))
  all_goals go_wp2_with fail
  all_goals go_meet
  ·exact zT9 ((hQ2 _).trans (hb4.mono (hQ2 _).size)) hown hgrow
  ·exact zT9 ((HB33.out.trans (hb4.mono HB33.out.size)).alloc (HB33.out.trans (hb4.mono HB33.out.size)).size _) hown hgrow
 case rest =>
  obtain⟨w6,hw6⟩:∃ W2:World,W2=wc:=⟨_,rfl⟩;rw[←hw6] at hcut ⊢;clear hw6 wc hmk HKX
  go_wp2_with fail
  go_loopw [10] (fun v wr=>∃ j:Nat,dlen Y≤j∧j≤na+1∧wr.ownsRow w3.heap.size 96 1 v j (cells Y j)∧Bw w3 wr) (fun v _=>na+1 - slen v)
  case atStart=>exact⟨dlen Y,kH8 _,HY.out.2,hcut.out.1,hcut.out.2⟩
  case round =>
   obtain⟨j,hj1,hj2,ho,hB⟩:=hrel;obtain⟨au,cu,rfl,hcu,hAu⟩:=qV4 ho;by_cases hjn:j<na+1
   ·have hji:(j:Int)≤(na:Int):=ω;have HO:Hid _:=And.intro ho hB;have hbs:w3.heap.size≤wr.heap.size:=hB.size;clear hB hcut hAu
    go_wp2_with (at_builtin;refine wpList_append_own _ rfl _ _ 48 rfl w3.heap.size 96 i0 (.int .u32 0) 1 4 Tryz.underlying48 hi0 hz0 hz1 hz2 rfl δ _ _ _ rfl (ho.alloc _) ⟨wr.heap.size,0,none⟩ 1 1 [.int .u32 0] rfl rfl (cell_one_new _ _ _) (by intro u hu;simp at hu;subst hu;rfl) (by unfold maxLen;omega) ω (by simp;omega) ?_)
    intro v' w4 hown4 hgrow _
    go_wp2;exact yY0 HO.out.1 HO.out.2 hj1 hjn hown4 hgrow
   ·obtain rfl:j=na+1:=ω;obtain⟨g,hg⟩:=yP7 ho ω;obtain⟨rfl,hg3,hgrow⟩:=hg;obtain⟨av,cv,rfl,hcv,bv,ov,hbv,hcellv⟩:=HV.out;have hdv:=HVV.out.1;rw[hdv] at hcv hbv hcellv ⊢;obtain rfl:=hbv ω;have hmk:=run_make_row' (P:=Tryz.prog) 48 96 (.int .u32 0) 4 Tryz.underlying48 Tryz.info96 rfl .i64 .i64 (M+1) ω ω wr;have eM:(na:Int)+1 - (nb:Int) - 1=(M:Int):=ω;have eM2:(na:Int)+1 - (nb:Int)=(M:Int)+1:=ω;rw[show((M+1:Nat):Int)=(M:Int)+1 by omega] at hmk
    have HW:Hid _:=aI4 hB hgrow hg3 hcu;have HCV:Hid _:=hcellv;clear ho hB hcut hAu hcellv hbv hgrow hi0 hz0 hz1 hz2 hjn HV hdv
    go_wp2_with fail;obtain⟨w8,hw8⟩:=eE (wr.alloc (.cells (madeCells #[.int .u32 0] (M+1)) 96));obtain⟨hT,hBw8,hgh,hbg,hbh⟩:=zO0 HW.out.1 HW.out.2.1 HW.out.2.2.1 hw8 HVV.out.2.2 (World.block_lt_of_cell? _ _ (HCV.out 0 ω));rw[←hw8];have HT:Hid _:=hT;obtain⟨h,hh⟩:=eE wr.heap.size;rw[←hh] at hgh hbh HT ⊢;have HW8:Hid (Bw w3 w8∧w3.heap.size≤g∧w3.heap.size≤h):=⟨hBw8,HW.out.2.2.1,by rw[hh];exact HW.out.1.size⟩
    clear hw8 hT hBw8 hh hmk HW
    go_loopw [14] (fun c wr=>∃ jj:Nat,jj≤M+1∧c=iV ((jj:Int) - 1)∧Two g h w8 wr (na+1) (M+1) (dg (Y % (V*B^jj))) (fun t=>if jj≤t then dg (Y / V) t else 0)) (fun c _=>(intOf c+1).toNat)
    case atStart=>exact⟨M+1,kH8 _,by rw[show((M+1:Nat):Int) - 1=(M:Int) by omega],HT.out⟩
    case round =>
     obtain⟨jj,hjj,rfl,hTw⟩:=hrel;by_cases hj0:0<jj
     ·obtain⟨j,rfl⟩:∃ j,jj=j+1:=⟨jj - 1,ω⟩;obtain⟨R,hR⟩:=eE (Y / B^j % (V*B));have hV0:0<V:=kB0 fun e=>by have:=HVV.out.1;rw[e,qQ5] at this;omega
      have hRV:R<V*B:=by rw[hR];exact kB3 _ (Nat.mul_pos hV0 qG6)
      have hRB:R<B^(nb+1):=by
       rw[kN5];exact kF6 hRV (kF5 _ (kM8 (by have:=qY5 V;rw[HVV.out.1] at this;exact this)))
      have gs:=gs_of hb1 HVV.out.1 HVV.out.2.1 hRV;have htt:=zO4 (X:=R) (n:=nb) ω hRB;obtain⟨i1,e1⟩:∃ i1:Nat,(j:Int)+(nb:Int) - 1=(i1:Int):=⟨j+nb - 1,ω⟩;obtain⟨i2,e2⟩:∃ i2:Nat,(j:Int)+(nb:Int) - 2=(i2:Int):=⟨j+nb - 2,ω⟩;obtain⟨k1,f1⟩:∃ k1:Nat,(nb:Int) - 1=(k1:Int):=⟨nb - 1,ω⟩;obtain⟨k2,f2⟩:∃ k2:Nat,(nb:Int) - 2=(k2:Int):=⟨nb - 2,ω⟩;have hcells:∀ wi,Two g h w8 wi (na+1) (M+1) (dg (Y % (V*B^(j+1)))) (fun t=>if j+1≤t then dg (Y / V) t else 0)→Ce wi g (j+nb) (.int .u32 (dg R nb:Nat))∧Ce wi g i1 (.int .u32 (dg R k1:Nat))∧Ce wi g i2 (.int .u32 (dg R k2:Nat))∧Ce wi bv (ov+k1) (.int .u32 (dg V k1:Nat))∧Ce wi bv (ov+k2) (.int .u32 (dg V k2:Nat)):=fun wi hTw=>by
       have c1:=hTw.cellU (i:=j+nb) ω;have c2:=hTw.cellU (i:=j+k1) ω;have c3:=hTw.cellU (i:=j+k2) ω;rw[zH9,←hR] at c1 c2 c3;rw[show i1=j+k1 by omega,show i2=j+k2 by omega]
       exact⟨c1,c2,c3,hTw.old (p:=⟨bv,ov+k1,none⟩) hbg hbh ((HW8.out.1.cell (World.block_lt_of_cell? _ _ (HCV.out k1 ω))).trans (HCV.out k1 ω)),hTw.old (p:=⟨bv,ov+k2,none⟩) hbg hbh ((HW8.out.1.cell (World.block_lt_of_cell? _ _ (HCV.out k2 ω))).trans (HCV.out k2 ω))⟩
      have gs2:Gs R V (dg V k1) (dg V k2) (R / B^k1) (dg R k2) nb:=by
       have:=gs
       rw[show nb - 1=k1 by omega,show nb - 2=k2 by omega] at this
       exact this
      rw[show nb - 1=k1 by omega] at htt
      clear gs;generalize hv1:dg V k1=v1 at *;generalize hv2:dg V k2=v2 at *;generalize ha:dg R nb=ra at *;generalize hb':dg R k1=rb at *;generalize hr3:dg R k2=r3 at *;have hraB:ra<B:=ha ▸ qX1 _ _;have hrbB:rb<B:=hb' ▸ qX1 _ _;generalize ht:R / B^k1=t at *;have htw:bits BinOp.or IntKind.u64 (IntKind.u64.wrap (IntKind.u64.wrap (ra:Int)*4294967296)) (IntKind.u64.wrap (rb:Int))=(t:Int):=by
       rw[←htt,kH5];exact qU3 hrbB hraB
      have GS:Hid _:=gs2;have HTw:Hid _:=hTw;have HR:Hid _:=And.intro hR hRB;have hv1w:=qX3 gs2.v1B;have hv2w:=qX3 gs2.v2B;have hr3w:=qX3 gs2.r3B;have hv1z:((v1:Int)==0)=false:=by have:=gs2.v1p;simp;omega
      have hv1n:(v1:Int)≠0:=by have:=gs2.v1p;omega
      have hq1:IntKind.u64.wrap ((t:Int) / (v1:Int))=((t / v1:Nat):Int):=by
       have h1:=gs2.tB;have h2:t / v1≤t:=kF9 _ _;rw[show(t:Int) / (v1:Int)=((t / v1:Nat):Int)from rfl,kB6];have h3:B*B=18446744073709551616:=by unfold B;rfl
       generalize t / v1=q at *;omega
      have hj1:((j+1:Nat):Int) - 1=(j:Int):=ω;have HCL:Hid _:=hcells;obtain⟨c1,c2,c3,d1,d2⟩:=hcells wr hTw;clear hTw hR hRV hRB gs2 htt hv1 hv2 ha hb' hr3 hraB hrbB ht hV0 hcells
      go_wp2
      go_quiet (fail)
      have HTq:Hid _:=HTw.out.drewN nq;obtain⟨wq,hwq⟩:=eE (wr.drewN nq);rw[←hwq] at HTq ⊢;clear hwq c1 c2 c3 d1 d2 HTw;obtain⟨c1,c2,c3,d1,d2⟩:=HCL.out wq HTq.out
      go_upto_block 4 with fail
      go_cut [16,17] from 121 to 156 (fun d r wx=>∃ D:Nat,d=.int .u64 (D:Nat)∧Hid (R / V≤D∧D≤R / V+1∧D<B)∧Hid (Two g h w8 wx (na+1) (M+1) (dg (Y % (V*B^(j+1)))) (fun t=>if j+1≤t then dg (Y / V) t else 0)))
      case first =>
       clear c1 c2 c3 d1 d2
       go_wp2_with fail
       go_loopw [16,17] (fun d r wi=>∃ D r':Nat,d=.int .u64 (D:Nat)∧r=.int .u64 (r':Nat)∧r'<B∧Hid (Kn R V v1 t D r')∧Hid (Two g h w8 wi (na+1) (M+1) (dg (Y % (V*B^(j+1)))) (fun t=>if j+1≤t then dg (Y / V) t else 0))) (fun d _ _=>(intOf d).toNat)
       case atStart=>exact⟨t / v1,t % v1,by first|rfl|rw[hq1],rfl,Nat.lt_trans (kB3 _ (by have:=GS.out.v1p;omega)) GS.out.v1B,GS.out.start,HTq.out⟩
       case round =>
        obtain⟨D,r,rfl,rfl,hrB,HK,HTi⟩:=hrel;obtain⟨wi,rfl⟩:∃ wi:World,wi=wr:=⟨_,rfl⟩;obtain⟨c1,c2,c3,d1,d2⟩:=HCL.out wi HTi.out;have hDl:D≤B+1:=HK.out.le;have hr1:(r:Int)<4294967296:=by unfold B at hrB;omega
        by_cases hdB:B≤D
        ·have hdi:(4294967296:Int)≤(D:Int):=by unfold B at hdB;omega
         have hls:=GS.out.less HK.out (.inl hdB);have HL:Hid _:=hls;have hbr:=fun hc=>GS.out.brk HK.out hrB hc;have HBR:Hid _:=hbr;have hD1:(1:Int)≤(D:Int):=ω;have hDu:(D:Int)≤4294967297:=by unfold B at hDl;omega
         have hv1u:(v1:Int)<4294967296:=by have:=GS.out.v1B;unfold B at this;omega
         clear hls hbr
         go_wp2
         go_quiet (fail)
         have HTj:Hid _:=HTi.out.drewN nq;obtain⟨wj,hwj⟩:=eE (wi.drewN nq);rw[←hwj] at HTj ⊢;clear hwj c1 c2 c3 d1 d2 HTi;obtain⟨c1,c2,c3,d1,d2⟩:=HCL.out wj HTj.out;by_cases hbk:B≤r+v1
         ·have hbk1:(4294967296:Int)≤(r:Int)+(v1:Int):=by unfold B at hbk;omega
          go_wp2
          go_meet
          exact⟨D - 1,zT2 HL.out.2,yV4 (GS.out.done HL.out.1 (HBR.out hbk) (.inr hbk)) (HBR.out hbk),HTj.out⟩
         ·have hbk1:¬ (4294967296:Int)≤(r:Int)+(v1:Int):=by unfold B at hbk;omega
          go_wp2;exact⟨⟨D - 1,r+v1,zT2 HL.out.2,rfl,ω,HL.out.1,HTj.out⟩,by simp[intOf];omega⟩
        ·have hdi:¬ (4294967296:Int)≤(D:Int):=by unfold B at hdB;omega
         have hv2B:=GS.out.v2B;have hr3B:=GS.out.r3B;have hk2n:(k2:Int)<(nb:Int):=ω;have hi2n:(i2:Int)<(na:Int)+1:=ω;have hk2m:k2<nb:=ω;have hjnw:IntKind.i64.wrap ((j:Int)+(nb:Int))=(j:Int)+(nb:Int):=by rw[kB5];omega
         have hk2w:IntKind.i64.wrap (k2:Int)=(k2:Int):=by rw[kB5];omega
         have hi2w:IntKind.i64.wrap (i2:Int)=(i2:Int):=by rw[kB5];omega
         have hi2m:i2<na+1:=ω;obtain⟨P,hP⟩:∃ P:Nat,P=D*v2:=⟨_,rfl⟩;obtain⟨Q1,hQ1⟩:∃ Q1:Nat,Q1=r*B:=⟨_,rfl⟩;obtain⟨Q2,hQ2⟩:∃ Q2:Nat,Q2=r*B+r3:=⟨_,rfl⟩;have hm1:IntKind.u64.wrap ((D:Int)*(v2:Int))=(P:Int):=by
          have:D*v2<B*B:=Nat.mul_lt_mul'' ω hv2B
          have hBB:B*B=18446744073709551616:=by unfold B;rfl
          rw[←kN8,kB6,hP];generalize D*v2=m at *;omega
         have hm2:IntKind.u64.wrap ((r:Int)*4294967296)=(Q1:Int):=by
          rw[hQ1,kB6];unfold B at *; omega
         have hm3:IntKind.u64.wrap ((Q1:Int)+(r3:Int))=(Q2:Int):=by
          rw[hQ2,hQ1,kB6];unfold B at *; omega
         by_cases hgt:Q2<P
         ·have hgi:(Q2:Int)<(P:Int):=ω;have hls:=GS.out.less HK.out (.inr (by rw[←hQ2,←hP];exact hgt))
          have HL:Hid _:=hls;have hbr:=fun hc=>GS.out.brk HK.out hrB hc;have HBR:Hid _:=hbr;have hD1:(1:Int)≤(D:Int):=ω;have hDu:(D:Int)≤4294967297:=by unfold B at hDl;omega
          have hv1u:(v1:Int)<4294967296:=by have:=GS.out.v1B;unfold B at this;omega
          clear hls hbr hP hQ1 hQ2
          go_wp2
          go_quiet (fail)
          have HTj:Hid _:=HTi.out.drewN nq;obtain⟨wj,hwj⟩:=eE (wi.drewN nq);rw[←hwj] at HTj ⊢;clear hwj c1 c2 c3 d1 d2 HTi;obtain⟨c1,c2,c3,d1,d2⟩:=HCL.out wj HTj.out;by_cases hbk:B≤r+v1
          ·have hbk1:(4294967296:Int)≤(r:Int)+(v1:Int):=by unfold B at hbk;omega
           go_wp2
           go_meet
           exact⟨D - 1,zT2 HL.out.2,yV4 (GS.out.done HL.out.1 (HBR.out hbk) (.inr hbk)) (HBR.out hbk),HTj.out⟩
          ·have hbk1:¬ (4294967296:Int)≤(r:Int)+(v1:Int):=by unfold B at hbk;omega
           go_wp2;exact⟨⟨D - 1,r+v1,zT2 HL.out.2,rfl,ω,HL.out.1,HTj.out⟩,by simp[intOf];omega⟩
         ·have hgi:¬ (Q2:Int)<(P:Int):=ω;have hdn:=GS.out.done HK.out ω (.inl (by rw[←hQ2,←hP];omega))
          have HDN:Hid (R / V≤D∧D≤R / V+1∧D<B):=⟨hdn.1,hdn.2,ω⟩;clear hdn hP hQ1 hQ2;have hd1:decide ((4294967296:Int)≤(D:Int))=false:=kF1 ω
          go_wp2
          go_quiet (fail)
          have HTj:Hid _:=HTi.out.drewN nq;obtain⟨wj,hwj⟩:=eE (wi.drewN nq);rw[←hwj] at HTj ⊢;clear hwj c1 c2 c3 d1 d2 HTi hm1 hm2 hm3 hk2w hi2w hjnw;clear e1 e2 f1 f2 hv1w hv2w hr3w htw hq1 hk2n hi2n hk2m hi2m hv1z hv1n hDl hr1 hgt hdB hrB hv2B hr3B HK GS HCL HTq;try simp only[hd1]
          go_wp2_with fail
          go_meet
          exact⟨D,rfl,HDN.out,HTj.out⟩
      case rest =>
       obtain⟨D,rfl,HD,HTx⟩:=hcut;obtain⟨wx,rfl⟩:∃ wx:World,wx=wc:=⟨_,rfl⟩;clear c1 c2 c3 d1 d2 HCL GS hv1w hv2w hr3w hv1z hv1n hq1 htw HTq e1 e2 f1 f2;have HN:Hid (V<B^nb∧0<V):=⟨by have:=qY5 V;rw[HVV.out.1] at this;exact this,kB0 fun e=>by have:=HVV.out.1;rw[e,qQ5] at this;omega⟩
       go_wp2_with fail
       go_loopw [18,19,20] (fun b c i wi=>∃ s:Nat,s≤nb∧b=.int .u64 (subb R (V*D) s:Nat)∧c=.int .u64 (mulc V D s:Nat)∧i=iV (s:Int)∧Two g h w8 wi (na+1) (M+1) (put j s (wsub R (V*D) (nb+1)) (dg (Y % (V*B^(j+1))))) (fun t=>if j+1≤t then dg (Y / V) t else 0)) (fun _ _ i _=>nb - (intOf i).toNat)
       case atStart=>exact⟨0,kB4 _,by rw[qS1];rfl,by rw[qR2];rfl,rfl,HTx.out.congr (fun s _=>(qC1 ..).symm) (fun _ _=>rfl)⟩
       case round =>
        obtain⟨s,hs,rfl,rfl,rfl,hM⟩:=hrel;obtain⟨wi,rfl⟩:∃ wi:World,wi=wr:=⟨_,rfl⟩;have HM:Hid _:=hM;have c1:=hM.cellU (i:=j+s) ω;rw[qC2 ω,zH9,←HR.out.1] at c1;have c2:=hM.frozenU (j+s);by_cases hsn:s<nb
        ·have d1:=hM.old (p:=⟨bv,ov+s,none⟩) hbg hbh ((HW8.out.1.cell (World.block_lt_of_cell? _ _ (HCV.out s hsn))).trans (HCV.out s hsn));have hsi:(s:Int)<(nb:Int):=ω;obtain⟨P,W,c',yy,b',sd,p1,p2,p3,p4,p5,p6,p7,q1,q2,q3⟩:=xU8 (R:=R) (V:=V) (D:=D) (s:=s) (n:=nb) HD.out.2.2 ω;have hw1:=qX3 (qX1 V s);have hw2:=qX3 (qX1 R s);rw[kH5 j s] at c1 c2;have HQ:Hid _:=aI3 q1 q2 q3;generalize dg V s=vs at *;generalize dg R s=us at *;generalize mulc V D s=mc at *;generalize subb R (V*D) s=sb at *;clear hM q1 q2 q3
         go_wp2;exact⟨⟨s+1,ω,by rw[HQ.out.2.1],by rw[HQ.out.1],rfl,by rw[kH5 s j];exact HM.out.putU hgh (by rw[HQ.out.2.2])⟩,by simp[intOf];omega⟩
        ·obtain rfl:s=nb:=ω;have hsi:¬ (s:Int)<(s:Int):=ω;obtain⟨W,sd,p5,p6,p7,q3⟩:=xE8 (R:=R) (V:=V) (D:=D) (n:=s) HD.out.2.2 HN.out.1 HR.out.2;have hw2:=qX3 (qX1 R s);obtain⟨wk,hwk⟩:=eE (wi.setCell ⟨g,j+s,none⟩ (.int .u32 (sd:Nat)));have HK2:Hid (Two g h w8 wk (na+1) (M+1) (put j (s+1) (wsub R (V*D) (s+1)) (dg (Y % (V*B^(j+1))))) (fun t=>if j+1≤t then dg (Y / V) t else 0)):=by rw[hwk];exact HM.out.putU hgh (by rw[q3])
         by_cases hneg:R<V*D
         ·rw[kF2 hneg] at p7;generalize dg R s=us at *;generalize mulc V D s=mc at *;generalize subb R (V*D) s=sb at *;have hmj:(j:Int)<(M:Int)+1:=ω;clear hM q3;have hD0:D≠0:=fun h=>by rw[h,Nat.mul_zero] at hneg;omega
          have hD1:(1:Int)≤(D:Int):=ω;have hDu:(D:Int)<4294967296:=by have:=HD.out.2.2;unfold B at this;omega
          have hDm:((D:Int) - 1) % 4294967296=(D:Int) - 1:=ω
          go_upto_region 36 with fail;rw[←hwk];clear hwk c1 c2 p5 p6 p7 hw2 HM HTx;obtain⟨z,hz⟩:=eE (wsub R (V*D) (s+1));rw[←hz] at HK2;have HZ:Hid _:=And.intro hz hneg;clear hz hneg
          go_wp2_with fail
          go_loopw [24,25] (fun c i wi=>∃ q:Nat,q≤s∧c=.int .u64 (addc z V q:Nat)∧i=iV (q:Int)∧Two g h w8 wi (na+1) (M+1) (put j q (z+V) (put j (s+1) z (dg (Y % (V*B^(j+1)))))) (fun t=>if j+1≤t then dg (Y / V) t else 0)) (fun _ i _=>s - (intOf i).toNat)
          case atStart=>exact⟨0,kB4 _,by rw[qN9];rfl,rfl,HK2.out.congr (fun s _=>(qC1 ..).symm) (fun _ _=>rfl)⟩
          case round =>
           obtain⟨q,hq,rfl,rfl,hM⟩:=hrel;obtain⟨wi,rfl⟩:∃ wi:World,wi=wr:=⟨_,rfl⟩;have HM:Hid _:=hM;have c1:=hM.cellU (i:=j+q) ω;rw[qC2 ω,xC0 ω] at c1;have c2:=hM.frozenU (j+q);by_cases hqs:q<s
           ·have d1:=hM.old (p:=⟨bv,ov+q,none⟩) hbg hbh ((HW8.out.1.cell (World.block_lt_of_cell? _ _ (HCV.out q hqs))).trans (HCV.out q hqs));have hsi:(q:Int)<(s:Int):=ω;obtain⟨T,c',sd2,p1,p2,p3,q1,q2⟩:=xM1 z V q;have hw1:=qX3 (qX1 V q);have hw2:=qX3 (qX1 z q);rw[kH5 j q] at c1 c2;have HQ:Hid _:=And.intro q1 q2;generalize dg V q=vs at *;generalize dg z q=us at *;generalize addc z V q=mc at *;have hjq:(q:Int)+(j:Int)<(na:Int)+1:=ω;clear hM q1 q2
            go_wp2
            go_quiet (fail)
            have HMq:Hid _:=HM.out.drewN nq;have c1':(wi.drewN nq).cell? ⟨g,q+j,none⟩=some (.int .u32 (us:Nat)):=c1;have c2':(wi.drewN nq).frozen? ⟨g,q+j,none⟩=false:=c2;generalize wi.drewN nq=wj at *
            go_wp2;exact⟨⟨q+1,ω,by rw[HQ.out.1],rfl,by rw[kH5 q j];exact HMq.out.putU hgh (by rw[HQ.out.2])⟩,by simp[intOf];omega⟩
           ·obtain rfl:q=s:=ω;have hsi:¬ (q:Int)<(q:Int):=ω;obtain⟨sd2,p1,q2⟩:=kV2 (z:=z) HN.out.1;have HQ:Hid _:=q2;have hqc:=hM.frozenQ j;have hqd:=hM.cellQ (i:=j) ω;generalize dg z q=us at *;generalize addc z V q=mc at *;clear hM q2
            go_wp2;exact yG3 HM.out hgh HQ.out HZ.out.1 HZ.out.2 HD.out HN.out HR.out ω
         ·rw[kF1 hneg] at p7;have hfl:=xO4 HR.out.2 hneg HD.out.1 HN.out.2;have HF:Hid _:=hfl;have hqc:=HK2.out.frozenQ j;have hqd:=HK2.out.cellQ (i:=j) ω;have hDm:(D:Int) % 4294967296=(D:Int):=by have:=HD.out.2.2;unfold B at this;omega
          generalize dg R s=us at *;generalize mulc V D s=mc at *;generalize subb R (V*D) s=sb at *;have hmj:(j:Int)<(M:Int)+1:=ω;clear hM q3 hfl
          go_upto_region 45 with fail;rw[←hwk];clear hwk
          go_wp2;exact yG2 HK2.out hgh HF.out HN.out HR.out ω
     ·obtain rfl:jj=0:=ω;have hTF:Two g h w8 wr (na+1) (M+1) (dg (Y % V)) (dg (Y / V)):=hTw.congr (fun i _=>by rw[kN7,kM1]) (fun i _=>kU6 (kB4 _))
      have hV0:0<V:=kB0 fun e=>by have:=HVV.out.1;rw[e,qQ5] at this;omega
      have hAu:At wr (some ⟨g,0,none⟩) (na+1) (Y % V):=⟨g,0,fun _=>rfl,fun i hi=>by rw[kH6];exact hTF.cellU hi⟩
      have hAq:At wr (some ⟨h,0,none⟩) (M+1) (Y / V):=⟨h,0,fun _=>rfl,fun i hi=>by rw[kH6];exact hTF.cellQ hi⟩
      have hLu:dlen (Y % V)≤na+1:=by
       have:dlen (Y % V)≤dlen V:=qZ5 (kM8 (kB3 _ hV0))
       rw[HVV.out.1] at this;omega
      have hLq:dlen (Y / V)≤M+1:=(qZ3 _ _).2 ((kM6 hV0).2 (by rw[kN4];exact HVV.out.2.2))
      have k40:=r40 (some ⟨g,0,none⟩) (na+1) cu (Y % V) wr hLu hcu ω hAu;have kd:=xK9 (v:=.slice (some ⟨g,0,none⟩) (dlen (Y % V)) cu) (⟨_,_,rfl,ω,qF0 hAu hLu⟩:Ir wr _ (Y % V)) S ω ω;have HE:Hid (At wr (some ⟨h,0,none⟩) (M+1) (Y / V)∧dlen (Y / V)≤M+1∧Bw w wr):=⟨hAq,hLq,HB3.out.trans ((HW8.out.1.trans (hTF.below (by have:=HW8.out.2.1;exact this) (by have:=HW8.out.2.2;exact this))).mono HB3.out.size)⟩
      clear hTw hTF hAu hAq hLu hLq hV0
      go_wp2_with fail;refine k40.mono ?_;rintro r w9 ⟨rfl,rfl⟩;clear k40
      go_wp2_with fail;refine kd.mono ?_;rintro r w9 ⟨ar,cr,rfl,hAr,hcr,hBr⟩;have HR9:Hid _:=And.intro hAr hcr;have HQ9:Hid _:=And.intro (HE.out.1.later hBr) (HE.out.2.2.trans (hBr.mono HE.out.2.2.size));have k40:=r40 (some ⟨h,0,none⟩) (M+1) (M+1) (Y / V) w9 HE.out.2.1 lR ω HQ9.out.1;clear kd hAr hcr hBr
      go_wp2_with fail;refine k40.mono ?_;rintro r w10 ⟨rfl,rfl⟩;clear k40
      go_wp2;refine kB8 (kM3 rfl _ _ _) rfl ?_;exact⟨_,_,rfl,⟨_,_,rfl,HE.out.2.1,qF0 HQ9.out.1 HE.out.2.1⟩,⟨_,_,rfl,HR9.out.2,HR9.out.1⟩,HQ9.out.2⟩
end Go.Proofs.YtfkaogdmlcdceaaGreatDoor
namespace Go.Proofs.YtfkaogdmlcdceaaGreatDoor
attribute [local go_sem] iV Nu
theorem zG8 {x n:Nat}:bl x≤n↔x<2^n:=qJ4 x n
theorem zA9 (n:Nat):B^n=2^(32*n):=by rw[show B=2^32 by rfl,←Nat.pow_mul]
theorem zD9 {y n p S:Nat} (Y:y≠0) (J:dlen y=n) (W:p=(bl y - 1) % 32) (C:S+p+1=32):bl y+S=32*n∧1≤bl y∧2^(32*n - 1)≤y*2^S∧y*2^S<2^(32*n)∧S<32:=by
 have F:=zQ8 Y;have T:=zT4 Y;have u:=qX1 y (dlen y - 1);have D:1≤n:=by
  rcases Nat.eq_zero_or_pos n with h|h
  ·rw[h] at J;exact absurd (qQ8.1 J) Y
  ·exact h
 rw[J] at F T u;have L:bl (dg y (n - 1))≤32:=zG8.2 (by rw[←show B=2^32 by rfl];exact u)
 have I:1≤bl (dg y (n - 1)):=by
  rcases Nat.eq_zero_or_pos (bl (dg y (n - 1)))with h|h
  ·have:=zG8.1 (Nat.le_of_eq h)
   rw[kN7] at this;omega
  ·exact h
 have e:bl y+S=32*n:=ω;have V:=qD1 Y;have H:=qG2 y;refine⟨e,ω,?_,?_,ω⟩
 ·have:2^(bl y - 1)*2^S≤y*2^S:=kF5 _ V
  rw[←kN3,show bl y - 1+S=32*n - 1 by omega] at this
  exact this
 ·have:y*2^S<2^bl y*2^S:=kM4 H (kF3 _)
  rw[←kN3,e] at this;exact this
theorem yU2 {x y na nb M p S:Nat} (W:y≠0) (hx:x≠0) (H:dlen y=nb) (F:dlen x=na) (qQ:nb+M=na) (I:2≤nb) (C:p=(bl y - 1) % 32) (hS:S+p+1=32) :
  dlen (y*2^S)=nb∧B≤2*dg (y*2^S) (nb - 1)∧x*2^S<y*2^S*B^(M+1)∧0<dlen (x*2^S)∧dlen (x*2^S)≤na+1:=by
 obtain⟨e,h1,Y,V,L⟩:=zD9 W H C hS;have u:=qY5 x;rw[F] at u;have J:dlen (y*2^S)=nb:=by
  have a:dlen (y*2^S)≤nb:=(qZ3 _ _).2 (by rw[zA9];exact V)
  have b:¬ dlen (y*2^S)≤nb - 1:=fun h=>by
   have:=(qZ3 _ _).1 h
   rw[zA9] at this;have h2:2^(32*(nb - 1))≤2^(32*nb - 1):=kF4 ω ω;omega
  omega
 have D:2^S≤2^31:=kF4 ω ω;have T:x*2^S<B^na*2^31:=kF6 (kM4 u (kF3 _)) (kB1 _ D);refine⟨J,?_,?_,?_,?_⟩
 ·have h3:dg (y*2^S) (nb - 1)=y*2^S / B^(nb - 1):=by
   unfold dg;rw[kB2];refine(kM6 (kH1 qG6)).2 ?_
   rw[kN4 B,←kN5,show(nb - 1).succ=nb by omega,zA9]
   exact V
  have h4:2^31≤y*2^S / B^(nb - 1):=by
   refine(Nat.le_div_iff_mul_le (kH1 qG6)).2 ?_
   rw[zA9,←kN3,show 31+32*(nb - 1)=32*nb - 1 by omega]
   exact Y
  rw[h3];have:B=2*2^31:=by rfl
  omega
 ·refine kF6 T ?_;have:2^(32*nb - 1)*B^(M+1)≤y*2^S*B^(M+1):=kF5 _ Y
  refine kF8 (Nat.le_of_eq ?_) this;rw[zA9,zA9,←kN3,←kN3];congr 1;omega
 ·refine kB0 fun h=>?_;have:=qQ8.1 h
  rcases Nat.mul_eq_zero.1 this with h|h
  ·exact hx h
  ·have:=kF3 S;omega
 ·refine(qZ3 _ _).2 (kF6 T ?_)
  rw[kN5];exact kB1 _ (by unfold B;omega)
theorem yX6 {x y S:Nat}:x*2^S / (y*2^S)=x / y:=Nat.mul_div_mul_right _ _ (kF3 S)
theorem yX2 {x y S:Nat}:x*2^S % (y*2^S) / 2^S=x % y:=by
 rw[Nat.mul_mod_mul_right,Nat.mul_div_cancel _ (kF3 S)]
end Go.Proofs.YtfkaogdmlcdceaaGreatDoor
namespace Go.Proofs.YtfkaogdmlcdceaaGreatDoor
open Go.RowKit
attribute [local go_sem] iV Nu
theorem qA8 (w:World) (u:Value):(w.alloc (.cells #[u] 96)).cell? ⟨w.heap.size,0+0,none⟩=some u:=by
 have h:=kB7 w (.cells #[u] 96);unfold World.cell?;simp only[h,kH7];rfl
theorem xW0 (ba T na ca:Nat) (vb:Value) (x y:Nat) (w:World) (qU:0<na) (qG:na≤100000000) (hx:dlen x=na) (qJ:x<y) (qY:∀ i,i<na→w.cell? ⟨ba,T+i,none⟩=some (.int .u32 (dg x i:Nat)))
  (kO:Ca 149 #[.slice (some ⟨ba,T,none⟩) na ca,vb] w fun e w'=>e=.returned (iV (cmpI x y))∧∃ d,w'=w.drewN d) :
  Ca 208 #[.slice (some ⟨ba,T,none⟩) na ca,vb] w fun e w'=>∃ q r,e=.returned (.tuple #[q,r])∧Ir w' q 0∧Ir w' r x∧Bw w w':=by
 have hc:cmpI x y = -1:=by unfold cmpI;rw[kU6 ω]
 rw[hc] at kO;have HX:Hid _:=hx;have qV:Hid _:=qY;clear hx hc qJ qY
 go_enter Tryz.func208,Tryz.ntmps208
 go_wp2_with fail;refine kO.mono ?_;rintro r Y ⟨rfl,d,hd⟩;have H:Hid (Bw w Y):=(hd ▸ ⟨rfl,rfl,rfl,kH8 _,fun _ _=>rfl⟩:Bw w Y);have HN:Hid (∀ j u,(cells x na)[j]?=some u→(Y.alloc (Obj.cells (madeCells #[Value.int IntKind.u32 0] 0) 96)).cell? ((⟨ba,T,none⟩:Addr).add j)=some u):=qO8 qV.out (H.out.alloc H.out.size _);have qK:(Y.alloc (Obj.cells (madeCells #[Value.int IntKind.u32 0] 0) 96)).ownsRow Y.heap.size 96 1 (.slice (some ⟨Y.heap.size,0,none⟩) 0 0) 0 []:=World.ownsRow_made Y _ 0 lR (by unfold maxLen;omega) (by simp[madeCells])
 have qQ:=run_make_row' (P:=Tryz.prog) 48 96 (.int .u32 0) 4 Tryz.underlying48 Tryz.info96 rfl .i64 .i64 0 ω ω Y;rw[show((0:Nat):Int)=0 from rfl] at qQ;obtain⟨i0,qZ,I,C,W⟩:=info_parts Tryz.info96;clear kO hd
 go_wp2_with (at_builtin;refine wpList_append_own _ rfl _ _ 48 rfl Y.heap.size 96 i0 (.int .u32 0) 1 4 Tryz.underlying48 qZ I C W rfl δ _ 0 [] rfl qK ⟨ba,T,none⟩ na ca (cells x na) rfl (by rw[qX6,kM1]) HN.out zG6 (by unfold maxLen;omega) ω (by simp) ?_)
 intro v' w4 F J _;obtain⟨D,V,rfl,qX,hA⟩:=qV4 F;have HR:Hid (At w4 D na x∧na≤V∧Bw w w4):=⟨hA,qX,H.out.trans ((Below.grown ((kH9 Y.heap.size Y).alloc lR _) J (by simp) (fun k hk=>by simp[Value.ownBlock] at hk;omega)).mono H.out.size)⟩
 have L:=r40 D na V x w4 (by rw[HX.out];exact kH8 _) qX ω hA
 clear F J hA HN qK qQ qZ I C W
 go_wp2_with fail;refine L.mono ?_;rintro r w5 ⟨rfl,rfl⟩;clear L
 go_wp2;refine kB8 (kM3 rfl _ _ _) rfl ?_;exact⟨_,_,rfl,Ir.nil _ _ _,⟨D,V,rfl,by rw[HX.out];exact HR.out.2.1,by rw[HX.out];exact HR.out.1⟩,HR.out.2.2⟩
theorem xW (va:Value) (I T cb:Nat) (x y:Nat) (w:World) (qX:¬ x<y) (qQ:y<B) (V:w.cell? ⟨I,T,none⟩=some (.int .u32 (y:Nat)))
  (kO:Ca 149 #[va,.slice (some ⟨I,T,none⟩) 1 cb] w fun e w'=>e=.returned (iV (cmpI x y))∧∃ d,w'=w.drewN d)
  (kS:∀ d,Ca 102 #[va,.int .u32 (y:Nat)] (w.drewN d) fun e w'=>∃ v,e=.returned (.tuple #[v,.int .u32 (x % y:Nat)])∧Own w' (w.drewN d).heap.size v (x / y)∧Below (w.drewN d).heap.size (w.drewN d) w') (qZ:0<y) :
  Ca 208 #[va,.slice (some ⟨I,T,none⟩) 1 cb] w fun e w'=>∃ q r,e=.returned (.tuple #[q,r])∧Ir w' q (x / y)∧Ir w' r (x % y)∧Bw w w':=by
 have hc:¬ cmpI x y<0:=by unfold cmpI;rw[kU5 ω];split <;> omega
 have HR:Hid (x % y<B):=(Nat.lt_trans (kB3 _ qZ) qQ:x % y<B);generalize cmpI (x:Int) (y:Int)=c at *
 go_enter Tryz.func208,Tryz.ntmps208
 go_wp2_with fail;refine kO.mono ?_;rintro r w1 ⟨rfl,d,rfl⟩;have k:=kS d;have qY:(w.drewN d).cell? ⟨I,T,none⟩=some (.int .u32 (y:Nat)):=V;have D:Hid (Below w.heap.size w (w.drewN d)):=(⟨rfl,rfl,rfl,kH8 _,fun _ _=>rfl⟩:Below w.heap.size w (w.drewN d));generalize w.drewN d=w1 at *;clear kO kS V
 go_wp2_with fail;refine k.mono ?_;rintro r Y ⟨v,rfl,hO,F⟩;have u:Hid _:=And.intro (D.out.trans (F.mono D.out.size)) hO;obtain⟨q,hq⟩:=eE (x % y);rw[←hq] at HR ⊢;have HQ:Hid _:=hq;obtain⟨W,L⟩:=eE (Y.alloc (.cells #[.int .u32 (q:Nat)] 96));have H:Bw Y W:=by rw[L];exact bR.alloc lR _
 have hA:At W (some ⟨Y.heap.size,0,none⟩) 1 q:=⟨Y.heap.size,0,fun _=>rfl,fun i hi=>by
  obtain rfl:i=0:=ω;rw[L,qL4,kB2 HR.out];exact qA8 Y _⟩
 have C:dlen q≤1:=(qZ3 1 q).2 (by rw[Nat.pow_one];exact HR.out)
 have J:=r40 (some ⟨Y.heap.size,0,none⟩) 1 1 q W C lR ω hA;have HE:Hid _:=aI3 (qF0 hA C) C H;clear k hO F hA C H hq
 go_wp2_with fail;rw[←L];clear L;refine J.mono ?_;rintro r w5 ⟨rfl,rfl⟩;clear J
 go_wp2;refine kB8 (kM3 rfl _ _ _) rfl ?_;have hB:=u.out.1.trans (HE.out.2.2.mono u.out.1.size);exact⟨_,_,rfl,(u.out.2.is.ir).later HE.out.2.2,by rw[←HQ.out];exact⟨_,_,rfl,HE.out.2.1,HE.out.1⟩,hB⟩
theorem yX3 {u v:Value} {x y:Nat} {w:World} (C:Ir w u x) (L:Ir w v y) (D:x≠0) (F:y≠0) (hx:dlen x≤100000000) (hy:dlen y≤100000000) :
  Ca 208 #[u,v] w fun e w'=>∃ q r,e=.returned (.tuple #[q,r])∧Ir w' q (x / y)∧Ir w' r (x % y)∧Bw w w':=by
 have kO:=rord C L ω ω;have T:0<dlen x:=kB0 fun e=>D (qQ8.1 e);have Y:0<dlen y:=kB0 fun e=>F (qQ8.1 e);obtain⟨ao,ca,rfl,a1,ba,oa,a3,a4⟩:=id C;obtain⟨bo,cb,rfl,b1,bb,ob,b3,b4⟩:=id L;obtain rfl:=a3 T;obtain rfl:=b3 Y;by_cases J:x<y
 ·rw[Nat.div_eq_of_lt J,kB2 J];exact xW0 ba oa (dlen x) ca _ x y w T hx rfl J a4 kO
 ·by_cases h1:dlen y=1
  ·have H:y<B:=by have:=qY5 y;rw[h1,Nat.pow_one] at this;exact this
   have c0:=b4 0 Y;rw[qL4,kB2 H,kH7] at c0;rw[h1] at kO ⊢;exact xW _ bb ob cb x y w J H c0 kO (fun d=>yZ6 (C.later ⟨rfl,rfl,rfl,kH8 _,fun _ _=>rfl⟩) D ω ω H) ω
  ·obtain⟨M,hM⟩:∃ M,dlen y+M=dlen x:=⟨dlen x - dlen y,by have:=qZ5 (show y≤x by omega);omega⟩
   obtain⟨p,hp⟩:=eE ((bl y - 1) % 32);obtain⟨S,hS⟩:∃ S,S+p+1=32:=⟨31 - p,ω⟩;obtain⟨f1,f2,f3,f4,f5⟩:=yU2 F D rfl rfl hM ω hp hS;obtain⟨-,qZ,-,-,I⟩:=zD9 F rfl hp hS;have qY:=qY3 y;have hc:¬ cmpI x y<0:=by unfold cmpI;rw[kU5 ω];split <;> omega
   have qQ:((bl y:Int) - 1).tmod 32=(p:Int):=by
    rw[Int.tmod_eq_emod_of_nonneg ω];omega
   have:=xL9 (some ⟨ba,oa,none⟩) (some ⟨bb,ob,none⟩) (dlen x) (dlen y) ca cb x y p S (bl y) (x*2^S) (y*2^S) M w hx hy ω hM I ω qQ ω qZ f4 f5 f1 f2 f3
    (fun W V=>(rord (C.later V) (L.later V) ω ω).mono fun r w' ⟨e1,d,e2⟩=>⟨e1,by rw[e2];exact⟨rfl,rfl,rfl,kH8 _,fun _ _=>rfl⟩⟩) hc
    (fun W V=>by
     obtain⟨_,_,e,_,b',o',h5,h6⟩:=L.later V;simp only[Value.slice.injEq] at e;obtain⟨e,-,-⟩:=e;subst e;have:=h5 Y
     simp only[Option.some.injEq,Addr.mk.injEq] at this;obtain⟨rfl,rfl,-⟩:=this;exact r42 bb ob (dlen y) cb y W Y ω rfl h6)
    (fun W V=>rup (L.later V) S ω ω) (fun W V=>rup (C.later V) S ω ω)
   rw[yX6,yX2] at this;exact this
theorem cmp_eq {x y:Nat}:(cmpI (x:Int) (y:Int)==0)=decide (x=y):=by
 unfold cmpI;by_cases h:x=y
 ·subst h;simp
 ·rw[kF1 h];by_cases u:(x:Int)<(y:Int)
  ·rw[kU6 u];rfl
  ·rw[kU5 u,kU6 ω];rfl
theorem qS8 (na nb:Bool) (ua F:Option Addr) (un uc V H:Nat) (ea eb:Int) (nc:Bool) (xa:Option Addr) (xn xc:Nat) (ec:Int) (s:Bool) (z:Nat) (e:Int) (w:World) (kM:∀ W,Ca 111 #[.agg (Nu nb F V H eb)] W (Rq W (.agg (Nu nc xa xn xc ec))))
  (kA:∀ W,Bw w W→Ca 83 #[.agg (Nu na ua un uc ea),.agg (Nu nc xa xn xc ec)] W fun r w'=>∃ a,r=.returned a∧NC w' W.heap.size a s z e∧Bw W w') :
  Ca 45 #[.agg (Nu na ua un uc ea),.agg (Nu nb F V H eb)] w fun r w'=>∃ a,r=.returned a∧NC w' w.heap.size a s z e∧Bw w w':=by
 have qH:Hid _:=kM;have qF:Hid _:=kA;clear kM kA;obtain⟨W,hW⟩:=eE (((w.alloc (.cells (Nu na ua un uc ea) 54)).alloc (.cells (Nu nb F V H eb) 54)).alloc (.cells (Nu false none 0 0 0) 54));obtain⟨hA,C,hC,qQ,qZ⟩:=qK9 _ _ _ hW;have u:Hid ((Hn W w.heap.size na ua un uc ea 54∧Hn W (w.heap.size+1) nb F V H eb 54∧Hn W (w.heap.size+1+1) false none 0 0 0 54)∧W.heap.size=w.heap.size+1+1+1∧Bw w W):=⟨⟨hA,C,hC⟩,qQ,qZ⟩;obtain⟨⟨a0,a1,a2⟩,-⟩:=qQ1 hA;obtain⟨⟨b0,b1,b2⟩,-⟩:=qQ1 C;clear hA C hC qQ qZ;have kM:∀ w4,Bw W w4→Ca 111 #[.agg (Nu nb F V H eb)] w4 (Rq W (.agg (Nu nc xa xn xc ec))):=fun w4 Y=>(qH.out w4).mono fun r w' ⟨e1,o2⟩=>⟨e1,Y.trans (o2.mono Y.size)⟩;have kA:∀ w5,Bw W w5→Ca 83 #[.agg (Nu na ua un uc ea),.agg (Nu nc xa xn xc ec)] w5 fun r w'=>∃ s' ao n cap ex,r=.returned (.agg (Nu s' ao n cap ex))∧Hid (NC w' W.heap.size (.agg (Nu s' ao n cap ex)) s z e)∧Bw W w'∧Hid (Hn w' (w.heap.size+1+1) false none 0 0 0 54) ∧
   (C3 w' (w.heap.size+1+1) false none 0 0 0)∧(w'.frozen? ⟨w.heap.size+1+1,0,none⟩=false∧w'.frozen? ⟨w.heap.size+1+1,1,none⟩=false∧w'.frozen? ⟨w.heap.size+1+1,2,none⟩=false):=by
  intro w5 Y;refine(qF.out w5 (u.out.2.2.trans (Y.mono u.out.2.2.size))).mono ?_
  rintro r w6 ⟨A,rfl,hN,J⟩;obtain⟨s',ao,n,cap,ex,rfl⟩:=hN.shape;have T:=Y.trans (J.mono Y.size);have D:=qQ0 u.out.1.2.2 T (by have:=u.out.2.1;omega)
  obtain⟨f1,f2⟩:=qQ1 D;exact⟨s',ao,n,cap,ex,rfl,hN.mono Y.size,T,D,f1,f2⟩
 have HK:Hid (∀ w',Bw W w'→((C3 w' w.heap.size na ua un uc ea)∧(C3 w' (w.heap.size+1) nb F V H eb))):=fun w' Y=>⟨(qQ1 (qQ0 u.out.1.1 Y (by have:=u.out.2.1;omega))).1,(qQ1 (qQ0 u.out.1.2.1 Y (by have:=u.out.2.1;omega))).1⟩
 have qX:Hid (∀ w',Below (w.heap.size+1+1) W w'→((C3 w' w.heap.size na ua un uc ea)∧(C3 w' (w.heap.size+1) nb F V H eb))):=fun w' Y=>⟨(qQ1 (qQ0 u.out.1.1 Y ω)).1,(qQ1 (qQ0 u.out.1.2.1 Y ω)).1⟩;have qG:Hid (w.heap.size+1+1≤W.heap.size):=(by have:=u.out.2.1;omega:w.heap.size+1+1≤W.heap.size)
 have I:Bw W W.drew:=bR.drew
 go_enter Tryz.func45,Tryz.ntmps45
 go_upto_region 1 with fail;rw[←hW];clear hW
 go_region_held3 (fun w'=>((C3 w' w.heap.size na ua un uc ea)∧(C3 w' (w.heap.size+1) nb F V H eb))) (first|(with_reducible assumption)|exact⟨⟨a0,a1,a2⟩,b0,b1,b2⟩|(refine HK.out _ ?_;with_reducible assumption)|(refine qX.out _ (qQ4 (Below.mono J qG.out) lR _ _ _))|go_keep)
  (first|(go_at_call 111;refine(kM _ (by first|(with_reducible assumption)|exact I)).mono ?_;rintro r w5 ⟨rfl,qK⟩)|(go_at_call 83;refine(kA _ (by first|(with_reducible assumption)|exact I)).mono ?_;rintro r w6 ⟨s6,qU,n6,qY,qV,rfl,qJ,J,L,⟨x1,x2,x3⟩,x4,x5,x6⟩))
 all_goals (have HF:Hid (Bw W w6):=J;clear qK J kM kA x1 x2 x3 x4 x5 x6 a0 a1 a2 b0 b1 b2 HK qX I;go_wp2;refine kB8 (kM2 rfl _ _ (w.heap.size+1+1) 54 (Nu s6 qU n6 qY qV) (0,0) _ rfl (qZ9 _ _ _ L.out) Tryz.underlying54 rfl Tryz.info54) rfl ?_;exact⟨_,rfl,(qJ.out.store (by have:=u.out.2.1;omega) _ _ _).mono u.out.2.2.size,qQ4 (u.out.2.2.trans (HF.out.mono u.out.2.2.size)) ω _ _ _⟩)
theorem zG4 {s:Bool} {x:Nat} {e:Int} (h:x % 2=1):cn s x e=(s,x,e):=by
 unfold cn;rw[kU5 ω,qC9 h,kN7,Nat.div_one];simp
theorem rone (place:Int) (w:World) (H : -4000000≤place) (V:place≤4000000) :
  Calls Tryz.prog 113 #[.int .i64 place] w fun r w'=>∃ g,r=.returned (.agg #[.bool false,.slice (some ⟨g,0,none⟩) 1 1,.int .i64 (-place)])∧w.heap.size≤g∧At w' (some ⟨g,0,none⟩) 1 1∧Bw w w':=by
 go_enter Tryz.func113,Tryz.ntmps113
 go_wp2;obtain⟨W,u⟩:=eE ((w.alloc (.cells #[.bool false,.slice (some ⟨w.heap.size+1,0,none⟩) 1 1,.int .i64 (-place)] 54)).alloc (.cells #[.int .u32 1] 96));have D:W.heap[w.heap.size]?=some (.cells #[.bool false,.slice (some ⟨w.heap.size+1,0,none⟩) 1 1,.int .i64 (-place)] 54 (0,0)):=by
  rw[u,Below.heap_alloc _ _ _ (by simp)];exact kB7 _ _
 have F:W.cell? ⟨w.heap.size+1,0,none⟩=some (.int .u32 1):=by
  have h:=qA8 (w.alloc (.cells #[.bool false,.slice (some ⟨w.heap.size+1,0,none⟩) 1 1,.int .i64 (-place)] 54)) (.int .u32 1);rw[←u,kH7] at h;have J:(w.alloc (.cells #[.bool false,.slice (some ⟨w.heap.size+1,0,none⟩) 1 1,.int .i64 (-place)] 54)).heap.size=w.heap.size+1:=by simp
  rw[J] at h;exact h
 have Y:Bw w W:=by rw[u];exact(bR.alloc lR _).alloc (by simp) _
 rw[←u];refine kB8 (kM2 rfl _ _ w.heap.size 54 #[.bool false,.slice (some ⟨w.heap.size+1,0,none⟩) 1 1,.int .i64 (-place)] (0,0) _ rfl D Tryz.underlying54 rfl Tryz.info54) rfl ?_;refine⟨w.heap.size+1,rfl,ω,⟨w.heap.size+1,0,fun _=>rfl,fun i hi=>?_⟩,Y⟩
 obtain rfl:i=0:=ω;rw[qL4,show 1 % B=1 by rfl]
 exact F
theorem yX1 {ao J:Option Addr} {cap Y q:Nat} {place:Int} {w:World} (ho:Arg w ao (dlen (cn true q (-place)).2.1) cap (cn true q (-place)).2.1) (h1:At w J 1 1) (H:1≤Y) (qZ : -1000000≤place) (qQ:place≤1000000) (hq:dlen q≤30000) :
  Ca 45 #[.agg #[.bool (cn true q (-place)).1,.slice ao (dlen (cn true q (-place)).2.1) cap,iV (cn true q (-place)).2.2],.agg (Nu false J 1 Y (-place))] w fun r w'=>∃ a,r=.returned a∧NC w' w.heap.size a true (q+1) (-place)∧Bw w w':=by
 have d1:dlen 1=1:=by rw[qJ1 ω,show 1 / B=0 by rfl,qQ5]
 have D:Arg w J (dlen 1) Y 1:=⟨fun h=>by rw[d1] at h;omega,by rw[d1];exact h1,by rw[d1];exact H,by rw[d1];omega⟩
 refine qS8 _ false ao J _ cap 1 Y _ (-place) true J 1 Y (-place) true (q+1) (-place) w (fun W=>qC0 false J 1 Y (-place) W ω rfl) (fun W C=>?_);have I:tz q≤32*30000:=by
  by_cases u:q=0
  ·rw[u];exact kF8 (Nat.le_of_eq (by rw[tz];rfl)) (kB4 _)
  ·have V:=(qX0 q q lR u).1;have T:2^tz q≤q:=by
    have h4:0<q / 2^tz q:=by
     rcases Nat.eq_zero_or_pos (q / 2^tz q)with h|h
     ·rw[h,Nat.mul_zero] at V;omega
     ·exact h
    exact kF8 (Nat.le_mul_of_pos_right _ h4) (Nat.le_of_eq V)
   have h5:=qG2 q;have h6:=qY3 q;have h7:tz q<bl q:=(Nat.pow_lt_pow_iff_right ω).1 (kF7 T h5);omega
 have F:cn (cn true q (-place)).1 (cn true q (-place)).2.1 (cn true q (-place)).2.2=(cn true q (-place)):=by
  by_cases u:q=0
  ·unfold cn;rw[kU6 u,kU6 rfl]
  ·have V:=(qX0 q q lR u).2;have:cn true q (-place)=(true,q / 2^tz q,-place+tz q):=by unfold cn;rw[kU5 u]
   rw[this];exact zG4 V
 have L : -2000000≤(cn true q (-place)).2.2∧(cn true q (-place)).2.2≤2000000:=by
  by_cases u:q=0
  ·unfold cn;rw[kU6 u];exact⟨δ,δ⟩
  ·unfold cn;rw[kU5 u];exact⟨by simp only;omega,by simp only;omega⟩
 have hl:dlen (cn true q (-place)).2.1≤300000:=by
  by_cases u:q=0
  ·unfold cn;rw[kU6 u,qQ5];omega
  ·unfold cn;rw[kU5 u];exact kF8 (qZ5 (kF9 _ _)) ω
 have:=yA5 (na:=(cn true q (-place)).1) (nb:=true) (ea:=(cn true q (-place)).2.2) (eb := -place) (ho.later C) (D.later C) F (zG4 rfl) L.1 L.2 ω ω hl (by rw[d1];omega) (by unfold cn;by_cases u:q=0 <;> simp[u])
 have hs:sumN (cn true q (-place)).1 (cn true q (-place)).2.1 (cn true q (-place)).2.2 true 1 (-place)=(true,q+1,-place):=by
  by_cases u:q=0
  ·subst u;unfold cn;rw[kU6 rfl];unfold sumN;rw[kU6 rfl]
  ·have V:=qX0 q q lR u;have e1:cn true q (-place)=(true,q / 2^tz q,-place+tz q):=by unfold cn;rw[kU5 u]
   have T:q / 2^tz q≠0:=ω;rw[e1];unfold sumN;simp only
   rw[kU5 T,kU5 ω,kU6 trivial,show min (-place+(tz q:Int)) (-place) = -place by omega,show(-place+(tz q:Int) - -place).toNat=tz q by omega,show(-place - -place).toNat=0 by omega,kN7,kM1,kN4,V.1]
 rw[hs,d1] at this;exact this
theorem zS3 {L:Option Addr} {T q J:Nat} {place:Int} {w:World} {W:Bool} {V:Option Addr} {C u:Nat} {Y:Int} (h:NC w J (.agg (Nu W V C u Y)) true q (-place)) (h1:At w L 1 1) (H:1≤T) (D : -1000000≤place) (F:place≤1000000) (I:dlen q≤30000) :
  Ca 45 #[.agg (Nu W V C u Y),.agg (Nu false L 1 T (-place))] w fun r w'=>∃ a,r=.returned a∧NC w' w.heap.size a true (q+1) (-place)∧Bw w w':=by
 obtain⟨ao,cap,e,hA,-⟩:=h;rw[e];exact yX1 hA h1 H D F I
theorem xK5 (na nb:Bool) (ua va:Option Addr) (uc vc x y k:Nat) (ea eb place:Int) (w:World) (sg ex:Bool) (NQ:Nat) (qH:Hid (NQ=if sg && !ex then(x*2^k) / (y)+1 else(x*2^k) / (y))) (zT:(!(na==nb))=sg) (h1:At w ua (dlen x) x) (hu:dlen x≤uc) (h2:At w va (dlen y) y) (hv:dlen y≤vc) (qT:x≠0) (zV:y≠0) (hx:dlen x≤3000) (hy:dlen y≤3000)
  (yQ : -200000≤ea) (zO:ea≤200000) (zI : -200000≤eb) (zA:eb≤200000) (zE : -200000≤place) (zC:place≤200000) (hk:ea - eb+place=(k:Int)) (zG:k≤600000) (hr:decide ((x*2^k) % (y)=0)=ex) :
  Ca 146 #[.agg (Nu na ua (dlen x) uc ea),.agg (Nu nb va (dlen y) vc eb),iV place] w fun r w'=>∃ A,r=.returned (.tuple #[A,.bool ex])∧NC w' w.heap.size A sg NQ (-place)∧Bw w w':=by
 obtain⟨W,hW⟩:=eE (((w.alloc (.cells (Nu na ua (dlen x) uc ea) 54)).alloc (.cells (Nu nb va (dlen y) vc eb) 54)).alloc (.cells (Nu false none 0 0 0) 54));obtain⟨hA,qM,hC,qL,zZ⟩:=qK9 _ _ _ hW;have H:Hid ((Hn W w.heap.size na ua (dlen x) uc ea 54∧Hn W (w.heap.size+1) nb va (dlen y) vc eb 54∧Hn W (w.heap.size+1+1) false none 0 0 0 54)∧W.heap.size=w.heap.size+1+1+1∧Bw w W):=⟨⟨hA,qM,hC⟩,qL,zZ⟩;obtain⟨⟨a0,a1,a2⟩,-⟩:=qQ1 hA;obtain⟨⟨b0,b1,b2⟩,-⟩:=qQ1 qM;have HI:Hid (Ir w (.slice ua (dlen x) uc) x∧Ir w (.slice va (dlen y) vc) y):=⟨⟨ua,uc,rfl,hu,h1⟩,⟨va,vc,rfl,hv,h2⟩⟩;have HN:Hid ((x≠0∧y≠0∧dlen x≤3000∧dlen y≤3000∧k≤600000)∧decide ((x*2^k) % (y)=0)=ex):=⟨⟨qT,zV,hx,hy,zG⟩,hr⟩;have zR:((dlen x:Int)==0)=false:=qY8 (n:=0) qT;clear hA qM hC qL zZ h1 h2 hr;generalize yY:dlen x=lx at *;generalize yZ:dlen y=ly at *;rw[hW] at a0 a1 a2 b0 b1 b2
 go_enter Tryz.func146,Tryz.ntmps146
 go_wp2
 go_quiet (fail)
 rw[←hW];have L:Hid (Below W.heap.size W (W.drewN nq)):=(⟨rfl,rfl,rfl,kH8 _,fun _ _=>rfl⟩:Below W.heap.size W (W.drewN nq));obtain⟨W1,qO⟩:=eE (W.drewN nq);rw[←qO] at L ⊢;clear hW qO a0 a1 a2 b0 b1 b2;have zX:Hid (Ir W1 (.slice ua lx uc) x∧Ir W1 (.slice va ly vc) y):=⟨HI.out.1.later (H.out.2.2.trans (L.out.mono H.out.2.2.size)),HI.out.2.later (H.out.2.2.trans (L.out.mono H.out.2.2.size))⟩;have ku:=rup zX.out.1 k (by have:=HN.out.1;omega) ω
 go_wp2_with fail;refine ku.mono ?_;rintro r w4 ⟨vu,rfl,qN,qG⟩;have zJ:Hid (Bw W w4):=L.out.trans (qG.mono L.out.size);have hl:dlen (x*2^k)≤25000:=by
  have:=qK2 (x:=x) (k:=k) rfl
  have:=HN.out.1
  omega
 have kd:=yX3 qN (zX.out.2.later qG) (Nat.mul_ne_zero HN.out.1.1 (by have:=kF3 k;omega)) HN.out.1.2.1 ω (by have:=HN.out.1;omega)
 have HO:Hid (Ir w4 vu (x*2^k)):=qN;clear ku qN qG
 go_wp2_with fail;refine kd.mono ?_;rintro r w5 ⟨vq,vr,rfl,zQ,zB,qA⟩;have I:Hid (Bw W w5):=zJ.out.trans (qA.mono zJ.out.size);obtain⟨⟨a0,a1,a2⟩,-⟩:=qQ1 (qQ0 H.out.1.1 I.out (by have:=H.out.2.1;omega))
 obtain⟨⟨b0,b1,b2⟩,-⟩:=qQ1 (qQ0 H.out.1.2.1 I.out (by have:=H.out.2.1;omega))
 obtain⟨rr,zD,rfl,zW,zU⟩:=zB;have qW:dlen ((x*2^k) / (y))≤30000:=kF8 (qZ5 (kF9 _ _)) ω;have kn:=zF9 (neg:=sg) (e := -place) zQ ω ω;have zP:Hid (dlen ((x*2^k) / (y))≤30000):=qW;have zL:((dlen ((x*2^k) % (y)):Int)==0)=ex:=by
  rw[←HN.out.2];by_cases hz:(x*2^k) % (y)=0
  ·rw[hz,qQ5];rfl
  ·rw[qY8 (n:=0) hz,kF1 hz]
 clear kd zQ qA zU qW hl;generalize yX:dlen ((x*2^k) % (y))=lr at *
 go_wp2_with fail;refine kn.mono ?_;rintro r T ⟨A,rfl,qB,qE⟩;obtain⟨s6,J,n6,u,Y,rfl⟩:=qB.shape;have qK:Hid (Bw W T):=I.out.trans (qE.mono I.out.size);have qR:Hid (NC T w5.heap.size (.agg (Nu s6 J n6 u Y)) sg ((x*2^k) / (y)) (-place)):=qB;obtain⟨D,C⟩:=eE (T.alloc (.cells (Nu s6 J n6 u Y) 54));have qZ:Bw T D:=by rw[C];exact bR.alloc lR _
 have qX:Hid (Bw W D):=qK.out.trans (qZ.mono qK.out.size);have qQ:Hn D T.heap.size s6 J n6 u Y 54:=by rw[C];exact kB7 _ _
 have F:Hid (Hn D T.heap.size s6 J n6 u Y 54∧Bw T D):=⟨qQ,qZ⟩;have V:=qQ0 H.out.1.2.2 qX.out (by have:=H.out.2.1;omega)
 have qV:Hid (Hn D (w.heap.size+1+1) false none 0 0 0 54):=V;obtain⟨⟨c0,c1,c2⟩,c3,c4,c5⟩:=qQ1 V;obtain⟨⟨d0,d1,d2⟩,d3,d4,d5⟩:=qQ1 qQ;clear kn qB qE qQ V qZ a0 a1 a2 b0 b1 b2;rw[C] at c0 c1 c2 c3 c4 c5 d0 d1 d2 d3 d4 d5;cases ex
 ·cases sg
  ·obtain rfl:NQ=(x*2^k) / (y):=qH.out
   go_wp2;rw[←C];refine kB8 (qQ6 rfl _ _ (w.heap.size+1+1) 54 (Nu s6 J n6 u Y) (0,0) _ rfl (qZ9 _ _ _ qV.out) Tryz.underlying54 rfl Tryz.info54) rfl ?_;have q1:=H.out.2.1;have q2:=I.out.size;exact⟨_,rfl,((qR.out.later F.out.2).store ω _ _ _).mono ω,qQ4 (H.out.2.2.trans (qX.out.mono H.out.2.2.size)) ω _ _ _⟩
  ·obtain rfl:NQ=(x*2^k) / (y)+1:=qH.out;have HK:Hid (∀ w',Bw D w'→(C3 w' T.heap.size s6 J n6 u Y)):=fun w' hb=>(qQ1 (qQ0 F.out.1 hb (by have:=F.out.1;exact(Array.getElem?_eq_some_iff.1 this).1))).1
   have kO:∀ w8,Bw D w8→Ca 113 #[iV place] w8 fun r w'=>∃ g,r=.returned (.agg (Nu false (some ⟨g,0,none⟩) 1 1 (-place)))∧Hid (At w' (some ⟨g,0,none⟩) 1 1)∧Bw D w'∧(C3 w' T.heap.size s6 J n6 u Y):=fun w8 hb=>(rone place w8 ω ω).mono fun r w' ⟨g,e1,e2,e3,e4⟩=>⟨g,e1,e3,hb.trans (e4.mono hb.size),HK.out w' (hb.trans (e4.mono hb.size))⟩;have kL:∀ g w9,Hid (At w9 (some ⟨g,0,none⟩) 1 1)→Bw D w9→Ca 45 #[.agg (Nu s6 J n6 u Y),.agg (Nu false (some ⟨g,0,none⟩) 1 1 (-place))] w9 fun r w'=>∃ s ao n cap ex,r=.returned (.agg (Nu s ao n cap ex))∧Hid (NC w' D.heap.size (.agg (Nu s ao n cap ex)) true ((x*2^k) / (y)+1) (-place))∧Bw D w'∧Hid (Hn w' T.heap.size s6 J n6 u Y 54)∧(C3 w' T.heap.size s6 J n6 u Y)∧(w'.frozen? ⟨T.heap.size,0,none⟩=false∧w'.frozen? ⟨T.heap.size,1,none⟩=false∧w'.frozen? ⟨T.heap.size,2,none⟩=false):=by
    intro g w9 hA hb;refine(zS3 ((qR.out.later F.out.2).later hb) hA.out lR ω ω zP.out).mono ?_
    rintro r zS ⟨A,rfl,hN,qI⟩;obtain⟨s,ao,n,cap,ex,rfl⟩:=hN.shape;have qC:=hb.trans (qI.mono hb.size);have qJ:=qQ0 F.out.1 qC (by have:=F.out.1;exact(Array.getElem?_eq_some_iff.1 this).1)
    obtain⟨f1,f2⟩:=qQ1 qJ;exact⟨s,ao,n,cap,ex,rfl,hN.mono hb.size,qC,qJ,f1,f2⟩
   have zY:Bw D D.drew:=bR.drew;have e0:C3 D T.heap.size s6 J n6 u Y:=HK.out D bR
   go_upto_region 14 with fail;rw[←C];clear C c0 c1 c2 c3 c4 c5 d0 d1 d2 d3 d4 d5;obtain⟨d0,d1,d2⟩:=e0
   go_cut [64] from 61 to 64 (fun v wx=>∃ s ao n cap ex,v=.agg (Nu s ao n cap ex)∧Hid (NC wx D.heap.size (.agg (Nu s ao n cap ex)) true ((x*2^k) / (y)+1) (-place))∧Hid (Hn wx T.heap.size s ao n cap ex 54)∧Hid (Below T.heap.size D wx))
   case first =>
    go_region_with (first|(go_at_call 113;refine(kO _ (by first|(with_reducible assumption)|exact zY|exact kH9 _ _)).mono ?_;rintro r w8 ⟨g8,rfl,zM,yK,⟨y1,y2,y3⟩⟩)|(go_at_call 45;refine(kL _ _ zM (by with_reducible assumption)).mono ?_;rintro r w9 ⟨s9,qD,n9,qY,qP,rfl,qF,zH,qU,⟨x1,x2,x3⟩,x4,x5,x6⟩))
    all_goals go_wp2_with fail
    all_goals go_meet
    all_goals exact⟨s9,qD,n9,qY,qP,rfl,qF.out.store (Array.getElem?_eq_some_iff.1 F.out.1).1 _ _ _,qZ9 _ _ _ qU.out,qQ4 (zH.mono F.out.2.size) lR _ _ _⟩
   case rest =>
    obtain⟨s9,qD,n9,qY,qP,rfl,qF,zN,zF⟩:=hcut;obtain⟨wx,rfl⟩:∃ wx:World,wx=wc:=⟨_,rfl⟩;have q1:=H.out.2.1;have q2:=qK.out.size;have q3:=qX.out.size;have zK:Hid (Bw W wx):=qX.out.trans (zF.out.mono qK.out.size);have V:=qQ0 H.out.1.2.2 zK.out ω;have qS:Hid (Hn wx (w.heap.size+1+1) false none 0 0 0 54):=V;obtain⟨⟨c0,c1,c2⟩,c3,c4,c5⟩:=qQ1 V;clear d0 d1 d2;obtain⟨⟨d0,d1,d2⟩,d3,d4,d5⟩:=qQ1 zN.out;clear kO kL zY V
    go_wp2;refine kB8 (qQ6 rfl _ _ (w.heap.size+1+1) 54 (Nu s9 qD n9 qY qP) (0,0) _ rfl (qZ9 _ _ _ qS.out) Tryz.underlying54 rfl Tryz.info54) rfl ?_;exact⟨_,rfl,(qF.out.store ω _ _ _).mono ω,qQ4 (H.out.2.2.trans (zK.out.mono H.out.2.2.size)) ω _ _ _⟩
 ·obtain rfl:NQ=(x*2^k) / (y):=by have h:=qH.out;cases sg <;> exact h
  go_wp2;rw[←C];refine kB8 (qQ6 rfl _ _ (w.heap.size+1+1) 54 (Nu s6 J n6 u Y) (0,0) _ rfl (qZ9 _ _ _ qV.out) Tryz.underlying54 rfl Tryz.info54) rfl ?_;have q1:=H.out.2.1;have q2:=I.out.size;exact⟨_,rfl,((qR.out.later F.out.2).store ω _ _ _).mono ω,qQ4 (H.out.2.2.trans (qX.out.mono H.out.2.2.size)) ω _ _ _⟩
theorem xK4 (na nb:Bool) (ua va:Option Addr) (uc vc x y k:Nat) (ea eb place:Int) (w:World) (sg ex:Bool) (NQ:Nat) (qH:Hid (NQ=if sg && !ex then(x) / (y*2^k)+1 else(x) / (y*2^k))) (zT:(!(na==nb))=sg) (h1:At w ua (dlen x) x) (hu:dlen x≤uc) (h2:At w va (dlen y) y) (hv:dlen y≤vc) (qT:x≠0) (zV:y≠0) (hx:dlen x≤3000) (hy:dlen y≤3000)
  (yZ : -200000≤ea) (yQ:ea≤200000) (zO : -200000≤eb) (zI:eb≤200000) (zE : -200000≤place) (zC:place≤200000) (hk:ea - eb+place = -(k:Int)) (zA:0<k) (zG:k≤600000) (hr:decide ((x) % (y*2^k)=0)=ex) :
  Ca 146 #[.agg (Nu na ua (dlen x) uc ea),.agg (Nu nb va (dlen y) vc eb),iV place] w fun r w'=>∃ A,r=.returned (.tuple #[A,.bool ex])∧NC w' w.heap.size A sg NQ (-place)∧Bw w w':=by
 obtain⟨W,hW⟩:=eE (((w.alloc (.cells (Nu na ua (dlen x) uc ea) 54)).alloc (.cells (Nu nb va (dlen y) vc eb) 54)).alloc (.cells (Nu false none 0 0 0) 54));obtain⟨hA,qM,hC,qL,zZ⟩:=qK9 _ _ _ hW;have H:Hid ((Hn W w.heap.size na ua (dlen x) uc ea 54∧Hn W (w.heap.size+1) nb va (dlen y) vc eb 54∧Hn W (w.heap.size+1+1) false none 0 0 0 54)∧W.heap.size=w.heap.size+1+1+1∧Bw w W):=⟨⟨hA,qM,hC⟩,qL,zZ⟩;obtain⟨⟨a0,a1,a2⟩,-⟩:=qQ1 hA;obtain⟨⟨b0,b1,b2⟩,-⟩:=qQ1 qM;have HI:Hid (Ir w (.slice ua (dlen x) uc) x∧Ir w (.slice va (dlen y) vc) y):=⟨⟨ua,uc,rfl,hu,h1⟩,⟨va,vc,rfl,hv,h2⟩⟩;have HN:Hid ((x≠0∧y≠0∧dlen x≤3000∧dlen y≤3000∧k≤600000)∧decide ((x) % (y*2^k)=0)=ex):=⟨⟨qT,zV,hx,hy,zG⟩,hr⟩;have zR:((dlen x:Int)==0)=false:=qY8 (n:=0) qT;clear hA qM hC qL zZ h1 h2 hr;generalize yX:dlen x=lx at *;generalize yY:dlen y=ly at *;rw[hW] at a0 a1 a2 b0 b1 b2
 go_enter Tryz.func146,Tryz.ntmps146
 go_wp2
 go_quiet (fail)
 rw[←hW];have L:Hid (Below W.heap.size W (W.drewN nq)):=(⟨rfl,rfl,rfl,kH8 _,fun _ _=>rfl⟩:Below W.heap.size W (W.drewN nq));obtain⟨W1,qO⟩:=eE (W.drewN nq);rw[←qO] at L ⊢;clear hW qO a0 a1 a2 b0 b1 b2;have zX:Hid (Ir W1 (.slice ua lx uc) x∧Ir W1 (.slice va ly vc) y):=⟨HI.out.1.later (H.out.2.2.trans (L.out.mono H.out.2.2.size)),HI.out.2.later (H.out.2.2.trans (L.out.mono H.out.2.2.size))⟩;have ku:=rup zX.out.2 k (by have:=HN.out.1;omega) ω
 go_wp2_with fail;refine ku.mono ?_;rintro r w4 ⟨vu,rfl,qN,qG⟩;have zJ:Hid (Bw W w4):=L.out.trans (qG.mono L.out.size);have hl:dlen (y*2^k)≤25000:=by
  have:=qK2 (x:=y) (k:=k) rfl
  have:=HN.out.1
  omega
 have kd:=yX3 (zX.out.1.later qG) qN HN.out.1.1 (Nat.mul_ne_zero HN.out.1.2.1 (by have:=kF3 k;omega)) (by have:=HN.out.1;omega) ω
 have HO:Hid (Ir w4 vu (y*2^k)):=qN;clear ku qN qG
 go_wp2_with fail;refine kd.mono ?_;rintro r w5 ⟨vq,vr,rfl,zQ,zB,qA⟩;have I:Hid (Bw W w5):=zJ.out.trans (qA.mono zJ.out.size);obtain⟨⟨a0,a1,a2⟩,-⟩:=qQ1 (qQ0 H.out.1.1 I.out (by have:=H.out.2.1;omega))
 obtain⟨⟨b0,b1,b2⟩,-⟩:=qQ1 (qQ0 H.out.1.2.1 I.out (by have:=H.out.2.1;omega))
 obtain⟨rr,zD,rfl,zW,zU⟩:=zB;have qW:dlen ((x) / (y*2^k))≤30000:=kF8 (qZ5 (kF9 _ _)) (by have:=HN.out.1;omega)
 have kn:=zF9 (neg:=sg) (e := -place) zQ ω ω;have zP:Hid (dlen ((x) / (y*2^k))≤30000):=qW;have zL:((dlen ((x) % (y*2^k)):Int)==0)=ex:=by
  rw[←HN.out.2];by_cases hz:(x) % (y*2^k)=0
  ·rw[hz,qQ5];rfl
  ·rw[qY8 (n:=0) hz,kF1 hz]
 clear kd zQ qA zU qW hl;generalize yK:dlen ((x) % (y*2^k))=lr at *
 go_wp2_with fail;refine kn.mono ?_;rintro r T ⟨A,rfl,qB,qE⟩;obtain⟨s6,J,n6,u,Y,rfl⟩:=qB.shape;have qK:Hid (Bw W T):=I.out.trans (qE.mono I.out.size);have qR:Hid (NC T w5.heap.size (.agg (Nu s6 J n6 u Y)) sg ((x) / (y*2^k)) (-place)):=qB;obtain⟨D,C⟩:=eE (T.alloc (.cells (Nu s6 J n6 u Y) 54));have qZ:Bw T D:=by rw[C];exact bR.alloc lR _
 have qX:Hid (Bw W D):=qK.out.trans (qZ.mono qK.out.size);have qQ:Hn D T.heap.size s6 J n6 u Y 54:=by rw[C];exact kB7 _ _
 have F:Hid (Hn D T.heap.size s6 J n6 u Y 54∧Bw T D):=⟨qQ,qZ⟩;have V:=qQ0 H.out.1.2.2 qX.out (by have:=H.out.2.1;omega)
 have qV:Hid (Hn D (w.heap.size+1+1) false none 0 0 0 54):=V;obtain⟨⟨c0,c1,c2⟩,c3,c4,c5⟩:=qQ1 V;obtain⟨⟨d0,d1,d2⟩,d3,d4,d5⟩:=qQ1 qQ;clear kn qB qE qQ V qZ a0 a1 a2 b0 b1 b2;rw[C] at c0 c1 c2 c3 c4 c5 d0 d1 d2 d3 d4 d5;cases ex
 ·cases sg
  ·obtain rfl:NQ=(x) / (y*2^k):=qH.out
   go_wp2;rw[←C];refine kB8 (qQ6 rfl _ _ (w.heap.size+1+1) 54 (Nu s6 J n6 u Y) (0,0) _ rfl (qZ9 _ _ _ qV.out) Tryz.underlying54 rfl Tryz.info54) rfl ?_;have q1:=H.out.2.1;have q2:=I.out.size;exact⟨_,rfl,((qR.out.later F.out.2).store ω _ _ _).mono ω,qQ4 (H.out.2.2.trans (qX.out.mono H.out.2.2.size)) ω _ _ _⟩
  ·obtain rfl:NQ=(x) / (y*2^k)+1:=qH.out;have HK:Hid (∀ w',Bw D w'→(C3 w' T.heap.size s6 J n6 u Y)):=fun w' hb=>(qQ1 (qQ0 F.out.1 hb (by have:=F.out.1;exact(Array.getElem?_eq_some_iff.1 this).1))).1
   have kO:∀ w8,Bw D w8→Ca 113 #[iV place] w8 fun r w'=>∃ g,r=.returned (.agg (Nu false (some ⟨g,0,none⟩) 1 1 (-place)))∧Hid (At w' (some ⟨g,0,none⟩) 1 1)∧Bw D w'∧(C3 w' T.heap.size s6 J n6 u Y):=fun w8 hb=>(rone place w8 ω ω).mono fun r w' ⟨g,e1,e2,e3,e4⟩=>⟨g,e1,e3,hb.trans (e4.mono hb.size),HK.out w' (hb.trans (e4.mono hb.size))⟩;have kL:∀ g w9,Hid (At w9 (some ⟨g,0,none⟩) 1 1)→Bw D w9→Ca 45 #[.agg (Nu s6 J n6 u Y),.agg (Nu false (some ⟨g,0,none⟩) 1 1 (-place))] w9 fun r w'=>∃ s ao n cap ex,r=.returned (.agg (Nu s ao n cap ex))∧Hid (NC w' D.heap.size (.agg (Nu s ao n cap ex)) true ((x) / (y*2^k)+1) (-place))∧Bw D w'∧Hid (Hn w' T.heap.size s6 J n6 u Y 54)∧(C3 w' T.heap.size s6 J n6 u Y)∧(w'.frozen? ⟨T.heap.size,0,none⟩=false∧w'.frozen? ⟨T.heap.size,1,none⟩=false∧w'.frozen? ⟨T.heap.size,2,none⟩=false):=by
    intro g w9 hA hb;refine(zS3 ((qR.out.later F.out.2).later hb) hA.out lR ω ω zP.out).mono ?_
    rintro r zS ⟨A,rfl,hN,qI⟩;obtain⟨s,ao,n,cap,ex,rfl⟩:=hN.shape;have qC:=hb.trans (qI.mono hb.size);have qJ:=qQ0 F.out.1 qC (by have:=F.out.1;exact(Array.getElem?_eq_some_iff.1 this).1)
    obtain⟨f1,f2⟩:=qQ1 qJ;exact⟨s,ao,n,cap,ex,rfl,hN.mono hb.size,qC,qJ,f1,f2⟩
   have zY:Bw D D.drew:=bR.drew;have e0:C3 D T.heap.size s6 J n6 u Y:=HK.out D bR
   go_upto_region 14 with fail;rw[←C];clear C c0 c1 c2 c3 c4 c5 d0 d1 d2 d3 d4 d5;obtain⟨d0,d1,d2⟩:=e0
   go_cut [64] from 61 to 64 (fun v wx=>∃ s ao n cap ex,v=.agg (Nu s ao n cap ex)∧Hid (NC wx D.heap.size (.agg (Nu s ao n cap ex)) true ((x) / (y*2^k)+1) (-place))∧Hid (Hn wx T.heap.size s ao n cap ex 54)∧Hid (Below T.heap.size D wx))
   case first =>
    go_region_with (first|(go_at_call 113;refine(kO _ (by first|(with_reducible assumption)|exact zY|exact kH9 _ _)).mono ?_;rintro r w8 ⟨g8,rfl,zM,yJ,⟨y1,y2,y3⟩⟩)|(go_at_call 45;refine(kL _ _ zM (by with_reducible assumption)).mono ?_;rintro r w9 ⟨s9,qD,n9,qY,qP,rfl,qF,zH,qU,⟨x1,x2,x3⟩,x4,x5,x6⟩))
    all_goals go_wp2_with fail
    all_goals go_meet
    all_goals exact⟨s9,qD,n9,qY,qP,rfl,qF.out.store (Array.getElem?_eq_some_iff.1 F.out.1).1 _ _ _,qZ9 _ _ _ qU.out,qQ4 (zH.mono F.out.2.size) lR _ _ _⟩
   case rest =>
    obtain⟨s9,qD,n9,qY,qP,rfl,qF,zN,zF⟩:=hcut;obtain⟨wx,rfl⟩:∃ wx:World,wx=wc:=⟨_,rfl⟩;have q1:=H.out.2.1;have q2:=qK.out.size;have q3:=qX.out.size;have zK:Hid (Bw W wx):=qX.out.trans (zF.out.mono qK.out.size);have V:=qQ0 H.out.1.2.2 zK.out ω;have qS:Hid (Hn wx (w.heap.size+1+1) false none 0 0 0 54):=V;obtain⟨⟨c0,c1,c2⟩,c3,c4,c5⟩:=qQ1 V;clear d0 d1 d2;obtain⟨⟨d0,d1,d2⟩,d3,d4,d5⟩:=qQ1 zN.out;clear kO kL zY V
    go_wp2;refine kB8 (qQ6 rfl _ _ (w.heap.size+1+1) 54 (Nu s9 qD n9 qY qP) (0,0) _ rfl (qZ9 _ _ _ qS.out) Tryz.underlying54 rfl Tryz.info54) rfl ?_;exact⟨_,rfl,(qF.out.store ω _ _ _).mono ω,qQ4 (H.out.2.2.trans (zK.out.mono H.out.2.2.size)) ω _ _ _⟩
 ·obtain rfl:NQ=(x) / (y*2^k):=by have h:=qH.out;cases sg <;> exact h
  go_wp2;rw[←C];refine kB8 (qQ6 rfl _ _ (w.heap.size+1+1) 54 (Nu s6 J n6 u Y) (0,0) _ rfl (qZ9 _ _ _ qV.out) Tryz.underlying54 rfl Tryz.info54) rfl ?_;have q1:=H.out.2.1;have q2:=I.out.size;exact⟨_,rfl,((qR.out.later F.out.2).store ω _ _ _).mono ω,qQ4 (H.out.2.2.trans (qX.out.mono H.out.2.2.size)) ω _ _ _⟩
theorem xK6 (na nb:Bool) (ua T:Option Addr) (uc F D:Nat) (ea eb place:Int) (w:World) :
  Ca 146 #[.agg (Nu na ua 0 uc ea),.agg (Nu nb T F D eb),iV place] w (Rq w (.tuple #[.agg (Nu false none 0 0 0),.bool true])):=by
 obtain⟨W,J⟩:=eE (((w.alloc (.cells (Nu na ua 0 uc ea) 54)).alloc (.cells (Nu nb T F D eb) 54)).alloc (.cells (Nu false none 0 0 0) 54));obtain⟨L,H,V,Y,u⟩:=qK9 _ _ _ J;have C:Hid _:=And.intro V u;obtain⟨⟨a0,a1,a2⟩,-⟩:=qQ1 L;obtain⟨⟨c0,c1,c2⟩,c3,c4,I⟩:=qQ1 V;clear L H V Y u;rw[J] at a0 a1 a2 c0 c1 c2 c3 c4 I
 go_enter Tryz.func146,Tryz.ntmps146
 go_wp2;rw[←J];refine kB8 (qQ6 rfl _ _ (w.heap.size+1+1) 54 (Nu false none 0 0 0) (0,0) _ rfl C.out.1 Tryz.underlying54 rfl Tryz.info54) rfl ?_;exact⟨rfl,C.out.2⟩
def ovX (x:Nat) (ea eb place:Int):Nat:=x*2^(ea+place - min (ea+place) eb).toNat
def ovY (y:Nat) (ea eb place:Int):Nat:=y*2^(eb - min (ea+place) eb).toNat
theorem xT9 {na nb:Bool} {ua V:Option Addr} {uc J x y:Nat} {ea eb place:Int} {w:World} (h1:At w ua (dlen x) x) (hu:dlen x≤uc) (h2:At w V (dlen y) y) (hv:dlen y≤J) (H:y≠0) (hx:dlen x≤3000) (hy:dlen y≤3000)
  (T : -200000≤ea∧ea≤200000) (D : -200000≤eb∧eb≤200000) (F : -200000≤place∧place≤200000) {X Y:Nat} (I:ovX x ea eb place=X) (hY:ovY y ea eb place=Y) :
  Ca 146 #[.agg (Nu na ua (dlen x) uc ea),.agg (Nu nb V (dlen y) J eb),iV place] w fun r w'=>∃ A,r=.returned (.tuple #[A,.bool (decide (X % Y=0))])∧NC w' w.heap.size A (na != nb) (if(na != nb) && !(decide (X % Y=0))then X / Y+1 else X / Y) (-place)∧Bw w w':=by
 by_cases u:x=0
 ·subst u;have C:X=0:=by rw[←I];unfold ovX;rw[Nat.zero_mul]
  rw[qQ5,C,Nat.zero_mod,Nat.zero_div];refine(xK6 na nb ua V uc _ J ea eb place w).mono ?_
  rintro r w' ⟨rfl,W⟩;refine⟨_,rfl,⟨none,0,?_,?_,fun ad e=>by cases e⟩,W⟩
  ·simp[cn,qQ5]
  ·simp only[decide_true,Bool.not_true,Bool.and_false,Bool.false_eq_true,if_false];unfold cn;rw[kU6 rfl];exact⟨fun _=>.inr ⟨rfl,rfl⟩,⟨0,0,fun h=>by rw[qQ5] at h;omega,fun i hi=>by rw[qQ5] at hi;omega⟩,by rw[qQ5];exact kH8 _,by rw[qQ5];omega⟩
 ·by_cases hs:0≤ea - eb+place
  ·obtain⟨k,L⟩:∃ k:Nat,ea - eb+place=(k:Int):=⟨(ea - eb+place).toNat,ω⟩;obtain rfl:x*2^k=X:=by rw[←I];unfold ovX;rw[show(ea+place - min (ea+place) eb).toNat=k by omega]
   obtain rfl:y=Y:=by rw[←hY];unfold ovY;rw[show(eb - min (ea+place) eb).toNat=0 by omega,kN7,kM1]
   exact xK5 na nb ua V uc J x y k ea eb place w (na != nb) _ _ rfl rfl h1 hu h2 hv u H hx hy T.1 T.2 D.1 D.2 F.1 F.2 L ω rfl
  ·obtain⟨k,L⟩:∃ k:Nat,ea - eb+place = -(k:Int):=⟨(-(ea - eb+place)).toNat,ω⟩;obtain rfl:x=X:=by rw[←I];unfold ovX;rw[show(ea+place - min (ea+place) eb).toNat=0 by omega,kN7,kM1]
   obtain rfl:y*2^k=Y:=by rw[←hY];unfold ovY;rw[show(eb - min (ea+place) eb).toNat=k by omega]
   exact xK4 na nb ua V uc J x y k ea eb place w (na != nb) _ _ rfl rfl h1 hu h2 hv u H hx hy T.1 T.2 D.1 D.2 F.1 F.2 L ω ω rfl
theorem xW2 (na:Bool) (ua:Option Addr) (un uc:Nat) (ea place:Int) (w:World) (qQ : -200000≤ea) (I:ea≤200000) (C : -200000≤place) (L:place≤200000) :
  Ca 48 #[.agg (Nu na ua 0 uc ea),iV place] w (Rq w (.tuple #[.agg (Nu na ua 0 uc ea),.bool true])):=by
 obtain⟨W,T⟩:=eE ((w.alloc (.cells (Nu na ua (0) uc ea) 54)).alloc (.cells (Nu false none 0 0 0) 54));obtain⟨D,H,u,J⟩:=qU9 _ _ T;have HH:Hid ((Hn W w.heap.size na ua (0) uc ea 54∧Hn W (w.heap.size+1) false none 0 0 0 54)∧W.heap.size=w.heap.size+1+1∧Bw w W):=⟨⟨D,H⟩,u,J⟩;obtain⟨⟨a0,a1,a2⟩,-⟩:=qQ1 D;obtain⟨⟨c0,c1,c2⟩,c3,c4,c5⟩:=qQ1 H;clear D H u J;rw[T] at a0 a1 a2 c0 c1 c2 c3 c4 c5
 go_enter Tryz.func48,Tryz.ntmps48
 go_wp2;obtain⟨W2,Y⟩:=eE ((w.alloc (.cells (Nu na ua 0 uc ea) 54)).alloc (.cells (Nu na ua 0 uc ea) 54));obtain⟨-,V,-,F⟩:=qU9 _ _ Y;rw[←Y];refine kB8 (qQ6 rfl _ _ (w.heap.size+1) 54 (Nu na ua 0 uc ea) (0,0) _ rfl V Tryz.underlying54 rfl Tryz.info54) rfl ?_;exact⟨rfl,F⟩
theorem xW3 (na:Bool) (ua:Option Addr) (un uc:Nat) (ea place:Int) (w:World) (qZ : -200000≤ea) (qQ:ea≤200000) (C : -200000≤place) (L:place≤200000) (I:((un:Int)==0)=false) (hn:un≤35184372088832) (hk : -place - ea≤0) :
  Ca 48 #[.agg (Nu na ua un uc ea),iV place] w (Rq w (.tuple #[.agg (Nu na ua un uc ea),.bool true])):=by
 obtain⟨W,T⟩:=eE ((w.alloc (.cells (Nu na ua (un) uc ea) 54)).alloc (.cells (Nu false none 0 0 0) 54));obtain⟨D,H,u,J⟩:=qU9 _ _ T;have HH:Hid ((Hn W w.heap.size na ua (un) uc ea 54∧Hn W (w.heap.size+1) false none 0 0 0 54)∧W.heap.size=w.heap.size+1+1∧Bw w W):=⟨⟨D,H⟩,u,J⟩;obtain⟨⟨a0,a1,a2⟩,-⟩:=qQ1 D;obtain⟨⟨c0,c1,c2⟩,c3,c4,c5⟩:=qQ1 H;clear D H u J;rw[T] at a0 a1 a2 c0 c1 c2 c3 c4 c5;have qY:=kF2 hk
 go_enter Tryz.func48,Tryz.ntmps48
 go_wp2;obtain⟨W2,Y⟩:=eE ((w.alloc (.cells (Nu na ua un uc ea) 54)).alloc (.cells (Nu na ua un uc ea) 54));obtain⟨-,V,-,F⟩:=qU9 _ _ Y;rw[←Y];refine kB8 (qQ6 rfl _ _ (w.heap.size+1) 54 (Nu na ua un uc ea) (0,0) _ rfl V Tryz.underlying54 rfl Tryz.info54) rfl ?_;exact⟨rfl,F⟩
theorem xW4 (ua:Option Addr) (uc x k:Nat) (ea place:Int) (w:World) (h1:At w ua (dlen x) x) (hu:dlen x≤uc) (qK:x≠0) (hx:dlen x≤3000) (qA : -200000≤ea) (qE:ea≤200000) (qL : -200000≤place) (qT:place≤200000) (hk : -place - ea=(k:Int)) (qC:0<k) (qP:k≤600000) :
  Ca 48 #[.agg (Nu false ua (dlen x) uc ea),iV place] w fun r w'=>∃ A,r=.returned (.tuple #[A,.bool false])∧NC w' w.heap.size A false (x / 2^k) (-place)∧Bw w w':=by
 obtain⟨W,hW⟩:=eE ((w.alloc (.cells (Nu false ua (dlen x) uc ea) 54)).alloc (.cells (Nu false none 0 0 0) 54));obtain⟨hA,hC,qJ,qY⟩:=qU9 _ _ hW;have T:Hid ((Hn W w.heap.size false ua (dlen x) uc ea 54∧Hn W (w.heap.size+1) false none 0 0 0 54)∧W.heap.size=w.heap.size+1+1∧Bw w W):=⟨⟨hA,hC⟩,qJ,qY⟩;obtain⟨⟨a0,a1,a2⟩,-⟩:=qQ1 hA;have HI:Hid (Ir W (.slice ua (dlen x) uc) x):=(⟨ua,uc,rfl,hu,h1.later qY⟩:Ir W (.slice ua (dlen x) uc) x);have HN:Hid (x≠0∧dlen x≤3000∧k≤600000):=⟨qK,hx,qP⟩;have qR:((dlen x:Int)==0)=false:=qY8 (n:=0) qK;have qM:¬ ((k:Int)≤0):=ω;have qW:decide ((k:Int)≤0)=false:=kF1 qM;clear hA hC qJ qY h1;have ku:=xK9 HI.out k ω ω;generalize qI:dlen x=lx at *;rw[hW] at a0 a1 a2
 go_enter Tryz.func48,Tryz.ntmps48
 go_wp2_with fail;rw[←hW];clear hW a0 a1 a2;refine ku.mono ?_;rintro r w5 ⟨au,cu,rfl,qF,qU,qH⟩;have L:Hid (Bw W w5):=qH;obtain⟨⟨a0,a1,a2⟩,-⟩:=qQ1 (qQ0 T.out.1.1 L.out (by have:=T.out.2.1;omega))
 have qV:dlen (x / 2^k)≤30000:=kF8 (qZ5 (kF9 _ _)) (by have:=HN.out;omega)
 have kn:=zF9 (neg:=false) (e := -place) (⟨au,cu,rfl,qU,qF⟩:Ir w5 _ (x / 2^k)) ω ω;have qO:Hid (dlen (x / 2^k)≤30000):=qV;clear ku qF qU qH qV;obtain⟨lq,qQ⟩:=eE (dlen (x / 2^k));rw[←qQ];rw[←qQ] at kn;clear qQ
 go_wp2_with fail;refine kn.mono ?_;rintro r I ⟨A,rfl,qZ,qG⟩;obtain⟨s6,F,n6,u,H,rfl⟩:=qZ.shape;have qN:Hid (Bw W I):=L.out.trans (qG.mono L.out.size);have qD:Hid (NC I w5.heap.size (.agg (Nu s6 F n6 u H)) false (x / 2^k) (-place)):=qZ;obtain⟨w7,D⟩:=eE (I.alloc (.cells (Nu s6 F n6 u H) 54));have V:Bw I w7:=by rw[D];exact bR.alloc lR _
 have qX:Hid (Bw W w7):=qN.out.trans (V.mono qN.out.size);have J:Hn w7 I.heap.size s6 F n6 u H 54:=by rw[D];exact kB7 _ _
 have qS:Hid (Hn w7 I.heap.size s6 F n6 u H 54∧Bw I w7):=⟨J,V⟩;have Y:=qQ0 T.out.1.2 qX.out (by have:=T.out.2.1;omega)
 have qB:Hid (Hn w7 (w.heap.size+1) false none 0 0 0 54):=Y;have C:=qQ0 T.out.1.1 qX.out (by have:=T.out.2.1;omega)
 clear a0 a1 a2;obtain⟨⟨c0,c1,c2⟩,c3,c4,c5⟩:=qQ1 Y;obtain⟨⟨d0,d1,d2⟩,d3,d4,d5⟩:=qQ1 J;obtain⟨⟨a0,a1,a2⟩,-⟩:=qQ1 C;clear kn qZ qG J Y V C;rw[D] at c0 c1 c2 c3 c4 c5 d0 d1 d2 d3 d4 d5 a0 a1 a2
 go_wp2;rw[←D];refine kB8 (qQ6 rfl _ _ (w.heap.size+1) 54 (Nu s6 F n6 u H) (0,0) _ rfl (qZ9 _ _ _ qB.out) Tryz.underlying54 rfl Tryz.info54) rfl ?_;have q1:=T.out.2.1;have q2:=L.out.size;exact⟨_,rfl,((qD.out.later qS.out.2).store ω _ _ _).mono ω,qQ4 (T.out.2.2.trans (qX.out.mono T.out.2.2.size)) ω _ _ _⟩
theorem xB7 {s:Bool} {z:Nat} {e:Int}:dlen (cn s z e).2.1≤dlen z:=by
 unfold cn;by_cases h:z=0
 ·rw[kU6 h,qQ5];exact kB4 _
 ·rw[kU5 h];exact qZ5 (kF9 _ _)
theorem yP4 (na nb:Bool) (ua F:Option Addr) (un uc V H x y k bx qQ:Nat) (ea eb mode:Int) (sg:Bool) (w:World) (qR:Hid ((!(na==nb))=sg)) (hT:Tab32 w) (h1:Is w (.slice ua un uc) x) (h2:Is w (.slice F V H) y) (hx:dlen x≤3000) (hy:dlen y≤3000) (qH:y≠0) (zG : -65536≤ea) (zU:ea≤65536) (zV : -65536≤eb) (zJ:eb≤65536) (hm:mode=1∨mode=2∨mode=3)
  (qL:bl x=bx) (qT:bl y=qQ) (zQ:bx≤96000) (qO:qQ≤96000) (hk:max 0 (64+(qQ:Int) - (bx:Int))=(k:Int)) (zK:k≤100000) (zX:((un:Int)==0)=false) (zY:((V:Int)==0)=false)
  (qU:∀ W g,Bw w W→W.heap[g]?=some (.cells #[.bool na,.slice ua un uc,.int .i64 ea,.bool nb,.slice F V H,.int .i64 eb] 50 (0,0))→Calls Tryz.prog 128 #[.slice (some ⟨g,0,none⟩) 2 2] W fun r w'=>r=.returned (.bool true)∧Bw W w') :
  Calls Tryz.prog 125 #[.agg #[.bool na,.slice ua un uc,.int .i64 ea],.agg #[.bool nb,.slice F V H,.int .i64 eb],.int .i64 mode] w fun r w'=>r=.returned (.tuple #[.float .f64 (tfF sg (decide (x*2^k % y=0)) (x*2^k / y) (ea - eb - k) mode),.int .i64 0])∧Bw w w':=by
 obtain⟨W,hW⟩:=eE ((w.alloc (.cells #[.bool na,.slice ua un uc,.int .i64 ea] 50)).alloc (.cells #[.bool nb,.slice F V H,.int .i64 eb] 50));have I:Bw w W:=by rw[hW];exact(bR.alloc lR _).alloc (by simp) _
 have qN:W.heap[w.heap.size]?=some (.cells #[.bool na,.slice ua un uc,.int .i64 ea] 50 (0,0)):=by
  rw[hW,Below.heap_alloc _ _ _ (by simp)];exact kB7 _ _
 have qB:W.heap[w.heap.size+1]?=some (.cells #[.bool nb,.slice F V H,.int .i64 eb] 50 (0,0)):=by
  have:=kB7 (w.alloc (.cells #[.bool na,.slice ua un uc,.int .i64 ea] 50)) (.cells #[.bool nb,.slice F V H,.int .i64 eb] 50)
  rw[hW];simpa using this
 have qX:W.heap.size=w.heap.size+1+1:=by rw[hW];simp
 have k1:=qU (W.alloc (.cells #[.bool na,.slice ua un uc,.int .i64 ea,.bool nb,.slice F V H,.int .i64 eb] 50)) (w.heap.size+1+1) (I.alloc I.size _) (by rw[←qX];exact kB7 _ _)
 have Y:Hid (Bw w W∧W.heap.size=w.heap.size+1+1∧W.heap[w.heap.size]?=some (.cells #[.bool na,.slice ua un uc,.int .i64 ea] 50 (0,0))∧W.heap[w.heap.size+1]?=some (.cells #[.bool nb,.slice F V H,.int .i64 eb] 50 (0,0))):=⟨I,qX,qN,qB⟩;have T:Hid (Tab32 w∧Is w (.slice ua un uc) x∧dlen x≤3000∧Is w (.slice F V H) y∧dlen y≤3000∧y≠0):=⟨hT,h1,hx,h2,hy,qH⟩;have qG:=fun W=>c48 mode hm W;clear I qX qN qB qU hT h1 hx h2 hy qH
 go_enter Tryz.func125,Tryz.ntmps125
 go_wp2_with fail;rw[←hW];clear hW;refine k1.mono ?_;rintro r D ⟨rfl,qP⟩;have qZ:Hid (Bw W D):=((kH9 W.heap.size W).alloc lR _).trans (qP.mono (by simp))
 have qS:Hid (Bw w D):=Y.out.1.trans (qZ.out.mono Y.out.1.size);obtain⟨⟨a0,a1,a2⟩,-⟩:=qQ3 (qQ0 Y.out.2.2.1 qZ.out (by have:=Y.out.2.1;omega))
 obtain⟨⟨b0,b1,b2⟩,-⟩:=qQ3 (qQ0 Y.out.2.2.2 qZ.out (by have:=Y.out.2.1;omega))
 clear k1 qP
 go_wp2_with fail;refine(qG D).mono ?_
 rintro r zZ ⟨rfl,hw⟩;replace hw:=hw.symm;subst hw;clear qG;have qV:∀ d,Calls Tryz.prog 181 #[.slice ua un uc] (D.drewN d) fun e w'=>e=.returned (.int .i64 (bx:Nat))∧w'=D.drewN d:=fun d=>by
  have:=c74 (w:=D.drewN d) (T.out.2.1.later (qS.out.trans ⟨rfl,rfl,rfl,kH8 _,fun _ _=>rfl⟩)) (by have:=T.out.2.2;omega)
  rw[qL] at this;exact this
 have qJ:∀ d,Calls Tryz.prog 181 #[.slice F V H] (D.drewN d) fun e w'=>e=.returned (.int .i64 (qQ:Nat))∧w'=D.drewN d:=fun d=>by
  have:=c74 (w:=D.drewN d) (T.out.2.2.2.1.later (qS.out.trans ⟨rfl,rfl,rfl,kH8 _,fun _ _=>rfl⟩)) (by have:=T.out.2.2;omega)
  rw[qT] at this;exact this
 go_wp2
 go_quiet (first|(go_at_call 181;first|(with_reducible refine Calls.quiet_of_same (qJ _))|(with_reducible refine Calls.quiet_of_same (qV _))))
 have u:Hid (Below W.heap.size W (D.drewN nq)):=qZ.out.trans ⟨rfl,rfl,rfl,kH8 _,fun _ _=>rfl⟩;obtain⟨C,qF⟩:=eE (D.drewN nq);rw[←qF] at u ⊢;clear qF qV qJ a0 a1 a2 b0 b1 b2;have HK:Hid (∀ w',Bw C w'→((w'.cell? ⟨w.heap.size,0,none⟩=some (.bool na)∧w'.cell? ⟨w.heap.size,1,none⟩=some (.slice ua un uc)∧w'.cell? ⟨w.heap.size,2,none⟩=some (.int .i64 ea))∧(w'.cell? ⟨w.heap.size+1,0,none⟩=some (.bool nb)∧w'.cell? ⟨w.heap.size+1,1,none⟩=some (.slice F V H)∧w'.cell? ⟨w.heap.size+1,2,none⟩=some (.int .i64 eb)))):=fun w' L=>⟨(qQ3 (qQ0 Y.out.2.2.1 (u.out.trans (L.mono u.out.size)) (by have:=Y.out.2.1;omega))).1,(qQ3 (qQ0 Y.out.2.2.2 (u.out.trans (L.mono u.out.size)) (by have:=Y.out.2.1;omega))).1⟩
 obtain⟨⟨a0,a1,a2⟩,b0,b1,b2⟩:=HK.out C bR;have qD:Bw C C.drew:=bR.drew;have hl:dlen (x*2^k)≤7000:=by have:=qK2 (x:=x) (k:=k) rfl;have:=T.out.2.2;omega
 have HL:Hid (dlen (x*2^k)≤7000):=hl;have kS:∀ w',Bw C w'→Calls Tryz.prog 182 #[.slice ua un uc,.int .i64 (k:Int)] w' fun e J=>∃ v,e=.returned v∧Hid (Is J v (x*2^k))∧Bw C J:=fun w' L=>(c109 (T.out.2.1.later (Y.out.1.trans ((u.out.trans (L.mono u.out.size)).mono Y.out.1.size))) k (by have:=T.out.2.2;omega) ω).mono fun r J ⟨v,e1,e2,e3⟩=>⟨v,e1,e2.is,L.trans (e3.mono L.size)⟩
 have kD:∀ v w',Hid (Is w' v (x*2^k))→Bw C w'→Calls Tryz.prog 159 #[v,.slice F V H] w' fun e J=>∃ q,e=.returned (.tuple #[q,.bool (decide (x*2^k % y=0))])∧Hid (Is J q (x*2^k / y))∧Bw C J:=fun v w' hI L=>(c100 hI.out (T.out.2.2.2.1.later (Y.out.1.trans ((u.out.trans (L.mono u.out.size)).mono Y.out.1.size))) (by have:=HL.out;omega) (by have:=T.out.2.2.2.2;omega) T.out.2.2.2.2.2).mono fun r J ⟨q,e1,e2,e3⟩=>⟨q,e1,e2.is,L.trans (e3.mono L.size)⟩
 obtain⟨xb,qY⟩:∃ xb:Bool,xb=decide (x*2^k % y=0):=⟨_,rfl⟩;rw[←qY] at kD;have qA:Hid (xb=decide (x*2^k % y=0)):=qY;clear qY hl
 go_upto_region 8 with fail
 go_cut [9,10] from 42 to 50 (fun q b wx=>b=.bool xb∧Hid (Is wx q (x*2^k / y))∧Hid (Bw C wx))
 case first =>
  go_region_held3 (fun w'=>((w'.cell? ⟨w.heap.size,0,none⟩=some (.bool na)∧w'.cell? ⟨w.heap.size,1,none⟩=some (.slice ua un uc)∧w'.cell? ⟨w.heap.size,2,none⟩=some (.int .i64 ea))∧(w'.cell? ⟨w.heap.size+1,0,none⟩=some (.bool nb)∧w'.cell? ⟨w.heap.size+1,1,none⟩=some (.slice F V H)∧w'.cell? ⟨w.heap.size+1,2,none⟩=some (.int .i64 eb)))) (first|(with_reducible assumption)|exact⟨⟨a0,a1,a2⟩,b0,b1,b2⟩|(refine HK.out _ ?_;with_reducible assumption)|go_keep)
   (first|(go_at_call 182;refine(kS _ (by first|(with_reducible assumption)|exact qD)).mono ?_;rintro r w5 ⟨v5,rfl,qE,zH⟩)|(go_at_call 159;refine(kD _ _ qE (by with_reducible assumption)).mono ?_;rintro r w6 ⟨v6,rfl,qC,qW⟩))
  all_goals go_wp2_with fail
  all_goals go_meet
  all_goals exact⟨rfl,qC,qW⟩
 case rest =>
  obtain⟨rfl,hI,hB⟩:=hcut;obtain⟨w3,rfl⟩:∃ w3:World,w3=wc:=⟨_,rfl⟩;have qK:Hid (Bw W w3):=u.out.trans (hB.out.mono u.out.size);clear a0 a1 a2 b0 b1 b2 kS kD qD;obtain⟨⟨a0,a1,a2⟩,b0,b1,b2⟩:=HK.out w3 hB.out;have kt:=c110 (neg:=sg) (exact:=xb) (e:=ea - eb - k) (mode:=mode) (T.out.1.later (Y.out.1.trans (qK.out.mono Y.out.1.size))) hI.out (kF8 (qZ5 (kF9 _ _)) (by have:=HL.out;omega)) ω ω
  go_wp2_with fail;rw[qR.out];refine kt.mono ?_;rintro r w4 ⟨rfl,qM⟩;have qI:Hid (Bw W w4):=qK.out.trans (qM.mono qK.out.size);clear kt qM
  go_wp2;refine kB8 (kM3 rfl _ _ _) rfl ?_;exact⟨kU7 (fun b=>Ending.returned (Value.tuple #[.float .f64 (tfF sg b (x*2^k / y) (ea - eb - k) mode),.int .i64 0])) qA.out,Y.out.1.trans (qI.out.mono Y.out.1.size)⟩
end Go.Proofs.YtfkaogdmlcdceaaGreatDoor
