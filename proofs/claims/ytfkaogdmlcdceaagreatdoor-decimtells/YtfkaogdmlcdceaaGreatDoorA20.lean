/- Own work: contracts of the program's functions, part 20: DSE DRG DRH DSF FRI FS1 DSG DSH DSI DSJ. -/
import Derived.Test.YtfkaogdmlcdceaaGreatDoorA19
import Derived.Test.YtfkaogdmlcdceaaGreatDoorA9
import Derived.Test.YtfkaogdmlcdceaaGreatDoorA7
import Derived.Test.YtfkaogdmlcdceaaGreatDoorA15
import Derived.Test.YtfkaogdmlcdceaaGreatDoorA13
import Derived.Test.YtfkaogdmlcdceaaGreatDoorA14
import Derived.Test.YtfkaogdmlcdceaaGreatDoorA16
import Derived.Test.YtfkaogdmlcdceaaGreatDoorA18

set_option maxHeartbeats 16000000
set_option maxRecDepth 200000
set_option linter.unusedVariables false
set_option linter.unusedSimpArgs false
namespace Go.Proofs.YtfkaogdmlcdceaaGreatDoor
open Go Go.RowKit Go.Fl64
theorem bc_cell {U:World} {ao:Option Addr} {c:Nat} {L:List UInt8} (h:BC U (.slice ao L.length c) L) {i:Nat} (hi:i<L.length):∃ g,ao=some ⟨g,0,none⟩∧U.cell? ⟨g,i,none⟩=some (.int .u8 (L[i].toNat:Int)):=by
 obtain⟨ao',cap,h1,h2⟩:=h
 obtain⟨g,h3,h4⟩:=h2 (by intro h;rw[h] at hi;simp at hi)
 injection h1 with e1
 subst e1
 exact⟨g,h3,h4 i hi⟩
theorem dDecimal_1 (x k N K:Nat) (hK:Hid (K≤30000)) (hN:x*2^k=N) (ao:Option Addr) (dx cp:Nat) (w:World) (hI:Ir w (.slice ao dx cp) x) (hx:dlen x≤3000) (hk:k≤60000) (hND:dlen N≤3000) (hN9:N<10^K) :
  Calls Tryz.prog 36 #[.agg #[.bool false,.slice ao dx cp,.int .i64 (k:Nat)]] w fun r w'=>r=.returned (.string ⟨(if N=0 then [48] else dcR N).toArray⟩)∧Bw w w':=by
 obtain⟨T,hT⟩:∃ T:List UInt8,T=if N=0 then [48] else dcR N:=⟨_,rfl⟩
 rw[←hT]
 have HT:Hid (T=if N=0 then [48] else dcR N):=hT
 clear hT
 obtain⟨W,hW⟩:∃ W,W=w.alloc (.cells #[.bool false,.slice ao dx cp,.int .i64 (k:Nat)] 54):=⟨_,rfl⟩
 have HW:Hid (Bw w W):=by rw[hW];exact(Below.refl _ _).alloc (Nat.le_refl _) _
 have hcell:W.heap[w.heap.size]?=some (.cells #[.bool false,.slice ao dx cp,.int .i64 (k:Nat)] 54 (0,0)):=by rw[hW];exact heap_alloc_new _ _
 obtain⟨⟨c0,c1,c2⟩,-⟩:=box_cells29 hcell
 have kU:=rup (hI.later HW.out) k (by omega) (by omega)
 rw[hN] at kU
 have HNN:Hid (dlen N≤3000∧N<10^K):=⟨hND,hN9⟩
 obtain⟨i0,hi0,hz0,hz1,hz2⟩:=info_parts byte_info
 clear hcell hI hN hx hN9
 go_enter Tryz.func36,Tryz.ntmps36
 go_upto_region 1 with fail
 rw[←hW]
 clear hW
 go_wp2_with fail
 refine kU.mono ?_
 rintro r w1 ⟨v,rfl,hv,hb1⟩
 have HB1:Hid (Bw w w1):=HW.out.trans (hb1.mono HW.out.size)
 have HV:Hid (Ir w1 v N):=hv
 obtain⟨ao1,cap1,hv1,hv2,hv3⟩:=hv
 subst hv1
 clear kU c0 c1 c2 hb1 hv2 hv3 HW
 by_cases h0:N=0
 ·subst h0
  have hT:=HT.out
  rw[if_pos rfl] at hT
  subst hT
  rw[dlen_zero]
  clear HT
  go_wp2_with fail
  go_ret
  exact⟨rfl,HB1.out⟩
 have hd0:dlen N≠0:=fun h=>h0 (dlen_eq_zero.1 h)
 have hd1:(((dlen N:Nat):Int)==0)=false:=by rw[beq_eq_false_iff_ne];omega
 obtain⟨dn,hdn⟩:∃ dn,dn=dlen N:=⟨_,rfl⟩
 have HDN:Hid (dn=dlen N):=hdn
 rw[←hdn] at hd1 hND ⊢
 clear hd0 hdn
 go_upto_region 4 with fail
 clear hd1
 go_wp2_with fail
 go_loopg [3,4] N (fun g v x wr=>∃ (M:Nat) (bk:List UInt8),M≤g∧Hid (Ir wr v M∧OB w1 wr x bk∧rvD N=bk++rvD M∧M≤N∧dlen M≤3000))
 case atStart=>exact⟨N,[],Nat.le_refl _,⟨by rw[HDN.out];exact HV.out,⟨World.ownsRow_nil ..,Below.refl _ _⟩,rfl,Nat.le_refl _,HNN.out.1⟩⟩
 case round =>
  obtain⟨M,bk,hMg,HI⟩:=hrel
  clear HV
  obtain⟨bo,bc,hsh⟩:=HI.out.2.1.shape
  subst hsh
  obtain⟨mo,mc,hm1,hm2,hm3⟩:=HI.out.1
  subst hm1
  clear hm2 hm3
  have hMl:=HI.out.2.2.2.2
  by_cases hM0:M=0
  ·subst hM0
   have HB:Hid (bk=rvD N∧Bw w wr):=⟨by have h:=HI.out.2.2.1;rw[rvD_0,List.append_nil] at h;exact h.symm,HB1.out.trans (HI.out.2.1.2.mono HB1.out.size)⟩
   have HBC:Hid (BC wr (.slice bo bk.length bc) bk):=HI.out.2.1.bc
   rw[dlen_zero]
   obtain⟨L,hL⟩:∃ L,L=bk.length:=⟨_,rfl⟩
   have hLs:L≤30000:=by rw[hL,HB.out.1];exact Nat.le_trans (rvD_len HNN.out.2) hK.out
   have HL:Hid (L=bk.length):=hL
   rw[←hL] at HBC ⊢
   have hw0:IntKind.i64.wrap ((L:Int) - 1)=(L:Int) - 1:=by rw[IntKind.wrap_i64];omega
   clear HI hL hMg hMl
   generalize wr=V3 at *
   go_upto_region 13 with fail
   go_wp2_with fail
   clear hw0
   go_loopw [8,9] (fun v x wx=>∃ t:Nat,t≤L∧x=.int .i64 ((L:Int) - 1 - t)∧Hid (OB V3 wx v (bk.drop (L - t)).reverse)) (fun _ x _=>(intOf x+1).toNat)
   case atStart=>exact⟨0,Nat.zero_le _,by simp,by rw[Nat.sub_zero,HL.out,List.drop_length];exact(⟨World.ownsRow_nil ..,Below.refl _ _⟩:OB V3 V3 _ [])⟩
   case round =>
    obtain⟨t,ht,rfl,HO⟩:=hrel
    obtain⟨D,hDD⟩:∃ D,D=(bk.drop (L - t)).reverse:=⟨_,rfl⟩
    have hDl:D.length≤30000:=by rw[hDD,List.length_reverse,List.length_drop,←HL.out];omega
    have HD:Hid (D=(bk.drop (L - t)).reverse):=hDD
    rw[←hDD] at HO
    clear hDD
    obtain⟨oo,oc,hso⟩:=HO.out.shape
    subst hso
    have HSZ:Hid (V3.heap.size≤wr.heap.size):=HO.out.2.size
    by_cases htL:t<L
    ·have hx0:(0:Int)≤(L:Int) - 1 - t:=by omega
     have hbl:L - 1 - t<bk.length:=by rw[←HL.out];omega
     have hBC3:BC wr (.slice bo bk.length bc) bk:=by rw[←HL.out];exact HBC.out.later HO.out.2
     obtain⟨g,hgo,hgc⟩:=bc_cell hBC3 hbl
     obtain⟨cb,hcb⟩:∃ cb,cb=bk[L - 1 - t]:=⟨_,rfl⟩
     rw[←hcb] at hgc
     have HF:Hid ((bk.drop (L - (t+1))).reverse=D ++ [UInt8.ofNat cb.toNat]):=(by
      rw[UInt8.ofNat_toNat,HD.out,hcb,show L - (t+1)=L - 1 - t by omega,List.drop_eq_getElem_cons hbl,List.reverse_cons,show L - 1 - t+1=L - t by omega]:(bk.drop (L - (t+1))).reverse=D ++ [UInt8.ofNat cb.toNat])
     obtain⟨c,hc⟩:∃ c,c=cb.toNat:=⟨_,rfl⟩
     have hc256:c<256:=by rw[hc];exact cb.toNat_lt
     rw[←hc] at hgc HF
     subst hgo
     obtain⟨ix,hix⟩:∃ ix:Int,ix=(L:Int) - 1 - t:=⟨_,rfl⟩
     obtain⟨ix2,hix2⟩:∃ ix2:Nat,ix2=L - 1 - t:=⟨_,rfl⟩
     have hixn:ix.toNat=ix2:=by omega
     have hixl:ix<(L:Int):=by omega
     have hwi:IntKind.i64.wrap (ix - 1)=ix - 1:=by rw[IntKind.wrap_i64];omega
     have HIX:Hid (ix - 1=(L:Int) - 1 - ((t+1:Nat):Int)∧ix=(L:Int) - 1 - t):=⟨by omega,hix⟩
     rw[←hix2] at hgc
     rw[←hix] at hx0 ⊢
     clear hcb hc hBC3 hbl hix hix2
     go_wp2_with (at_builtin;refine wpList_append_own _ rfl _ _ 65 rfl V3.heap.size 5 i0 (.int .u8 0) 1 1 Tryz.underlying65 hi0 hz0 hz1 hz2 rfl (by decide) _ _ _ rfl (HO.out.1.alloc _) ⟨wr.heap.size,0,none⟩ 1 1 [.int .u8 _] rfl rfl (cell_one_new _ _ _) (by intro u hu;simp at hu;subst hu;rfl) (by unfold maxLen;omega) (by have:=HSZ.out;omega) (by simp;have:=HSZ.out;omega) ?_)
     intro v' w4 hown4 hgrow _
     have HFF:=HO.out.push hc256 hown4 hgrow
     rw[←HF.out] at HFF
     have HF3:Hid (OB V3 w4 v' (bk.drop (L - (t+1))).reverse):=HFF
     clear HFF hown4 hgrow
     go_wp2_with fail
     exact⟨⟨t+1,by omega,by rw[HIX.out.1],HF3⟩,by have:=HIX.out;simp[intOf];omega⟩
    ·obtain rfl:t=L:=by omega
     have hx0:¬ (0:Int)≤(t:Int) - 1 - t:=by omega
     have hcv:=HO.out.bc.conv
     have HE:Hid (D=T):=(by
      rw[HT.out,if_neg h0,HD.out,Nat.sub_self,List.drop_zero,HB.out.1]
      unfold rvD
      rw[List.reverse_reverse]:D=T)
     have HBB:Hid (Bw w wr):=HB.out.2.trans (HO.out.2.mono HB.out.2.size)
     clear HO HB
     go_wp2_with fail
     go_ret
     exact⟨by rw[HE.out];rfl,HBB.out⟩
  ·have hd0:dlen M≠0:=fun h=>hM0 (dlen_eq_zero.1 h)
   have hd1:(0:Int)<((dlen M:Nat):Int):=by omega
   have kS:Calls Tryz.prog 102 #[.slice mo (dlen M) mc,.int .u32 1000000000] wr _:=rsingle (b:=1000000000) HI.out.1 hM0 (by omega) (by decide) (by decide)
   obtain⟨dm,hdm⟩:∃ dm,dm=dlen M:=⟨_,rfl⟩
   have HDM:Hid (dm=dlen M∧M≠0∧M≤gk):=⟨hdm,hM0,hMg⟩
   obtain⟨q,hq⟩:∃ q,q=M / 1000000000:=⟨_,rfl⟩
   obtain⟨r0,hr0⟩:∃ r0,r0=M % 1000000000:=⟨_,rfl⟩
   have e9:10^(9 - 0)=1000000000:=by decide
   have HQ:Hid (q=M / 1000000000∧r0=M % 1000000000∧M=q*10^(9 - 0)+r0∧r0<10^(9 - 0)):=⟨hq,hr0,by rw[e9];omega,by rw[e9];omega⟩
   rw[←hq,←hr0,←hdm] at kS
   rw[←hdm] at hd1 hMl ⊢
   clear hd0 hdm hM0 hMg hq hr0 e9
   go_upto_region 6 with fail
   clear hd1
   go_wp2_with fail
   refine kS.mono ?_
   rintro r w2 ⟨v2,rfl,hv2,hb2⟩
   have HI2:Hid (Own w2 0 v2 q∧OB w1 w2 (.slice bo bk.length bc) bk∧rvD N=bk++rvD (q*10^(9 - 0)+r0)∧r0<10^(9 - 0)∧q<gk∧q≤N∧dlen q≤3000):=⟨hv2.mono (Nat.zero_le _),HI.out.2.1.later hb2,by have h:=HI.out.2.2.1;rw[HQ.out.2.2.1] at h;exact h,HQ.out.2.2.2,by have:=HDM.out;have:=HQ.out.1;omega,by have:=HI.out.2.2.2.1;have:=HQ.out.1;omega,Nat.le_trans (dlen_mono (by have:=HQ.out.1;omega)) HI.out.2.2.2.2⟩
   obtain⟨qo,qc,hqs,-⟩:=hv2.is
   subst hqs
   obtain⟨dq,hdq⟩:∃ dq,dq=dlen q:=⟨_,rfl⟩
   have hdq2:dq≤3000:=by rw[hdq];exact HI2.out.2.2.2.2.2.2
   have HDQ:Hid (dq=dlen q):=hdq
   rw[←hdq] at HI2 ⊢
   clear kS hb2 hv2 HI HQ HDM hdq
   go_upto_region 8 with fail
   go_loopw [4,6,7] (fun x rr kk wx=>∃ (j r:Nat) (b2:List UInt8),j≤9∧kk=.int .i64 (j:Nat)∧rr=.int .u32 (r:Nat)∧r<1000000000∧Hid (OB w1 wx x b2∧Own wx 0 (.slice qo dq qc) q∧rvD N=b2++rvD (q*10^(9 - j)+r)∧r<10^(9 - j))) (fun _ _ kk _=>9 - (intOf kk).toNat)
   case atStart=>exact⟨0,r0,bk,by omega,rfl,rfl,by have:=HI2.out.2.2.2.1;have e9:10^(9 - 0)=1000000000:=(by decide);omega,HI2.out.2.1,HI2.out.1,HI2.out.2.2.1,HI2.out.2.2.2.1⟩
   case round =>
    obtain⟨j,r,b2,hj,rfl,rfl,hr,HJ⟩:=hrel
    obtain⟨xo,xc,hsx⟩:=HJ.out.1.shape
    subst hsx
    have hb2:b2.length≤30000:=by
     have h1:=congrArg List.length HJ.out.2.2.1
     rw[List.length_append] at h1
     have h2:=rvD_len HNN.out.2
     have h3:=hK.out
     omega
    by_cases hbody:j<9∧(q≠0∨r≠0)
    ·obtain⟨hj9,hqr⟩:=hbody
     have hj9':(j:Int)<9:=by omega
     have hT0:q*10^(9 - j)+r≠0:=by
      rcases hqr with h|h
      ·have h1:0<q*10^(9 - j):=Nat.mul_pos (by omega) (Nat.pow_pos (by decide))
       omega
      ·omega
     obtain⟨p1,p2⟩:=part_step (Q:=q) (r:=r) hj9
     obtain⟨m,hm⟩:∃ m,m=r % 10:=⟨_,rfl⟩
     obtain⟨rq,hrq⟩:∃ rq,rq=r / 10:=⟨_,rfl⟩
     obtain⟨c,hc⟩:∃ c:Nat,c=48+m:=⟨_,rfl⟩
     have hc256:c<256:=by omega
     have hrq9:rq<1000000000:=by omega
     have HS:Hid (rvD N=(b2 ++ [UInt8.ofNat c])++rvD (q*10^(9 - (j+1))+rq)∧rq<10^(9 - (j+1))):=(by
      refine⟨?_,?_⟩
      ·have h:=HJ.out.2.2.1
       rw[rvD_step hT0,p1,p2,←hm,←hrq,←hc] at h
       rw[h,List.append_assoc]
       rfl
      ·have h:=HJ.out.2.2.2
       have e:10^(9 - j)=10^(9 - (j+1))*10:=by rw[←Nat.pow_succ];congr 1;omega
       rw[e] at h
       omega:rvD N=(b2 ++ [UInt8.ofNat c])++rvD (q*10^(9 - (j+1))+rq)∧rq<10^(9 - (j+1)))
     have e1:Int.tmod (r:Int) 10=(m:Int):=by rw[Int.tmod_eq_emod_of_nonneg (by omega)];omega
     have e2:Int.tdiv (r:Int) 10=(rq:Int):=by rw[Int.tdiv_eq_ediv_of_nonneg (by omega)];omega
     have e3:IntKind.u32.wrap (48+(m:Int))=(c:Int):=by rw[IntKind.wrap_u32];omega
     have e4:IntKind.u8.wrap (c:Int)=(c:Int):=by rw[IntKind.wrap_u8];omega
     have e5:IntKind.u32.wrap (rq:Int)=(rq:Int):=by rw[IntKind.wrap_u32];omega
     have e6:IntKind.i64.wrap ((j:Int)+1)=(j:Int)+1:=by rw[IntKind.wrap_i64];omega
     have e7:IntKind.u32.wrap (m:Int)=(m:Int):=by rw[IntKind.wrap_u32];omega
     have HSZ:Hid (w1.heap.size≤wr.heap.size):=HJ.out.1.2.size
     have HQR:Hid (dq=0→q=0):=(fun h=>dlen_eq_zero.1 (by rw[←HDQ.out];exact h):dq=0→q=0)
     have HOJ:Hid (q≠0∨r≠0):=hqr
     clear p1 p2 hm hrq hc hT0 hqr
     go_upto_region 8 with fail
     go_cut [36] from 26 to 37 (fun v wx=>v=.bool true∧wx=wr)
     case first =>
      by_cases hd:dq=0
      ·have hrr:(0:Int)<(r:Int):=by have:=HOJ.out.resolve_left (fun h=>h (HQR.out hd));omega
       subst hd
       go_wp2_with fail
       go_meet
       exact⟨by congr 1;exact decide_eq_true (by omega),rfl⟩
      ·have hdd:(0:Int)<(dq:Int):=by omega
       go_wp2_with fail
       go_meet
       exact⟨rfl,rfl⟩
     case rest =>
     obtain⟨rfl,hw⟩:=hcut
     subst hw
     go_wp2_with (at_builtin;refine wpList_append_own _ rfl _ _ 65 rfl w1.heap.size 5 i0 (.int .u8 0) 1 1 Tryz.underlying65 hi0 hz0 hz1 hz2 rfl (by decide) _ _ _ rfl (HJ.out.1.1.alloc _) ⟨wc.heap.size,0,none⟩ 1 1 [.int .u8 _] rfl rfl (cell_one_new _ _ _) (by intro u hu;simp at hu;subst hu;rfl) (by unfold maxLen;omega) (by have:=HSZ.out;omega) (by simp;have:=HSZ.out;omega) ?_)
     intro v' w4 hown4 hgrow _
     have HFF:=HJ.out.1.push hc256 hown4 hgrow
     have HOW:=own_grownQ (HJ.out.2.1.later ((Below.refl _ _).alloc (Nat.le_refl _) _)) (HJ.out.1.1.alloc _) hgrow
     have HF3:Hid (OB w1 w4 v' (b2 ++ [UInt8.ofNat c])∧Own w4 0 (.slice qo dq qc) q):=⟨HFF,HOW⟩
     clear HFF HOW hown4 hgrow
     go_wp2_with fail
     exact⟨⟨j+1,rq,_,by omega,by congr 1,rfl,hrq9,HF3.out.1,HF3.out.2,HS.out.1,HS.out.2⟩,by simp[intOf];omega⟩
    ·have HE:Hid (rvD N=b2++rvD q):=(by
      have h:=HJ.out.2.2.1
      have h9:=HJ.out.2.2.2
      have h8:q*10^(9 - j)+r=q:=by
       by_cases hj9:j<9
       ·have hq:q=0:=by apply Classical.byContradiction;intro h;exact hbody ⟨hj9,.inl h⟩
        have hr:r=0:=by apply Classical.byContradiction;intro h;exact hbody ⟨hj9,.inr h⟩
        rw[hq,hr,Nat.zero_mul]
       ·obtain rfl:j=9:=by omega
        rw[Nat.sub_self,Nat.pow_zero] at h9 ⊢
        omega
      rw[h8] at h
      exact h:rvD N=b2++rvD q)
     have HBD:Hid (¬ (j<9∧(q≠0∨r≠0))∧(q=0→dq=0)):=⟨hbody,fun h=>by rw[HDQ.out];exact dlen_eq_zero.2 h⟩
     clear hbody
     go_upto_region 8 with fail
     go_cut [36] from 26 to 37 (fun v wx=>v=.bool false∧wx=wr)
     case first =>
      by_cases hj9:j<9
      ·have hj9':(j:Int)<9:=by omega
       have hq:q=0:=by apply Classical.byContradiction;intro h;exact HBD.out.1 ⟨hj9,.inl h⟩
       have hr0:r=0:=by apply Classical.byContradiction;intro h;exact HBD.out.1 ⟨hj9,.inr h⟩
       have hd:dq=0:=HBD.out.2 hq
       subst hr0 hd
       clear hq
       go_wp2_with fail
       go_meet
       exact⟨rfl,rfl⟩
      ·have hj9':¬ (j:Int)<9:=by omega
       go_wp2_with fail
       go_meet
       exact⟨rfl,rfl⟩
     case rest =>
     obtain⟨rfl,hw⟩:=hcut
     subst hw
     clear HBD
     go_wp2_with fail
     go_roundg q
     case measure=>exact HI2.out.2.2.2.2.1
     case rel=>exact⟨q,b2,Nat.le_refl _,by rw[HDQ.out] at HJ ⊢; exact HJ.out.2.1.is.ir,HJ.out.1,HE.out,HI2.out.2.2.2.2.2.1,by rw[←HDQ.out];exact HI2.out.2.2.2.2.2.2⟩
theorem ten_of {N b k:Nat} (h:N<2^b) (hb:b≤3*k):N<10^k :=
 Nat.lt_of_lt_of_le h (Nat.le_trans (Nat.pow_le_pow_right (by decide) hb) (by rw[Nat.pow_mul];exact Nat.pow_le_pow_left (by decide) _))
def dcD (N:Nat):List UInt8:=if N=0 then [48] else dcR N
theorem dDecimal {N b:Nat} {X:Value} {w:World} (hX:DN w X (un ((N:Nat):Int) 0)) (hN:N<2^b) (hb:b≤59000) :
  Calls Tryz.prog 36 #[X] w fun r w'=>r=.returned (.string ⟨(dcD N).toArray⟩)∧Bw w w':=by
 have hd2:dlen N≤b / 32+1:=dlen_two9 hN
 obtain⟨K,hK⟩:∃ K:Nat,K=30000:=⟨_,rfl⟩
 have h9:N<10^K:=ten_of hN (by omega)
 have he:=un_e (p:=0) (show(((N:Nat):Int)).natAbs<2^b by rw[Int.natAbs_natCast];exact hN)
 obtain⟨ao,cap,rfl,hA⟩:=hX
 by_cases h0:N=0
 ·subst h0
  have e:un ((0:Nat):Int) 0=(false,0,0):=rfl
  rw[e] at hA ⊢
  exact dDecimal_1 0 0 0 K (by omega:K≤30000) rfl ao _ cap w ⟨ao,cap,rfl,hA.le,hA.at_⟩ (by rw[dlen_zero];omega) (by omega) (by rw[dlen_zero];omega) h9
 ·have e:=un_pos h0
  rw[e] at hA he ⊢
  have h3:=(tz_spec _ _ (Nat.le_refl _) h0).1
  have h4:N / 2^tz N*2^tz N=N:=by rw[Nat.mul_comm];exact h3
  have h5:dlen (N / 2^tz N)≤dlen N:=dlen_mono (Nat.div_le_self _ _)
  exact dDecimal_1 (N / 2^tz N) (tz N) N K (by omega:K≤30000) h4 ao _ cap w ⟨ao,cap,rfl,hA.le,hA.at_⟩ (by omega) (by have:=he.2.1;simp only at this;omega) (by omega) h9
def TnB (w:World) (g3 g4:Nat) (a b:Nat) (wr:World) (s1:Bool) (ao1:Option Addr) (n1 cp1:Nat) (e1:Int) (s2:Bool) (ao2:Option Addr) (n2 cp2:Nat) (e2:Int):Prop :=
 NbQ wr g3 s1 ao1 n1 cp1 e1 (un ((10^a:Nat):Int) 0)∧NbQ wr g4 s2 ao2 n2 cp2 e2 (un ((10^b:Nat):Int) 0)∧wr.heap[w.heap.size]?=some (.cells #[.bool false,.slice none 0 0,.int .i64 0] 54 (0,0))∧Bw w wr∧w.heap.size<g3∧g3<g4∧g4<wr.heap.size
theorem TnB.put3 {w wr w':World} {g3 g4 a b a':Nat} {s1:Bool} {ao1:Option Addr} {n1 cp1:Nat} {e1:Int} {s2:Bool} {ao2:Option Addr} {n2 cp2:Nat} {e2:Int} {s3:Bool} {ao3:Option Addr} {n3 cp3:Nat} {e3:Int} (h:TnB w g3 g4 a b wr s1 ao1 n1 cp1 e1 s2 ao2 n2 cp2 e2) (hb:Bw wr w') (hd:DN w' (.agg #[.bool s3,.slice ao3 n3 cp3,.int .i64 e3]) (un ((10^a':Nat):Int) 0)):TnB w g3 g4 a' b (((w'.setCell ⟨g3,0,none⟩ (.bool s3)).setCell ⟨g3,1,none⟩ (.slice ao3 n3 cp3)).setCell ⟨g3,2,none⟩ (.int .i64 e3)) s3 ao3 n3 cp3 e3 s2 ao2 n2 cp2 e2:=by
 obtain⟨h1,h2,h3,h4,h5,h6,h7⟩:=h
 have hs:=hb.size
 have b1:=h1.later hb
 refine⟨b1.put hd,(h2.later hb).other b1.1 (by omega) _ _ _,heap_otherQ (box_later h3 hb (by omega)) (by omega) _ _ _,below_store3 (h4.trans (hb.mono h4.size)) (by omega) _ _ _,h5,h6,by simp[World.setCell];omega⟩
theorem TnB.put4 {w wr w':World} {g3 g4 a b b':Nat} {s1:Bool} {ao1:Option Addr} {n1 cp1:Nat} {e1:Int} {s2:Bool} {ao2:Option Addr} {n2 cp2:Nat} {e2:Int} {s3:Bool} {ao3:Option Addr} {n3 cp3:Nat} {e3:Int} (h:TnB w g3 g4 a b wr s1 ao1 n1 cp1 e1 s2 ao2 n2 cp2 e2) (hb:Bw wr w') (hd:DN w' (.agg #[.bool s3,.slice ao3 n3 cp3,.int .i64 e3]) (un ((10^b':Nat):Int) 0)):TnB w g3 g4 a b' (((w'.setCell ⟨g4,0,none⟩ (.bool s3)).setCell ⟨g4,1,none⟩ (.slice ao3 n3 cp3)).setCell ⟨g4,2,none⟩ (.int .i64 e3)) s1 ao1 n1 cp1 e1 s3 ao3 n3 cp3 e3:=by
 obtain⟨h1,h2,h3,h4,h5,h6,h7⟩:=h
 have hs:=hb.size
 have b2:=h2.later hb
 refine⟨(h1.later hb).other b2.1 (by omega) _ _ _,b2.put hd,heap_otherQ (box_later h3 hb (by omega)) (by omega) _ _ _,below_store3 (h4.trans (hb.mono h4.size)) (by omega) _ _ _,h5,h6,by simp[World.setCell];omega⟩
theorem dtimes0 {x y:Int} {k l:Nat} {X Y:Value} {w:World} (hx:x.natAbs<2^k) (hy:y.natAbs<2^l) (hk:k≤90000) (hl:l≤90000) (h1:DN w X (un x 0)) (h2:DN w Y (un y 0)):Calls Tryz.prog 39 #[X,Y] w fun r w'=>∃ A,r=.returned A∧DN w' A (un (x*y) 0)∧Bw w w':=by
 have h:=gtimes (un_gn hx hk (by omega)) (un_gn hy hl (by omega)) h1 h2
 rw[gM_un] at h
 exact h
theorem ten_ltQ (a:Nat):(((10^a:Nat):Int)).natAbs<2^(4*a+1):=by
 rw[Int.natAbs_natCast]
 have h:10^a≤2^(4*a):=by rw[Nat.pow_mul];exact Nat.pow_le_pow_left (by decide) _
 rw[Nat.pow_succ]
 have:=Nat.two_pow_pos (4*a)
 omega
theorem tenmul (a b:Nat):((10^a:Nat):Int)*((10^b:Nat):Int)=((10^(a+b):Nat):Int):=by rw[Nat.pow_add];push_cast;rfl
theorem ktimes10 (a b:Nat) (ha:a≤10000) (hb:b≤10000) {X Y:Value} {w:World} (h1:DN w X (un ((10^a:Nat):Int) 0)) (h2:DN w Y (un ((10^b:Nat):Int) 0)):Calls Tryz.prog 39 #[X,Y] w fun r w'=>∃ s ao n cp e,r=.returned (.agg #[.bool s,.slice ao n cp,.int .i64 e])∧DN w' (.agg #[.bool s,.slice ao n cp,.int .i64 e]) (un ((10^(a+b):Nat):Int) 0)∧Bw w w':=by
 refine(dtimes0 (ten_ltQ a) (ten_ltQ b) (by omega) (by omega) h1 h2).mono ?_
 rintro r w' ⟨A,rfl,hA,hb'⟩
 rw[tenmul] at hA
 obtain⟨s,ao,n,cp,e,rfl⟩:=hA.shape
 exact⟨s,ao,n,cp,e,rfl,hA,hb'⟩
theorem knorm (U:World) (g:Nat) (hg:g=U.heap.size) (d:Nat) (di:Int) (hdi:di=(d:Int)) (h0:0<d) (h:d<16):Calls Tryz.prog 103 #[.bool false,.slice (some ⟨g,0,none⟩) 1 1,.int .i64 0] (U.alloc (.cells #[.int .u32 di] 96)) fun r w'=>∃ s ao n cp e,r=.returned (.agg #[.bool s,.slice ao n cp,.int .i64 e])∧DN w' (.agg #[.bool s,.slice ao n cp,.int .i64 e]) (un ((d:Nat):Int) 0)∧Bw U w':=by
 subst hdi hg
 have hi:=ir_newd U d h0 h
 have hl:=dlen_dF h
 refine(rnorm (neg:=false) (x:=d) (e:=0) hi (by omega) (by omega)).mono ?_
 rintro r w' ⟨A,rfl,hA,hb⟩
 have hD:DN w' A (un ((d:Nat):Int) 0):=by
  have:=hA.dn
  unfold un
  rw[decide_eq_false (by omega),Int.natAbs_natCast]
  exact this
 obtain⟨s,ao,n,cp,e,rfl⟩:=hD.shape
 refine⟨s,ao,n,cp,e,rfl,hD,?_⟩
 have hb0:Below U.heap.size U (U.alloc (.cells #[.int .u32 (d:Int)] 96)):=(Below.refl _ _).alloc (Nat.le_refl _) _
 exact hb0.trans (hb.mono hb0.size)
theorem d2ten (N:Nat) (w:World) (hN:N≤2000) :
  Calls Tryz.prog 38 #[.int .i64 N] w fun r w'=>∃ A,r=.returned A∧DN w' A (un ((10^N:Nat):Int) 0)∧Bw w w':=by
 obtain⟨W,hW⟩:∃ W,W=w.alloc (.cells #[.bool false,.slice none 0 0,.int .i64 0] 54):=⟨_,rfl⟩
 have hsz:W.heap.size=w.heap.size+1:=by rw[hW];simp
 have HW:Hid (Bw w W∧W.heap[w.heap.size]?=some (.cells #[.bool false,.slice none 0 0,.int .i64 0] 54 (0,0))∧W.heap.size=w.heap.size+1):=⟨by rw[hW];exact(Below.refl _ _).alloc (Nat.le_refl _) _,by rw[hW];exact heap_alloc_new _ _,hsz⟩
 clear hsz
 have k1:=knorm W (w.heap.size+1) HW.out.2.2.symm 1 1 rfl (by decide) (by decide)
 go_enter Tryz.func38,Tryz.ntmps38
 go_wp2_with fail
 rw[←hW]
 clear hW
 refine k1.mono ?_
 rintro r w1 ⟨s1,ao1,n1,cp1,e1,rfl,hd1,hb1⟩
 clear k1
 obtain⟨V,hV⟩:∃ V,V=w1.alloc (.cells #[.bool s1,.slice ao1 n1 cp1,.int .i64 e1] 54):=⟨_,rfl⟩
 obtain⟨g3,hg3⟩:∃ g3,g3=w1.heap.size:=⟨_,rfl⟩
 have k2:=knorm V (g3+1) (by rw[hV,hg3];simp) 10 10 rfl (by decide) (by decide)
 have H1:Hid (NbQ V g3 s1 ao1 n1 cp1 e1 (un ((10^0:Nat):Int) 0)∧Bw W V∧W.heap.size≤g3∧V.heap.size=g3+1):=by
  have hbV:Bw w1 V:=by rw[hV];exact(Below.refl _ _).alloc (Nat.le_refl _) _
  refine⟨⟨by rw[hV,hg3];exact heap_alloc_new _ _,hd1.later hbV⟩,hb1.trans (hbV.mono hb1.size),by rw[hg3];exact hb1.size,by rw[hV,hg3];simp⟩
 clear hd1 hb1
 go_upto_region 2 with fail
 rw[←hV,←hg3]
 clear hV hg3
 have hVs:=H1.out.2.2.2
 go_wp2_with fail
 refine k2.mono ?_
 rintro r w2 ⟨s2,ao2,n2,cp2,e2,rfl,hd2,hb2⟩
 clear k2 hVs
 obtain⟨V2,hV2⟩:∃ V2,V2=w2.alloc (.cells #[.bool s2,.slice ao2 n2 cp2,.int .i64 e2] 54):=⟨_,rfl⟩
 obtain⟨g4,hg4⟩:∃ g4,g4=w2.heap.size:=⟨_,rfl⟩
 have HT:Hid (TnB w g3 g4 0 1 V2 s1 ao1 n1 cp1 e1 s2 ao2 n2 cp2 e2):=by
  have hbV:Bw w2 V2:=by rw[hV2];exact(Below.refl _ _).alloc (Nat.le_refl _) _
  have hV:Bw V V2:=hb2.trans (hbV.mono hb2.size)
  have hWV:Bw W V2:=H1.out.2.1.trans (hV.mono H1.out.2.1.size)
  have h3:=HW.out.2.2
  have h4:=hb2.size
  have h5:=H1.out.2.2
  have h6:V2.heap.size=w2.heap.size+1:=by rw[hV2];simp
  refine⟨H1.out.1.later hV,⟨by rw[hV2,hg4];exact heap_alloc_new _ _,hd2.later hbV⟩,box_later HW.out.2.1 hWV (by omega),HW.out.1.trans (hWV.mono HW.out.1.size),by omega,by omega,by omega⟩
 clear hd2 hb2 H1
 go_upto_region 3 with fail
 rw[←hV2,←hg4]
 clear hV2 hg4 HW
 go_loopw [0] (fun v wr=>∃ (n a b:Nat) (s1:Bool) (ao1:Option Addr) (n1 cp1:Nat) (e1:Int) (s2:Bool) (ao2:Option Addr) (n2 cp2:Nat) (e2:Int),n≤2000∧v=.int .i64 (n:Nat)∧a+b*n=N∧Hid (TnB w g3 g4 a b wr s1 ao1 n1 cp1 e1 s2 ao2 n2 cp2 e2)) (fun v _=>(intOf v).toNat)
 case atStart=>exact⟨N,0,1,_,_,_,_,_,_,_,_,_,_,hN,rfl,by omega,HT⟩
 case round =>
  obtain⟨n,a,b,s1,ao1,n1,cp1,e1,s2,ao2,n2,cp2,e2,hn,rfl,hab,HI⟩:=hrel
  clear HT
  by_cases h0:0<n
  ·have h0':(0:Int)<(n:Int):=by omega
   have hb1:b*1≤b*n:=Nat.mul_le_mul_left _ h0
   have hbN:b≤2000:=by omega
   have haN:a≤2000:=by omega
   have hq:Int.tdiv (n:Int) 2=((n / 2:Nat):Int):=by rw[Int.tdiv_eq_ediv_of_nonneg (by omega)];omega
   have hr:Int.tmod (n:Int) 2=((n % 2:Nat):Int):=by rw[Int.tmod_eq_emod_of_nonneg (by omega)];omega
   have hq2:n / 2≤2000:=by omega
   obtain⟨q,hqq⟩:∃ q,q=n / 2:=⟨_,rfl⟩
   rw[←hqq] at hq hq2
   have HQL:Hid (q<n):=(by omega:q<n)
   have hsq:∀ (U:World),DN U (.agg #[.bool s2,.slice ao2 n2 cp2,.int .i64 e2]) (un ((10^b:Nat):Int) 0)→_:=fun U h=>ktimes10 b b (by omega) (by omega) h h
   by_cases hodd:n % 2=1
   ·rw[hodd] at hr
    have HNN:Hid (a+b+(b+b)*q=N):=(by
     have e:n=2*q+1:=by omega
     rw[e] at hab
     have e2:b*(2*q+1)=b+(b+b)*q:=by rw[Nat.mul_add,Nat.add_mul,Nat.mul_one,Nat.mul_comm 2 q,←Nat.mul_assoc,Nat.mul_two];omega
     omega:a+b+(b+b)*q=N)
    have k1:=ktimes10 a b (by omega) (by omega) HI.out.1.2 HI.out.2.1.2
    obtain⟨⟨c0,c1,c2⟩,-⟩:=box_cells29 HI.out.1.1
    obtain⟨⟨d0,d1,d2⟩,-⟩:=box_cells29 HI.out.2.1.1
    clear hab hodd hqq
    go_wp2_with fail
    refine k1.mono ?_
    rintro r w3 ⟨s3,ao3,n3,cp3,e3,rfl,hd3,hb3⟩
    clear k1 c0 c1 c2 d0 d1 d2
    have HI3:Hid (TnB w g3 g4 (a+b) b (((w3.setCell ⟨g3,0,none⟩ (.bool s3)).setCell ⟨g3,1,none⟩ (.slice ao3 n3 cp3)).setCell ⟨g3,2,none⟩ (.int .i64 e3)) s3 ao3 n3 cp3 e3 s2 ao2 n2 cp2 e2):=HI.out.put3 hb3 hd3
    obtain⟨⟨c0,c1,c2⟩,f0,f1,f2⟩:=box_cells29 (HI.out.1.later hb3).1
    clear hd3 hb3 HI
    go_upto_region 6 with fail
    obtain⟨U,hU⟩:∃ U,U=(((w3.setCell ⟨g3,0,none⟩ (.bool s3)).setCell ⟨g3,1,none⟩ (.slice ao3 n3 cp3)).setCell ⟨g3,2,none⟩ (.int .i64 e3)):=⟨_,rfl⟩
    rw[←hU] at HI3 ⊢
    clear hU c0 c1 c2 f0 f1 f2
    have k2:=hsq U HI3.out.2.1.2
    obtain⟨⟨d0,d1,d2⟩,-⟩:=box_cells29 HI3.out.2.1.1
    go_wp2_with fail
    refine k2.mono ?_
    rintro r w4 ⟨s4,ao4,n4,cp4,e4,rfl,hd4,hb4⟩
    clear k2 d0 d1 d2
    have HI4:Hid (TnB w g3 g4 (a+b) (b+b) (((w4.setCell ⟨g4,0,none⟩ (.bool s4)).setCell ⟨g4,1,none⟩ (.slice ao4 n4 cp4)).setCell ⟨g4,2,none⟩ (.int .i64 e4)) s3 ao3 n3 cp3 e3 s4 ao4 n4 cp4 e4):=HI3.out.put4 hb4 hd4
    obtain⟨⟨d0,d1,d2⟩,f0,f1,f2⟩:=box_cells29 (HI3.out.2.1.later hb4).1
    clear hd4 hb4 HI3 hsq
    go_wp2_with fail
    exact⟨⟨q,a+b,b+b,_,_,_,_,_,_,_,_,_,_,hq2,rfl,HNN.out,HI4⟩,by have hql:=HQL.out;simp[intOf];omega⟩
   ·have hev:n % 2=0:=by omega
    rw[hev] at hr
    have HNN:Hid (a+(b+b)*q=N):=(by
     have e:n=2*q:=by omega
     rw[e] at hab
     have e2:b*(2*q)=(b+b)*q:=by rw[←Nat.mul_two,Nat.mul_assoc]
     omega:a+(b+b)*q=N)
    have k2:=hsq wr HI.out.2.1.2
    obtain⟨⟨d0,d1,d2⟩,-⟩:=box_cells29 HI.out.2.1.1
    clear hab hodd hqq hev
    go_wp2_with fail
    refine k2.mono ?_
    rintro r w4 ⟨s4,ao4,n4,cp4,e4,rfl,hd4,hb4⟩
    clear k2 d0 d1 d2
    have HI4:Hid (TnB w g3 g4 a (b+b) (((w4.setCell ⟨g4,0,none⟩ (.bool s4)).setCell ⟨g4,1,none⟩ (.slice ao4 n4 cp4)).setCell ⟨g4,2,none⟩ (.int .i64 e4)) s1 ao1 n1 cp1 e1 s4 ao4 n4 cp4 e4):=HI.out.put4 hb4 hd4
    obtain⟨⟨d0,d1,d2⟩,f0,f1,f2⟩:=box_cells29 (HI.out.2.1.later hb4).1
    clear hd4 hb4 HI hsq
    go_wp2_with fail
    exact⟨⟨q,a,b+b,_,_,_,_,_,_,_,_,_,_,hq2,rfl,HNN.out,HI4⟩,by have hql:=HQL.out;simp[intOf];omega⟩
  ·obtain rfl:n=0:=by omega
   obtain rfl:a=N:=by omega
   obtain⟨⟨c0,c1,c2⟩,-⟩:=box_cells29 HI.out.1.1
   obtain⟨⟨d0,d1,d2⟩,f0,f1,f2⟩:=box_cells29 HI.out.2.2.1
   go_wp2_with fail
   refine bodyPost_ret (results_cell_row rfl _ _ (w.heap.size) 54 #[.bool s1,.slice ao1 n1 cp1,.int .i64 e1] (0,0) _ rfl (store3_29 _ _ _ HI.out.2.2.1) Tryz.underlying54 rfl Tryz.info54) rfl ?_
   exact⟨_,rfl,HI.out.1.2.storeQ HI.out.2.2.1 _ _ _,below_store3 HI.out.2.2.2.1 (Nat.le_refl _) _ _ _⟩
theorem odd_cn {t:Bool×Nat×Int} (hc:cn t.1 t.2.1 t.2.2=t) (h0:t.2.1≠0):t.2.1 % 2=1:=by
 have h1:=(tz_spec _ _ (Nat.le_refl _) h0).2
 have h2:t.2.1 / 2^tz t.2.1=t.2.1:=by
  have:=congrArg (fun u:Bool×Nat×Int=>u.2.1) hc
  unfold cn at this
  rw[if_neg h0] at this
  exact this
 rw[h2] at h1
 exact h1
theorem dtoQ {t:Bool×Nat×Int} {m:Int} (o:Gn t) (hm:1≤m∧m≤3) {W:World} {A:Value} (h:DN W A t):Calls Tryz.prog 151 #[A,.int .i64 m] W fun r w'=>r=.returned (.float .f64 (toD t m))∧Bw W w':=by
 obtain⟨ao,cap,rfl,hA⟩:=h
 unfold toD
 by_cases h0:t.2.1=0
 ·rw[if_pos h0,h0,dlen_zero]
  exact rto_0 t.1 ao cap t.2.2 m W
 ·rw[if_neg h0,tf_bdy hm]
  exact rto hA.at_ hA.le (odd_cn o.1 h0) (by have:=o.2.1;omega) (by have:=o.2.2.1;omega) (by have:=o.2.2.2;omega) hm
theorem dratQ {t1 t2:Bool×Nat×Int} {m:Int} (hx:dlen t1.2.1≤2048) (hy:dlen t2.2.1≤2048) (ha : -65536≤t1.2.2∧t1.2.2≤65536) (hb : -65536≤t2.2.2∧t2.2.2≤65536) (hx0:t1.2.1≠0) (hy0:t2.2.1≠0) (hm:1≤m∧m≤3) {W:World} {A B:Value} (h1:DN W A t1) (h2:DN W B t2) :
  Calls Tryz.prog 152 #[A,B,.int .i64 m] W fun r w'=>r=.returned (.float .f64 (rtF t1 t2 m))∧Bw W w':=by
 obtain⟨ao,cap,rfl,hA⟩:=h1
 obtain⟨ao',cap',rfl,hA'⟩:=h2
 exact rratioto hA hA' hx hy ha hb hx0 hy0 hm (k:=rtK t1 t2) (by unfold rtK;omega)
def OutQ (W:World) (t:Bool×Nat×Int) (r:Ending) (w':World):Prop:=∃ (s1:Bool) (ao1:Option Addr) (n1 cp1:Nat) (e1:Int),r=.returned (.agg #[.bool s1,.slice ao1 n1 cp1,.int .i64 e1])∧DN w' (.agg #[.bool s1,.slice ao1 n1 cp1,.int .i64 e1]) t∧Bw W w'
theorem outQ {W w':World} {t:Bool×Nat×Int} {r:Ending} (h:∃ A,r=.returned A∧DN w' A t∧Bw W w'):OutQ W t r w':=by
 obtain⟨A,rfl,hA,hb⟩:=h
 obtain⟨s,ao,n,cp,e,rfl⟩:=hA.shape
 exact⟨s,ao,n,cp,e,rfl,hA,hb⟩
theorem nn_dec (n:Nat):decide (((n:Nat):Int)<0)=false:=decide_eq_false (by omega)
theorem gcutN {A p K bA:Nat} {X:Value} {w:World} (hK:pU p=K) (ha:A<2^bA) (hbA:bA≤90000) (hp:p≤90000) (h1:DN w X (un (A:Int) p)) :
  Calls Tryz.prog 48 #[X,.int .i64 0] w fun res w'=>∃ V,res=.returned (.tuple #[V,.bool (decide (A % K=0))])∧DN w' V (un ((A / K:Nat):Int) 0)∧Bw w w':=by
 obtain⟨ao,cap,rfl,a1⟩:=h1
 have ha':((A:Nat):Int).natAbs<2^bA:=by rw[Int.natAbs_natCast];exact ha
 have ea:=un_e (p:=p) ha'
 have la:=dlen_two9 (un_small (p:=p) ha')
 subst hK
 by_cases a0:A=0
 ·subst a0
  have e0:un ((0:Nat):Int) p=(false,0,0):=un_zero p
  rw[e0] at a1 ⊢
  rw[dlen_zero] at *
  refine(rcut_z false ao 0 cap 0 0 w (by decide) (by decide) (by omega) (by omega)).mono ?_
  rintro res w' ⟨rfl,hb⟩
  rw[Nat.zero_mod,Nat.zero_div,decide_eq_true rfl]
  exact⟨_,rfl,⟨ao,cap,by rw[show un ((0:Nat):Int) 0=(false,0,0)from un_zero 0,dlen_zero],by rw[show un ((0:Nat):Int) 0=(false,0,0)from un_zero 0,dlen_zero];exact a1.later hb⟩,hb⟩
 ·have a0':((A:Nat):Int)≠0:=by omega
  have hx0:(un (A:Int) p).2.1≠0:=fun h=>a0' (un_sign.2.1 h)
  obtain⟨pa1,pa2,pa3⟩:=un_parts (a:=(A:Int)) (p:=p) a0'
  rw[Int.natAbs_natCast] at pa2 pa3
  have hodd:(un (A:Int) p).2.1 % 2=1:=by
   unfold un cn
   rw[if_neg (by omega)]
   exact(tz_spec _ _ (Nat.le_refl _) (by omega)).2
  have hd0:dlen (un (A:Int) p).2.1≠0:=fun e=>hx0 (dlen_eq_zero.1 e)
  have hs:(un (A:Int) p).1=false:=by rw[pa1];exact decide_eq_false (by omega)
  have hun:un (A:Int) p=(false,(un (A:Int) p).2.1,(un (A:Int) p).2.2):=by rw[←hs]
  rw[hs]
  generalize (un (A:Int) p).2.1=x at *
  generalize (un (A:Int) p).2.2=e at *
  generalize tz A=t at *
  unfold pU
  rcases Int.lt_or_le 0 (-(0:Int) - e)with hk|hk
  ·obtain⟨k,hk'⟩:∃ k:Nat,-(0:Int) - e=k:=⟨(-(0:Int) - e).toNat,by omega⟩
   have hpr:p=t+k:=by omega
   refine(rcut_p ao cap x k e 0 w a1.at_ a1.le hx0 (by omega) (by omega) (by omega) (by omega) (by omega) hk' (by omega) (by omega)).mono ?_
   rintro res w' ⟨V,rfl,hN,hb⟩
   have hdiv:A / 2^p=x / 2^k:=by
    rw[hpr,Nat.pow_add,←pa2,←Nat.div_div_eq_div_mul,Nat.mul_div_cancel _ (Nat.two_pow_pos _)]
   have hm:A % 2^p≠0:=fun h=>by
    have h3:2^(t+k) ∣ x*2^t:=by rw[pa2,←hpr];exact Nat.dvd_of_mod_eq_zero h
    rw[Nat.add_comm,Nat.pow_add] at h3
    have h4:=Nat.dvd_of_mul_dvd_mul_right (Nat.two_pow_pos _) h3
    have h5:2 ∣ x:=Nat.dvd_trans (⟨2^(k - 1),by rw[Nat.mul_comm,←Nat.pow_succ];congr 1;omega⟩) h4
    omega
   rw[decide_eq_false hm]
   refine⟨V,rfl,?_,hb⟩
   have hd:=hN.dn
   have key:cn false (x / 2^k) (-(0:Int))=un ((A / 2^p:Nat):Int) 0:=by
    rw[hdiv]
    unfold un
    rw[nn_dec,Int.natAbs_natCast]
    rfl
   rw[←key];exact hd
  ·refine(rcut_w false ao (dlen x) cap e 0 w (by omega) (by omega) (by omega) (by omega) (by rw[beq_eq_false_iff_ne];omega) (by omega) (by omega)).mono ?_
   rintro res w' ⟨rfl,hb⟩
   have hdv:2^p ∣ A:=by
    rw[←pa2]
    exact Nat.dvd_trans (Nat.pow_dvd_pow 2 (by omega)) (Nat.dvd_mul_left _ _)
   rw[decide_eq_true (Nat.mod_eq_zero_of_dvd hdv)]
   refine⟨_,rfl,?_,hb⟩
   obtain⟨c,hc⟩:=hdv
   have hA2:A / 2^p=c:=by rw[hc,Nat.mul_div_cancel_left _ (Nat.two_pow_pos _)]
   have hc0:c≠0:=by rintro rfl;rw[Nat.mul_zero] at hc;exact a0 hc
   have key:((false,x,e):Bool×Nat×Int)=un ((A / 2^p:Nat):Int) 0:=by
    have h5:un ((c:Nat):Int) 0=un ((A:Nat):Int) p:=by
     have h6:=un_pU (c:Int) p
     rw[h6]
     congr 1
     unfold pU
     rw[hc,Nat.mul_comm]
     push_cast
     rfl
    rw[hA2,h5,hun]
   rw[←key]
   exact⟨ao,cap,rfl,a1.later hb⟩
theorem goverN {A B p K bA bB:Nat} {X Y:Value} {w:World} (hK:pU p=K) (hB:0<B) (ha:A<2^bA) (hbb:B<2^bB) (hbA:bA≤90000) (hbB:bB≤90000) (hp:p≤90000) (h1:DN w X (un (A:Int) p)) (h2:DN w Y (un (B:Int) 0)) :
  Calls Tryz.prog 146 #[X,Y,.int .i64 0] w fun res w'=>∃ V,res=.returned (.tuple #[V,.bool (decide (A % (B*K)=0))])∧DN w' V (un ((A / (B*K):Nat):Int) 0)∧Bw w w':=by
 obtain⟨ao,cap,rfl,a1⟩:=h1
 obtain⟨ao',cap',rfl,a2⟩:=h2
 have ha':((A:Nat):Int).natAbs<2^bA:=by rw[Int.natAbs_natCast];exact ha
 have hb':((B:Nat):Int).natAbs<2^bB:=by rw[Int.natAbs_natCast];exact hbb
 have ea:=un_e (p:=p) ha'
 have eb:=un_e (p:=0) hb'
 have la:=dlen_two9 (un_small (p:=p) ha')
 have lb:=dlen_two9 (un_small (p:=0) hb')
 have y0:(un (B:Int) 0).2.1≠0:=fun h=>by have:=un_sign.2.1 h;omega
 have sa:(un (A:Int) p).1=false:=by unfold un cn;split;rfl;exact nn_dec A
 have sb:(un (B:Int) 0).1=false:=by unfold un cn;split;rfl;exact nn_dec B
 subst hK
 have hP:0<pU p:=pU_pos p
 have key:decide (ovX (un (A:Int) p).2.1 (un (A:Int) p).2.2 (un (B:Int) 0).2.2 0 % ovY (un (B:Int) 0).2.1 (un (A:Int) p).2.2 (un (B:Int) 0).2.2 0=0)=decide (A % (B*pU p)=0)∧ovX (un (A:Int) p).2.1 (un (A:Int) p).2.2 (un (B:Int) 0).2.2 0 / ovY (un (B:Int) 0).2.1 (un (A:Int) p).2.2 (un (B:Int) 0).2.2 0=A / (B*pU p):=by
  by_cases a0:A=0
  ·subst a0
   rw[show un ((0:Nat):Int) p=(false,0,0)from un_zero p]
   unfold ovX
   simp
  ·obtain⟨pb1,pb2,pb3⟩:=un_parts (a:=(B:Int)) (p:=0) (by omega)
   obtain⟨pa1,pa2,pa3⟩:=un_parts (a:=(A:Int)) (p:=p) (by omega)
   rw[Int.natAbs_natCast] at pa2 pa3 pb2 pb3
   obtain⟨m,hm⟩:∃ m:Nat,(m:Int)=min ((un (A:Int) p).2.2+0) (un (B:Int) 0).2.2+p:=⟨(min ((un (A:Int) p).2.2+0) (un (B:Int) 0).2.2+p).toNat,by omega⟩
   have hX:ovX (un (A:Int) p).2.1 (un (A:Int) p).2.2 (un (B:Int) 0).2.2 0*2^m=A:=by
    have ee:((un (A:Int) p).2.2+0 - min ((un (A:Int) p).2.2+0) (un (B:Int) 0).2.2).toNat+m=tz A:=by omega
    unfold ovX
    rw[Nat.mul_assoc,←Nat.pow_add,ee,pa2]
   have hY:ovY (un (B:Int) 0).2.1 (un (A:Int) p).2.2 (un (B:Int) 0).2.2 0*2^m=B*pU p:=by
    have ee:((un (B:Int) 0).2.2 - min ((un (A:Int) p).2.2+0) (un (B:Int) 0).2.2).toNat+m=tz B+p:=by omega
    unfold ovY pU
    rw[Nat.mul_assoc,←Nat.pow_add,ee,Nat.pow_add,←Nat.mul_assoc,pb2]
   have hm2:=Nat.two_pow_pos m
   constructor
   ·conv=>rhs;rw[←hX,←hY,Nat.mul_mod_mul_right]
    by_cases h:ovX (un (A:Int) p).2.1 (un (A:Int) p).2.2 (un (B:Int) 0).2.2 0 % ovY (un (B:Int) 0).2.1 (un (A:Int) p).2.2 (un (B:Int) 0).2.2 0=0
    ·rw[decide_eq_true h,h,Nat.zero_mul];rfl
    ·rw[decide_eq_false h,decide_eq_false (fun h9=>by rcases Nat.mul_eq_zero.1 h9 with h9|h9;exact h h9;omega)]
   ·conv=>rhs;rw[←hX,←hY]
    rw[Nat.mul_div_mul_right _ _ hm2]
 obtain⟨k1,k2⟩:=key
 have h:=rover (na:=(un (A:Int) p).1) (nb:=(un (B:Int) 0).1) (ea:=(un (A:Int) p).2.2) (eb:=(un (B:Int) 0).2.2) (place:=0) a1.at_ a1.le a2.at_ a2.le y0 (by omega) (by omega) ⟨by omega,by omega⟩ ⟨by omega,by omega⟩ ⟨by omega,by omega⟩ rfl rfl
 rw[k1,k2,sa,sb] at h
 rw[sa,sb]
 refine h.mono ?_
 rintro res w' ⟨V,e,hN,hbl⟩
 refine⟨V,e,?_,hbl⟩
 have hd:=hN.dn
 have e2:cn (false != false) (if((false != false) && !(decide (A % (B*pU p)=0)))=true then A / (B*pU p)+1 else A / (B*pU p)) (-(0:Int))=un ((A / (B*pU p):Nat):Int) 0:=by
  unfold un
  rw[nn_dec,Int.natAbs_natCast]
  rfl
 rw[←e2]
 exact hd
def scF (A:Nat) (k:Int):Nat:=A*tnO k / (tnU k*kU)
def scE (A:Nat) (k:Int):Bool:=decide (A*tnO k % (tnU k*kU)=0)
end Go.Proofs.YtfkaogdmlcdceaaGreatDoor
namespace Go.Proofs.YtfkaogdmlcdceaaGreatDoor
open Go.RowKit Go.Fl64
theorem DN.keepN {W0 V:World} {n:Nat} {gs:Nat→Nat} {B:Nat} {A:Value} {t:Bool×Nat×Int} {T:TypeId} (hK:KeepB n gs B W0 V) (hbox:∀ k,k<n→∃ cs,W0.heap[gs k]?=some (.cells cs T (0,0))∧NC3 cs) (h:DN W0 A t):DN V A t:=by
 obtain⟨ao,cap,rfl,h1⟩:=h
 obtain⟨bb,o,h4,h5⟩:=h1.at_
 refine⟨ao,cap,rfl,h1.nil,⟨bb,o,h4,fun i hi=>?_⟩,h1.le,h1.small⟩
 have hc:=h5 i hi
 have hlt:bb<W0.heap.size:=World.block_lt_of_cell? _ _ hc
 have hne:∀ k,k<n→bb≠gs k:=by
  rintro k hk rfl
  obtain⟨cs,hE,_,_,_,_,_,rfl⟩:=hbox k hk
  simp only[World.cell?,hE] at hc
  rcases(show o+i=0∨o+i=1∨o+i=2∨3≤o+i by omega)with e|e|e|e
  ·rw[e] at hc;simp at hc
  ·rw[e] at hc;simp at hc
  ·rw[e] at hc;simp at hc
  ·rw[Array.getElem?_eq_none (by simpa using e)] at hc;cases hc
 have:=hK.keep bb hlt hne
 unfold World.cell? at hc ⊢
 rw[this]
 exact hc
theorem DN.row3 {W:World} {A:Value} {t:Bool×Nat×Int} {g:Nat} {T:TypeId} {cs:Array Value} (h:DN W A t) (hE:W.heap[g]?=some (.cells cs T (0,0))) (hC:NC3 cs) (cs':Array Value):DN (W.setRow g cs') A t:=by
 obtain⟨ao,cap,rfl,h1⟩:=h
 obtain⟨bb,o,h4,h5⟩:=h1.at_
 obtain⟨_,_,_,_,_,rfl⟩:=hC
 refine⟨ao,cap,rfl,h1.nil,⟨bb,o,h4,fun i hi=>?_⟩,h1.le,h1.small⟩
 have hc:=h5 i hi
 have hne:bb≠g:=by
  rintro rfl
  simp only[World.cell?,hE] at hc
  rcases(show o+i=0∨o+i=1∨o+i=2∨3≤o+i by omega)with e|e|e|e
  ·rw[e] at hc;simp at hc
  ·rw[e] at hc;simp at hc
  ·rw[e] at hc;simp at hc
  ·rw[Array.getElem?_eq_none (by simpa using e)] at hc;cases hc
 have hs:=setRow_other W g bb cs' hne
 unfold World.cell? at hc ⊢
 rw[hs]
 exact hc
theorem isD_rows3 (t:Bool×Nat×Int):∀ w u g cs cs',w.heap[g]?=some (.cells cs 54 (0,0))→NC3 cs→isD t w u→isD t (w.setRow g cs') u:=fun w u g cs cs' h hC h2=>DN.row3 h2 h hC _
end Go.Proofs.YtfkaogdmlcdceaaGreatDoor
namespace Go.Proofs.YtfkaogdmlcdceaaGreatDoor
open Go Go.RowKit Go.Fl64
def isQ2 (t:Bool×Nat×Int) (b:Bool):World→Value→Prop:=fun w u=>∃ A,u=.tuple #[A,.bool b]∧DN w A t
theorem isQ2_stays (t:Bool×Nat×Int) (b:Bool):Stays (isQ2 t b):=fun _ _ _ hb ⟨A,h1,h2⟩=>⟨A,h1,h2.later hb⟩
theorem isQ2_rows3 (t:Bool×Nat×Int) (b:Bool):∀ w u g cs cs',w.heap[g]?=some (.cells cs 54 (0,0))→NC3 cs→isQ2 t b w u→isQ2 t b (w.setRow g cs') u:=fun w u g cs cs' h hC ⟨A,h1,h2⟩=>⟨A,h1,DN.row3 h2 h hC _⟩
theorem isD_rows8 (t:Bool×Nat×Int):∀ w u g cs',w.heap[g]?=some (.cells #[.bool false,.slice none 0 0,.int .i64 0] 54 (0,0))→isD t w u→isD t (w.setRow g cs') u:=fun w u g cs' hg h2=>DN.row3 h2 hg ⟨_,_,_,_,_,rfl⟩ cs'
def OutS (W:World) (t:Bool×Nat×Int) (b:Bool) (r:Ending) (w':World):Prop:=∃ (s1:Bool) (ao1:Option Addr) (n1 cp1:Nat) (e1:Int),r=.returned (.tuple #[.agg #[.bool s1,.slice ao1 n1 cp1,.int .i64 e1],.bool b])∧DN w' (.agg #[.bool s1,.slice ao1 n1 cp1,.int .i64 e1]) t∧Bw W w'
theorem outS {W w':World} {t:Bool×Nat×Int} {b:Bool} {r:Ending} (h:∃ A,r=.returned (.tuple #[A,.bool b])∧DN w' A t∧Bw W w'):OutS W t b r w':=by
 obtain⟨A,rfl,hA,hb⟩:=h
 obtain⟨s,ao,n,cp,e,rfl⟩:=hA.shape
 exact⟨s,ao,n,cp,e,rfl,hA,hb⟩
theorem d4scaled_p (s0:Bool) (ao0:Option Addr) (n0 cp0:Nat) (e0:Int) (k:Int) (ta tT tM tR:Bool×Nat×Int) (b:Bool) (w:World) (hA:DN w (.agg #[.bool s0,.slice ao0 n0 cp0,.int .i64 e0]) ta) (hk:0≤k)
  (kT:Hid (∀ W,Calls Tryz.prog 38 #[.int .i64 k] W fun r w'=>OutQ W tT r w'))
  (kM:Hid (∀ W X Y,DN W X ta→DN W Y tT→Calls Tryz.prog 39 #[X,Y] W fun r w'=>OutQ W tM r w'))
  (kC:Hid (∀ W X,DN W X tM→Calls Tryz.prog 48 #[X,.int .i64 0] W fun r w'=>OutS W tR b r w')) :
  Calls Tryz.prog 82 #[.agg #[.bool s0,.slice ao0 n0 cp0,.int .i64 e0],.int .i64 k] w fun r w'=>OutS w tR b r w':=by
 obtain⟨W,hW⟩:∃ W,W=(w.alloc (.cells #[.bool s0,.slice ao0 n0 cp0,.int .i64 e0] 54)).alloc (.cells #[.bool false,.slice none 0 0,.int .i64 0] 54):=⟨_,rfl⟩
 have H0:Hid (W.heap[w.heap.size]?=some (.cells #[.bool s0,.slice ao0 n0 cp0,.int .i64 e0] 54 (0,0))∧W.heap[w.heap.size+1]?=some (.cells #[.bool false,.slice none 0 0,.int .i64 0] 54 (0,0))∧W.heap.size=w.heap.size+1+1∧Bw w W∧DN W (.agg #[.bool s0,.slice ao0 n0 cp0,.int .i64 e0]) ta):=by
  obtain⟨y1,y2,y3,y4⟩:=two_new _ _ hW
  exact⟨y1,y2,y3,y4,hA.later y4⟩
 have hbx:∀ i,i<1→∃ cs,W.heap[(fun _=>w.heap.size+1:Nat→Nat) i]?=some (.cells cs 54 (0,0))∧NC3 cs:=fun i hi=>⟨_,H0.out.2.1,_,_,_,_,_,rfl⟩
 go_enter Tryz.func82,Tryz.ntmps82
 go_upto_region 1 with fail
 rw[←hW]
 clear hW hA
 go_upto_region 2 with fail
 refine q_region follows_mixed [0,1,2,3,4,5,6,8] [7] [8,9,10,11,12,13,14,5] [[],[],[1],[0,2],[3],[4],[4],[6]] [[5]] [5] (fun _=>4) (fun _=>w.heap.size+1) (w.heap.size+1) 54 NC3 3 W _ [isV (.agg #[.bool s0,.slice ao0 n0 cp0,.int .i64 e0]),isV (.int .i64 k),isD (tT),isD (tM),isQ2 (tR) (b),isD (tR),isV (.bool b),isV (.bool b)] (by kernel_rfl) ⟨isV_stays _,isV_stays _,isD_stays _,isD_stays _,isQ2_stays _ _,isD_stays _,isV_stays _,isV_stays _,trivial⟩ ⟨isV_rows _ _ _,isV_rows _ _ _,isD_rows3 _,isD_rows3 _,isQ2_rows3 _ _,isD_rows3 _,isV_rows _ _ _,isV_rows _ _ _,trivial⟩ (by show ∀ s ∈ [8,9,10,11,12,13,14,5],s<22;decide) ?_ ?_ Tryz.info54 ?_ ?_ ?_ ?_ (by have:=H0.out.2.2.1;omega) ?_
 ·intro i hi U u h
  obtain rfl:i=0:=Nat.lt_one_iff.1 hi
  obtain⟨s9,ao9,n9,cp9,e9,rfl⟩:=DN.shape (show DN U u _ from h)
  exact⟨_,rfl,rfl,⟨_,_,_,_,_,rfl⟩,one3 rfl rfl⟩
 ·intro j hj o ho act U hK hoth hdep hrd
  have hj':j<8:=hj
  have t2':act.tmps[(2:Nat)]?=some (Value.pointer (some ⟨w.heap.size,0,none⟩)):=(hoth 2 (by decide)).trans rfl
  have t4':act.tmps[(4:Nat)]?=some (Value.pointer (some ⟨w.heap.size+1,0,none⟩)):=(hoth 4 (by decide)).trans rfl
  have t1':act.tmps[(1:Nat)]?=some (Value.int .i64 k):=(hoth 1 (by decide)).trans rfl
  have dA:U.heap[w.heap.size]?=some (.cells #[.bool s0,.slice ao0 n0 cp0,.int .i64 e0] 54 (0,0)):=(hK.keep w.heap.size (by have:=H0.out.2.2.1;omega) (fun i hi=>by show w.heap.size≠w.heap.size+1;omega)).trans H0.out.1
  have d2:=(box_cells29 dA).1
  rcases(by omega:j=0∨j=1∨j=2∨j=3∨j=4∨j=5∨j=6∨j=7)with rfl|rfl|rfl|rfl|rfl|rfl|rfl|rfl
  ·obtain rfl:=Option.some.inj ho
   exact .inl ⟨rfl,owp_ldD rfl t2' d2.1 d2.2.1 d2.2.2 ⟨_,rfl,rfl,Below.refl _ _⟩⟩
  ·obtain rfl:=Option.some.inj ho
   exact .inl ⟨rfl,owp_move rfl t1' ⟨_,rfl,rfl,Below.refl _ _⟩⟩
  ·obtain rfl:=Option.some.inj ho
   have y1:act.tmps[(9:Nat)]?=_:=dV (hdep 1 (by simp[dL])) rfl
   refine .inl ⟨rfl,owp_call rfl (enters Tryz.func38 (by kernel_rfl) (by kernel_rfl)) (vs:=#[.int .i64 k]) (by simp[eval_get y1]) ?_⟩
   refine(kT.out U).mono ?_
   rintro r w' ⟨s9,ao9,n9,cp9,e9,rfl,hA9,hb'⟩
   exact⟨_,rfl,_,rfl,hA9,hb'⟩
  ·obtain rfl:=Option.some.inj ho
   have y0:act.tmps[(8:Nat)]?=_:=dV (hdep 0 (by simp[dL])) rfl
   obtain⟨u2,y20,v2⟩:=hdep 2 (by simp[dL])
   have y2:act.tmps[(10:Nat)]?=_:=y20
   refine .inl ⟨rfl,owp_call rfl (enters Tryz.func39 (by kernel_rfl) (by kernel_rfl)) (vs:=#[.agg #[.bool s0,.slice ao0 n0 cp0,.int .i64 e0],u2]) (by simp[eval_get y0,eval_get y2]) ?_⟩
   refine(kM.out U _ _ (H0.out.2.2.2.2.keepN hK hbx) v2).mono ?_
   rintro r w' ⟨s9,ao9,n9,cp9,e9,rfl,hA9,hb'⟩
   exact⟨_,rfl,_,rfl,hA9,hb'⟩
  ·obtain rfl:=Option.some.inj ho
   obtain⟨u3,y30,v3⟩:=hdep 3 (by simp[dL])
   have y3:act.tmps[(11:Nat)]?=_:=y30
   refine .inl ⟨rfl,owp_call rfl (enters Tryz.func48 (by kernel_rfl) (by kernel_rfl)) (vs:=#[u3,(Value.int IntKind.i64 0)]) (by simp[eval_get y3,eval_cst]) ?_⟩
   refine(kC.out U _ v3).mono ?_
   rintro r w' ⟨s9,ao9,n9,cp9,e9,rfl,hA9,hb'⟩
   exact⟨_,rfl,_,rfl,⟨_,rfl,hA9⟩,hb'⟩
  ·obtain rfl:=Option.some.inj ho
   obtain⟨u4,y40,v4⟩:=hdep 4 (by simp[dL])
   have y4:act.tmps[(12:Nat)]?=_:=y40
   obtain⟨A,rfl,vA⟩:=v4
   exact .inl ⟨rfl,owp_extS rfl y4 rfl ⟨_,rfl,vA,Below.refl _ _⟩⟩
  ·obtain rfl:=Option.some.inj ho
   obtain⟨u4,y40,v4⟩:=hdep 4 (by simp[dL])
   have y4:act.tmps[(12:Nat)]?=_:=y40
   obtain⟨A,rfl,vA⟩:=v4
   exact .inl ⟨rfl,owp_extS rfl y4 rfl ⟨_,rfl,rfl,Below.refl _ _⟩⟩
  ·obtain rfl:=Option.some.inj ho
   have y6:act.tmps[(14:Nat)]?=_:=dV (hdep 6 (by simp[dL])) rfl
   exact .inl ⟨rfl,owp_assign rfl y6 ⟨_,rfl,rfl,Below.refl _ _⟩⟩
 ·intro i hi
  obtain rfl:i=0:=Nat.lt_one_iff.1 hi
  exact⟨_,rfl,rfl⟩
 ·intro i hi
  exact⟨rfl,by decide⟩
 ·intro i hi
  exact⟨by show w.heap.size+1≤w.heap.size+1;omega,_,H0.out.2.1,rfl,_,_,_,_,_,rfl⟩
 ·intro i i' hi hi' _
  exact(Nat.lt_one_iff.1 hi).trans (Nat.lt_one_iff.1 hi').symm
 ·intro u U hK hu hcs
  obtain⟨csa,ya,z9⟩:=hcs 0 (by decide)
  have q9:DN U (u 5) _:=hu 5 (by show 5<8;decide)
  have ya':u 5=.agg csa:=ya
  rw[ya'] at q9
  obtain⟨s9,ao9,n9,cp9,e9,h9⟩:=DN.shape q9
  obtain rfl:=Value.agg.inj h9
  have u7:u 7=.bool b:=hu 7 (by show 7<8;decide)
  clear hu hcs ya ya'
  simp only[putL,show List.range 8 = [0,1,2,3,4,5,6,7] from rfl,List.length_cons,List.length_nil,List.getD_cons_zero,List.getD_cons_succ,List.map_cons,List.map_nil,List.cons_append,List.nil_append,List.foldl_cons,List.foldl_nil,Nat.reduceLT,Nat.reduceMod,Nat.reduceDiv,Nat.reduceMul,Nat.reduceAdd,Nat.reduceEqDiff,reduceIte,Nat.one_ne_zero,Act.put,List.setIfInBounds_toArray,List.set_cons_zero,List.set_cons_succ]
  rw[u7]
  clear u7
  have HB:Hid (Bw w U):=H0.out.2.2.2.1.trans (hK.below.mono (by omega))
  have z9:U.heap[w.heap.size+1]?=_:=z9
  clear hK
  go_wp2_with fail
  refine bodyPost_ret (results_cell_tmp_row rfl _ _ (w.heap.size+1) 54 #[.bool s9,.slice ao9 n9 cp9,.int .i64 e9] (0,0) _ rfl z9 Tryz.underlying54 rfl Tryz.info54) rfl ?_
  exact⟨_,_,_,_,_,rfl,q9,HB.out⟩
theorem d4scaled_n (s0:Bool) (ao0:Option Addr) (n0 cp0:Nat) (e0:Int) (k:Int) (ta tT tR:Bool×Nat×Int) (b:Bool) (w:World) (hA:DN w (.agg #[.bool s0,.slice ao0 n0 cp0,.int .i64 e0]) ta) (hk:¬ 0≤k) (hwk:IntKind.i64.wrap (-k) = -k)
  (kT:Hid (∀ W,Calls Tryz.prog 38 #[.int .i64 (-k)] W fun r w'=>OutQ W tT r w'))
  (kO:Hid (∀ W X Y,DN W X ta→DN W Y tT→Calls Tryz.prog 146 #[X,Y,.int .i64 0] W fun r w'=>OutS W tR b r w')) :
  Calls Tryz.prog 82 #[.agg #[.bool s0,.slice ao0 n0 cp0,.int .i64 e0],.int .i64 k] w fun r w'=>OutS w tR b r w':=by
 obtain⟨W,hW⟩:∃ W,W=(w.alloc (.cells #[.bool s0,.slice ao0 n0 cp0,.int .i64 e0] 54)).alloc (.cells #[.bool false,.slice none 0 0,.int .i64 0] 54):=⟨_,rfl⟩
 have H0:Hid (W.heap[w.heap.size]?=some (.cells #[.bool s0,.slice ao0 n0 cp0,.int .i64 e0] 54 (0,0))∧W.heap[w.heap.size+1]?=some (.cells #[.bool false,.slice none 0 0,.int .i64 0] 54 (0,0))∧W.heap.size=w.heap.size+1+1∧Bw w W∧DN W (.agg #[.bool s0,.slice ao0 n0 cp0,.int .i64 e0]) ta):=by
  obtain⟨y1,y2,y3,y4⟩:=two_new _ _ hW
  exact⟨y1,y2,y3,y4,hA.later y4⟩
 have hbx:∀ i,i<1→∃ cs,W.heap[(fun _=>w.heap.size+1:Nat→Nat) i]?=some (.cells cs 54 (0,0))∧NC3 cs:=fun i hi=>⟨_,H0.out.2.1,_,_,_,_,_,rfl⟩
 go_enter Tryz.func82,Tryz.ntmps82
 go_upto_region 1 with fail
 rw[←hW]
 clear hW hA
 go_upto_region 3 with fail
 refine q_region follows_mixed [0,1,2,3,4,5,6,8] [7] [15,16,17,18,19,20,21,5] [[],[],[1],[2],[0,3],[4],[4],[6]] [[5]] [5] (fun _=>4) (fun _=>w.heap.size+1) (w.heap.size+1) 54 NC3 3 W _ [isV (.agg #[.bool s0,.slice ao0 n0 cp0,.int .i64 e0]),isV (.int .i64 k),isV (.int .i64 (-k)),isD (tT),isQ2 (tR) (b),isD (tR),isV (.bool b),isV (.bool b)] (by kernel_rfl) ⟨isV_stays _,isV_stays _,isV_stays _,isD_stays _,isQ2_stays _ _,isD_stays _,isV_stays _,isV_stays _,trivial⟩ ⟨isV_rows _ _ _,isV_rows _ _ _,isV_rows _ _ _,isD_rows3 _,isQ2_rows3 _ _,isD_rows3 _,isV_rows _ _ _,isV_rows _ _ _,trivial⟩ (by show ∀ s ∈ [15,16,17,18,19,20,21,5],s<22;decide) ?_ ?_ Tryz.info54 ?_ ?_ ?_ ?_ (by have:=H0.out.2.2.1;omega) ?_
 ·intro i hi U u h
  obtain rfl:i=0:=Nat.lt_one_iff.1 hi
  obtain⟨s9,ao9,n9,cp9,e9,rfl⟩:=DN.shape (show DN U u _ from h)
  exact⟨_,rfl,rfl,⟨_,_,_,_,_,rfl⟩,one3 rfl rfl⟩
 ·intro j hj o ho act U hK hoth hdep hrd
  have hj':j<8:=hj
  have t2':act.tmps[(2:Nat)]?=some (Value.pointer (some ⟨w.heap.size,0,none⟩)):=(hoth 2 (by decide)).trans rfl
  have t4':act.tmps[(4:Nat)]?=some (Value.pointer (some ⟨w.heap.size+1,0,none⟩)):=(hoth 4 (by decide)).trans rfl
  have t1':act.tmps[(1:Nat)]?=some (Value.int .i64 k):=(hoth 1 (by decide)).trans rfl
  have dA:U.heap[w.heap.size]?=some (.cells #[.bool s0,.slice ao0 n0 cp0,.int .i64 e0] 54 (0,0)):=(hK.keep w.heap.size (by have:=H0.out.2.2.1;omega) (fun i hi=>by show w.heap.size≠w.heap.size+1;omega)).trans H0.out.1
  have d2:=(box_cells29 dA).1
  rcases(by omega:j=0∨j=1∨j=2∨j=3∨j=4∨j=5∨j=6∨j=7)with rfl|rfl|rfl|rfl|rfl|rfl|rfl|rfl
  ·obtain rfl:=Option.some.inj ho
   exact .inl ⟨rfl,owp_ldD rfl t2' d2.1 d2.2.1 d2.2.2 ⟨_,rfl,rfl,Below.refl _ _⟩⟩
  ·obtain rfl:=Option.some.inj ho
   exact .inl ⟨rfl,owp_move rfl t1' ⟨_,rfl,rfl,Below.refl _ _⟩⟩
  ·obtain rfl:=Option.some.inj ho
   have y1:act.tmps[(16:Nat)]?=_:=dV (hdep 1 (by simp[dL])) rfl
   exact .inl ⟨rfl,owp_run1 (w':=U) (by simp[execOp,y1,eval_cst,go_sem,hwk]) ⟨_,rfl,rfl,Below.refl _ _⟩⟩
  ·obtain rfl:=Option.some.inj ho
   have y2:act.tmps[(17:Nat)]?=_:=dV (hdep 2 (by simp[dL])) rfl
   refine .inl ⟨rfl,owp_call rfl (enters Tryz.func38 (by kernel_rfl) (by kernel_rfl)) (vs:=#[.int .i64 (-k)]) (by simp[eval_get y2]) ?_⟩
   refine(kT.out U).mono ?_
   rintro r w' ⟨s9,ao9,n9,cp9,e9,rfl,hA9,hb'⟩
   exact⟨_,rfl,_,rfl,hA9,hb'⟩
  ·obtain rfl:=Option.some.inj ho
   have y0:act.tmps[(15:Nat)]?=_:=dV (hdep 0 (by simp[dL])) rfl
   obtain⟨u3,y30,v3⟩:=hdep 3 (by simp[dL])
   have y3:act.tmps[(18:Nat)]?=_:=y30
   refine .inl ⟨rfl,owp_call rfl (enters Tryz.func146 (by kernel_rfl) (by kernel_rfl)) (vs:=#[.agg #[.bool s0,.slice ao0 n0 cp0,.int .i64 e0],u3,(Value.int IntKind.i64 0)]) (by simp[eval_get y0,eval_get y3,eval_cst]) ?_⟩
   refine(kO.out U _ _ (H0.out.2.2.2.2.keepN hK hbx) v3).mono ?_
   rintro r w' ⟨s9,ao9,n9,cp9,e9,rfl,hA9,hb'⟩
   exact⟨_,rfl,_,rfl,⟨_,rfl,hA9⟩,hb'⟩
  ·obtain rfl:=Option.some.inj ho
   obtain⟨u4,y40,v4⟩:=hdep 4 (by simp[dL])
   have y4:act.tmps[(19:Nat)]?=_:=y40
   obtain⟨A,rfl,vA⟩:=v4
   exact .inl ⟨rfl,owp_extS rfl y4 rfl ⟨_,rfl,vA,Below.refl _ _⟩⟩
  ·obtain rfl:=Option.some.inj ho
   obtain⟨u4,y40,v4⟩:=hdep 4 (by simp[dL])
   have y4:act.tmps[(19:Nat)]?=_:=y40
   obtain⟨A,rfl,vA⟩:=v4
   exact .inl ⟨rfl,owp_extS rfl y4 rfl ⟨_,rfl,rfl,Below.refl _ _⟩⟩
  ·obtain rfl:=Option.some.inj ho
   have y6:act.tmps[(21:Nat)]?=_:=dV (hdep 6 (by simp[dL])) rfl
   exact .inl ⟨rfl,owp_assign rfl y6 ⟨_,rfl,rfl,Below.refl _ _⟩⟩
 ·intro i hi
  obtain rfl:i=0:=Nat.lt_one_iff.1 hi
  exact⟨_,rfl,rfl⟩
 ·intro i hi
  exact⟨rfl,by decide⟩
 ·intro i hi
  exact⟨by show w.heap.size+1≤w.heap.size+1;omega,_,H0.out.2.1,rfl,_,_,_,_,_,rfl⟩
 ·intro i i' hi hi' _
  exact(Nat.lt_one_iff.1 hi).trans (Nat.lt_one_iff.1 hi').symm
 ·intro u U hK hu hcs
  obtain⟨csa,ya,z9⟩:=hcs 0 (by decide)
  have q9:DN U (u 5) _:=hu 5 (by show 5<8;decide)
  have ya':u 5=.agg csa:=ya
  rw[ya'] at q9
  obtain⟨s9,ao9,n9,cp9,e9,h9⟩:=DN.shape q9
  obtain rfl:=Value.agg.inj h9
  have u7:u 7=.bool b:=hu 7 (by show 7<8;decide)
  clear hu hcs ya ya'
  simp only[putL,show List.range 8 = [0,1,2,3,4,5,6,7] from rfl,List.length_cons,List.length_nil,List.getD_cons_zero,List.getD_cons_succ,List.map_cons,List.map_nil,List.cons_append,List.nil_append,List.foldl_cons,List.foldl_nil,Nat.reduceLT,Nat.reduceMod,Nat.reduceDiv,Nat.reduceMul,Nat.reduceAdd,Nat.reduceEqDiff,reduceIte,Nat.one_ne_zero,Act.put,List.setIfInBounds_toArray,List.set_cons_zero,List.set_cons_succ]
  rw[u7]
  clear u7
  have HB:Hid (Bw w U):=H0.out.2.2.2.1.trans (hK.below.mono (by omega))
  have z9:U.heap[w.heap.size+1]?=_:=z9
  clear hK
  go_wp2_with fail
  refine bodyPost_ret (results_cell_tmp_row rfl _ _ (w.heap.size+1) 54 #[.bool s9,.slice ao9 n9 cp9,.int .i64 e9] (0,0) _ rfl z9 Tryz.underlying54 rfl Tryz.info54) rfl ?_
  exact⟨_,_,_,_,_,rfl,q9,HB.out⟩
theorem d4far_p (s0:Bool) (ao0:Option Addr) (n0 cp0:Nat) (e0:Int) (s1:Bool) (ao1:Option Addr) (n1 cp1:Nat) (e1:Int) (k sg:Int) (ta tn tT tx td tR:Bool×Nat×Int) (w:World) (hA:DN w (.agg #[.bool s0,.slice ao0 n0 cp0,.int .i64 e0]) ta) (hN:DN w (.agg #[.bool s1,.slice ao1 n1 cp1,.int .i64 e1]) tn) (hk:0≤k)
  (kT:Hid (∀ W,Calls Tryz.prog 38 #[.int .i64 k] W fun r w'=>OutQ W tT r w'))
  (kM:Hid (∀ W X Y,DN W X ta→DN W Y tT→Calls Tryz.prog 39 #[X,Y] W fun r w'=>OutQ W tx r w'))
  (kS:Hid (∀ W X,DN W X td→Calls Tryz.prog 47 #[X] W fun r w'=>r=.returned (.int .i64 sg)∧Bw W w'))
  (kL:Hid (∀ W X Y,DN W X tx→DN W Y tn→Calls Tryz.prog 45 #[X,Y] W fun r w'=>OutQ W td r w'))
  (kN:Hid (sg<0→∀ W X,DN W X td→Calls Tryz.prog 111 #[X] W fun r w'=>OutQ W tR r w')) (kR:Hid (¬ sg<0→tR=td)) :
  Calls Tryz.prog 85 #[.agg #[.bool s0,.slice ao0 n0 cp0,.int .i64 e0],.agg #[.bool s1,.slice ao1 n1 cp1,.int .i64 e1],.int .i64 k] w fun r w'=>OutQ w tR r w':=by
 obtain⟨W,hW⟩:∃ W,W=((w.alloc (.cells #[.bool s0,.slice ao0 n0 cp0,.int .i64 e0] 54)).alloc (.cells #[.bool s1,.slice ao1 n1 cp1,.int .i64 e1] 54)).alloc (.cells #[.bool false,.slice none 0 0,.int .i64 0] 54):=⟨_,rfl⟩
 have H0:Hid (W.heap[w.heap.size]?=some (.cells #[.bool s0,.slice ao0 n0 cp0,.int .i64 e0] 54 (0,0))∧W.heap[w.heap.size+1]?=some (.cells #[.bool s1,.slice ao1 n1 cp1,.int .i64 e1] 54 (0,0))∧W.heap[w.heap.size+1+1]?=some (.cells #[.bool false,.slice none 0 0,.int .i64 0] 54 (0,0))∧W.heap.size=w.heap.size+3∧Bw w W):=by
  obtain⟨y1,y2,y3,y4⟩:=three_new _ _ _ hW
  exact⟨y1,y2,y3,by rw[hW];simp,y4⟩
 obtain⟨⟨c0,c1,c2⟩,-⟩:=box_cells29 H0.out.1
 go_enter Tryz.func85,Tryz.ntmps85
 go_upto_region 1 with fail
 rw[←hW]
 clear hW
 obtain⟨V,hV⟩:∃ V,V=W.alloc (.cells #[.bool s0,.slice ao0 n0 cp0,.int .i64 e0] 54):=⟨_,rfl⟩
 have H1:Hid (V.heap[w.heap.size]?=some (.cells #[.bool s0,.slice ao0 n0 cp0,.int .i64 e0] 54 (0,0))∧V.heap[w.heap.size+1]?=some (.cells #[.bool s1,.slice ao1 n1 cp1,.int .i64 e1] 54 (0,0))∧V.heap[w.heap.size+1+1]?=some (.cells #[.bool false,.slice none 0 0,.int .i64 0] 54 (0,0))∧V.heap[w.heap.size+3]?=some (.cells #[.bool s0,.slice ao0 n0 cp0,.int .i64 e0] 54 (0,0))∧V.heap.size=w.heap.size+4∧Bw w V∧DN V (.agg #[.bool s0,.slice ao0 n0 cp0,.int .i64 e0]) ta∧DN V (.agg #[.bool s1,.slice ao1 n1 cp1,.int .i64 e1]) tn):=by
  have hb:Bw W V:=by rw[hV];exact(Below.refl _ _).alloc (Nat.le_refl _) _
  obtain⟨y1,y2,y3,y4,y5⟩:=H0.out
  have h6:V.heap[W.heap.size]?=some (.cells #[.bool s0,.slice ao0 n0 cp0,.int .i64 e0] 54 (0,0)):=by rw[hV];exact heap_alloc_new _ _
  rw[y4] at h6
  have hbw:=y5.trans (hb.mono y5.size)
  exact⟨box_later y1 hb (lt_of_box y1),box_later y2 hb (lt_of_box y2),box_later y3 hb (lt_of_box y3),h6,by rw[hV];simp;omega,hbw,hA.later hbw,hN.later hbw⟩
 have h3:=H0.out.2.2.2.1
 go_upto_region 2 with fail
 rw[←hV]
 clear hV h3 H0 hA hN c0 c1 c2
 have hbx:∀ i,i<1→∃ cs,V.heap[(fun _=>w.heap.size+3:Nat→Nat) i]?=some (.cells cs 54 (0,0))∧NC3 cs:=fun i hi=>⟨_,H1.out.2.2.2.1,_,_,_,_,_,rfl⟩
 go_upto_region 3 with fail
 refine q_region follows_mixed [0,1,2,3] [4] [12,13,14,15] [[],[],[1],[0,2]] [[3]] [3] (fun _=>7) (fun _=>w.heap.size+3) (w.heap.size+3) 54 NC3 3 V _ [isV (.agg #[.bool s0,.slice ao0 n0 cp0,.int .i64 e0]),isV (.int .i64 k),isD (tT),isD (tx)] (by kernel_rfl) ⟨isV_stays _,isV_stays _,isD_stays _,isD_stays _,trivial⟩ ⟨isV_rows _ _ _,isV_rows _ _ _,isD_rows3 _,isD_rows3 _,trivial⟩ (by show ∀ s ∈ [12,13,14,15],s<30;decide) ?_ ?_ Tryz.info54 ?_ ?_ ?_ ?_ (by have:=H1.out.2.2.2.2.1;omega) ?_
 ·intro i hi U u h
  obtain rfl:i=0:=Nat.lt_one_iff.1 hi
  obtain⟨s9,ao9,n9,cp9,e9,rfl⟩:=DN.shape (show DN U u _ from h)
  exact⟨_,rfl,rfl,⟨_,_,_,_,_,rfl⟩,one3 rfl rfl⟩
 ·intro j hj o ho act U hK hoth hdep hrd
  have hj':j<4:=hj
  have t3':act.tmps[(3:Nat)]?=some (Value.pointer (some ⟨w.heap.size,0,none⟩)):=(hoth 3 (by decide)).trans rfl
  have t4':act.tmps[(4:Nat)]?=some (Value.pointer (some ⟨w.heap.size+1,0,none⟩)):=(hoth 4 (by decide)).trans rfl
  have t7':act.tmps[(7:Nat)]?=some (Value.pointer (some ⟨w.heap.size+3,0,none⟩)):=(hoth 7 (by decide)).trans rfl
  have t2':act.tmps[(2:Nat)]?=some (Value.int .i64 k):=(hoth 2 (by decide)).trans rfl
  have hs:=H1.out.2.2.2.2.1
  have dA:U.heap[w.heap.size]?=some (.cells #[.bool s0,.slice ao0 n0 cp0,.int .i64 e0] 54 (0,0)):=(hK.keep w.heap.size (by omega) (fun i hi=>by show w.heap.size≠w.heap.size+3;omega)).trans H1.out.1
  have d3:=(box_cells29 dA).1
  rcases(by omega:j=0∨j=1∨j=2∨j=3)with rfl|rfl|rfl|rfl
  ·obtain rfl:=Option.some.inj ho
   exact .inl ⟨rfl,owp_ldD rfl t3' d3.1 d3.2.1 d3.2.2 ⟨_,rfl,rfl,Below.refl _ _⟩⟩
  ·obtain rfl:=Option.some.inj ho
   exact .inl ⟨rfl,owp_move rfl t2' ⟨_,rfl,rfl,Below.refl _ _⟩⟩
  ·obtain rfl:=Option.some.inj ho
   have y1:act.tmps[(13:Nat)]?=_:=dV (hdep 1 (by simp[dL])) rfl
   refine .inl ⟨rfl,owp_call rfl (enters Tryz.func38 (by kernel_rfl) (by kernel_rfl)) (vs:=#[.int .i64 k]) (by simp[eval_get y1]) ?_⟩
   refine(kT.out U).mono ?_
   rintro r w' ⟨s9,ao9,n9,cp9,e9,rfl,hA9,hb'⟩
   exact⟨_,rfl,_,rfl,hA9,hb'⟩
  ·obtain rfl:=Option.some.inj ho
   have y0:act.tmps[(12:Nat)]?=_:=dV (hdep 0 (by simp[dL])) rfl
   obtain⟨u2,y20,v2⟩:=hdep 2 (by simp[dL])
   have y2:act.tmps[(14:Nat)]?=_:=y20
   refine .inl ⟨rfl,owp_call rfl (enters Tryz.func39 (by kernel_rfl) (by kernel_rfl)) (vs:=#[.agg #[.bool s0,.slice ao0 n0 cp0,.int .i64 e0],u2]) (by simp[eval_get y0,eval_get y2]) ?_⟩
   refine(kM.out U _ _ (H1.out.2.2.2.2.2.2.1.keepN hK hbx) v2).mono ?_
   rintro r w' ⟨s9,ao9,n9,cp9,e9,rfl,hA9,hb'⟩
   exact⟨_,rfl,_,rfl,hA9,hb'⟩
 ·intro i hi
  obtain rfl:i=0:=Nat.lt_one_iff.1 hi
  exact⟨_,rfl,rfl⟩
 ·intro i hi
  exact⟨rfl,by decide⟩
 ·intro i hi
  exact⟨by show w.heap.size+3≤w.heap.size+3;omega,_,H1.out.2.2.2.1,rfl,_,_,_,_,_,rfl⟩
 ·intro i i' hi hi' _
  exact(Nat.lt_one_iff.1 hi).trans (Nat.lt_one_iff.1 hi').symm
 ·intro u U hK hu hcs
  obtain⟨csa,ya,z9⟩:=hcs 0 (by decide)
  have q9:DN U (u 3) _:=hu 3 (by show 3<4;decide)
  have ya':u 3=.agg csa:=ya
  rw[ya'] at q9
  obtain⟨s9,ao9,n9,cp9,e9,h9⟩:=DN.shape q9
  obtain rfl:=Value.agg.inj h9
  clear hu hcs ya ya'
  simp only[putL,show List.range 4 = [0,1,2,3] from rfl,List.length_cons,List.length_nil,List.getD_cons_zero,List.getD_cons_succ,List.map_cons,List.map_nil,List.cons_append,List.nil_append,List.foldl_cons,List.foldl_nil,Nat.reduceLT,Nat.reduceMod,Nat.reduceDiv,Nat.reduceMul,Nat.reduceAdd,Nat.reduceEqDiff,reduceIte,Nat.one_ne_zero,Act.put,List.setIfInBounds_toArray,List.set_cons_zero,List.set_cons_succ]
  have hs:=H1.out.2.2.2.2.1
  have H2:Hid (NbQ U (w.heap.size+3) s9 ao9 n9 cp9 e9 tx∧NbQ U (w.heap.size+1) s1 ao1 n1 cp1 e1 tn∧U.heap[w.heap.size+1+1]?=some (.cells #[.bool false,.slice none 0 0,.int .i64 0] 54 (0,0))∧Bw w U):=⟨⟨z9,q9⟩,⟨(hK.keep _ (by omega) (fun i hi=>by show w.heap.size+1≠w.heap.size+3;omega)).trans H1.out.2.1,H1.out.2.2.2.2.2.2.2.keepN hK hbx⟩,(hK.keep _ (by omega) (fun i hi=>by show w.heap.size+1+1≠w.heap.size+3;omega)).trans H1.out.2.2.1,H1.out.2.2.2.2.2.1.trans (hK.below.mono (by omega))⟩
  clear hs hK z9 q9 H1 h9
  obtain⟨⟨c0,c1,c2⟩,-⟩:=box_cells29 H2.out.1.1
  obtain⟨⟨d0,d1,d2⟩,-⟩:=box_cells29 H2.out.2.1.1
  have q1:=kL.out U _ _ H2.out.1.2 H2.out.2.1.2
  go_wp2_with fail
  refine q1.mono ?_
  rintro r w2 ⟨s5,ao5,n5,cp5,e5,rfl,hd2,hb2⟩
  obtain⟨V2,hV2⟩:∃ V2,V2=w2.alloc (.cells #[.bool s5,.slice ao5 n5 cp5,.int .i64 e5] 54):=⟨_,rfl⟩
  obtain⟨gd,hgd⟩:∃ gd,gd=w2.heap.size:=⟨_,rfl⟩
  have H3:Hid (NbQ V2 gd s5 ao5 n5 cp5 e5 td∧V2.heap[w.heap.size+1+1]?=some (.cells #[.bool false,.slice none 0 0,.int .i64 0] 54 (0,0))∧Bw w V2):=by
   have hbV:Bw w2 V2:=by rw[hV2];exact(Below.refl _ _).alloc (Nat.le_refl _) _
   have hb:=hb2.trans (hbV.mono hb2.size)
   exact⟨⟨by rw[hV2,hgd];exact heap_alloc_new _ _,hd2.later hbV⟩,box_later H2.out.2.2.1 hb (lt_of_box H2.out.2.2.1),H2.out.2.2.2.trans (hb.mono H2.out.2.2.2.size)⟩
  clear q1 hd2 hb2 H2 c0 c1 c2 d0 d1 d2
  go_upto_region 6 with fail
  rw[←hV2,←hgd]
  clear hV2 hgd
  obtain⟨⟨c0,c1,c2⟩,-⟩:=box_cells29 H3.out.1.1
  have q1:=kS.out V2 _ H3.out.1.2
  go_wp2_with fail
  refine q1.mono ?_
  rintro r w3 ⟨rfl,hb3⟩
  have H4:Hid (NbQ w3 gd s5 ao5 n5 cp5 e5 td∧w3.heap[w.heap.size+1+1]?=some (.cells #[.bool false,.slice none 0 0,.int .i64 0] 54 (0,0))∧Bw w w3):=⟨H3.out.1.later hb3,box_later H3.out.2.1 hb3 (lt_of_box H3.out.2.1),H3.out.2.2.trans (hb3.mono H3.out.2.2.size)⟩
  clear q1 hb3 H3 c0 c1 c2
  obtain⟨⟨c0,c1,c2⟩,-⟩:=box_cells29 H4.out.1.1
  by_cases hs:sg<0
  ·have q1:=kN.out hs w3 _ H4.out.1.2
   go_wp2_with fail
   refine q1.mono ?_
   rintro r w4 ⟨s6,ao6,n6,cp6,e6,rfl,hd4,hb4⟩
   have H5:Hid (w4.heap[w.heap.size+1+1]?=some (.cells #[.bool false,.slice none 0 0,.int .i64 0] 54 (0,0))∧Bw w w4∧DN w4 (.agg #[.bool s6,.slice ao6 n6 cp6,.int .i64 e6]) tR):=⟨box_later H4.out.2.1 hb4 (lt_of_box H4.out.2.1),H4.out.2.2.trans (hb4.mono H4.out.2.2.size),hd4⟩
   clear q1 hd4 hb4 H4 c0 c1 c2
   obtain⟨⟨d0,d1,d2⟩,f0,f1,f2⟩:=box_cells29 H5.out.1
   go_wp2_with fail
   refine bodyPost_ret (results_cell_row rfl _ _ (w.heap.size+1+1) 54 #[.bool s6,.slice ao6 n6 cp6,.int .i64 e6] (0,0) _ rfl (store3_29 _ _ _ H5.out.1) Tryz.underlying54 rfl Tryz.info54) rfl ?_
   exact⟨_,_,_,_,_,rfl,H5.out.2.2.storeQ H5.out.1 _ _ _,below_store3 H5.out.2.1 (by omega) _ _ _⟩
  ·obtain⟨⟨d0,d1,d2⟩,f0,f1,f2⟩:=box_cells29 H4.out.2.1
   have hR:=kR.out (by omega)
   subst hR
   go_wp2_with fail
   refine bodyPost_ret (results_cell_row rfl _ _ (w.heap.size+1+1) 54 #[.bool s5,.slice ao5 n5 cp5,.int .i64 e5] (0,0) _ rfl (store3_29 _ _ _ H4.out.2.1) Tryz.underlying54 rfl Tryz.info54) rfl ?_
   exact⟨_,_,_,_,_,rfl,H4.out.1.2.storeQ H4.out.2.1 _ _ _,below_store3 H4.out.2.2 (by omega) _ _ _⟩
theorem d4far_n (s0:Bool) (ao0:Option Addr) (n0 cp0:Nat) (e0:Int) (s1:Bool) (ao1:Option Addr) (n1 cp1:Nat) (e1:Int) (k sg:Int) (ta tn tT tx td tR:Bool×Nat×Int) (w:World) (hA:DN w (.agg #[.bool s0,.slice ao0 n0 cp0,.int .i64 e0]) ta) (hN:DN w (.agg #[.bool s1,.slice ao1 n1 cp1,.int .i64 e1]) tn) (hk:¬ 0≤k) (hwk:IntKind.i64.wrap (-k) = -k)
  (kT:Hid (∀ W,Calls Tryz.prog 38 #[.int .i64 (-k)] W fun r w'=>OutQ W tT r w'))
  (kM:Hid (∀ W X Y,DN W X tn→DN W Y tT→Calls Tryz.prog 39 #[X,Y] W fun r w'=>OutQ W tx r w'))
  (kS:Hid (∀ W X,DN W X td→Calls Tryz.prog 47 #[X] W fun r w'=>r=.returned (.int .i64 sg)∧Bw W w'))
  (kL:Hid (∀ W X Y,DN W X ta→DN W Y tx→Calls Tryz.prog 45 #[X,Y] W fun r w'=>OutQ W td r w'))
  (kN:Hid (sg<0→∀ W X,DN W X td→Calls Tryz.prog 111 #[X] W fun r w'=>OutQ W tR r w')) (kR:Hid (¬ sg<0→tR=td)) :
  Calls Tryz.prog 85 #[.agg #[.bool s0,.slice ao0 n0 cp0,.int .i64 e0],.agg #[.bool s1,.slice ao1 n1 cp1,.int .i64 e1],.int .i64 k] w fun r w'=>OutQ w tR r w':=by
 obtain⟨W,hW⟩:∃ W,W=((w.alloc (.cells #[.bool s0,.slice ao0 n0 cp0,.int .i64 e0] 54)).alloc (.cells #[.bool s1,.slice ao1 n1 cp1,.int .i64 e1] 54)).alloc (.cells #[.bool false,.slice none 0 0,.int .i64 0] 54):=⟨_,rfl⟩
 have H0:Hid (W.heap[w.heap.size]?=some (.cells #[.bool s0,.slice ao0 n0 cp0,.int .i64 e0] 54 (0,0))∧W.heap[w.heap.size+1]?=some (.cells #[.bool s1,.slice ao1 n1 cp1,.int .i64 e1] 54 (0,0))∧W.heap[w.heap.size+1+1]?=some (.cells #[.bool false,.slice none 0 0,.int .i64 0] 54 (0,0))∧W.heap.size=w.heap.size+3∧Bw w W):=by
  obtain⟨y1,y2,y3,y4⟩:=three_new _ _ _ hW
  exact⟨y1,y2,y3,by rw[hW];simp,y4⟩
 obtain⟨⟨c0,c1,c2⟩,-⟩:=box_cells29 H0.out.1
 go_enter Tryz.func85,Tryz.ntmps85
 go_upto_region 1 with fail
 rw[←hW]
 clear hW
 obtain⟨V,hV⟩:∃ V,V=W.alloc (.cells #[.bool s0,.slice ao0 n0 cp0,.int .i64 e0] 54):=⟨_,rfl⟩
 have H1:Hid (V.heap[w.heap.size]?=some (.cells #[.bool s0,.slice ao0 n0 cp0,.int .i64 e0] 54 (0,0))∧V.heap[w.heap.size+1]?=some (.cells #[.bool s1,.slice ao1 n1 cp1,.int .i64 e1] 54 (0,0))∧V.heap[w.heap.size+1+1]?=some (.cells #[.bool false,.slice none 0 0,.int .i64 0] 54 (0,0))∧V.heap[w.heap.size+3]?=some (.cells #[.bool s0,.slice ao0 n0 cp0,.int .i64 e0] 54 (0,0))∧V.heap.size=w.heap.size+4∧Bw w V∧DN V (.agg #[.bool s0,.slice ao0 n0 cp0,.int .i64 e0]) ta∧DN V (.agg #[.bool s1,.slice ao1 n1 cp1,.int .i64 e1]) tn):=by
  have hb:Bw W V:=by rw[hV];exact(Below.refl _ _).alloc (Nat.le_refl _) _
  obtain⟨y1,y2,y3,y4,y5⟩:=H0.out
  have h6:V.heap[W.heap.size]?=some (.cells #[.bool s0,.slice ao0 n0 cp0,.int .i64 e0] 54 (0,0)):=by rw[hV];exact heap_alloc_new _ _
  rw[y4] at h6
  have hbw:=y5.trans (hb.mono y5.size)
  exact⟨box_later y1 hb (lt_of_box y1),box_later y2 hb (lt_of_box y2),box_later y3 hb (lt_of_box y3),h6,by rw[hV];simp;omega,hbw,hA.later hbw,hN.later hbw⟩
 have h3:=H0.out.2.2.2.1
 go_upto_region 2 with fail
 rw[←hV]
 clear hV h3 H0 hA hN c0 c1 c2
 have hbx:∀ i,i<1→∃ cs,V.heap[(fun _=>w.heap.size+1:Nat→Nat) i]?=some (.cells cs 54 (0,0))∧NC3 cs:=fun i hi=>⟨_,H1.out.2.1,_,_,_,_,_,rfl⟩
 go_upto_region 4 with fail
 refine q_region follows_mixed [0,1,2,3,4] [5] [16,17,18,19,20] [[],[],[1],[2],[0,3]] [[0,4]] [4] (fun _=>4) (fun _=>w.heap.size+1) (w.heap.size+1) 54 NC3 3 V _ [isV (.agg #[.bool s1,.slice ao1 n1 cp1,.int .i64 e1]),isV (.int .i64 k),isV (.int .i64 (-k)),isD (tT),isD (tx)] (by kernel_rfl) ⟨isV_stays _,isV_stays _,isV_stays _,isD_stays _,isD_stays _,trivial⟩ ⟨isV_rows _ _ _,isV_rows _ _ _,isV_rows _ _ _,isD_rows3 _,isD_rows3 _,trivial⟩ (by show ∀ s ∈ [16,17,18,19,20],s<30;decide) ?_ ?_ Tryz.info54 ?_ ?_ ?_ ?_ (by have:=H1.out.2.2.2.2.1;omega) ?_
 ·intro i hi U u h
  obtain rfl:i=0:=Nat.lt_one_iff.1 hi
  obtain⟨s9,ao9,n9,cp9,e9,rfl⟩:=DN.shape (show DN U u _ from h)
  exact⟨_,rfl,rfl,⟨_,_,_,_,_,rfl⟩,one3 rfl rfl⟩
 ·intro j hj o ho act U hK hoth hdep hrd
  have hj':j<5:=hj
  have t3':act.tmps[(3:Nat)]?=some (Value.pointer (some ⟨w.heap.size,0,none⟩)):=(hoth 3 (by decide)).trans rfl
  have t4':act.tmps[(4:Nat)]?=some (Value.pointer (some ⟨w.heap.size+1,0,none⟩)):=(hoth 4 (by decide)).trans rfl
  have t7':act.tmps[(7:Nat)]?=some (Value.pointer (some ⟨w.heap.size+3,0,none⟩)):=(hoth 7 (by decide)).trans rfl
  have t2':act.tmps[(2:Nat)]?=some (Value.int .i64 k):=(hoth 2 (by decide)).trans rfl
  rcases(by omega:j=0∨j=1∨j=2∨j=3∨j=4)with rfl|rfl|rfl|rfl|rfl
  ·obtain rfl:=Option.some.inj ho
   have d4:=(box_cells29 ((hrd 0 (by decide) (by simp[dL])).trans H1.out.2.1)).1
   exact .inl ⟨rfl,owp_ldD rfl t4' d4.1 d4.2.1 d4.2.2 ⟨_,rfl,rfl,Below.refl _ _⟩⟩
  ·obtain rfl:=Option.some.inj ho
   exact .inl ⟨rfl,owp_move rfl t2' ⟨_,rfl,rfl,Below.refl _ _⟩⟩
  ·obtain rfl:=Option.some.inj ho
   have y1:act.tmps[(17:Nat)]?=_:=dV (hdep 1 (by simp[dL])) rfl
   exact .inl ⟨rfl,owp_run1 (w':=U) (by simp[execOp,y1,eval_cst,go_sem,hwk]) ⟨_,rfl,rfl,Below.refl _ _⟩⟩
  ·obtain rfl:=Option.some.inj ho
   have y2:act.tmps[(18:Nat)]?=_:=dV (hdep 2 (by simp[dL])) rfl
   refine .inl ⟨rfl,owp_call rfl (enters Tryz.func38 (by kernel_rfl) (by kernel_rfl)) (vs:=#[.int .i64 (-k)]) (by simp[eval_get y2]) ?_⟩
   refine(kT.out U).mono ?_
   rintro r w' ⟨s9,ao9,n9,cp9,e9,rfl,hA9,hb'⟩
   exact⟨_,rfl,_,rfl,hA9,hb'⟩
  ·obtain rfl:=Option.some.inj ho
   have y0:act.tmps[(16:Nat)]?=_:=dV (hdep 0 (by simp[dL])) rfl
   obtain⟨u3,y30,v3⟩:=hdep 3 (by simp[dL])
   have y3:act.tmps[(19:Nat)]?=_:=y30
   refine .inl ⟨rfl,owp_call rfl (enters Tryz.func39 (by kernel_rfl) (by kernel_rfl)) (vs:=#[.agg #[.bool s1,.slice ao1 n1 cp1,.int .i64 e1],u3]) (by simp[eval_get y0,eval_get y3]) ?_⟩
   refine(kM.out U _ _ (H1.out.2.2.2.2.2.2.2.keepN hK hbx) v3).mono ?_
   rintro r w' ⟨s9,ao9,n9,cp9,e9,rfl,hA9,hb'⟩
   exact⟨_,rfl,_,rfl,hA9,hb'⟩
 ·intro i hi
  obtain rfl:i=0:=Nat.lt_one_iff.1 hi
  exact⟨_,rfl,rfl⟩
 ·intro i hi
  exact⟨rfl,by decide⟩
 ·intro i hi
  exact⟨by show w.heap.size+1≤w.heap.size+1;omega,_,H1.out.2.1,rfl,_,_,_,_,_,rfl⟩
 ·intro i i' hi hi' _
  exact(Nat.lt_one_iff.1 hi).trans (Nat.lt_one_iff.1 hi').symm
 ·intro u U hK hu hcs
  obtain⟨csa,ya,z9⟩:=hcs 0 (by decide)
  have q9:DN U (u 4) _:=hu 4 (by show 4<5;decide)
  have ya':u 4=.agg csa:=ya
  rw[ya'] at q9
  obtain⟨s9,ao9,n9,cp9,e9,h9⟩:=DN.shape q9
  obtain rfl:=Value.agg.inj h9
  clear hu hcs ya ya'
  simp only[putL,show List.range 5 = [0,1,2,3,4] from rfl,List.length_cons,List.length_nil,List.getD_cons_zero,List.getD_cons_succ,List.map_cons,List.map_nil,List.cons_append,List.nil_append,List.foldl_cons,List.foldl_nil,Nat.reduceLT,Nat.reduceMod,Nat.reduceDiv,Nat.reduceMul,Nat.reduceAdd,Nat.reduceEqDiff,reduceIte,Nat.one_ne_zero,Act.put,List.setIfInBounds_toArray,List.set_cons_zero,List.set_cons_succ]
  have hs:=H1.out.2.2.2.2.1
  have H2:Hid (NbQ U (w.heap.size+3) s0 ao0 n0 cp0 e0 ta∧NbQ U (w.heap.size+1) s9 ao9 n9 cp9 e9 tx∧U.heap[w.heap.size+1+1]?=some (.cells #[.bool false,.slice none 0 0,.int .i64 0] 54 (0,0))∧Bw w U):=⟨⟨(hK.keep _ (by omega) (fun i hi=>by show w.heap.size+3≠w.heap.size+1;omega)).trans H1.out.2.2.2.1,H1.out.2.2.2.2.2.2.1.keepN hK hbx⟩,⟨z9,q9⟩,(hK.keep _ (by omega) (fun i hi=>by show w.heap.size+1+1≠w.heap.size+1;omega)).trans H1.out.2.2.1,H1.out.2.2.2.2.2.1.trans (hK.below.mono (by omega))⟩
  clear hs hK z9 q9 H1 h9
  obtain⟨⟨c0,c1,c2⟩,-⟩:=box_cells29 H2.out.1.1
  obtain⟨⟨d0,d1,d2⟩,-⟩:=box_cells29 H2.out.2.1.1
  have q1:=kL.out U _ _ H2.out.1.2 H2.out.2.1.2
  go_wp2_with fail
  refine q1.mono ?_
  rintro r w2 ⟨s5,ao5,n5,cp5,e5,rfl,hd2,hb2⟩
  obtain⟨V2,hV2⟩:∃ V2,V2=w2.alloc (.cells #[.bool s5,.slice ao5 n5 cp5,.int .i64 e5] 54):=⟨_,rfl⟩
  obtain⟨gd,hgd⟩:∃ gd,gd=w2.heap.size:=⟨_,rfl⟩
  have H3:Hid (NbQ V2 gd s5 ao5 n5 cp5 e5 td∧V2.heap[w.heap.size+1+1]?=some (.cells #[.bool false,.slice none 0 0,.int .i64 0] 54 (0,0))∧Bw w V2):=by
   have hbV:Bw w2 V2:=by rw[hV2];exact(Below.refl _ _).alloc (Nat.le_refl _) _
   have hb:=hb2.trans (hbV.mono hb2.size)
   exact⟨⟨by rw[hV2,hgd];exact heap_alloc_new _ _,hd2.later hbV⟩,box_later H2.out.2.2.1 hb (lt_of_box H2.out.2.2.1),H2.out.2.2.2.trans (hb.mono H2.out.2.2.2.size)⟩
  clear q1 hd2 hb2 H2 c0 c1 c2 d0 d1 d2
  go_upto_region 6 with fail
  rw[←hV2,←hgd]
  clear hV2 hgd
  obtain⟨⟨c0,c1,c2⟩,-⟩:=box_cells29 H3.out.1.1
  have q1:=kS.out V2 _ H3.out.1.2
  go_wp2_with fail
  refine q1.mono ?_
  rintro r w3 ⟨rfl,hb3⟩
  have H4:Hid (NbQ w3 gd s5 ao5 n5 cp5 e5 td∧w3.heap[w.heap.size+1+1]?=some (.cells #[.bool false,.slice none 0 0,.int .i64 0] 54 (0,0))∧Bw w w3):=⟨H3.out.1.later hb3,box_later H3.out.2.1 hb3 (lt_of_box H3.out.2.1),H3.out.2.2.trans (hb3.mono H3.out.2.2.size)⟩
  clear q1 hb3 H3 c0 c1 c2
  obtain⟨⟨c0,c1,c2⟩,-⟩:=box_cells29 H4.out.1.1
  by_cases hs:sg<0
  ·have q1:=kN.out hs w3 _ H4.out.1.2
   go_wp2_with fail
   refine q1.mono ?_
   rintro r w4 ⟨s6,ao6,n6,cp6,e6,rfl,hd4,hb4⟩
   have H5:Hid (w4.heap[w.heap.size+1+1]?=some (.cells #[.bool false,.slice none 0 0,.int .i64 0] 54 (0,0))∧Bw w w4∧DN w4 (.agg #[.bool s6,.slice ao6 n6 cp6,.int .i64 e6]) tR):=⟨box_later H4.out.2.1 hb4 (lt_of_box H4.out.2.1),H4.out.2.2.trans (hb4.mono H4.out.2.2.size),hd4⟩
   clear q1 hd4 hb4 H4 c0 c1 c2
   obtain⟨⟨d0,d1,d2⟩,f0,f1,f2⟩:=box_cells29 H5.out.1
   go_wp2_with fail
   refine bodyPost_ret (results_cell_row rfl _ _ (w.heap.size+1+1) 54 #[.bool s6,.slice ao6 n6 cp6,.int .i64 e6] (0,0) _ rfl (store3_29 _ _ _ H5.out.1) Tryz.underlying54 rfl Tryz.info54) rfl ?_
   exact⟨_,_,_,_,_,rfl,H5.out.2.2.storeQ H5.out.1 _ _ _,below_store3 H5.out.2.1 (by omega) _ _ _⟩
  ·obtain⟨⟨d0,d1,d2⟩,f0,f1,f2⟩:=box_cells29 H4.out.2.1
   have hR:=kR.out (by omega)
   subst hR
   go_wp2_with fail
   refine bodyPost_ret (results_cell_row rfl _ _ (w.heap.size+1+1) 54 #[.bool s5,.slice ao5 n5 cp5,.int .i64 e5] (0,0) _ rfl (store3_29 _ _ _ H4.out.2.1) Tryz.underlying54 rfl Tryz.info54) rfl ?_
   exact⟨_,_,_,_,_,rfl,H4.out.1.2.storeQ H4.out.2.1 _ _ _,below_store3 H4.out.2.2 (by omega) _ _ _⟩
theorem kU_eqN:pU 1074=kU:=rfl
theorem tn_p (n:Nat):tnO (n:Int)=10^n∧tnU (n:Int)=1:=by
 unfold tnO tnU
 rw[Int.toNat_natCast,show(-(n:Int)).toNat=0 by omega]
 exact⟨rfl,rfl⟩
theorem tn_n (n:Nat):tnO (-(n:Int))=(if n=0 then 1 else 1)∧tnU (-(n:Int))=10^n:=by
 unfold tnO tnU
 rw[show(- -(n:Int)).toNat=n by omega,show(-(n:Int)).toNat=0 by omega]
 exact⟨by split <;> rfl,rfl⟩
theorem tn_n1 (n:Nat):tnO (-(n:Int))=1:=by have:=(tn_n n).1;rw[this];split <;> rfl
theorem nat_lt {A b:Nat} (h:A<2^b):(((A:Nat):Int)).natAbs<2^b:=by rw[Int.natAbs_natCast];exact h
theorem ten_ltN (n:Nat):10^n<2^(4*n+1):=by have:=ten_ltQ n;rw[Int.natAbs_natCast] at this;exact this
theorem mulN {a b k l:Nat} (h1:a<2^k) (h2:b<2^l):a*b<2^(k+l):=by
 have:=abs_mul (nat_lt h1) (nat_lt h2)
 rw[←Int.natCast_mul,Int.natAbs_natCast] at this
 exact this
theorem d4scaled {A:Nat} {k:Int} {X:Value} {w:World} (hA:A<2^bU) (hk : -2000≤k∧k≤2000) (hX:DN w X (un (A:Int) 1074)) :
  Calls Tryz.prog 82 #[X,.int .i64 k] w fun r w'=>OutS w (un ((scF A k:Nat):Int) 0) (scE A k) r w':=by
 obtain⟨s,ao,n,cp,e,rfl⟩:=hX.shape
 have hb:=bU_eq
 by_cases h:0≤k
 ·obtain⟨m,rfl⟩:∃ m:Nat,k=(m:Int):=⟨k.toNat,by omega⟩
  obtain⟨t1,t2⟩:=tn_p m
  refine d4scaled_p s ao n cp e m _ (un ((10^m:Nat):Int) 0) (un ((A*10^m:Nat):Int) 1074) _ _ w hX h (fun W=>(d2ten m W (by omega)).mono fun r w' h=>outQ h) ?_ ?_
  ·intro W X Y hX hY
   have h:=dtimesU (nat_lt hA) (nat_lt (ten_ltN m)) (by omega) (by omega) hX hY
   rw[←Int.natCast_mul] at h
   exact h.mono fun r w' h=>outQ h
  ·intro W X hX
   have h:=gcutN kU_eqN (mulN hA (ten_ltN m)) (by omega) (by omega) hX
   unfold scF scE
   rw[t1,t2,Nat.one_mul]
   exact h.mono fun r w' h=>outS h
 ·obtain⟨m,rfl⟩:∃ m:Nat,k = -(m:Int):=⟨k.natAbs,by omega⟩
  have t2:=(tn_n m).2
  have t1:=tn_n1 m
  refine d4scaled_n s ao n cp e _ _ (un ((10^m:Nat):Int) 0) _ _ w hX h (by rw[IntKind.wrap_i64];omega) ?_ ?_
  ·intro W
   rw[Int.neg_neg]
   exact(d2ten m W (by omega)).mono fun r w' h=>outQ h
  ·intro W X Y hX hY
   have h:=goverN kU_eqN (Nat.pow_pos (by decide)) hA (ten_ltN m) (by omega) (by omega) (by omega) hX hY
   unfold scF scE
   rw[t1,t2,Nat.mul_one]
   exact h.mono fun r w' h=>outS h
def frD (A N:Nat) (k:Int):Int:=((A*tnO k:Nat):Int) - ((N*(tnU k*kU):Nat):Int)
theorem sgQ {Z:Int} {p b:Nat} (h:Z.natAbs<2^b) (hb:b≤90000) (hp:p≤90000) {W:World} {X:Value} (hX:DN W X (un Z p)) :
  Calls Tryz.prog 47 #[X] W fun r w'=>r=.returned (.int .i64 (if Z=0 then 0 else if Z<0 then -1 else 1))∧Bw W w':=by
 have g:=un_gn (p:=p) h hb hp
 obtain⟨ao,cap,rfl,hA⟩:=hX
 have k:=rsgn (na:=(un Z p).1) (ua:=ao) (un:=dlen (un Z p).2.1) (uc:=cap) (ea:=(un Z p).2.2) (w:=W) (by have:=g.2.1;omega)
 have e:(if dlen (un Z p).2.1=0 then(0:Int)else if(un Z p).1 then -1 else 1)=(if Z=0 then 0 else if Z<0 then -1 else 1):=by
  have h1:=(un_sign (Z:=Z) (p:=p)).2
  by_cases hz:Z=0
  ·rw[if_pos hz,if_pos (dlen_eq_zero.2 (h1.2 hz))]
  ·rw[if_neg hz,if_neg (fun h=>hz (h1.1 (dlen_eq_zero.1 h)))]
   have e1:(un Z p).1=decide (Z<0):=by unfold un cn;rw[if_neg (show ¬ Z.natAbs=0 by omega)]
   rw[e1]
   by_cases hn:Z<0
   ·rw[if_pos hn,if_pos (decide_eq_true hn)]
   ·rw[if_neg hn,if_neg (by simpa using hn)]
 rw[e] at k
 exact k
theorem d4far {A N b:Nat} {k:Int} {X Y:Value} {w:World} (hA:A<2^bU) (hN:N<2^b) (hb2:b≤20000) (hk : -2000≤k∧k≤2000) (hX:DN w X (un (A:Int) 1074)) (hY:DN w Y (un (N:Int) 0)) :
  Calls Tryz.prog 85 #[X,Y,.int .i64 k] w fun r w'=>OutQ w (un (((frD A N k).natAbs:Nat):Int) 1074) r w':=by
 obtain⟨s,ao,n,cp,e,rfl⟩:=hX.shape
 obtain⟨s2,ao2,n2,cp2,e2,rfl⟩:=hY.shape
 have hb:=bU_eq
 have hkU:=kU_lt
 obtain⟨D,hD⟩:∃ D,D=frD A N k:=⟨_,rfl⟩
 rw[←hD]
 have key:∀ {P Q c:Nat},P<2^c→Q<2^c→c≤80000→D=((P:Nat):Int) - ((Q:Nat):Int)→D.natAbs<2^(c+1)∧c+1≤90000:=by
  intro P Q c h1 h2 h3 h4
  rw[Nat.pow_succ]
  exact⟨by omega,by omega⟩
 have hR:¬ (if D=0 then(0:Int)else if D<0 then -1 else 1)<0→un ((D.natAbs:Nat):Int) 1074=un D 1074:=fun h=>by
  have:¬ D<0:=fun h9=>h (by rw[if_neg (by omega),if_pos h9];decide)
  congr 1
  omega
 have hM:(if D=0 then(0:Int)else if D<0 then -1 else 1)<0→∀ W X,DN W X (un D 1074)→Calls Tryz.prog 111 #[X] W fun r w'=>OutQ W (un ((D.natAbs:Nat):Int) 1074) r w':=fun h W X hX=>by
  have h5:D<0:=by
   by_cases h9:D=0
   ·rw[if_pos h9] at h;omega
   ·rw[if_neg h9] at h
    by_cases h8:D<0
    ·exact h8
    ·rw[if_neg h8] at h;omega
  have h6:=gminus hX
  rw[gN_un,show -D=((D.natAbs:Nat):Int) by omega] at h6
  exact h6.mono fun r w' h=>outQ h
 by_cases h:0≤k
 ·obtain⟨m,rfl⟩:∃ m:Nat,k=(m:Int):=⟨k.toNat,by omega⟩
  obtain⟨t1,t2⟩:=tn_p m
  have hP:=mulN hA (ten_ltN m)
  have hQ:=mulN hN hkU
  have eD:D=((A*10^m:Nat):Int) - ((N*kU:Nat):Int):=by rw[hD];unfold frD;rw[t1,t2,Nat.one_mul]
  obtain⟨k1,k2⟩:=key (c:=bU+(4*m+1)+(b+bU)) (Nat.lt_of_lt_of_le hP (Nat.pow_le_pow_right (by decide) (by omega))) (Nat.lt_of_lt_of_le hQ (Nat.pow_le_pow_right (by decide) (by omega))) (by omega) eD
  refine d4far_p s ao n cp e s2 ao2 n2 cp2 e2 m _ _ _ (un ((10^m:Nat):Int) 0) (un ((A*10^m:Nat):Int) 1074) (un D 1074) _ w hX hY h (fun W=>(d2ten m W (by omega)).mono fun r w' h=>outQ h) ?_ (fun W X hX=>sgQ k1 k2 (by omega) hX) ?_ hM hR
  ·intro W X Y hX hY
   have h:=dtimesU (nat_lt hA) (nat_lt (ten_ltN m)) (by omega) (by omega) hX hY
   rw[←Int.natCast_mul] at h
   exact h.mono fun r w' h=>outQ h
  ·intro W X Y hX hY
   rw[un_kU,←Int.natCast_mul] at hY
   have h:=gless (un_gn (p:=1074) (nat_lt hP) (by omega) (by omega)) (un_gn (p:=1074) (nat_lt hQ) (by omega) (by omega)) hX hY
   rw[gD_un,←eD] at h
   exact h.mono fun r w' h=>outQ h
 ·obtain⟨m,rfl⟩:∃ m:Nat,k = -(m:Int):=⟨k.natAbs,by omega⟩
  have t2:=(tn_n m).2
  have t1:=tn_n1 m
  have hP:=mulN hN (ten_ltN m)
  have hQ:=mulN hP hkU
  have eD:D=((A:Nat):Int) - ((N*10^m*kU:Nat):Int):=by rw[hD];unfold frD;rw[t1,t2,Nat.mul_one,Nat.mul_assoc]
  obtain⟨k1,k2⟩:=key (c:=bU+(b+(4*m+1)+bU)) (Nat.lt_of_lt_of_le hA (Nat.pow_le_pow_right (by decide) (by omega))) (Nat.lt_of_lt_of_le hQ (Nat.pow_le_pow_right (by decide) (by omega))) (by omega) eD
  refine d4far_n s ao n cp e s2 ao2 n2 cp2 e2 _ _ _ _ (un ((10^m:Nat):Int) 0) (un ((N*10^m:Nat):Int) 0) (un D 1074) _ w hX hY h (by rw[IntKind.wrap_i64];omega) ?_ ?_ (fun W X hX=>sgQ k1 k2 (by omega) hX) ?_ hM hR
  ·intro W
   rw[Int.neg_neg]
   exact(d2ten m W (by omega)).mono fun r w' h=>outQ h
  ·intro W X Y hX hY
   have h:=dtimes0 (nat_lt hN) (nat_lt (ten_ltN m)) (by omega) (by omega) hX hY
   rw[←Int.natCast_mul] at h
   exact h.mono fun r w' h=>outQ h
  ·intro W X Y hX hY
   rw[un_kU,←Int.natCast_mul] at hY
   have h:=gless (un_gn (p:=1074) (nat_lt hA) (by omega) (by omega)) (un_gn (p:=1074) (nat_lt hQ) (by omega) (by omega)) hX hY
   rw[gD_un,←eD] at h
   exact h.mono fun r w' h=>outQ h
theorem d4odd_1 (s:Bool) (ao:Option Addr) (n cp:Nat) (e:Int) (od:Bool) (w:World) (hn:n≤100000) (hod:(n=0∧od=false)∨(0<n∧(e==0)=od)) :
  Calls Tryz.prog 86 #[.agg #[.bool s,.slice ao n cp,.int .i64 e]] w fun r w'=>r=.returned (.bool od)∧Bw w w':=by
 obtain⟨W,hW⟩:∃ W,W=w.alloc (.cells #[.bool s,.slice ao n cp,.int .i64 e] 54):=⟨_,rfl⟩
 have HW:Hid (Bw w W):=by rw[hW];exact(Below.refl _ _).alloc (Nat.le_refl _) _
 have hc:W.heap[w.heap.size]?=some (.cells #[.bool s,.slice ao n cp,.int .i64 e] 54 (0,0)):=by rw[hW];exact heap_alloc_new _ _
 obtain⟨⟨c0,c1,c2⟩,-⟩:=box_cells29 hc
 clear hc
 go_enter Tryz.func86,Tryz.ntmps86
 go_upto_region 1 with fail
 rw[←hW]
 clear hW
 rcases hod with ⟨rfl,rfl⟩|⟨h0,h1⟩
 ·go_wp2_with fail
  go_ret
  exact⟨rfl,HW.out⟩
 ·have h0':(0:Int)<(n:Int):=by omega
  go_wp2_with fail
  go_ret
  exact⟨rfl,HW.out⟩
theorem d4odd {N b:Nat} {X:Value} {w:World} (hN:N<2^b) (hb:b≤60000) (hX:DN w X (un (N:Int) 0)) :
  Calls Tryz.prog 86 #[X] w fun r w'=>r=.returned (.bool (decide (N % 2=1)))∧Bw w w':=by
 have h1:=dlen_two9 (un_small (p:=0) (nat_lt hN))
 obtain⟨ao,cap,rfl,hA⟩:=hX
 refine d4odd_1 _ ao _ cap _ _ w (by omega) ?_
 by_cases h0:N=0
 ·subst h0
  rw[show un ((0:Nat):Int) 0=(false,0,0)from un_zero 0]
  exact .inl ⟨dlen_zero,rfl⟩
 ·rw[un_pos h0]
  have h3:=tz_spec _ _ (Nat.le_refl _) h0
  have h4:N / 2^tz N≠0:=fun h=>by rw[h,Nat.mul_zero] at h3;omega
  refine .inr ⟨Nat.pos_of_ne_zero (fun h=>h4 (dlen_eq_zero.1 h)),?_⟩
  show(((tz N:Nat):Int)==0)=_
  by_cases ho:N % 2=1
  ·rw[tz_odd ho,decide_eq_true ho]
   rfl
  ·have:=tz_even h0 (by omega)
   rw[decide_eq_false ho,beq_eq_false_iff_ne]
   omega
end Go.Proofs.YtfkaogdmlcdceaaGreatDoor
