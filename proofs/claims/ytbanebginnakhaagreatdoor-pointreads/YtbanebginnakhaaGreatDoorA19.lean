/- Own work: contracts of the program's functions, part 19: DRE DRX DRF DRG DRM DRH DRI DRK. -/
import Derived.Test.YtbanebginnakhaaGreatDoorA18

set_option maxHeartbeats 16000000
set_option maxRecDepth 200000
set_option linter.unusedVariables false
set_option linter.unusedSimpArgs false
namespace Go.Proofs.YtbanebginnakhaaGreatDoor
open Go Go.RowKit Go.Fl64
theorem qP9 (a:Act) (v:Value):a.eval (.const v)=v:=rfl
def BC (U:World) (v:Value) (L:List UInt8):Prop:=∃ ao cap,v=.slice ao L.length cap∧(L ≠ []→∃ g,ao=some ⟨g,0,none⟩∧∀ i (h:i<L.length),U.cell? ⟨g,i,none⟩=some (.int .u8 (L[i].toNat:Int)))
theorem BC.later {U U':World} {v:Value} {L:List UInt8} (h:BC U v L) (hb:Bw U U'):BC U' v L:=by
 obtain⟨ao,cap,h1,h2⟩:=h;refine⟨ao,cap,h1,fun hL=>?_⟩
 obtain⟨g,h3,h4⟩:=h2 hL;exact⟨g,h3,fun i hi=>(hb.cell (World.block_lt_of_cell? _ _ (h4 i hi))).trans (h4 i hi)⟩
theorem OB.bc {w wr:World} {v:Value} {L:List UInt8} (h:OB w wr v L):BC wr v L:=by
 obtain⟨⟨hlen,h|⟨g,cp,cur,rfl,hg1,hg2,hg3,hg4,hg5,hg6⟩⟩,hBB⟩:=h
 ·have hl:=h.2;exact⟨none,0,by rw[h.1,hl],fun hL=>absurd (List.length_eq_zero_iff.1 hl) hL⟩
 ·refine⟨_,_,rfl,fun hL=>⟨g,rfl,fun i hi=>?_⟩⟩
  rw[Lib.cell_of_heap hg2];have h8:(cur.toList.take (L.length*1))[i]?=(Lib.byteCells L)[i]?:=by rw[hg6]
  rw[List.getElem?_take_of_lt (by omega)] at h8
  rw[←Array.getElem?_toList,h8];simp[Lib.byteCells,hi]
theorem yB2 (w:World) (ao:Option Addr) (cap:Nat):(convert 129 9 (.slice ao 0 cap)).run Tryz.prog w=.ok (.string ⟨#[]⟩) w:=by
 cases ao with
 | some a=>exact run_convert_bytes_back (P:=Tryz.prog) w 129 9 5 a cap [] Tryz.underlying129 Tryz.underlying5 Tryz.underlying9 (fun j hj=>absurd hj (Nat.not_lt_zero _))
 | none =>
  rw[run_convert_bytes_string w 129 9 5 none 0 cap Tryz.underlying129 Tryz.underlying5 Tryz.underlying9];rfl
theorem BC.conv {U:World} {v:Value} {L:List UInt8} (h:BC U v L):(convert 129 9 v).run Tryz.prog U=.ok (.string ⟨L.toArray⟩) U:=by
 obtain⟨ao,cap,rfl,h2⟩:=h;by_cases hL:L = []
 ·subst hL;exact yB2 U ao cap
 ·obtain⟨g,rfl,h4⟩:=h2 hL;exact run_convert_bytes_back (P:=Tryz.prog) U 129 9 5 ⟨g,0,none⟩ cap L Tryz.underlying129 Tryz.underlying5 Tryz.underlying9 (fun i hi=>by
   have ea:(⟨g,0,none⟩:Addr).add i=⟨g,i,none⟩:=by simp[Addr.add,eq_comm]
   rw[ea];exact h4 i hi)
def spG (b:Int) (out:List UInt8) (dot:Int):List UInt8→Nat→List UInt8×Int×Nat
 | [],k=>(out,dot,k)
 | c :: r,k=>if c=46∧dot<0 then spG b out out.length r (k+1)else if 0≤dgF c.toNat∧dgF c.toNat<b then spG b (out ++ [c]) dot r (k+1) else(out,dot,k)
theorem xQ (c:Nat) : -1≤dgF c∧dgF c≤15:=by
 unfold dgF;split
 ·omega
 ·split
  ·omega
  ·split <;> omega
theorem zK8 {L:List UInt8} {k:Nat} (h:k<L.length):∃ c:UInt8,L.drop k=c :: L.drop (k+1)∧c.toNat=bL L k:=by
 refine⟨L[k],List.drop_eq_getElem_cons h,?_⟩
 unfold bL;rw[List.getElem?_eq_getElem h];rfl
theorem xM6 (L:List UInt8) (n a:Nat) (b:Int) (w:World) (hn:Hid (n=L.length)) (hL:n≤2000000) (ha:a≤n) :
  Calls Tryz.prog 53 #[.string ⟨L.toArray⟩,.int .i64 a,.int .i64 b] w fun r w'=>r=.returned (.tuple #[.string ⟨(spG b [] (-1) (L.drop a) a).1.toArray⟩,.int .i64 (bhN (spG b [] (-1) (L.drop a) a).1.length (spG b [] (-1) (L.drop a) a).2.1),.int .i64 (spG b [] (-1) (L.drop a) a).2.2])∧Bw w w':=by
 obtain⟨G,hG⟩:∃ G,G=spG b [] (-1) (L.drop a) a:=⟨_,rfl⟩;rw[←hG];have HG0:Hid (spG b [] (-1) (L.drop a) a=G):=hG.symm;clear hG;obtain⟨R,hR⟩:∃ R:ByteArray,R=⟨L.toArray⟩:=⟨_,rfl⟩;have hRs:R.size=n:=by rw[hR,hn.out];rfl
 have hRg:∀ k (h:k<R.size),(R[k]'h).toNat=bL L k:=by subst hR;exact qU0 L
 have HR:Hid (R=⟨L.toArray⟩):=hR;rw[←hR];clear hR;have HRg:Hid (∀ k (h:k<R.size),(R[k]'h).toNat=bL L k):=hRg;clear hRg;obtain⟨i0,hi0,hz0,hz1,hz2⟩:=info_parts yX5
 go_enter Tryz.func53,Tryz.ntmps53
 go_wp2
 go_loopw [1,9,10] (fun v x y wr=>∃ (k:Nat) (out:List UInt8) (dot:Int),k≤n∧v=.int .i64 (k:Nat)∧y=.int .i64 dot ∧ -1≤dot∧dot≤out.length∧out.length≤k∧Hid (OB w wr x out)∧Hid (spG b out dot (L.drop k) k=G)) (fun v _ _ _=>n - (intOf v).toNat)
 case atStart=>exact⟨a,[],-1,ha,rfl,rfl,by decide,by decide,xW5 _,(⟨World.ownsRow_nil ..,xL1 _ _⟩:OB w w _ []),HG0⟩
 case round =>
  obtain⟨k,out,dot,hk,rfl,rfl,hd1,hd2,hok,HO,HF⟩:=hrel;have hol:out.length≤2000000:=by omega
  obtain⟨ao,ca,hsh⟩:=HO.out.shape;subst hsh;have BCV:Hid (BC wr (.slice ao out.length ca) out):=HO.out.bc;have HB1:Hid (Bw w wr):=HO.out.2;have hg2:=HRg.out k;by_cases hkn:k<n
  ·have hii:(k:Int)<(n:Int):=by omega
   have hkR:k<R.size:=by omega
   obtain⟨cb,hcb,hcc⟩:=zK8 (L:=L) (k:=k) (by have:=hn.out;omega)
   obtain⟨c,hc⟩:∃ c,c=bL L k:=⟨_,rfl⟩;rw[←hc] at hcc hg2;have hc256:c<256:=by rw[←hcc];exact cb.toNat_lt
   rw[hcb] at HF;unfold spG at HF;have hwi:IntKind.i64.wrap ((k:Int)+1)=(k:Int)+1:=by rw[xW6];omega
   by_cases h46:c=46∧dot<0
   ·rw[if_pos ⟨by rw[←UInt8.toNat_inj,hcc];exact h46.1,h46.2⟩] at HF
    obtain⟨rfl,hdd⟩:=h46;have HC:Hid (46=bL L k):=hc;clear hc hcc hcb;obtain⟨D,hD⟩:∃ D,D=dgF 46:=⟨_,rfl⟩;have kd:=zJ2 46 wr hc256;rw[←hD] at kd;clear hD
    go_wp2_with (go_at_call 90;refine kd.mono ?_;rintro r w' ⟨rfl,hw⟩;replace hw:=hw.symm;subst hw)
    exact⟨⟨k+1,out,out.length,by omega,by congr 1,rfl,by omega,by omega,by omega,HO,HF⟩,by simp[intOf];omega⟩
   ·rw[if_neg (fun h=>h46 ⟨by rw[←hcc,h.1];rfl,h.2⟩)] at HF
    have hcase:((c:Int)==46&&decide (dot<0))=false:=by
     rw[Bool.and_eq_false_iff];by_cases h:c=46
     ·exact .inr (xL3 (fun h'=>h46 ⟨h,h'⟩))
     ·exact .inl (by rw[xC2];omega)
    have kd:=zJ2 c wr hc256;have hDr : -1≤dgF c∧dgF c≤15:=xQ c;obtain⟨D,hD⟩:∃ D,D=dgF c:=⟨_,rfl⟩;rw[hcc,←hD] at HF;rw[←hD] at kd hDr;have HD46:Hid (c=46→D<0):=(fun e=>by rw[hD,e];decide:c=46→D<0)
    have HC:Hid (c=bL L k∧cb.toNat=c):=⟨hc,hcc⟩;clear hc hcc hcb hD;by_cases hDD:0≤D∧D<b
    ·rw[if_pos hDD] at HF;obtain⟨hD0,hDb⟩:=hDD;have hne:¬ (c:Int)=46:=fun e=>absurd HD46.out (by intro h;have:=h (by omega);omega)
     have HSZ:Hid (w.heap.size≤wr.heap.size):=HO.out.2.size;have HP:Hid (UInt8.ofNat c=cb):=(by rw[←HC.out.2,UInt8.ofNat_toNat]:UInt8.ofNat c=cb)
     go_wp2_with (first|(go_at_call 90;refine kd.mono ?_;rintro r w' ⟨rfl,hw⟩;replace hw:=hw.symm;subst hw)|(at_builtin;refine wpList_append_own _ rfl _ _ 129 rfl w.heap.size 5 i0 (.int .u8 0) 1 1 Tryz.underlying129 hi0 hz0 hz1 hz2 rfl (by decide) _ _ _ rfl (HO.out.1.alloc _) ⟨wr.heap.size,0,none⟩ 1 1 [.int .u8 _] rfl rfl (cell_one_new _ _ _) (by intro u hu;simp at hu;subst hu;rfl) (by unfold maxLen;omega) (by have:=HSZ.out;omega) (by simp;have:=HSZ.out;omega) ?_))
     intro v' w4 hown4 hgrow _;have HFF:=HO.out.push hc256 hown4 hgrow;rw[HP.out] at HFF;have HF3:Hid (OB w w4 v' (out ++ [cb])):=HFF;clear HFF hown4 hgrow
     go_wp2_with fail;exact⟨⟨k+1,out ++ [cb],dot,by omega,by congr 1,rfl,hd1,by simp;omega,by simp;omega,HF3,HF⟩,by simp[intOf];omega⟩
    ·rw[if_neg hDD] at HF;have HG:Hid ((out,dot,k)=G):=HF;have HDD:Hid (¬ (0≤D∧D<b)):=hDD;have H46:Hid (¬ (c=46∧dot<0)):=h46;clear HD46 h46 hDD hDr hcase HF
     go_upto_region 6 with (go_at_call 90;refine kd.mono ?_;rintro r w' ⟨rfl,hw⟩;replace hw:=hw.symm;subst hw)
     go_cut [27] from 28 to 35 (fun v wx=>v=.bool false∧wx=wr)
     case first =>
      by_cases hc46:c=46
      ·have hd3:¬ dot<0:=fun h=>H46.out ⟨hc46,h⟩;subst hc46
       go_wp2_with fail
       go_meet
       exact⟨by simp[hd3],rfl⟩
      ·have hne:¬ (c:Int)=46:=by omega
       go_wp2_with fail
       go_meet
       exact⟨by simp[hne],rfl⟩
     case rest =>
     obtain⟨rfl,hw⟩:=hcut;subst hw
     go_upto_region 8 with fail
     go_cut [38] from 39 to 45 (fun v wx=>v=.bool false∧wx=wc)
     case first =>
      by_cases hD0:0≤D
      ·have hDb:¬ D<b:=fun h=>HDD.out ⟨hD0,h⟩
       go_wp2_with fail
       go_meet
       exact⟨by simp[hDb],rfl⟩
      ·go_wp2_with fail
       go_meet
       exact⟨by simp[hD0],rfl⟩
     case rest =>
     obtain⟨rfl,hw⟩:=hcut;subst hw;clear HDD H46 kd
     go_upto_region 5 with fail;refine qF9 [0,1,2,3,4,5,6,7,8,9] [20,21,22,23,24,25,26,6,7,8] [[],[0],[],[2],[],[3,4],[],[1],[5],[6]] wc _ [isV (.slice ao out.length ca),isV (.string ⟨out.toArray⟩),isV (.slice ao out.length ca),isV (.int .i64 (out.length:Nat)),isV (.int .i64 dot),isV (.int .i64 (bhN out.length dot)),isV (.int .i64 (k:Nat)),isV (.string ⟨out.toArray⟩),isV (.int .i64 (bhN out.length dot)),isV (.int .i64 (k:Nat))] (by kernel_rfl) ⟨qQ2 _,qQ2 _,qQ2 _,qQ2 _,qQ2 _,qQ2 _,qQ2 _,qQ2 _,qQ2 _,qQ2 _,trivial⟩ (by show ∀ s ∈ [20,21,22,23,24,25,26,6,7,8],s<61;decide) ?_ ?_
     ·intro j hj o ho act U hb hoth hdep;have hj':j<10:=hj;have t9':act.tmps[(9:Nat)]?=some (Value.slice ao out.length ca):=(hoth 9 (by decide)).trans rfl
      have t10':act.tmps[(10:Nat)]?=some (Value.int .i64 dot):=(hoth 10 (by decide)).trans rfl
      have t1':act.tmps[(1:Nat)]?=some (Value.int .i64 (k:Nat)):=(hoth 1 (by decide)).trans rfl
      rcases(by omega:j=0∨j=1∨j=2∨j=3∨j=4∨j=5∨j=6∨j=7∨j=8∨j=9)with rfl|rfl|rfl|rfl|rfl|rfl|rfl|rfl|rfl|rfl
      ·obtain rfl:=xL2 ho;exact .inl ⟨rfl,qZ5 rfl t9' ⟨_,rfl,rfl,xL1 _ _⟩⟩
      ·obtain rfl:=xL2 ho;have y0:act.tmps[(20:Nat)]?=_:=dV (hdep 0 (by simp[dL])) rfl
       exact .inl ⟨rfl,qZ7 (w':=U) (by simp[execOp,qZ0 y0,(BCV.out.later hb).conv]) ⟨_,rfl,rfl,xL1 _ _⟩⟩
      ·obtain rfl:=xL2 ho;exact .inl ⟨rfl,qZ5 rfl t9' ⟨_,rfl,rfl,xL1 _ _⟩⟩
      ·obtain rfl:=xL2 ho;have y2:act.tmps[(22:Nat)]?=_:=dV (hdep 2 (by simp[dL])) rfl
       exact .inl ⟨rfl,qZ7 (w':=U) (by simp[execOp,y2,qP9,go_sem]) ⟨_,rfl,rfl,xL1 _ _⟩⟩
      ·obtain rfl:=xL2 ho;exact .inl ⟨rfl,qZ5 rfl t10' ⟨_,rfl,rfl,xL1 _ _⟩⟩
      ·obtain rfl:=xL2 ho;have y3:act.tmps[(23:Nat)]?=_:=dV (hdep 3 (by simp[dL])) rfl
       have y4:act.tmps[(24:Nat)]?=_:=dV (hdep 4 (by simp[dL])) rfl
       refine .inl ⟨rfl,qZ1 rfl (qX2 Tryz.func91 (by kernel_rfl) (by kernel_rfl)) (vs:=#[.int .i64 (out.length:Nat),.int .i64 dot]) (by simp[qZ0 y3,qZ0 y4]) ?_⟩
       refine(zN2 out.length dot U hol ⟨hd1,hd2⟩).mono ?_
       rintro r w' ⟨rfl,hw⟩;replace hw:=hw.symm;subst hw;exact⟨_,rfl,_,rfl,rfl,xL1 _ _⟩
      ·obtain rfl:=xL2 ho;exact .inl ⟨rfl,qZ5 rfl t1' ⟨_,rfl,rfl,xL1 _ _⟩⟩
      ·obtain rfl:=xL2 ho;have y1:act.tmps[(21:Nat)]?=_:=dV (hdep 1 (by simp[dL])) rfl
       exact .inl ⟨rfl,qX3 rfl y1 ⟨_,rfl,rfl,xL1 _ _⟩⟩
      ·obtain rfl:=xL2 ho;have y5:act.tmps[(25:Nat)]?=_:=dV (hdep 5 (by simp[dL])) rfl
       exact .inl ⟨rfl,qX3 rfl y5 ⟨_,rfl,rfl,xL1 _ _⟩⟩
      ·obtain rfl:=xL2 ho;have y6:act.tmps[(26:Nat)]?=_:=dV (hdep 6 (by simp[dL])) rfl
       exact .inl ⟨rfl,qX3 rfl y6 ⟨_,rfl,rfl,xL1 _ _⟩⟩
     ·intro u W9 hb9 hu;have u7:u 7=.string ⟨out.toArray⟩:=hu 7 (by show 7<10;decide)
      have u8:u 8=.int .i64 (bhN out.length dot):=hu 8 (by show 8<10;decide)
      have u9:u 9=.int .i64 (k:Nat):=hu 9 (by show 9<10;decide)
      clear hu;simp only[putL,show List.range 10 = [0,1,2,3,4,5,6,7,8,9] from rfl,List.length_cons,List.length_nil,List.getD_cons_zero,List.getD_cons_succ,List.map_cons,List.map_nil,List.cons_append,List.nil_append,List.foldl_cons,List.foldl_nil,Nat.reduceLT,Nat.reduceMod,Nat.reduceDiv,Nat.reduceMul,Nat.reduceAdd,Nat.reduceEqDiff,reduceIte,Nat.one_ne_zero,Act.put,List.setIfInBounds_toArray,List.set_cons_zero,List.set_cons_succ];rw[u7,u8,u9];clear u7 u8 u9;have HB9:Hid (Bw wc W9):=hb9;clear hb9
      go_wp2;refine xW9 (results_tmp3 rfl _ _ _) rfl ?_;rw[←HG.out];exact⟨rfl,HB1.out.trans (HB9.out.mono HB1.out.size)⟩
  ·obtain rfl:k=n:=by omega
   have hii:¬ (k:Int)<(k:Int):=by omega
   have hdr:L.drop k = []:=List.drop_eq_nil_of_le (by have:=hn.out;omega)
   rw[hdr] at HF;have HG:Hid ((out,dot,k)=G):=HF;clear hdr
   go_upto_region 11 with fail;refine qF9 [0,1,2,3,4,5,6,7,8,9] [54,55,56,57,58,59,60,6,7,8] [[],[0],[],[2],[],[3,4],[],[1],[5],[6]] wr _ [isV (.slice ao out.length ca),isV (.string ⟨out.toArray⟩),isV (.slice ao out.length ca),isV (.int .i64 (out.length:Nat)),isV (.int .i64 dot),isV (.int .i64 (bhN out.length dot)),isV (.int .i64 (k:Nat)),isV (.string ⟨out.toArray⟩),isV (.int .i64 (bhN out.length dot)),isV (.int .i64 (k:Nat))] (by kernel_rfl) ⟨qQ2 _,qQ2 _,qQ2 _,qQ2 _,qQ2 _,qQ2 _,qQ2 _,qQ2 _,qQ2 _,qQ2 _,trivial⟩ (by show ∀ s ∈ [54,55,56,57,58,59,60,6,7,8],s<61;decide) ?_ ?_
   ·intro j hj o ho act U hb hoth hdep;have hj':j<10:=hj;have t9':act.tmps[(9:Nat)]?=some (Value.slice ao out.length ca):=(hoth 9 (by decide)).trans rfl
    have t10':act.tmps[(10:Nat)]?=some (Value.int .i64 dot):=(hoth 10 (by decide)).trans rfl
    have t1':act.tmps[(1:Nat)]?=some (Value.int .i64 (k:Nat)):=(hoth 1 (by decide)).trans rfl
    rcases(by omega:j=0∨j=1∨j=2∨j=3∨j=4∨j=5∨j=6∨j=7∨j=8∨j=9)with rfl|rfl|rfl|rfl|rfl|rfl|rfl|rfl|rfl|rfl
    ·obtain rfl:=xL2 ho;exact .inl ⟨rfl,qZ5 rfl t9' ⟨_,rfl,rfl,xL1 _ _⟩⟩
    ·obtain rfl:=xL2 ho;have y0:act.tmps[(54:Nat)]?=_:=dV (hdep 0 (by simp[dL])) rfl
     exact .inl ⟨rfl,qZ7 (w':=U) (by simp[execOp,qZ0 y0,(BCV.out.later hb).conv]) ⟨_,rfl,rfl,xL1 _ _⟩⟩
    ·obtain rfl:=xL2 ho;exact .inl ⟨rfl,qZ5 rfl t9' ⟨_,rfl,rfl,xL1 _ _⟩⟩
    ·obtain rfl:=xL2 ho;have y2:act.tmps[(56:Nat)]?=_:=dV (hdep 2 (by simp[dL])) rfl
     exact .inl ⟨rfl,qZ7 (w':=U) (by simp[execOp,y2,qP9,go_sem]) ⟨_,rfl,rfl,xL1 _ _⟩⟩
    ·obtain rfl:=xL2 ho;exact .inl ⟨rfl,qZ5 rfl t10' ⟨_,rfl,rfl,xL1 _ _⟩⟩
    ·obtain rfl:=xL2 ho;have y3:act.tmps[(57:Nat)]?=_:=dV (hdep 3 (by simp[dL])) rfl
     have y4:act.tmps[(58:Nat)]?=_:=dV (hdep 4 (by simp[dL])) rfl
     refine .inl ⟨rfl,qZ1 rfl (qX2 Tryz.func91 (by kernel_rfl) (by kernel_rfl)) (vs:=#[.int .i64 (out.length:Nat),.int .i64 dot]) (by simp[qZ0 y3,qZ0 y4]) ?_⟩
     refine(zN2 out.length dot U hol ⟨hd1,hd2⟩).mono ?_
     rintro r w' ⟨rfl,hw⟩;replace hw:=hw.symm;subst hw;exact⟨_,rfl,_,rfl,rfl,xL1 _ _⟩
    ·obtain rfl:=xL2 ho;exact .inl ⟨rfl,qZ5 rfl t1' ⟨_,rfl,rfl,xL1 _ _⟩⟩
    ·obtain rfl:=xL2 ho;have y1:act.tmps[(55:Nat)]?=_:=dV (hdep 1 (by simp[dL])) rfl
     exact .inl ⟨rfl,qX3 rfl y1 ⟨_,rfl,rfl,xL1 _ _⟩⟩
    ·obtain rfl:=xL2 ho;have y5:act.tmps[(59:Nat)]?=_:=dV (hdep 5 (by simp[dL])) rfl
     exact .inl ⟨rfl,qX3 rfl y5 ⟨_,rfl,rfl,xL1 _ _⟩⟩
    ·obtain rfl:=xL2 ho;have y6:act.tmps[(60:Nat)]?=_:=dV (hdep 6 (by simp[dL])) rfl
     exact .inl ⟨rfl,qX3 rfl y6 ⟨_,rfl,rfl,xL1 _ _⟩⟩
   ·intro u W9 hb9 hu;have u7:u 7=.string ⟨out.toArray⟩:=hu 7 (by show 7<10;decide)
    have u8:u 8=.int .i64 (bhN out.length dot):=hu 8 (by show 8<10;decide)
    have u9:u 9=.int .i64 (k:Nat):=hu 9 (by show 9<10;decide)
    clear hu;simp only[putL,show List.range 10 = [0,1,2,3,4,5,6,7,8,9] from rfl,List.length_cons,List.length_nil,List.getD_cons_zero,List.getD_cons_succ,List.map_cons,List.map_nil,List.cons_append,List.nil_append,List.foldl_cons,List.foldl_nil,Nat.reduceLT,Nat.reduceMod,Nat.reduceDiv,Nat.reduceMul,Nat.reduceAdd,Nat.reduceEqDiff,reduceIte,Nat.one_ne_zero,Act.put,List.setIfInBounds_toArray,List.set_cons_zero,List.set_cons_succ];rw[u7,u8,u9];clear u7 u8 u9;have HB9:Hid (Bw wr W9):=hb9;clear hb9
    go_wp2;refine xW9 (results_tmp3 rfl _ _ _) rfl ?_;rw[←HG.out];exact⟨rfl,HB1.out.trans (HB9.out.mono HB1.out.size)⟩
def NbQ (W:World) (g:Nat) (s:Bool) (ao:Option Addr) (n cp:Nat) (e:Int) (T:Bool×Nat×Int):Prop:=W.heap[g]?=some (.cells #[.bool s,.slice ao n cp,.int .i64 e] 132 (0,0))∧DN W (.agg #[.bool s,.slice ao n cp,.int .i64 e]) T
theorem NbQ.later {W w':World} {g:Nat} {s:Bool} {ao:Option Addr} {n cp:Nat} {e:Int} {T:Bool×Nat×Int} (h:NbQ W g s ao n cp e T) (hb:Bw W w'):NbQ w' g s ao n cp e T :=
 ⟨qQ h.1 hb (Array.getElem?_eq_some_iff.1 h.1).1,h.2.later hb⟩
theorem zD0 {W:World} {ao:Option Addr} {n z g:Nat} {x y v:Value} {s0:Bool} {ao0:Option Addr} {n0 cp0:Nat} {e0:Int} (h:At W ao n z) (hE:W.heap[g]?=some (.cells #[.bool s0,.slice ao0 n0 cp0,.int .i64 e0] 132 (0,0))):At (((W.setCell ⟨g,0,none⟩ x).setCell ⟨g,1,none⟩ y).setCell ⟨g,2,none⟩ v) ao n z:=by
 obtain⟨bb,o,h1,h2⟩:=h;refine⟨bb,o,h1,fun i hi=>?_⟩
 have hc:=h2 i hi;have hne:bb≠g:=by
  rintro rfl;simp only[World.cell?,hE] at hc;rcases(show o+i=0∨o+i=1∨o+i=2∨3≤o+i by omega)with e|e|e|e
  ·rw[e] at hc;simp at hc
  ·rw[e] at hc;simp at hc
  ·rw[e] at hc;simp at hc
  ·rw[Array.getElem?_eq_none (by simpa using e)] at hc;cases hc
 rw[yX0 hne];exact hc
theorem DN.storeQ {W:World} {A:Value} {t:Bool×Nat×Int} {g:Nat} {s0:Bool} {ao0:Option Addr} {n0 cp0:Nat} {e0:Int} (h:DN W A t) (hE:W.heap[g]?=some (.cells #[.bool s0,.slice ao0 n0 cp0,.int .i64 e0] 132 (0,0))) (x y v:Value):DN (((W.setCell ⟨g,0,none⟩ x).setCell ⟨g,1,none⟩ y).setCell ⟨g,2,none⟩ v) A t:=by
 obtain⟨ao,cap,h1,h2⟩:=h;exact⟨ao,cap,h1,h2.nil,zD0 h2.at_ hE,h2.le,h2.small⟩
theorem NbQ.put {W:World} {g:Nat} {s:Bool} {ao:Option Addr} {n cp:Nat} {e:Int} {T:Bool×Nat×Int} (h:NbQ W g s ao n cp e T) {s':Bool} {ao':Option Addr} {n' cp':Nat} {e':Int} {T':Bool×Nat×Int} (hd:DN W (.agg #[.bool s',.slice ao' n' cp',.int .i64 e']) T') :
  NbQ (((W.setCell ⟨g,0,none⟩ (.bool s')).setCell ⟨g,1,none⟩ (.slice ao' n' cp')).setCell ⟨g,2,none⟩ (.int .i64 e')) g s' ao' n' cp' e' T' :=
 ⟨qX1 _ _ _ h.1,hd.storeQ h.1 _ _ _⟩
theorem qH1 {W:World} {g k:Nat} {o:Obj} (h:W.heap[k]?=some o) (hk:k≠g) (x y v:Value):(((W.setCell ⟨g,0,none⟩ x).setCell ⟨g,1,none⟩ y).setCell ⟨g,2,none⟩ v).heap[k]?=some o:=by
 have h':¬ g=k:=fun e=>hk e.symm;simp[World.setCell,Array.getElem?_modify,h',h]
theorem NbQ.other {W:World} {g k:Nat} {s:Bool} {ao:Option Addr} {n cp:Nat} {e:Int} {T:Bool×Nat×Int} (h:NbQ W k s ao n cp e T) {s0:Bool} {ao0:Option Addr} {n0 cp0:Nat} {e0:Int} (hE:W.heap[g]?=some (.cells #[.bool s0,.slice ao0 n0 cp0,.int .i64 e0] 132 (0,0))) (hk:k≠g) (x y v:Value) :
  NbQ (((W.setCell ⟨g,0,none⟩ x).setCell ⟨g,1,none⟩ y).setCell ⟨g,2,none⟩ v) k s ao n cp e T :=
 ⟨qH1 h.1 hk _ _ _,h.2.storeQ hE _ _ _⟩
theorem zH2 (d:Int) (w:World):(Instr.buildSlice 82 1 #[(0,.int .u32 d)]).run Tryz.prog w=.ok (.slice (some ⟨w.heap.size,0,none⟩) 1 1) (w.alloc (.cells #[.int .u32 d] 50)):=by kernel_rfl
theorem yW4 (d:Nat) (w:World) (h:d<256):(convert 5 50 (.int .u8 (d:Int))).run Tryz.prog w=.ok (.int .u32 (d:Int)) w:=by
 have e:(convert 5 50 (.int .u8 (d:Int))).run Tryz.prog w=.ok (.int .u32 (IntKind.u32.wrap (d:Int))) w:=by kernel_rfl
 rw[e,IntKind.wrap_u32,Int.emod_eq_of_lt (by omega) (by omega)]
theorem zW1 (s:ByteArray) (j c:Nat) (h:j<s.size) (hc:(s[j]'h).toNat=c) (w:World):(Instr.index 9 (.string s) (.int .i64 (j:Int))).run Tryz.prog w=.ok (.int .u8 (c:Int)) w:=by
 rw[run_index_string w 9 s .i64 (j:Int) (by kernel_rfl),dif_pos ⟨by omega,by omega⟩]
 have:(s[(j:Int).toNat]'(by omega)).toNat=c:=hc
 rw[this]
theorem qR9 (x:Nat):qW6 (fun w u=>Ir w u x):=fun _ _ _ hb h=>Ir.later h hb
theorem zV1 (d:Nat):qW6 (fun w u=>∃ g,u=.slice (some ⟨g,0,none⟩) 1 1∧w.cell? ⟨g,0,none⟩=some (.int .u32 (d:Int))):=fun _ _ _ hb h=>by
 obtain⟨g,h1,h2⟩:=h;exact⟨g,h1,(hb.cell (World.block_lt_of_cell? _ _ h2)).trans h2⟩
theorem dg_dF {d:Nat} (h:d<16):dg d 0=d:=by unfold dg;rw[xC7,Nat.div_one];exact xW3 (Nat.lt_trans h (by decide))
theorem qN6 {d:Nat} (h:d<16):dlen d≤1:=(qQ9 _ _).2 (by rw[Nat.pow_one];exact Nat.lt_trans h (by decide))
theorem xZ2 {V:World} {g d m:Nat} (hm:m≤1) (hcl:V.cell? ⟨g,0,none⟩=some (.int .u32 (d:Int))) (h:d<16):At V (some ⟨g,0,none⟩) m d:=by
 refine⟨g,0,fun _=>rfl,fun i hi=>?_⟩
 obtain rfl:i=0:=by omega
 rw[dg_dF h];exact hcl
theorem zA7 (U:World) (d:Nat) (h0:0<d) (h:d<16):Ir (U.alloc (.cells #[.int .u32 (d:Int)] 50)) (.slice (some ⟨U.heap.size,0,none⟩) 1 1) d:=by
 have hd:dlen d=1:=by
  have h1:=qN6 h;have h2:=qK6 (x:=d) (by omega)
  omega
 refine⟨_,1,by rw[hd],by rw[hd];omega,?_⟩
 rw[hd];refine xZ2 (xL0 _) ?_ h;simp only[World.cell?,xW8];rfl
theorem yH3 (U:World):Ir (U.alloc (.cells #[.int .u32 10] 50)) (.slice (some ⟨U.heap.size,0,none⟩) 1 1) 10:=zA7 U 10 (by decide) (by decide)
theorem yI8 (w:World):Ir w (.slice none 0 0) 0:=⟨none,0,by rw[qQ5],by rw[qQ5];omega,0,0,fun h=>by rw[qQ5] at h;omega,fun i hi=>by rw[qQ5] at hi;omega⟩
theorem qA6 {D:List UInt8} (h:∀ j,j<D.length→dgB (bL D j)<10):∀ k,k≤D.length→dvP 10 D k<10^k
 | 0,_=>by simp[dvP]
 | k+1,hk=>by
  have h1:=qA6 h k (by omega)
  have h2:=h k (by omega)
  show dvP 10 D k*10+dgB (bL D k)<10^(k+1)
  rw[xC5];omega
theorem zO2 {x k:Nat} (h:x<10^k):dlen x≤k:=(qQ9 _ _).2 (xL8 h (Nat.pow_le_pow_left (by decide) _))
theorem yB0 (L:List UInt8) (n:Nat) (w:World) (hn:Hid (n=L.length)) (hL:n≤2000) (hd:Hid (∀ j,j<n→48≤bL L j∧bL L j≤57)) :
  Calls Tryz.prog 97 #[.string ⟨L.toArray⟩] w fun r w'=>∃ A,r=.returned A∧DN w' A (un (dvP 10 L n:Nat) 0)∧Bw w w':=by
 obtain⟨R,hR⟩:∃ R:ByteArray,R=⟨L.toArray⟩:=⟨_,rfl⟩;have hRs:R.size=n:=by rw[hR,hn.out];rfl
 have hRg:∀ k (h:k<R.size),(R[k]'h).toNat=bL L k:=by subst hR;exact qU0 L
 have HR:Hid (R=⟨L.toArray⟩):=hR;rw[←hR];clear hR;have HRg:Hid (∀ k (h:k<R.size),(R[k]'h).toNat=bL L k):=hRg;clear hRg;have HQ:Hid (∀ j,j<n→dgB (bL L j)<10∧dgB (bL L j)=bL L j - 48):=(fun j hj=>by
  have:=hd.out j hj
  unfold dgB;constructor <;> (split <;> omega):∀ j,j<n→dgB (bL L j)<10∧dgB (bL L j)=bL L j - 48)
 obtain⟨W,hW⟩:∃ W,W=w.alloc (.cells #[.bool false,.slice none 0 0,.int .i64 0] 132):=⟨_,rfl⟩;have HW:Hid (Bw w W∧W.heap[w.heap.size]?=some (.cells #[.bool false,.slice none 0 0,.int .i64 0] 132 (0,0))):=⟨by rw[hW];exact(xL1 _ _).alloc (xL0 _) _,by rw[hW];exact xW8 _ _⟩
 go_enter Tryz.func97,Tryz.ntmps97
 go_wp2_with fail;rw[←hW];clear hW
 go_loopw [3,4] (fun v x wr=>∃ i:Nat,i≤n∧x=.int .i64 (i:Nat)∧Ir wr v (dvP 10 L i)∧Bw W wr) (fun _ x _=>n - (intOf x).toNat)
 case atStart=>exact⟨0,xW5 _,rfl,yI8 W,xL1 _ _⟩
 case round =>
  obtain⟨i,hi,rfl,HV,HB0⟩:=hrel;have HB:Hid (Bw W wr):=HB0;clear HB0;have HVV:Hid (Ir wr _ (dvP 10 L i)):=HV;clear HV;have hxl:dvP 10 L i<10^i:=qA6 (fun j hj=>(HQ.out j (by have:=hn.out;omega)).1) i (by have:=hn.out;omega)
  have hx1:=zO2 hxl;have hx2:dlen (dvP 10 L i*10)≤i+1:=zO2 (by rw[xC5];omega)
  obtain⟨x,hX⟩:∃ x,x=dvP 10 L i:=⟨_,rfl⟩;rw[←hX] at HVV hx1 hx2;have HX:Hid (x=dvP 10 L i):=hX;clear hX hxl;obtain⟨ao,cap,rfl,hcap,hAt⟩:=HVV.out;clear HVV;by_cases hin:i<n
  ·have hii:(i:Int)<(n:Int):=by omega
   have hiR:i<R.size:=by omega
   obtain⟨c,hc⟩:∃ c,c=bL L i:=⟨_,rfl⟩;have hRc:(R[i]'hiR).toNat=c:=by rw[hc];exact HRg.out i hiR
   have h1:=HQ.out i hin;have h2:=hd.out i hin;obtain⟨d,hdd⟩:∃ d,d=dgB (bL L i):=⟨_,rfl⟩;rw[←hdd,←hc] at h1;rw[←hc] at h2;have hdl:d<16:=by omega
   have hw2:IntKind.u8.wrap ((c:Int) - 48)=(d:Int):=by rw[IntKind.wrap_u8];omega
   have HD:Hid (d=dgB (bL L i)):=hdd;clear hdd hc
   go_upto_region 5 with fail;refine qT4 qX7 11 11 [[],[],[0,1],[],[],[3,4],[5],[6],[7],[8],[2,9]] wr _ [isV (.slice ao (dlen x) cap),fun w u=>Ir w u 10,fun w u=>Ir w u (x*10),isV (.string R),isV (.int .i64 (i:Nat)),isV (.int .u8 (c:Nat)),isV (.int .u8 (d:Nat)),isV (.int .u32 (d:Nat)),fun w u=>∃ g,u=.slice (some ⟨g,0,none⟩) 1 1∧w.cell? ⟨g,0,none⟩=some (.int .u32 (d:Int)),fun w u=>Ir w u d,fun w u=>Ir w u (x*10+d)] (by kernel_rfl) ⟨qQ2 _,qR9 10,qR9 (x*10),qQ2 _,qQ2 _,qQ2 _,qQ2 _,qQ2 _,zV1 d,qR9 d,qR9 (x*10+d),trivial⟩ (by show 22≤24;decide) ?_ ?_
   ·intro j hj o ho act U hb hoth hdep;have hj':j<11:=hj;have t3':act.tmps[(3:Nat)]?=some (Value.slice ao (dlen x) cap):=(hoth 3 (by omega)).trans rfl
    have t0':act.tmps[(0:Nat)]?=some (Value.string R):=(hoth 0 (by omega)).trans rfl
    have t4':act.tmps[(4:Nat)]?=some (Value.int .i64 (i:Nat)):=(hoth 4 (by omega)).trans rfl
    rcases(by omega:j=0∨j=1∨j=2∨j=3∨j=4∨j=5∨j=6∨j=7∨j=8∨j=9∨j=10)with rfl|rfl|rfl|rfl|rfl|rfl|rfl|rfl|rfl|rfl|rfl
    ·obtain rfl:=xL2 ho;exact qZ5 rfl t3' ⟨_,rfl,rfl,xL1 _ _⟩
    ·obtain rfl:=xL2 ho;refine qZ7 (w':=U.alloc (.cells #[.int .u32 (10:Int)] 50)) (v:=.slice (some ⟨U.heap.size,0,none⟩) 1 1) (by simp[execOp,qP9,zH2 (10:Int) U]) ⟨_,rfl,yH3 U,(xL1 _ _).alloc (xL0 _) _⟩
    ·obtain rfl:=xL2 ho;have y0:act.tmps[(11:Nat)]?=_:=dV (hdep 0 (by simp[dL])) rfl
     obtain⟨u1,y10,v1⟩:=hdep 1 (by simp[dL])
     have y1:act.tmps[(12:Nat)]?=_:=y10;refine qZ1 rfl (qX2 Tryz.func147 (by kernel_rfl) (by kernel_rfl)) (vs:=#[.slice ao (dlen x) cap,u1]) (by simp[qZ0 y0,qZ0 y1]) ?_
     refine(xV7 (x:=x) (y:=10) ((show Ir wr _ x from⟨ao,cap,rfl,hcap,hAt⟩).later hb) v1 (by omega) (xW (qN6 (by decide:10<16)) (by decide))).mono ?_
     rintro r w' ⟨v,rfl,hO,hb'⟩;exact⟨_,rfl,_,rfl,hO.is.ir,hb'⟩
    ·obtain rfl:=xL2 ho;exact qZ5 rfl t0' ⟨_,rfl,rfl,xL1 _ _⟩
    ·obtain rfl:=xL2 ho;exact qZ5 rfl t4' ⟨_,rfl,rfl,xL1 _ _⟩
    ·obtain rfl:=xL2 ho;have y3:act.tmps[(14:Nat)]?=_:=dV (hdep 3 (by simp[dL])) rfl
     have y4:act.tmps[(15:Nat)]?=_:=dV (hdep 4 (by simp[dL])) rfl
     exact qZ7 (w':=U) (v:=.int .u8 (c:Int)) (by simp[execOp,qZ0 y3,qZ0 y4,zW1 R i c (by omega) hRc U]) ⟨_,rfl,rfl,xL1 _ _⟩
    ·obtain rfl:=xL2 ho;have y5:act.tmps[(16:Nat)]?=_:=dV (hdep 5 (by simp[dL])) rfl
     exact qZ7 (w':=U) (v:=.int .u8 (d:Int)) (by simp[execOp,y5,go_sem,hw2]) ⟨_,rfl,rfl,xL1 _ _⟩
    ·obtain rfl:=xL2 ho;have y6:act.tmps[(17:Nat)]?=_:=dV (hdep 6 (by simp[dL])) rfl
     exact qZ7 (w':=U) (v:=.int .u32 (d:Int)) (by simp[execOp,qZ0 y6,yW4 d U (by omega)]) ⟨_,rfl,rfl,xL1 _ _⟩
    ·obtain rfl:=xL2 ho;have y7:act.tmps[(18:Nat)]?=_:=dV (hdep 7 (by simp[dL])) rfl
     refine qZ7 (w':=U.alloc (.cells #[.int .u32 (d:Int)] 50)) (v:=.slice (some ⟨U.heap.size,0,none⟩) 1 1) (by simp[execOp,qZ0 y7,qP9,zH2 (d:Int) U]) ⟨_,rfl,⟨_,rfl,?_⟩,(xL1 _ _).alloc (xL0 _) _⟩
     simp only[World.cell?,xW8];rfl
    ·obtain rfl:=xL2 ho;obtain⟨u8,y80,v8⟩:=hdep 8 (by simp[dL])
     have y8:act.tmps[(19:Nat)]?=_:=y80;obtain⟨g,rfl,hcl⟩:=v8;refine qZ1 rfl (qX2 Tryz.func148 (by kernel_rfl) (by kernel_rfl)) (by simp[qZ0 y8];rfl) ?_
     refine(r40 (some ⟨g,0,none⟩) 1 1 d U (qN6 hdl) (by omega) (by omega) (xZ2 (xL0 _) hcl hdl)).mono ?_
     rintro r w' ⟨rfl,rfl⟩;exact⟨_,rfl,_,rfl,⟨_,_,rfl,qN6 hdl,xZ2 (qN6 hdl) hcl hdl⟩,xL1 _ _⟩
    ·obtain rfl:=xL2 ho;obtain⟨u2,y20,v2⟩:=hdep 2 (by simp[dL])
     have y2:act.tmps[(13:Nat)]?=_:=y20;obtain⟨u9,y90,v9⟩:=hdep 9 (by simp[dL])
     have y9:act.tmps[(20:Nat)]?=_:=y90;refine qZ1 rfl (qX2 Tryz.func139 (by kernel_rfl) (by kernel_rfl)) (vs:=#[u2,u9]) (by simp[qZ0 y2,qZ0 y9]) ?_
     refine(rsum (x:=x*10) (y:=d) v2 v9 (by omega) (by have:=qN6 hdl;omega)).mono ?_
     rintro r w' ⟨v,rfl,hI,hb'⟩;exact⟨_,rfl,_,rfl,hI,hb'⟩
   ·intro o ho u W9 hb9 hu;have hop:o.op=.assign (.tmp 21):=by rw[←xL2 ho];rfl
    have hds:o.dst=some 3:=by rw[←xL2 ho];rfl
    clear ho;have u10:(fun w u=>Ir w u (x*10+d)) W9 (u 10):=hu 10 (by show 10<11;decide)
    clear hu;simp only[putL,show List.range 11 = [0,1,2,3,4,5,6,7,8,9,10] from rfl,List.length_cons,List.length_nil,List.getD_cons_zero,List.getD_cons_succ,List.map_cons,List.map_nil,List.cons_append,List.nil_append,List.foldl_cons,List.foldl_nil,Nat.reduceLT,Nat.reduceMod,Nat.reduceDiv,Nat.reduceMul,Nat.reduceAdd,Nat.reduceEqDiff,reduceIte,Nat.one_ne_zero,Act.put,List.setIfInBounds_toArray,List.set_cons_zero,List.set_cons_succ];refine qX3 (v:=u 10) hop rfl ?_;rw[hds];simp only[Act.put,List.setIfInBounds_toArray,List.set_cons_zero,List.set_cons_succ];have HF:Hid (Ir W9 (u 10) (x*10+d)∧Bw W W9):=⟨u10,HB.out.trans (hb9.mono HB.out.size)⟩;clear u10 hb9
    go_wp2_with fail;refine⟨⟨i+1,by omega,rfl,?_,HF.out.2⟩,by simp only[intOf];omega⟩
    show Ir W9 (u 10) (dvP 10 L i*10+(dgB (bL L i)))
    rw[←HX.out,←HD.out];exact HF.out.1
  ·obtain rfl:i=n:=by omega
   have hii:¬ (i:Int)<(i:Int):=by omega
   have k9:=zY2 (neg:=false) (v:=.slice ao (dlen x) cap) (x:=x) (e:=0) (w:=wr) ⟨ao,cap,rfl,hcap,hAt⟩ (by omega) (by omega)
   clear hAt hcap
   go_wp2_with fail;refine k9.mono ?_;rintro r w1 ⟨A,rfl,hA,hb1⟩;clear k9;have hD:DN w1 A (un ((x:Nat):Int) 0):=by
    have h9:=hA.dn;unfold un;rw[xL3 (by omega),xC1]
    exact h9
   obtain⟨s1,ao1,n1,cp1,e1,rfl⟩:=hD.shape;have hbx:=qQ HW.out.2 (HB.out.trans (hb1.mono HB.out.size)) (qQ6 HW.out.2);have HD9:Hid (DN w1 (.agg #[.bool s1,.slice ao1 n1 cp1,.int .i64 e1]) (un ((x:Nat):Int) 0)∧w1.heap[w.heap.size]?=some (.cells #[.bool false,.slice none 0 0,.int .i64 0] 132 (0,0))∧Bw w w1):=⟨hD,hbx,by
    have h1:=HB.out.trans (hb1.mono HB.out.size);exact HW.out.1.trans (h1.mono HW.out.1.size)⟩
   obtain⟨⟨c0,c1,c2⟩,f0,f1,f2⟩:=qQ0 hbx;clear hA hb1 hD hbx
   go_wp2_with fail;refine xW9 (xE2 rfl _ _ (w.heap.size) 132 #[.bool s1,.slice ao1 n1 cp1,.int .i64 e1] (0,0) _ rfl (qX1 _ _ _ HD9.out.2.1) Tryz.underlying132 rfl Tryz.info132) rfl ?_;exact⟨_,rfl,by rw[←HX.out];exact HD9.out.1.storeQ HD9.out.2.1 _ _ _,qQ3 HD9.out.2.2 (xL0 _) _ _ _⟩
def TnB (w:World) (g3 g4:Nat) (a b:Nat) (wr:World) (s1:Bool) (ao1:Option Addr) (n1 cp1:Nat) (e1:Int) (s2:Bool) (ao2:Option Addr) (n2 cp2:Nat) (e2:Int):Prop :=
 NbQ wr g3 s1 ao1 n1 cp1 e1 (un ((10^a:Nat):Int) 0)∧NbQ wr g4 s2 ao2 n2 cp2 e2 (un ((10^b:Nat):Int) 0)∧wr.heap[w.heap.size]?=some (.cells #[.bool false,.slice none 0 0,.int .i64 0] 132 (0,0))∧Bw w wr∧w.heap.size<g3∧g3<g4∧g4<wr.heap.size
theorem TnB.put3 {w wr w':World} {g3 g4 a b a':Nat} {s1:Bool} {ao1:Option Addr} {n1 cp1:Nat} {e1:Int} {s2:Bool} {ao2:Option Addr} {n2 cp2:Nat} {e2:Int} {s3:Bool} {ao3:Option Addr} {n3 cp3:Nat} {e3:Int} (h:TnB w g3 g4 a b wr s1 ao1 n1 cp1 e1 s2 ao2 n2 cp2 e2) (hb:Bw wr w') (hd:DN w' (.agg #[.bool s3,.slice ao3 n3 cp3,.int .i64 e3]) (un ((10^a':Nat):Int) 0)):TnB w g3 g4 a' b (((w'.setCell ⟨g3,0,none⟩ (.bool s3)).setCell ⟨g3,1,none⟩ (.slice ao3 n3 cp3)).setCell ⟨g3,2,none⟩ (.int .i64 e3)) s3 ao3 n3 cp3 e3 s2 ao2 n2 cp2 e2:=by
 obtain⟨h1,h2,h3,h4,h5,h6,h7⟩:=h;have hs:=hb.size;have b1:=h1.later hb;refine⟨b1.put hd,(h2.later hb).other b1.1 (by omega) _ _ _,qH1 (qQ h3 hb (by omega)) (by omega) _ _ _,qQ3 (h4.trans (hb.mono h4.size)) (by omega) _ _ _,h5,h6,by simp[World.setCell];omega⟩
theorem TnB.put4 {w wr w':World} {g3 g4 a b b':Nat} {s1:Bool} {ao1:Option Addr} {n1 cp1:Nat} {e1:Int} {s2:Bool} {ao2:Option Addr} {n2 cp2:Nat} {e2:Int} {s3:Bool} {ao3:Option Addr} {n3 cp3:Nat} {e3:Int} (h:TnB w g3 g4 a b wr s1 ao1 n1 cp1 e1 s2 ao2 n2 cp2 e2) (hb:Bw wr w') (hd:DN w' (.agg #[.bool s3,.slice ao3 n3 cp3,.int .i64 e3]) (un ((10^b':Nat):Int) 0)):TnB w g3 g4 a b' (((w'.setCell ⟨g4,0,none⟩ (.bool s3)).setCell ⟨g4,1,none⟩ (.slice ao3 n3 cp3)).setCell ⟨g4,2,none⟩ (.int .i64 e3)) s1 ao1 n1 cp1 e1 s3 ao3 n3 cp3 e3:=by
 obtain⟨h1,h2,h3,h4,h5,h6,h7⟩:=h;have hs:=hb.size;have b2:=h2.later hb;refine⟨(h1.later hb).other b2.1 (by omega) _ _ _,b2.put hd,qH1 (qQ h3 hb (by omega)) (by omega) _ _ _,qQ3 (h4.trans (hb.mono h4.size)) (by omega) _ _ _,h5,h6,by simp[World.setCell];omega⟩
theorem yO5 {x y:Int} {k l:Nat} {X Y:Value} {w:World} (hx:x.natAbs<2^k) (hy:y.natAbs<2^l) (hk:k≤90000) (hl:l≤90000) (h1:DN w X (un x 0)) (h2:DN w Y (un y 0)):Calls Tryz.prog 98 #[X,Y] w fun r w'=>∃ A,r=.returned A∧DN w' A (un (x*y) 0)∧Bw w w':=by
 have h:=yR1 (qR2 hx hk (by omega)) (qR2 hy hl (by omega)) h1 h2
 rw[yF0] at h;exact h
theorem qD8 (a:Nat):(((10^a:Nat):Int)).natAbs<2^(4*a+1):=by
 rw[xC1];have h:10^a≤2^(4*a):=by rw[Nat.pow_mul];exact Nat.pow_le_pow_left (by decide) _
 rw[xC5];have:=xL5 (4*a)
 omega
theorem xK7 (a b:Nat):((10^a:Nat):Int)*((10^b:Nat):Int)=((10^(a+b):Nat):Int):=by rw[xC3];push_cast;rfl
theorem zF5 (a b:Nat) (ha:a≤10000) (hb:b≤10000) {X Y:Value} {w:World} (h1:DN w X (un ((10^a:Nat):Int) 0)) (h2:DN w Y (un ((10^b:Nat):Int) 0)):Calls Tryz.prog 98 #[X,Y] w fun r w'=>∃ s ao n cp e,r=.returned (.agg #[.bool s,.slice ao n cp,.int .i64 e])∧DN w' (.agg #[.bool s,.slice ao n cp,.int .i64 e]) (un ((10^(a+b):Nat):Int) 0)∧Bw w w':=by
 refine(yO5 (qD8 a) (qD8 b) (by omega) (by omega) h1 h2).mono ?_
 rintro r w' ⟨A,rfl,hA,hb'⟩;rw[xK7] at hA;obtain⟨s,ao,n,cp,e,rfl⟩:=hA.shape;exact⟨s,ao,n,cp,e,rfl,hA,hb'⟩
theorem xB (U:World) (g:Nat) (hg:g=U.heap.size) (d:Nat) (di:Int) (hdi:di=(d:Int)) (h0:0<d) (h:d<16):Calls Tryz.prog 138 #[.bool false,.slice (some ⟨g,0,none⟩) 1 1,.int .i64 0] (U.alloc (.cells #[.int .u32 di] 50)) fun r w'=>∃ s ao n cp e,r=.returned (.agg #[.bool s,.slice ao n cp,.int .i64 e])∧DN w' (.agg #[.bool s,.slice ao n cp,.int .i64 e]) (un ((d:Nat):Int) 0)∧Bw U w':=by
 subst hdi hg;have hi:=zA7 U d h0 h;have hl:=qN6 h;refine(zY2 (neg:=false) (x:=d) (e:=0) hi (by omega) (by omega)).mono ?_
 rintro r w' ⟨A,rfl,hA,hb⟩;have hD:DN w' A (un ((d:Nat):Int) 0):=by
  have:=hA.dn
  unfold un;rw[xL3 (by omega),xC1]
  exact this
 obtain⟨s,ao,n,cp,e,rfl⟩:=hD.shape;refine⟨s,ao,n,cp,e,rfl,hD,?_⟩
 have hb0:Below U.heap.size U (U.alloc (.cells #[.int .u32 (d:Int)] 50)):=(xL1 _ _).alloc (xL0 _) _;exact hb0.trans (hb.mono hb0.size)
theorem xM8 (N:Nat) (w:World) (hN:N≤2000) :
  Calls Tryz.prog 99 #[.int .i64 N] w fun r w'=>∃ A,r=.returned A∧DN w' A (un ((10^N:Nat):Int) 0)∧Bw w w':=by
 obtain⟨W,hW⟩:∃ W,W=w.alloc (.cells #[.bool false,.slice none 0 0,.int .i64 0] 132):=⟨_,rfl⟩;have hsz:W.heap.size=w.heap.size+1:=by rw[hW];simp
 have HW:Hid (Bw w W∧W.heap[w.heap.size]?=some (.cells #[.bool false,.slice none 0 0,.int .i64 0] 132 (0,0))∧W.heap.size=w.heap.size+1):=⟨by rw[hW];exact(xL1 _ _).alloc (xL0 _) _,by rw[hW];exact xW8 _ _,hsz⟩
 clear hsz;have k1:=xB W (w.heap.size+1) HW.out.2.2.symm 1 1 rfl (by decide) (by decide)
 go_enter Tryz.func99,Tryz.ntmps99
 go_wp2_with fail;rw[←hW];clear hW;refine k1.mono ?_;rintro r w1 ⟨s1,ao1,n1,cp1,e1,rfl,hd1,hb1⟩;clear k1;obtain⟨V,hV⟩:∃ V,V=w1.alloc (.cells #[.bool s1,.slice ao1 n1 cp1,.int .i64 e1] 132):=⟨_,rfl⟩;obtain⟨g3,hg3⟩:∃ g3,g3=w1.heap.size:=⟨_,rfl⟩;have k2:=xB V (g3+1) (by rw[hV,hg3];simp) 10 10 rfl (by decide) (by decide)
 have H1:Hid (NbQ V g3 s1 ao1 n1 cp1 e1 (un ((10^0:Nat):Int) 0)∧Bw W V∧W.heap.size≤g3∧V.heap.size=g3+1):=by
  have hbV:Bw w1 V:=by rw[hV];exact(xL1 _ _).alloc (xL0 _) _
  refine⟨⟨by rw[hV,hg3];exact xW8 _ _,hd1.later hbV⟩,hb1.trans (hbV.mono hb1.size),by rw[hg3];exact hb1.size,by rw[hV,hg3];simp⟩
 clear hd1 hb1
 go_upto_region 2 with fail;rw[←hV,←hg3];clear hV hg3;have hVs:=H1.out.2.2.2
 go_wp2_with fail;refine k2.mono ?_;rintro r w2 ⟨s2,ao2,n2,cp2,e2,rfl,hd2,hb2⟩;clear k2 hVs;obtain⟨V2,hV2⟩:∃ V2,V2=w2.alloc (.cells #[.bool s2,.slice ao2 n2 cp2,.int .i64 e2] 132):=⟨_,rfl⟩;obtain⟨g4,hg4⟩:∃ g4,g4=w2.heap.size:=⟨_,rfl⟩;have HT:Hid (TnB w g3 g4 0 1 V2 s1 ao1 n1 cp1 e1 s2 ao2 n2 cp2 e2):=by
  have hbV:Bw w2 V2:=by rw[hV2];exact(xL1 _ _).alloc (xL0 _) _
  have hV:Bw V V2:=hb2.trans (hbV.mono hb2.size);have hWV:Bw W V2:=H1.out.2.1.trans (hV.mono H1.out.2.1.size);have h3:=HW.out.2.2;have h4:=hb2.size;have h5:=H1.out.2.2;have h6:V2.heap.size=w2.heap.size+1:=by rw[hV2];simp
  refine⟨H1.out.1.later hV,⟨by rw[hV2,hg4];exact xW8 _ _,hd2.later hbV⟩,qQ HW.out.2.1 hWV (by omega),HW.out.1.trans (hWV.mono HW.out.1.size),by omega,by omega,by omega⟩
 clear hd2 hb2 H1
 go_upto_region 3 with fail;rw[←hV2,←hg4];clear hV2 hg4 HW
 go_loopw [0] (fun v wr=>∃ (n a b:Nat) (s1:Bool) (ao1:Option Addr) (n1 cp1:Nat) (e1:Int) (s2:Bool) (ao2:Option Addr) (n2 cp2:Nat) (e2:Int),n≤2000∧v=.int .i64 (n:Nat)∧a+b*n=N∧Hid (TnB w g3 g4 a b wr s1 ao1 n1 cp1 e1 s2 ao2 n2 cp2 e2)) (fun v _=>(intOf v).toNat)
 case atStart=>exact⟨N,0,1,_,_,_,_,_,_,_,_,_,_,hN,rfl,by omega,HT⟩
 case round =>
  obtain⟨n,a,b,s1,ao1,n1,cp1,e1,s2,ao2,n2,cp2,e2,hn,rfl,hab,HI⟩:=hrel;clear HT;by_cases h0:0<n
  ·have h0':(0:Int)<(n:Int):=by omega
   have hb1:b*1≤b*n:=xW2 _ h0;have hbN:b≤2000:=by omega
   have haN:a≤2000:=by omega
   have hq:Int.tdiv (n:Int) 2=((n / 2:Nat):Int):=by rw[Int.tdiv_eq_ediv_of_nonneg (by omega)];omega
   have hr:Int.tmod (n:Int) 2=((n % 2:Nat):Int):=by rw[Int.tmod_eq_emod_of_nonneg (by omega)];omega
   have hq2:n / 2≤2000:=by omega
   obtain⟨q,hqq⟩:∃ q,q=n / 2:=⟨_,rfl⟩;rw[←hqq] at hq hq2;have HQL:Hid (q<n):=(by omega:q<n)
   have hsq:∀ (U:World),DN U (.agg #[.bool s2,.slice ao2 n2 cp2,.int .i64 e2]) (un ((10^b:Nat):Int) 0)→_:=fun U h=>zF5 b b (by omega) (by omega) h h
   by_cases hodd:n % 2=1
   ·rw[hodd] at hr;have HNN:Hid (a+b+(b+b)*q=N):=(by
     have e:n=2*q+1:=by omega
     rw[e] at hab;have e2:b*(2*q+1)=b+(b+b)*q:=by rw[Nat.mul_add,Nat.add_mul,xE1,xC4 2 q,←xC6,Nat.mul_two];omega
     omega:a+b+(b+b)*q=N)
    have k1:=zF5 a b (by omega) (by omega) HI.out.1.2 HI.out.2.1.2
    obtain⟨⟨c0,c1,c2⟩,-⟩:=qQ0 HI.out.1.1;obtain⟨⟨d0,d1,d2⟩,-⟩:=qQ0 HI.out.2.1.1;clear hab hodd hqq
    go_wp2_with fail;refine k1.mono ?_;rintro r w3 ⟨s3,ao3,n3,cp3,e3,rfl,hd3,hb3⟩;clear k1 c0 c1 c2 d0 d1 d2;have HI3:Hid (TnB w g3 g4 (a+b) b (((w3.setCell ⟨g3,0,none⟩ (.bool s3)).setCell ⟨g3,1,none⟩ (.slice ao3 n3 cp3)).setCell ⟨g3,2,none⟩ (.int .i64 e3)) s3 ao3 n3 cp3 e3 s2 ao2 n2 cp2 e2):=HI.out.put3 hb3 hd3;obtain⟨⟨c0,c1,c2⟩,f0,f1,f2⟩:=qQ0 (HI.out.1.later hb3).1;clear hd3 hb3 HI
    go_upto_region 6 with fail;obtain⟨U,hU⟩:∃ U,U=(((w3.setCell ⟨g3,0,none⟩ (.bool s3)).setCell ⟨g3,1,none⟩ (.slice ao3 n3 cp3)).setCell ⟨g3,2,none⟩ (.int .i64 e3)):=⟨_,rfl⟩;rw[←hU] at HI3 ⊢;clear hU c0 c1 c2 f0 f1 f2;have k2:=hsq U HI3.out.2.1.2;obtain⟨⟨d0,d1,d2⟩,-⟩:=qQ0 HI3.out.2.1.1
    go_wp2_with fail;refine k2.mono ?_;rintro r w4 ⟨s4,ao4,n4,cp4,e4,rfl,hd4,hb4⟩;clear k2 d0 d1 d2;have HI4:Hid (TnB w g3 g4 (a+b) (b+b) (((w4.setCell ⟨g4,0,none⟩ (.bool s4)).setCell ⟨g4,1,none⟩ (.slice ao4 n4 cp4)).setCell ⟨g4,2,none⟩ (.int .i64 e4)) s3 ao3 n3 cp3 e3 s4 ao4 n4 cp4 e4):=HI3.out.put4 hb4 hd4;obtain⟨⟨d0,d1,d2⟩,f0,f1,f2⟩:=qQ0 (HI3.out.2.1.later hb4).1;clear hd4 hb4 HI3 hsq
    go_wp2_with fail;exact⟨⟨q,a+b,b+b,_,_,_,_,_,_,_,_,_,_,hq2,rfl,HNN.out,HI4⟩,by have hql:=HQL.out;simp[intOf];omega⟩
   ·have hev:n % 2=0:=by omega
    rw[hev] at hr;have HNN:Hid (a+(b+b)*q=N):=(by
     have e:n=2*q:=by omega
     rw[e] at hab;have e2:b*(2*q)=(b+b)*q:=by rw[←Nat.mul_two,xC6]
     omega:a+(b+b)*q=N)
    have k2:=hsq wr HI.out.2.1.2;obtain⟨⟨d0,d1,d2⟩,-⟩:=qQ0 HI.out.2.1.1;clear hab hodd hqq hev
    go_wp2_with fail;refine k2.mono ?_;rintro r w4 ⟨s4,ao4,n4,cp4,e4,rfl,hd4,hb4⟩;clear k2 d0 d1 d2;have HI4:Hid (TnB w g3 g4 a (b+b) (((w4.setCell ⟨g4,0,none⟩ (.bool s4)).setCell ⟨g4,1,none⟩ (.slice ao4 n4 cp4)).setCell ⟨g4,2,none⟩ (.int .i64 e4)) s1 ao1 n1 cp1 e1 s4 ao4 n4 cp4 e4):=HI.out.put4 hb4 hd4;obtain⟨⟨d0,d1,d2⟩,f0,f1,f2⟩:=qQ0 (HI.out.2.1.later hb4).1;clear hd4 hb4 HI hsq
    go_wp2_with fail;exact⟨⟨q,a,b+b,_,_,_,_,_,_,_,_,_,_,hq2,rfl,HNN.out,HI4⟩,by have hql:=HQL.out;simp[intOf];omega⟩
  ·obtain rfl:n=0:=by omega
   obtain rfl:a=N:=by omega
   obtain⟨⟨c0,c1,c2⟩,-⟩:=qQ0 HI.out.1.1;obtain⟨⟨d0,d1,d2⟩,f0,f1,f2⟩:=qQ0 HI.out.2.2.1
   go_wp2_with fail;refine xW9 (xE2 rfl _ _ (w.heap.size) 132 #[.bool s1,.slice ao1 n1 cp1,.int .i64 e1] (0,0) _ rfl (qX1 _ _ _ HI.out.2.2.1) Tryz.underlying132 rfl Tryz.info132) rfl ?_;exact⟨_,rfl,HI.out.1.2.storeQ HI.out.2.2.1 _ _ _,qQ3 HI.out.2.2.2.1 (xL0 _) _ _ _⟩
theorem yP {Z P:Nat} (s:Bool) (hZ:Z≠0):un (if s then -(Z:Int) else(Z:Int)) P=(s,Z / 2^tz Z,(tz Z:Int) - (P:Int)):=by
 cases s
 ·rw[if_neg (by decide)]
  unfold un cn;rw[xC1,if_neg hZ,xL3 (by omega)]
  simp;omega
 ·rw[if_pos rfl];unfold un cn;rw[Int.natAbs_neg,xC1,if_neg hZ,xL4 (by omega)]
  simp;omega
theorem yP1 {U:Nat} (hU:U≠0):un (U:Int) 0=(false,U / 2^tz U,(tz U:Int)):=by
 unfold un cn;rw[xC1,if_neg hU,xL3 (by omega)]
 simp
theorem yF4 {x y a c K:Nat} (hy:y≠0) (K':Int) (hK:K'=(K:Int)):x*2^a*2^K / (y*2^c)=x*2^((a:Int)+K' - min ((a:Int)+K') c).toNat / (y*2^((c:Int) - min ((a:Int)+K') c).toNat)∧(x*2^a*2^K % (y*2^c)=0↔x*2^((a:Int)+K' - min ((a:Int)+K') c).toNat % (y*2^((c:Int) - min ((a:Int)+K') c).toNat)=0):=by
 subst hK;rw[xC6,←xC3];by_cases h:c≤a+K
 ·obtain⟨d,hd⟩:∃ d,a+K=d+c:=⟨a+K - c,by omega⟩
  have e1:((a:Int)+(K:Int) - min ((a:Int)+(K:Int)) c).toNat=d:=by omega
  have e2:((c:Int) - min ((a:Int)+(K:Int)) c).toNat=0:=by omega
  rw[e1,e2,hd,xC7,xE1,xC3,←xC6];have hp:=xL5 c;refine⟨Nat.mul_div_mul_right _ _ hp,?_⟩
  rw[Nat.mul_mod_mul_right];constructor
  ·intro h9;rcases Nat.mul_eq_zero.1 h9 with h9|h9
   ·exact h9
   ·omega
  ·intro h9;rw[h9,Nat.zero_mul]
 ·obtain⟨d,hd⟩:∃ d,c=d+(a+K):=⟨c - (a+K),by omega⟩
  have e1:((a:Int)+(K:Int) - min ((a:Int)+(K:Int)) c).toNat=0:=by omega
  have e2:((c:Int) - min ((a:Int)+(K:Int)) c).toNat=d:=by omega
  rw[e1,e2,hd,xC7,xE1,xC3 2 d (a+K),←xC6];have hp:=xL5 (a+K);refine⟨Nat.mul_div_mul_right _ _ hp,?_⟩
  rw[Nat.mul_mod_mul_right];constructor
  ·intro h9;rcases Nat.mul_eq_zero.1 h9 with h9|h9
   ·exact h9
   ·omega
  ·intro h9;rw[h9,Nat.zero_mul]
theorem zW4 {Z U P K:Nat} (s:Bool) {m:Int} (hm:1≤m∧m≤3) (hZ:Z≠0) (hU:U≠0) (hK:64≤bl (Z*2^K / U)) :
  rtF (un (if s then -(Z:Int) else(Z:Int)) P) (un (U:Int) 0) m=tfF s (decide (Z*2^K % U=0)) (Z*2^K / U) (-((P:Int)+(K:Int))) m:=by
 rw[yP s hZ,yP1 hU];have sU:=(qX0 _ _ (xL0 _) hU).1;have sZ':=(qX0 _ _ (xL0 _) hZ).1;have hx:Z / 2^tz Z≠0:=by intro h9;rw[h9,Nat.mul_zero] at sZ';omega
 have hy:U / 2^tz U≠0:=by intro h9;rw[h9,Nat.mul_zero] at sU;omega
 rw[xC4] at sU sZ';generalize hgy:U / 2^tz U=y at *;generalize hgx:Z / 2^tz Z=x at *;generalize tz U=c at *;generalize tz Z=a at *;clear hgx hgy;obtain⟨f1,f2⟩:=yF4 (x:=x) (y:=y) (a:=a) (c:=c) (K:=K) hy (K:Int) rfl;rw[sZ',sU] at f1 f2;have hk:64+bl y≤bl x+(max 0 (64+(bl y:Int) - (bl x:Int))).toNat:=by omega
 have hd:decide (Z*2^K % U=0)=decide (x*2^((a:Int)+(K:Int) - min ((a:Int)+(K:Int)) c).toNat % (y*2^((c:Int) - min ((a:Int)+(K:Int)) c).toNat)=0):=by
  rw[decide_eq_decide];exact f2
 have eX:ovX x ((a:Int) - P) c ((P:Int)+K)=x*2^((a:Int)+(K:Int) - min ((a:Int)+(K:Int)) c).toNat:=by
  unfold ovX;congr 2;congr 1;omega
 have eY:ovY y ((a:Int) - P) c ((P:Int)+K)=y*2^((c:Int) - min ((a:Int)+(K:Int)) c).toNat:=by
  unfold ovY;congr 2;congr 1;omega
 have h:=zH7 (s:=s) (x:=x) (y:=y) (k:=(max 0 (64+(bl y:Int) - (bl x:Int))).toNat) (ea:=(a:Int) - P) (eb:=c) (P:=(P:Int)+K) hm hy (yC0 hx hy hk) (by rw[eX,eY,←f1];exact hK)
 rw[eX,eY] at h;rw[hd,f1,←h];unfold rtF rtK;simp
theorem qO6 {Z P:Nat} (s:Bool) {m:Int} (hm:1≤m∧m≤3) (hZ:Z≠0):rtF (un (if s then -(Z:Int) else(Z:Int)) P) (un ((1:Nat):Int) 0) m=tfF s true Z (-(P:Int)) m:=by
 have hb:64≤bl (Z*2^64 / 1):=by
  rw[Nat.div_one];refine yY0 (n:=63) ?_;have h1:1≤Z:=Nat.one_le_iff_ne_zero.2 hZ;have h2:1*2^64≤Z*2^64:=xL7 _ h1;exact xW (by decide) h2
 rw[zW4 s hm hZ (by decide) hb,Nat.div_one,Nat.mod_one,xL4 rfl,qO2 hm]
 congr 1
 omega
theorem xK2 {Z:Nat} (s:Bool) {e m:Int} (hm:1≤m∧m≤3) (hZ:Z≠0):tfF s true (Z / 2^tz Z) ((tz Z:Int)+e) m=tfF s true Z e m:=by
 have sZ:=(qX0 _ _ (xL0 _) hZ).1;rw[xC4] at sZ;have h:=qO2 (s:=s) (x:=Z / 2^tz Z) (n:=tz Z) (e:=e) hm;rw[sZ] at h;rw[h];congr 1
 omega
theorem yD3 {Z U P c:Nat} (s:Bool) {m:Int} (hm:1≤m∧m≤3) (hZ:Z≠0) (hU:U≠0) (hc:1025≤c) (h:U*2^(P+c)≤Z) {y:Nat} {f:Int} (hy:y≠0) (hf:1024<(bl y:Int)+f) :
  rtF (un (if s then -(Z:Int) else(Z:Int)) P) (un (U:Int) 0) m=tfF s true y f m:=by
 have h1:2^(P+c)≤Z / U:=by
  rw[Nat.le_div_iff_mul_le (by omega),xC4]
  exact h
 have h2:=yY0 h1;have hK:64≤bl (Z*2^0 / U):=by rw[xC7,xE1];omega
 rw[zW4 s hm hZ hU hK];refine zL2 hm (.inl hK) hy ?_ hf;rw[xC7,xE1];push_cast;omega
theorem yC {Z U P:Nat} (s:Bool) {m:Int} (hm:1≤m∧m≤3) (hZ:Z≠0) (hU:U≠0) {c:Nat} (hc:1077≤c) (h:Z*2^c≤U*2^P) {y:Nat} {f:Int} (hy:y≠0) (hf:(bl y:Int)+f < -1075) :
  rtF (un (if s then -(Z:Int) else(Z:Int)) P) (un (U:Int) 0) m=tfF s true y f m:=by
 obtain⟨K,hKd⟩:∃ K,K=64+bl U:=⟨_,rfl⟩;have hK:64≤bl (Z*2^K / U):=by
  refine yC0 hZ hU ?_;omega
 rw[zW4 s hm hZ hU hK];refine qT5 hm (.inl hK) hy ?_ hf;have h1:Z*2^K / U*2^c≤2^(P+K):=by
  have h3:Z*2^K / U*2^c≤Z*2^K*2^c / U:=by
   rw[Nat.le_div_iff_mul_le (by omega)]
   have:=xE9 (Z*2^K) U
   calc Z*2^K / U*2^c*U=Z*2^K / U*U*2^c:=by rw[Nat.mul_right_comm]
    _≤Z*2^K*2^c:=xL7 _ this
  refine xW h3 ?_;rw[Nat.mul_right_comm];have h4:Z*2^c*2^K / U≤U*2^P*2^K / U:=Nat.div_le_div_right (xL7 _ h);rw[xC6 U,Nat.mul_div_cancel_left _ (by omega),←xC3] at h4
  exact h4
 have h5:bl (Z*2^K / U)+c≤P+K+1:=by
  have h6:Z*2^K / U≠0:=by intro h9;rw[h9] at hK;simp[bl] at hK
  rw[←zV9 h6];refine(qJ8 _ _).2 (xL9 h1 (Nat.pow_lt_pow_right (by decide) (by omega)))
 omega
theorem xF {t:Bool×Nat×Int} (hc:cn t.1 t.2.1 t.2.2=t) (h0:t.2.1≠0):t.2.1 % 2=1:=by
 have h1:=(qX0 _ _ (xL0 _) h0).2;have h2:t.2.1 / 2^tz t.2.1=t.2.1:=by
  have:=congrArg (fun u:Bool×Nat×Int=>u.2.1) hc
  unfold cn at this;rw[if_neg h0] at this;exact this
 rw[h2] at h1;exact h1
theorem dtoQ {t:Bool×Nat×Int} {m:Int} (o:Gn t) (hm:1≤m∧m≤3) {W:World} {A:Value} (h:DN W A t):Calls Tryz.prog 96 #[A,.int .i64 m] W fun r w'=>r=.returned (.float .f64 (toD t m))∧Bw W w':=by
 obtain⟨ao,cap,rfl,hA⟩:=h;unfold toD;by_cases h0:t.2.1=0
 ·rw[if_pos h0,h0,qQ5];exact rto_0 t.1 ao cap t.2.2 m W
 ·rw[if_neg h0,qM3 hm];exact rto hA.at_ hA.le (xF o.1 h0) (by have:=o.2.1;omega) (by have:=o.2.2.1;omega) (by have:=o.2.2.2;omega) hm
theorem dratQ {t1 t2:Bool×Nat×Int} {m:Int} (hx:dlen t1.2.1≤2048) (hy:dlen t2.2.1≤2048) (ha : -65536≤t1.2.2∧t1.2.2≤65536) (hb : -65536≤t2.2.2∧t2.2.2≤65536) (hx0:t1.2.1≠0) (hy0:t2.2.1≠0) (hm:1≤m∧m≤3) {W:World} {A B:Value} (h1:DN W A t1) (h2:DN W B t2) :
  Calls Tryz.prog 100 #[A,B,.int .i64 m] W fun r w'=>r=.returned (.float .f64 (rtF t1 t2 m))∧Bw W w':=by
 obtain⟨ao,cap,rfl,hA⟩:=h1;obtain⟨ao',cap',rfl,hA'⟩:=h2;exact yU hA hA' hx hy ha hb hx0 hy0 hm (k:=rtK t1 t2) (by unfold rtK;omega)
theorem qX6 {W:World} {g:Nat} {a b c d e f:Value} {T:TypeId} (h:W.heap[g]?=some (.cells #[a,b,c,d,e,f] T (0,0))):W.cell? ⟨g,0,none⟩=some a∧W.cell? ⟨g,1,none⟩=some b∧W.cell? ⟨g,2,none⟩=some c∧W.cell? ⟨g,3,none⟩=some d∧W.cell? ⟨g,4,none⟩=some e∧W.cell? ⟨g,5,none⟩=some f:=by
 simp[World.cell?,h]
def VdB (w:World) (g:Nat) (TX:Array Value) (wx:World) (s1:Bool) (ao1:Option Addr) (n1 cp1:Nat) (e1:Int) (t:Bool×Nat×Int):Prop :=
 NbQ wx g s1 ao1 n1 cp1 e1 t∧wx.heap[w.heap.size]?=some (.cells TX 64 (0,0))∧Bw w wx∧w.heap.size<g
theorem VdB.later {w wx w':World} {g:Nat} {TX:Array Value} {s1:Bool} {ao1:Option Addr} {n1 cp1:Nat} {e1:Int} {t:Bool×Nat×Int} (h:VdB w g TX wx s1 ao1 n1 cp1 e1 t) (hb:Bw wx w'):VdB w g TX w' s1 ao1 n1 cp1 e1 t:=by
 obtain⟨h1,h2,h3,h4⟩:=h;exact⟨h1.later hb,qQ h2 hb (qQ6 h2),h3.trans (hb.mono h3.size),h4⟩
theorem VdB.put {w wx w':World} {g:Nat} {TX:Array Value} {s1:Bool} {ao1:Option Addr} {n1 cp1:Nat} {e1:Int} {s2:Bool} {ao2:Option Addr} {n2 cp2:Nat} {e2:Int} {t t':Bool×Nat×Int} (h:VdB w g TX wx s1 ao1 n1 cp1 e1 t) (hb:Bw wx w') (hd:DN w' (.agg #[.bool s2,.slice ao2 n2 cp2,.int .i64 e2]) t'):VdB w g TX (((w'.setCell ⟨g,0,none⟩ (.bool s2)).setCell ⟨g,1,none⟩ (.slice ao2 n2 cp2)).setCell ⟨g,2,none⟩ (.int .i64 e2)) s2 ao2 n2 cp2 e2 t':=by
 obtain⟨h1,h2,h3,h4⟩:=h.later hb;exact⟨h1.put hd,qH1 h2 (by omega) _ _ _,qQ3 h3 (by omega) _ _ _,h4⟩
def OutQ (W:World) (t:Bool×Nat×Int) (r:Ending) (w':World):Prop:=∃ (s1:Bool) (ao1:Option Addr) (n1 cp1:Nat) (e1:Int),r=.returned (.agg #[.bool s1,.slice ao1 n1 cp1,.int .i64 e1])∧DN w' (.agg #[.bool s1,.slice ao1 n1 cp1,.int .i64 e1]) t∧Bw W w'
theorem outQ {W w':World} {t:Bool×Nat×Int} {r:Ending} (h:∃ A,r=.returned A∧DN w' A t∧Bw W w'):OutQ W t r w':=by
 obtain⟨A,rfl,hA,hb⟩:=h;obtain⟨s,ao,n,cp,e,rfl⟩:=hA.shape;exact⟨s,ao,n,cp,e,rfl,hA,hb⟩
theorem gn_gN {t:Bool×Nat×Int} (h:Gn t):Gn (gN t):=by
 unfold gN;by_cases h0:t.2.1=0
 ·rw[if_pos h0];exact⟨by unfold cn;rw[if_pos rfl],by simp only[qQ5];omega,by simp only;omega,by simp only;omega⟩
 ·rw[if_neg h0];refine⟨?_,h.2⟩
  have hc:=h.1;unfold cn at hc ⊢;rw[if_neg h0] at hc ⊢;have h1:=congrArg (fun u:Bool×Nat×Int=>u.2) hc;simp only at h1 ⊢
  rw[h1]
theorem qH3 (L:List UInt8):(⟨L.toArray⟩:ByteArray).toList=L:=by
 rw[ByteArray.toList_eq]
theorem zB1 {k:Int}:gK k (un 1 0)=(false,1,k):=by
 have e:un 1 0=(false,1,0):=by decide +kernel
 rw[e];unfold gK;rw[if_neg (by decide)]
 simp
theorem gn_gM {Z:Int} {p b:Nat} (h:Z.natAbs<2^b) (hb:b≤8000) (hp:p≤4000) (tn:Nat) (ht:tn≤2000):Gn (gM (un Z p) (un ((10^tn:Nat):Int) 0)):=by
 rw[yF0];refine qR2 (b:=b+(4*tn+1)) ?_ (by omega) (by omega)
 rw[Int.natAbs_mul,xC3];exact Nat.mul_lt_mul_of_lt_of_le h (xE8 (qD8 tn)) (xL5 _)
theorem yP0 {Z:Int} {p b:Nat} (h:Z.natAbs<2^b) (hb:b≤60000) (hp:p≤60000) (h0:Z≠0):dlen (un Z p).2.1≤2048∧(-65536≤(un Z p).2.2∧(un Z p).2.2≤65536)∧(un Z p).2.1≠0:=by
 have h1:=un_e (p:=p) h;have h2:=zZ3 (zG2 (p:=p) h);refine⟨by omega,by omega,?_⟩
 have hz:Z.natAbs≠0:=by omega
 unfold un cn;rw[if_neg hz];have h3:=(qX0 _ _ (xL0 _) hz).1;intro h9;simp only at h9
 rw[h9,Nat.mul_zero] at h3;omega
theorem yZ (neg hx:Bool) (wd R:ByteArray) (be ex m:Int) (D:List UInt8) (n j:Nat) (F:Nat) (TN TM:Bool×Nat×Int) (tv xv ten:Int) (w:World) (hhx:hx=false) (hR:Hid (R=⟨D.toArray⟩)) (hn:R.size=n) (hL:n≤1100) (hbe:0≤be∧be≤1100) (hex : -1000000000≤ex∧ex≤1000000000) (hm:1≤m∧m≤3)
  (hj:j<n) (hz:Hid (∀ k,k<j→bL D k=48)) (hnz:Hid (bL D j≠48)) (hdg:Hid (∀ k,k<n→48≤bL D k∧bL D k≤57))
  (htv:tv=ex - be) (hxv:xv=tv+((n - j:Nat):Int)) (hN:Hid ((400<xv→TN=(false,1,2000)∧ten=0)∧(xv < -400→TN=(false,1,-2000)∧ten=0)∧(-400≤xv∧xv≤400→TN=un (dvP 10 (D.drop j) (n - j):Nat) 0∧ten=tv)))
  (hTM:Hid (TM=if neg then gN TN else TN)) (hF1:Hid (∀ tn:Nat,ten=(tn:Int)→toD (gM TM (un ((10^tn:Nat):Int) 0)) m=F)) (hF2:Hid (∀ tn:Nat,0<tn→ten = -(tn:Int)→rtF TM (un ((10^tn:Nat):Int) 0) m=F))
  (Z:Int) (pz bz:Nat) (hZ:Hid (TM=un Z pz)) (hZb:Hid (Z.natAbs<2^bz)) (hZ0:Z≠0) (hbz:bz≤8000) (hpz:pz≤4000) (hten : -2000≤ten∧ten≤2000) :
  Calls Tryz.prog 56 #[.agg #[.bool neg,.string wd,.bool hx,.string R,.int .i64 be,.int .i64 ex],.int .i64 m] w fun r w'=>r=.returned (.float .f64 F)∧Bw w w':=by
 subst hhx;obtain⟨W,hW⟩:∃ W,W=w.alloc (.cells #[.bool neg,.string wd,.bool false,.string R,.int .i64 be,.int .i64 ex] 64):=⟨_,rfl⟩;have HW:Hid (Bw w W∧W.heap[w.heap.size]?=some (.cells #[.bool neg,.string wd,.bool false,.string R,.int .i64 be,.int .i64 ex] 64 (0,0))):=⟨by rw[hW];exact(xL1 _ _).alloc (xL0 _) _,by rw[hW];exact xW8 _ _⟩
 obtain⟨c0,c1,c2,c3,c4,c5⟩:=qX6 HW.out.2;have hRg:∀ k (h:k<R.size),(R[k]'h).toNat=bL D k:=by rw[hR.out];exact qU0 D
 have HRg:Hid (∀ k (h:k<R.size),(R[k]'h).toNat=bL D k):=hRg;clear hRg
 go_enter Tryz.func56,Tryz.ntmps56
 go_upto_region 1 with fail;rw[←hW];clear hW
 go_upto_region 12 with fail
 go_wp2_with fail
 go_loopw [8] (fun v wr=>∃ i:Nat,i≤j∧v=.int .i64 (i:Nat)∧wr=W) (fun v _=>n - (intOf v).toNat)
 case atStart=>exact⟨0,xW5 _,rfl,rfl⟩
 case round =>
  obtain⟨i,hi,rfl,rfl⟩:=hrel;have hin:(i:Int)<(n:Int):=by omega
  have hiR:i<R.size:=by omega
  have hg2:=HRg.out i;have hwi:IntKind.i64.wrap ((i:Int)+1)=(i:Int)+1:=by rw[xW6];omega
  by_cases hij:i<j
  ·rw[hz.out i hij] at hg2
   go_wp2;exact⟨⟨i+1,by omega,by congr 1,trivial⟩,by simp[intOf];omega⟩
  ·obtain rfl:i=j:=by omega
   obtain⟨c,hc⟩:∃ c,c=bL D i:=⟨_,rfl⟩;have hcn:¬ (c:Int)=48:=by rw[hc];have:=hnz.out;omega
   rw[←hc] at hg2;clear hc;have hw1:IntKind.i64.wrap (ex - be)=tv:=by rw[xW6];omega
   obtain⟨q,hq⟩:∃ q,q=n - i:=⟨_,rfl⟩;rw[←hq] at hxv;have hw2:IntKind.i64.wrap (tv+(q:Int))=xv:=by rw[xW6];omega
   have HT:Hid (tv=ex - be∧xv=tv+(q:Int)):=⟨htv,hxv⟩;clear htv hxv;obtain⟨S,hS⟩:∃ S,R.extract i n=S:=⟨_,rfl⟩;have hS2:S=⟨(D.drop i).toArray⟩:=by
    rw[←hS];have hDn:n=D.length:=by rw[←hn,hR.out];rfl
    have h9:=hR.out;subst h9;rw[hDn];exact qJ0 D i
   have hSs:S.size=q:=by rw[hS2,hq];show(D.drop i).length=_;rw[List.length_drop,←hn,hR.out];rfl
   have hSe:S.toList.isEmpty=false:=by
    rw[hS2];show(⟨(D.drop i).toArray⟩:ByteArray).toList.isEmpty=false
    rw[qH3];have h9:(D.drop i).length=q:=by rw[hS2] at hSs;exact hSs
    cases hd:D.drop i with
    | nil=>rw[hd] at h9;simp at h9;omega
    | cons a b=>rfl
   have kG:=yB0 (D.drop i) q wr (by show q=(D.drop i).length;rw[hS2] at hSs;exact hSs.symm) (by omega) (fun k hk=>by
    have:=hdg.out (i+k) (by omega)
    unfold bL at this ⊢;rw[List.getElem?_drop];exact this)
   rw[←hS2] at kG;have HQ:Hid (q=n - i):=hq;clear hq hS2
   go_wp2_with fail;refine(kG.mono fun r w' h=>outQ h).mono ?_
   rintro r w1 ⟨s1,ao1,n1,cp1,e1,rfl,hd1,hb1⟩;clear kG;obtain⟨V,hV⟩:∃ V,V=w1.alloc (.cells #[.bool s1,.slice ao1 n1 cp1,.int .i64 e1] 132):=⟨_,rfl⟩;obtain⟨g,hg⟩:∃ g,g=w1.heap.size:=⟨_,rfl⟩;have HV0:Hid (VdB w g #[.bool neg,.string wd,.bool false,.string R,.int .i64 be,.int .i64 ex] V s1 ao1 n1 cp1 e1 (un (dvP 10 (D.drop i) q:Nat) 0)):=by
    have hbV:Bw w1 V:=by rw[hV];exact(xL1 _ _).alloc (xL0 _) _
    have hb2:=hb1.trans (hbV.mono hb1.size);have h8:=qQ6 HW.out.2;refine⟨⟨by rw[hV,hg];exact xW8 _ _,hd1.later hbV⟩,qQ HW.out.2 hb2 h8,HW.out.1.trans (hb2.mono HW.out.1.size),?_⟩
    have:=hb1.size
    omega
   clear hd1 hb1 c0 c1 c2 c3 c4 c5
   go_upto_block 4 with fail;rw[←hV,←hg];clear hV hg
   go_cut [10] from 81 to 90 (fun v wx=>v=.int .i64 ten∧∃ (s5:Bool) (ao5:Option Addr) (n5 cp5:Nat) (e5:Int),Hid (VdB w g #[.bool neg,.string wd,.bool false,.string R,.int .i64 be,.int .i64 ex] wx s5 ao5 n5 cp5 e5 TN))
   case first =>
    by_cases hbig:400<xv
    ·have HN9:=hN.out.1 hbig;have kW:=zK6 (n:=1) (by omega) V
     go_wp2_with fail;refine(kW.mono fun r w' h=>outQ h).mono ?_
     rintro r w2 ⟨s2,ao2,n2,cp2,e2,rfl,hd2,hb2⟩;have kS:=qA4 (k:=2000) (qR2 (b:=1) (by decide) (by omega) (by omega)) hd2 (by omega)
     rw[zB1] at kS;clear kW
     go_wp2_with fail;refine(kS.mono fun r w' h=>outQ h).mono ?_
     rintro r w3 ⟨s3,ao3,n3,cp3,e3,rfl,hd3,hb3⟩;have hb23:=hb2.trans (hb3.mono hb2.size);have HV3:Hid (VdB w g #[.bool neg,.string wd,.bool false,.string R,.int .i64 be,.int .i64 ex] (((w3.setCell ⟨g,0,none⟩ (.bool s3)).setCell ⟨g,1,none⟩ (.slice ao3 n3 cp3)).setCell ⟨g,2,none⟩ (.int .i64 e3)) s3 ao3 n3 cp3 e3 TN):=by rw[(HN9:TN=_∧ten=0).1];exact HV0.out.put hb23 hd3
     obtain⟨⟨c0,c1,c2⟩,f0,f1,f2⟩:=qQ0 (HV0.out.later hb23).1.1;clear kS hd2 hb2 hd3 hb3 hb23;have hten:=(HN9:TN=_∧ten=0).2;clear HN9 HV0
     go_wp2_with fail
     go_meet
     exact⟨by rw[hten],_,_,_,_,_,HV3⟩
    ·by_cases htin:xv < -400
     ·have HN9:=hN.out.2.1 htin;have kW:=zK6 (n:=1) (by omega) V
      go_wp2_with fail;refine(kW.mono fun r w' h=>outQ h).mono ?_
      rintro r w2 ⟨s2,ao2,n2,cp2,e2,rfl,hd2,hb2⟩;have kS:=qA4 (k := -2000) (qR2 (b:=1) (by decide) (by omega) (by omega)) hd2 (by omega)
      rw[zB1] at kS;clear kW
      go_wp2_with fail;refine(kS.mono fun r w' h=>outQ h).mono ?_
      rintro r w3 ⟨s3,ao3,n3,cp3,e3,rfl,hd3,hb3⟩;have hb23:=hb2.trans (hb3.mono hb2.size);have HV3:Hid (VdB w g #[.bool neg,.string wd,.bool false,.string R,.int .i64 be,.int .i64 ex] (((w3.setCell ⟨g,0,none⟩ (.bool s3)).setCell ⟨g,1,none⟩ (.slice ao3 n3 cp3)).setCell ⟨g,2,none⟩ (.int .i64 e3)) s3 ao3 n3 cp3 e3 TN):=by rw[(HN9:TN=_∧ten=0).1];exact HV0.out.put hb23 hd3
      obtain⟨⟨c0,c1,c2⟩,f0,f1,f2⟩:=qQ0 (HV0.out.later hb23).1.1;clear kS hd2 hb2 hd3 hb3 hb23;have hten:=(HN9:TN=_∧ten=0).2;clear HN9 HV0
      go_wp2_with fail
      go_meet
      exact⟨by rw[hten],_,_,_,_,_,HV3⟩
     ·have HN9:=hN.out.2.2 (by omega)
      go_wp2_with fail
      go_meet
      exact⟨by rw[HN9.2],_,_,_,_,_,by rw[HN9.1,←HQ.out];exact HV0⟩
   case rest =>
    obtain⟨rfl,s6,ao6,n6,cp6,e6,HV6⟩:=hcut;clear HV0;obtain⟨c0,c1,c2,c3,c4,c5⟩:=qX6 HV6.out.2.1
    go_upto_if 92 with fail
    go_cut [] from 93 to 94 (fun wx=>∃ (s5:Bool) (ao5:Option Addr) (n5 cp5:Nat) (e5:Int),Hid (VdB w g #[.bool neg,.string wd,.bool false,.string R,.int .i64 be,.int .i64 ex] wx s5 ao5 n5 cp5 e5 TM))
    case first =>
     cases neg
     ·go_wp2_with fail
      go_meet
      have h9:TM=TN:=by rw[hTM.out];simp
      exact⟨_,_,_,_,_,by rw[h9];exact HV6⟩
     ·obtain⟨⟨d0,d1,d2⟩,f0,f1,f2⟩:=qQ0 HV6.out.1.1;have kM:=yR2 HV6.out.1.2
      go_wp2_with fail;refine(kM.mono fun r w' h=>outQ h).mono ?_
      rintro r w3 ⟨s3,ao3,n3,cp3,e3,rfl,hd3,hb3⟩;have HV3:Hid (VdB w g #[.bool true,.string wd,.bool false,.string R,.int .i64 be,.int .i64 ex] (((w3.setCell ⟨g,0,none⟩ (.bool s3)).setCell ⟨g,1,none⟩ (.slice ao3 n3 cp3)).setCell ⟨g,2,none⟩ (.int .i64 e3)) s3 ao3 n3 cp3 e3 TM):=by(have h9:TM=gN TN:=by(rw[hTM.out];simp));rw[h9];exact HV6.out.put hb3 hd3
      clear d0 d1 d2 f0 f1 f2;obtain⟨⟨d0,d1,d2⟩,f0,f1,f2⟩:=qQ0 (HV6.out.later hb3).1.1;clear kM hd3 hb3 HV6 c0 c1 c2 c3 c4 c5
      go_wp2_with fail
      go_meet
      exact⟨_,_,_,_,_,HV3⟩
    case rest =>
     obtain⟨s5,ao5,n5,cp5,e5,HV⟩:=hcut;clear HV6 c0 c1 c2 c3 c4 c5;have HZ:Hid (Gn TM∧(∀ tn:Nat,tn≤2000→Gn (gM TM (un ((10^tn:Nat):Int) 0)))∧dlen TM.2.1≤2048∧(-65536≤TM.2.2∧TM.2.2≤65536)∧TM.2.1≠0):=by
      rw[hZ.out];exact⟨qR2 hZb.out (by omega) (by omega),fun tn ht=>gn_gM hZb.out hbz hpz tn ht,yP0 hZb.out (by omega) (by omega) hZ0⟩
     have oT:Hid (∀ tn:Nat,tn≤2000→dlen (un ((10^tn:Nat):Int) 0).2.1≤2048∧(-65536≤(un ((10^tn:Nat):Int) 0).2.2∧(un ((10^tn:Nat):Int) 0).2.2≤65536)∧(un ((10^tn:Nat):Int) 0).2.1≠0):=(fun tn ht=>yP0 (qD8 tn) (by omega) (by omega) (by have:=Nat.pow_pos (n:=tn) (show 0<10 by decide);omega):∀ tn:Nat,tn≤2000→dlen (un ((10^tn:Nat):Int) 0).2.1≤2048∧(-65536≤(un ((10^tn:Nat):Int) 0).2.2∧(un ((10^tn:Nat):Int) 0).2.2≤65536)∧(un ((10^tn:Nat):Int) 0).2.1≠0)
     by_cases ht0:0≤ten
     ·obtain⟨tn,rfl⟩:∃ tn:Nat,ten=(tn:Int):=⟨ten.toNat,by omega⟩
      have hFF:=hF1.out tn rfl;have HFF:Hid _:=hFF;clear hFF
      go_upto_region 30 with fail;refine qF9 [0,1,2,3,4,5,6] [97,98,99,100,101,102,4] [[],[],[1],[0,2],[],[3,4],[5]] wc _ [isV (.agg #[.bool s5,.slice ao5 n5 cp5,.int .i64 e5]),isV (.int .i64 (tn:Nat)),isD (un ((10^tn:Nat):Int) 0),isD (gM TM (un ((10^tn:Nat):Int) 0)),isV (.int .i64 m),isV (.float .f64 F),isV (.float .f64 F)] (by kernel_rfl) ⟨qQ2 _,qQ2 _,qG3 _,qG3 _,qQ2 _,qQ2 _,qQ2 _,trivial⟩ (by show ∀ s ∈ [97,98,99,100,101,102,4],s<109;decide) ?_ ?_
      ·intro j hj o ho act U hb hoth hdep;have hj':j<7:=hj;have t12':act.tmps[(12:Nat)]?=some (Value.pointer (some ⟨g,0,none⟩)):=(hoth 12 (by decide)).trans rfl
       have t10':act.tmps[(10:Nat)]?=some (Value.int .i64 (tn:Nat)):=(hoth 10 (by decide)).trans rfl
       have t1':act.tmps[(1:Nat)]?=some (Value.int .i64 m):=(hoth 1 (by decide)).trans rfl
       have d0:=(qQ0 (HV.out.later hb).1.1).1;rcases(by omega:j=0∨j=1∨j=2∨j=3∨j=4∨j=5∨j=6)with rfl|rfl|rfl|rfl|rfl|rfl|rfl
       ·obtain rfl:=xL2 ho;exact .inl ⟨rfl,zK0 rfl t12' d0.1 d0.2.1 d0.2.2 ⟨_,rfl,rfl,xL1 _ _⟩⟩
       ·obtain rfl:=xL2 ho;exact .inl ⟨rfl,qZ5 rfl t10' ⟨_,rfl,rfl,xL1 _ _⟩⟩
       ·obtain rfl:=xL2 ho;have y1:act.tmps[(98:Nat)]?=_:=dV (hdep 1 (by simp[dL])) rfl
        refine .inl ⟨rfl,qZ1 rfl (qX2 Tryz.func99 (by kernel_rfl) (by kernel_rfl)) (vs:=#[.int .i64 (tn:Nat)]) (by simp[qZ0 y1]) ?_⟩
        refine(xM8 tn U (by omega)).mono ?_
        rintro r w' ⟨A,rfl,hA,hb'⟩;exact⟨_,rfl,_,rfl,hA,hb'⟩
       ·obtain rfl:=xL2 ho;have y0:act.tmps[(97:Nat)]?=_:=dV (hdep 0 (by simp[dL])) rfl
        obtain⟨u2,y20,v2⟩:=hdep 2 (by simp[dL])
        have y2:act.tmps[(99:Nat)]?=_:=y20;refine .inl ⟨rfl,qZ1 rfl (qX2 Tryz.func98 (by kernel_rfl) (by kernel_rfl)) (vs:=#[.agg #[.bool s5,.slice ao5 n5 cp5,.int .i64 e5],u2]) (by simp[qZ0 y0,qZ0 y2]) ?_⟩
        refine(yR1 HZ.out.1 (qR2 (qD8 tn) (by omega) (by omega)) (HV.out.later hb).1.2 v2).mono ?_
        rintro r w' ⟨A,rfl,hA,hb'⟩;exact⟨_,rfl,_,rfl,hA,hb'⟩
       ·obtain rfl:=xL2 ho;exact .inl ⟨rfl,qZ5 rfl t1' ⟨_,rfl,rfl,xL1 _ _⟩⟩
       ·obtain rfl:=xL2 ho;obtain⟨u3,y30,v3⟩:=hdep 3 (by simp[dL])
        have y3:act.tmps[(100:Nat)]?=_:=y30;have y4:act.tmps[(101:Nat)]?=_:=dV (hdep 4 (by simp[dL])) rfl
        refine .inl ⟨rfl,qZ1 rfl (qX2 Tryz.func96 (by kernel_rfl) (by kernel_rfl)) (vs:=#[u3,.int .i64 m]) (by simp[qZ0 y3,qZ0 y4]) ?_⟩
        refine(dtoQ (HZ.out.2.1 tn (by omega)) hm v3).mono ?_
        rintro r w' ⟨rfl,hb'⟩;exact⟨_,rfl,_,rfl,(by rw[←HFF.out];rfl),hb'⟩
       ·obtain rfl:=xL2 ho;have y5:act.tmps[(102:Nat)]?=_:=dV (hdep 5 (by simp[dL])) rfl
        exact .inl ⟨rfl,qX3 rfl y5 ⟨_,rfl,rfl,xL1 _ _⟩⟩
      ·intro u W9 hb9 hu;have u6:u 6=.float .f64 F:=hu 6 (by show 6<7;decide)
       clear hu;simp only[putL,show List.range 7 = [0,1,2,3,4,5,6] from rfl,List.length_cons,List.length_nil,List.getD_cons_zero,List.getD_cons_succ,List.map_cons,List.map_nil,List.cons_append,List.nil_append,List.foldl_cons,List.foldl_nil,Nat.reduceLT,Nat.reduceMod,Nat.reduceDiv,Nat.reduceMul,Nat.reduceAdd,Nat.reduceEqDiff,reduceIte,Nat.one_ne_zero,Act.put,List.setIfInBounds_toArray,List.set_cons_zero,List.set_cons_succ];rw[u6];clear u6;have HB9:Hid (Bw wc W9):=hb9;clear hb9
       go_wp2
       go_ret;exact⟨rfl,HV.out.2.2.1.trans (HB9.out.mono HV.out.2.2.1.size)⟩
     ·obtain⟨tn,htn⟩:∃ tn:Nat,ten = -(tn:Int):=⟨(-ten).toNat,by omega⟩
      have hFF:=hF2.out tn (by omega) htn
      have HFF:Hid _:=hFF;subst htn;clear hFF
      go_upto_region 31 with fail;refine qF9 [0,1,2,3,4,5,6] [103,104,105,106,107,108,4] [[],[],[1],[2],[],[0,3,4],[5]] wc _ [isV (.agg #[.bool s5,.slice ao5 n5 cp5,.int .i64 e5]),isV (.int .i64 (-(tn:Nat):Int)),isV (.int .i64 (tn:Nat)),isD (un ((10^tn:Nat):Int) 0),isV (.int .i64 m),isV (.float .f64 F),isV (.float .f64 F)] (by kernel_rfl) ⟨qQ2 _,qQ2 _,qQ2 _,qG3 _,qQ2 _,qQ2 _,qQ2 _,trivial⟩ (by show ∀ s ∈ [103,104,105,106,107,108,4],s<109;decide) ?_ ?_
      ·intro j hj o ho act U hb hoth hdep;have hj':j<7:=hj;have t12':act.tmps[(12:Nat)]?=some (Value.pointer (some ⟨g,0,none⟩)):=(hoth 12 (by decide)).trans rfl
       have t10':act.tmps[(10:Nat)]?=some (Value.int .i64 (-(tn:Nat):Int)):=(hoth 10 (by decide)).trans rfl
       have t1':act.tmps[(1:Nat)]?=some (Value.int .i64 m):=(hoth 1 (by decide)).trans rfl
       have d0:=(qQ0 (HV.out.later hb).1.1).1;rcases(by omega:j=0∨j=1∨j=2∨j=3∨j=4∨j=5∨j=6)with rfl|rfl|rfl|rfl|rfl|rfl|rfl
       ·obtain rfl:=xL2 ho;exact .inl ⟨rfl,zK0 rfl t12' d0.1 d0.2.1 d0.2.2 ⟨_,rfl,rfl,xL1 _ _⟩⟩
       ·obtain rfl:=xL2 ho;exact .inl ⟨rfl,qZ5 rfl t10' ⟨_,rfl,rfl,xL1 _ _⟩⟩
       ·obtain rfl:=xL2 ho;have y1:act.tmps[(104:Nat)]?=_:=dV (hdep 1 (by simp[dL])) rfl
        exact .inl ⟨rfl,zF1 (x := -(tn:Int)) (by omega) rfl y1 ⟨_,rfl,(congrArg (Value.int .i64) (Int.neg_neg (tn:Int)):Value.int .i64 (-(-(tn:Int)))=.int .i64 (tn:Int)),xL1 _ _⟩⟩
       ·obtain rfl:=xL2 ho;have y2:act.tmps[(105:Nat)]?=_:=dV (hdep 2 (by simp[dL])) rfl
        refine .inl ⟨rfl,qZ1 rfl (qX2 Tryz.func99 (by kernel_rfl) (by kernel_rfl)) (vs:=#[.int .i64 (tn:Nat)]) (by simp[qZ0 y2]) ?_⟩
        refine(xM8 tn U (by omega)).mono ?_
        rintro r w' ⟨A,rfl,hA,hb'⟩;exact⟨_,rfl,_,rfl,hA,hb'⟩
       ·obtain rfl:=xL2 ho;exact .inl ⟨rfl,qZ5 rfl t1' ⟨_,rfl,rfl,xL1 _ _⟩⟩
       ·obtain rfl:=xL2 ho;have y0:act.tmps[(103:Nat)]?=_:=dV (hdep 0 (by simp[dL])) rfl
        obtain⟨u3,y30,v3⟩:=hdep 3 (by simp[dL])
        have y3:act.tmps[(106:Nat)]?=_:=y30;have y4:act.tmps[(107:Nat)]?=_:=dV (hdep 4 (by simp[dL])) rfl
        refine .inl ⟨rfl,qZ1 rfl (qX2 Tryz.func100 (by kernel_rfl) (by kernel_rfl)) (vs:=#[.agg #[.bool s5,.slice ao5 n5 cp5,.int .i64 e5],u3,.int .i64 m]) (by simp[qZ0 y0,qZ0 y3,qZ0 y4]) ?_⟩
        refine(dratQ HZ.out.2.2.1 (oT.out tn (by omega)).1 HZ.out.2.2.2.1 (oT.out tn (by omega)).2.1 HZ.out.2.2.2.2 (oT.out tn (by omega)).2.2 hm (HV.out.later hb).1.2 v3).mono ?_
        rintro r w' ⟨rfl,hb'⟩;exact⟨_,rfl,_,rfl,(by rw[←HFF.out];rfl),hb'⟩
       ·obtain rfl:=xL2 ho;have y5:act.tmps[(108:Nat)]?=_:=dV (hdep 5 (by simp[dL])) rfl
        exact .inl ⟨rfl,qX3 rfl y5 ⟨_,rfl,rfl,xL1 _ _⟩⟩
      ·intro u W9 hb9 hu;have u6:u 6=.float .f64 F:=hu 6 (by show 6<7;decide)
       clear hu;simp only[putL,show List.range 7 = [0,1,2,3,4,5,6] from rfl,List.length_cons,List.length_nil,List.getD_cons_zero,List.getD_cons_succ,List.map_cons,List.map_nil,List.cons_append,List.nil_append,List.foldl_cons,List.foldl_nil,Nat.reduceLT,Nat.reduceMod,Nat.reduceDiv,Nat.reduceMul,Nat.reduceAdd,Nat.reduceEqDiff,reduceIte,Nat.one_ne_zero,Act.put,List.setIfInBounds_toArray,List.set_cons_zero,List.set_cons_succ];rw[u6];clear u6;have HB9:Hid (Bw wc W9):=hb9;clear hb9
       go_wp2
       go_ret;exact⟨rfl,HV.out.2.2.1.trans (HB9.out.mono HV.out.2.2.1.size)⟩
theorem xM4 (neg:Bool) (wd R:ByteArray) (be ex m:Int) (D:List UInt8) (n:Nat) (w:World) (hR:Hid (R=⟨D.toArray⟩)) (hn:R.size=n) (hL:n≤1100)
  (hz:Hid (∀ k,k<n→bL D k=48)) :
  Calls Tryz.prog 56 #[.agg #[.bool neg,.string wd,.bool false,.string R,.int .i64 be,.int .i64 ex],.int .i64 m] w fun r w'=>r=.returned (.float .f64 0)∧Bw w w':=by
 obtain⟨W,hW⟩:∃ W,W=w.alloc (.cells #[.bool neg,.string wd,.bool false,.string R,.int .i64 be,.int .i64 ex] 64):=⟨_,rfl⟩;have HW:Hid (Bw w W∧W.heap[w.heap.size]?=some (.cells #[.bool neg,.string wd,.bool false,.string R,.int .i64 be,.int .i64 ex] 64 (0,0))∧W.heap.size=w.heap.size+1):=⟨by rw[hW];exact(xL1 _ _).alloc (xL0 _) _,by rw[hW];exact xW8 _ _,by rw[hW];simp⟩
 obtain⟨c0,c1,c2,c3,c4,c5⟩:=qX6 HW.out.2.1;have hRg:∀ k (h:k<R.size),(R[k]'h).toNat=bL D k:=by rw[hR.out];exact qU0 D
 have HRg:Hid (∀ k (h:k<R.size),(R[k]'h).toNat=bL D k):=hRg;clear hRg
 go_enter Tryz.func56,Tryz.ntmps56
 go_upto_region 1 with fail;rw[←hW];clear hW
 go_upto_region 12 with fail
 go_wp2_with fail
 go_loopw [8] (fun v wr=>∃ i:Nat,i≤n∧v=.int .i64 (i:Nat)∧wr=W) (fun v _=>n - (intOf v).toNat)
 case atStart=>exact⟨0,xW5 _,rfl,rfl⟩
 case round =>
  obtain⟨i,hi,rfl,rfl⟩:=hrel;have hwi:IntKind.i64.wrap ((i:Int)+1)=(i:Int)+1:=by rw[xW6];omega
  by_cases hij:i<n
  ·have hin:(i:Int)<(n:Int):=by omega
   have hiR:i<R.size:=by omega
   have hg2:=HRg.out i;rw[hz.out i hij] at hg2
   go_wp2;exact⟨⟨i+1,by omega,by congr 1,trivial⟩,by simp[intOf];omega⟩
  ·obtain rfl:i=n:=by omega
   have hin:¬ (i:Int)<(i:Int):=by omega
   have hS:R.extract i i=⟨#[]⟩:=by
    have h9:=hR.out;subst h9;have h8:i=D.length:=hn.symm;rw[h8,qJ0 D D.length,List.drop_length]
   go_wp2_with fail
   go_ret;exact⟨rfl,HW.out.1⟩
theorem yF {W:World} {ao:Option Addr} {n z g:Nat} {s1:Bool} {ao1:Option Addr} {n1 cp1:Nat} {e1:Int} (h:At W ao n z) (hE:W.heap[g]?=some (.cells #[.bool s1,.slice ao1 n1 cp1,.int .i64 e1] 132 (0,0))) (cs:Array Value):At (W.setRow g cs) ao n z:=by
 obtain⟨bb,o,h1,h2⟩:=h;refine⟨bb,o,h1,fun i hi=>?_⟩
 have hc:=h2 i hi;have hne:bb≠g:=by
  rintro rfl;simp only[World.cell?,hE] at hc;rcases(show o+i=0∨o+i=1∨o+i=2∨3≤o+i by omega)with e|e|e|e
  ·rw[e] at hc;simp at hc
  ·rw[e] at hc;simp at hc
  ·rw[e] at hc;simp at hc
  ·rw[Array.getElem?_eq_none (by simpa using e)] at hc;cases hc
 have h3:=setRow_other W g bb cs hne;simp only[World.cell?] at hc ⊢;rw[h3];exact hc
theorem VdB.putR {w W:World} {g:Nat} {TX:Array Value} {s1:Bool} {ao1:Option Addr} {n1 cp1:Nat} {e1:Int} {s2:Bool} {ao2:Option Addr} {n2 cp2:Nat} {e2:Int} {t t':Bool×Nat×Int} (h:VdB w g TX W s1 ao1 n1 cp1 e1 t) (hd:DN W (.agg #[.bool s2,.slice ao2 n2 cp2,.int .i64 e2]) t'):VdB w g TX (W.setRow g #[.bool s2,.slice ao2 n2 cp2,.int .i64 e2]) s2 ao2 n2 cp2 e2 t':=by
 obtain⟨h1,h2,h3,h4⟩:=h;refine⟨⟨setRow_heap _ _ _ _ _ _ h1.1,?_⟩,(setRow_other W g _ _ (by omega)).trans h2,qG7 h3 (by omega) _,h4⟩
 obtain⟨ao,cap,e1,e2⟩:=hd;exact⟨ao,cap,e1,e2.nil,yF e2.at_ h1.1 _,e2.le,e2.small⟩
theorem yP2 (x:Nat):(un ((x:Nat):Int) 0).1=false:=by unfold un cn;rw[xL3 (by omega)];split <;> rfl
theorem addx (x d:Nat):((x*16:Nat):Int)+((d:Nat):Int)=((x*16+d:Nat):Int):=by push_cast;rfl
theorem gk4 {x:Nat}:gK 4 (un ((x:Nat):Int) 0)=un ((x*16:Nat):Int) 0:=by
 have h:un ((x:Nat):Int) 0=un ((x*16:Nat):Int) 4:=by
  have h9:=qH9 (x:Int) 0 4;rw[h9,Nat.zero_add];congr 1
 rw[h];exact yF1 (by omega)
theorem zK7 {D:List UInt8} {n:Nat} (h:∀ k,k<n→dgB (bL D k)<16):∀ i,i≤n→dvP 16 D i<2^(4*i)
 | 0,_=>by simp[dvP]
 | i+1,hi=>by
  have h1:=zK7 h i (by omega)
  have h2:=h i (by omega)
  show dvP 16 D i*16+dgB (bL D i)<2^(4*i+4)
  rw[xC3];omega
theorem gn_gK {x:Int} {b:Nat} {k:Int} (h:x.natAbs<2^b) (hb:b≤60000) (hk : -100000≤k∧k≤100000):Gn (gK k (un x 0)):=by
 have o:=qR2 (p:=0) h (by omega) (by omega)
 have h1:=un_e (p:=0) h;unfold gK;by_cases h0:(un x 0).2.1=0
 ·rw[if_pos h0];exact⟨by unfold cn;rw[if_pos rfl],by simp only[qQ5];omega,by simp only;omega,by simp only;omega⟩
 ·rw[if_neg h0];refine⟨?_,o.2.1,by simp only;omega,by simp only;omega⟩
  have hc:=o.1;unfold cn at hc ⊢;rw[if_neg h0] at hc ⊢;have h3:=congrArg (fun u:Bool×Nat×Int=>u.2.1) hc;have h4:=congrArg (fun u:Bool×Nat×Int=>u.2.2) hc;simp only at h3 h4 ⊢
  rw[h3];congr 2
  omega
theorem xM5 (neg:Bool) (wd R:ByteArray) (be ex m e9:Int) (D:List UInt8) (n:Nat) (F:Nat) (w:World) (hR:Hid (R=⟨D.toArray⟩)) (hn:R.size=n) (hL:n≤1100) (hbe:0≤be∧be≤1100) (hex : -1000000000≤ex∧ex≤1000000000) (hm:1≤m∧m≤3)
  (hdg:Hid (∀ k,k<n→∃ d:Nat,d<16∧dgF (bL D k)=(d:Int)∧dgB (bL D k)=d)) (he9:Hid (e9=min (max (ex - 4*be) (-100000)) 100000))
  (hF:Hid (F=toD (if neg then gN (gK e9 (un (dvP 16 D n:Nat) 0))else gK e9 (un (dvP 16 D n:Nat) 0)) m)) :
  Calls Tryz.prog 56 #[.agg #[.bool neg,.string wd,.bool true,.string R,.int .i64 be,.int .i64 ex],.int .i64 m] w fun r w'=>r=.returned (.float .f64 F)∧Bw w w':=by
 obtain⟨W,hW⟩:∃ W,W=w.alloc (.cells #[.bool neg,.string wd,.bool true,.string R,.int .i64 be,.int .i64 ex] 64):=⟨_,rfl⟩;have HW:Hid (Bw w W∧W.heap[w.heap.size]?=some (.cells #[.bool neg,.string wd,.bool true,.string R,.int .i64 be,.int .i64 ex] 64 (0,0))∧W.heap.size=w.heap.size+1):=⟨by rw[hW];exact(xL1 _ _).alloc (xL0 _) _,by rw[hW];exact xW8 _ _,by rw[hW];simp⟩
 obtain⟨c0,c1,c2,c3,c4,c5⟩:=qX6 HW.out.2.1;have hRg:∀ k (h:k<R.size),(R[k]'h).toNat=bL D k:=by rw[hR.out];exact qU0 D
 have HRg:Hid (∀ k (h:k<R.size),(R[k]'h).toNat=bL D k):=hRg;clear hRg
 go_enter Tryz.func56,Tryz.ntmps56
 go_upto_region 1 with fail;rw[←hW];clear hW;obtain⟨V,hV⟩:∃ V,V=W.alloc (.cells #[.bool false,.slice none 0 0,.int .i64 0] 132):=⟨_,rfl⟩;obtain⟨g,hg⟩:∃ g,g=W.heap.size:=⟨_,rfl⟩;have HV0:Hid (VdB w g #[.bool neg,.string wd,.bool true,.string R,.int .i64 be,.int .i64 ex] V false none 0 0 0 (un (dvP 16 D 0:Nat) 0)):=by
  have hbV:Bw W V:=by rw[hV];exact(xL1 _ _).alloc (xL0 _) _
  have h8:=qQ6 HW.out.2.1;exact⟨⟨by rw[hV,hg];exact xW8 _ _,gdn0 V⟩,qQ HW.out.2.1 hbV h8,HW.out.1.trans (hbV.mono HW.out.1.size),by omega⟩
 go_upto_region 3 with fail;rw[←hV,←hg];clear hV hg HW c0 c1 c2 c3 c4 c5
 go_wp2_with fail
 go_loopw [6] (fun v wr=>∃ (i:Nat) (s1:Bool) (ao1:Option Addr) (n1 cp1:Nat) (e1:Int),i≤n∧v=.int .i64 (i:Nat)∧Hid (VdB w g #[.bool neg,.string wd,.bool true,.string R,.int .i64 be,.int .i64 ex] wr s1 ao1 n1 cp1 e1 (un (dvP 16 D i:Nat) 0))) (fun v _=>n - (intOf v).toNat)
 case atStart=>exact⟨0,_,_,_,_,_,xW5 _,rfl,HV0⟩
 case round =>
  obtain⟨i,s1,ao1,n1,cp1,e1,hi,rfl,HV⟩:=hrel;clear HV0;have hlt:dvP 16 D i<2^(4*i):=zK7 (n:=n) (fun k hk=>by obtain⟨d,h1,-,h3⟩:=hdg.out k hk;omega) i hi
  obtain⟨x,hX⟩:∃ x,x=dvP 16 D i:=⟨_,rfl⟩;rw[←hX] at HV hlt;have HX:Hid (x=dvP 16 D i):=hX;clear hX;obtain⟨c0,c1,c2,c3,c4,c5⟩:=qX6 HV.out.2.1;by_cases hin:i<n
  ·have hii:(i:Int)<(n:Int):=by omega
   have hiR:i<R.size:=by omega
   obtain⟨c,hc⟩:∃ c,c=bL D i:=⟨_,rfl⟩;have hRc:(R[i]'hiR).toNat=c:=by rw[hc];exact HRg.out i hiR
   have hc256:c<256:=by rw[←hRc];exact UInt8.toNat_lt _
   obtain⟨d,hd16,hcd,hdB⟩:=hdg.out i hin;rw[←hc] at hcd;have HD:Hid (d=dgB (bL D i)):=hdB.symm;clear hc hdB;have hx9:(((x:Nat):Int)).natAbs<2^(4*i):=by rw[xC1];exact hlt
   have hx16:(((x*16:Nat):Int)).natAbs<2^(4*i+4):=by rw[xC1,xC3];omega
   have hd9:(((d:Nat):Int)).natAbs<2^4:=by rw[xC1];omega
   clear hlt
   go_upto_region 6 with fail;refine qT4 qX7 9 23 [[],[0],[],[2],[],[3,4],[5],[6],[1,7]] wr _ [isV (.agg #[.bool s1,.slice ao1 n1 cp1,.int .i64 e1]),isD (un ((x*16:Nat):Int) 0),isV (.pointer (some ⟨w.heap.size,3,none⟩)),isV (.string R),isV (.int .i64 (i:Nat)),isV (.int .u8 (c:Nat)),isV (.int .i64 (d:Nat)),isD (un ((d:Nat):Int) 0),isD (un ((x*16+d:Nat):Int) 0)] (by kernel_rfl) ⟨qQ2 _,qG3 _,qQ2 _,qQ2 _,qQ2 _,qQ2 _,qQ2 _,qG3 _,qG3 _,trivial⟩ (by show 32≤109;decide) ?_ ?_
   ·intro j hj o ho act U hb hoth hdep;have hj':j<9:=hj;have t5':act.tmps[(5:Nat)]?=some (Value.pointer (some ⟨g,0,none⟩)):=(hoth 5 (by omega)).trans rfl
    have t2':act.tmps[(2:Nat)]?=some (Value.pointer (some ⟨w.heap.size,0,none⟩)):=(hoth 2 (by omega)).trans rfl
    have t6':act.tmps[(6:Nat)]?=some (Value.int .i64 (i:Nat)):=(hoth 6 (by omega)).trans rfl
    have d0:=(qQ0 (HV.out.later hb).1.1).1;have dT:=qX6 (HV.out.later hb).2.1;rcases(by omega:j=0∨j=1∨j=2∨j=3∨j=4∨j=5∨j=6∨j=7∨j=8)with rfl|rfl|rfl|rfl|rfl|rfl|rfl|rfl|rfl
    ·obtain rfl:=xL2 ho;exact zK0 rfl t5' d0.1 d0.2.1 d0.2.2 ⟨_,rfl,rfl,xL1 _ _⟩
    ·obtain rfl:=xL2 ho;have y0:act.tmps[(23:Nat)]?=_:=dV (hdep 0 (by simp[dL])) rfl
     refine qZ1 rfl (qX2 Tryz.func93 (by kernel_rfl) (by kernel_rfl)) (vs:=#[.agg #[.bool s1,.slice ao1 n1 cp1,.int .i64 e1],(Value.int IntKind.i64 4)]) (by simp[qZ0 y0,qP9]) ?_
     refine(qA4 (k:=4) (qR2 hx9 (by omega) (by omega)) (HV.out.later hb).1.2 (by omega)).mono ?_
     rintro r w' ⟨A,rfl,hA,hb'⟩;rw[gk4] at hA;exact⟨_,rfl,_,rfl,hA,hb'⟩
    ·obtain rfl:=xL2 ho;exact qZ7 (w':=U) (by simp[execOp,t2',go_sem]) ⟨_,rfl,rfl,xL1 _ _⟩
    ·obtain rfl:=xL2 ho;have y2:act.tmps[(25:Nat)]?=_:=dV (hdep 2 (by simp[dL])) rfl
     exact qZ7 (w':=U) (by simp[execOp,y2,go_sem,dT.2.2.2.1]) ⟨_,rfl,rfl,xL1 _ _⟩
    ·obtain rfl:=xL2 ho;exact qZ5 rfl t6' ⟨_,rfl,rfl,xL1 _ _⟩
    ·obtain rfl:=xL2 ho;have y3:act.tmps[(26:Nat)]?=_:=dV (hdep 3 (by simp[dL])) rfl
     have y4:act.tmps[(27:Nat)]?=_:=dV (hdep 4 (by simp[dL])) rfl
     exact qZ7 (w':=U) (v:=.int .u8 (c:Int)) (by simp[execOp,qZ0 y3,qZ0 y4,zW1 R i c (by omega) hRc U]) ⟨_,rfl,rfl,xL1 _ _⟩
    ·obtain rfl:=xL2 ho;have y5:act.tmps[(28:Nat)]?=_:=dV (hdep 5 (by simp[dL])) rfl
     refine qZ1 rfl (qX2 Tryz.func90 (by kernel_rfl) (by kernel_rfl)) (vs:=#[.int .u8 (c:Nat)]) (by simp[qZ0 y5]) ?_
     refine(zJ2 c U (by omega)).mono ?_
     rintro r w' ⟨rfl,hw⟩;replace hw:=hw.symm;subst hw;exact⟨_,rfl,_,rfl,(by rw[hcd];rfl),xL1 _ _⟩
    ·obtain rfl:=xL2 ho;have y6:act.tmps[(29:Nat)]?=_:=dV (hdep 6 (by simp[dL])) rfl
     refine qZ1 rfl (qX2 Tryz.func94 (by kernel_rfl) (by kernel_rfl)) (vs:=#[.int .i64 (d:Nat)]) (by simp[qZ0 y6]) ?_
     refine(zK6 (n:=(d:Int)) (by omega) U).mono ?_
     rintro r w' ⟨A,rfl,hA,hb'⟩;exact⟨_,rfl,_,rfl,hA,hb'⟩
    ·obtain rfl:=xL2 ho;obtain⟨u1,y10,v1⟩:=hdep 1 (by simp[dL])
     have y1:act.tmps[(24:Nat)]?=_:=y10;obtain⟨u7,y70,v7⟩:=hdep 7 (by simp[dL])
     have y7:act.tmps[(30:Nat)]?=_:=y70;refine qZ1 rfl (qX2 Tryz.func92 (by kernel_rfl) (by kernel_rfl)) (vs:=#[u1,u7]) (by simp[qZ0 y1,qZ0 y7]) ?_
     have k9:=xB7 (qR2 (p:=0) hx16 (by omega) (by omega)) (qR2 (p:=0) hd9 (by omega) (by omega)) v1 v7 (.inl (by rw[yP2,yP2]))
     rw[yI9,addx] at k9;refine k9.mono ?_;rintro r w' ⟨A,rfl,hA,hb'⟩;exact⟨_,rfl,_,rfl,hA,hb'⟩
   ·intro o ho u W9 hb9 hu;have hop:o.op=.store 132 (.tmp 5) (.tmp 31):=by rw[←xL2 ho];rfl
    have hds:o.dst=none:=by rw[←xL2 ho];rfl
    clear ho;have u8:(isD (un ((x*16+d:Nat):Int) 0)) W9 (u 8):=hu 8 (by show 8<9;decide)
    clear hu;simp only[putL,show List.range 9 = [0,1,2,3,4,5,6,7,8] from rfl,List.length_cons,List.length_nil,List.getD_cons_zero,List.getD_cons_succ,List.map_cons,List.map_nil,List.cons_append,List.nil_append,List.foldl_cons,List.foldl_nil,Nat.reduceLT,Nat.reduceMod,Nat.reduceDiv,Nat.reduceMul,Nat.reduceAdd,Nat.reduceEqDiff,reduceIte,Nat.one_ne_zero,Act.put,List.setIfInBounds_toArray,List.set_cons_zero,List.set_cons_succ];obtain⟨s2,ao2,n2,cp2,e2,hu8⟩:=DN.shape u8;have hV9:=HV.out.later hb9;rw[hu8] at u8;have HV2:Hid (VdB w g #[.bool neg,.string wd,.bool true,.string R,.int .i64 be,.int .i64 ex] (W9.setRow g #[.bool s2,.slice ao2 n2 cp2,.int .i64 e2]) s2 ao2 n2 cp2 e2 (un ((x*16+d:Nat):Int) 0)):=hV9.putR u8;refine zQ2 (cs:=#[.bool s2,.slice ao2 n2 cp2,.int .i64 e2]) hop rfl (by rw[hu8];rfl) hV9.1.1 Tryz.info132 rfl (one3 rfl rfl) ?_
    rw[hds];clear u8 hb9 hV9
    go_wp2_with fail;refine⟨⟨i+1,s2,ao2,n2,cp2,e2,by omega,rfl,?_⟩,by simp only[intOf];omega⟩
    show Hid (VdB w g #[.bool neg,.string wd,.bool true,.string R,.int .i64 be,.int .i64 ex] _ s2 ao2 n2 cp2 e2 (un ((dvP 16 D i*16+dgB (bL D i):Nat):Int) 0))
    rw[←HX.out,←HD.out];exact HV2
  ·obtain rfl:i=n:=by omega
   have hii:¬ (i:Int)<(i:Int):=by omega
   have hx9:(((x:Nat):Int)).natAbs<2^(4*i):=by rw[xC1];exact hlt
   have HG:Hid (Gn (gK e9 (un ((x:Nat):Int) 0))∧F=toD (if neg then gN (gK e9 (un ((x:Nat):Int) 0))else gK e9 (un ((x:Nat):Int) 0)) m):=⟨gn_gK hx9 (by omega) (by have:=he9.out;omega),by rw[HX.out];exact hF.out⟩
   have hk9 : -100000≤e9∧e9≤100000:=by have:=he9.out;omega
   have hw1:IntKind.i64.wrap (4*be)=4*be:=by rw[xW6];omega
   have hw2:IntKind.i64.wrap (ex - 4*be)=ex - 4*be:=by rw[xW6];omega
   have hmm:min (max (ex - 4*be) (-100000)) 100000=e9:=he9.out.symm;have kS:=qA4 (k:=e9) (qR2 (p:=0) hx9 (by omega) (by omega)) HV.out.1.2 (by omega)
   obtain⟨⟨d0,d1,d2⟩,f0,f1,f2⟩:=qQ0 HV.out.1.1;clear hlt hk9
   go_wp2_with fail;refine(kS.mono fun r w' h=>outQ h).mono ?_
   rintro r w3 ⟨s3,ao3,n3,cp3,e3,rfl,hd3,hb3⟩;have HV3:Hid (VdB w g #[.bool neg,.string wd,.bool true,.string R,.int .i64 be,.int .i64 ex] (((w3.setCell ⟨g,0,none⟩ (.bool s3)).setCell ⟨g,1,none⟩ (.slice ao3 n3 cp3)).setCell ⟨g,2,none⟩ (.int .i64 e3)) s3 ao3 n3 cp3 e3 (gK e9 (un ((x:Nat):Int) 0))):=HV.out.put hb3 hd3;clear d0 d1 d2 f0 f1 f2 c0 c1 c2 c3 c4 c5;obtain⟨⟨d0,d1,d2⟩,f0,f1,f2⟩:=qQ0 (HV.out.later hb3).1.1;clear kS hd3 hb3 HV hmm hw1 hw2
   go_upto_region 9 with fail;obtain⟨U,hU⟩:∃ U,U=(((w3.setCell ⟨g,0,none⟩ (.bool s3)).setCell ⟨g,1,none⟩ (.slice ao3 n3 cp3)).setCell ⟨g,2,none⟩ (.int .i64 e3)):=⟨_,rfl⟩;rw[←hU] at HV3 ⊢;clear hU d0 d1 d2 f0 f1 f2;obtain⟨c0,c1,c2,c3,c4,c5⟩:=qX6 HV3.out.2.1;obtain⟨⟨d0,d1,d2⟩,f0,f1,f2⟩:=qQ0 HV3.out.1.1;cases neg
   ·have kT:=dtoQ (m:=m) HG.out.1 hm HV3.out.1.2;have hFF:toD (gK e9 (un ((x:Nat):Int) 0)) m=F:=by rw[HG.out.2];simp
    rw[hFF] at kT;clear hFF
    go_wp2_with fail;refine kT.mono ?_;rintro r w4 ⟨rfl,hb4⟩;have HB4:Hid (Bw w w4):=HV3.out.2.2.1.trans (hb4.mono HV3.out.2.2.1.size);clear kT hb4
    go_wp2_with fail
    go_ret;exact⟨rfl,HB4.out⟩
   ·have kM:=yR2 HV3.out.1.2
    go_wp2_with fail;refine(kM.mono fun r w' h=>outQ h).mono ?_
    rintro r w4 ⟨s4,ao4,n4,cp4,e4,rfl,hd4,hb4⟩;have HV4:Hid (VdB w g #[.bool true,.string wd,.bool true,.string R,.int .i64 be,.int .i64 ex] (((w4.setCell ⟨g,0,none⟩ (.bool s4)).setCell ⟨g,1,none⟩ (.slice ao4 n4 cp4)).setCell ⟨g,2,none⟩ (.int .i64 e4)) s4 ao4 n4 cp4 e4 (gN (gK e9 (un ((x:Nat):Int) 0)))):=HV3.out.put hb4 hd4;clear d0 d1 d2 f0 f1 f2 c0 c1 c2 c3 c4 c5;obtain⟨⟨d0,d1,d2⟩,f0,f1,f2⟩:=qQ0 (HV3.out.later hb4).1.1;clear kM hd4 hb4 HV3
    go_upto_region 11 with fail;obtain⟨U,hU⟩:∃ U,U=(((w4.setCell ⟨g,0,none⟩ (.bool s4)).setCell ⟨g,1,none⟩ (.slice ao4 n4 cp4)).setCell ⟨g,2,none⟩ (.int .i64 e4)):=⟨_,rfl⟩;rw[←hU] at HV4 ⊢;clear hU d0 d1 d2 f0 f1 f2;obtain⟨⟨d0,d1,d2⟩,f0,f1,f2⟩:=qQ0 HV4.out.1.1;have kT:=dtoQ (m:=m) (gn_gN HG.out.1) hm HV4.out.1.2;have hFF:toD (gN (gK e9 (un ((x:Nat):Int) 0))) m=F:=by rw[HG.out.2];simp
    rw[hFF] at kT;clear hFF
    go_wp2_with fail;refine kT.mono ?_;rintro r w5 ⟨rfl,hb5⟩;have HB4:Hid (Bw w w5):=HV4.out.2.2.1.trans (hb5.mono HV4.out.2.2.1.size);clear kT hb5
    go_wp2_with fail
    go_ret;exact⟨rfl,HB4.out⟩
end Go.Proofs.YtbanebginnakhaaGreatDoor
