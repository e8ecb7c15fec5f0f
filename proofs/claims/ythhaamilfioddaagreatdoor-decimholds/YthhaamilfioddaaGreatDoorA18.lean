/- Own work: contracts of the program's functions, part 18: DTB DRM DRH DTC DTD. -/
import Derived.Test.YthhaamilfioddaaGreatDoorA16
import Derived.Test.YthhaamilfioddaaGreatDoorA17
import Derived.Test.YthhaamilfioddaaGreatDoorA13

set_option maxHeartbeats 16000000
set_option maxRecDepth 200000
set_option linter.unusedVariables false
set_option linter.unusedSimpArgs false
namespace Go.Proofs.YthhaamilfioddaaGreatDoor
open Go Go.RowKit Go.Fl64
theorem take_bL {L:List UInt8} {k:Nat} (h:k<L.length):∃ c:UInt8,L.take (k+1)=L.take k ++ [c]∧c.toNat=bL L k:=by
 refine⟨L[k],List.take_succ_eq_append_getElem h,?_⟩
 unfold bL
 rw[List.getElem?_eq_getElem h]
 rfl
theorem Dvalue (L:List UInt8) (n:Nat) (ng:Bool) (w:World) (hn:Hid (n=L.length)) (h0:0<n) (hL:n≤990) (hng:(((bL L 0:Nat):Int)==45)=ng) :
  Calls Tryz.prog 7 #[.string ⟨L.toArray⟩] w fun r w'=>∃ A,r=.returned A∧DN w' A (un (if ng then -((dvP 10 (fdL L) (fdL L).length:Nat):Int) else((dvP 10 (fdL L) (fdL L).length:Nat):Int)) 0)∧Bw w w':=by
 obtain⟨V0,hV0⟩:∃ V0,V0=dvP 10 (fdL L) (fdL L).length:=⟨_,rfl⟩
 have HV0:Hid (V0=dvP 10 (fdL L) (fdL L).length):=hV0
 rw[←hV0]
 clear hV0
 obtain⟨R,hR⟩:∃ R:ByteArray,R=⟨L.toArray⟩:=⟨_,rfl⟩
 have hRs:R.size=n:=by rw[hR,hn.out];rfl
 have hRg:∀ k (h:k<R.size),(R[k]'h).toNat=bL L k:=by subst hR;exact bL_get L
 have hRe:R.toList.isEmpty=false:=by
  rw[hR,bytes_empty]
  have:=hn.out
  cases L with
  | nil=>simp at this;omega
  | cons=>rfl
 have HR:Hid (R=⟨L.toArray⟩):=hR
 rw[←hR]
 clear hR
 have HRg:Hid (∀ k (h:k<R.size),(R[k]'h).toNat=bL L k):=hRg
 have hg0:=hRg 0
 obtain⟨c0,hc0⟩:∃ c0,c0=bL L 0:=⟨_,rfl⟩
 rw[←hc0] at hg0 hng
 clear hRg hc0
 obtain⟨i0,hi0,hz0,hz1,hz2⟩:=info_parts byte_info
 obtain⟨W,hW⟩:∃ W,W=w.alloc (.cells #[.bool false,.slice none 0 0,.int .i64 0] 30):=⟨_,rfl⟩
 have HW:Hid (Bw w W∧W.heap[w.heap.size]?=some (.cells #[.bool false,.slice none 0 0,.int .i64 0] 30 (0,0))∧W.heap.size=w.heap.size+1):=⟨by rw[hW];exact(Below.refl _ _).alloc (Nat.le_refl _) _,by rw[hW];exact heap_alloc_new _ _,by rw[hW];simp⟩
 have hn0:0<R.size:=by omega
 go_enter Tryz.func7,Tryz.ntmps7
 go_upto_region 1 with fail
 rw[←hW]
 clear hW
 go_wp2_with fail
 clear hg0 hRe hn0 hng
 go_loopw [4,5] (fun v x wr=>∃ i:Nat,i≤n∧x=.int .i64 (i:Nat)∧Hid (OB W wr v (fdL (L.take i)))) (fun _ x _=>n - (intOf x).toNat)
 case atStart=>exact⟨0,Nat.zero_le _,rfl,(⟨World.ownsRow_nil ..,Below.refl _ _⟩:OB W W _ [])⟩
 case round =>
  obtain⟨i,hi,rfl,HO⟩:=hrel
  obtain⟨D,hDD⟩:∃ D,D=fdL (L.take i):=⟨_,rfl⟩
  rw[←hDD] at HO
  have hlen:D.length≤990:=by rw[hDD];refine Nat.le_trans (fd_len _) ?_;rw[List.length_take];omega
  have HD:Hid (D=fdL (L.take i)):=hDD
  clear hDD
  obtain⟨ao,ca,hsh⟩:=HO.out.shape
  subst hsh
  have HSZ:Hid (W.heap.size≤wr.heap.size):=HO.out.2.size
  have h1000:(D.length:Int)<1000:=by omega
  by_cases hin:i<n
  ·have hii:(i:Int)<(n:Int):=by omega
   have hiR:i<R.size:=by omega
   have hwi:IntKind.i64.wrap ((i:Int)+1)=(i:Int)+1:=by rw[IntKind.wrap_i64];omega
   obtain⟨cb,hcb,hcc⟩:=take_bL (L:=L) (k:=i) (by have:=hn.out;omega)
   have hg2:=HRg.out i
   obtain⟨c,hc⟩:∃ c,c=bL L i:=⟨_,rfl⟩
   rw[←hc] at hcc hg2
   have hc256:c<256:=by rw[←hcc];exact cb.toNat_lt
   have HC:Hid (L.take (i+1)=L.take i ++ [cb]∧cb.toNat=c):=⟨hcb,hcc⟩
   clear hcb hcc hc
   by_cases hdg:48≤c∧c≤57
   ·obtain⟨hdg1,hdg2⟩:=hdg
    have g1:(48:Int)≤(c:Int):=by omega
    have g2:(c:Int)≤57:=by omega
    have HF:Hid (fdL (L.take (i+1))=D ++ [UInt8.ofNat c]):=(by
     rw[HC.out.1]
     unfold fdL
     rw[List.filter_append,show(L.take i).filter isdT=D from HD.out.symm,←HC.out.2,UInt8.ofNat_toNat]
     congr 1
     refine List.filter_eq_self.2 fun x hx=>?_
     obtain rfl:=List.mem_singleton.1 hx
     unfold isdT
     rw[HC.out.2,decide_eq_true hdg1,decide_eq_true hdg2]
     rfl:fdL (L.take (i+1))=D ++ [UInt8.ofNat c])
    go_wp2_with (at_builtin;refine wpList_append_own _ rfl _ _ 52 rfl W.heap.size 5 i0 (.int .u8 0) 1 1 Tryz.underlying52 hi0 hz0 hz1 hz2 rfl (by decide) _ _ _ rfl (HO.out.1.alloc _) ⟨wr.heap.size,0,none⟩ 1 1 [.int .u8 _] rfl rfl (cell_one_new _ _ _) (by intro u hu;simp at hu;subst hu;rfl) (by unfold maxLen;omega) (by have:=HSZ.out;omega) (by simp;have:=HSZ.out;omega) ?_)
    intro v' w4 hown4 hgrow _
    have HFF:=HO.out.push hc256 hown4 hgrow
    rw[←HF.out] at HFF
    have HF3:Hid (OB W w4 v' (fdL (L.take (i+1)))):=HFF
    clear HFF hown4 hgrow
    go_wp2_with fail
    exact⟨⟨i+1,by omega,by congr 1,HF3⟩,by simp[intOf];omega⟩
   ·have HF:Hid (fdL (L.take (i+1))=D):=(by
     rw[HC.out.1]
     unfold fdL
     rw[List.filter_append,show(L.take i).filter isdT=D from HD.out.symm,List.filter_eq_nil_iff.2,List.append_nil]
     intro x hx
     obtain rfl:=List.mem_singleton.1 hx
     unfold isdT
     rw[HC.out.2]
     simp only[Bool.and_eq_true,decide_eq_true_eq]
     exact hdg:fdL (L.take (i+1))=D)
    by_cases h48:48≤c
    ·have g1:(48:Int)≤(c:Int):=by omega
     have g2:¬ (c:Int)≤57:=by omega
     clear hdg
     go_wp2_with fail
     exact⟨⟨i+1,by omega,by congr 1,by rw[HF.out];exact HO⟩,by simp[intOf];omega⟩
    ·have g1:¬ (48:Int)≤(c:Int):=by omega
     clear hdg
     go_wp2_with fail
     exact⟨⟨i+1,by omega,by congr 1,by rw[HF.out];exact HO⟩,by simp[intOf];omega⟩
  ·have hii:¬ (i:Int)<(n:Int):=by omega
   have HDD:Hid (D=fdL L):=(by rw[HD.out,List.take_of_length_le (by have:=hn.out;omega)]:D=fdL L)
   have hcv:=HO.out.bc.conv
   have HB:Hid (Bw W wr):=HO.out.2
   have kD:=d2digits D D.length wr rfl (by omega) (by rw[HDD.out];exact fd_bL L)
   have HVD:Hid (dvP 10 D D.length=V0):=(by rw[HDD.out,HV0.out]:dvP 10 D D.length=V0)
   rw[HVD.out] at kD
   clear HO HSZ HD HRg
   go_upto_region 8 with fail
   go_wp2_with fail
   refine kD.mono ?_
   rintro r w1 ⟨A,rfl,hA,hb1⟩
   obtain⟨s1,ao1,n1,cp1,e1,rfl⟩:=hA.shape
   obtain⟨V,hV⟩:∃ V,V=w1.alloc (.cells #[.bool s1,.slice ao1 n1 cp1,.int .i64 e1] 30):=⟨_,rfl⟩
   obtain⟨g,hg⟩:∃ g,g=w1.heap.size:=⟨_,rfl⟩
   have HX:Hid (NbQ V g s1 ao1 n1 cp1 e1 (un ((V0:Nat):Int) 0)∧V.heap[w.heap.size]?=some (.cells #[.bool false,.slice none 0 0,.int .i64 0] 30 (0,0))∧Bw w V):=by
    have hbV:Bw w1 V:=by rw[hV];exact(Below.refl _ _).alloc (Nat.le_refl _) _
    have h2:=HB.out.trans (hb1.mono HB.out.size)
    have h3:=h2.trans (hbV.mono h2.size)
    exact⟨⟨by rw[hV,hg];exact heap_alloc_new _ _,hA.later hbV⟩,box_later HW.out.2.1 h3 (by have:=HW.out.2.2;omega),HW.out.1.trans (h3.mono HW.out.1.size)⟩
   clear hA hb1 HB HW kD hcv
   go_upto_region 9 with fail
   rw[←hV,←hg]
   clear hV hg
   obtain⟨⟨c0,c1,c2⟩,-⟩:=box_cells29 HX.out.1.1
   cases ng
   ·obtain⟨⟨d0,d1,d2⟩,f0,f1,f2⟩:=box_cells29 HX.out.2.1
    go_wp2_with fail
    refine bodyPost_ret (results_cell_row rfl _ _ (w.heap.size) 30 #[.bool s1,.slice ao1 n1 cp1,.int .i64 e1] (0,0) _ rfl (store3_29 _ _ _ HX.out.2.1) Tryz.underlying30 rfl Tryz.info30) rfl ?_
    exact⟨_,rfl,HX.out.1.2.storeQ HX.out.2.1 _ _ _,below_store3 HX.out.2.2 (Nat.le_refl _) _ _ _⟩
   ·have kM:=gminus HX.out.1.2
    go_wp2_with fail
    refine kM.mono ?_
    rintro r w2 ⟨B,rfl,hB2,hb2⟩
    rw[gN_un] at hB2
    obtain⟨s3,ao3,n3,cp3,e3,rfl⟩:=hB2.shape
    have HY:Hid (DN w2 (.agg #[.bool s3,.slice ao3 n3 cp3,.int .i64 e3]) (un (-((V0:Nat):Int)) 0)∧w2.heap[w.heap.size]?=some (.cells #[.bool false,.slice none 0 0,.int .i64 0] 30 (0,0))∧Bw w w2):=⟨hB2,box_later HX.out.2.1 hb2 (lt_of_box HX.out.2.1),HX.out.2.2.trans (hb2.mono HX.out.2.2.size)⟩
    obtain⟨⟨d0,d1,d2⟩,f0,f1,f2⟩:=box_cells29 HY.out.2.1
    clear kM hB2 hb2 HX c0 c1 c2
    go_wp2_with fail
    refine bodyPost_ret (results_cell_row rfl _ _ (w.heap.size) 30 #[.bool s3,.slice ao3 n3 cp3,.int .i64 e3] (0,0) _ rfl (store3_29 _ _ _ HY.out.2.1) Tryz.underlying30 rfl Tryz.info30) rfl ?_
    exact⟨_,rfl,HY.out.1.storeQ HY.out.2.1 _ _ _,below_store3 HY.out.2.2 (Nat.le_refl _) _ _ _⟩
def OutQ (W:World) (t:Bool×Nat×Int) (r:Ending) (w':World):Prop:=∃ (s1:Bool) (ao1:Option Addr) (n1 cp1:Nat) (e1:Int),r=.returned (.agg #[.bool s1,.slice ao1 n1 cp1,.int .i64 e1])∧DN w' (.agg #[.bool s1,.slice ao1 n1 cp1,.int .i64 e1]) t∧Bw W w'
theorem outQ {W w':World} {t:Bool×Nat×Int} {r:Ending} (h:∃ A,r=.returned A∧DN w' A t∧Bw W w'):OutQ W t r w':=by
 obtain⟨A,rfl,hA,hb⟩:=h
 obtain⟨s,ao,n,cp,e,rfl⟩:=hA.shape
 exact⟨s,ao,n,cp,e,rfl,hA,hb⟩
def HlB (w V:World) (gx gy gv gd:Nat) (s1:Bool) (ao1:Option Addr) (n1 cp1:Nat) (e1:Int) (s2:Bool) (ao2:Option Addr) (n2 cp2:Nat) (e2:Int) (s3:Bool) (ao3:Option Addr) (n3 cp3:Nat) (e3:Int) (s4:Bool) (ao4:Option Addr) (n4 cp4:Nat) (e4:Int) (tx ty tv td:Bool×Nat×Int):Prop :=
 NbQ V gx s1 ao1 n1 cp1 e1 tx∧NbQ V gy s2 ao2 n2 cp2 e2 ty∧NbQ V gv s3 ao3 n3 cp3 e3 tv∧NbQ V gd s4 ao4 n4 cp4 e4 td∧Bw w V
theorem HlB.later {w V V':World} {gx gy gv gd:Nat} {s1:Bool} {ao1:Option Addr} {n1 cp1:Nat} {e1:Int} {s2:Bool} {ao2:Option Addr} {n2 cp2:Nat} {e2:Int} {s3:Bool} {ao3:Option Addr} {n3 cp3:Nat} {e3:Int} {s4:Bool} {ao4:Option Addr} {n4 cp4:Nat} {e4:Int} {tx ty tv td:Bool×Nat×Int} (h:HlB w V gx gy gv gd s1 ao1 n1 cp1 e1 s2 ao2 n2 cp2 e2 s3 ao3 n3 cp3 e3 s4 ao4 n4 cp4 e4 tx ty tv td) (hb:Bw V V'):HlB w V' gx gy gv gd s1 ao1 n1 cp1 e1 s2 ao2 n2 cp2 e2 s3 ao3 n3 cp3 e3 s4 ao4 n4 cp4 e4 tx ty tv td :=
 ⟨h.1.later hb,h.2.1.later hb,h.2.2.1.later hb,h.2.2.2.1.later hb,h.2.2.2.2.trans (hb.mono h.2.2.2.2.size)⟩
theorem DHolds_w (a b:Nat) (n:Int) (w:World)
  (kA:∀ W,Calls Tryz.prog 4 #[.float .f64 a] W fun r w'=>r=.returned (.float .f64 b)∧w'=W)
  (hc:((FloatKind.f64.format.order b 4831355200913801216==some Ordering.lt)=false∧(FloatKind.f64.format.order b 4831355200913801216==some Ordering.eq)=false)∨(((FloatKind.f64.format.order b 4831355200913801216==some Ordering.lt)=true∨((FloatKind.f64.format.order b 4831355200913801216==some Ordering.lt)=false∧(FloatKind.f64.format.order b 4831355200913801216==some Ordering.eq)=true))∧(FloatKind.f64.format.order a 0==some Ordering.eq)=true))
  (kW:Hid (∀ W,Bw w W→Calls Tryz.prog 5 #[] W fun r w'=>r=.returned (.bool true)∧Bw W w')) :
  Calls Tryz.prog 3 #[.float .f64 a,.int .i64 n] w fun r w'=>r=.returned (.bool true)∧Bw w w':=by
 have kk:=kW.out w (Below.refl _ _)
 go_enter Tryz.func3,Tryz.ntmps3
 go_upto_region 2 with fail
 rcases hc with ⟨h1,h2⟩|⟨h1|⟨h1,h2⟩,h3⟩
 all_goals
  go_wp2_with (first|(go_at_call 4;refine(kA _).mono ?_;rintro r w' ⟨rfl,hw⟩;replace hw:=hw.symm;subst hw))
  refine kk.mono ?_
  rintro r w' ⟨rfl,hb⟩
  have HB:Hid (Bw w w'):=hb
  clear hb kk
  go_wp2_with fail
  go_ret
  exact⟨rfl,HB.out⟩
theorem DHolds_1 (a b:Nat) (n N:Int) (S1 S3:ByteArray) (tx ty tf tt tv td t1:Bool×Nat×Int) (o1 o2 o3 o4 sg:Int) (w:World)
  (kA:∀ W,Calls Tryz.prog 4 #[.float .f64 a] W fun r w'=>r=.returned (.float .f64 b)∧w'=W)
  (hle:(FloatKind.f64.format.order b 4831355200913801216==some Ordering.lt)=true∨((FloatKind.f64.format.order b 4831355200913801216==some Ordering.lt)=false∧(FloatKind.f64.format.order b 4831355200913801216==some Ordering.eq)=true))
  (h0:(FloatKind.f64.format.order a 0==some Ordering.eq)=false)
  (hN:Hid (N=max 0 (min n 400))) (hN1:Hid (0≤N∧N≤400))
  (kF1:Hid (∀ W,Bw w W→Calls Tryz.prog 6 #[.float .f64 a,.int .i64 N,.int .i64 1] W fun r w'=>r=.returned (.tuple #[.string S1,.int .i64 0])∧Bw W w'))
  (kF3:Hid (∀ W,Bw w W→Calls Tryz.prog 6 #[.float .f64 a,.int .i64 N,.int .i64 3] W fun r w'=>r=.returned (.tuple #[.string S3,.int .i64 0])∧Bw W w'))
  (kV1:Hid (∀ W,Calls Tryz.prog 7 #[.string S1] W fun r w'=>OutQ W tx r w'))
  (kV3:Hid (∀ W,Calls Tryz.prog 7 #[.string S3] W fun r w'=>OutQ W ty r w'))
  (kFl:Hid (∀ W,Calls Tryz.prog 9 #[.float .f64 a] W fun r w'=>OutQ W tf r w'))
  (kTn:Hid (∀ W,Calls Tryz.prog 10 #[.int .i64 N] W fun r w'=>OutQ W tt r w'))
  (kM:Hid (∀ W X Y,DN W X tf→DN W Y tt→Calls Tryz.prog 8 #[X,Y] W fun r w'=>OutQ W tv r w'))
  (kL:Hid (∀ W X Y,DN W X ty→DN W Y tx→Calls Tryz.prog 11 #[X,Y] W fun r w'=>OutQ W td r w'))
  (kO1:∀ W X Y,DN W X tx→DN W Y tv→Calls Tryz.prog 12 #[X,Y] W fun r w'=>r=.returned (.int .i64 o1)∧Bw W w')
  (kO2:∀ W X Y,DN W X tv→DN W Y ty→Calls Tryz.prog 12 #[X,Y] W fun r w'=>r=.returned (.int .i64 o2)∧Bw W w')
  (kOd:∀ W X Y,DN W X td→DN W Y t1→Calls Tryz.prog 12 #[X,Y] W fun r w'=>r=.returned (.int .i64 o3)∧Bw W w')
  (kO4:∀ W X Y,DN W X ty→DN W Y tv→Calls Tryz.prog 12 #[X,Y] W fun r w'=>r=.returned (.int .i64 o4)∧Bw W w')
  (kWh:∀ W,Calls Tryz.prog 13 #[.int .i64 1] W fun r w'=>OutQ W t1 r w')
  (kS:∀ W X,DN W X td→Calls Tryz.prog 14 #[X] W fun r w'=>r=.returned (.int .i64 sg)∧Bw W w')
  (ho1:o1≤0) (ho2:o2≤0) (ho3:o3≤0) (hcase:(sg=0∧o1=0∧o4=0)∨(sg≠0∧o1≠0))
  (kW:Hid (∀ W,Bw w W→Calls Tryz.prog 5 #[] W fun r w'=>r=.returned (.bool true)∧Bw W w')) :
  Calls Tryz.prog 3 #[.float .f64 a,.int .i64 n] w fun r w'=>r=.returned (.bool true)∧Bw w w':=by
 have HO:Hid _:=kO1
 have HO2:Hid _:=kO2
 have HO3:Hid _:=kOd
 have HO4:Hid _:=kO4
 have HWh:Hid _:=kWh
 have HS:Hid _:=kS
 have HNn:Hid (o1≤0∧o2≤0∧o3≤0∧((sg=0∧o1=0∧o4=0)∨(sg≠0∧o1≠0))):=⟨ho1,ho2,ho3,hcase⟩
 clear kO1 kO2 kOd kO4 kWh kS ho1 ho2 ho3 hcase
 go_enter Tryz.func3,Tryz.ntmps3
 go_upto_region 2 with fail
 go_cut [1,24] from 17 to 25 (fun v y wx=>v=.int .i64 N∧y=.bool false∧wx=w)
 case first =>
  rcases hle with h1|⟨h1,h2⟩
  all_goals
   go_wp2_with (first|(go_at_call 4;refine(kA _).mono ?_;rintro r w' ⟨rfl,hw⟩;replace hw:=hw.symm;subst hw))
   go_meet
   exact⟨by rw[hN.out],rfl,rfl⟩
 case rest =>
 obtain⟨rfl,rfl,hw⟩:=hcut
 subst hw
 clear hle h0 kA
 have q1:=kF1.out wc (Below.refl _ _)
 go_wp2_with fail
 refine q1.mono ?_
 rintro r w1 ⟨rfl,hb1⟩
 have HB1:Hid (Bw wc w1):=hb1
 have q2:=kF3.out w1 hb1
 clear q1 hb1 kF1 kF3
 go_wp2_with fail
 refine q2.mono ?_
 rintro r w2 ⟨rfl,hb2⟩
 have HB2:Hid (Bw wc w2):=HB1.out.trans (hb2.mono HB1.out.size)
 have q1:=kV1.out w2
 clear q2 hb2 HB1 kV1
 go_wp2_with fail
 refine q1.mono ?_
 rintro r w3 ⟨s1,ao1,n1,cp1,e1,rfl,hd1,hb3⟩
 have H3:Hid (DN w3 (.agg #[.bool s1,.slice ao1 n1 cp1,.int .i64 e1]) tx∧Bw wc w3):=⟨hd1,HB2.out.trans (hb3.mono HB2.out.size)⟩
 have q2:=kV3.out w3
 clear q1 hd1 hb3 HB2 kV3
 go_wp2_with fail
 refine q2.mono ?_
 rintro r w4 ⟨s2,ao2,n2,cp2,e2,rfl,hd2,hb4⟩
 obtain⟨V,hV⟩:∃ V,V=(w4.alloc (.cells #[.bool s1,.slice ao1 n1 cp1,.int .i64 e1] 30)).alloc (.cells #[.bool s2,.slice ao2 n2 cp2,.int .i64 e2] 30):=⟨_,rfl⟩
 obtain⟨gx,hgx⟩:∃ gx,gx=w4.heap.size:=⟨_,rfl⟩
 have H4:Hid (NbQ V gx s1 ao1 n1 cp1 e1 tx∧NbQ V (gx+1) s2 ao2 n2 cp2 e2 ty∧Bw wc V):=by
  obtain⟨y1,y2,y3,y4⟩:=two_new _ _ hV
  have hb:=H3.out.2.trans (hb4.mono H3.out.2.size)
  rw[←hgx] at y1 y2
  exact⟨⟨y1,(H3.out.1.later hb4).later y4⟩,⟨y2,hd2.later y4⟩,hb.trans (y4.mono hb.size)⟩
 have q1:=kFl.out V
 clear q2 hd2 hb4 H3 kFl
 go_upto_region 7 with fail
 rw[←hV,←hgx]
 clear hV hgx
 go_wp2_with fail
 refine q1.mono ?_
 rintro r w5 ⟨s5,ao5,n5,cp5,e5,rfl,hd5,hb5⟩
 have q2:=kTn.out w5
 clear q1 kTn
 go_wp2_with fail
 refine q2.mono ?_
 rintro r w6 ⟨s6,ao6,n6,cp6,e6,rfl,hd6,hb6⟩
 have q1:=kM.out w6 _ _ (hd5.later hb6) hd6
 have H6:Hid (NbQ w6 gx s1 ao1 n1 cp1 e1 tx∧NbQ w6 (gx+1) s2 ao2 n2 cp2 e2 ty∧Bw wc w6):=by
  have hb:=hb5.trans (hb6.mono hb5.size)
  exact⟨H4.out.1.later hb,H4.out.2.1.later hb,H4.out.2.2.trans (hb.mono H4.out.2.2.size)⟩
 clear q2 hd5 hd6 hb5 hb6 H4 kM
 go_wp2_with fail
 refine q1.mono ?_
 rintro r w7 ⟨s3,ao3,n3,cp3,e3,rfl,hd7,hb7⟩
 obtain⟨V,hV⟩:∃ V,V=w7.alloc (.cells #[.bool s3,.slice ao3 n3 cp3,.int .i64 e3] 30):=⟨_,rfl⟩
 obtain⟨gv,hgv⟩:∃ gv,gv=w7.heap.size:=⟨_,rfl⟩
 have H7:Hid (NbQ V gx s1 ao1 n1 cp1 e1 tx∧NbQ V (gx+1) s2 ao2 n2 cp2 e2 ty∧NbQ V gv s3 ao3 n3 cp3 e3 tv∧Bw wc V):=by
  have hbV:Bw w7 V:=by rw[hV];exact(Below.refl _ _).alloc (Nat.le_refl _) _
  have hb:=hb7.trans (hbV.mono hb7.size)
  exact⟨H6.out.1.later hb,H6.out.2.1.later hb,⟨by rw[hV,hgv];exact heap_alloc_new _ _,hd7.later hbV⟩,H6.out.2.2.trans (hb.mono H6.out.2.2.size)⟩
 clear q1 hd7 hb7 H6
 go_upto_region 8 with fail
 rw[←hV,←hgv]
 clear hV hgv
 have q1:=kL.out V _ _ H7.out.2.1.2 H7.out.1.2
 obtain⟨⟨c0,c1,c2⟩,-⟩:=box_cells29 H7.out.1.1
 obtain⟨⟨d0,d1,d2⟩,-⟩:=box_cells29 H7.out.2.1.1
 clear kL
 go_wp2_with fail
 refine q1.mono ?_
 rintro r w8 ⟨s4,ao4,n4,cp4,e4,rfl,hd8,hb8⟩
 obtain⟨V2,hV⟩:∃ V2,V2=w8.alloc (.cells #[.bool s4,.slice ao4 n4 cp4,.int .i64 e4] 30):=⟨_,rfl⟩
 obtain⟨gd,hgd⟩:∃ gd,gd=w8.heap.size:=⟨_,rfl⟩
 have HB:Hid (HlB wc V2 gx (gx+1) gv gd s1 ao1 n1 cp1 e1 s2 ao2 n2 cp2 e2 s3 ao3 n3 cp3 e3 s4 ao4 n4 cp4 e4 tx ty tv td):=by
  have hbV:Bw w8 V2:=by rw[hV];exact(Below.refl _ _).alloc (Nat.le_refl _) _
  have hb:=hb8.trans (hbV.mono hb8.size)
  exact⟨H7.out.1.later hb,H7.out.2.1.later hb,H7.out.2.2.1.later hb,⟨by rw[hV,hgd];exact heap_alloc_new _ _,hd8.later hbV⟩,H7.out.2.2.2.trans (hb.mono H7.out.2.2.2.size)⟩
 clear q1 hd8 hb8 H7 c0 c1 c2 d0 d1 d2
 go_upto_region 9 with fail
 rw[←hV,←hgd]
 clear hV hgd
 obtain⟨ho1,ho2,ho3,hcase⟩:=HNn.out
 have kO1:=HO.out
 have kO2:=HO2.out
 have kO4:=HO4.out
 have kOd:=HO3.out
 have kWh:=HWh.out
 have kS:=HS.out
 refine r_region [0,1,2,3,4,5,6,7,8,9,10,11,12,13,14,15,16] [50,51,52,53,54,55,56,57,58,59,60,61,62,63,64,65,13] [[],[],[0,1],[2],[3],[4],[4],[5,6,4],[7,4],[4,8],[9],[10],[10],[11,12,10],[13,10],[10,14],[15]] V2 _ [isV (.agg #[.bool s1,.slice ao1 n1 cp1,.int .i64 e1]),isV (.agg #[.bool s3,.slice ao3 n3 cp3,.int .i64 e3]),isV (.int .i64 o1),isV (.bool true),isV (.bool true),isV (.agg #[.bool s3,.slice ao3 n3 cp3,.int .i64 e3]),isV (.agg #[.bool s2,.slice ao2 n2 cp2,.int .i64 e2]),isV (.int .i64 o2),isV (.bool true),isV (.bool true),isV (.bool true),isV (.agg #[.bool s4,.slice ao4 n4 cp4,.int .i64 e4]),isD t1,isV (.int .i64 o3),isV (.bool true),isV (.bool true),isV (.bool true)] (by kernel_rfl) ⟨isV_stays _,isV_stays _,isV_stays _,isV_stays _,isV_stays _,isV_stays _,isV_stays _,isV_stays _,isV_stays _,isV_stays _,isV_stays _,isV_stays _,isD_stays _,isV_stays _,isV_stays _,isV_stays _,isV_stays _,trivial⟩ (by show ∀ s ∈ [50,51,52,53,54,55,56,57,58,59,60,61,62,63,64,65,13],s<94;decide) ?_ ?_
 ·intro j hj o ho act U hb hoth hdep
  have hj':j<17:=hj
  have t9':act.tmps[(9:Nat)]?=some (Value.pointer (some ⟨gx,0,none⟩)):=(hoth 9 (by decide)).trans rfl
  have t10':act.tmps[(10:Nat)]?=some (Value.pointer (some ⟨gx+1,0,none⟩)):=(hoth 10 (by decide)).trans rfl
  have t11':act.tmps[(11:Nat)]?=some (Value.pointer (some ⟨gv,0,none⟩)):=(hoth 11 (by decide)).trans rfl
  have t12':act.tmps[(12:Nat)]?=some (Value.pointer (some ⟨gd,0,none⟩)):=(hoth 12 (by decide)).trans rfl
  have dx:=(box_cells29 (HB.out.1.later hb).1).1
  have dy:=(box_cells29 (HB.out.2.1.later hb).1).1
  have dv:=(box_cells29 (HB.out.2.2.1.later hb).1).1
  have dd:=(box_cells29 (HB.out.2.2.2.1.later hb).1).1
  rcases(by omega:j=0∨j=1∨j=2∨j=3∨j=4∨j=5∨j=6∨j=7∨j=8∨j=9∨j=10∨j=11∨j=12∨j=13∨j=14∨j=15∨j=16)with rfl|rfl|rfl|rfl|rfl|rfl|rfl|rfl|rfl|rfl|rfl|rfl|rfl|rfl|rfl|rfl|rfl
  ·obtain rfl:=Option.some.inj ho
   exact .inl ⟨rfl,owp_ldD rfl t9' dx.1 dx.2.1 dx.2.2 ⟨_,rfl,rfl,Below.refl _ _⟩⟩
  ·obtain rfl:=Option.some.inj ho
   exact .inl ⟨rfl,owp_ldD rfl t11' dv.1 dv.2.1 dv.2.2 ⟨_,rfl,rfl,Below.refl _ _⟩⟩
  ·obtain rfl:=Option.some.inj ho
   have y0:act.tmps[(50:Nat)]?=_:=dV (hdep 0 (by simp[dL])) rfl
   have y1:act.tmps[(51:Nat)]?=_:=dV (hdep 1 (by simp[dL])) rfl
   refine .inl ⟨rfl,owp_call rfl (enters Tryz.func12 (by kernel_rfl) (by kernel_rfl)) (vs:=#[.agg #[.bool s1,.slice ao1 n1 cp1,.int .i64 e1],.agg #[.bool s3,.slice ao3 n3 cp3,.int .i64 e3]]) (by simp[eval_get y0,eval_get y1]) ?_⟩
   refine(kO1 U _ _ (HB.out.1.later hb).2 (HB.out.2.2.1.later hb).2).mono ?_
   rintro r w' ⟨rfl,hb'⟩
   exact⟨_,rfl,_,rfl,rfl,hb'⟩
  ·obtain rfl:=Option.some.inj ho
   have y2:act.tmps[(52:Nat)]?=_:=dV (hdep 2 (by simp[dL])) rfl
   exact .inl ⟨rfl,owp_run1 (w':=U) (by simp[execOp,y2,eval_cst,go_sem,ho1]) ⟨_,rfl,rfl,Below.refl _ _⟩⟩
  ·obtain rfl:=Option.some.inj ho
   have y3:act.tmps[(53:Nat)]?=_:=dV (hdep 3 (by simp[dL])) rfl
   exact .inl ⟨rfl,owp_move rfl y3 ⟨_,rfl,rfl,Below.refl _ _⟩⟩
  ·obtain rfl:=Option.some.inj ho
   have y4:act.tmps[(54:Nat)]?=_:=dV (hdep 4 (by simp[dL])) rfl
   exact .inr (wpOp_take rfl rfl rfl rfl y4 (owp_ldD rfl t11' dv.1 dv.2.1 dv.2.2 ⟨_,rfl,rfl,Below.refl _ _⟩))
  ·obtain rfl:=Option.some.inj ho
   have y4:act.tmps[(54:Nat)]?=_:=dV (hdep 4 (by simp[dL])) rfl
   exact .inr (wpOp_take rfl rfl rfl rfl y4 (owp_ldD rfl t10' dy.1 dy.2.1 dy.2.2 ⟨_,rfl,rfl,Below.refl _ _⟩))
  ·obtain rfl:=Option.some.inj ho
   have y5:act.tmps[(55:Nat)]?=_:=dV (hdep 5 (by simp[dL])) rfl
   have y6:act.tmps[(56:Nat)]?=_:=dV (hdep 6 (by simp[dL])) rfl
   have y4:act.tmps[(54:Nat)]?=_:=dV (hdep 4 (by simp[dL])) rfl
   refine .inr (wpOp_take rfl rfl rfl rfl y4 (owp_call rfl (enters Tryz.func12 (by kernel_rfl) (by kernel_rfl)) (vs:=#[.agg #[.bool s3,.slice ao3 n3 cp3,.int .i64 e3],.agg #[.bool s2,.slice ao2 n2 cp2,.int .i64 e2]]) (by simp[eval_get y5,eval_get y6]) ?_))
   refine(kO2 U _ _ (HB.out.2.2.1.later hb).2 (HB.out.2.1.later hb).2).mono ?_
   rintro r w' ⟨rfl,hb'⟩
   exact⟨_,rfl,_,rfl,rfl,hb'⟩
  ·obtain rfl:=Option.some.inj ho
   have y7:act.tmps[(57:Nat)]?=_:=dV (hdep 7 (by simp[dL])) rfl
   have y4:act.tmps[(54:Nat)]?=_:=dV (hdep 4 (by simp[dL])) rfl
   exact .inr (wpOp_take rfl rfl rfl rfl y4 (owp_run1 (w':=U) (by simp[execOp,y7,eval_cst,go_sem,ho2]) ⟨_,rfl,rfl,Below.refl _ _⟩))
  ·obtain rfl:=Option.some.inj ho
   have y4:act.tmps[(54:Nat)]?=_:=dV (hdep 4 (by simp[dL])) rfl
   have y8:act.tmps[(58:Nat)]?=_:=dV (hdep 8 (by simp[dL])) rfl
   exact .inl ⟨rfl,owp_run1 (w':=U) (by simp[execOp,y4,y8,eval_cst,go_sem]) ⟨_,rfl,rfl,Below.refl _ _⟩⟩
  ·obtain rfl:=Option.some.inj ho
   have y9:act.tmps[(59:Nat)]?=_:=dV (hdep 9 (by simp[dL])) rfl
   exact .inl ⟨rfl,owp_move rfl y9 ⟨_,rfl,rfl,Below.refl _ _⟩⟩
  ·obtain rfl:=Option.some.inj ho
   have y10:act.tmps[(60:Nat)]?=_:=dV (hdep 10 (by simp[dL])) rfl
   exact .inr (wpOp_take rfl rfl rfl rfl y10 (owp_ldD rfl t12' dd.1 dd.2.1 dd.2.2 ⟨_,rfl,rfl,Below.refl _ _⟩))
  ·obtain rfl:=Option.some.inj ho
   have y10:act.tmps[(60:Nat)]?=_:=dV (hdep 10 (by simp[dL])) rfl
   refine .inr (wpOp_take rfl rfl rfl rfl y10 (owp_call rfl (enters Tryz.func13 (by kernel_rfl) (by kernel_rfl)) (vs:=#[(Value.int IntKind.i64 1)]) (by simp[eval_cst]) ?_))
   refine(kWh U).mono ?_
   rintro r w' ⟨q1,q2,q3,q4,q5,rfl,hA,hb'⟩
   exact⟨_,rfl,_,rfl,hA,hb'⟩
  ·obtain rfl:=Option.some.inj ho
   have y11:act.tmps[(61:Nat)]?=_:=dV (hdep 11 (by simp[dL])) rfl
   obtain⟨u12,y120,v12⟩:=hdep 12 (by simp[dL])
   have y12:act.tmps[(62:Nat)]?=_:=y120
   have y10:act.tmps[(60:Nat)]?=_:=dV (hdep 10 (by simp[dL])) rfl
   refine .inr (wpOp_take rfl rfl rfl rfl y10 (owp_call rfl (enters Tryz.func12 (by kernel_rfl) (by kernel_rfl)) (vs:=#[.agg #[.bool s4,.slice ao4 n4 cp4,.int .i64 e4],u12]) (by simp[eval_get y11,eval_get y12]) ?_))
   refine(kOd U _ _ (HB.out.2.2.2.1.later hb).2 v12).mono ?_
   rintro r w' ⟨rfl,hb'⟩
   exact⟨_,rfl,_,rfl,rfl,hb'⟩
  ·obtain rfl:=Option.some.inj ho
   have y13:act.tmps[(63:Nat)]?=_:=dV (hdep 13 (by simp[dL])) rfl
   have y10:act.tmps[(60:Nat)]?=_:=dV (hdep 10 (by simp[dL])) rfl
   exact .inr (wpOp_take rfl rfl rfl rfl y10 (owp_run1 (w':=U) (by simp[execOp,y13,eval_cst,go_sem,ho3]) ⟨_,rfl,rfl,Below.refl _ _⟩))
  ·obtain rfl:=Option.some.inj ho
   have y10:act.tmps[(60:Nat)]?=_:=dV (hdep 10 (by simp[dL])) rfl
   have y14:act.tmps[(64:Nat)]?=_:=dV (hdep 14 (by simp[dL])) rfl
   exact .inl ⟨rfl,owp_run1 (w':=U) (by simp[execOp,y10,y14,eval_cst,go_sem]) ⟨_,rfl,rfl,Below.refl _ _⟩⟩
  ·obtain rfl:=Option.some.inj ho
   have y15:act.tmps[(65:Nat)]?=_:=dV (hdep 15 (by simp[dL])) rfl
   exact .inl ⟨rfl,owp_assign rfl y15 ⟨_,rfl,rfl,Below.refl _ _⟩⟩
 ·intro u W9 hb9 hu
  have u16:u 16=.bool true:=hu 16 (by show 16<17;decide)
  clear hu
  simp only[putL,show List.range 17 = [0,1,2,3,4,5,6,7,8,9,10,11,12,13,14,15,16] from rfl,List.length_cons,List.length_nil,List.getD_cons_zero,List.getD_cons_succ,List.map_cons,List.map_nil,List.cons_append,List.nil_append,List.foldl_cons,List.foldl_nil,Nat.reduceLT,Nat.reduceMod,Nat.reduceDiv,Nat.reduceMul,Nat.reduceAdd,Nat.reduceEqDiff,reduceIte,Nat.one_ne_zero,Act.put,List.setIfInBounds_toArray,List.set_cons_zero,List.set_cons_succ]
  rw[u16]
  clear u16
  have HB3:Hid (HlB wc W9 gx (gx+1) gv gd s1 ao1 n1 cp1 e1 s2 ao2 n2 cp2 e2 s3 ao3 n3 cp3 e3 s4 ao4 n4 cp4 e4 tx ty tv td):=HB.out.later hb9
  clear HB hb9
  go_upto_region 10 with fail
  have HB:=HB3
  clear HB3
  obtain⟨V3,hV3⟩:∃ V3,V3=W9:=⟨_,rfl⟩
  rw[←hV3] at HB ⊢
  clear hV3
  rcases hcase with ⟨hsg,hoe,hoe4⟩|⟨hsg,hoe⟩
  ·have hsg:(sg==0)=true:=by rw[beq_iff_eq];exact hsg
   have hoe:(o1==0)=true:=by rw[beq_iff_eq];exact hoe
   have hoe4:(o4==0)=true:=by rw[beq_iff_eq];exact hoe4
   refine r_region [0,1,2,3,4,5,6,7,8,9,10,11,12,13,14,15,16,17,18,19,20,21,22,23,24,25,26,27,28] [66,67,68,69,70,71,72,73,74,75,76,77,78,79,80,81,82,83,84,85,86,87,88,89,90,91,92,93,4] [[],[0],[1],[2],[3,2],[2,4],[5],[6],[6,7],[8],[9],[10,9],[11,9],[9],[9],[13,14,9],[15,9],[16,9],[17],[17],[18,19,17],[20,17],[17,21,9],[12,22,9],[9,23],[24],[25],[25,26],[27]] V3 _ [isV (.int .i64 0),isV (.bool true),isV (.bool true),isV (.int .i64 0),isV (.bool true),isV (.bool true),isV (.bool true),isV (.bool true),isV (.bool true),isV (.bool true),isV (.agg #[.bool s4,.slice ao4 n4 cp4,.int .i64 e4]),isV (.int .i64 sg),isV (.bool true),isV (.agg #[.bool s1,.slice ao1 n1 cp1,.int .i64 e1]),isV (.agg #[.bool s3,.slice ao3 n3 cp3,.int .i64 e3]),isV (.int .i64 o1),isV (.bool true),isV (.bool true),isV (.agg #[.bool s2,.slice ao2 n2 cp2,.int .i64 e2]),isV (.agg #[.bool s3,.slice ao3 n3 cp3,.int .i64 e3]),isV (.int .i64 o4),isV (.bool true),isV (.bool true),isV (.bool true),isV (.bool true),isV (.bool true),isV (.bool true),isV (.bool true),isV (.bool true)] (by kernel_rfl) ⟨isV_stays _,isV_stays _,isV_stays _,isV_stays _,isV_stays _,isV_stays _,isV_stays _,isV_stays _,isV_stays _,isV_stays _,isV_stays _,isV_stays _,isV_stays _,isV_stays _,isV_stays _,isV_stays _,isV_stays _,isV_stays _,isV_stays _,isV_stays _,isV_stays _,isV_stays _,isV_stays _,isV_stays _,isV_stays _,isV_stays _,isV_stays _,isV_stays _,isV_stays _,trivial⟩ (by show ∀ s ∈ [66,67,68,69,70,71,72,73,74,75,76,77,78,79,80,81,82,83,84,85,86,87,88,89,90,91,92,93,4],s<94;decide) ?_ ?_
   ·intro j hj o ho act U hb hoth hdep
    have hj':j<29:=hj
    have t9':act.tmps[(9:Nat)]?=some (Value.pointer (some ⟨gx,0,none⟩)):=(hoth 9 (by decide)).trans rfl
    have t10':act.tmps[(10:Nat)]?=some (Value.pointer (some ⟨gx+1,0,none⟩)):=(hoth 10 (by decide)).trans rfl
    have t11':act.tmps[(11:Nat)]?=some (Value.pointer (some ⟨gv,0,none⟩)):=(hoth 11 (by decide)).trans rfl
    have t12':act.tmps[(12:Nat)]?=some (Value.pointer (some ⟨gd,0,none⟩)):=(hoth 12 (by decide)).trans rfl
    have t6':act.tmps[(6:Nat)]?=some (Value.int .i64 0):=(hoth 6 (by decide)).trans rfl
    have t8':act.tmps[(8:Nat)]?=some (Value.int .i64 0):=(hoth 8 (by decide)).trans rfl
    have t13':act.tmps[(13:Nat)]?=some (Value.bool true):=(hoth 13 (by decide)).trans rfl
    have dx:=(box_cells29 (HB.out.1.later hb).1).1
    have dy:=(box_cells29 (HB.out.2.1.later hb).1).1
    have dv:=(box_cells29 (HB.out.2.2.1.later hb).1).1
    have dd:=(box_cells29 (HB.out.2.2.2.1.later hb).1).1
    rcases(by omega:j=0∨j=1∨j=2∨j=3∨j=4∨j=5∨j=6∨j=7∨j=8∨j=9∨j=10∨j=11∨j=12∨j=13∨j=14∨j=15∨j=16∨j=17∨j=18∨j=19∨j=20∨j=21∨j=22∨j=23∨j=24∨j=25∨j=26∨j=27∨j=28)with rfl|rfl|rfl|rfl|rfl|rfl|rfl|rfl|rfl|rfl|rfl|rfl|rfl|rfl|rfl|rfl|rfl|rfl|rfl|rfl|rfl|rfl|rfl|rfl|rfl|rfl|rfl|rfl|rfl
    ·obtain rfl:=Option.some.inj ho
     exact .inl ⟨rfl,owp_move rfl t6' ⟨_,rfl,rfl,Below.refl _ _⟩⟩
    ·obtain rfl:=Option.some.inj ho
     have y0:act.tmps[(66:Nat)]?=_:=dV (hdep 0 (by simp[dL])) rfl
     exact .inl ⟨rfl,owp_run1 (w':=U) (by simp[execOp,y0,eval_cst,go_sem]) ⟨_,rfl,rfl,Below.refl _ _⟩⟩
    ·obtain rfl:=Option.some.inj ho
     have y1:act.tmps[(67:Nat)]?=_:=dV (hdep 1 (by simp[dL])) rfl
     exact .inl ⟨rfl,owp_move rfl y1 ⟨_,rfl,rfl,Below.refl _ _⟩⟩
    ·obtain rfl:=Option.some.inj ho
     have y2:act.tmps[(68:Nat)]?=_:=dV (hdep 2 (by simp[dL])) rfl
     exact .inr (wpOp_take rfl rfl rfl rfl y2 (owp_move rfl t8' ⟨_,rfl,rfl,Below.refl _ _⟩))
    ·obtain rfl:=Option.some.inj ho
     have y3:act.tmps[(69:Nat)]?=_:=dV (hdep 3 (by simp[dL])) rfl
     have y2:act.tmps[(68:Nat)]?=_:=dV (hdep 2 (by simp[dL])) rfl
     exact .inr (wpOp_take rfl rfl rfl rfl y2 (owp_run1 (w':=U) (by simp[execOp,y3,eval_cst,go_sem]) ⟨_,rfl,rfl,Below.refl _ _⟩))
    ·obtain rfl:=Option.some.inj ho
     have y2:act.tmps[(68:Nat)]?=_:=dV (hdep 2 (by simp[dL])) rfl
     have y4:act.tmps[(70:Nat)]?=_:=dV (hdep 4 (by simp[dL])) rfl
     exact .inl ⟨rfl,owp_run1 (w':=U) (by simp[execOp,y2,y4,eval_cst,go_sem]) ⟨_,rfl,rfl,Below.refl _ _⟩⟩
    ·obtain rfl:=Option.some.inj ho
     have y5:act.tmps[(71:Nat)]?=_:=dV (hdep 5 (by simp[dL])) rfl
     exact .inl ⟨rfl,owp_move rfl y5 ⟨_,rfl,rfl,Below.refl _ _⟩⟩
    ·obtain rfl:=Option.some.inj ho
     have y6:act.tmps[(72:Nat)]?=_:=dV (hdep 6 (by simp[dL])) rfl
     exact .inr (wpOp_take rfl rfl rfl rfl y6 (owp_move rfl t13' ⟨_,rfl,rfl,Below.refl _ _⟩))
    ·obtain rfl:=Option.some.inj ho
     have y6:act.tmps[(72:Nat)]?=_:=dV (hdep 6 (by simp[dL])) rfl
     have y7:act.tmps[(73:Nat)]?=_:=dV (hdep 7 (by simp[dL])) rfl
     exact .inl ⟨rfl,owp_run1 (w':=U) (by simp[execOp,y6,y7,eval_cst,go_sem]) ⟨_,rfl,rfl,Below.refl _ _⟩⟩
    ·obtain rfl:=Option.some.inj ho
     have y8:act.tmps[(74:Nat)]?=_:=dV (hdep 8 (by simp[dL])) rfl
     exact .inl ⟨rfl,owp_move rfl y8 ⟨_,rfl,rfl,Below.refl _ _⟩⟩
    ·obtain rfl:=Option.some.inj ho
     have y9:act.tmps[(75:Nat)]?=_:=dV (hdep 9 (by simp[dL])) rfl
     exact .inr (wpOp_take rfl rfl rfl rfl y9 (owp_ldD rfl t12' dd.1 dd.2.1 dd.2.2 ⟨_,rfl,rfl,Below.refl _ _⟩))
    ·obtain rfl:=Option.some.inj ho
     have y10:act.tmps[(76:Nat)]?=_:=dV (hdep 10 (by simp[dL])) rfl
     have y9:act.tmps[(75:Nat)]?=_:=dV (hdep 9 (by simp[dL])) rfl
     refine .inr (wpOp_take rfl rfl rfl rfl y9 (owp_call rfl (enters Tryz.func14 (by kernel_rfl) (by kernel_rfl)) (vs:=#[.agg #[.bool s4,.slice ao4 n4 cp4,.int .i64 e4]]) (by simp[eval_get y10]) ?_))
     refine(kS U _ (HB.out.2.2.2.1.later hb).2).mono ?_
     rintro r w' ⟨rfl,hb'⟩
     exact⟨_,rfl,_,rfl,rfl,hb'⟩
    ·obtain rfl:=Option.some.inj ho
     have y11:act.tmps[(77:Nat)]?=_:=dV (hdep 11 (by simp[dL])) rfl
     have y9:act.tmps[(75:Nat)]?=_:=dV (hdep 9 (by simp[dL])) rfl
     exact .inr (wpOp_take rfl rfl rfl rfl y9 (owp_run1 (w':=U) (by simp[execOp,y11,eval_cst,go_sem,hsg]) ⟨_,rfl,rfl,Below.refl _ _⟩))
    ·obtain rfl:=Option.some.inj ho
     have y9:act.tmps[(75:Nat)]?=_:=dV (hdep 9 (by simp[dL])) rfl
     exact .inr (wpOp_take rfl rfl rfl rfl y9 (owp_ldD rfl t9' dx.1 dx.2.1 dx.2.2 ⟨_,rfl,rfl,Below.refl _ _⟩))
    ·obtain rfl:=Option.some.inj ho
     have y9:act.tmps[(75:Nat)]?=_:=dV (hdep 9 (by simp[dL])) rfl
     exact .inr (wpOp_take rfl rfl rfl rfl y9 (owp_ldD rfl t11' dv.1 dv.2.1 dv.2.2 ⟨_,rfl,rfl,Below.refl _ _⟩))
    ·obtain rfl:=Option.some.inj ho
     have y13:act.tmps[(79:Nat)]?=_:=dV (hdep 13 (by simp[dL])) rfl
     have y14:act.tmps[(80:Nat)]?=_:=dV (hdep 14 (by simp[dL])) rfl
     have y9:act.tmps[(75:Nat)]?=_:=dV (hdep 9 (by simp[dL])) rfl
     refine .inr (wpOp_take rfl rfl rfl rfl y9 (owp_call rfl (enters Tryz.func12 (by kernel_rfl) (by kernel_rfl)) (vs:=#[.agg #[.bool s1,.slice ao1 n1 cp1,.int .i64 e1],.agg #[.bool s3,.slice ao3 n3 cp3,.int .i64 e3]]) (by simp[eval_get y13,eval_get y14]) ?_))
     refine(kO1 U _ _ (HB.out.1.later hb).2 (HB.out.2.2.1.later hb).2).mono ?_
     rintro r w' ⟨rfl,hb'⟩
     exact⟨_,rfl,_,rfl,rfl,hb'⟩
    ·obtain rfl:=Option.some.inj ho
     have y15:act.tmps[(81:Nat)]?=_:=dV (hdep 15 (by simp[dL])) rfl
     have y9:act.tmps[(75:Nat)]?=_:=dV (hdep 9 (by simp[dL])) rfl
     exact .inr (wpOp_take rfl rfl rfl rfl y9 (owp_run1 (w':=U) (by simp[execOp,y15,eval_cst,go_sem,hoe]) ⟨_,rfl,rfl,Below.refl _ _⟩))
    ·obtain rfl:=Option.some.inj ho
     have y16:act.tmps[(82:Nat)]?=_:=dV (hdep 16 (by simp[dL])) rfl
     have y9:act.tmps[(75:Nat)]?=_:=dV (hdep 9 (by simp[dL])) rfl
     exact .inr (wpOp_take rfl rfl rfl rfl y9 (owp_move rfl y16 ⟨_,rfl,rfl,Below.refl _ _⟩))
    ·obtain rfl:=Option.some.inj ho
     have y17:act.tmps[(83:Nat)]?=_:=dV (hdep 17 (by simp[dL])) rfl
     exact .inr (wpOp_take rfl rfl rfl rfl y17 (owp_ldD rfl t10' dy.1 dy.2.1 dy.2.2 ⟨_,rfl,rfl,Below.refl _ _⟩))
    ·obtain rfl:=Option.some.inj ho
     have y17:act.tmps[(83:Nat)]?=_:=dV (hdep 17 (by simp[dL])) rfl
     exact .inr (wpOp_take rfl rfl rfl rfl y17 (owp_ldD rfl t11' dv.1 dv.2.1 dv.2.2 ⟨_,rfl,rfl,Below.refl _ _⟩))
    ·obtain rfl:=Option.some.inj ho
     have y18:act.tmps[(84:Nat)]?=_:=dV (hdep 18 (by simp[dL])) rfl
     have y19:act.tmps[(85:Nat)]?=_:=dV (hdep 19 (by simp[dL])) rfl
     have y17:act.tmps[(83:Nat)]?=_:=dV (hdep 17 (by simp[dL])) rfl
     refine .inr (wpOp_take rfl rfl rfl rfl y17 (owp_call rfl (enters Tryz.func12 (by kernel_rfl) (by kernel_rfl)) (vs:=#[.agg #[.bool s2,.slice ao2 n2 cp2,.int .i64 e2],.agg #[.bool s3,.slice ao3 n3 cp3,.int .i64 e3]]) (by simp[eval_get y18,eval_get y19]) ?_))
     refine(kO4 U _ _ (HB.out.2.1.later hb).2 (HB.out.2.2.1.later hb).2).mono ?_
     rintro r w' ⟨rfl,hb'⟩
     exact⟨_,rfl,_,rfl,rfl,hb'⟩
    ·obtain rfl:=Option.some.inj ho
     have y20:act.tmps[(86:Nat)]?=_:=dV (hdep 20 (by simp[dL])) rfl
     have y17:act.tmps[(83:Nat)]?=_:=dV (hdep 17 (by simp[dL])) rfl
     exact .inr (wpOp_take rfl rfl rfl rfl y17 (owp_run1 (w':=U) (by simp[execOp,y20,eval_cst,go_sem,hoe4]) ⟨_,rfl,rfl,Below.refl _ _⟩))
    ·obtain rfl:=Option.some.inj ho
     have y17:act.tmps[(83:Nat)]?=_:=dV (hdep 17 (by simp[dL])) rfl
     have y21:act.tmps[(87:Nat)]?=_:=dV (hdep 21 (by simp[dL])) rfl
     have y9:act.tmps[(75:Nat)]?=_:=dV (hdep 9 (by simp[dL])) rfl
     exact .inr (wpOp_take rfl rfl rfl rfl y9 (owp_run1 (w':=U) (by simp[execOp,y17,y21,eval_cst,go_sem]) ⟨_,rfl,rfl,Below.refl _ _⟩))
    ·obtain rfl:=Option.some.inj ho
     have y12:act.tmps[(78:Nat)]?=_:=dV (hdep 12 (by simp[dL])) rfl
     have y22:act.tmps[(88:Nat)]?=_:=dV (hdep 22 (by simp[dL])) rfl
     have y9:act.tmps[(75:Nat)]?=_:=dV (hdep 9 (by simp[dL])) rfl
     exact .inr (wpOp_take rfl rfl rfl rfl y9 (owp_run1 (w':=U) (by simp[execOp,y12,y22,eval_cst,go_sem]) ⟨_,rfl,rfl,Below.refl _ _⟩))
    ·obtain rfl:=Option.some.inj ho
     have y9:act.tmps[(75:Nat)]?=_:=dV (hdep 9 (by simp[dL])) rfl
     have y23:act.tmps[(89:Nat)]?=_:=dV (hdep 23 (by simp[dL])) rfl
     exact .inl ⟨rfl,owp_run1 (w':=U) (by simp[execOp,y9,y23,eval_cst,go_sem]) ⟨_,rfl,rfl,Below.refl _ _⟩⟩
    ·obtain rfl:=Option.some.inj ho
     have y24:act.tmps[(90:Nat)]?=_:=dV (hdep 24 (by simp[dL])) rfl
     exact .inl ⟨rfl,owp_move rfl y24 ⟨_,rfl,rfl,Below.refl _ _⟩⟩
    ·obtain rfl:=Option.some.inj ho
     have y25:act.tmps[(91:Nat)]?=_:=dV (hdep 25 (by simp[dL])) rfl
     refine .inr (wpOp_take rfl rfl rfl rfl y25 (owp_call rfl (enters Tryz.func5 (by kernel_rfl) (by kernel_rfl)) (vs:=#[]) (by simp[]) ?_))
     refine(kW.out U (HB.out.2.2.2.2.trans (hb.mono HB.out.2.2.2.2.size))).mono ?_
     rintro r w' ⟨rfl,hb'⟩
     exact⟨_,rfl,_,rfl,rfl,hb'⟩
    ·obtain rfl:=Option.some.inj ho
     have y25:act.tmps[(91:Nat)]?=_:=dV (hdep 25 (by simp[dL])) rfl
     have y26:act.tmps[(92:Nat)]?=_:=dV (hdep 26 (by simp[dL])) rfl
     exact .inl ⟨rfl,owp_run1 (w':=U) (by simp[execOp,y25,y26,eval_cst,go_sem]) ⟨_,rfl,rfl,Below.refl _ _⟩⟩
    ·obtain rfl:=Option.some.inj ho
     have y27:act.tmps[(93:Nat)]?=_:=dV (hdep 27 (by simp[dL])) rfl
     exact .inl ⟨rfl,owp_assign rfl y27 ⟨_,rfl,rfl,Below.refl _ _⟩⟩
   ·intro u W9 hb9 hu
    have u28:u 28=.bool true:=hu 28 (by show 28<29;decide)
    clear hu
    simp only[putL,show List.range 29 = [0,1,2,3,4,5,6,7,8,9,10,11,12,13,14,15,16,17,18,19,20,21,22,23,24,25,26,27,28] from rfl,List.length_cons,List.length_nil,List.getD_cons_zero,List.getD_cons_succ,List.map_cons,List.map_nil,List.cons_append,List.nil_append,List.foldl_cons,List.foldl_nil,Nat.reduceLT,Nat.reduceMod,Nat.reduceDiv,Nat.reduceMul,Nat.reduceAdd,Nat.reduceEqDiff,reduceIte,Nat.one_ne_zero,Act.put,List.setIfInBounds_toArray,List.set_cons_zero,List.set_cons_succ]
    rw[u28]
    clear u28
    have HBW:Hid (Bw wc W9):=HB.out.2.2.2.2.trans (hb9.mono HB.out.2.2.2.2.size)
    clear hb9
    go_wp2
    go_ret
    exact⟨rfl,HBW.out⟩
  ·have hsg:(sg==0)=false:=by rw[beq_eq_false_iff_ne];exact hsg
   have hoe:(o1==0)=false:=by rw[beq_eq_false_iff_ne];exact hoe
   refine r_region [0,1,2,3,4,5,6,7,8,9,10,11,12,13,14,15,16,17,18,19,20,21,22,23,24,25,26,27,28] [66,67,68,69,70,71,72,73,74,75,76,77,78,79,80,81,82,83,84,85,86,87,88,89,90,91,92,93,4] [[],[0],[1],[2],[3,2],[2,4],[5],[6],[6,7],[8],[9],[10,9],[11,9],[9],[9],[13,14,9],[15,9],[16,9],[17],[17],[18,19,17],[20,17],[17,21,9],[12,22,9],[9,23],[24],[25],[25,26],[27]] V3 _ [isV (.int .i64 0),isV (.bool true),isV (.bool true),isV (.int .i64 0),isV (.bool true),isV (.bool true),isV (.bool true),isV (.bool true),isV (.bool true),isV (.bool true),isV (.agg #[.bool s4,.slice ao4 n4 cp4,.int .i64 e4]),isV (.int .i64 sg),isV (.bool false),isV (.agg #[.bool s1,.slice ao1 n1 cp1,.int .i64 e1]),isV (.agg #[.bool s3,.slice ao3 n3 cp3,.int .i64 e3]),isV (.int .i64 o1),isV (.bool false),isV (.bool false),isV (undef),isV (undef),isV (undef),isV (undef),isV (.bool false),isV (.bool true),isV (.bool true),isV (.bool true),isV (.bool true),isV (.bool true),isV (.bool true)] (by kernel_rfl) ⟨isV_stays _,isV_stays _,isV_stays _,isV_stays _,isV_stays _,isV_stays _,isV_stays _,isV_stays _,isV_stays _,isV_stays _,isV_stays _,isV_stays _,isV_stays _,isV_stays _,isV_stays _,isV_stays _,isV_stays _,isV_stays _,isV_stays _,isV_stays _,isV_stays _,isV_stays _,isV_stays _,isV_stays _,isV_stays _,isV_stays _,isV_stays _,isV_stays _,isV_stays _,trivial⟩ (by show ∀ s ∈ [66,67,68,69,70,71,72,73,74,75,76,77,78,79,80,81,82,83,84,85,86,87,88,89,90,91,92,93,4],s<94;decide) ?_ ?_
   ·intro j hj o ho act U hb hoth hdep
    have hj':j<29:=hj
    have t9':act.tmps[(9:Nat)]?=some (Value.pointer (some ⟨gx,0,none⟩)):=(hoth 9 (by decide)).trans rfl
    have t10':act.tmps[(10:Nat)]?=some (Value.pointer (some ⟨gx+1,0,none⟩)):=(hoth 10 (by decide)).trans rfl
    have t11':act.tmps[(11:Nat)]?=some (Value.pointer (some ⟨gv,0,none⟩)):=(hoth 11 (by decide)).trans rfl
    have t12':act.tmps[(12:Nat)]?=some (Value.pointer (some ⟨gd,0,none⟩)):=(hoth 12 (by decide)).trans rfl
    have t6':act.tmps[(6:Nat)]?=some (Value.int .i64 0):=(hoth 6 (by decide)).trans rfl
    have t8':act.tmps[(8:Nat)]?=some (Value.int .i64 0):=(hoth 8 (by decide)).trans rfl
    have t13':act.tmps[(13:Nat)]?=some (Value.bool true):=(hoth 13 (by decide)).trans rfl
    have dx:=(box_cells29 (HB.out.1.later hb).1).1
    have dy:=(box_cells29 (HB.out.2.1.later hb).1).1
    have dv:=(box_cells29 (HB.out.2.2.1.later hb).1).1
    have dd:=(box_cells29 (HB.out.2.2.2.1.later hb).1).1
    rcases(by omega:j=0∨j=1∨j=2∨j=3∨j=4∨j=5∨j=6∨j=7∨j=8∨j=9∨j=10∨j=11∨j=12∨j=13∨j=14∨j=15∨j=16∨j=17∨j=18∨j=19∨j=20∨j=21∨j=22∨j=23∨j=24∨j=25∨j=26∨j=27∨j=28)with rfl|rfl|rfl|rfl|rfl|rfl|rfl|rfl|rfl|rfl|rfl|rfl|rfl|rfl|rfl|rfl|rfl|rfl|rfl|rfl|rfl|rfl|rfl|rfl|rfl|rfl|rfl|rfl|rfl
    ·obtain rfl:=Option.some.inj ho
     exact .inl ⟨rfl,owp_move rfl t6' ⟨_,rfl,rfl,Below.refl _ _⟩⟩
    ·obtain rfl:=Option.some.inj ho
     have y0:act.tmps[(66:Nat)]?=_:=dV (hdep 0 (by simp[dL])) rfl
     exact .inl ⟨rfl,owp_run1 (w':=U) (by simp[execOp,y0,eval_cst,go_sem]) ⟨_,rfl,rfl,Below.refl _ _⟩⟩
    ·obtain rfl:=Option.some.inj ho
     have y1:act.tmps[(67:Nat)]?=_:=dV (hdep 1 (by simp[dL])) rfl
     exact .inl ⟨rfl,owp_move rfl y1 ⟨_,rfl,rfl,Below.refl _ _⟩⟩
    ·obtain rfl:=Option.some.inj ho
     have y2:act.tmps[(68:Nat)]?=_:=dV (hdep 2 (by simp[dL])) rfl
     exact .inr (wpOp_take rfl rfl rfl rfl y2 (owp_move rfl t8' ⟨_,rfl,rfl,Below.refl _ _⟩))
    ·obtain rfl:=Option.some.inj ho
     have y3:act.tmps[(69:Nat)]?=_:=dV (hdep 3 (by simp[dL])) rfl
     have y2:act.tmps[(68:Nat)]?=_:=dV (hdep 2 (by simp[dL])) rfl
     exact .inr (wpOp_take rfl rfl rfl rfl y2 (owp_run1 (w':=U) (by simp[execOp,y3,eval_cst,go_sem]) ⟨_,rfl,rfl,Below.refl _ _⟩))
    ·obtain rfl:=Option.some.inj ho
     have y2:act.tmps[(68:Nat)]?=_:=dV (hdep 2 (by simp[dL])) rfl
     have y4:act.tmps[(70:Nat)]?=_:=dV (hdep 4 (by simp[dL])) rfl
     exact .inl ⟨rfl,owp_run1 (w':=U) (by simp[execOp,y2,y4,eval_cst,go_sem]) ⟨_,rfl,rfl,Below.refl _ _⟩⟩
    ·obtain rfl:=Option.some.inj ho
     have y5:act.tmps[(71:Nat)]?=_:=dV (hdep 5 (by simp[dL])) rfl
     exact .inl ⟨rfl,owp_move rfl y5 ⟨_,rfl,rfl,Below.refl _ _⟩⟩
    ·obtain rfl:=Option.some.inj ho
     have y6:act.tmps[(72:Nat)]?=_:=dV (hdep 6 (by simp[dL])) rfl
     exact .inr (wpOp_take rfl rfl rfl rfl y6 (owp_move rfl t13' ⟨_,rfl,rfl,Below.refl _ _⟩))
    ·obtain rfl:=Option.some.inj ho
     have y6:act.tmps[(72:Nat)]?=_:=dV (hdep 6 (by simp[dL])) rfl
     have y7:act.tmps[(73:Nat)]?=_:=dV (hdep 7 (by simp[dL])) rfl
     exact .inl ⟨rfl,owp_run1 (w':=U) (by simp[execOp,y6,y7,eval_cst,go_sem]) ⟨_,rfl,rfl,Below.refl _ _⟩⟩
    ·obtain rfl:=Option.some.inj ho
     have y8:act.tmps[(74:Nat)]?=_:=dV (hdep 8 (by simp[dL])) rfl
     exact .inl ⟨rfl,owp_move rfl y8 ⟨_,rfl,rfl,Below.refl _ _⟩⟩
    ·obtain rfl:=Option.some.inj ho
     have y9:act.tmps[(75:Nat)]?=_:=dV (hdep 9 (by simp[dL])) rfl
     exact .inr (wpOp_take rfl rfl rfl rfl y9 (owp_ldD rfl t12' dd.1 dd.2.1 dd.2.2 ⟨_,rfl,rfl,Below.refl _ _⟩))
    ·obtain rfl:=Option.some.inj ho
     have y10:act.tmps[(76:Nat)]?=_:=dV (hdep 10 (by simp[dL])) rfl
     have y9:act.tmps[(75:Nat)]?=_:=dV (hdep 9 (by simp[dL])) rfl
     refine .inr (wpOp_take rfl rfl rfl rfl y9 (owp_call rfl (enters Tryz.func14 (by kernel_rfl) (by kernel_rfl)) (vs:=#[.agg #[.bool s4,.slice ao4 n4 cp4,.int .i64 e4]]) (by simp[eval_get y10]) ?_))
     refine(kS U _ (HB.out.2.2.2.1.later hb).2).mono ?_
     rintro r w' ⟨rfl,hb'⟩
     exact⟨_,rfl,_,rfl,rfl,hb'⟩
    ·obtain rfl:=Option.some.inj ho
     have y11:act.tmps[(77:Nat)]?=_:=dV (hdep 11 (by simp[dL])) rfl
     have y9:act.tmps[(75:Nat)]?=_:=dV (hdep 9 (by simp[dL])) rfl
     exact .inr (wpOp_take rfl rfl rfl rfl y9 (owp_run1 (w':=U) (by simp[execOp,y11,eval_cst,go_sem,hsg]) ⟨_,rfl,rfl,Below.refl _ _⟩))
    ·obtain rfl:=Option.some.inj ho
     have y9:act.tmps[(75:Nat)]?=_:=dV (hdep 9 (by simp[dL])) rfl
     exact .inr (wpOp_take rfl rfl rfl rfl y9 (owp_ldD rfl t9' dx.1 dx.2.1 dx.2.2 ⟨_,rfl,rfl,Below.refl _ _⟩))
    ·obtain rfl:=Option.some.inj ho
     have y9:act.tmps[(75:Nat)]?=_:=dV (hdep 9 (by simp[dL])) rfl
     exact .inr (wpOp_take rfl rfl rfl rfl y9 (owp_ldD rfl t11' dv.1 dv.2.1 dv.2.2 ⟨_,rfl,rfl,Below.refl _ _⟩))
    ·obtain rfl:=Option.some.inj ho
     have y13:act.tmps[(79:Nat)]?=_:=dV (hdep 13 (by simp[dL])) rfl
     have y14:act.tmps[(80:Nat)]?=_:=dV (hdep 14 (by simp[dL])) rfl
     have y9:act.tmps[(75:Nat)]?=_:=dV (hdep 9 (by simp[dL])) rfl
     refine .inr (wpOp_take rfl rfl rfl rfl y9 (owp_call rfl (enters Tryz.func12 (by kernel_rfl) (by kernel_rfl)) (vs:=#[.agg #[.bool s1,.slice ao1 n1 cp1,.int .i64 e1],.agg #[.bool s3,.slice ao3 n3 cp3,.int .i64 e3]]) (by simp[eval_get y13,eval_get y14]) ?_))
     refine(kO1 U _ _ (HB.out.1.later hb).2 (HB.out.2.2.1.later hb).2).mono ?_
     rintro r w' ⟨rfl,hb'⟩
     exact⟨_,rfl,_,rfl,rfl,hb'⟩
    ·obtain rfl:=Option.some.inj ho
     have y15:act.tmps[(81:Nat)]?=_:=dV (hdep 15 (by simp[dL])) rfl
     have y9:act.tmps[(75:Nat)]?=_:=dV (hdep 9 (by simp[dL])) rfl
     exact .inr (wpOp_take rfl rfl rfl rfl y9 (owp_run1 (w':=U) (by simp[execOp,y15,eval_cst,go_sem,hoe]) ⟨_,rfl,rfl,Below.refl _ _⟩))
    ·obtain rfl:=Option.some.inj ho
     have y16:act.tmps[(82:Nat)]?=_:=dV (hdep 16 (by simp[dL])) rfl
     have y9:act.tmps[(75:Nat)]?=_:=dV (hdep 9 (by simp[dL])) rfl
     exact .inr (wpOp_take rfl rfl rfl rfl y9 (owp_move rfl y16 ⟨_,rfl,rfl,Below.refl _ _⟩))
    ·obtain rfl:=Option.some.inj ho
     have y17:act.tmps[(83:Nat)]?=_:=dV (hdep 17 (by simp[dL])) rfl
     exact .inr (wpOp_skip rfl rfl rfl rfl y17 (by decide) ⟨_,rfl,rfl,Below.refl _ _⟩)
    ·obtain rfl:=Option.some.inj ho
     have y17:act.tmps[(83:Nat)]?=_:=dV (hdep 17 (by simp[dL])) rfl
     exact .inr (wpOp_skip rfl rfl rfl rfl y17 (by decide) ⟨_,rfl,rfl,Below.refl _ _⟩)
    ·obtain rfl:=Option.some.inj ho
     have y18:act.tmps[(84:Nat)]?=_:=dV (hdep 18 (by simp[dL])) rfl
     have y19:act.tmps[(85:Nat)]?=_:=dV (hdep 19 (by simp[dL])) rfl
     have y17:act.tmps[(83:Nat)]?=_:=dV (hdep 17 (by simp[dL])) rfl
     exact .inr (wpOp_skip rfl rfl rfl rfl y17 (by decide) ⟨_,rfl,rfl,Below.refl _ _⟩)
    ·obtain rfl:=Option.some.inj ho
     have y20:act.tmps[(86:Nat)]?=_:=dV (hdep 20 (by simp[dL])) rfl
     have y17:act.tmps[(83:Nat)]?=_:=dV (hdep 17 (by simp[dL])) rfl
     exact .inr (wpOp_skip rfl rfl rfl rfl y17 (by decide) ⟨_,rfl,rfl,Below.refl _ _⟩)
    ·obtain rfl:=Option.some.inj ho
     have y17:act.tmps[(83:Nat)]?=_:=dV (hdep 17 (by simp[dL])) rfl
     have y21:act.tmps[(87:Nat)]?=_:=dV (hdep 21 (by simp[dL])) rfl
     have y9:act.tmps[(75:Nat)]?=_:=dV (hdep 9 (by simp[dL])) rfl
     exact .inr (wpOp_take rfl rfl rfl rfl y9 (owp_run1 (w':=U) (by simp[execOp,y17,y21,eval_cst,go_sem]) ⟨_,rfl,rfl,Below.refl _ _⟩))
    ·obtain rfl:=Option.some.inj ho
     have y12:act.tmps[(78:Nat)]?=_:=dV (hdep 12 (by simp[dL])) rfl
     have y22:act.tmps[(88:Nat)]?=_:=dV (hdep 22 (by simp[dL])) rfl
     have y9:act.tmps[(75:Nat)]?=_:=dV (hdep 9 (by simp[dL])) rfl
     exact .inr (wpOp_take rfl rfl rfl rfl y9 (owp_run1 (w':=U) (by simp[execOp,y12,y22,eval_cst,go_sem]) ⟨_,rfl,rfl,Below.refl _ _⟩))
    ·obtain rfl:=Option.some.inj ho
     have y9:act.tmps[(75:Nat)]?=_:=dV (hdep 9 (by simp[dL])) rfl
     have y23:act.tmps[(89:Nat)]?=_:=dV (hdep 23 (by simp[dL])) rfl
     exact .inl ⟨rfl,owp_run1 (w':=U) (by simp[execOp,y9,y23,eval_cst,go_sem]) ⟨_,rfl,rfl,Below.refl _ _⟩⟩
    ·obtain rfl:=Option.some.inj ho
     have y24:act.tmps[(90:Nat)]?=_:=dV (hdep 24 (by simp[dL])) rfl
     exact .inl ⟨rfl,owp_move rfl y24 ⟨_,rfl,rfl,Below.refl _ _⟩⟩
    ·obtain rfl:=Option.some.inj ho
     have y25:act.tmps[(91:Nat)]?=_:=dV (hdep 25 (by simp[dL])) rfl
     refine .inr (wpOp_take rfl rfl rfl rfl y25 (owp_call rfl (enters Tryz.func5 (by kernel_rfl) (by kernel_rfl)) (vs:=#[]) (by simp[]) ?_))
     refine(kW.out U (HB.out.2.2.2.2.trans (hb.mono HB.out.2.2.2.2.size))).mono ?_
     rintro r w' ⟨rfl,hb'⟩
     exact⟨_,rfl,_,rfl,rfl,hb'⟩
    ·obtain rfl:=Option.some.inj ho
     have y25:act.tmps[(91:Nat)]?=_:=dV (hdep 25 (by simp[dL])) rfl
     have y26:act.tmps[(92:Nat)]?=_:=dV (hdep 26 (by simp[dL])) rfl
     exact .inl ⟨rfl,owp_run1 (w':=U) (by simp[execOp,y25,y26,eval_cst,go_sem]) ⟨_,rfl,rfl,Below.refl _ _⟩⟩
    ·obtain rfl:=Option.some.inj ho
     have y27:act.tmps[(93:Nat)]?=_:=dV (hdep 27 (by simp[dL])) rfl
     exact .inl ⟨rfl,owp_assign rfl y27 ⟨_,rfl,rfl,Below.refl _ _⟩⟩
   ·intro u W9 hb9 hu
    have u28:u 28=.bool true:=hu 28 (by show 28<29;decide)
    clear hu
    simp only[putL,show List.range 29 = [0,1,2,3,4,5,6,7,8,9,10,11,12,13,14,15,16,17,18,19,20,21,22,23,24,25,26,27,28] from rfl,List.length_cons,List.length_nil,List.getD_cons_zero,List.getD_cons_succ,List.map_cons,List.map_nil,List.cons_append,List.nil_append,List.foldl_cons,List.foldl_nil,Nat.reduceLT,Nat.reduceMod,Nat.reduceDiv,Nat.reduceMul,Nat.reduceAdd,Nat.reduceEqDiff,reduceIte,Nat.one_ne_zero,Act.put,List.setIfInBounds_toArray,List.set_cons_zero,List.set_cons_succ]
    rw[u28]
    clear u28
    have HBW:Hid (Bw wc W9):=HB.out.2.2.2.2.trans (hb9.mono HB.out.2.2.2.2.size)
    clear hb9
    go_wp2
    go_ret
    exact⟨rfl,HBW.out⟩
theorem hl_tn (k:Nat):tnO (k:Int)=10^k∧tnU (k:Int)=1:=by
 unfold tnO tnU
 rw[Int.toNat_natCast,show(-(k:Int)).toNat=0 by omega]
 exact⟨rfl,rfl⟩
theorem hl_1 (Z:Int) (O U:Nat):unR Z O U 1=unF Z O U:=by
 unfold unR unP
 simp
theorem hl_3 (Z:Int) (O U:Nat):unR Z O U 3=if unX Z O U then unF Z O U else unF Z O U+1:=by
 unfold unR unP
 cases unX Z O U <;> simp
theorem hl_F {Z:Int} {O K:Nat} (hK:0<K):Z*(O:Int) / (K:Int)*K≤Z*(O:Int)∧Z*(O:Int)<(Z*(O:Int) / (K:Int)+1)*K∧(Z*(O:Int) % (K:Int)=0→Z*(O:Int) / (K:Int)*K=Z*(O:Int))∧(¬ Z*(O:Int) % (K:Int)=0→Z*(O:Int) / (K:Int)*K<Z*(O:Int)):=by
 generalize Z*(O:Int)=y
 have h1:=Int.mul_ediv_add_emod y K
 have h2:=Int.emod_nonneg y (show(K:Int)≠0 by omega)
 have h3:=Int.emod_lt_of_pos y (show(0:Int)<K by omega)
 rw[Int.mul_comm] at h1
 have h4:(y / (K:Int)+1)*K=y / (K:Int)*K+K:=by rw[Int.add_mul,Int.one_mul]
 omega
theorem hl_le {p q K:Int} (hK:0<K) (h:p*K≤q*K):p≤q:=Int.le_of_mul_le_mul_right h hK
theorem hl_lt {p q K:Int} (hK:0<K) (h:p*K<q*K):p<q:=Int.lt_of_mul_lt_mul_right h (by omega)
theorem hl_b {Z:Int} {O K B:Nat} (hK:0<K) (h:Z.natAbs≤B*K) : -((B*O:Nat):Int)≤Z*(O:Int) / (K:Int)∧Z*(O:Int) / (K:Int)≤((B*O:Nat):Int):=by
 obtain⟨f1,f2,-,-⟩:=hl_F (Z:=Z) (O:=O) hK
 have hKi:(0:Int)<K:=by omega
 have h5:(Z*(O:Int)).natAbs≤B*O*K:=by
  rw[Int.natAbs_mul,Int.natAbs_natCast,Nat.mul_right_comm]
  exact Nat.mul_le_mul_right _ h
 have h6:((B*O:Nat):Int)*(K:Int)=((B*O*K:Nat):Int):=by push_cast;rfl
 constructor
 ·have h7 : -((B*O:Nat):Int)*K<(Z*(O:Int) / (K:Int)+1)*K:=by rw[Int.neg_mul,h6];omega
  have:=hl_lt hKi h7
  omega
 ·refine hl_le hKi ?_
  rw[h6]
  omega
theorem hl_sg {s:Bool} {R:Int} (h1:s=true→R≤0) (h2:s=false→0≤R):(if s then -((R.natAbs:Nat):Int) else((R.natAbs:Nat):Int))=R:=by
 cases s
 ·have:=h2 rfl
  rw[if_neg (by decide)]
  omega
 ·have:=h1 rfl
  rw[if_pos rfl]
  omega
theorem kU_two:2^kP=kU:=by
 have h:kU=pU kP:=by unfold kU;rw[kP_eq]
 rw[h]
 unfold pU
 exact Eq.refl _
theorem dcR_len {N b:Nat} (h:N<10^b):(dcR N).length≤b:=by
 have:=rvD_len h
 unfold rvD at this
 rw[List.length_reverse] at this
 exact this
theorem mag_mag (a:Nat):mag (mag a)=mag a:=by unfold mag;omega
theorem fU_mag (a:Nat):fU (mag a)=fU a:=by unfold fU Ie.mant Ie.lp;rw[mag_mag]
theorem fU_1e15:fU 4831355200913801216=1000000000000000*kU:=by decide +kernel
theorem neg_mag (a:Nat):neg (mag a)=false:=by unfold neg mag;exact decide_eq_false (by omega)
theorem stp_mg (x:Nat):stp x=if neg x then -(mag x:Int) else(mag x:Int):=by unfold stp sgn;rfl
theorem hl_fU {a:Nat} (h:mag a≤4831355200913801216):fU a≤1000000000000000*kU:=by
 have hm:mag (mag a)=mag a:=mag_mag a
 have h1:stp (mag a)=(mag a:Int):=by rw[stp_mg,neg_mag,hm];rfl
 have h2:stp 4831355200913801216=4831355200913801216:=by decide
 have:=sU_le (a:=mag a) (b:=4831355200913801216) (by omega) (by decide) (by omega) (by decide) (by rw[h1,h2];omega)
 rw[sU_pos (neg_mag a),sU_pos (by decide),fU_mag,fU_1e15] at this
 exact_mod_cast this
theorem ten_two (k:Nat):10^k≤2^(4*k):=by rw[Nat.pow_mul];exact Nat.pow_le_pow_left (by decide) _
def hV5:Nat:=500
def hX6:Nat:=60000
theorem hX6_eq:hX6=60000:=rfl
theorem hV5_eq:hV5=500:=rfl
theorem hl_val (s:Bool) (R k:Nat) (hk:k≤400) (hR:R<10^hV5) (W:World) :
  Calls Tryz.prog 7 #[.string ⟨(sgL s (ptL (dcT R) (k:Int))).toArray⟩] W fun r w'=>OutQ W (un (if s then -((R:Nat):Int) else((R:Nat):Int)) 0) r w':=by
 rw[dcT_eq]
 obtain⟨c,t,hc,hc45⟩:=pt_head (N:=R) (pl:=(k:Int)) (by omega)
 have hl1:=pt_len (d:=dcR R) (p:=(k:Int))
 have hl2:=dcR_len hR
 rw[hV5_eq] at hl2
 have hl:(sgL s (ptL (dcR R) (k:Int))).length≤(ptL (dcR R) (k:Int)).length+1:=by unfold sgL;split <;> simp
 have hp:0<(sgL s (ptL (dcR R) (k:Int))).length:=by unfold sgL;rw[hc];split <;> simp
 refine(Dvalue (sgL s (ptL (dcR R) (k:Int))) _ s W rfl hp (by omega) ?_).mono ?_
 ·unfold sgL
  cases s
  ·rw[if_neg (by decide),hc]
   rw[beq_eq_false_iff_ne]
   show((c.toNat:Nat):Int)≠45
   omega
  ·rfl
 ·rintro r w' ⟨A,h⟩
  rw[fd_sg,dv_pt R (by omega)] at h
  exact outQ ⟨A,h⟩
theorem dsgn_un {Z:Int} {p b:Nat} (h:Z.natAbs<2^b) (hb:b≤90000) (hp:p≤90000) {W:World} {X:Value} (hX:DN W X (un Z p)) :
  Calls Tryz.prog 14 #[X] W fun r w'=>r=.returned (.int .i64 (if Z=0 then 0 else if Z<0 then -1 else 1))∧Bw W w':=by
 have g:=un_gn (p:=p) h hb hp
 obtain⟨ao,cap,rfl,hA⟩:=hX
 have k:=rsgn (na:=(un Z p).1) (ua:=ao) (un:=dlen (un Z p).2.1) (uc:=cap) (ea:=(un Z p).2.2) (w:=W) (by have:=g.2.1;omega)
 have e:(if dlen (un Z p).2.1=0 then(0:Int)else if(un Z p).1 then -1 else 1)=(if Z=0 then 0 else if Z<0 then -1 else 1):=by
  have h1:=(un_sign (Z:=Z) (p:=p)).2
  by_cases hz:Z=0
  ·rw[if_pos hz,if_pos (dlen_eq_zero.2 (h1.2 hz))]
  ·rw[if_neg hz,if_neg (fun h=>hz (h1.1 (dlen_eq_zero.1 h)))]
   have e1:(un Z p).1=decide (Z<0):=by unfold un cn;rw[if_neg (show ¬ Z.natAbs=0 by omega)]
   rw[e1]
   by_cases hn:Z<0
   ·rw[if_pos hn,if_pos (decide_eq_true hn)]
   ·rw[if_neg hn,if_neg (by simpa using hn)]
 rw[e] at k
 exact k
theorem hl_order {x y:Int} {X Y:Value} {W:World} (hx:(x*kU).natAbs<2^hX6) (hy:y.natAbs<2^hX6) (h1:DN W X (un x 0)) (h2:DN W Y (un y 1074)):Calls Tryz.prog 12 #[X,Y] W fun r w'=>r=.returned (.int .i64 (cmpI (x*kU) y))∧Bw W w':=by
 rw[un_kU] at h1
 exact dorderU hx hy (by rw[hX6_eq];omega) (by rw[hX6_eq];omega) (by omega) h1 h2
theorem hl_order2 {x y:Int} {X Y:Value} {W:World} (hx:(x*kU).natAbs<2^hX6) (hy:y.natAbs<2^hX6) (h1:DN W X (un y 1074)) (h2:DN W Y (un x 0)):Calls Tryz.prog 12 #[X,Y] W fun r w'=>r=.returned (.int .i64 (cmpI y (x*kU)))∧Bw W w':=by
 rw[un_kU] at h2
 exact dorderU hy hx (by rw[hX6_eq];omega) (by rw[hX6_eq];omega) (by omega) h1 h2
theorem hl_big {x:Int} {e:Nat} (he:e≤2000) (h:x.natAbs≤10^e):x.natAbs<2^(4*e+1)∧(x*kU).natAbs<2^hX6:=by
 have h1:x.natAbs<2^(4*e+1):=Nat.lt_of_le_of_lt (Nat.le_trans h (ten_two e)) (Nat.pow_lt_pow_right (by decide) (by omega))
 have hk:((kU:Nat):Int).natAbs<2^bU:=by rw[Int.natAbs_natCast];exact kU_lt
 have h2:=abs_mul h1 hk
 exact⟨h1,Nat.lt_of_lt_of_le h2 (Nat.pow_le_pow_right (by decide) (by rw[bU_eq,hX6_eq];omega))⟩
theorem ten15 (k:Nat):1000000000000000*10^k=10^(k+15)∧10^(k+15)+1≤10^(k+16):=by
 have h1:10^(k+15)=1000000000000000*10^k:=by rw[Nat.pow_add,Nat.mul_comm]
 have h2:10^(k+16)=10^(k+15)*10:=Nat.pow_succ _ _
 have h3:0<10^(k+15):=Nat.pow_pos (by decide)
 exact⟨h1.symm,by omega⟩
theorem hl_c1 {a:Nat} (hm:mag a≤4831355200913801216):(FloatKind.f64.format.order (mag a) 4831355200913801216==some Ordering.lt)=true∨((FloatKind.f64.format.order (mag a) 4831355200913801216==some Ordering.lt)=false∧(FloatKind.f64.format.order (mag a) 4831355200913801216==some Ordering.eq)=true):=by
 have o1:=ord_lt (mag a) 4831355200913801216 (by omega) (by decide)
 have o2:=ord_eq (mag a) 4831355200913801216 (by omega) (by decide)
 rw[lt_pos (by omega) (by decide)] at o1
 rw[eq_pos (by omega) (by decide)] at o2
 by_cases h:mag a<4831355200913801216
 ·exact .inl (o1.trans (decide_eq_true h))
 ·exact .inr ⟨o1.trans (decide_eq_false h),o2.trans (decide_eq_true (by omega))⟩
theorem hl_c2 {a:Nat} (ha:a<18446744073709551616) (hf:mag a≤9218868437227405312) (h0:mag a≠0):(FloatKind.f64.format.order a 0==some Ordering.eq)=false:=by
 have o:=ord_eq a 0 ha (by decide)
 have h1:isNaN a=false:=by unfold isNaN;exact decide_eq_false (by omega)
 unfold eq at o
 rw[h1,show stp 0=0 by decide,decide_eq_false (by rw[stp_mg];split <;> omega)] at o
 rw[o]
 simp
theorem hl_c3 {a:Nat} (ha:a<18446744073709551616) (h0:mag a=0):(FloatKind.f64.format.order a 0==some Ordering.eq)=true:=by
 have o:=ord_eq a 0 ha (by decide)
 have h1:isNaN a=false:=by unfold isNaN;exact decide_eq_false (by omega)
 unfold eq at o
 rw[h1,show stp 0=0 by decide,decide_eq_true (by rw[stp_mg];split <;> omega)] at o
 rw[o]
 rfl
theorem hl_c4 {a:Nat} (ha:a<18446744073709551616) (hm:¬ mag a≤4831355200913801216):(FloatKind.f64.format.order (mag a) 4831355200913801216==some Ordering.lt)=false∧(FloatKind.f64.format.order (mag a) 4831355200913801216==some Ordering.eq)=false:=by
 have hml:=mag_lt' a ha
 have o1:=ord_lt (mag a) 4831355200913801216 hml (by decide)
 have o2:=ord_eq (mag a) 4831355200913801216 hml (by decide)
 have e1:stp (mag a)=(mag a:Int):=by rw[stp_mg,neg_mag,mag_mag];rfl
 have e2:stp 4831355200913801216=4831355200913801216:=by decide
 unfold lt at o1
 unfold eq at o2
 rw[e1,e2,decide_eq_false (by omega)] at o1 o2
 exact⟨by rw[o1];simp,by rw[o2];simp⟩
theorem hl_main (a k:Nat) (n:Int) (w:World) (ha:a<18446744073709551616) (hk:k≤400) (hn:max 0 (min n 400)=((k:Nat):Int)) (hm:mag a≤4831355200913801216) (h0:mag a≠0) (hT:Tab32 w) (hI:Ie.Tab w) (h10:Tab10 w) :
  Calls Tryz.prog 3 #[.float .f64 a,.int .i64 n] w fun r w'=>r=.returned (.bool true)∧Bw w w':=by
 have hf:mag a<9218868437227405312:=by omega
 obtain⟨tO,tU⟩:=hl_tn k
 have hfU:=hl_fU hm
 have hfp:0<fU a:=by
  have h2:=Ie.mant_ne (a:=a) h0
  unfold fU
  exact Nat.mul_pos (by omega) (Nat.two_pow_pos _)
 have hZ:sU a=sZ a:=rfl
 have hZa:=sZ_abs a
 have hZn:neg a=true→sZ a<0:=fun h=>by unfold sZ;rw[if_pos h];omega
 have hZp:neg a=false→0<sZ a:=fun h=>by unfold sZ;rw[h];rw[if_neg (by decide)];omega
 obtain⟨O,hO⟩:∃ O,O=10^k:=⟨_,rfl⟩
 have hO0:0<O:=by rw[hO];exact Nat.pow_pos (by decide)
 obtain⟨e1,e2⟩:=ten15 k
 rw[←hO] at tO
 have hB:=hl_b (Z:=sZ a) (O:=O) (K:=kU) (B:=1000000000000000) kU_pos (by rw[hZa];exact hfU)
 have hF:=hl_F (Z:=sZ a) (O:=O) (K:=kU) kU_pos
 obtain⟨y,hy⟩:∃ y,y=sZ a*(O:Int):=⟨_,rfl⟩
 obtain⟨q,hq⟩:∃ q,q=sZ a*(O:Int) / (kU:Int):=⟨_,rfl⟩
 have hUF:unF (sZ a) (tnO k) (tnU k)=q:=by unfold unF;rw[tO,tU,Nat.one_mul,kU_two,hq]
 have hUX:unX (sZ a) (tnO k) (tnU k)=decide (y % (kU:Int)=0):=by unfold unX;rw[tO,tU,Nat.one_mul,kU_two,hy]
 have hU1:unR (sZ a) (tnO k) (tnU k) 1=q:=by rw[hl_1,hUF]
 have hU3:unR (sZ a) (tnO k) (tnU k) 3=if y % (kU:Int)=0 then q else q+1:=by
  rw[hl_3,hUF,hUX]
  by_cases h:y % (kU:Int)=0
  ·rw[decide_eq_true h,if_pos h];rfl
  ·rw[decide_eq_false h,if_neg h];rfl
 obtain⟨q3,hq3⟩:∃ q3,q3=if y % (kU:Int)=0 then q else q+1:=⟨_,rfl⟩
 rw[←hq3] at hU3
 rw[←hy] at hF hB
 rw[show y / (kU:Int)=q by rw[hy,hq]] at hF hB
 have hKi:(0:Int)<(kU:Int):=by have:=kU_pos;omega
 have hyn:neg a=true→y<0:=fun h=>by rw[hy];exact Int.mul_neg_of_neg_of_pos (hZn h) (by omega)
 have hyp:neg a=false→0<y:=fun h=>by rw[hy];exact Int.mul_pos (hZp h) (by omega)
 obtain⟨f1,f2,f3,f4⟩:=hF
 have hq1:neg a=true→q<0:=fun h=>hl_lt hKi (by have:=hyn h;omega)
 have hq2:neg a=false→0≤q:=fun h=>by have:=hl_lt (p:=0) (q:=q+1) hKi (by have:=hyp h;omega);omega
 have hq31:neg a=true→q3≤0:=fun h=>by have:=hq1 h;rw[hq3];split <;> omega
 have hq32:neg a=false→0≤q3:=fun h=>by have:=hq2 h;rw[hq3];split <;> omega
 rw[hO,e1] at hB
 obtain⟨E,hE⟩:∃ E,E=k+16:=⟨_,rfl⟩
 have hEb:E≤416:=by omega
 have h45:10^E<10^hV5:=Nat.pow_lt_pow_right (by decide) (by rw[hV5_eq];omega)
 rw[←hE] at e2
 generalize 10^(k+15)=E1 at *
 have hqa:q.natAbs≤10^E:=by omega
 have hq3a:q3.natAbs≤10^E:=by
  have h5:q3=q∨q3=q+1:=by rw[hq3];split;exact .inl rfl;exact .inr rfl
  omega
 obtain⟨b1,b2⟩:=hl_big (by omega) hqa
 obtain⟨b3,b4⟩:=hl_big (by omega) hq3a
 have hOb:((O:Nat):Int).natAbs<2^(4*k+1):=by
  rw[Int.natAbs_natCast,hO]
  exact Nat.lt_of_le_of_lt (ten_two k) (Nat.pow_lt_pow_right (by decide) (by omega))
 have hyb:y.natAbs<2^hX6:=by
  rw[hy]
  exact Nat.lt_of_lt_of_le (abs_mul (sZ_lt a) hOb) (Nat.pow_le_pow_right (by decide) (by rw[bU_eq,hX6_eq];omega))
 have hd:(q3 - q).natAbs<2^2:=by have h5:q3=q∨q3=q+1:=by { rw[hq3];split;exact .inl rfl;exact .inr rfl };have:2^2=4:=rfl;omega
 have hs1:=hl_sg (s:=neg a) (R:=q) (fun h=>by have:=hq1 h;omega) hq2
 have hs3:=hl_sg (s:=neg a) (R:=q3) hq31 hq32
 have c1:cmpI (q*kU) y≤0:=by rcases cmpI_cases (q*kU) y with h|h|h <;> omega
 have c2:cmpI y (q3*kU)≤0:=by
  have h6:y≤q3*kU:=by
   rw[hq3]
   split
   ·rename_i h;have:=f3 h;omega
   ·omega
  rcases cmpI_cases y (q3*kU)with h|h|h <;> omega
 have c3:cmpI (q3 - q) 1≤0:=by
  have h5:q3=q∨q3=q+1:=by rw[hq3];split;exact .inl rfl;exact .inr rfl
  rcases cmpI_cases (q3 - q) 1 with h|h|h <;> omega
 have cc:((if q3 - q=0 then(0:Int)else if q3 - q<0 then -1 else 1)=0∧cmpI (q*kU) y=0∧cmpI (q3*kU) y=0)∨((if q3 - q=0 then(0:Int)else if q3 - q<0 then -1 else 1)≠0∧cmpI (q*kU) y≠0):=by
  by_cases h:y % (kU:Int)=0
  ·rw[if_pos h] at hq3
   have h7:=f3 h
   rw[hq3]
   refine .inl ⟨if_pos (by omega),?_,?_⟩ <;> (rcases cmpI_cases (q*kU) y with h|h|h <;> omega)
  ·rw[if_neg h] at hq3
   have h7:=f4 h
   refine .inr ⟨by rw[if_neg (by omega),if_neg (by omega)];decide,?_⟩
   rcases cmpI_cases (q*kU) y with h|h|h <;> omega
 refine DHolds_1 a (mag a) n k ⟨(sgL (neg a) (ptL (dcT (uN a k 1)) k)).toArray⟩ ⟨(sgL (neg a) (ptL (dcT (uN a k 3)) k)).toArray⟩ (un q 0) (un q3 0) (un (sZ a) 1074) (un ((10^k:Nat):Int) 0) (un y 1074) (un (q3 - q) 0) (un 1 0) (cmpI (q*kU) y) (cmpI y (q3*kU)) (cmpI (q3 - q) 1) (cmpI (q3*kU) y) (if q3 - q=0 then(0:Int)else if q3 - q<0 then -1 else 1) w (fun W=>c159 a ha W) ?_ ?_ hn.symm ⟨by omega,by omega⟩ ?_ ?_ ?_ ?_ ?_ ?_ ?_ ?_ ?_ ?_ ?_ ?_ ?_ ?_ c1 c2 c3 cc ?_
 ·exact hl_c1 hm
 ·exact hl_c2 ha (by omega) h0
 ·exact fun W hW=>DFixed (hT.later hW) (Tab.later hI hW) ha hf (by omega) (by omega) (by omega)
 ·exact fun W hW=>DFixed (hT.later hW) (Tab.later hI hW) ha hf (by omega) (by omega) (by omega)
 ·intro W
  have h:=hl_val (neg a) (uN a k 1) k hk (by unfold uN;rw[hU1];omega) W
  unfold uN at h ⊢
  rw[hU1] at h ⊢
  rw[hs1] at h
  exact h
 ·intro W
  have h:=hl_val (neg a) (uN a k 3) k hk (by unfold uN;rw[hU3];omega) W
  unfold uN at h ⊢
  rw[hU3] at h ⊢
  rw[hs3] at h
  exact h
 ·exact fun W=>(dfloatU ha W).mono fun r w' h=>outQ h
 ·exact fun W=>(d2ten k W (by omega)).mono fun r w' h=>outQ h
 ·intro W X Y hX hY
  rw[←hO] at hY
  have h:=dtimesU (sZ_lt a) hOb (by rw[bU_eq];omega) (by omega) hX hY
  rw[←hy] at h
  exact h.mono fun r w' h=>outQ h
 ·intro W X Y hX hY
  have h:=gless (un_gn (p:=0) b3 (by omega) (by omega)) (un_gn (p:=0) b1 (by omega) (by omega)) hX hY
  rw[gD_un] at h
  exact h.mono fun r w' h=>outQ h
 ·exact fun W X Y hX hY=>hl_order b2 hyb hX hY
 ·exact fun W X Y hX hY=>hl_order2 b4 hyb hX hY
 ·exact fun W X Y hX hY=>dorderU hd (show(1:Int).natAbs<2^2 by decide) (by omega) (by omega) (by omega) hX hY
 ·exact fun W X Y hX hY=>hl_order b4 hyb hX hY
 ·exact fun W=>(dwholeU (n:=1) (by omega) W).mono fun r w' h=>outQ h
 ·exact fun W X hX=>dsgn_un hd (by omega) (by omega) hX
 ·exact fun W hW=>Dworks (hT.later hW) (Tab.later hI hW) (h10.later hW)
theorem decimHolds_ok (a:Nat) (n:Int) (w:World) (ha:a<18446744073709551616) (hT:Tab32 w) (hI:Ie.Tab w) (h10:Tab10 w) :
  Calls Tryz.prog 3 #[.float .f64 a,.int .i64 n] w fun r w'=>r=.returned (.bool true)∧Bw w w':=by
 have kW:Hid (∀ W,Bw w W→Calls Tryz.prog 5 #[] W fun r w'=>r=.returned (.bool true)∧Bw W w'):=fun W hW=>Dworks (hT.later hW) (Tab.later hI hW) (h10.later hW)
 have hml:=mag_lt' a ha
 by_cases hm:mag a≤4831355200913801216
 ·by_cases h0:mag a=0
  ·exact DHolds_w a (mag a) n w (fun W=>c159 a ha W) (.inr ⟨hl_c1 hm,hl_c3 ha h0⟩) kW
  ·obtain⟨k,hk⟩:∃ k:Nat,max 0 (min n 400)=(k:Int):=⟨(max 0 (min n 400)).toNat,by omega⟩
   exact hl_main a k n w ha (by omega) hk hm h0 hT hI h10
 ·exact DHolds_w a (mag a) n w (fun W=>c159 a ha W) (.inl (hl_c4 ha hm)) kW
end Go.Proofs.YthhaamilfioddaaGreatDoor
