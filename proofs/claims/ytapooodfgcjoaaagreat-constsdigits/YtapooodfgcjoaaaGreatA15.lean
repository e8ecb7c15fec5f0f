/- Own work: contracts of the program's functions, part 15: NK7 NK8. -/
import Derived.Test.YtapooodfgcjoaaaGreatA14
import Derived.Test.YtapooodfgcjoaaaGreatA10

set_option maxHeartbeats 16000000
set_option maxRecDepth 200000
set_option linter.unusedVariables false
set_option linter.unusedSimpArgs false
namespace Go.Proofs.YtapooodfgcjoaaaGreat
open Go Go.RowKit Go.Fl64
theorem dgs_end (x c:Nat):dgs x (c+1)=dgs (x / 10) c ++ [UInt8.ofNat (48+x % 10)]:=by
 rw[Nat.add_comm c 1,dgs_add,Nat.pow_one]
 show _ ++ [dgb x 0]=_
 unfold dgb
 rw[Nat.pow_zero,Nat.div_one]
theorem dgs_zero:∀ c,dgs 0 c=List.replicate c 48
 | 0=>rfl
 | c+1=>by
  show dgb 0 c :: dgs 0 c=_
  rw[dgs_zero c,List.replicate_succ]
  congr 1
  unfold dgb
  rw[Nat.zero_div]
  rfl
theorem dcR_pad:∀ c x,x<10^c→dgs x c=List.replicate (c - (dcR x).length) 48++dcR x∧(dcR x).length≤c
 | 0,x,h=>by
  have:x=0:=by rw[Nat.pow_zero] at h;omega
  subst this
  exact⟨rfl,Nat.le_refl _⟩
 | c+1,x,h=>by
  by_cases h0:x=0
  ·subst h0
   have e:dcR 0 = []:=rfl
   rw[e,dgs_zero]
   exact⟨by simp,by simp⟩
  ·have h2:x / 10<10^c:=(Nat.div_lt_iff_lt_mul (by decide)).2 (by rw[←Nat.pow_succ];exact h)
   obtain⟨i1,i2⟩:=dcR_pad c (x / 10) h2
   rw[dgs_end,dcR_step h0,i1,List.length_append]
   constructor
   ·rw[List.append_assoc]
    congr 2
    show _=c+1 - (_+1)
    omega
   ·show _+1≤c+1
    omega
theorem dcD_pad {c x:Nat} (h:x<10^(c+1)):dgs x (c+1)=List.replicate (c+1 - (dcD x).length) 48++dcD x∧(dcD x).length≤c+1∧0<(dcD x).length:=by
 unfold dcD
 by_cases h0:x=0
 ·subst h0
  rw[if_pos rfl,dgs_zero]
  refine⟨?_,by simp,by simp⟩
  show List.replicate (c+1) 48=List.replicate (c+1 - 1) 48 ++ [48]
  rw[Nat.add_sub_cancel,List.replicate_succ']
 ·rw[if_neg h0]
  obtain⟨a,b⟩:=dcR_pad (c+1) x h
  refine⟨a,b,?_⟩
  rw[dcR_step h0,List.length_append]
  show 0<_+1
  omega
theorem bcat9 (L M:List UInt8):(⟨L.toArray⟩:ByteArray)++⟨M.toArray⟩=⟨(L++M).toArray⟩:=by
 apply ByteArray.ext
 simp
theorem tk1 (L:List UInt8) (k:Nat):(⟨L.toArray⟩:ByteArray).extract 0 k=⟨(L.take k).toArray⟩:=by
 apply ByteArray.ext
 simp[ByteArray.extract,ByteArray.copySlice]
theorem dr1 (L:List UInt8) (k:Nat):(⟨L.toArray⟩:ByteArray).extract k L.length=⟨(L.drop k).toArray⟩:=by
 apply ByteArray.ext
 simp[ByteArray.extract,ByteArray.copySlice]
 rw[List.take_of_length_le (by simp)]
theorem sz9 (L:List UInt8):(⟨L.toArray⟩:ByteArray).size=L.length:=rfl
theorem bdrewN {B:Nat} {a w:World} (h:Below B a w) (n:Nat):Below B a (w.drewN n):=h.trans ⟨rfl,rfl,rfl,Nat.le_refl _,fun _ _=>rfl⟩
def dzB (W:World) (g:Nat) (s1:Bool) (ao1:Option Addr) (n1 cp1:Nat) (e1:Int) (s2:Bool) (ao2:Option Addr) (n2 cp2:Nat) (e2:Int) (TL TH:Bool×Nat×Int):Prop :=
 W.heap[g]?=some (.cells #[.bool s1,.slice ao1 n1 cp1,.int .i64 e1,.bool s2,.slice ao2 n2 cp2,.int .i64 e2] 47 (0,0))∧DN W (.agg #[.bool s1,.slice ao1 n1 cp1,.int .i64 e1]) TL∧DN W (.agg #[.bool s2,.slice ao2 n2 cp2,.int .i64 e2]) TH
theorem dzB.later {W W':World} {g:Nat} {s1:Bool} {ao1:Option Addr} {n1 cp1:Nat} {e1:Int} {s2:Bool} {ao2:Option Addr} {n2 cp2:Nat} {e2:Int} {TL TH:Bool×Nat×Int} (h:dzB W g s1 ao1 n1 cp1 e1 s2 ao2 n2 cp2 e2 TL TH) (hb:Bw W W'):dzB W' g s1 ao1 n1 cp1 e1 s2 ao2 n2 cp2 e2 TL TH :=
 ⟨(hb.block _ (Array.getElem?_eq_some_iff.1 h.1).1).trans h.1,h.2.1.later hb,h.2.2.later hb⟩
theorem ddig_bad (k n:Int) (w:World) (h:¬ (1≤k∧k≤8)∨n<0∨1000<n):Calls Tryz.prog 14 #[.int .i64 k,.int .i64 n] w fun r w'=>r=.returned (.tuple #[.string ⟨#[]⟩,.int .i64 1])∧Bw w w':=by
 by_cases h1:k<1
 ·clear h
  go_enter Tryz.func14,Tryz.ntmps14
  go_wp2
  refine bodyPost_ret (results_tmp2 rfl _ _ _) rfl ?_
  exact⟨rfl,Below.refl _ _⟩
 ·by_cases h2:8<k
  ·clear h
   go_enter Tryz.func14,Tryz.ntmps14
   go_wp2
   refine bodyPost_ret (results_tmp2 rfl _ _ _) rfl ?_
   exact⟨rfl,Below.refl _ _⟩
  ·by_cases h3:n<0
   ·clear h
    go_enter Tryz.func14,Tryz.ntmps14
    go_wp2
    refine bodyPost_ret (results_tmp2 rfl _ _ _) rfl ?_
    exact⟨rfl,Below.refl _ _⟩
   ·have h4:1000<n:=by omega
    clear h
    go_enter Tryz.func14,Tryz.ntmps14
    go_wp2
    refine bodyPost_ret (results_tmp2 rfl _ _ _) rfl ?_
    exact⟨rfl,Below.refl _ _⟩
theorem ddig_1 (k n p:Nat) (D T:List UInt8) (TT FL:Bool×Nat×Int) (A B:Bool×Nat×Int→Prop) (w:World) (h1:1≤k) (h8:k≤8) (hn:n≤1000) (hp:p=64+4*n) (hD0:0<D.length) (hD:D.length≤n+1)
  (hT:Hid (∀ S:List UInt8,S=List.replicate (n+1 - D.length) 48++D→T=if n=0 then S else S.take 1 ++ [46]++S.drop 1))
  (kT:Hid (∀ W:World,Calls Tryz.prog 30 #[.int .i64 n] W fun r w'=>OutD W TT r w'))
  (kE:Hid (∀ W:World,Calls Tryz.prog 17 #[.int .i64 k,.agg #[.bool false,.slice none 0 0,.int .i64 0],.agg #[.bool false,.slice none 0 0,.int .i64 0],.int .i64 p] W fun r w'=>∃ TL TH,A TL∧A TH∧OutQ W TL TH r w'))
  (kM:Hid (∀ (W:World) X Y TL,A TL→DN W X TL→DN W Y TT→Calls Tryz.prog 33 #[X,Y] W fun r w'=>∃ PL,B PL∧OutD W PL r w'))
  (kC:Hid (∀ (W:World) X PL,B PL→DN W X PL→Calls Tryz.prog 32 #[X,.int .i64 0] W fun r w'=>OutD W FL r w'))
  (kD:Hid (∀ (W:World) X,DN W X FL→Calls Tryz.prog 31 #[X] W fun r w'=>r=.returned (.string ⟨D.toArray⟩)∧Bw W w')) :
  Calls Tryz.prog 14 #[.int .i64 k,.int .i64 n] w fun r w'=>r=.returned (.tuple #[.string ⟨T.toArray⟩,.int .i64 0])∧Bw w w':=by
 have c1:¬ (k:Int)<1:=by omega
 have c2:¬ (8:Int)<(k:Int):=by omega
 have c3:¬ (n:Int)<0:=by omega
 have c4:¬ (1000:Int)<(n:Int):=by omega
 have c5:IntKind.i64.wrap (4*(n:Int))=4*(n:Int):=by rw[IntKind.wrap_i64];omega
 have c6:IntKind.i64.wrap (64+4*(n:Int))=(p:Int):=by rw[IntKind.wrap_i64];omega
 have c7:64+4*(n:Int)=(p:Int):=by omega
 have HN:Hid (n≤1000∧0<D.length∧D.length≤n+1):=⟨hn,hD0,hD⟩
 clear h1 h8 hn hp hD0 hD
 go_enter Tryz.func14,Tryz.ntmps14
 have kk:=kT.out w
 clear kT
 go_wp2_with fail
 refine kk.mono ?_
 rintro r u1 ⟨s1,ao1,n1,cp1,e1,rfl,hd,hb⟩
 clear kk
 obtain⟨V9,hV9⟩:∃ V,V=u1.alloc (.cells #[.bool false,.slice none 0 0,.int .i64 0] 45):=⟨_,rfl⟩
 have hbV:Bw u1 V9:=by rw[hV9];exact(Below.refl _ _).alloc (Nat.le_refl _) _
 have hzV:V9.heap[u1.heap.size]?=some (.cells #[.bool false,.slice none 0 0,.int .i64 0] 45 (0,0)):=by rw[hV9];exact heap_alloc_new _ _
 have HZ:Hid (Bw w u1∧Bw u1 V9∧V9.heap[u1.heap.size]?=some (.cells #[.bool false,.slice none 0 0,.int .i64 0] 45 (0,0))∧DN u1 (.agg #[.bool s1,.slice ao1 n1 cp1,.int .i64 e1]) TT):=⟨hb,hbV,hzV,hd⟩
 obtain⟨⟨y0,y1,y2⟩,y3,y4,y5⟩:=box_cells29 hzV
 clear hbV hzV hd hb
 go_upto_region 4 with (rw[←hV9];clear hV9)
 obtain⟨gt,hg9⟩:∃ g,g=u1.heap.size:=⟨_,rfl⟩
 obtain⟨W1,hW9⟩:∃ V,V=((V9.setCell ⟨u1.heap.size,0,none⟩ (.bool s1)).setCell ⟨u1.heap.size,1,none⟩ (.slice ao1 n1 cp1)).setCell ⟨u1.heap.size,2,none⟩ (.int .i64 e1):=⟨_,rfl⟩
 have H1:Hid (NbD W1 gt s1 ao1 n1 cp1 e1 TT∧Bw w W1):=by
  have hbW:Bw u1 W1:=by rw[hW9];exact below_store3 HZ.out.2.1 (Nat.le_refl _) _ _ _
  refine⟨by rw[hW9,hg9];exact⟨store3_29 _ _ _ HZ.out.2.2.1,(HZ.out.2.2.2.later HZ.out.2.1).store3 HZ.out.2.2.1 _ _ _⟩,HZ.out.1.trans (hbW.mono HZ.out.1.size)⟩
 rw[←hW9,←hg9]
 clear hW9 hg9 HZ y0 y1 y2 y3 y4 y5
 go_wp2_with fail
 go_loopw [7] (fun sp wr=>sp=.int .i64 p∧wr=W1) (fun _ _=>0)
 case atStart=>exact⟨rfl,rfl⟩
 case round =>
  obtain⟨rfl,rfl⟩:=hrel
  have kk:=kE.out wr
  clear kE
  go_wp2_with fail
  refine kk.mono ?_
  rintro r u2 ⟨TL,TH,hTL,hTH,U,rfl,⟨s2,ao2,n2,cp2,e2,s3,ao3,n3,cp3,e3,rfl,hd1,hd2⟩,hb2⟩
  clear kk
  obtain⟨V4,hV4⟩:∃ V,V=u2.alloc (.cells #[.bool false,.slice none 0 0,.int .i64 0,.bool false,.slice none 0 0,.int .i64 0] 47):=⟨_,rfl⟩
  have hbV4:Bw u2 V4:=by rw[hV4];exact(Below.refl _ _).alloc (Nat.le_refl _) _
  have hzV4:V4.heap[u2.heap.size]?=some (.cells #[.bool false,.slice none 0 0,.int .i64 0,.bool false,.slice none 0 0,.int .i64 0] 47 (0,0)):=by rw[hV4];exact heap_alloc_new _ _
  obtain⟨⟨y0,y1,y2,y3,y4,y5⟩,f0,f1,f2,f3,f4,f5⟩:=box_cells6 hzV4
  have HZ:Hid (DN u2 (.agg #[.bool s2,.slice ao2 n2 cp2,.int .i64 e2]) TL∧DN u2 (.agg #[.bool s3,.slice ao3 n3 cp3,.int .i64 e3]) TH∧Bw wr u2∧Bw u2 V4∧V4.heap[u2.heap.size]?=some (.cells #[.bool false,.slice none 0 0,.int .i64 0,.bool false,.slice none 0 0,.int .i64 0] 47 (0,0))):=⟨hd1,hd2,hb2,hbV4,hzV4⟩
  clear hd1 hd2 hb2 hbV4 hzV4
  go_upto_region 7 with (rw[←hV4];clear hV4)
  obtain⟨gb,hgb⟩:∃ g,g=u2.heap.size:=⟨_,rfl⟩
  obtain⟨W5,hW5⟩:∃ V,V=(((((V4.setCell ⟨u2.heap.size,0,none⟩ (.bool s2)).setCell ⟨u2.heap.size,1,none⟩ (.slice ao2 n2 cp2)).setCell ⟨u2.heap.size,2,none⟩ (.int .i64 e2)).setCell ⟨u2.heap.size,3,none⟩ (.bool s3)).setCell ⟨u2.heap.size,4,none⟩ (.slice ao3 n3 cp3)).setCell ⟨u2.heap.size,5,none⟩ (.int .i64 e3):=⟨_,rfl⟩
  have HF:Hid (dzB W5 gb s2 ao2 n2 cp2 e2 s3 ao3 n3 cp3 e3 TL TH∧NbD W5 gt s1 ao1 n1 cp1 e1 TT∧Bw w W5):=(by
   obtain⟨q1,q2,q3,q4,q5⟩:=HZ.out
   have hb:Bw wr W5:=by rw[hW5];exact below_store6 (q3.trans (q4.mono q3.size)) q3.size _ _ _ _ _ _
   refine⟨⟨?_,?_,?_⟩,H1.out.1.later hb,H1.out.2.trans (hb.mono H1.out.2.size)⟩
   ·rw[hW5,hgb];exact store6 _ _ _ _ _ _ q5
   ·rw[hW5];exact(q1.later q4).store6 q5 _ _ _ _ _ _
   ·rw[hW5];exact(q2.later q4).store6 q5 _ _ _ _ _ _:dzB W5 gb s2 ao2 n2 cp2 e2 s3 ao3 n3 cp3 e3 TL TH∧NbD W5 gt s1 ao1 n1 cp1 e1 TT∧Bw w W5)
  rw[←hW5,←hgb]
  clear hW5 hgb HZ H1 y0 y1 y2 y3 y4 y5 f0 f1 f2 f3 f4 f5
  obtain⟨⟨y0,y1,y2,y3,y4,y5⟩,-⟩:=box_cells6 HF.out.1.1
  obtain⟨⟨z0,z1,z2⟩,-⟩:=box_cells29 HF.out.2.1.1
  have kk:=kM.out W5 _ _ _ hTL HF.out.1.2.1 HF.out.2.1.2
  clear hTL
  go_wp2_with fail
  refine kk.mono ?_
  rintro r u3 ⟨PL,hPL,s4,ao4,n4,cp4,e4,rfl,hd3,hb3⟩
  have HF2:Hid (dzB u3 gb s2 ao2 n2 cp2 e2 s3 ao3 n3 cp3 e3 TL TH∧NbD u3 gt s1 ao1 n1 cp1 e1 TT∧Bw w u3):=⟨HF.out.1.later hb3,HF.out.2.1.later hb3,HF.out.2.2.trans (hb3.mono HF.out.2.2.size)⟩
  clear kk HF y0 y1 y2 y3 y4 y5 z0 z1 z2 hb3
  have kk:=kC.out u3 _ _ hPL hd3
  clear hPL hd3
  go_wp2_with fail
  refine kk.mono ?_
  rintro r u4 ⟨s5,ao5,n5,cp5,e5,rfl,hd4,hb4⟩
  have HF3:Hid (dzB u4 gb s2 ao2 n2 cp2 e2 s3 ao3 n3 cp3 e3 TL TH∧NbD u4 gt s1 ao1 n1 cp1 e1 TT∧Bw w u4):=⟨HF2.out.1.later hb4,HF2.out.2.1.later hb4,HF2.out.2.2.trans (hb4.mono HF2.out.2.2.size)⟩
  clear kk HF2 hb4
  have kk:=kD.out u4 _ hd4
  clear hd4
  go_wp2_with fail
  refine kk.mono ?_
  rintro r u5 ⟨rfl,hb5⟩
  have HF4:Hid (dzB u5 gb s2 ao2 n2 cp2 e2 s3 ao3 n3 cp3 e3 TL TH∧NbD u5 gt s1 ao1 n1 cp1 e1 TT∧Bw w u5):=⟨HF3.out.1.later hb5,HF3.out.2.1.later hb5,HF3.out.2.2.trans (hb5.mono HF3.out.2.2.size)⟩
  clear kk HF3 hb5
  obtain⟨⟨y0,y1,y2,y3,y4,y5⟩,-⟩:=box_cells6 HF4.out.1.1
  obtain⟨⟨z0,z1,z2⟩,-⟩:=box_cells29 HF4.out.2.1.1
  have kk:=kM.out u5 _ _ _ hTH HF4.out.1.2.2 HF4.out.2.1.2
  clear kM hTH
  go_wp2_with fail
  refine kk.mono ?_
  rintro r u6 ⟨PH,hPH,s6,ao6,n6,cp6,e6,rfl,hd6,hb6⟩
  have hb6':Bw w u6:=HF4.out.2.2.trans (hb6.mono HF4.out.2.2.size)
  clear kk HF4 hb6 y0 y1 y2 y3 y4 y5 z0 z1 z2
  have kk:=kC.out u6 _ _ hPH hd6
  clear kC hPH hd6
  go_wp2_with fail
  refine kk.mono ?_
  rintro r u7 ⟨s7,ao7,n7,cp7,e7,rfl,hd7,hb7⟩
  have hb7':Bw w u7:=hb6'.trans (hb7.mono hb6'.size)
  clear kk hb6' hb7
  have kk:=kD.out u7 _ hd7
  clear kD hd7
  go_wp2_with fail
  refine kk.mono ?_
  rintro r u8 ⟨rfl,hb8⟩
  have HB:Hid (Bw w u8):=hb7'.trans (hb8.mono hb7'.size)
  clear kk hb8 hb7'
  go_wp2_with fail
  go_loopg [9] (n+1 - D.length) (fun g v wx=>∃ S:List UInt8,S.length+g=n+1∧v=.string ⟨S.toArray⟩∧Hid (S=List.replicate (S.length - D.length) 48++D∧D.length≤S.length)∧wx=u8)
  case atStart=>exact⟨D,by have:=HN.out;omega,rfl,⟨by rw[Nat.sub_self];rfl,Nat.le_refl _⟩,rfl⟩
  case round =>
   obtain⟨S,hS,rfl,HS,rfl⟩:=hrel
   obtain⟨M,hM⟩:∃ M,M=S.length:=⟨_,rfl⟩
   have hsz:(⟨S.toArray⟩:ByteArray).size=M:=by rw[hM];rfl
   have HM:Hid (M=S.length∧M+gk=n+1∧n≤1000):=⟨hM,by rw[hM];exact hS,HN.out.1⟩
   clear hS hM
   by_cases hg:gk=0
   ·have hm:(n:Int)<(M:Int):=by have:=HM.out;omega
    have hTS:T=if n=0 then S else S.take 1 ++ [46]++S.drop 1:=by
     have h1:=HS.out
     have h2:=HM.out
     refine hT.out S ?_
     rw[show n+1 - D.length=S.length - D.length by omega]
     exact h1.1
    have hMn:M=n+1:=by have:=HM.out;omega
    clear hg HS hT
    by_cases hn0:n=0
    ·have h0:((n:Int)==0)=true:=by rw[beq_iff_eq];omega
     rw[if_pos hn0] at hTS
     have HT2:Hid (S=T):=hTS.symm
     clear hTS hMn
     go_wp2_with fail
     refine bodyPost_ret (results_tmp2 rfl _ _ _) rfl ?_
     exact⟨congrArg (fun s:List UInt8=>Ending.returned (.tuple #[.string ⟨s.toArray⟩,.int .i64 0])) HT2.out,HB.out⟩
    ·have h0:((n:Int)==0)=false:=by rw[beq_eq_false_iff_ne];omega
     rw[if_neg hn0] at hTS
     have hw:IntKind.i64.wrap ((M:Int) - (n:Int))=1:=by rw[IntKind.wrap_i64];have:=HM.out;omega
     have et:=tk1 S 1
     have ed:(⟨S.toArray⟩:ByteArray).extract 1 M=⟨S.tail.toArray⟩:=by rw[HM.out.1,←List.drop_one];exact dr1 S 1
     have e1:(⟨(S.take 1).toArray⟩:ByteArray)++⟨#[46]⟩=⟨(S.take 1 ++ [46]).toArray⟩:=bcat9 _ [46]
     have e2:(⟨(S.take 1 ++ [46]).toArray⟩:ByteArray)++⟨S.tail.toArray⟩=⟨T.toArray⟩:=by rw[hTS,List.drop_one];exact bcat9 _ _
     have hc1:(⟨(S.take 1).toArray⟩:ByteArray).size+(⟨#[46]⟩:ByteArray).size≤9223372036854775807:=by
      rw[sz9,show(⟨#[46]⟩:ByteArray).size=1 from rfl,List.length_take];omega
     have hc2:(⟨(S.take 1 ++ [46]).toArray⟩:ByteArray).size+(⟨S.tail.toArray⟩:ByteArray).size≤9223372036854775807:=by
      rw[sz9,sz9,List.length_append,List.length_take,List.length_tail];have:=HM.out;simp;omega
     have hm1:(1:Int)≤(M:Int):=by omega
     clear hTS hMn hn0
     go_upto_region 13 with fail
     go_quiet (fail)
     go_wp2_with fail
     refine bodyPost_ret (results_tmp2 rfl _ _ _) rfl ?_
     exact⟨rfl,bdrewN HB.out nq⟩
   ·have hm:(M:Int)≤(n:Int):=by have:=HM.out;omega
    obtain⟨S',hS'⟩:∃ S',S'=48 :: S:=⟨_,rfl⟩
    have e1:(⟨#[48]⟩:ByteArray)++⟨S.toArray⟩=⟨S'.toArray⟩:=by rw[hS'];exact bcat9 [48] _
    have hc1:(⟨#[48]⟩:ByteArray).size+(⟨S.toArray⟩:ByteArray).size≤9223372036854775807:=by
     rw[hsz,show(⟨#[48]⟩:ByteArray).size=1 from rfl];have:=HM.out;omega
    have HG0:Hid (gk≠0):=hg
    have HS':Hid (S'.length+(gk - 1)=n+1∧S'=List.replicate (S'.length - D.length) 48++D∧D.length≤S'.length):=by
     have h1:S'.length=S.length+1:=by rw[hS'];rfl
     have h2:=HM.out
     have h3:=HS.out
     refine⟨by omega,?_,by omega⟩
     rw[h1,show S.length+1 - D.length=S.length - D.length+1 by omega,List.replicate_succ,List.cons_append,←h3.1]
     exact hS'
    clear hS' HS HM hT hg
    go_wp2_with fail
    go_roundg (gk - 1)
    case measure=>have:=HG0.out;omega
    case rel=>exact⟨S',HS'.out.1,rfl,⟨HS'.out.2.1,HS'.out.2.2⟩,rfl⟩
theorem fl_abs {x:Int} {D B b m:Nat} (h:x / ((B:Nat):Int)=(D:Int)) (hB:0<B) (hD:D<10^m) (hb:B=2^b):x.natAbs<2^(4*m+b):=by
 have e:=Int.emod_add_mul_ediv x ((B:Nat):Int)
 have e1:=Int.emod_nonneg x (show((B:Nat):Int)≠0 by omega)
 have e2:=Int.emod_lt_of_pos x (show(0:Int)<((B:Nat):Int) by omega)
 rw[h,←Int.natCast_mul] at e
 have h1:B*D+B≤B*10^m:=by rw[←Nat.mul_succ];exact Nat.mul_le_mul_left _ hD
 have h2:10^m≤16^m:=Nat.pow_le_pow_left (by decide) m
 have h3:(16:Nat)^m=2^(4*m):=by rw[Nat.pow_mul]
 have h4:B*10^m≤B*2^(4*m):=by rw[←h3];exact Nat.mul_le_mul_left _ h2
 have h5:B*2^(4*m)=2^(4*m+b):=by rw[hb,Nat.mul_comm,Nat.pow_add]
 generalize 2^(4*m+b)=Q at *
 generalize B*2^(4*m)=Q2 at *
 generalize B*10^m=Q3 at *
 generalize B*D=Q4 at *
 omega
theorem fac_abs {x:Int} {X b:Nat} (hX:0<X) (h:(x*((X:Nat):Int)).natAbs<2^b):x.natAbs<2^b:=by
 rw[Int.natAbs_mul,Int.natAbs_natCast] at h
 exact Nat.lt_of_le_of_lt (Nat.le_mul_of_pos_right _ hX) h
theorem tx_doc {k n:Nat} (h1:1≤k) (h8:k≤8):∀ S:List UInt8,S=List.replicate (n+1 - (dcD (dgX k n)).length) 48++dcD (dgX k n)→txD k n=if n=0 then S else S.take 1 ++ [46]++S.drop 1:=by
 intro S hS
 rw[←(dcD_pad (dgX_small (n:=n) h1 h8)).1] at hS
 rw[hS,txD_eq]
 show _=if n=0 then dgb (dgX k n) n :: dgs (dgX k n) n else List.take 1 (dgb (dgX k n) n :: dgs (dgX k n) n) ++ [46]++List.drop 1 (dgb (dgX k n) n :: dgs (dgX k n) n)
 by_cases h:n=0
 ·rw[if_pos h,if_neg (by omega)];rfl
 ·rw[if_neg h,if_pos (by omega)];rfl
def FlT (k n:Nat) (t:Bool×Nat×Int):Prop:=∃ lo q,t=un lo q∧q≤4113∧lo*((10^n:Nat):Int) / ((2^q:Nat):Int)=((dgX k n:Nat):Int)
def FlP (k n:Nat) (t:Bool×Nat×Int):Prop:=∃ lo q,t=un (lo*((10^n:Nat):Int)) (q+0)∧q≤4113∧lo*((10^n:Nat):Int) / ((2^q:Nat):Int)=((dgX k n:Nat):Int)
theorem ddig_ok {k n:Nat} {w:World} (h1:1≤k) (h8:k≤8) (hn:n≤1000):Calls Tryz.prog 14 #[.int .i64 k,.int .i64 n] w fun r w'=>r=.returned (.tuple #[.string ⟨(txD k n).toArray⟩,.int .i64 0])∧Bw w w':=by
 have hsm:=dgX_small (n:=n) h1 h8
 obtain⟨-,p1,p2⟩:=dcD_pad hsm
 have hpl:64+4*n≤4064:=by omega
 refine ddig_1 k n (64+4*n) (dcD (dgX k n)) (txD k n) (un ((10^n:Nat):Int) 0) (un ((dgX k n:Nat):Int) 0) (FlT k n) (FlP k n) w h1 h8 hn rfl p2 p1 (tx_doc h1 h8) (fun W=>(d2ten n W (by omega)).mono fun r w' h=>outD h) ?_ ?_ ?_ ?_
 ·intro W
  obtain⟨lo,hi,q,hE,hc⟩:=enc_k (w:=W) h1 h8 (show 64≤64+4*n by omega) hpl (gdn0 W) (gdn0 W)
  obtain⟨d1,d2⟩:=dg_doc h1 h8 hn hE
  have hq:=hE.q2
  exact hc.mono fun r w' h=>⟨_,_,⟨lo,q,rfl,by omega,d1⟩,⟨hi,q,rfl,by omega,d2⟩,h⟩
 ·rintro W X Y TL ⟨lo,q,rfl,hq,hd⟩ hX hY
  have b1:=fl_abs hd (Nat.two_pow_pos q) hsm rfl
  have b2:=fac_abs (Nat.pow_pos (by decide)) b1
  have b3:(((10^n:Nat):Int)).natAbs<2^(4*(n+1)+q):=by
   rw[Int.natAbs_natCast]
   refine Nat.lt_of_lt_of_le (Nat.pow_lt_pow_right (by decide) (Nat.lt_succ_self n)) ?_
   refine Nat.le_trans (Nat.pow_le_pow_left (show 10≤16 by decide) (n+1)) ?_
   rw[show(16:Nat)^(n+1)=2^(4*(n+1)) by rw[Nat.pow_mul]]
   exact Nat.pow_le_pow_right (by decide) (by omega)
  exact(dmulZ b2 b3 (by omega) (by omega) (by omega) (by omega) hX hY).mono fun r w' h=>⟨_,⟨lo,q,rfl,hq,hd⟩,h⟩
 ·rintro W X PL ⟨lo,q,rfl,hq,hd⟩ hX
  have b1:=fl_abs hd (Nat.two_pow_pos q) hsm rfl
  have k1:=dcut (r:=0) b1 (by omega) (by omega) (by omega) hX
  rw[show q+0 - 0=q by omega,hd] at k1
  exact k1
 ·intro W X hX
  have b:dgX k n<2^(4*(n+1)):=by
   refine Nat.lt_of_lt_of_le hsm (Nat.le_trans (Nat.pow_le_pow_left (show 10≤16 by decide) (n+1)) ?_)
   rw[show(16:Nat)^(n+1)=2^(4*(n+1)) by rw[Nat.pow_mul]]
   exact Nat.le_refl _
  exact dDecimal hX b (by omega)
theorem ddig_any (k n:Int):∃ S e,(∀ w,Calls Tryz.prog 13 #[.int .i64 k,.int .i64 n] w fun r w'=>r=.returned (.tuple #[.string S,.int .i64 e])∧Bw w w')∧∀ w,Calls Tryz.prog 14 #[.int .i64 k,.int .i64 n] w fun r w'=>r=.returned (.tuple #[.string S,.int .i64 e])∧Bw w w':=by
 by_cases h:¬ (1≤k∧k≤8)∨n<0∨1000<n
 ·exact⟨_,_,fun w=>dig_bad h,fun w=>ddig_bad k n w h⟩
 ·obtain⟨k',rfl⟩:∃ k':Nat,k=k':=⟨k.toNat,by omega⟩
  obtain⟨n',rfl⟩:∃ n':Nat,n=n':=⟨n.toNat,by omega⟩
  exact⟨_,_,fun w=>dig_ok (by omega) (by omega) (by omega),fun w=>ddig_ok (by omega) (by omega) (by omega)⟩
theorem constsDigits_ok (k n:Int) (w:World):Calls Tryz.prog 4 #[.int .i64 k,.int .i64 n] w fun r w'=>r=.returned (.bool true)∧Bw w w':=by
 obtain⟨S,e,k1,k2⟩:=ddig_any k n
 go_enter Tryz.func4,Tryz.ntmps4
 go_wp2_with fail
 refine(k1 _).mono ?_
 rintro r w1 ⟨rfl,hb1⟩
 go_wp2_with fail
 refine(k2 _).mono ?_
 rintro r w2 ⟨rfl,hb2⟩
 have H2:Hid (Bw w w2):=hb1.trans (hb2.mono hb1.size)
 clear hb1 hb2 k1 k2
 go_wp2_with (go_at_call 12;refine bsure.mono ?_;rintro r w3 ⟨rfl,hb3⟩)
 go_ret
 exact⟨rfl,H2.out.trans (hb3.mono H2.out.size)⟩
end Go.Proofs.YtapooodfgcjoaaaGreat
